/-
Contracts of TableBounds (program and model), for all tables.
-/
import Derived.Test.YtckccpcigkbfmaaDoorTabL
import Derived.Test.YtckccpcigkbfmaaDoorSpan
namespace Go.Proofs.YtckccpcigkbfmaaDoor
open Go.ChangeShapes Go.WideShapes Go.ChangeAt Go.RowKit
set_option linter.unusedVariables false
def mnK (xs : List Int) : Nat → Int
  | 0 => iv xs 0
  | k + 1 => min (mnK xs k) (iv xs k)
def mxK (xs : List Int) : Nat → Int
  | 0 => iv xs 0
  | k + 1 => max (mxK xs k) (iv xs k)
theorem mnK_one (xs : List Int) : mnK xs 1 = iv xs 0 := by simp [mnK]
theorem mxK_one (xs : List Int) : mxK xs 1 = iv xs 0 := by simp [mxK]
theorem mnK_le (xs : List Int) : ∀ k i, i < k → mnK xs k ≤ iv xs i := by
  intro k
  induction k with
  | zero => intro i h; omega
  | succ k ih =>
    intro i h
    simp only [mnK]
    by_cases e : i = k
    · subst e; omega
    · have := ih i (by omega); omega
theorem mxK_ge (xs : List Int) : ∀ k i, i < k → iv xs i ≤ mxK xs k := by
  intro k
  induction k with
  | zero => intro i h; omega
  | succ k ih =>
    intro i h
    simp only [mxK]
    by_cases e : i = k
    · subst e; omega
    · have := ih i (by omega); omega
def tbE (ss ls vs : List Int) : Int := if tabB ss ls vs then mnK vs vs.length else 0
def tbL (ss ls vs : List Int) : Int := if tabB ss ls vs then mxK vs vs.length else 0
def tbC (ss ls vs : List Int) : Int := if tabB ss ls vs then 0 else 1
theorem tab_pos {ss ls vs : List Int} (h : tabB ss ls vs = true) : 0 < vs.length ∧ vs.length ≤ 16 := by
  obtain ⟨h0, h1, h2, _⟩ := tab_get h
  have ⟨a0, a1, _⟩ := ax_get h0
  have ⟨b0, b1, _⟩ := ax_get h1
  rw [h2]
  exact ⟨Nat.mul_pos a0 b0, Nat.mul_le_mul a1 b1⟩
theorem tb_no {ss ls vs : List Int} (h : tabB ss ls vs = false) : tbE ss ls vs = 0 ∧ tbL ss ls vs = 0 ∧ tbC ss ls vs = 1 := by simp [tbE, tbL, tbC, h]
theorem tb_yes {ss ls vs : List Int} (h : tabB ss ls vs = true) : tbE ss ls vs = mnK vs vs.length ∧ tbL ss ls vs = mxK vs vs.length ∧ tbC ss ls vs = 0 := by simp [tbE, tbL, tbC, h]
end Go.Proofs.YtckccpcigkbfmaaDoor
