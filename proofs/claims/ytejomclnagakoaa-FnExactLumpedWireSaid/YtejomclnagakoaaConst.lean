/-
Contracts of ConstantTable (program and model), for all arguments.
-/
import Derived.Test.YtejomclnagakoaaMark
namespace Go.Proofs.Ytejomclnagakoaa
open Go.ChangeShapes Go.WideShapes Go.ChangeAt Go.RowKit
set_option linter.unusedVariables false
/-- A table of the call's own, and a code. -/
def NewT (ss ls vs : List Int) (c : Int) (w : World) (e : Ending) (w' : World) : Prop :=
  ∃ u0 u1 u2 : Value, e = .returned (.tuple #[.agg #[u0, u1, u2], .int .i64 c]) ∧ Tab3 w' w.heap.size u0 u1 u2 ss ls vs ∧ Below w.heap.size w w'
theorem tab_empty (w : World) (B : Nat) : Tab3 w B (.slice none 0 0) (.slice none 0 0) (.slice none 0 0) [] [] [] := by
  have hb : Apart (.slice none 0 0) (.slice none 0 0) := fun g h => by obtain ⟨o, n, c, e, _⟩ := h; cases e
  exact ⟨own_empty _ _ _ _, own_empty _ _ _ _, own_empty _ _ _ _, hb, hb, hb⟩
theorem own_one {w : World} {B g c : Nat} {x : Int} (hc : w.cell? ⟨g, 0, none⟩ = some (.int .i64 x)) (hf : w.frozen? ⟨g, 0, none⟩ = false) (hB : B ≤ g) : OwnS w B (.slice (some ⟨g, 0, none⟩) 1 c) [x] :=
  ⟨by simp, _, c, rfl, fun _ => ⟨g, rfl, hB, cell_lt hc, fun i hi => by obtain rfl : i = 0 := by simp at hi; omega
                                                                        exact ⟨hc, hf⟩⟩⟩
theorem apart_ne {g g' n n' c c' : Nat} (h : g ≠ g') : Apart (.slice (some ⟨g, 0, none⟩) n c) (.slice (some ⟨g', 0, none⟩) n' c') := by
  intro k h1 h2
  obtain ⟨o, m, d, e, _⟩ := h1
  obtain ⟨o', m', d', e', _⟩ := h2
  simp at e e'
  omega
end Go.Proofs.Ytejomclnagakoaa
