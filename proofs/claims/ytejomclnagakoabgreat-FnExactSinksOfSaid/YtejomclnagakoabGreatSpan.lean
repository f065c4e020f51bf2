/-
Contracts of the span functions of chapter 1 (program and model) and of the laws' own helpers for spans, for all spans.
-/
import Derived.Test.YtejomclnagakoabGreatNum
namespace Go.Proofs.YtejomclnagakoabGreat
open Go.ChangeShapes Go.WideShapes Go.ChangeAt Go.RowKit

/-- Is {a, b} a valid span? -/
def spB (a b : Int) : Bool := inB a (-1000000000) 1000000000 && inB b (-1000000000) 1000000000 && decide (a ≤ b)
theorem spB_get {a b : Int} (h : spB a b = true) : inB a (-1000000000) 1000000000 = true ∧ inB b (-1000000000) 1000000000 = true ∧ a ≤ b := by
  simp only [spB, Bool.and_eq_true, decide_eq_true_eq] at h
  exact ⟨h.1.1, h.1.2, h.2⟩
/-- Do two spans overlap? -/
def ovB (a b c d : Int) : Bool := spB a b && spB c d && decide (a ≤ d) && decide (c ≤ b)
/-- The sum of two spans: its early value, its late value, its code. -/
def asC (a b c d : Int) : Int := if spB a b && spB c d then (if spB (a + c) (b + d) then 0 else 2) else 1
def asE (a b c d : Int) : Int := if spB a b && spB c d && spB (a + c) (b + d) then a + c else 0
def asL (a b c d : Int) : Int := if spB a b && spB c d && spB (a + c) (b + d) then b + d else 0

end Go.Proofs.YtejomclnagakoabGreat
