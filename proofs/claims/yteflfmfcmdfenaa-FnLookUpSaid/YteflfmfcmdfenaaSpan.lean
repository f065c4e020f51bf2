/-
Contracts of the span functions of chapter 1 (program and model) and of the laws' own helpers for spans, for all spans.
-/
import Derived.Test.YteflfmfcmdfenaaNum
namespace Go.Proofs.Yteflfmfcmdfenaa
open Go.ChangeShapes Go.WideShapes Go.ChangeAt Go.RowKit
theorem Try.cellsSpan : Try.prog.cellsOf 32 = 2 := by kernel_rfl

/-- Is {a, b} a valid span? -/
def spB (a b : Int) : Bool := inB a (-1000000000) 1000000000 && inB b (-1000000000) 1000000000 && decide (a ≤ b)
theorem spB_get {a b : Int} (h : spB a b = true) : inB a (-1000000000) 1000000000 = true ∧ inB b (-1000000000) 1000000000 = true ∧ a ≤ b := by
  simp only [spB, Bool.and_eq_true, decide_eq_true_eq] at h
  exact ⟨h.1.1, h.1.2, h.2⟩
/-- Do two spans overlap? -/
def ovB (a b c d : Int) : Bool := spB a b && spB c d && decide (a ≤ d) && decide (c ≤ b)
/-- The sum of two spans: its early value, its late value, its code. -/
def asC (a b c d : Int) : Int := if spB a b && spB c d then (if spB (a + c) (b + d) then 0 else 2) else 1
def asE (a b c d : Int) : Int := if spB a b && spB c d && spB (a + c) (b + d) then a + c else 0
def asL (a b c d : Int) : Int := if spB a b && spB c d && spB (a + c) (b + d) then b + d else 0

theorem eqSpan_same (a b : Int) (w : World) : Calls Try.prog 30 #[.agg #[.int .i64 a, .int .i64 b], .agg #[.int .i64 a, .int .i64 b]] w fun e w' => e = .returned (.bool true) ∧ Below w.heap.size w w' := by
  go_enter Try.func30, Try.ntmps30
  go_wp2
  go_ret
  exact ⟨rfl, by (repeat (first | (with_reducible exact Below.refl _ _) | (with_reducible assumption) | (with_reducible refine ext_alloc ?_ _) | (with_reducible refine ext_drew ?_) | (with_reducible refine ext_drewN ?_ _) | (with_reducible refine ext_set ?_ (by first | exact Nat.le_refl _ | (simp; done) | (simp; omega) | omega) _) | (with_reducible refine ext_trans ?_ (by assumption))))⟩
end Go.Proofs.Yteflfmfcmdfenaa
