/-
Contracts of ConstantTable (program and model), for all arguments.
-/
import Derived.Test.YteflfmfcmdfenaaMark
namespace Go.Proofs.Yteflfmfcmdfenaa
open Go.ChangeShapes Go.WideShapes Go.ChangeAt Go.RowKit
set_option linter.unusedVariables false
/-- A table of the call's own, and a code. -/
def NewT (ss ls vs : List Int) (c : Int) (w : World) (e : Ending) (w' : World) : Prop :=
  ∃ u0 u1 u2 : Value, e = .returned (.tuple #[.agg #[u0, u1, u2], .int .i64 c]) ∧ Tab3 w' w.heap.size u0 u1 u2 ss ls vs ∧ Below w.heap.size w w'
theorem tab_empty (w : World) (B : Nat) : Tab3 w B (.slice none 0 0) (.slice none 0 0) (.slice none 0 0) [] [] [] := by
  have hb : Apart (.slice none 0 0) (.slice none 0 0) := fun g h => by obtain ⟨o, n, c, e, _⟩ := h; cases e
  exact ⟨own_empty _ _ _ _, own_empty _ _ _ _, own_empty _ _ _ _, hb, hb, hb⟩
theorem own_one {w : World} {B g c : Nat} {x : Int} (hc : w.cell? ⟨g, 0, none⟩ = some (.int .i64 x)) (hf : w.frozen? ⟨g, 0, none⟩ = false) (hB : B ≤ g) : OwnS w B (.slice (some ⟨g, 0, none⟩) 1 c) [x] :=
  ⟨by simp, _, c, rfl, fun _ => ⟨g, rfl, hB, cell_lt hc, fun i hi => by obtain rfl : i = 0 := by simp at hi; omega
                                                                        exact ⟨hc, hf⟩⟩⟩
theorem apart_ne {g g' n n' c c' : Nat} (h : g ≠ g') : Apart (.slice (some ⟨g, 0, none⟩) n c) (.slice (some ⟨g', 0, none⟩) n' c') := by
  intro k h1 h2
  obtain ⟨o, m, d, e, _⟩ := h1
  obtain ⟨o', m', d', e', _⟩ := h2
  simp at e e'
  omega
theorem implConst_no (v : Int) (w : World) (h : inB v (-1000000) 1000000 = false) : Calls Try.prog 26 #[.int .i64 v] w (NewT [] [] [] 2 w) := by
  go_enter Try.func26, Try.ntmps26
  go_wp2_with (go_at_call 51; refine (isTableValue_any _ _).mono ?_; rintro e w' ⟨rfl, rfl⟩)
  exact bodyPost_ret (v := .tuple #[.agg #[.slice none 0 0, .slice none 0 0, .slice none 0 0], .int .i64 2]) (by simp [results, Try.results26, go_sem]) rfl ⟨_, _, _, rfl, tab_empty _ _, by (repeat (first | (with_reducible exact Below.refl _ _) | (with_reducible assumption) | (with_reducible refine ext_alloc ?_ _) | (with_reducible refine ext_drew ?_) | (with_reducible refine ext_drewN ?_ _) | (with_reducible refine ext_set ?_ (by first | exact Nat.le_refl _ | (simp; done) | (simp; omega) | omega) _) | (with_reducible refine ext_trans ?_ (by assumption))))⟩
theorem implConst_yes (v : Int) (w : World) (h : inB v (-1000000) 1000000 = true) : Calls Try.prog 26 #[.int .i64 v] w (NewT [0] [0] [v] 0 w) := by
  go_enter Try.func26, Try.ntmps26
  go_wp2_with (go_at_call 51; refine (isTableValue_any _ _).mono ?_; rintro e w' ⟨rfl, rfl⟩)
  refine bodyPost_ret (v := .tuple #[.agg #[.slice (some ⟨w.heap.size + 1, 0, none⟩) 1 1, .slice (some ⟨w.heap.size + 1 + 1, 0, none⟩) 1 1, .slice (some ⟨w.heap.size + 1 + 1 + 1, 0, none⟩) 1 1], .int .i64 0]) (by simp [results, Try.results26, go_sem]) rfl ⟨_, _, _, rfl, ⟨own_one ?_ ?_ ?_, own_one ?_ ?_ ?_, own_one ?_ ?_ ?_, apart_ne (by omega), apart_ne (by omega), apart_ne (by omega)⟩, by (repeat (first | (with_reducible exact Below.refl _ _) | (with_reducible assumption) | (with_reducible refine ext_alloc ?_ _) | (with_reducible refine ext_drew ?_) | (with_reducible refine ext_drewN ?_ _) | (with_reducible refine ext_set ?_ (by first | exact Nat.le_refl _ | (simp; done) | (simp; omega) | omega) _) | (with_reducible refine ext_trans ?_ (by assumption))))⟩
  all_goals first | omega | (simp [go_sem]; done) | (simp [go_sem]; omega)
def NewU (ss ls vs : List Int) (w : World) (e : Ending) (w' : World) : Prop :=
  ∃ u0 u1 u2 : Value, e = .returned (.agg #[u0, u1, u2]) ∧ Tab3 w' w.heap.size u0 u1 u2 ss ls vs ∧ Below w.heap.size w w'
theorem specConstant_any (v : Int) (w : World) : Calls Try.prog 53 #[.int .i64 v] w (NewU [0] [0] [v] w) := by
  go_enter Try.func53, Try.ntmps53
  go_wp2_with fail
  refine bodyPost_ret (v := .agg #[.slice (some ⟨w.heap.size + 1, 0, none⟩) 1 1, .slice (some ⟨w.heap.size + 1 + 1, 0, none⟩) 1 1, .slice (some ⟨w.heap.size + 1 + 1 + 1, 0, none⟩) 1 1]) (by simp [results, Try.results53, go_sem]) rfl ⟨_, _, _, rfl, ⟨own_one ?_ ?_ ?_, own_one ?_ ?_ ?_, own_one ?_ ?_ ?_, apart_ne (by omega), apart_ne (by omega), apart_ne (by omega)⟩, by (repeat (first | (with_reducible exact Below.refl _ _) | (with_reducible assumption) | (with_reducible refine ext_alloc ?_ _) | (with_reducible refine ext_drew ?_) | (with_reducible refine ext_drewN ?_ _) | (with_reducible refine ext_set ?_ (by first | exact Nat.le_refl _ | (simp; done) | (simp; omega) | omega) _) | (with_reducible refine ext_trans ?_ (by assumption))))⟩
  all_goals first | omega | (simp [go_sem]; done) | (simp [go_sem]; omega)
theorem specConst_no (v : Int) (w : World) (h : inB v (-1000000) 1000000 = false) : Calls Try.prog 25 #[.int .i64 v] w (NewT [] [] [] 2 w) := by
  go_enter Try.func25, Try.ntmps25
  go_wp2_with (go_at_call 47; refine (l01In_any _ _ _ _).mono ?_; rintro e w' ⟨rfl, rfl⟩)
  exact bodyPost_ret (v := .tuple #[.agg #[.slice none 0 0, .slice none 0 0, .slice none 0 0], .int .i64 2]) (by simp [results, Try.results25, go_sem]) rfl ⟨_, _, _, rfl, tab_empty _ _, by (repeat (first | (with_reducible exact Below.refl _ _) | (with_reducible assumption) | (with_reducible refine ext_alloc ?_ _) | (with_reducible refine ext_drew ?_) | (with_reducible refine ext_drewN ?_ _) | (with_reducible refine ext_set ?_ (by first | exact Nat.le_refl _ | (simp; done) | (simp; omega) | omega) _) | (with_reducible refine ext_trans ?_ (by assumption))))⟩
theorem specConst_yes (v : Int) (w : World) (h : inB v (-1000000) 1000000 = true) : Calls Try.prog 25 #[.int .i64 v] w (NewT [0] [0] [v] 0 w) := by
  go_enter Try.func25, Try.ntmps25
  go_wp2_with (go_at_call 47; refine (l01In_any _ _ _ _).mono ?_; rintro e w' ⟨rfl, rfl⟩)
  (go_at_call 53; refine (specConstant_any _ _).mono ?_; rintro e w1 ⟨u0, u1, u2, rfl, hu, hb⟩; obtain ⟨hc, hf⟩ := bcell hb; have hz := hb.size; (try simp at hz); (try (have hz := Nat.lt_of_succ_le hz)); (try (have y0 : w.heap.size ≤ w1.heap.size := by omega)); (try (have z0 : w.heap.size < w1.heap.size := by omega)); (try (have z1 : w.heap.size + 1 < w1.heap.size := by omega)); (try (have z2 : w.heap.size + 1 + 1 < w1.heap.size := by omega)); (try (have z3 : w.heap.size + 1 + 1 + 1 < w1.heap.size := by omega)); (try (have z4 : w.heap.size + 1 + 1 + 1 + 1 < w1.heap.size := by omega)))
  have U := Lib.hid hu
  obtain ⟨⟨_, b0, d0, rfl, _⟩, ⟨_, b1, d1, rfl, _⟩, ⟨_, b2, d2, rfl, _⟩, _⟩ := hu
  go_wp2_with fail
  have q0 := U.out.1.mono (C := w.heap.size + 1) (by simp)
  have q1 := U.out.2.1.mono (C := w.heap.size + 1) (by simp)
  have q2 := U.out.2.2.1.mono (C := w.heap.size + 1) (by simp)
  refine bodyPost_ret (v := .tuple #[.agg #[.slice b0 [(0 : Int)].length d0, .slice b1 [(0 : Int)].length d1, .slice b2 [v].length d2], .int .i64 0]) (by simp [results, Try.results25, go_sem, *]) rfl
    ⟨_, _, _, rfl, ⟨OwnS.mono (B := w.heap.size + 1) (by (repeat (first | (with_reducible assumption) | (with_reducible refine OwnS.alloc ?_ _) | (with_reducible refine OwnS.drew ?_) | (with_reducible refine OwnS.drewN ?_ _) | (with_reducible refine OwnS.set ?_ (by first | omega | (simp; omega) | simp) _) | (with_reducible refine OwnS.keep ?_ (by assumption))))) (by omega), OwnS.mono (B := w.heap.size + 1) (by (repeat (first | (with_reducible assumption) | (with_reducible refine OwnS.alloc ?_ _) | (with_reducible refine OwnS.drew ?_) | (with_reducible refine OwnS.drewN ?_ _) | (with_reducible refine OwnS.set ?_ (by first | omega | (simp; omega) | simp) _) | (with_reducible refine OwnS.keep ?_ (by assumption))))) (by omega), OwnS.mono (B := w.heap.size + 1) (by (repeat (first | (with_reducible assumption) | (with_reducible refine OwnS.alloc ?_ _) | (with_reducible refine OwnS.drew ?_) | (with_reducible refine OwnS.drewN ?_ _) | (with_reducible refine OwnS.set ?_ (by first | omega | (simp; omega) | simp) _) | (with_reducible refine OwnS.keep ?_ (by assumption))))) (by omega), U.out.2.2.2⟩, by (repeat (first | (with_reducible exact Below.refl _ _) | (with_reducible assumption) | (with_reducible refine ext_alloc ?_ _) | (with_reducible refine ext_drew ?_) | (with_reducible refine ext_drewN ?_ _) | (with_reducible refine ext_set ?_ (by first | exact Nat.le_refl _ | (simp; done) | (simp; omega) | omega) _) | (with_reducible refine ext_trans ?_ (by assumption))))⟩
end Go.Proofs.Yteflfmfcmdfenaa
