/-
The model's texts of pins, arcs and cells, for all valid ones.
-/
import Derived.Test.YtmoolajapgacmaaGreatDoorLT
import Derived.Test.YtmoolajapgacmaaGreatDoorCellS
import Derived.Test.YtmoolajapgacmaaGreatDoorValue
namespace Go.Proofs.YtmoolajapgacmaaGreatDoor
open Go.ChangeShapes Go.WideShapes Go.ChangeAt Go.RowKit
set_option linter.unusedVariables false
set_option linter.unusedSimpArgs false
set_option maxRecDepth 100000
theorem keep7 {w w0 w1 : World} {L g0 g1 g2 g3 g4 g5 g6 o0 o1 o2 o3 o4 o5 o6 : Nat} {v0 v1 v2 v3 v4 v5 v6 : Value} (h : w0.cell? ⟨g0, o0, none⟩ = some v0 ∧ w0.cell? ⟨g1, o1, none⟩ = some v1 ∧ w0.cell? ⟨g2, o2, none⟩ = some v2 ∧ w0.cell? ⟨g3, o3, none⟩ = some v3 ∧ w0.cell? ⟨g4, o4, none⟩ = some v4 ∧ w0.cell? ⟨g5, o5, none⟩ = some v5 ∧ w0.cell? ⟨g6, o6, none⟩ = some v6 ∧ Below w.heap.size w w0 ∧ L < w0.heap.size) (hb : Below w0.heap.size w0 w1) : w1.cell? ⟨g0, o0, none⟩ = some v0 ∧ w1.cell? ⟨g1, o1, none⟩ = some v1 ∧ w1.cell? ⟨g2, o2, none⟩ = some v2 ∧ w1.cell? ⟨g3, o3, none⟩ = some v3 ∧ w1.cell? ⟨g4, o4, none⟩ = some v4 ∧ w1.cell? ⟨g5, o5, none⟩ = some v5 ∧ w1.cell? ⟨g6, o6, none⟩ = some v6 ∧ Below w.heap.size w w1 ∧ L < w1.heap.size := by
  obtain ⟨h0, h1, h2, h3, h4, h5, h6, hw, hL⟩ := h
  exact ⟨cell_keep h0 hb, cell_keep h1 hb, cell_keep h2 hb, cell_keep h3 hb, cell_keep h4 hb, cell_keep h5 hb, cell_keep h6 hb, ext_trans hw hb, Nat.lt_of_lt_of_le hL hb.size⟩
theorem keep7s {w w0 : World} {L g0 g1 g2 g3 g4 g5 g6 o0 o1 o2 o3 o4 o5 o6 : Nat} {v0 v1 v2 v3 v4 v5 v6 : Value} {p : Addr} {u : Value} (h : w0.cell? ⟨g0, o0, none⟩ = some v0 ∧ w0.cell? ⟨g1, o1, none⟩ = some v1 ∧ w0.cell? ⟨g2, o2, none⟩ = some v2 ∧ w0.cell? ⟨g3, o3, none⟩ = some v3 ∧ w0.cell? ⟨g4, o4, none⟩ = some v4 ∧ w0.cell? ⟨g5, o5, none⟩ = some v5 ∧ w0.cell? ⟨g6, o6, none⟩ = some v6 ∧ Below w.heap.size w w0 ∧ L < w0.heap.size) (hw : w.heap.size ≤ L + 1) (hp : L < p.block) (q0 : g0 ≤ L) (q1 : g1 ≤ L) (q2 : g2 ≤ L) (q3 : g3 ≤ L) (q4 : g4 ≤ L) (q5 : g5 ≤ L) (q6 : g6 ≤ L) : (w0.setCell p u).cell? ⟨g0, o0, none⟩ = some v0 ∧ (w0.setCell p u).cell? ⟨g1, o1, none⟩ = some v1 ∧ (w0.setCell p u).cell? ⟨g2, o2, none⟩ = some v2 ∧ (w0.setCell p u).cell? ⟨g3, o3, none⟩ = some v3 ∧ (w0.setCell p u).cell? ⟨g4, o4, none⟩ = some v4 ∧ (w0.setCell p u).cell? ⟨g5, o5, none⟩ = some v5 ∧ (w0.setCell p u).cell? ⟨g6, o6, none⟩ = some v6 ∧ Below w.heap.size w (w0.setCell p u) ∧ L < (w0.setCell p u).heap.size := by
  obtain ⟨h0, h1, h2, h3, h4, h5, h6, hb, hL⟩ := h
  exact ⟨cell_keep_set h0 (by omega), cell_keep_set h1 (by omega), cell_keep_set h2 (by omega), cell_keep_set h3 (by omega), cell_keep_set h4 (by omega), cell_keep_set h5 (by omega), cell_keep_set h6 (by omega), hb.setCell (by omega) u, by simpa [World.setCell] using hL⟩

/-- l as a string. -/
def bstr (l : List UInt8) : ByteArray := ⟨l.toArray⟩
theorem bstr_list (l : List UInt8) : (bstr l).data.toList = l := by simp [bstr]
theorem bstr_size (l : List UInt8) : (bstr l).size = l.length := by simp [bstr, ByteArray.size]
theorem ba_app' (a b : ByteArray) : (a ++ b).data.toList = a.data.toList ++ b.data.toList := by simp
/-- What a text answers: the string of l. -/
def Says (l : List UInt8) (w : World) (e : Ending) (w' : World) : Prop := ∃ J : ByteArray, e = .returned (.string J) ∧ J.data.toList = l ∧ J.size = l.length ∧ Below w.heap.size w w'
theorem says {w w' : World} {J : ByteArray} {l : List UInt8} (h : J.data.toList = l) (hb : Below w.heap.size w w') : Says l w (.returned (.string J)) w' := ⟨J, rfl, h, by rw [← h, sz_list], hb⟩
set_option maxHeartbeats 1000000 in
theorem specPinT_any (f : Nat → Value) (p : PinD) (w : World) (hf : PinF f p) (hv : PinV p) : Calls Tryz.prog 107 #[.agg #[f 0, f 1, f 2, f 3]] w (Says (pinL p) w) := by
  obtain ⟨e0, e1, e2, e3, _⟩ := hf
  rw [e0, e1, e2, e3]
  obtain ⟨n8, c0, c5⟩ := hv
  have hi := itoa_le p.cap (by omega) (by omega)
  clear e0 e1 e2 e3
  by_cases d : p.dir = 2
  · have hd : (p.dir == 2) = true := by simpa using d
    have HP := Lib.hid (show pinL p = [112, 105, 110, 32] ++ p.name.data.toList ++ [32, 111, 117, 116] by simp [pinL, d])
    have su1a : 4 + p.name.size ≤ 9223372036854775807 := by omega
    have su1b : ¬ 9223372036854775807 < 4 + p.name.size := by omega
    have su1c : ¬ (9223372036854775807 : Int) < 4 + ((p.name.size : Nat) : Int) := by omega
    have su2a : 4 + p.name.size + 4 ≤ 9223372036854775807 := by omega
    have su2b : ¬ 9223372036854775807 < 4 + p.name.size + 4 := by omega
    have su2c : ¬ (9223372036854775807 : Int) < 4 + ((p.name.size : Nat) : Int) + 4 := by omega
    clear d
    go_enter Tryz.func107, Tryz.ntmps107
    go_wp2_with fail
    go_ret
    exact says (by rw [HP.out]; simp) (by (repeat (first | (with_reducible exact Below.refl _ _) | (with_reducible assumption) | (with_reducible refine ext_alloc ?_ _) | (with_reducible refine ext_drew ?_) | (with_reducible refine ext_drewN ?_ _) | (with_reducible refine ext_set ?_ (by first | exact Nat.le_refl _ | (simp; done) | (simp; omega) | omega) _) | (with_reducible refine ext_trans ?_ (by assumption)))))
  · have hd : (p.dir == 2) = false := by simpa using d
    cases hc : p.clock
    · have HP := Lib.hid (show pinL p = [112, 105, 110, 32] ++ p.name.data.toList ++ [32, 105, 110, 32] ++ Lib.itoa p.cap by simp [pinL, d, hc])
      have su3a : 4 + p.name.size ≤ 9223372036854775807 := by omega
      have su3b : ¬ 9223372036854775807 < 4 + p.name.size := by omega
      have su3c : ¬ (9223372036854775807 : Int) < 4 + ((p.name.size : Nat) : Int) := by omega
      have su4a : 4 + p.name.size + 4 ≤ 9223372036854775807 := by omega
      have su4b : ¬ 9223372036854775807 < 4 + p.name.size + 4 := by omega
      have su4c : ¬ (9223372036854775807 : Int) < 4 + ((p.name.size : Nat) : Int) + 4 := by omega
      have su5a : 4 + p.name.size + 4 + (Lib.itoa p.cap).length ≤ 9223372036854775807 := by omega
      have su5b : ¬ 9223372036854775807 < 4 + p.name.size + 4 + (Lib.itoa p.cap).length := by omega
      have su5c : ¬ (9223372036854775807 : Int) < 4 + ((p.name.size : Nat) : Int) + 4 + (((Lib.itoa p.cap).length : Nat) : Int) := by omega
      clear d hc
      go_enter Tryz.func107, Tryz.ntmps107
      go_upto_region 5 with fail
      go_region_held3 (fun w' => w'.cell? ⟨w.heap.size, 0, none⟩ = some (.string p.name) ∧ w'.cell? ⟨w.heap.size, 2, none⟩ = some (.int .i64 p.cap) ∧ Below w.heap.size w w' ∧ w.heap.size < w'.heap.size) (first | exact (Hid.out (by assumption)) | exact keep2 (Hid.out (by assumption)) ((Below.refl _ _).alloc (Nat.le_refl _) _) | exact keep2s (keep2s (Hid.out (by assumption)) (by first | assumption | (simp; done) | (simp; omega) | omega) (by first | assumption | (simp; done) | (simp; omega) | omega) (by first | assumption | (simp; done) | (simp; omega) | omega) (by first | assumption | (simp; done) | (simp; omega) | omega)) (by first | assumption | (simp; done) | (simp; omega) | omega) (by first | assumption | (simp; done) | (simp; omega) | omega) (by first | assumption | (simp; done) | (simp; omega) | omega) (by first | assumption | (simp; done) | (simp; omega) | omega) | exact keep2s (Hid.out (by assumption)) (by first | assumption | (simp; done) | (simp; omega) | omega) (by first | assumption | (simp; done) | (simp; omega) | omega) (by first | assumption | (simp; done) | (simp; omega) | omega) (by first | assumption | (simp; done) | (simp; omega) | omega) | ((repeat' apply And.intro) <;> first | assumption | ((repeat (first | (with_reducible exact Below.refl _ _) | (with_reducible assumption) | (with_reducible refine ext_alloc ?_ _) | (with_reducible refine ext_drew ?_) | (with_reducible refine ext_drewN ?_ _) | (with_reducible refine ext_set ?_ (by first | exact Nat.le_refl _ | (simp; done) | (simp; omega) | omega) _) | (with_reducible refine ext_trans ?_ (by assumption)))); done) | (simp [go_sem]; done) | (simp [go_sem, *]; done) | (simp; omega) | omega)) (first | ((go_at_call 106; refine (number_itoa _ _ (by omega) (by omega)).mono ?_; rintro e w1 ⟨rfl, hb⟩; obtain ⟨hc, hf⟩ := bcell hb; have hz := hb.size; (try simp at hz); (try (have hz := Nat.lt_of_succ_le hz)); (try (have y0 : w.heap.size ≤ w1.heap.size := by omega)); (try (have z0 : w.heap.size < w1.heap.size := by omega)); (try (have z1 : w.heap.size + 1 < w1.heap.size := by omega)); (try (have z2 : w.heap.size + 1 + 1 < w1.heap.size := by omega)); (try (have z3 : w.heap.size + 1 + 1 + 1 < w1.heap.size := by omega)); (try (have z4 : w.heap.size + 1 + 1 + 1 + 1 < w1.heap.size := by omega)); (try (have x0 : wc.heap.size < w1.heap.size := by omega)); (try (have x1 : wc.heap.size ≤ w1.heap.size := by omega))); have hS := Lib.hid (keep2 (by assumption) hb); have zL := (Hid.out hS).2.2.2))
      all_goals (go_wp2_with fail; go_ret; exact says (by rw [HP.out]; simp) (by (repeat (first | (with_reducible exact Below.refl _ _) | (with_reducible assumption) | (with_reducible refine ext_alloc ?_ _) | (with_reducible refine ext_drew ?_) | (with_reducible refine ext_drewN ?_ _) | (with_reducible refine ext_set ?_ (by first | exact Nat.le_refl _ | (simp; done) | (simp; omega) | omega) _) | (with_reducible refine ext_trans ?_ (by assumption))))))
    · have HP := Lib.hid (show pinL p = [112, 105, 110, 32] ++ p.name.data.toList ++ [32, 99, 108, 111, 99, 107, 32] ++ Lib.itoa p.cap by simp [pinL, d, hc])
      have su6a : 4 + p.name.size ≤ 9223372036854775807 := by omega
      have su6b : ¬ 9223372036854775807 < 4 + p.name.size := by omega
      have su6c : ¬ (9223372036854775807 : Int) < 4 + ((p.name.size : Nat) : Int) := by omega
      have su7a : 4 + p.name.size + 7 ≤ 9223372036854775807 := by omega
      have su7b : ¬ 9223372036854775807 < 4 + p.name.size + 7 := by omega
      have su7c : ¬ (9223372036854775807 : Int) < 4 + ((p.name.size : Nat) : Int) + 7 := by omega
      have su8a : 4 + p.name.size + 7 + (Lib.itoa p.cap).length ≤ 9223372036854775807 := by omega
      have su8b : ¬ 9223372036854775807 < 4 + p.name.size + 7 + (Lib.itoa p.cap).length := by omega
      have su8c : ¬ (9223372036854775807 : Int) < 4 + ((p.name.size : Nat) : Int) + 7 + (((Lib.itoa p.cap).length : Nat) : Int) := by omega
      clear d hc
      go_enter Tryz.func107, Tryz.ntmps107
      go_upto_region 4 with fail
      go_region_held3 (fun w' => w'.cell? ⟨w.heap.size, 0, none⟩ = some (.string p.name) ∧ w'.cell? ⟨w.heap.size, 2, none⟩ = some (.int .i64 p.cap) ∧ Below w.heap.size w w' ∧ w.heap.size < w'.heap.size) (first | exact (Hid.out (by assumption)) | exact keep2 (Hid.out (by assumption)) ((Below.refl _ _).alloc (Nat.le_refl _) _) | exact keep2s (keep2s (Hid.out (by assumption)) (by first | assumption | (simp; done) | (simp; omega) | omega) (by first | assumption | (simp; done) | (simp; omega) | omega) (by first | assumption | (simp; done) | (simp; omega) | omega) (by first | assumption | (simp; done) | (simp; omega) | omega)) (by first | assumption | (simp; done) | (simp; omega) | omega) (by first | assumption | (simp; done) | (simp; omega) | omega) (by first | assumption | (simp; done) | (simp; omega) | omega) (by first | assumption | (simp; done) | (simp; omega) | omega) | exact keep2s (Hid.out (by assumption)) (by first | assumption | (simp; done) | (simp; omega) | omega) (by first | assumption | (simp; done) | (simp; omega) | omega) (by first | assumption | (simp; done) | (simp; omega) | omega) (by first | assumption | (simp; done) | (simp; omega) | omega) | ((repeat' apply And.intro) <;> first | assumption | ((repeat (first | (with_reducible exact Below.refl _ _) | (with_reducible assumption) | (with_reducible refine ext_alloc ?_ _) | (with_reducible refine ext_drew ?_) | (with_reducible refine ext_drewN ?_ _) | (with_reducible refine ext_set ?_ (by first | exact Nat.le_refl _ | (simp; done) | (simp; omega) | omega) _) | (with_reducible refine ext_trans ?_ (by assumption)))); done) | (simp [go_sem]; done) | (simp [go_sem, *]; done) | (simp; omega) | omega)) (first | ((go_at_call 106; refine (number_itoa _ _ (by omega) (by omega)).mono ?_; rintro e w1 ⟨rfl, hb⟩; obtain ⟨hc, hf⟩ := bcell hb; have hz := hb.size; (try simp at hz); (try (have hz := Nat.lt_of_succ_le hz)); (try (have y0 : w.heap.size ≤ w1.heap.size := by omega)); (try (have z0 : w.heap.size < w1.heap.size := by omega)); (try (have z1 : w.heap.size + 1 < w1.heap.size := by omega)); (try (have z2 : w.heap.size + 1 + 1 < w1.heap.size := by omega)); (try (have z3 : w.heap.size + 1 + 1 + 1 < w1.heap.size := by omega)); (try (have z4 : w.heap.size + 1 + 1 + 1 + 1 < w1.heap.size := by omega)); (try (have x0 : wc.heap.size < w1.heap.size := by omega)); (try (have x1 : wc.heap.size ≤ w1.heap.size := by omega))); have hS := Lib.hid (keep2 (by assumption) hb); have zL := (Hid.out hS).2.2.2))
      all_goals (go_wp2_with fail; go_ret; exact says (by rw [HP.out]; simp) (by (repeat (first | (with_reducible exact Below.refl _ _) | (with_reducible assumption) | (with_reducible refine ext_alloc ?_ _) | (with_reducible refine ext_drew ?_) | (with_reducible refine ext_drewN ?_ _) | (with_reducible refine ext_set ?_ (by first | exact Nat.le_refl _ | (simp; done) | (simp; omega) | omega) _) | (with_reducible refine ext_trans ?_ (by assumption))))))
theorem specKnds_at (k : Nat) (h : k < 3) (w : World) : Calls Tryz.prog 105 #[] w fun e w' => e = .returned (.slice (some ⟨w.heap.size, 0, none⟩) 3 3) ∧ w'.cell? ⟨w.heap.size, k, none⟩ = some (.string (bstr (kndW ((k : Int) + 1)))) ∧ Below w.heap.size w w' := by
  go_enter Tryz.func105, Tryz.ntmps105
  go_wp2
  go_ret
  refine ⟨rfl, ?_, by (repeat (first | (with_reducible exact Below.refl _ _) | (with_reducible assumption) | (with_reducible refine ext_alloc ?_ _) | (with_reducible refine ext_drew ?_) | (with_reducible refine ext_drewN ?_ _) | (with_reducible refine ext_set ?_ (by first | exact Nat.le_refl _ | (simp; done) | (simp; omega) | omega) _) | (with_reducible refine ext_trans ?_ (by assumption))))⟩
  obtain rfl | rfl | rfl : k = 0 ∨ k = 1 ∨ k = 2 := by omega
  all_goals simp [go_sem, kndW, bstr]
theorem specArcW_at (k : Nat) (h : k < 5) (w : World) : Calls Tryz.prog 131 #[] w fun e w' => e = .returned (.slice (some ⟨w.heap.size, 0, none⟩) 5 5) ∧ w'.cell? ⟨w.heap.size, k, none⟩ = some (.string (bstr (arcW ((k : Int) + 1)))) ∧ Below w.heap.size w w' := by
  go_enter Tryz.func131, Tryz.ntmps131
  go_wp2
  go_ret
  refine ⟨rfl, ?_, by (repeat (first | (with_reducible exact Below.refl _ _) | (with_reducible assumption) | (with_reducible refine ext_alloc ?_ _) | (with_reducible refine ext_drew ?_) | (with_reducible refine ext_drewN ?_ _) | (with_reducible refine ext_set ?_ (by first | exact Nat.le_refl _ | (simp; done) | (simp; omega) | omega) _) | (with_reducible refine ext_trans ?_ (by assumption))))⟩
  obtain rfl | rfl | rfl | rfl | rfl : k = 0 ∨ k = 1 ∨ k = 2 ∨ k = 3 ∨ k = 4 := by omega
  all_goals simp [go_sem, arcW, bstr]
theorem specSnsW_at (k : Nat) (h : k < 3) (w : World) : Calls Tryz.prog 132 #[] w fun e w' => e = .returned (.slice (some ⟨w.heap.size, 0, none⟩) 3 3) ∧ w'.cell? ⟨w.heap.size, k, none⟩ = some (.string (bstr (snsW ((k : Int) + 1)))) ∧ Below w.heap.size w w' := by
  go_enter Tryz.func132, Tryz.ntmps132
  go_wp2
  go_ret
  refine ⟨rfl, ?_, by (repeat (first | (with_reducible exact Below.refl _ _) | (with_reducible assumption) | (with_reducible refine ext_alloc ?_ _) | (with_reducible refine ext_drew ?_) | (with_reducible refine ext_drewN ?_ _) | (with_reducible refine ext_set ?_ (by first | exact Nat.le_refl _ | (simp; done) | (simp; omega) | omega) _) | (with_reducible refine ext_trans ?_ (by assumption))))⟩
  obtain rfl | rfl | rfl : k = 0 ∨ k = 1 ∨ k = 2 := by omega
  all_goals simp [go_sem, snsW, bstr]
end Go.Proofs.YtmoolajapgacmaaGreatDoor
