/-
The program's texts of pins, truth tables and heads of cells, for all valid ones.
-/
import Derived.Test.YtmoolajapgacmaaGreatDoorLTS
import Derived.Test.YtmoolajapgacmaaGreatDoorSplit
namespace Go.Proofs.YtmoolajapgacmaaGreatDoor
open Go.ChangeShapes Go.WideShapes Go.ChangeAt Go.RowKit
set_option linter.unusedVariables false
set_option linter.unusedSimpArgs false
set_option maxRecDepth 100000
theorem implKnds_at (k : Nat) (h0 : 0 < k) (h : k < 4) (w : World) : Calls Tryz.prog 111 #[] w fun e w' => e = .returned (.slice (some ⟨w.heap.size, 0, none⟩) 4 4) ∧ w'.cell? ⟨w.heap.size, k, none⟩ = some (.string (bstr (kndW (k : Int)))) ∧ Below w.heap.size w w' := by
  go_enter Tryz.func111, Tryz.ntmps111
  go_wp2
  go_ret
  refine ⟨rfl, ?_, by (repeat (first | (with_reducible exact Below.refl _ _) | (with_reducible assumption) | (with_reducible refine ext_alloc ?_ _) | (with_reducible refine ext_drew ?_) | (with_reducible refine ext_drewN ?_ _) | (with_reducible refine ext_set ?_ (by first | exact Nat.le_refl _ | (simp; done) | (simp; omega) | omega) _) | (with_reducible refine ext_trans ?_ (by assumption))))⟩
  obtain rfl | rfl | rfl : k = 1 ∨ k = 2 ∨ k = 3 := by omega
  all_goals simp [go_sem, kndW, bstr]
theorem implArcW_at (k : Nat) (h0 : 0 < k) (h : k < 6) (w : World) : Calls Tryz.prog 112 #[] w fun e w' => e = .returned (.slice (some ⟨w.heap.size, 0, none⟩) 6 6) ∧ w'.cell? ⟨w.heap.size, k, none⟩ = some (.string (bstr (arcW (k : Int)))) ∧ Below w.heap.size w w' := by
  go_enter Tryz.func112, Tryz.ntmps112
  go_wp2
  go_ret
  refine ⟨rfl, ?_, by (repeat (first | (with_reducible exact Below.refl _ _) | (with_reducible assumption) | (with_reducible refine ext_alloc ?_ _) | (with_reducible refine ext_drew ?_) | (with_reducible refine ext_drewN ?_ _) | (with_reducible refine ext_set ?_ (by first | exact Nat.le_refl _ | (simp; done) | (simp; omega) | omega) _) | (with_reducible refine ext_trans ?_ (by assumption))))⟩
  obtain rfl | rfl | rfl | rfl | rfl : k = 1 ∨ k = 2 ∨ k = 3 ∨ k = 4 ∨ k = 5 := by omega
  all_goals simp [go_sem, arcW, bstr]
theorem implSnsW_at (k : Nat) (h0 : 0 < k) (h : k < 4) (w : World) : Calls Tryz.prog 113 #[] w fun e w' => e = .returned (.slice (some ⟨w.heap.size, 0, none⟩) 4 4) ∧ w'.cell? ⟨w.heap.size, k, none⟩ = some (.string (bstr (snsW (k : Int)))) ∧ Below w.heap.size w w' := by
  go_enter Tryz.func113, Tryz.ntmps113
  go_wp2
  go_ret
  refine ⟨rfl, ?_, by (repeat (first | (with_reducible exact Below.refl _ _) | (with_reducible assumption) | (with_reducible refine ext_alloc ?_ _) | (with_reducible refine ext_drew ?_) | (with_reducible refine ext_drewN ?_ _) | (with_reducible refine ext_set ?_ (by first | exact Nat.le_refl _ | (simp; done) | (simp; omega) | omega) _) | (with_reducible refine ext_trans ?_ (by assumption))))⟩
  obtain rfl | rfl | rfl : k = 1 ∨ k = 2 ∨ k = 3 := by omega
  all_goals simp [go_sem, snsW, bstr]
set_option maxHeartbeats 1000000 in
theorem implPinT_any (f : Nat → Value) (p : PinD) (w : World) (hf : PinF f p) (hv : PinV p) (ht : Tab w) : Calls Tryz.prog 63 #[.agg #[f 0, f 1, f 2, f 3]] w (Says (pinL p) w) := by
  obtain ⟨e0, e1, e2, e3, _⟩ := hf
  rw [e0, e1, e2, e3]
  obtain ⟨n8, c0, c5⟩ := hv
  have hi := itoa_le p.cap (by omega) (by omega)
  have HT := Lib.hid ht
  clear e0 e1 e2 e3 ht
  by_cases d : p.dir = 2
  · have hd : (p.dir == 2) = true := by simpa using d
    have HP := Lib.hid (show pinL p = [112, 105, 110, 32] ++ p.name.data.toList ++ [32, 111, 117, 116] by simp [pinL, d])
    have su1a : 4 + p.name.size ≤ 9223372036854775807 := by omega
    have su1b : ¬ 9223372036854775807 < 4 + p.name.size := by omega
    have su1c : ¬ (9223372036854775807 : Int) < 4 + ((p.name.size : Nat) : Int) := by omega
    have su2a : 4 + p.name.size + 4 ≤ 9223372036854775807 := by omega
    have su2b : ¬ 9223372036854775807 < 4 + p.name.size + 4 := by omega
    have su2c : ¬ (9223372036854775807 : Int) < 4 + ((p.name.size : Nat) : Int) + 4 := by omega
    clear d
    go_enter Tryz.func63, Tryz.ntmps63
    go_wp2_with fail
    go_ret
    exact says (by rw [HP.out]; simp) (by (repeat (first | (with_reducible exact Below.refl _ _) | (with_reducible assumption) | (with_reducible refine ext_alloc ?_ _) | (with_reducible refine ext_drew ?_) | (with_reducible refine ext_drewN ?_ _) | (with_reducible refine ext_set ?_ (by first | exact Nat.le_refl _ | (simp; done) | (simp; omega) | omega) _) | (with_reducible refine ext_trans ?_ (by assumption)))))
  · have hd : (p.dir == 2) = false := by simpa using d
    cases hc : p.clock
    · have HP := Lib.hid (show pinL p = [112, 105, 110, 32] ++ p.name.data.toList ++ [32, 105, 110, 32] ++ Lib.itoa p.cap by simp [pinL, d, hc])
      have su3a : 4 + p.name.size ≤ 9223372036854775807 := by omega
      have su3b : ¬ 9223372036854775807 < 4 + p.name.size := by omega
      have su3c : ¬ (9223372036854775807 : Int) < 4 + ((p.name.size : Nat) : Int) := by omega
      have su4a : 4 + p.name.size + 4 ≤ 9223372036854775807 := by omega
      have su4b : ¬ 9223372036854775807 < 4 + p.name.size + 4 := by omega
      have su4c : ¬ (9223372036854775807 : Int) < 4 + ((p.name.size : Nat) : Int) + 4 := by omega
      have su5a : 4 + p.name.size + 4 + (Lib.itoa p.cap).length ≤ 9223372036854775807 := by omega
      have su5b : ¬ 9223372036854775807 < 4 + p.name.size + 4 + (Lib.itoa p.cap).length := by omega
      have su5c : ¬ (9223372036854775807 : Int) < 4 + ((p.name.size : Nat) : Int) + 4 + (((Lib.itoa p.cap).length : Nat) : Int) := by omega
      clear d
      go_enter Tryz.func63, Tryz.ntmps63
      go_upto_region 6 with fail
      go_region_held3 (fun w' => w'.cell? ⟨w.heap.size, 0, none⟩ = some (.string p.name) ∧ w'.cell? ⟨w.heap.size, 2, none⟩ = some (.int .i64 p.cap) ∧ Below w.heap.size w w' ∧ w.heap.size < w'.heap.size) (first | exact (Hid.out (by assumption)) | exact keep2 (Hid.out (by assumption)) ((Below.refl _ _).alloc (Nat.le_refl _) _) | exact keep2s (keep2s (Hid.out (by assumption)) (by first | assumption | (simp; done) | (simp; omega) | omega) (by first | assumption | (simp; done) | (simp; omega) | omega) (by first | assumption | (simp; done) | (simp; omega) | omega) (by first | assumption | (simp; done) | (simp; omega) | omega)) (by first | assumption | (simp; done) | (simp; omega) | omega) (by first | assumption | (simp; done) | (simp; omega) | omega) (by first | assumption | (simp; done) | (simp; omega) | omega) (by first | assumption | (simp; done) | (simp; omega) | omega) | exact keep2s (Hid.out (by assumption)) (by first | assumption | (simp; done) | (simp; omega) | omega) (by first | assumption | (simp; done) | (simp; omega) | omega) (by first | assumption | (simp; done) | (simp; omega) | omega) (by first | assumption | (simp; done) | (simp; omega) | omega) | ((repeat' apply And.intro) <;> first | assumption | ((repeat (first | (with_reducible exact Below.refl _ _) | (with_reducible assumption) | (with_reducible refine ext_alloc ?_ _) | (with_reducible refine ext_drew ?_) | (with_reducible refine ext_drewN ?_ _) | (with_reducible refine ext_set ?_ (by first | exact Nat.le_refl _ | (simp; done) | (simp; omega) | omega) _) | (with_reducible refine ext_trans ?_ (by assumption)))); done) | (simp [go_sem]; done) | (simp [go_sem, *]; done) | (simp; omega) | omega)) (first | ((go_at_call 110; refine (formatItoa _ _ (by omega) (by omega) (HT.out.keep (by (repeat (first | (with_reducible exact Below.refl _ _) | (with_reducible assumption) | (with_reducible refine ext_alloc ?_ _) | (with_reducible refine ext_drew ?_) | (with_reducible refine ext_drewN ?_ _) | (with_reducible refine ext_set ?_ (by first | exact Nat.le_refl _ | (simp; done) | (simp; omega) | omega) _) | (with_reducible refine ext_trans ?_ (by assumption))))))).mono ?_; rintro e w1 ⟨rfl, hb⟩; obtain ⟨hc, hf⟩ := bcell hb; have hz := hb.size; (try simp at hz); (try (have hz := Nat.lt_of_succ_le hz)); (try (have y0 : w.heap.size ≤ w1.heap.size := by omega)); (try (have z0 : w.heap.size < w1.heap.size := by omega)); (try (have z1 : w.heap.size + 1 < w1.heap.size := by omega)); (try (have z2 : w.heap.size + 1 + 1 < w1.heap.size := by omega)); (try (have z3 : w.heap.size + 1 + 1 + 1 < w1.heap.size := by omega)); (try (have z4 : w.heap.size + 1 + 1 + 1 + 1 < w1.heap.size := by omega)); (try (have x0 : wc.heap.size < w1.heap.size := by omega)); (try (have x1 : wc.heap.size ≤ w1.heap.size := by omega))); have hS := Lib.hid (keep2 (by assumption) hb); have zL := (Hid.out hS).2.2.2))
      all_goals (go_wp2_with fail; go_ret; exact says (by rw [HP.out]; simp) (by (repeat (first | (with_reducible exact Below.refl _ _) | (with_reducible assumption) | (with_reducible refine ext_alloc ?_ _) | (with_reducible refine ext_drew ?_) | (with_reducible refine ext_drewN ?_ _) | (with_reducible refine ext_set ?_ (by first | exact Nat.le_refl _ | (simp; done) | (simp; omega) | omega) _) | (with_reducible refine ext_trans ?_ (by assumption))))))
    · have HP := Lib.hid (show pinL p = [112, 105, 110, 32] ++ p.name.data.toList ++ [32, 99, 108, 111, 99, 107, 32] ++ Lib.itoa p.cap by simp [pinL, d, hc])
      have su6a : 4 + p.name.size ≤ 9223372036854775807 := by omega
      have su6b : ¬ 9223372036854775807 < 4 + p.name.size := by omega
      have su6c : ¬ (9223372036854775807 : Int) < 4 + ((p.name.size : Nat) : Int) := by omega
      have su7a : 4 + p.name.size + 7 ≤ 9223372036854775807 := by omega
      have su7b : ¬ 9223372036854775807 < 4 + p.name.size + 7 := by omega
      have su7c : ¬ (9223372036854775807 : Int) < 4 + ((p.name.size : Nat) : Int) + 7 := by omega
      have su8a : 4 + p.name.size + 7 + (Lib.itoa p.cap).length ≤ 9223372036854775807 := by omega
      have su8b : ¬ 9223372036854775807 < 4 + p.name.size + 7 + (Lib.itoa p.cap).length := by omega
      have su8c : ¬ (9223372036854775807 : Int) < 4 + ((p.name.size : Nat) : Int) + 7 + (((Lib.itoa p.cap).length : Nat) : Int) := by omega
      clear d
      go_enter Tryz.func63, Tryz.ntmps63
      go_upto_region 6 with fail
      go_region_held3 (fun w' => w'.cell? ⟨w.heap.size, 0, none⟩ = some (.string p.name) ∧ w'.cell? ⟨w.heap.size, 2, none⟩ = some (.int .i64 p.cap) ∧ Below w.heap.size w w' ∧ w.heap.size < w'.heap.size) (first | exact (Hid.out (by assumption)) | exact keep2 (Hid.out (by assumption)) ((Below.refl _ _).alloc (Nat.le_refl _) _) | exact keep2s (keep2s (Hid.out (by assumption)) (by first | assumption | (simp; done) | (simp; omega) | omega) (by first | assumption | (simp; done) | (simp; omega) | omega) (by first | assumption | (simp; done) | (simp; omega) | omega) (by first | assumption | (simp; done) | (simp; omega) | omega)) (by first | assumption | (simp; done) | (simp; omega) | omega) (by first | assumption | (simp; done) | (simp; omega) | omega) (by first | assumption | (simp; done) | (simp; omega) | omega) (by first | assumption | (simp; done) | (simp; omega) | omega) | exact keep2s (Hid.out (by assumption)) (by first | assumption | (simp; done) | (simp; omega) | omega) (by first | assumption | (simp; done) | (simp; omega) | omega) (by first | assumption | (simp; done) | (simp; omega) | omega) (by first | assumption | (simp; done) | (simp; omega) | omega) | ((repeat' apply And.intro) <;> first | assumption | ((repeat (first | (with_reducible exact Below.refl _ _) | (with_reducible assumption) | (with_reducible refine ext_alloc ?_ _) | (with_reducible refine ext_drew ?_) | (with_reducible refine ext_drewN ?_ _) | (with_reducible refine ext_set ?_ (by first | exact Nat.le_refl _ | (simp; done) | (simp; omega) | omega) _) | (with_reducible refine ext_trans ?_ (by assumption)))); done) | (simp [go_sem]; done) | (simp [go_sem, *]; done) | (simp; omega) | omega)) (first | ((go_at_call 110; refine (formatItoa _ _ (by omega) (by omega) (HT.out.keep (by (repeat (first | (with_reducible exact Below.refl _ _) | (with_reducible assumption) | (with_reducible refine ext_alloc ?_ _) | (with_reducible refine ext_drew ?_) | (with_reducible refine ext_drewN ?_ _) | (with_reducible refine ext_set ?_ (by first | exact Nat.le_refl _ | (simp; done) | (simp; omega) | omega) _) | (with_reducible refine ext_trans ?_ (by assumption))))))).mono ?_; rintro e w1 ⟨rfl, hb⟩; obtain ⟨hc, hf⟩ := bcell hb; have hz := hb.size; (try simp at hz); (try (have hz := Nat.lt_of_succ_le hz)); (try (have y0 : w.heap.size ≤ w1.heap.size := by omega)); (try (have z0 : w.heap.size < w1.heap.size := by omega)); (try (have z1 : w.heap.size + 1 < w1.heap.size := by omega)); (try (have z2 : w.heap.size + 1 + 1 < w1.heap.size := by omega)); (try (have z3 : w.heap.size + 1 + 1 + 1 < w1.heap.size := by omega)); (try (have z4 : w.heap.size + 1 + 1 + 1 + 1 < w1.heap.size := by omega)); (try (have x0 : wc.heap.size < w1.heap.size := by omega)); (try (have x1 : wc.heap.size ≤ w1.heap.size := by omega))); have hS := Lib.hid (keep2 (by assumption) hb); have zL := (Hid.out hS).2.2.2))
      all_goals (go_wp2_with fail; go_ret; exact says (by rw [HP.out]; simp) (by (repeat (first | (with_reducible exact Below.refl _ _) | (with_reducible assumption) | (with_reducible refine ext_alloc ?_ _) | (with_reducible refine ext_drew ?_) | (with_reducible refine ext_drewN ?_ _) | (with_reducible refine ext_set ?_ (by first | exact Nat.le_refl _ | (simp; done) | (simp; omega) | omega) _) | (with_reducible refine ext_trans ?_ (by assumption))))))
theorem join_any (g n cap : Nat) (us : List ByteArray) (sep : ByteArray) (w : World) (hn : n = us.length) (hc : ∀ j (hj : j < us.length), w.cell? ⟨g, j, none⟩ = some (.string us[j])) (hg : g < w.heap.size) (h140 : n ≤ 1048576) (hcap : n ≤ cap)
    (hl : (Lib.join (us.map (·.data.toList)) sep.data.toList).length ≤ 140737488355328) :
    Calls Tryz.prog 66 #[.slice (some ⟨g, 0, none⟩) n cap, .string sep] w (Says (Lib.join (us.map (·.data.toList)) sep.data.toList) w) := by
  subst hn
  refine (Tryz.strings_Join g 0 cap us sep w (fun j x hjx => ?_) hg (by omega) hcap hl).mono ?_
  · obtain ⟨hj, rfl⟩ := List.getElem?_eq_some_iff.1 hjx
    rw [Nat.zero_add]
    exact hc j hj
  · rintro e w' ⟨rfl, hb⟩
    exact says (by simp) hb
theorem join_lit (g n : Nat) (us : List ByteArray) (sep : ByteArray) (vs : Array Value) (t : TypeId) (w : World) (hv : vs.toList = us.map .string) (hg : g = w.heap.size) (hn : n = us.length) (hm : n ≤ 1000)
    (hl : (Lib.join (us.map (·.data.toList)) sep.data.toList).length ≤ 140737488355328) :
    Calls Tryz.prog 66 #[.slice (some ⟨g, 0, none⟩) n n, .string sep] (w.alloc (.cells vs t)) (Says (Lib.join (us.map (·.data.toList)) sep.data.toList) (w.alloc (.cells vs t))) := by
  subst hg; subst hn
  have h := World.ownsRow_lit (e := t) (base := 0) (size := 1) w vs us.length (Nat.zero_le _) (by unfold maxLen; omega) (by rw [← Array.length_toList, hv]; simp)
  refine join_any _ _ _ us sep _ rfl (fun j hj => ?_) (by simp) (by omega) (Nat.le_refl _) hl
  rw [World.ownsRow.cellAt h j (by omega), hv]
  simp [hj]
set_option maxHeartbeats 4000000 in
theorem implHeadT_any (f : Nat → Value) (c : CellD) (w : World) (h : CellF w w.heap.size f c) (hv : cellB c = true) (ht : Tab w) : Calls Tryz.prog 62 #[.agg #[f 0, f 1, f 2, f 3, f 4, f 5, f 6]] w (Says (headL c) w) := by
  have hn8 := amount_v hv
  have hkk := bits_v hv
  have hhl := head_len hv
  obtain ⟨e0, e1, x2, x3, x4, e5, e6, hsz⟩ := h
  obtain ⟨p2, q2, e2⟩ := x2.slice; obtain ⟨p3, q3, e3⟩ := x3.slice; obtain ⟨p4, q4, e4⟩ := x4.slice
  rw [e0, e1, e2, e3, e4, e5, e6]
  obtain ⟨n8, l0, l1, g0, g1⟩ := hn8
  obtain ⟨k1, k3, _⟩ := hkk
  have HT := Lib.hid ht
  obtain ⟨κ, hκ⟩ : ∃ κ : Nat, c.kind = (κ : Int) := ⟨c.kind.toNat, by omega⟩
  have HK := fun w1 => implKnds_at κ (by omega) (by omega) w1
  obtain ⟨KW, hKW⟩ : ∃ KW, KW = bstr (kndW (κ : Int)) := ⟨_, rfl⟩
  simp only [← hKW] at HK
  have HP := Lib.hid (show headL c = Lib.join ([⟨#[99, 101, 108, 108]⟩, c.name, KW, ⟨(Lib.itoa c.leak).toArray⟩, ⟨(Lib.itoa c.energy).toArray⟩].map (fun (x : ByteArray) => x.data.toList)) [32] by
    rw [hKW, ← hκ]; simp [headL, bstr])
  have HQ := Lib.hid (by rw [HP.out] at hhl; omega : (Lib.join ([⟨#[99, 101, 108, 108]⟩, c.name, KW, ⟨(Lib.itoa c.leak).toArray⟩, ⟨(Lib.itoa c.energy).toArray⟩].map (fun (x : ByteArray) => x.data.toList)) [32]).length ≤ 140737488355328)
  rw [hκ]
  have κ0 : (0 : Int) ≤ (κ : Int) := by omega
  have κ4 : (κ : Int) < 4 := by omega
  have HKH := Lib.hid HK
  clear HK hKW hκ hhl e0 e1 e2 e3 e4 e5 e6 x2 x3 x4 ht hv k1 k3
  go_enter Tryz.func62, Tryz.ntmps62
  go_upto_region 1 with fail
  refine wp_region_held_drew (S := (fun w' => w'.cell? ⟨w.heap.size, 0, none⟩ = some (.string c.name) ∧ w'.cell? ⟨w.heap.size, 1, none⟩ = some (.int .i64 (κ : Int)) ∧ w'.cell? ⟨w.heap.size, 5, none⟩ = some (.int .i64 c.leak) ∧ w'.cell? ⟨w.heap.size, 6, none⟩ = some (.int .i64 c.energy) ∧ Below w.heap.size w w' ∧ w.heap.size < w'.heap.size)) (by kernel_rfl) ?_ (fun hHeld => ?_)
  · (try dsimp only); ((repeat' apply And.intro) <;> first | assumption | ((repeat (first | (with_reducible exact Below.refl _ _) | (with_reducible assumption) | (with_reducible refine ext_alloc ?_ _) | (with_reducible refine ext_drew ?_) | (with_reducible refine ext_drewN ?_ _) | (with_reducible refine ext_set ?_ (by first | exact Nat.le_refl _ | (simp; done) | (simp; omega) | omega) _) | (with_reducible refine ext_trans ?_ (by assumption)))); done) | (simp [go_sem]; done) | (simp [go_sem, *]; done) | (simp; omega) | omega)
  (try dsimp only at hHeld)
  refine wpAnyH_take (i := 0) (oi := _) (v := ?_) rfl (by kernel_rfl) (by kernel_rfl) (by kernel_rfl) (fun _ _ _ h => h) (Or.inl ⟨by rfl, ?_⟩) (by with_reducible assumption) ?_
  rotate_left
  focus (intro w' hSw; (try dsimp only at hSw); go_simp; try (with_reducible rfl))
  (try simp only [Act.put, List.getElem_toArray, List.getElem_cons_zero, List.getElem_cons_succ, List.setIfInBounds_toArray, List.set_cons_zero, List.set_cons_succ])
  refine wpAnyH_take (i := 1) (oi := _) (v := ?_) rfl (by kernel_rfl) (by kernel_rfl) (by kernel_rfl) (fun _ _ _ h => h) (Or.inl ⟨by rfl, ?_⟩) (by with_reducible assumption) ?_
  rotate_left
  focus (intro w' hSw; (try dsimp only at hSw); go_simp; try (with_reducible rfl))
  (try simp only [Act.put, List.getElem_toArray, List.getElem_cons_zero, List.getElem_cons_succ, List.setIfInBounds_toArray, List.set_cons_zero, List.set_cons_succ])
  refine wpAnyH_take (i := 3) (oi := _) (v := ?_) rfl (by kernel_rfl) (by kernel_rfl) (by kernel_rfl) (fun _ _ _ h => h) (Or.inl ⟨by rfl, ?_⟩) (by with_reducible assumption) ?_
  rotate_left
  focus (intro w' hSw; (try dsimp only at hSw); go_simp; try (with_reducible rfl))
  (try simp only [Act.put, List.getElem_toArray, List.getElem_cons_zero, List.getElem_cons_succ, List.setIfInBounds_toArray, List.set_cons_zero, List.set_cons_succ])
  refine wpAnyH_take (i := 4) (oi := _) (v := ?_) rfl (by kernel_rfl) (by kernel_rfl) (by kernel_rfl) (fun _ _ _ h => h) (Or.inl ⟨by rfl, ?_⟩) (by with_reducible assumption) ?_
  rotate_left
  focus (intro w' hSw; (try dsimp only at hSw); go_simp; try (with_reducible rfl))
  (try simp only [Act.put, List.getElem_toArray, List.getElem_cons_zero, List.getElem_cons_succ, List.setIfInBounds_toArray, List.set_cons_zero, List.set_cons_succ])
  refine wpAnyH_ready (rs := [2]) (by kernel_rfl) (by simp) ?_
  refine AllReadyH.cons rfl (fun K hK => ?_) AllReadyH.nil
  go_simp
  (go_at_call 110; refine (formatItoa _ _ (by omega) (by omega) (HT.out.keep hHeld.2.2.2.2.1)).mono ?_; rintro e wn ⟨rfl, hb⟩)
  refine hK.out _ _ (keep4 hHeld hb) (fun hHeld' => ?_)
  clear hK K hHeld
  have hHeld := hHeld'
  clear hHeld'
  (try simp only [Act.put, List.getElem_toArray, List.getElem_cons_zero, List.getElem_cons_succ, List.setIfInBounds_toArray, List.set_cons_zero, List.set_cons_succ])
  refine wpAnyH_ready (rs := [5]) (by kernel_rfl) (by simp) ?_
  refine AllReadyH.cons rfl (fun K hK => ?_) AllReadyH.nil
  go_simp
  (go_at_call 110; refine (formatItoa _ _ (by omega) (by omega) (HT.out.keep hHeld.2.2.2.2.1)).mono ?_; rintro e wn ⟨rfl, hb⟩)
  refine hK.out _ _ (keep4 hHeld hb) (fun hHeld' => ?_)
  clear hK K hHeld
  have hHeld := hHeld'
  clear hHeld'
  (try simp only [Act.put, List.getElem_toArray, List.getElem_cons_zero, List.getElem_cons_succ, List.setIfInBounds_toArray, List.set_cons_zero, List.set_cons_succ])
  refine wpAnyH_take (i := 6) (oi := _) (v := ?_) rfl (by kernel_rfl) (by kernel_rfl) (by kernel_rfl) (fun _ _ _ h => h) (Or.inl ⟨by rfl, ?_⟩) (by with_reducible assumption) ?_
  rotate_left
  focus (intro w' hSw; (try dsimp only at hSw); go_simp; try (with_reducible rfl))
  (try simp only [Act.put, List.getElem_toArray, List.getElem_cons_zero, List.getElem_cons_succ, List.setIfInBounds_toArray, List.set_cons_zero, List.set_cons_succ])
  refine wpAnyH_take (i := 7) (oi := _) (v := ?_) rfl (by kernel_rfl) (by kernel_rfl) (by kernel_rfl) (fun _ _ _ h => h) (Or.inl ⟨by rfl, ?_⟩) (by with_reducible assumption) ?_
  rotate_left
  focus (intro w' hSw; (try dsimp only at hSw); go_simp; try (with_reducible rfl))
  (try simp only [Act.put, List.getElem_toArray, List.getElem_cons_zero, List.getElem_cons_succ, List.setIfInBounds_toArray, List.set_cons_zero, List.set_cons_succ])
  refine wpAnyH_done (by kernel_rfl) ?_ _
  have B8 := hHeld.2.2.2.2.1
  go_upto_region 2 with fail
  refine wp_region_held_drew (S := (fun w' => w'.cell? ⟨w.heap.size, 0, none⟩ = some (.string c.name) ∧ w'.cell? ⟨w.heap.size, 1, none⟩ = some (.int .i64 (κ : Int)) ∧ Below w.heap.size w w' ∧ w.heap.size < w'.heap.size)) (by kernel_rfl) ?_ (fun hHeld => ?_)
  · (try dsimp only); ((repeat' apply And.intro) <;> first | assumption | ((repeat (first | (with_reducible exact Below.refl _ _) | (with_reducible assumption) | (with_reducible refine ext_alloc ?_ _) | (with_reducible refine ext_drew ?_) | (with_reducible refine ext_drewN ?_ _) | (with_reducible refine ext_set ?_ (by first | exact Nat.le_refl _ | (simp; done) | (simp; omega) | omega) _) | (with_reducible refine ext_trans ?_ (by assumption)))); done) | (simp [go_sem]; done) | (simp [go_sem, *]; done) | (simp; omega) | omega)
  (try dsimp only at hHeld)
  refine wpAnyH_take (i := 0) (oi := _) (v := ?_) rfl (by kernel_rfl) (by kernel_rfl) (by kernel_rfl) (fun _ _ _ h => h) (Or.inl ⟨by rfl, ?_⟩) (by with_reducible assumption) ?_
  rotate_left
  focus (intro w' hSw; (try dsimp only at hSw); go_simp; try (with_reducible rfl))
  (try simp only [Act.put, List.getElem_toArray, List.getElem_cons_zero, List.getElem_cons_succ, List.setIfInBounds_toArray, List.set_cons_zero, List.set_cons_succ])
  refine wpAnyH_take (i := 1) (oi := _) (v := ?_) rfl (by kernel_rfl) (by kernel_rfl) (by kernel_rfl) (fun _ _ _ h => h) (Or.inl ⟨by rfl, ?_⟩) (by with_reducible assumption) ?_
  rotate_left
  focus (intro w' hSw; (try dsimp only at hSw); go_simp; try (with_reducible rfl))
  (try simp only [Act.put, List.getElem_toArray, List.getElem_cons_zero, List.getElem_cons_succ, List.setIfInBounds_toArray, List.set_cons_zero, List.set_cons_succ])
  refine wpAnyH_take (i := 3) (oi := _) (v := ?_) rfl (by kernel_rfl) (by kernel_rfl) (by kernel_rfl) (fun _ _ _ h => h) (Or.inl ⟨by rfl, ?_⟩) (by with_reducible assumption) ?_
  rotate_left
  focus (intro w' hSw; (try dsimp only at hSw); go_simp; try (with_reducible rfl))
  (try simp only [Act.put, List.getElem_toArray, List.getElem_cons_zero, List.getElem_cons_succ, List.setIfInBounds_toArray, List.set_cons_zero, List.set_cons_succ])
  refine wpAnyH_take (i := 4) (oi := _) (v := ?_) rfl (by kernel_rfl) (by kernel_rfl) (by kernel_rfl) (fun _ _ _ h => h) (Or.inl ⟨by rfl, ?_⟩) (by with_reducible assumption) ?_
  rotate_left
  focus (intro w' hSw; (try dsimp only at hSw); go_simp; try (with_reducible rfl))
  (try simp only [Act.put, List.getElem_toArray, List.getElem_cons_zero, List.getElem_cons_succ, List.setIfInBounds_toArray, List.set_cons_zero, List.set_cons_succ])
  refine wpAnyH_take (i := 7) (oi := _) (v := ?_) rfl (by kernel_rfl) (by kernel_rfl) (by kernel_rfl) (fun _ _ _ h => h) (Or.inl ⟨by rfl, ?_⟩) (by with_reducible assumption) ?_
  rotate_left
  focus (intro w' hSw; (try dsimp only at hSw); go_simp; try (with_reducible rfl))
  (try simp only [Act.put, List.getElem_toArray, List.getElem_cons_zero, List.getElem_cons_succ, List.setIfInBounds_toArray, List.set_cons_zero, List.set_cons_succ])
  refine wpAnyH_take (i := 8) (oi := _) (v := ?_) rfl (by kernel_rfl) (by kernel_rfl) (by kernel_rfl) (fun _ _ _ h => h) (Or.inl ⟨by rfl, ?_⟩) (by with_reducible assumption) ?_
  rotate_left
  focus (intro w' hSw; (try dsimp only at hSw); go_simp; try (with_reducible rfl))
  (try simp only [Act.put, List.getElem_toArray, List.getElem_cons_zero, List.getElem_cons_succ, List.setIfInBounds_toArray, List.set_cons_zero, List.set_cons_succ])
  refine wpAnyH_ready (rs := [2]) (by kernel_rfl) (by simp) ?_
  refine AllReadyH.cons rfl (fun K hK => ?_) AllReadyH.nil
  go_simp
  (go_at_call 111; refine (HKH.out _).mono ?_; rintro e wn ⟨rfl, hk0, hb⟩)
  (try simp at hk0)
  refine hK.out _ _ (keep2 hHeld hb) (fun hHeld' => ?_)
  clear hK K hHeld
  have hHeld := hHeld'
  clear hHeld'
  (try simp only [Act.put, List.getElem_toArray, List.getElem_cons_zero, List.getElem_cons_succ, List.setIfInBounds_toArray, List.set_cons_zero, List.set_cons_succ])
  refine wpAnyH_take (i := 5) (oi := _) (v := ?_) rfl (by kernel_rfl) (by kernel_rfl) (by kernel_rfl) (fun _ _ _ h => h) (Or.inl ⟨by rfl, ?_⟩) (by with_reducible assumption) ?_
  rotate_left
  focus (intro w' hSw; (try dsimp only at hSw); go_simp; try (with_reducible rfl))
  (try simp only [Act.put, List.getElem_toArray, List.getElem_cons_zero, List.getElem_cons_succ, List.setIfInBounds_toArray, List.set_cons_zero, List.set_cons_succ])
  refine wpAnyH_ready (rs := [6]) (by kernel_rfl) (by simp) ?_
  refine AllReadyH.cons rfl (fun K hK => ?_) AllReadyH.nil
  go_simp
  refine hK.out _ _ hHeld (fun _ => ?_)
  clear hK K
  (try simp only [Act.put, List.getElem_toArray, List.getElem_cons_zero, List.getElem_cons_succ, List.setIfInBounds_toArray, List.set_cons_zero, List.set_cons_succ])
  refine wpAnyH_ready (rs := [9]) (by kernel_rfl) (by simp) ?_
  refine AllReadyH.cons rfl (fun K hK => ?_) AllReadyH.nil
  go_simp
  refine hK.out _ _ (keep2 hHeld ((Below.refl _ _).alloc (Nat.le_refl _) _)) (fun hHeld' => ?_)
  clear hK K hHeld
  have hHeld := hHeld'
  clear hHeld'
  (try simp only [Act.put, List.getElem_toArray, List.getElem_cons_zero, List.getElem_cons_succ, List.setIfInBounds_toArray, List.set_cons_zero, List.set_cons_succ])
  refine wpAnyH_ready (rs := [10]) (by kernel_rfl) (by simp) ?_
  refine AllReadyH.cons rfl (fun K hK => ?_) AllReadyH.nil
  go_simp
  (go_at_call 66; refine (join_lit _ 5 [⟨#[99, 101, 108, 108]⟩, c.name, KW, ⟨(Lib.itoa c.leak).toArray⟩, ⟨(Lib.itoa c.energy).toArray⟩] _ _ _ _ rfl (by simp) rfl (by omega) HQ.out).mono ?_; rintro e wn ⟨J, rfl, hJ, hJs, hb⟩)
  refine hK.out _ _ (keep2 hHeld hb) (fun hHeld' => ?_)
  clear hK K hHeld
  have hHeld := hHeld'
  clear hHeld'
  (try simp only [Act.put, List.getElem_toArray, List.getElem_cons_zero, List.getElem_cons_succ, List.setIfInBounds_toArray, List.set_cons_zero, List.set_cons_succ])
  refine wpAnyH_take (i := 11) (oi := _) (v := ?_) rfl (by kernel_rfl) (by kernel_rfl) (by kernel_rfl) (fun _ _ _ h => h) (Or.inl ⟨by rfl, ?_⟩) (by with_reducible assumption) ?_
  rotate_left
  focus (intro w' hSw; (try dsimp only at hSw); go_simp; try (with_reducible rfl))
  (try simp only [Act.put, List.getElem_toArray, List.getElem_cons_zero, List.getElem_cons_succ, List.setIfInBounds_toArray, List.set_cons_zero, List.set_cons_succ])
  refine wpAnyH_done (by kernel_rfl) ?_ _
  have B9 := hHeld.2.2.1
  go_wp2_with fail
  go_ret
  exact says (by rw [HP.out]; exact hJ) (by (repeat (first | (with_reducible exact Below.refl _ _) | (with_reducible assumption) | (with_reducible refine ext_alloc ?_ _) | (with_reducible refine ext_drew ?_) | (with_reducible refine ext_drewN ?_ _) | (with_reducible refine ext_set ?_ (by first | exact Nat.le_refl _ | (simp; done) | (simp; omega) | omega) _) | (with_reducible refine ext_trans ?_ (by assumption)))))
end Go.Proofs.YtmoolajapgacmaaGreatDoor
