/-
The texts of cells and arcs, and the number of a cell's text, of program and model, for all cells.
-/
import Derived.Test.YtmoolajapgacmaaGreatDoorLTE
namespace Go.Proofs.YtmoolajapgacmaaGreatDoor
open Go.ChangeShapes Go.WideShapes Go.ChangeAt Go.RowKit
set_option linter.unusedVariables false
set_option linter.unusedSimpArgs false
set_option maxRecDepth 100000
/-- The line of an arc, if there is one. -/
def arcX (c : CellD) (x : Int) : List UInt8 := if cellB c && inB x 0 ((c.arcs.length : Int) - 1) then arcL c.pins (an c.arcs x.toNat) else []
/-- The number of a text. -/
def dgs (l : List UInt8) : Int := l.foldl (fun n b => (31 * n + (b.toNat : Int)) % 1000000007) 0
def digX (c : CellD) : Int := if cellB c then dgs (cellX c) else -1
theorem dgs_step (J : ByteArray) (k : Nat) (h : k < J.size) : dgs (J.data.toList.take (k + 1)) = (31 * dgs (J.data.toList.take k) + (J[k].toNat : Int)) % 1000000007 := by
  have hl : k < J.data.toList.length := by rw [sz_list]; exact h
  rw [List.take_succ_eq_append_getElem hl]
  unfold dgs
  rw [List.foldl_append]
  rfl
set_option maxHeartbeats 1000000 in
theorem implCellT_any (f : Nat → Value) (c : CellD) (w : World) (h : CellF w w.heap.size f c) (htb : Tab w) : Calls Tryz.prog 26 #[.agg #[f 0, f 1, f 2, f 3, f 4, f 5, f 6]] w (Says (cellT c) w) := by
  cases hv : cellB c
  · have HF := Lib.hid h
    have HC := Lib.hid (show cellT c = [] by simp [cellT, hv])
    have HIs := Lib.hid (fun (w1 : World) (hb : Below w.heap.size w w1) => by
      have h := implIsCell_any f c w1 (HF.out.up hb)
      rw [hv] at h
      exact h : ∀ (w1 : World), Below w.heap.size w w1 → Calls Tryz.prog 44 #[.agg #[f 0, f 1, f 2, f 3, f 4, f 5, f 6]] w1 fun e w' => e = .returned (.bool false) ∧ Below w1.heap.size w1 w')
    clear h hv
    go_enter Tryz.func26, Tryz.ntmps26
    go_wp2_with (go_at_call 44; refine (HIs.out _ (by (repeat (first | (with_reducible exact Below.refl _ _) | (with_reducible assumption) | (with_reducible refine ext_alloc ?_ _) | (with_reducible refine ext_drew ?_) | (with_reducible refine ext_drewN ?_ _) | (with_reducible refine ext_set ?_ (by first | exact Nat.le_refl _ | (simp; done) | (simp; omega) | omega) _) | (with_reducible refine ext_trans ?_ (by assumption)))))).mono ?_; rintro e w1 ⟨rfl, hb⟩; obtain ⟨hc, hf⟩ := bcell hb; have hz := hb.size; (try simp at hz); (try (have hz := Nat.lt_of_succ_le hz)); (try (have y0 : w.heap.size ≤ w1.heap.size := by omega)); (try (have z0 : w.heap.size < w1.heap.size := by omega)); (try (have z1 : w.heap.size + 1 < w1.heap.size := by omega)); (try (have z2 : w.heap.size + 1 + 1 < w1.heap.size := by omega)); (try (have z3 : w.heap.size + 1 + 1 + 1 < w1.heap.size := by omega)); (try (have z4 : w.heap.size + 1 + 1 + 1 + 1 < w1.heap.size := by omega)); (try (have x0 : wc.heap.size < w1.heap.size := by omega)); (try (have x1 : wc.heap.size ≤ w1.heap.size := by omega)))
    go_ret
    exact says (by rw [HC.out]) (by (repeat (first | (with_reducible exact Below.refl _ _) | (with_reducible assumption) | (with_reducible refine ext_alloc ?_ _) | (with_reducible refine ext_drew ?_) | (with_reducible refine ext_drewN ?_ _) | (with_reducible refine ext_set ?_ (by first | exact Nat.le_refl _ | (simp; done) | (simp; omega) | omega) _) | (with_reducible refine ext_trans ?_ (by assumption)))))
  · have e : cellT c = cellX c := by simp [cellT, hv]
    rw [e]
    exact implCellX_any f c w h hv htb
set_option maxHeartbeats 1000000 in
theorem specCellT_any (f : Nat → Value) (c : CellD) (w : World) (h : CellF w w.heap.size f c) : Calls Tryz.prog 24 #[.agg #[f 0, f 1, f 2, f 3, f 4, f 5, f 6]] w (Says (cellT c) w) := by
  cases hv : cellB c
  · have HF := Lib.hid h
    have HC := Lib.hid (show cellT c = [] by simp [cellT, hv])
    have HIs := Lib.hid (fun (w1 : World) (hb : Below w.heap.size w w1) => by
      have h := specIsCell_any f c w1 (HF.out.up hb)
      rw [hv] at h
      exact h : ∀ (w1 : World), Below w.heap.size w w1 → Calls Tryz.prog 43 #[.agg #[f 0, f 1, f 2, f 3, f 4, f 5, f 6]] w1 fun e w' => e = .returned (.bool false) ∧ Below w1.heap.size w1 w')
    clear h hv
    go_enter Tryz.func24, Tryz.ntmps24
    go_wp2_with (go_at_call 43; refine (HIs.out _ (by (repeat (first | (with_reducible exact Below.refl _ _) | (with_reducible assumption) | (with_reducible refine ext_alloc ?_ _) | (with_reducible refine ext_drew ?_) | (with_reducible refine ext_drewN ?_ _) | (with_reducible refine ext_set ?_ (by first | exact Nat.le_refl _ | (simp; done) | (simp; omega) | omega) _) | (with_reducible refine ext_trans ?_ (by assumption)))))).mono ?_; rintro e w1 ⟨rfl, hb⟩; obtain ⟨hc, hf⟩ := bcell hb; have hz := hb.size; (try simp at hz); (try (have hz := Nat.lt_of_succ_le hz)); (try (have y0 : w.heap.size ≤ w1.heap.size := by omega)); (try (have z0 : w.heap.size < w1.heap.size := by omega)); (try (have z1 : w.heap.size + 1 < w1.heap.size := by omega)); (try (have z2 : w.heap.size + 1 + 1 < w1.heap.size := by omega)); (try (have z3 : w.heap.size + 1 + 1 + 1 < w1.heap.size := by omega)); (try (have z4 : w.heap.size + 1 + 1 + 1 + 1 < w1.heap.size := by omega)); (try (have x0 : wc.heap.size < w1.heap.size := by omega)); (try (have x1 : wc.heap.size ≤ w1.heap.size := by omega)))
    go_ret
    exact says (by rw [HC.out]) (by (repeat (first | (with_reducible exact Below.refl _ _) | (with_reducible assumption) | (with_reducible refine ext_alloc ?_ _) | (with_reducible refine ext_drew ?_) | (with_reducible refine ext_drewN ?_ _) | (with_reducible refine ext_set ?_ (by first | exact Nat.le_refl _ | (simp; done) | (simp; omega) | omega) _) | (with_reducible refine ext_trans ?_ (by assumption)))))
  · have e : cellT c = cellX c := by simp [cellT, hv]
    rw [e]
    have HF := Lib.hid h
    have HIs := Lib.hid (fun (w1 : World) (hb : Below w.heap.size w w1) => by
      have h := specIsCell_any f c w1 (HF.out.up hb)
      rw [hv] at h
      exact h : ∀ (w1 : World), Below w.heap.size w w1 → Calls Tryz.prog 43 #[.agg #[f 0, f 1, f 2, f 3, f 4, f 5, f 6]] w1 fun e w' => e = .returned (.bool true) ∧ Below w1.heap.size w1 w')
    have HT := Lib.hid (fun (w1 : World) (hb : Below w.heap.size w w1) => specCellX_any f c w1 (HF.out.up hb) hv)
    clear h hv
    go_enter Tryz.func24, Tryz.ntmps24
    go_wp2_with (first | (go_at_call 43; refine (HIs.out _ (by (repeat (first | (with_reducible exact Below.refl _ _) | (with_reducible assumption) | (with_reducible refine ext_alloc ?_ _) | (with_reducible refine ext_drew ?_) | (with_reducible refine ext_drewN ?_ _) | (with_reducible refine ext_set ?_ (by first | exact Nat.le_refl _ | (simp; done) | (simp; omega) | omega) _) | (with_reducible refine ext_trans ?_ (by assumption)))))).mono ?_; rintro e w1 ⟨rfl, hb⟩; obtain ⟨hc, hf⟩ := bcell hb; have hz := hb.size; (try simp at hz); (try (have hz := Nat.lt_of_succ_le hz)); (try (have y0 : w.heap.size ≤ w1.heap.size := by omega)); (try (have z0 : w.heap.size < w1.heap.size := by omega)); (try (have z1 : w.heap.size + 1 < w1.heap.size := by omega)); (try (have z2 : w.heap.size + 1 + 1 < w1.heap.size := by omega)); (try (have z3 : w.heap.size + 1 + 1 + 1 < w1.heap.size := by omega)); (try (have z4 : w.heap.size + 1 + 1 + 1 + 1 < w1.heap.size := by omega)); (try (have x0 : wc.heap.size < w1.heap.size := by omega)); (try (have x1 : wc.heap.size ≤ w1.heap.size := by omega))) | (go_at_call 58; refine (HT.out _ (by (repeat (first | (with_reducible exact Below.refl _ _) | (with_reducible assumption) | (with_reducible refine ext_alloc ?_ _) | (with_reducible refine ext_drew ?_) | (with_reducible refine ext_drewN ?_ _) | (with_reducible refine ext_set ?_ (by first | exact Nat.le_refl _ | (simp; done) | (simp; omega) | omega) _) | (with_reducible refine ext_trans ?_ (by assumption)))))).mono ?_; rintro e w2 ⟨T, rfl, hT, hTs, hb⟩; obtain ⟨hc, hf⟩ := bcell hb; have hz := hb.size; (try simp at hz); (try (have hz := Nat.lt_of_succ_le hz)); (try (have y0 : w.heap.size ≤ w2.heap.size := by omega)); (try (have z0 : w.heap.size < w2.heap.size := by omega)); (try (have z1 : w.heap.size + 1 < w2.heap.size := by omega)); (try (have z2 : w.heap.size + 1 + 1 < w2.heap.size := by omega)); (try (have z3 : w.heap.size + 1 + 1 + 1 < w2.heap.size := by omega)); (try (have z4 : w.heap.size + 1 + 1 + 1 + 1 < w2.heap.size := by omega))))
    go_ret
    exact says hT (by (repeat (first | (with_reducible exact Below.refl _ _) | (with_reducible assumption) | (with_reducible refine ext_alloc ?_ _) | (with_reducible refine ext_drew ?_) | (with_reducible refine ext_drewN ?_ _) | (with_reducible refine ext_set ?_ (by first | exact Nat.le_refl _ | (simp; done) | (simp; omega) | omega) _) | (with_reducible refine ext_trans ?_ (by assumption)))))
set_option maxHeartbeats 2000000 in
theorem implArcTx_any (f : Nat → Value) (c : CellD) (x : Int) (w : World) (h : CellF w w.heap.size f c) (htb : Tab w) : Calls Tryz.prog 35 #[.agg #[f 0, f 1, f 2, f 3, f 4, f 5, f 6], .int .i64 x] w (Says (arcX c x) w) := by
  have HTb := Lib.hid htb
  clear htb
  have HF := Lib.hid h
  have x3 := h.2.2.2.1
  clear h
  obtain ⟨F3, c3, f3⟩ := x3
  obtain ⟨n, hnn⟩ : ∃ n, n = c.arcs.length := ⟨_, rfl⟩
  rw [← hnn] at c3 f3
  have H3 := c3
  obtain ⟨hn, a3, q3, e3, _⟩ := c3
  rw [e3] at H3
  have E3 := Lib.hid e3
  have HF3 := Lib.hid f3
  have HIs := Lib.hid (fun (w1 : World) (hb : Below w.heap.size w w1) => by
    have h := implIsCell_any f c w1 (HF.out.up hb)
    rw [E3.out] at h
    exact h : ∀ (w1 : World), Below w.heap.size w w1 → Calls Tryz.prog 44 #[.agg #[f 0, f 1, f 2, .slice a3 n q3, f 4, f 5, f 6]] w1 fun e w' => e = .returned (.bool (cellB c)) ∧ Below w1.heap.size w1 w')
  rw [e3]
  clear e3 f3
  cases hv : cellB c
  · have HC := Lib.hid (show arcX c x = [] by simp [arcX, hv])
    rw [hv] at HIs
    clear hv H3 hnn
    go_enter Tryz.func35, Tryz.ntmps35
    go_wp2_with (go_at_call 44; refine (HIs.out _ (by (repeat (first | (with_reducible exact Below.refl _ _) | (with_reducible assumption) | (with_reducible refine ext_alloc ?_ _) | (with_reducible refine ext_drew ?_) | (with_reducible refine ext_drewN ?_ _) | (with_reducible refine ext_set ?_ (by first | exact Nat.le_refl _ | (simp; done) | (simp; omega) | omega) _) | (with_reducible refine ext_trans ?_ (by assumption)))))).mono ?_; rintro e w1 ⟨rfl, hb⟩; obtain ⟨hc, hf⟩ := bcell hb; have hz := hb.size; (try simp at hz); (try (have hz := Nat.lt_of_succ_le hz)); (try (have y0 : w.heap.size ≤ w1.heap.size := by omega)); (try (have z0 : w.heap.size < w1.heap.size := by omega)); (try (have z1 : w.heap.size + 1 < w1.heap.size := by omega)); (try (have z2 : w.heap.size + 1 + 1 < w1.heap.size := by omega)); (try (have z3 : w.heap.size + 1 + 1 + 1 < w1.heap.size := by omega)); (try (have z4 : w.heap.size + 1 + 1 + 1 + 1 < w1.heap.size := by omega)); (try (have x0 : wc.heap.size < w1.heap.size := by omega)); (try (have x1 : wc.heap.size ≤ w1.heap.size := by omega)))
    go_ret
    exact says (by rw [HC.out]) (by (repeat (first | (with_reducible exact Below.refl _ _) | (with_reducible assumption) | (with_reducible refine ext_alloc ?_ _) | (with_reducible refine ext_drew ?_) | (with_reducible refine ext_drewN ?_ _) | (with_reducible refine ext_set ?_ (by first | exact Nat.le_refl _ | (simp; done) | (simp; omega) | omega) _) | (with_reducible refine ext_trans ?_ (by assumption)))))
  · rw [hv] at HIs
    have ⟨hpb, _, hab, _⟩ := cell_get hv
    have ⟨_, _, pv⟩ := pins_v hpb
    have ⟨na8, av⟩ := arcs_v hab
    rw [← hnn] at na8 av
    cases hi : inB x 0 ((n : Int) - 1)
    · have HC := Lib.hid (show arcX c x = [] by rw [hnn] at hi; simp [arcX, hi])
      clear hv H3 hnn hpb hab pv av
      go_enter Tryz.func35, Tryz.ntmps35
      go_wp2_with (first | (go_at_call 44; refine (HIs.out _ (by (repeat (first | (with_reducible exact Below.refl _ _) | (with_reducible assumption) | (with_reducible refine ext_alloc ?_ _) | (with_reducible refine ext_drew ?_) | (with_reducible refine ext_drewN ?_ _) | (with_reducible refine ext_set ?_ (by first | exact Nat.le_refl _ | (simp; done) | (simp; omega) | omega) _) | (with_reducible refine ext_trans ?_ (by assumption)))))).mono ?_; rintro e w1 ⟨rfl, hb⟩; obtain ⟨hc, hf⟩ := bcell hb; have hz := hb.size; (try simp at hz); (try (have hz := Nat.lt_of_succ_le hz)); (try (have y0 : w.heap.size ≤ w1.heap.size := by omega)); (try (have z0 : w.heap.size < w1.heap.size := by omega)); (try (have z1 : w.heap.size + 1 < w1.heap.size := by omega)); (try (have z2 : w.heap.size + 1 + 1 < w1.heap.size := by omega)); (try (have z3 : w.heap.size + 1 + 1 + 1 < w1.heap.size := by omega)); (try (have z4 : w.heap.size + 1 + 1 + 1 + 1 < w1.heap.size := by omega)); (try (have x0 : wc.heap.size < w1.heap.size := by omega)); (try (have x1 : wc.heap.size ≤ w1.heap.size := by omega))) | (go_at_call 80; refine (inRange_any _ _ _ _).mono ?_; rintro e w' ⟨rfl, hw'⟩; rw [hw']; clear hw' w'))
      go_ret
      exact says (by rw [HC.out]) (by (repeat (first | (with_reducible exact Below.refl _ _) | (with_reducible assumption) | (with_reducible refine ext_alloc ?_ _) | (with_reducible refine ext_drew ?_) | (with_reducible refine ext_drewN ?_ _) | (with_reducible refine ext_set ?_ (by first | exact Nat.le_refl _ | (simp; done) | (simp; omega) | omega) _) | (with_reducible refine ext_trans ?_ (by assumption)))))
    · have ⟨i1, i2⟩ := inB_get hi
      obtain ⟨k, rfl⟩ := Int.eq_ofNat_of_zero_le i1
      have hkn : k < n := by omega
      have HC := Lib.hid (show arcX c (k : Int) = arcL c.pins (an c.arcs k) by rw [hnn] at hi; simp [arcX, hv, hi])
      obtain ⟨b, off, rfl, hlt, hx⟩ := H3.at (Below.refl _ _) hkn
      have y0 := hx 0 (by omega); have y1 := hx 1 (by omega); have y2 := hx 2 (by omega); have y3 := hx 3 (by omega); have y4 := hx 4 (by omega); have y5 := hx 5 (by omega)
      simp only [Nat.add_zero] at y0
      have hI : (k : Int) < (n : Int) := by omega
      have HAV := Lib.hid av; have HPV := Lib.hid pv
      have HB := Lib.hid (fun (w1 : World) (hb : Below w.heap.size w w1) => implArcT_any (F3 k) (an c.arcs k) (f 2) c.pins w1 ((HF3.out k hkn).up hb) (HF.out.2.2.1.up hb) (HAV.out k hkn) HPV.out (HTb.out.keep hb))
      clear hv H3 hnn hpb hab pv av hx
      go_enter Tryz.func35, Tryz.ntmps35
      have HBx0 := Lib.hid (Bx.box w (f 0) (f 1) (f 2) (.slice (some ⟨b, off, none⟩) n q3) (f 4) (f 5) (f 6) 38)
      go_wp2_with fail
      go_at_call 44
      refine (HIs.out _ (by (repeat (first | (with_reducible exact Below.refl _ _) | (with_reducible assumption) | (with_reducible refine ext_alloc ?_ _) | (with_reducible refine ext_drew ?_) | (with_reducible refine ext_drewN ?_ _) | (with_reducible refine ext_set ?_ (by first | exact Nat.le_refl _ | (simp; done) | (simp; omega) | omega) _) | (with_reducible refine ext_trans ?_ (by assumption)))))).mono ?_
      rintro e w1 ⟨rfl, hb1⟩
      have HBx1 := Lib.hid (Bx.call HBx0.out hb1)
      have ⟨r0, r1, r2, r3, r4, r5, r6, hbw1, L1⟩ := HBx1.out
      have y0 := cell_keep y0 hbw1; have y1 := cell_keep y1 hbw1; have y2 := cell_keep y2 hbw1; have y3 := cell_keep y3 hbw1; have y4 := cell_keep y4 hbw1; have y5 := cell_keep y5 hbw1
      clear HBx0 hb1 HIs
      go_upto_region 3 with (go_at_call 80; refine (inRange_any _ _ _ _).mono ?_; rintro e w' ⟨rfl, hw'⟩; rw [hw']; clear hw' w')
      refine wp_region_held_drew (S := (fun w' => w'.cell? ⟨w.heap.size, 2, none⟩ = some (f 2) ∧ w'.cell? ⟨w.heap.size, 3, none⟩ = some (.slice (some ⟨b, off, none⟩) n q3) ∧ w'.cell? ⟨b, off + k * 6, none⟩ = some (F3 k 0) ∧ w'.cell? ⟨b, off + k * 6 + 1, none⟩ = some (F3 k 1) ∧ w'.cell? ⟨b, off + k * 6 + 2, none⟩ = some (F3 k 2) ∧ w'.cell? ⟨b, off + k * 6 + 3, none⟩ = some (F3 k 3) ∧ w'.cell? ⟨b, off + k * 6 + 4, none⟩ = some (F3 k 4) ∧ w'.cell? ⟨b, off + k * 6 + 5, none⟩ = some (F3 k 5) ∧ Below w.heap.size w w' ∧ w.heap.size < w'.heap.size)) (by kernel_rfl) ?_ (fun hHeld => ?_)
      · (try dsimp only); ((repeat' apply And.intro) <;> first | assumption | ((repeat (first | (with_reducible exact Below.refl _ _) | (with_reducible assumption) | (with_reducible refine ext_alloc ?_ _) | (with_reducible refine ext_drew ?_) | (with_reducible refine ext_drewN ?_ _) | (with_reducible refine ext_set ?_ (by first | exact Nat.le_refl _ | (simp; done) | (simp; omega) | omega) _) | (with_reducible refine ext_trans ?_ (by assumption)))); done) | (simp [go_sem]; done) | (simp [go_sem, *]; done) | (simp; omega) | omega)
      (try dsimp only at hHeld)
      refine wpAnyH_take (i := 0) (oi := _) (v := ?_) rfl (by kernel_rfl) (by kernel_rfl) (by kernel_rfl) (fun _ _ _ h => h) (Or.inl ⟨by rfl, ?_⟩) (by with_reducible assumption) ?_
      rotate_left
      focus (intro w' hSw; (try dsimp only at hSw); go_simp; try (with_reducible rfl))
      (try simp only [Act.put, List.getElem_toArray, List.getElem_cons_zero, List.getElem_cons_succ, List.setIfInBounds_toArray, List.set_cons_zero, List.set_cons_succ])
      refine wpAnyH_take (i := 1) (oi := _) (v := ?_) rfl (by kernel_rfl) (by kernel_rfl) (by kernel_rfl) (fun _ _ _ h => h) (Or.inl ⟨by rfl, ?_⟩) (by with_reducible assumption) ?_
      rotate_left
      focus (intro w' hSw; (try dsimp only at hSw); go_simp; try (with_reducible rfl))
      (try simp only [Act.put, List.getElem_toArray, List.getElem_cons_zero, List.getElem_cons_succ, List.setIfInBounds_toArray, List.set_cons_zero, List.set_cons_succ])
      refine wpAnyH_take (i := 2) (oi := _) (v := ?_) rfl (by kernel_rfl) (by kernel_rfl) (by kernel_rfl) (fun _ _ _ h => h) (Or.inl ⟨by rfl, ?_⟩) (by with_reducible assumption) ?_
      rotate_left
      focus (intro w' hSw; (try dsimp only at hSw); go_simp; try (with_reducible rfl))
      (try simp only [Act.put, List.getElem_toArray, List.getElem_cons_zero, List.getElem_cons_succ, List.setIfInBounds_toArray, List.set_cons_zero, List.set_cons_succ])
      refine wpAnyH_take (i := 3) (oi := _) (v := ?_) rfl (by kernel_rfl) (by kernel_rfl) (by kernel_rfl) (fun _ _ _ h => h) (Or.inl ⟨by rfl, ?_⟩) (by with_reducible assumption) ?_
      rotate_left
      focus (intro w' hSw; (try dsimp only at hSw); go_simp; try (with_reducible rfl))
      (try simp only [Act.put, List.getElem_toArray, List.getElem_cons_zero, List.getElem_cons_succ, List.setIfInBounds_toArray, List.set_cons_zero, List.set_cons_succ])
      refine wpAnyH_take (i := 4) (oi := _) (v := ?_) rfl (by kernel_rfl) (by kernel_rfl) (by kernel_rfl) (fun _ _ _ h => h) (Or.inl ⟨by rfl, ?_⟩) (by with_reducible assumption) ?_
      rotate_left
      focus (intro w' hSw; (try dsimp only at hSw); go_simp; try (with_reducible rfl))
      (try simp only [Act.put, List.getElem_toArray, List.getElem_cons_zero, List.getElem_cons_succ, List.setIfInBounds_toArray, List.set_cons_zero, List.set_cons_succ])
      refine wpAnyH_take (i := 5) (oi := _) (v := ?_) rfl (by kernel_rfl) (by kernel_rfl) (by kernel_rfl) (fun _ _ _ h => h) (Or.inl ⟨by rfl, ?_⟩) (by with_reducible assumption) ?_
      rotate_left
      focus (intro w' hSw; (try dsimp only at hSw); go_simp; try (with_reducible rfl))
      (try simp only [Act.put, List.getElem_toArray, List.getElem_cons_zero, List.getElem_cons_succ, List.setIfInBounds_toArray, List.set_cons_zero, List.set_cons_succ])
      refine wpAnyH_take (i := 6) (oi := _) (v := ?_) rfl (by kernel_rfl) (by kernel_rfl) (by kernel_rfl) (fun _ _ _ h => h) (Or.inl ⟨by rfl, ?_⟩) (by with_reducible assumption) ?_
      rotate_left
      focus (intro w' hSw; (try dsimp only at hSw); go_simp; try (with_reducible rfl))
      (try simp only [Act.put, List.getElem_toArray, List.getElem_cons_zero, List.getElem_cons_succ, List.setIfInBounds_toArray, List.set_cons_zero, List.set_cons_succ])
      refine wpAnyH_ready (rs := [7]) (by kernel_rfl) (by simp) ?_
      refine AllReadyH.cons rfl (fun K hK => ?_) AllReadyH.nil
      go_simp
      (go_at_call 64; refine (HB.out _ hHeld.2.2.2.2.2.2.2.2.1).mono ?_; rintro e wn ⟨T, rfl, hT, hTs, hb⟩)
      refine hK.out _ _ (keep8 hHeld hb) (fun hHeld' => ?_)
      clear hK K hHeld
      have hHeld := hHeld'
      clear hHeld'
      (try simp only [Act.put, List.getElem_toArray, List.getElem_cons_zero, List.getElem_cons_succ, List.setIfInBounds_toArray, List.set_cons_zero, List.set_cons_succ])
      refine wpAnyH_take (i := 8) (oi := _) (v := ?_) rfl (by kernel_rfl) (by kernel_rfl) (by kernel_rfl) (fun _ _ _ h => h) (Or.inl ⟨by rfl, ?_⟩) (by with_reducible assumption) ?_
      rotate_left
      focus (intro w' hSw; (try dsimp only at hSw); go_simp; try (with_reducible rfl))
      (try simp only [Act.put, List.getElem_toArray, List.getElem_cons_zero, List.getElem_cons_succ, List.setIfInBounds_toArray, List.set_cons_zero, List.set_cons_succ])
      refine wpAnyH_done (by kernel_rfl) ?_ _
      have B9 := hHeld.2.2.2.2.2.2.2.2.1
      go_wp2_with fail
      go_ret
      exact says (by rw [HC.out]; exact hT) (by (repeat (first | (with_reducible exact Below.refl _ _) | (with_reducible assumption) | (with_reducible refine ext_alloc ?_ _) | (with_reducible refine ext_drew ?_) | (with_reducible refine ext_drewN ?_ _) | (with_reducible refine ext_set ?_ (by first | exact Nat.le_refl _ | (simp; done) | (simp; omega) | omega) _) | (with_reducible refine ext_trans ?_ (by assumption)))))
set_option maxHeartbeats 2000000 in
theorem specArcTx_any (f : Nat → Value) (c : CellD) (x : Int) (w : World) (h : CellF w w.heap.size f c) : Calls Tryz.prog 34 #[.agg #[f 0, f 1, f 2, f 3, f 4, f 5, f 6], .int .i64 x] w (Says (arcX c x) w) := by
  have HF := Lib.hid h
  have x3 := h.2.2.2.1
  clear h
  obtain ⟨F3, c3, f3⟩ := x3
  obtain ⟨n, hnn⟩ : ∃ n, n = c.arcs.length := ⟨_, rfl⟩
  rw [← hnn] at c3 f3
  have H3 := c3
  obtain ⟨hn, a3, q3, e3, _⟩ := c3
  rw [e3] at H3
  have E3 := Lib.hid e3
  have HF3 := Lib.hid f3
  have HIs := Lib.hid (fun (w1 : World) (hb : Below w.heap.size w w1) => by
    have h := specIsCell_any f c w1 (HF.out.up hb)
    rw [E3.out] at h
    exact h : ∀ (w1 : World), Below w.heap.size w w1 → Calls Tryz.prog 43 #[.agg #[f 0, f 1, f 2, .slice a3 n q3, f 4, f 5, f 6]] w1 fun e w' => e = .returned (.bool (cellB c)) ∧ Below w1.heap.size w1 w')
  rw [e3]
  clear e3 f3
  cases hv : cellB c
  · have HC := Lib.hid (show arcX c x = [] by simp [arcX, hv])
    rw [hv] at HIs
    clear hv H3 hnn
    go_enter Tryz.func34, Tryz.ntmps34
    go_wp2_with (go_at_call 43; refine (HIs.out _ (by (repeat (first | (with_reducible exact Below.refl _ _) | (with_reducible assumption) | (with_reducible refine ext_alloc ?_ _) | (with_reducible refine ext_drew ?_) | (with_reducible refine ext_drewN ?_ _) | (with_reducible refine ext_set ?_ (by first | exact Nat.le_refl _ | (simp; done) | (simp; omega) | omega) _) | (with_reducible refine ext_trans ?_ (by assumption)))))).mono ?_; rintro e w1 ⟨rfl, hb⟩; obtain ⟨hc, hf⟩ := bcell hb; have hz := hb.size; (try simp at hz); (try (have hz := Nat.lt_of_succ_le hz)); (try (have y0 : w.heap.size ≤ w1.heap.size := by omega)); (try (have z0 : w.heap.size < w1.heap.size := by omega)); (try (have z1 : w.heap.size + 1 < w1.heap.size := by omega)); (try (have z2 : w.heap.size + 1 + 1 < w1.heap.size := by omega)); (try (have z3 : w.heap.size + 1 + 1 + 1 < w1.heap.size := by omega)); (try (have z4 : w.heap.size + 1 + 1 + 1 + 1 < w1.heap.size := by omega)); (try (have x0 : wc.heap.size < w1.heap.size := by omega)); (try (have x1 : wc.heap.size ≤ w1.heap.size := by omega)))
    go_ret
    exact says (by rw [HC.out]) (by (repeat (first | (with_reducible exact Below.refl _ _) | (with_reducible assumption) | (with_reducible refine ext_alloc ?_ _) | (with_reducible refine ext_drew ?_) | (with_reducible refine ext_drewN ?_ _) | (with_reducible refine ext_set ?_ (by first | exact Nat.le_refl _ | (simp; done) | (simp; omega) | omega) _) | (with_reducible refine ext_trans ?_ (by assumption)))))
  · rw [hv] at HIs
    have ⟨hpb, _, hab, _⟩ := cell_get hv
    have ⟨_, _, pv⟩ := pins_v hpb
    have ⟨na8, av⟩ := arcs_v hab
    rw [← hnn] at na8 av
    cases hi : inB x 0 ((n : Int) - 1)
    · have HC := Lib.hid (show arcX c x = [] by rw [hnn] at hi; simp [arcX, hi])
      clear hv H3 hnn hpb hab pv av
      go_enter Tryz.func34, Tryz.ntmps34
      go_wp2_with (first | (go_at_call 43; refine (HIs.out _ (by (repeat (first | (with_reducible exact Below.refl _ _) | (with_reducible assumption) | (with_reducible refine ext_alloc ?_ _) | (with_reducible refine ext_drew ?_) | (with_reducible refine ext_drewN ?_ _) | (with_reducible refine ext_set ?_ (by first | exact Nat.le_refl _ | (simp; done) | (simp; omega) | omega) _) | (with_reducible refine ext_trans ?_ (by assumption)))))).mono ?_; rintro e w1 ⟨rfl, hb⟩; obtain ⟨hc, hf⟩ := bcell hb; have hz := hb.size; (try simp at hz); (try (have hz := Nat.lt_of_succ_le hz)); (try (have y0 : w.heap.size ≤ w1.heap.size := by omega)); (try (have z0 : w.heap.size < w1.heap.size := by omega)); (try (have z1 : w.heap.size + 1 < w1.heap.size := by omega)); (try (have z2 : w.heap.size + 1 + 1 < w1.heap.size := by omega)); (try (have z3 : w.heap.size + 1 + 1 + 1 < w1.heap.size := by omega)); (try (have z4 : w.heap.size + 1 + 1 + 1 + 1 < w1.heap.size := by omega)); (try (have x0 : wc.heap.size < w1.heap.size := by omega)); (try (have x1 : wc.heap.size ≤ w1.heap.size := by omega))) | (go_at_call 78; refine (l01In_any _ _ _ _).mono ?_; rintro e w' ⟨rfl, hw'⟩; rw [hw']; clear hw' w'))
      go_ret
      exact says (by rw [HC.out]) (by (repeat (first | (with_reducible exact Below.refl _ _) | (with_reducible assumption) | (with_reducible refine ext_alloc ?_ _) | (with_reducible refine ext_drew ?_) | (with_reducible refine ext_drewN ?_ _) | (with_reducible refine ext_set ?_ (by first | exact Nat.le_refl _ | (simp; done) | (simp; omega) | omega) _) | (with_reducible refine ext_trans ?_ (by assumption)))))
    · have ⟨i1, i2⟩ := inB_get hi
      obtain ⟨k, rfl⟩ := Int.eq_ofNat_of_zero_le i1
      have hkn : k < n := by omega
      have HC := Lib.hid (show arcX c (k : Int) = arcL c.pins (an c.arcs k) by rw [hnn] at hi; simp [arcX, hv, hi])
      obtain ⟨b, off, rfl, hlt, hx⟩ := H3.at (Below.refl _ _) hkn
      have y0 := hx 0 (by omega); have y1 := hx 1 (by omega); have y2 := hx 2 (by omega); have y3 := hx 3 (by omega); have y4 := hx 4 (by omega); have y5 := hx 5 (by omega)
      simp only [Nat.add_zero] at y0
      have hI : (k : Int) < (n : Int) := by omega
      have HAV := Lib.hid av; have HPV := Lib.hid pv
      have HB := Lib.hid (fun (w1 : World) (hb : Below w.heap.size w w1) => by
        have h := specArcT_any f (F3 k) c (an c.arcs k) w1 (HF.out.up hb) ((HF3.out k hkn).up hb) (HAV.out k hkn) HPV.out
        rw [E3.out] at h
        exact h : ∀ (w1 : World), Below w.heap.size w w1 → Calls Tryz.prog 79 #[.agg #[f 0, f 1, f 2, .slice (some ⟨b, off, none⟩) n q3, f 4, f 5, f 6], .agg #[F3 k 0, F3 k 1, F3 k 2, F3 k 3, F3 k 4, F3 k 5]] w1 (Says (arcL c.pins (an c.arcs k)) w1))
      clear hv H3 hnn hpb hab pv av hx
      go_enter Tryz.func34, Tryz.ntmps34
      have HBx0 := Lib.hid (Bx.box w (f 0) (f 1) (f 2) (.slice (some ⟨b, off, none⟩) n q3) (f 4) (f 5) (f 6) 38)
      go_wp2_with fail
      go_at_call 43
      refine (HIs.out _ (by (repeat (first | (with_reducible exact Below.refl _ _) | (with_reducible assumption) | (with_reducible refine ext_alloc ?_ _) | (with_reducible refine ext_drew ?_) | (with_reducible refine ext_drewN ?_ _) | (with_reducible refine ext_set ?_ (by first | exact Nat.le_refl _ | (simp; done) | (simp; omega) | omega) _) | (with_reducible refine ext_trans ?_ (by assumption)))))).mono ?_
      rintro e w1 ⟨rfl, hb1⟩
      have HBx1 := Lib.hid (Bx.call HBx0.out hb1)
      have ⟨r0, r1, r2, r3, r4, r5, r6, hbw1, L1⟩ := HBx1.out
      have y0 := cell_keep y0 hbw1; have y1 := cell_keep y1 hbw1; have y2 := cell_keep y2 hbw1; have y3 := cell_keep y3 hbw1; have y4 := cell_keep y4 hbw1; have y5 := cell_keep y5 hbw1
      clear HBx0 hb1 HIs
      go_upto_region 3 with (go_at_call 78; refine (l01In_any _ _ _ _).mono ?_; rintro e w' ⟨rfl, hw'⟩; rw [hw']; clear hw' w')
      refine wp_region_held_drew (S := (fun w' => w'.cell? ⟨w.heap.size, 0, none⟩ = some (f 0) ∧ w'.cell? ⟨w.heap.size, 1, none⟩ = some (f 1) ∧ w'.cell? ⟨w.heap.size, 2, none⟩ = some (f 2) ∧ w'.cell? ⟨w.heap.size, 3, none⟩ = some (.slice (some ⟨b, off, none⟩) n q3) ∧ w'.cell? ⟨w.heap.size, 4, none⟩ = some (f 4) ∧ w'.cell? ⟨w.heap.size, 5, none⟩ = some (f 5) ∧ w'.cell? ⟨w.heap.size, 6, none⟩ = some (f 6) ∧ w'.cell? ⟨b, off + k * 6, none⟩ = some (F3 k 0) ∧ w'.cell? ⟨b, off + k * 6 + 1, none⟩ = some (F3 k 1) ∧ w'.cell? ⟨b, off + k * 6 + 2, none⟩ = some (F3 k 2) ∧ w'.cell? ⟨b, off + k * 6 + 3, none⟩ = some (F3 k 3) ∧ w'.cell? ⟨b, off + k * 6 + 4, none⟩ = some (F3 k 4) ∧ w'.cell? ⟨b, off + k * 6 + 5, none⟩ = some (F3 k 5) ∧ Below w.heap.size w w' ∧ w.heap.size < w'.heap.size)) (by kernel_rfl) ?_ (fun hHeld => ?_)
      · (try dsimp only); ((repeat' apply And.intro) <;> first | assumption | ((repeat (first | (with_reducible exact Below.refl _ _) | (with_reducible assumption) | (with_reducible refine ext_alloc ?_ _) | (with_reducible refine ext_drew ?_) | (with_reducible refine ext_drewN ?_ _) | (with_reducible refine ext_set ?_ (by first | exact Nat.le_refl _ | (simp; done) | (simp; omega) | omega) _) | (with_reducible refine ext_trans ?_ (by assumption)))); done) | (simp [go_sem]; done) | (simp [go_sem, *]; done) | (simp; omega) | omega)
      (try dsimp only at hHeld)
      refine wpAnyH_take (i := 0) (oi := _) (v := ?_) rfl (by kernel_rfl) (by kernel_rfl) (by kernel_rfl) (fun _ _ _ h => h) (Or.inl ⟨by rfl, ?_⟩) (by with_reducible assumption) ?_
      rotate_left
      focus (intro w' hSw; (try dsimp only at hSw); go_simp; try (with_reducible rfl))
      (try simp only [Act.put, List.getElem_toArray, List.getElem_cons_zero, List.getElem_cons_succ, List.setIfInBounds_toArray, List.set_cons_zero, List.set_cons_succ])
      refine wpAnyH_take (i := 1) (oi := _) (v := ?_) rfl (by kernel_rfl) (by kernel_rfl) (by kernel_rfl) (fun _ _ _ h => h) (Or.inl ⟨by rfl, ?_⟩) (by with_reducible assumption) ?_
      rotate_left
      focus (intro w' hSw; (try dsimp only at hSw); go_simp; try (with_reducible rfl))
      (try simp only [Act.put, List.getElem_toArray, List.getElem_cons_zero, List.getElem_cons_succ, List.setIfInBounds_toArray, List.set_cons_zero, List.set_cons_succ])
      refine wpAnyH_take (i := 2) (oi := _) (v := ?_) rfl (by kernel_rfl) (by kernel_rfl) (by kernel_rfl) (fun _ _ _ h => h) (Or.inl ⟨by rfl, ?_⟩) (by with_reducible assumption) ?_
      rotate_left
      focus (intro w' hSw; (try dsimp only at hSw); go_simp; try (with_reducible rfl))
      (try simp only [Act.put, List.getElem_toArray, List.getElem_cons_zero, List.getElem_cons_succ, List.setIfInBounds_toArray, List.set_cons_zero, List.set_cons_succ])
      refine wpAnyH_take (i := 3) (oi := _) (v := ?_) rfl (by kernel_rfl) (by kernel_rfl) (by kernel_rfl) (fun _ _ _ h => h) (Or.inl ⟨by rfl, ?_⟩) (by with_reducible assumption) ?_
      rotate_left
      focus (intro w' hSw; (try dsimp only at hSw); go_simp; try (with_reducible rfl))
      (try simp only [Act.put, List.getElem_toArray, List.getElem_cons_zero, List.getElem_cons_succ, List.setIfInBounds_toArray, List.set_cons_zero, List.set_cons_succ])
      refine wpAnyH_take (i := 4) (oi := _) (v := ?_) rfl (by kernel_rfl) (by kernel_rfl) (by kernel_rfl) (fun _ _ _ h => h) (Or.inl ⟨by rfl, ?_⟩) (by with_reducible assumption) ?_
      rotate_left
      focus (intro w' hSw; (try dsimp only at hSw); go_simp; try (with_reducible rfl))
      (try simp only [Act.put, List.getElem_toArray, List.getElem_cons_zero, List.getElem_cons_succ, List.setIfInBounds_toArray, List.set_cons_zero, List.set_cons_succ])
      refine wpAnyH_take (i := 5) (oi := _) (v := ?_) rfl (by kernel_rfl) (by kernel_rfl) (by kernel_rfl) (fun _ _ _ h => h) (Or.inl ⟨by rfl, ?_⟩) (by with_reducible assumption) ?_
      rotate_left
      focus (intro w' hSw; (try dsimp only at hSw); go_simp; try (with_reducible rfl))
      (try simp only [Act.put, List.getElem_toArray, List.getElem_cons_zero, List.getElem_cons_succ, List.setIfInBounds_toArray, List.set_cons_zero, List.set_cons_succ])
      refine wpAnyH_ready (rs := [6]) (by kernel_rfl) (by simp) ?_
      refine AllReadyH.cons rfl (fun K hK => ?_) AllReadyH.nil
      go_simp
      (go_at_call 79; refine (HB.out _ hHeld.2.2.2.2.2.2.2.2.2.2.2.2.2.1).mono ?_; rintro e wn ⟨T, rfl, hT, hTs, hb⟩)
      refine hK.out _ _ (keep13 hHeld hb) (fun hHeld' => ?_)
      clear hK K hHeld
      have hHeld := hHeld'
      clear hHeld'
      (try simp only [Act.put, List.getElem_toArray, List.getElem_cons_zero, List.getElem_cons_succ, List.setIfInBounds_toArray, List.set_cons_zero, List.set_cons_succ])
      refine wpAnyH_take (i := 7) (oi := _) (v := ?_) rfl (by kernel_rfl) (by kernel_rfl) (by kernel_rfl) (fun _ _ _ h => h) (Or.inl ⟨by rfl, ?_⟩) (by with_reducible assumption) ?_
      rotate_left
      focus (intro w' hSw; (try dsimp only at hSw); go_simp; try (with_reducible rfl))
      (try simp only [Act.put, List.getElem_toArray, List.getElem_cons_zero, List.getElem_cons_succ, List.setIfInBounds_toArray, List.set_cons_zero, List.set_cons_succ])
      refine wpAnyH_done (by kernel_rfl) ?_ _
      have B9 := hHeld.2.2.2.2.2.2.2.2.2.2.2.2.2.1
      go_wp2_with fail
      go_ret
      exact says (by rw [HC.out]; exact hT) (by (repeat (first | (with_reducible exact Below.refl _ _) | (with_reducible assumption) | (with_reducible refine ext_alloc ?_ _) | (with_reducible refine ext_drew ?_) | (with_reducible refine ext_drewN ?_ _) | (with_reducible refine ext_set ?_ (by first | exact Nat.le_refl _ | (simp; done) | (simp; omega) | omega) _) | (with_reducible refine ext_trans ?_ (by assumption)))))
set_option maxHeartbeats 1000000 in
theorem implDig_any (f : Nat → Value) (c : CellD) (w : World) (h : CellF w w.heap.size f c) (htb : Tab w) : Calls Tryz.prog 20 #[.agg #[f 0, f 1, f 2, f 3, f 4, f 5, f 6]] w fun e w' => e = .returned (.int .i64 (digX c)) ∧ Below w.heap.size w w' := by
  have HTb := Lib.hid htb
  clear htb
  have HF := Lib.hid h
  have HIs := Lib.hid (fun (w1 : World) (hb : Below w.heap.size w w1) => implIsCell_any f c w1 (HF.out.up hb))
  clear h
  cases hv : cellB c
  · have HC := Lib.hid (show digX c = -1 by simp [digX, hv])
    rw [hv] at HIs
    clear hv
    go_enter Tryz.func20, Tryz.ntmps20
    go_wp2_with (go_at_call 44; refine (HIs.out _ (by (repeat (first | (with_reducible exact Below.refl _ _) | (with_reducible assumption) | (with_reducible refine ext_alloc ?_ _) | (with_reducible refine ext_drew ?_) | (with_reducible refine ext_drewN ?_ _) | (with_reducible refine ext_set ?_ (by first | exact Nat.le_refl _ | (simp; done) | (simp; omega) | omega) _) | (with_reducible refine ext_trans ?_ (by assumption)))))).mono ?_; rintro e w1 ⟨rfl, hb⟩; obtain ⟨hc, hf⟩ := bcell hb; have hz := hb.size; (try simp at hz); (try (have hz := Nat.lt_of_succ_le hz)); (try (have y0 : w.heap.size ≤ w1.heap.size := by omega)); (try (have z0 : w.heap.size < w1.heap.size := by omega)); (try (have z1 : w.heap.size + 1 < w1.heap.size := by omega)); (try (have z2 : w.heap.size + 1 + 1 < w1.heap.size := by omega)); (try (have z3 : w.heap.size + 1 + 1 + 1 < w1.heap.size := by omega)); (try (have z4 : w.heap.size + 1 + 1 + 1 + 1 < w1.heap.size := by omega)); (try (have x0 : wc.heap.size < w1.heap.size := by omega)); (try (have x1 : wc.heap.size ≤ w1.heap.size := by omega)))
    go_ret
    rw [HC.out]
    exact ⟨rfl, by (repeat (first | (with_reducible exact Below.refl _ _) | (with_reducible assumption) | (with_reducible refine ext_alloc ?_ _) | (with_reducible refine ext_drew ?_) | (with_reducible refine ext_drewN ?_ _) | (with_reducible refine ext_set ?_ (by first | exact Nat.le_refl _ | (simp; done) | (simp; omega) | omega) _) | (with_reducible refine ext_trans ?_ (by assumption))))⟩
  · have HC := Lib.hid (show digX c = dgs (cellX c) by simp [digX, hv])
    have HV := Lib.hid hv
    rw [hv] at HIs
    have hlen := cellX_len hv
    have HT := Lib.hid (fun (w1 : World) (hb : Below w.heap.size w w1) => implCellX_any f c w1 (HF.out.up hb) HV.out (HTb.out.keep hb))
    clear hv
    go_enter Tryz.func20, Tryz.ntmps20
    go_wp2_with (first | (go_at_call 44; refine (HIs.out _ (by (repeat (first | (with_reducible exact Below.refl _ _) | (with_reducible assumption) | (with_reducible refine ext_alloc ?_ _) | (with_reducible refine ext_drew ?_) | (with_reducible refine ext_drewN ?_ _) | (with_reducible refine ext_set ?_ (by first | exact Nat.le_refl _ | (simp; done) | (simp; omega) | omega) _) | (with_reducible refine ext_trans ?_ (by assumption)))))).mono ?_; rintro e w1 ⟨rfl, hb⟩; obtain ⟨hc, hf⟩ := bcell hb; have hz := hb.size; (try simp at hz); (try (have hz := Nat.lt_of_succ_le hz)); (try (have y0 : w.heap.size ≤ w1.heap.size := by omega)); (try (have z0 : w.heap.size < w1.heap.size := by omega)); (try (have z1 : w.heap.size + 1 < w1.heap.size := by omega)); (try (have z2 : w.heap.size + 1 + 1 < w1.heap.size := by omega)); (try (have z3 : w.heap.size + 1 + 1 + 1 < w1.heap.size := by omega)); (try (have z4 : w.heap.size + 1 + 1 + 1 + 1 < w1.heap.size := by omega)); (try (have x0 : wc.heap.size < w1.heap.size := by omega)); (try (have x1 : wc.heap.size ≤ w1.heap.size := by omega))) | ((go_at_call 26; refine (HT.out _ (by (repeat (first | (with_reducible exact Below.refl _ _) | (with_reducible assumption) | (with_reducible refine ext_alloc ?_ _) | (with_reducible refine ext_drew ?_) | (with_reducible refine ext_drewN ?_ _) | (with_reducible refine ext_set ?_ (by first | exact Nat.le_refl _ | (simp; done) | (simp; omega) | omega) _) | (with_reducible refine ext_trans ?_ (by assumption)))))).mono ?_; rintro e w2 ⟨J, rfl, hJ, hJs, hb⟩; obtain ⟨hc, hf⟩ := bcell hb; have hz := hb.size; (try simp at hz); (try (have hz := Nat.lt_of_succ_le hz)); (try (have y0 : w.heap.size ≤ w2.heap.size := by omega)); (try (have z0 : w.heap.size < w2.heap.size := by omega)); (try (have z1 : w.heap.size + 1 < w2.heap.size := by omega)); (try (have z2 : w.heap.size + 1 + 1 < w2.heap.size := by omega)); (try (have z3 : w.heap.size + 1 + 1 + 1 < w2.heap.size := by omega)); (try (have z4 : w.heap.size + 1 + 1 + 1 + 1 < w2.heap.size := by omega))); have hJb : J.size ≤ 177015 := (by omega); have HJ := Lib.hid hJ; clear hJ hJs))
    go_loopw [4, 13] (fun n i wr => ∃ (k : Nat) (N : Int), k ≤ J.size ∧ i = .int .i64 k ∧ n = .int .i64 N ∧ Hid (N = dgs (J.data.toList.take k)) ∧ 0 ≤ N ∧ N < 1000000007 ∧ Below w.heap.size w wr) (fun _ i _ => J.size - (intOf i).toNat)
    case atStart => exact ⟨0, 0, by omega, rfl, rfl, Lib.hid rfl, by omega, by omega, by (repeat (first | (with_reducible exact Below.refl _ _) | (with_reducible assumption) | (with_reducible refine ext_alloc ?_ _) | (with_reducible refine ext_drew ?_) | (with_reducible refine ext_drewN ?_ _) | (with_reducible refine ext_set ?_ (by first | exact Nat.le_refl _ | (simp; done) | (simp; omega) | omega) _) | (with_reducible refine ext_trans ?_ (by assumption))))⟩
    case round =>
      obtain ⟨k, N, hk, rfl, rfl, HN, h0, h1, hbw⟩ := hrel
      by_cases hlt : k < J.size
      · have hI : (k : Int) < (J.size : Int) := by omega
        have i00 : (0 : Int) ≤ (k : Int) := by omega
        have hb := J[k].toNat_lt
        have q0 : IntKind.i64.wrap (J[k].toNat : Int) = (J[k].toNat : Int) := IntWalk.i64_in _ (by omega)
        have q1 : IntKind.i64.wrap (31 * N) = 31 * N := IntWalk.i64_in _ (by omega)
        have q2 : IntKind.i64.wrap (31 * N + (J[k].toNat : Int)) = 31 * N + (J[k].toNat : Int) := IntWalk.i64_in _ (by omega)
        have q3 : (31 * N + (J[k].toNat : Int)).tmod 1000000007 = (31 * N + (J[k].toNat : Int)) % 1000000007 := Int.tmod_eq_emod_of_nonneg (by omega)
        have q4 : IntKind.i64.wrap ((31 * N + (J[k].toNat : Int)) % 1000000007) = (31 * N + (J[k].toNat : Int)) % 1000000007 := IntWalk.i64_in _ (by omega)
        have HS := Lib.hid (dgs_step J k hlt)
        go_wp2
        go_roundw
        case rel => exact ⟨k + 1, (31 * N + (J[k].toNat : Int)) % 1000000007, by omega, by go_num, by first | rfl | simp [*], Lib.hid (by rw [HS.out, HN.out]), by omega, by omega, hbw⟩
        case measure => simp [intOf]; omega
      · obtain rfl : k = J.size := by omega
        have HZ := Lib.hid (show N = digX c by rw [HC.out, ← HJ.out, HN.out, ← sz_list, List.take_length])
        go_wp2
        go_ret
        rw [← HZ.out]
        exact ⟨rfl, hbw⟩
set_option maxHeartbeats 1000000 in
theorem specDig_any (f : Nat → Value) (c : CellD) (w : World) (h : CellF w w.heap.size f c) : Calls Tryz.prog 37 #[.agg #[f 0, f 1, f 2, f 3, f 4, f 5, f 6]] w fun e w' => e = .returned (.int .i64 (digX c)) ∧ Below w.heap.size w w' := by
  have HF := Lib.hid h
  have HIs := Lib.hid (fun (w1 : World) (hb : Below w.heap.size w w1) => specIsCell_any f c w1 (HF.out.up hb))
  clear h
  cases hv : cellB c
  · have HC := Lib.hid (show digX c = -1 by simp [digX, hv])
    rw [hv] at HIs
    clear hv
    go_enter Tryz.func37, Tryz.ntmps37
    go_wp2_with (go_at_call 43; refine (HIs.out _ (by (repeat (first | (with_reducible exact Below.refl _ _) | (with_reducible assumption) | (with_reducible refine ext_alloc ?_ _) | (with_reducible refine ext_drew ?_) | (with_reducible refine ext_drewN ?_ _) | (with_reducible refine ext_set ?_ (by first | exact Nat.le_refl _ | (simp; done) | (simp; omega) | omega) _) | (with_reducible refine ext_trans ?_ (by assumption)))))).mono ?_; rintro e w1 ⟨rfl, hb⟩; obtain ⟨hc, hf⟩ := bcell hb; have hz := hb.size; (try simp at hz); (try (have hz := Nat.lt_of_succ_le hz)); (try (have y0 : w.heap.size ≤ w1.heap.size := by omega)); (try (have z0 : w.heap.size < w1.heap.size := by omega)); (try (have z1 : w.heap.size + 1 < w1.heap.size := by omega)); (try (have z2 : w.heap.size + 1 + 1 < w1.heap.size := by omega)); (try (have z3 : w.heap.size + 1 + 1 + 1 < w1.heap.size := by omega)); (try (have z4 : w.heap.size + 1 + 1 + 1 + 1 < w1.heap.size := by omega)); (try (have x0 : wc.heap.size < w1.heap.size := by omega)); (try (have x1 : wc.heap.size ≤ w1.heap.size := by omega)))
    go_ret
    rw [HC.out]
    exact ⟨rfl, by (repeat (first | (with_reducible exact Below.refl _ _) | (with_reducible assumption) | (with_reducible refine ext_alloc ?_ _) | (with_reducible refine ext_drew ?_) | (with_reducible refine ext_drewN ?_ _) | (with_reducible refine ext_set ?_ (by first | exact Nat.le_refl _ | (simp; done) | (simp; omega) | omega) _) | (with_reducible refine ext_trans ?_ (by assumption))))⟩
  · have HC := Lib.hid (show digX c = dgs (cellX c) by simp [digX, hv])
    have HV := Lib.hid hv
    rw [hv] at HIs
    have hlen := cellX_len hv
    have HT := Lib.hid (fun (w1 : World) (hb : Below w.heap.size w w1) => specCellX_any f c w1 (HF.out.up hb) HV.out)
    clear hv
    go_enter Tryz.func37, Tryz.ntmps37
    go_wp2_with (first | (go_at_call 43; refine (HIs.out _ (by (repeat (first | (with_reducible exact Below.refl _ _) | (with_reducible assumption) | (with_reducible refine ext_alloc ?_ _) | (with_reducible refine ext_drew ?_) | (with_reducible refine ext_drewN ?_ _) | (with_reducible refine ext_set ?_ (by first | exact Nat.le_refl _ | (simp; done) | (simp; omega) | omega) _) | (with_reducible refine ext_trans ?_ (by assumption)))))).mono ?_; rintro e w1 ⟨rfl, hb⟩; obtain ⟨hc, hf⟩ := bcell hb; have hz := hb.size; (try simp at hz); (try (have hz := Nat.lt_of_succ_le hz)); (try (have y0 : w.heap.size ≤ w1.heap.size := by omega)); (try (have z0 : w.heap.size < w1.heap.size := by omega)); (try (have z1 : w.heap.size + 1 < w1.heap.size := by omega)); (try (have z2 : w.heap.size + 1 + 1 < w1.heap.size := by omega)); (try (have z3 : w.heap.size + 1 + 1 + 1 < w1.heap.size := by omega)); (try (have z4 : w.heap.size + 1 + 1 + 1 + 1 < w1.heap.size := by omega)); (try (have x0 : wc.heap.size < w1.heap.size := by omega)); (try (have x1 : wc.heap.size ≤ w1.heap.size := by omega))) | ((go_at_call 58; refine (HT.out _ (by (repeat (first | (with_reducible exact Below.refl _ _) | (with_reducible assumption) | (with_reducible refine ext_alloc ?_ _) | (with_reducible refine ext_drew ?_) | (with_reducible refine ext_drewN ?_ _) | (with_reducible refine ext_set ?_ (by first | exact Nat.le_refl _ | (simp; done) | (simp; omega) | omega) _) | (with_reducible refine ext_trans ?_ (by assumption)))))).mono ?_; rintro e w2 ⟨J, rfl, hJ, hJs, hb⟩; obtain ⟨hc, hf⟩ := bcell hb; have hz := hb.size; (try simp at hz); (try (have hz := Nat.lt_of_succ_le hz)); (try (have y0 : w.heap.size ≤ w2.heap.size := by omega)); (try (have z0 : w.heap.size < w2.heap.size := by omega)); (try (have z1 : w.heap.size + 1 < w2.heap.size := by omega)); (try (have z2 : w.heap.size + 1 + 1 < w2.heap.size := by omega)); (try (have z3 : w.heap.size + 1 + 1 + 1 < w2.heap.size := by omega)); (try (have z4 : w.heap.size + 1 + 1 + 1 + 1 < w2.heap.size := by omega))); have hJb : J.size ≤ 177015 := (by omega); have HJ := Lib.hid hJ; clear hJ hJs))
    go_loopw [4, 5] (fun n i wr => ∃ (k : Nat) (N : Int), k ≤ J.size ∧ i = .int .i64 k ∧ n = .int .i64 N ∧ Hid (N = dgs (J.data.toList.take k)) ∧ 0 ≤ N ∧ N < 1000000007 ∧ Below w.heap.size w wr) (fun _ i _ => J.size - (intOf i).toNat)
    case atStart => exact ⟨0, 0, by omega, rfl, rfl, Lib.hid rfl, by omega, by omega, by (repeat (first | (with_reducible exact Below.refl _ _) | (with_reducible assumption) | (with_reducible refine ext_alloc ?_ _) | (with_reducible refine ext_drew ?_) | (with_reducible refine ext_drewN ?_ _) | (with_reducible refine ext_set ?_ (by first | exact Nat.le_refl _ | (simp; done) | (simp; omega) | omega) _) | (with_reducible refine ext_trans ?_ (by assumption))))⟩
    case round =>
      obtain ⟨k, N, hk, rfl, rfl, HN, h0, h1, hbw⟩ := hrel
      by_cases hlt : k < J.size
      · have hI : (k : Int) < (J.size : Int) := by omega
        have i00 : (0 : Int) ≤ (k : Int) := by omega
        have hb := J[k].toNat_lt
        have q0 : IntKind.i64.wrap (J[k].toNat : Int) = (J[k].toNat : Int) := IntWalk.i64_in _ (by omega)
        have q1 : IntKind.i64.wrap (31 * N) = 31 * N := IntWalk.i64_in _ (by omega)
        have q2 : IntKind.i64.wrap (31 * N + (J[k].toNat : Int)) = 31 * N + (J[k].toNat : Int) := IntWalk.i64_in _ (by omega)
        have q3 : (31 * N + (J[k].toNat : Int)).tmod 1000000007 = (31 * N + (J[k].toNat : Int)) % 1000000007 := Int.tmod_eq_emod_of_nonneg (by omega)
        have q4 : IntKind.i64.wrap ((31 * N + (J[k].toNat : Int)) % 1000000007) = (31 * N + (J[k].toNat : Int)) % 1000000007 := IntWalk.i64_in _ (by omega)
        have HS := Lib.hid (dgs_step J k hlt)
        go_wp2
        go_roundw
        case rel => exact ⟨k + 1, (31 * N + (J[k].toNat : Int)) % 1000000007, by omega, by go_num, by first | rfl | simp [*], Lib.hid (by rw [HS.out, HN.out]), by omega, by omega, hbw⟩
        case measure => simp [intOf]; omega
      · obtain rfl : k = J.size := by omega
        have HZ := Lib.hid (show N = digX c by rw [HC.out, ← HJ.out, HN.out, ← sz_list, List.take_length])
        go_wp2
        go_ret
        rw [← HZ.out]
        exact ⟨rfl, hbw⟩
end Go.Proofs.YtmoolajapgacmaaGreatDoor
