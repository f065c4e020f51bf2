/-
The program's text of a cell, for all cells.
-/
import Derived.Test.YtmoolajapgacmaaGreatDoorLTB
import Derived.Test.YtmoolajapgacmaaGreatDoorLTC
import Derived.Test.YtmoolajapgacmaaGreatDoorLTD
namespace Go.Proofs.YtmoolajapgacmaaGreatDoor
open Go.ChangeShapes Go.WideShapes Go.ChangeAt Go.RowKit
set_option linter.unusedVariables false
set_option linter.unusedSimpArgs false
set_option maxRecDepth 100000
/-- The text of any cell. -/
def cellT (c : CellD) : List UInt8 := if cellB c then cellX c else []
theorem Bx.box (w : World) (v0 v1 v2 v3 v4 v5 v6 : Value) (t : TypeId) : Bx w (w.alloc (Obj.cells #[v0, v1, v2, v3, v4, v5, v6] t)) v0 v1 v2 v3 v4 v5 v6 :=
  ⟨by simp [go_sem], by simp [go_sem], by simp [go_sem], by simp [go_sem], by simp [go_sem], by simp [go_sem], by simp [go_sem], by (repeat (first | (with_reducible exact Below.refl _ _) | (with_reducible assumption) | (with_reducible refine ext_alloc ?_ _) | (with_reducible refine ext_drew ?_) | (with_reducible refine ext_drewN ?_ _) | (with_reducible refine ext_set ?_ (by first | exact Nat.le_refl _ | (simp; done) | (simp; omega) | omega) _) | (with_reducible refine ext_trans ?_ (by assumption)))), by simp⟩
theorem Bx.grown {w b c : World} {v v0 v1 v2 v3 v4 v5 v6 : Value} (h : Bx w b v0 v1 v2 v3 v4 v5 v6) (hg : b.grownBy c v.ownBlock) (hv : ∀ k, v.ownBlock = some k → w.heap.size + 1 ≤ k) : Bx w c v0 v1 v2 v3 v4 v5 v6 := by
  obtain ⟨h0, h1, h2, h3, h4, h5, h6, hb, hl⟩ := h
  have k := Nat.lt_succ_self w.heap.size
  exact ⟨grown_cell hg hv h0 k hl, grown_cell hg hv h1 k hl, grown_cell hg hv h2 k hl, grown_cell hg hv h3 k hl, grown_cell hg hv h4 k hl, grown_cell hg hv h5 k hl, grown_cell hg hv h6 k hl, grown_inS hb (Nat.le_of_lt hl) hg (fun j hj => Nat.le_of_succ_le (hv j hj)), Nat.lt_of_lt_of_le hl (grown_size hg hv hl)⟩
theorem truth_pos {c : CellD} (h : cellB c = true) (hk : c.kind = 1) : 0 < c.truth.length := by
  have ⟨_, _, _, h4⟩ := cell_get h
  rw [kc_1 hk] at h4
  simp only [Bool.and_eq_true] at h4
  have hl := h4.2.1
  simp at hl
  have h2 : c.truth.length = 2 ^ (c.pins.length - 1) := by exact_mod_cast hl
  rw [h2]
  exact Nat.two_pow_pos _
set_option maxHeartbeats 4000000 in
theorem implCellX_any (f : Nat → Value) (c : CellD) (w : World) (h : CellF w w.heap.size f c) (hv : cellB c = true) (htb : Tab w) : Calls Tryz.prog 26 #[.agg #[f 0, f 1, f 2, f 3, f 4, f 5, f 6]] w (Says (cellX c) w) := by
  obtain ⟨i0, hi, hz0, hz1, hz2⟩ := info_parts Tryz.infoS8
  have HF0 := Lib.hid h
  have HTb := Lib.hid htb
  have HV := Lib.hid hv
  have ⟨kd1, kd3, hbits⟩ := bits_v hv
  have HLn := Lib.hid (cellX_len hv)
  have ⟨hpb, _, hab, _⟩ := cell_get hv
  have ⟨np2, np5, pv⟩ := pins_v hpb
  have ⟨na8, av⟩ := arcs_v hab
  have hln := cellLs_len c
  obtain ⟨ls, hls⟩ : ∃ ls, ls = cellLs c := ⟨_, rfl⟩
  rw [← hls] at hln
  have H0 := Lib.hid (show ls.getD 0 [] = headL c by rw [hls]; exact line_0 c)
  have HP := Lib.hid (fun k (hk : k < c.pins.length) => by rw [hls]; exact line_pin c hk : ∀ k, k < c.pins.length → ls.getD (1 + k) [] = pinL (pn c.pins k))
  have HA := Lib.hid (fun k (hk : k < c.arcs.length) => by rw [hls]; exact line_arc c hk : ∀ k, k < c.arcs.length → ls.getD (1 + c.pins.length + k) [] = arcL c.pins (an c.arcs k))
  have HT := Lib.hid (fun (hk : c.kind = 1) => by rw [hls]; exact line_truth c hk : c.kind = 1 → ls.getD (1 + c.pins.length + c.arcs.length) [] = truL c.truth)
  obtain ⟨e0, e1, x2, x3, x4, e5, e6, hsz⟩ := h
  have HPS := Lib.hid x2
  obtain ⟨F2, c2, f2⟩ := x2
  obtain ⟨F3, c3, f3⟩ := x3
  obtain ⟨np, hnp⟩ : ∃ n, n = c.pins.length := ⟨_, rfl⟩
  obtain ⟨na, hna⟩ : ∃ n, n = c.arcs.length := ⟨_, rfl⟩
  obtain ⟨nt, hnt⟩ : ∃ n, n = c.truth.length := ⟨_, rfl⟩
  rw [← hnp] at c2 f2 np5 np2 pv hln HP HA HT
  rw [← hna] at c3 f3 na8 av hln HA HT
  have H2 := c2; have H3 := c3; have H4 := x4
  obtain ⟨_, p2, q2, e2, _⟩ := c2; obtain ⟨_, p3, q3, e3, _⟩ := c3; obtain ⟨p4, q4, e4⟩ := x4.slice
  rw [e2] at H2 HPS; rw [e3] at H3; rw [e4] at H4
  rw [← hnt] at e4 hbits
  obtain ⟨κ, hκ⟩ : ∃ κ : Nat, c.kind = (κ : Int) := ⟨c.kind.toNat, by omega⟩
  have HE := Lib.hid (show #[Value.agg #[f 0, f 1, f 2, f 3, f 4, f 5, f 6]] = #[.agg #[.string c.name, .int .i64 (κ : Int), .slice p2 np q2, .slice p3 na q3, .slice p4 nt q4, .int .i64 c.leak, .int .i64 c.energy]] by rw [e0, e1, e2, e3, e4, e5, e6, hκ])
  rw [HE.out]
  have HIs := Lib.hid (fun (w1 : World) (hb : Below w.heap.size w w1) => by
    have h := implIsCell_any f c w1 (HF0.out.up hb)
    rw [HE.out, HV.out] at h
    exact h : ∀ (w1 : World), Below w.heap.size w w1 → Calls Tryz.prog 44 #[.agg #[.string c.name, .int .i64 (κ : Int), .slice p2 np q2, .slice p3 na q3, .slice p4 nt q4, .int .i64 c.leak, .int .i64 c.energy]] w1 fun e w' => e = .returned (.bool true) ∧ Below w1.heap.size w1 w')
  have HHd := Lib.hid (fun (w1 : World) (hb : Below w.heap.size w w1) => by
    have h := implHeadT_any f c w1 (HF0.out.up hb) HV.out (HTb.out.keep hb)
    rw [HE.out] at h
    exact h : ∀ (w1 : World), Below w.heap.size w w1 → Calls Tryz.prog 62 #[.agg #[.string c.name, .int .i64 (κ : Int), .slice p2 np q2, .slice p3 na q3, .slice p4 nt q4, .int .i64 c.leak, .int .i64 c.energy]] w1 (Says (headL c) w1))
  have H2 := Lib.hid H2; have H3 := Lib.hid H3; have H4 := Lib.hid H4; have F2H := Lib.hid f2; have F3H := Lib.hid f3; have PV := Lib.hid pv; have AV := Lib.hid av; have HBi := Lib.hid hbits
  have HX := Lib.hid (show linesX ls = cellX c by rw [hls]; rfl)
  have HM := Lib.hid hln
  have HN := Lib.hid (show np = c.pins.length ∧ na = c.arcs.length ∧ nt = c.truth.length ∧ c.kind = (κ : Int) from ⟨hnp, hna, hnt, hκ⟩)
  clear hln hls e0 e1 e2 e3 e4 e5 e6 x4 f2 f3 hnp hna hnt hκ hv hpb hab pv av hbits hsz kd1 kd3 htb
  go_enter Tryz.func26, Tryz.ntmps26
  have HBx0 := Lib.hid (Bx.box w (.string c.name) (.int .i64 (κ : Int)) (.slice p2 np q2) (.slice p3 na q3) (.slice p4 nt q4) (.int .i64 c.leak) (.int .i64 c.energy) 38)
  go_wp2_with fail
  go_at_call 44
  refine (HIs.out _ (by (repeat (first | (with_reducible exact Below.refl _ _) | (with_reducible assumption) | (with_reducible refine ext_alloc ?_ _) | (with_reducible refine ext_drew ?_) | (with_reducible refine ext_drewN ?_ _) | (with_reducible refine ext_set ?_ (by first | exact Nat.le_refl _ | (simp; done) | (simp; omega) | omega) _) | (with_reducible refine ext_trans ?_ (by assumption)))))).mono ?_
  rintro e w1 ⟨rfl, hb1⟩
  have HBx1 := Lib.hid (Bx.call HBx0.out hb1)
  have ⟨r0, r1, r2, r3, r4, r5, r6, hbw1, L1⟩ := HBx1.out
  clear HBx0 hb1 HIs
  go_wp2_with fail
  go_at_call 62
  refine (HHd.out _ hbw1).mono ?_
  rintro e w2 ⟨T, rfl, hT, hTs, hb2⟩
  have HBx2 := Lib.hid (Bx.call HBx1.out hb2)
  have HT0 := Lib.hid hT
  clear HBx1 hb2 HHd r0 r1 r2 r3 r4 r5 r6 hbw1 L1 hT hTs
  have ⟨r0, r1, r2, r3, r4, r5, r6, hbw, L0⟩ := HBx2.out
  go_wp2_with fail
  go_loopw [3, 17] (fun v i wr => ∃ (k : Nat) (us : List ByteArray), k ≤ np ∧ i = .int .i64 k ∧ Hid (GS wr (w.heap.size + 1) v us) ∧ Hid (us.map (·.data.toList) = ls.take (1 + k)) ∧ us.length = 1 + k ∧ Hid (Bx w wr (.string c.name) (.int .i64 (κ : Int)) (.slice p2 np q2) (.slice p3 na q3) (.slice p4 nt q4) (.int .i64 c.leak) (.int .i64 c.energy))) (fun _ i _ => np - (intOf i).toNat)
  case atStart => exact ⟨0, [T], by omega, rfl, Lib.hid (GS.mk _ _ _ _ _ _ _ rfl rfl (by omega) rfl rfl (by omega)), Lib.hid (by have := us_step (us := []) (ws := ls) (k := 0) (T := T) rfl (by have := HM.out; omega) (by rw [H0.out]; exact HT0.out); simpa using this), rfl, Lib.hid (Bx.alloc HBx2.out _)⟩
  case round =>
    clear HT0 HBx2 r0 r1 r2 r3 r4 r5 r6 hbw L0
    obtain ⟨k, us, hk, rfl, O, HU, hul, HBx⟩ := hrel
    have ⟨r0, r1, r2, r3, r4, r5, r6, hbw, L0⟩ := HBx.out
    have hblk := O.out.blk
    by_cases hkn : k < np
    · obtain ⟨b, off, rfl, hlt, hx⟩ := H2.out.at hbw hkn
      have y0 := hx 0 (by omega); have y1 := hx 1 (by omega); have y2 := hx 2 (by omega); have y3 := hx 3 (by omega)
      simp only [Nat.add_zero] at y0
      have hI : (k : Int) < (np : Int) := by omega
      have i00 : (0 : Int) ≤ (k : Int) := by omega
      have ⟨s0, s1, s2, s3, _⟩ := F2H.out k hkn
      rw [s0] at y0; rw [s1] at y1; rw [s2] at y2; rw [s3] at y3
      have HB := Lib.hid (fun (w1 : World) (hb : Below wr.heap.size wr w1) => by
        have h := implPinT_any (F2 k) (pn c.pins k) w1 (F2H.out k hkn) (PV.out k hkn) (HTb.out.keep (ext_trans hbw hb))
        rw [s0, s1, s2, s3] at h
        exact h : ∀ (w1 : World), Below wr.heap.size wr w1 → Calls Tryz.prog 63 #[.agg #[.string (pn c.pins k).name, .int .i64 (pn c.pins k).dir, .int .i64 (pn c.pins k).cap, .bool (pn c.pins k).clock]] w1 (Says (pinL (pn c.pins k)) w1))
      clear s0 s1 s2 s3
      have HS := Lib.hid (fun (T : ByteArray) (hT : T.data.toList = pinL (pn c.pins k)) => us_step (T := T) HU.out (by have := HM.out; omega) (by rw [hT]; exact (HP.out k hkn).symm))
      have hul16 : us.length ≤ 16 := by omega
      have HUL := Lib.hid hul
      clear hx HU hul
      go_wp2_with (first | ((go_at_call 63; refine (HB.out _ (by (repeat (first | (with_reducible exact Below.refl _ _) | (with_reducible assumption) | (with_reducible refine ext_alloc ?_ _) | (with_reducible refine ext_drew ?_) | (with_reducible refine ext_drewN ?_ _) | (with_reducible refine ext_set ?_ (by first | exact Nat.le_refl _ | (simp; done) | (simp; omega) | omega) _) | (with_reducible refine ext_trans ?_ (by assumption)))))).mono ?_; rintro e w1 ⟨T, rfl, hT, hTs, hb⟩; obtain ⟨hc, hf⟩ := bcell hb; have hz := hb.size; (try simp at hz); (try (have hz := Nat.lt_of_succ_le hz)); (try (have y0 : w.heap.size ≤ w1.heap.size := by omega)); (try (have z0 : w.heap.size < w1.heap.size := by omega)); (try (have z1 : w.heap.size + 1 < w1.heap.size := by omega)); (try (have z2 : w.heap.size + 1 + 1 < w1.heap.size := by omega)); (try (have z3 : w.heap.size + 1 + 1 + 1 < w1.heap.size := by omega)); (try (have z4 : w.heap.size + 1 + 1 + 1 + 1 < w1.heap.size := by omega))); have HT1 := Lib.hid hT; clear hT hTs) | (at_builtin; go_loud (refine wpList_append_own _ rfl _ _ 74 rfl (w.heap.size + 1) 9 i0 (.string ⟨#[]⟩) 1 16 Tryz.underlying74 hi hz0 hz1 hz2 rfl (by decide) _ _ _ rfl (GS.below O.out (by (repeat (first | (with_reducible exact Below.refl _ _) | (with_reducible assumption) | (with_reducible refine ext_alloc ?_ _) | (with_reducible refine ext_drew ?_) | (with_reducible refine ext_drewN ?_ _) | (with_reducible refine ext_set ?_ (by first | exact Nat.le_refl _ | (simp; done) | (simp; omega) | omega) _) | (with_reducible refine ext_trans ?_ (by assumption)))))) ⟨_, 0, none⟩ 1 1 [.string T] rfl rfl (one_cellS _ _ _ _ (by simp)) (fun u hu => by simp at hu; subst hu; rfl) (by unfold maxLen; omega) (by omega) (by simp; omega) ?_); intro v' wa hown' hgrow hnil))
      have O1 := Lib.hid (show GS wa (w.heap.size + 1) v' (us ++ [T]) by simpa [GS] using hown')
      have HBx1 := Lib.hid (Bx.grown (Bx.call HBx.out (by (repeat (first | (with_reducible exact Below.refl _ _) | (with_reducible assumption) | (with_reducible refine ext_alloc ?_ _) | (with_reducible refine ext_drew ?_) | (with_reducible refine ext_drewN ?_ _) | (with_reducible refine ext_set ?_ (by first | exact Nat.le_refl _ | (simp; done) | (simp; omega) | omega) _) | (with_reducible refine ext_trans ?_ (by assumption)))))) hgrow hblk)
      have HZ := Lib.hid (HS.out T HT1.out)
      clear hown' hgrow hnil hblk O HS HT1 HB HBx
      go_wp2
      go_roundw
      case rel => exact ⟨k + 1, us ++ [T], by omega, by go_num, O1, Lib.hid (by rw [← Nat.add_assoc]; exact HZ.out), by have := HUL.out; simp; omega, HBx1⟩
      case measure => simp [intOf]; omega
    · obtain rfl : k = np := by omega
      have hI : ¬ (k : Int) < (k : Int) := by omega
      go_wp2
      go_loopw [3, 30] (fun v i wr => ∃ (q : Nat) (us : List ByteArray), q ≤ na ∧ i = .int .i64 q ∧ Hid (GS wr (w.heap.size + 1) v us) ∧ Hid (us.map (·.data.toList) = ls.take (1 + k + q)) ∧ us.length = 1 + k + q ∧ Hid (Bx w wr (.string c.name) (.int .i64 (κ : Int)) (.slice p2 k q2) (.slice p3 na q3) (.slice p4 nt q4) (.int .i64 c.leak) (.int .i64 c.energy))) (fun _ i _ => na - (intOf i).toNat)
      case atStart => exact ⟨0, us, by omega, rfl, O, HU, hul, HBx⟩
      case round =>
        clear O HU hul HBx r0 r1 r2 r3 r4 r5 r6 hbw L0 hI hblk
        obtain ⟨q, us, hq, rfl, O, HU, hul, HBx⟩ := hrel
        have ⟨r0, r1, r2, r3, r4, r5, r6, hbw, L0⟩ := HBx.out
        have hblk := O.out.blk
        by_cases hqn : q < na
        · obtain ⟨b, off, rfl, hlt, hx⟩ := H3.out.at hbw hqn
          have y0 := hx 0 (by omega); have y1 := hx 1 (by omega); have y2 := hx 2 (by omega); have y3 := hx 3 (by omega); have y4 := hx 4 (by omega); have y5 := hx 5 (by omega)
          simp only [Nat.add_zero] at y0
          have hI : (q : Int) < (na : Int) := by omega
          have i00 : (0 : Int) ≤ (q : Int) := by omega
          have ⟨s0, s1, s2, s3, z4, z5⟩ := F3H.out q hqn
          obtain ⟨t4, u4, s4⟩ := z4.slice; obtain ⟨t5, u5, s5⟩ := z5.slice
          rw [s0] at y0; rw [s1] at y1; rw [s2] at y2; rw [s3] at y3; rw [s4] at y4; rw [s5] at y5
          have HB := Lib.hid (fun (w1 : World) (hb : Below wr.heap.size wr w1) => by
            have h := implArcT_any (F3 q) (an c.arcs q) (.slice p2 k q2) c.pins w1 ((F3H.out q hqn).up (ext_trans hbw hb)) (HPS.out.up (ext_trans hbw hb)) (AV.out q hqn) (by have := PV.out; rw [HN.out.1] at this; exact this) (HTb.out.keep (ext_trans hbw hb))
            rw [s0, s1, s2, s3, s4, s5] at h
            exact h : ∀ (w1 : World), Below wr.heap.size wr w1 → Calls Tryz.prog 64 #[.agg #[.int .i64 (an c.arcs q).kind, .int .i64 (an c.arcs q).src, .int .i64 (an c.arcs q).dst, .int .i64 (an c.arcs q).sense, .slice t4 (an c.arcs q).delay.length u4, .slice t5 (an c.arcs q).slew.length u5], .slice p2 k q2] w1 (Says (arcL c.pins (an c.arcs q)) w1))
          clear s0 s1 s2 s3 s4 s5 z4 z5
          have HS := Lib.hid (fun (T : ByteArray) (hT : T.data.toList = arcL c.pins (an c.arcs q)) => us_step (T := T) HU.out (by have := HM.out; omega) (by rw [hT]; exact (HA.out q hqn).symm))
          have hul16 : us.length ≤ 16 := by omega
          have HUL := Lib.hid hul
          clear hx HU hul
          go_wp2_with (first | ((go_at_call 64; refine (HB.out _ (by (repeat (first | (with_reducible exact Below.refl _ _) | (with_reducible assumption) | (with_reducible refine ext_alloc ?_ _) | (with_reducible refine ext_drew ?_) | (with_reducible refine ext_drewN ?_ _) | (with_reducible refine ext_set ?_ (by first | exact Nat.le_refl _ | (simp; done) | (simp; omega) | omega) _) | (with_reducible refine ext_trans ?_ (by assumption)))))).mono ?_; rintro e w1 ⟨T, rfl, hT, hTs, hb⟩; obtain ⟨hc, hf⟩ := bcell hb; have hz := hb.size; (try simp at hz); (try (have hz := Nat.lt_of_succ_le hz)); (try (have y0 : w.heap.size ≤ w1.heap.size := by omega)); (try (have z0 : w.heap.size < w1.heap.size := by omega)); (try (have z1 : w.heap.size + 1 < w1.heap.size := by omega)); (try (have z2 : w.heap.size + 1 + 1 < w1.heap.size := by omega)); (try (have z3 : w.heap.size + 1 + 1 + 1 < w1.heap.size := by omega)); (try (have z4 : w.heap.size + 1 + 1 + 1 + 1 < w1.heap.size := by omega))); have HT1 := Lib.hid hT; clear hT hTs) | (at_builtin; go_loud (refine wpList_append_own _ rfl _ _ 74 rfl (w.heap.size + 1) 9 i0 (.string ⟨#[]⟩) 1 16 Tryz.underlying74 hi hz0 hz1 hz2 rfl (by decide) _ _ _ rfl (GS.below O.out (by (repeat (first | (with_reducible exact Below.refl _ _) | (with_reducible assumption) | (with_reducible refine ext_alloc ?_ _) | (with_reducible refine ext_drew ?_) | (with_reducible refine ext_drewN ?_ _) | (with_reducible refine ext_set ?_ (by first | exact Nat.le_refl _ | (simp; done) | (simp; omega) | omega) _) | (with_reducible refine ext_trans ?_ (by assumption)))))) ⟨_, 0, none⟩ 1 1 [.string T] rfl rfl (one_cellS _ _ _ _ (by simp)) (fun u hu => by simp at hu; subst hu; rfl) (by unfold maxLen; omega) (by omega) (by simp; omega) ?_); intro v' wa hown' hgrow hnil))
          have O1 := Lib.hid (show GS wa (w.heap.size + 1) v' (us ++ [T]) by simpa [GS] using hown')
          have HBx1 := Lib.hid (Bx.grown (Bx.call HBx.out (by (repeat (first | (with_reducible exact Below.refl _ _) | (with_reducible assumption) | (with_reducible refine ext_alloc ?_ _) | (with_reducible refine ext_drew ?_) | (with_reducible refine ext_drewN ?_ _) | (with_reducible refine ext_set ?_ (by first | exact Nat.le_refl _ | (simp; done) | (simp; omega) | omega) _) | (with_reducible refine ext_trans ?_ (by assumption)))))) hgrow hblk)
          have HZ := Lib.hid (HS.out T HT1.out)
          clear hown' hgrow hnil hblk O HS HT1 HB HBx
          go_wp2
          go_roundw
          case rel => exact ⟨q + 1, us ++ [T], by omega, by go_num, O1, Lib.hid (by rw [← Nat.add_assoc]; exact HZ.out), by have := HUL.out; simp; omega, HBx1⟩
          case measure => simp [intOf]; omega
        · obtain rfl : q = na := by omega
          have hI : ¬ (q : Int) < (q : Int) := by omega
          by_cases hk1 : κ = 1
          · have kt : ((κ : Int) == 1) = true := by simp; omega
            have hbi := HBi.out (by have := HN.out.2.2.2; omega)
            have hm := HM.out
            rw [if_pos (by have := HN.out.2.2.2; omega)] at hm
            have HB := Lib.hid (fun (w1 : World) (hb : Below wr.heap.size wr w1) => by
              have h := implTruT_any (.slice p4 c.truth.length q4) c.truth w1 (H4.out.up (ext_trans hbw hb)) (by have := truth_pos HV.out (by have := HN.out.2.2.2; omega); omega) (by have := HN.out.2.2.1; omega) (by rw [← HN.out.2.2.1]; exact hbi.2)
              rw [← HN.out.2.2.1] at h
              exact h : ∀ (w1 : World), Below wr.heap.size wr w1 → Calls Tryz.prog 65 #[.slice p4 nt q4] w1 (Says (truL c.truth) w1))
            have HS := Lib.hid (fun (T : ByteArray) (hT : T.data.toList = truL c.truth) => us_step (T := T) HU.out (by omega) (by rw [hT]; exact (HT.out (by have := HN.out.2.2.2; omega)).symm))
            have hul16 : us.length ≤ 16 := by omega
            have HUL := Lib.hid hul
            have HM1 := Lib.hid hm
            clear HU hul hm hbi
            go_wp2_with (first | ((go_at_call 65; refine (HB.out _ (by (repeat (first | (with_reducible exact Below.refl _ _) | (with_reducible assumption) | (with_reducible refine ext_alloc ?_ _) | (with_reducible refine ext_drew ?_) | (with_reducible refine ext_drewN ?_ _) | (with_reducible refine ext_set ?_ (by first | exact Nat.le_refl _ | (simp; done) | (simp; omega) | omega) _) | (with_reducible refine ext_trans ?_ (by assumption)))))).mono ?_; rintro e w1 ⟨T, rfl, hT, hTs, hb⟩; obtain ⟨hc, hf⟩ := bcell hb; have hz := hb.size; (try simp at hz); (try (have hz := Nat.lt_of_succ_le hz)); (try (have y0 : w.heap.size ≤ w1.heap.size := by omega)); (try (have z0 : w.heap.size < w1.heap.size := by omega)); (try (have z1 : w.heap.size + 1 < w1.heap.size := by omega)); (try (have z2 : w.heap.size + 1 + 1 < w1.heap.size := by omega)); (try (have z3 : w.heap.size + 1 + 1 + 1 < w1.heap.size := by omega)); (try (have z4 : w.heap.size + 1 + 1 + 1 + 1 < w1.heap.size := by omega))); have HT1 := Lib.hid hT; clear hT hTs) | (at_builtin; go_loud (refine wpList_append_own _ rfl _ _ 74 rfl (w.heap.size + 1) 9 i0 (.string ⟨#[]⟩) 1 16 Tryz.underlying74 hi hz0 hz1 hz2 rfl (by decide) _ _ _ rfl (GS.below O.out (by (repeat (first | (with_reducible exact Below.refl _ _) | (with_reducible assumption) | (with_reducible refine ext_alloc ?_ _) | (with_reducible refine ext_drew ?_) | (with_reducible refine ext_drewN ?_ _) | (with_reducible refine ext_set ?_ (by first | exact Nat.le_refl _ | (simp; done) | (simp; omega) | omega) _) | (with_reducible refine ext_trans ?_ (by assumption)))))) ⟨_, 0, none⟩ 1 1 [.string T] rfl rfl (one_cellS _ _ _ _ (by simp)) (fun u hu => by simp at hu; subst hu; rfl) (by unfold maxLen; omega) (by omega) (by simp; omega) ?_); intro v' wa hown' hgrow hnil))
            have O1 := Lib.hid (show GS wa (w.heap.size + 1) v' (us ++ [T]) by simpa [GS] using hown')
            have hbwa : Below w.heap.size w wa := (Bx.grown (Bx.call HBx.out (by (repeat (first | (with_reducible exact Below.refl _ _) | (with_reducible assumption) | (with_reducible refine ext_alloc ?_ _) | (with_reducible refine ext_drew ?_) | (with_reducible refine ext_drewN ?_ _) | (with_reducible refine ext_set ?_ (by first | exact Nat.le_refl _ | (simp; done) | (simp; omega) | omega) _) | (with_reducible refine ext_trans ?_ (by assumption)))))) hgrow hblk).2.2.2.2.2.2.2.1
            have HZ := Lib.hid (HS.out T HT1.out)
            obtain ⟨uz, huz⟩ : ∃ uz, uz = us ++ [T] := ⟨_, rfl⟩
            rw [← huz] at O1 HZ
            have hzl : uz.length = ls.length ∧ uz.length ≤ 17 := by have := HUL.out; have := HM1.out; rw [huz]; simp; omega
            clear hown' hgrow hnil hblk O HS HT1 HB HBx huz r0 r1 r2 r3 r4 r5 r6
            obtain ⟨gJ, cJ, rfl, hcap, hgJ, hcs⟩ := O1.out.parts (by have := HM1.out; omega)
            have hw := HZ.out
            rw [show 1 + k + q + 1 = ls.length by have := HM1.out; omega, List.take_length] at hw
            have hjl : (Lib.join (uz.map (·.data.toList)) [10]).length + 1 = (cellX c).length := by rw [← HX.out, ← lines_join (ls := ls) (by intro e; rw [e] at hzl; simp at hzl; have := HM.out; rw [e] at this; simp at this; omega), hw]; simp
            have hjm := HLn.out
            have HJ := Lib.hid (fun (w1 : World) (hc : ∀ j (hj : j < uz.length), w1.cell? ⟨gJ, j, none⟩ = some (.string uz[j])) (hg : gJ < w1.heap.size) => join_any gJ uz.length cJ uz ⟨#[10]⟩ w1 rfl hc hg (by omega) hcap (by show (Lib.join (uz.map (·.data.toList)) [10]).length ≤ _; omega))
            have HC := Lib.hid hcs
            have HR := Lib.hid (show ∀ J : ByteArray, J.data.toList = Lib.join (uz.map (·.data.toList)) [10] → (J ++ ⟨#[10]⟩ : ByteArray).data.toList = cellX c by
              intro J hJ
              rw [← HX.out, ← lines_join (ls := ls) (by intro e; rw [e] at hzl; simp at hzl; have := HM.out; rw [e] at this; simp at this; omega), ← hw]
              simp [hJ])
            have hjb : (Lib.join (uz.map (·.data.toList)) [10]).length ≤ 177015 := by omega
            clear hcs hw hjl hjm hzl HUL
            go_wp2_with fail
            go_at_call 66
            refine (HJ.out _ HC.out hgJ).mono ?_
            rintro e w1 ⟨J, rfl, hJ, hJs, hb⟩
            have hJb : J.size ≤ 177015 := by rw [hJs]; exact hjb
            have HJ1 := Lib.hid (HR.out J hJ)
            clear hJ hJs hjb HJ
            have su1a : J.size + 1 ≤ 9223372036854775807 := by omega
            have su1b : ¬ 9223372036854775807 < J.size + 1 := by omega
            have su1c : ¬ (9223372036854775807 : Int) < ((J.size : Nat) : Int) + 1 := by omega
            go_wp2
            go_ret
            exact says HJ1.out (ext_trans hbwa hb)
          · have kt : ((κ : Int) == 1) = false := by simp; omega
            have hm := HM.out
            rw [if_neg (by have := HN.out.2.2.2; omega)] at hm
            have hzl : us.length = ls.length ∧ us.length ≤ 17 := by omega
            obtain ⟨gJ, cJ, rfl, hcap, hgJ, hcs⟩ := O.out.parts (by omega)
            have hw := HU.out
            rw [show 1 + k + q = ls.length by omega, List.take_length] at hw
            have hjl : (Lib.join (us.map (·.data.toList)) [10]).length + 1 = (cellX c).length := by rw [← HX.out, ← lines_join (ls := ls) (by intro e; rw [e] at hzl; simp at hzl; have := HM.out; rw [e] at this; simp at this; omega), hw]; simp
            have hjm := HLn.out
            have HJ := Lib.hid (fun (w1 : World) (hc : ∀ j (hj : j < us.length), w1.cell? ⟨gJ, j, none⟩ = some (.string us[j])) (hg : gJ < w1.heap.size) => join_any gJ us.length cJ us ⟨#[10]⟩ w1 rfl hc hg (by omega) hcap (by show (Lib.join (us.map (·.data.toList)) [10]).length ≤ _; omega))
            have HC := Lib.hid hcs
            have HR := Lib.hid (show ∀ J : ByteArray, J.data.toList = Lib.join (us.map (·.data.toList)) [10] → (J ++ ⟨#[10]⟩ : ByteArray).data.toList = cellX c by
              intro J hJ
              rw [← HX.out, ← lines_join (ls := ls) (by intro e; rw [e] at hzl; simp at hzl; have := HM.out; rw [e] at this; simp at this; omega), ← hw]
              simp [hJ])
            have hjb : (Lib.join (us.map (·.data.toList)) [10]).length ≤ 177015 := by omega
            clear hcs hw hjl hjm hzl HU hul hm hblk O
            go_wp2_with fail
            go_at_call 66
            refine (HJ.out _ HC.out hgJ).mono ?_
            rintro e w1 ⟨J, rfl, hJ, hJs, hb⟩
            have hJb : J.size ≤ 177015 := by rw [hJs]; exact hjb
            have HJ1 := Lib.hid (HR.out J hJ)
            clear hJ hJs hjb HJ
            have su2a : J.size + 1 ≤ 9223372036854775807 := by omega
            have su2b : ¬ 9223372036854775807 < J.size + 1 := by omega
            have su2c : ¬ (9223372036854775807 : Int) < ((J.size : Nat) : Int) + 1 := by omega
            go_wp2
            go_ret
            exact says HJ1.out (ext_trans hbw hb)
end Go.Proofs.YtmoolajapgacmaaGreatDoor
