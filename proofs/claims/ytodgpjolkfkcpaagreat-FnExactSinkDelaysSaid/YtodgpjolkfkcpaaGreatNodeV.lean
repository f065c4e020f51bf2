/-
SinkDelays of the program and of the model, for all blocks and numbers.
-/
import Derived.Test.YtodgpjolkfkcpaaGreatNodeN
namespace Go.Proofs.YtodgpjolkfkcpaaGreat
open Go.ChangeShapes Go.WideShapes Go.ChangeAt Go.RowKit Go.Deep
set_option linter.unusedVariables false
set_option linter.unusedSimpArgs false
set_option maxRecDepth 100000
theorem sd_len (z : BlkD) (x m : Int) : (sdelL z x m).length ≤ 1000 := by
  unfold sdelL
  by_cases h : blkCode z x = 0 ∧ isM m = true
  · obtain ⟨k, rfl, hb, hk⟩ := code_get h.1
    rw [if_pos h, rowOf_len]
    have := snks_len hb k
    obtain ⟨_, _, _, _, ls, _⟩ := wire_nums (wire_at hb hk)
    show (wrn z.wires k).sink.length ≤ 1000
    omega
  · rw [if_neg h]; simp
theorem sd_no {z : BlkD} {x m : Int} (h : blkCode z x ≠ 0) : sdelL z x m = [] ∧ sdCode z x m = blkCode z x := ⟨by simp [sdelL, h], by simp [sdCode, h]⟩
theorem sd_mode {z : BlkD} {x m : Int} (h : blkCode z x = 0) (hm : isM m = false) : sdelL z x m = [] ∧ sdCode z x m = 2 := ⟨by simp [sdelL, hm], by simp [sdCode, h, hm]⟩
theorem sd_yes {z : BlkD} {k : Nat} {m : Int} (h : blkCode z (k : Int) = 0) (hm : isM m = true) : sdelL z k m = rowOf (wrn z.wires k).sink.length (sdF z k m) ∧ sdCode z k m = 0 := ⟨by simp [sdelL, h, hm], by simp [sdCode, h, hm]⟩
theorem Tryz.infoI9 : (Tryz.prog.info? 2).map (fun i => (i.zero, i.size, i.bytes)) = some (some (.int .i64 0), 1, 8) := by kernel_rfl
set_option maxHeartbeats 16000000 in
theorem implSinkDelays_any (f : Nat → Value) (z : BlkD) (x m : Int) (w : World) (h : BlkF w w.heap.size f z) :
    Calls Tryz.prog 22 #[.agg #[f 0, f 1, f 2, f 3, f 4], .int .i64 x, .int .i64 m] w (ListR w (sdelL z x m) (sdCode z x m)) := by
  obtain ⟨ti, hi, hz0, hz1, hz2⟩ := info_parts Tryz.infoI9
  by_cases hc : blkCode z x = 0
  · obtain ⟨k, rfl, hb, hk⟩ := code_get hc
    cases hmode : isM m
    · have XL := Lib.hid (sd_mode hc hmode).1
      rw [(sd_mode hc hmode).2]
      have HNB := Lib.hid (fun (w1 : World) (hb' : Below w.heap.size w w1) => nodes_yes f z k w1 (h.up hb') hb hk)
      obtain ⟨p0, q0, p1, q1, p2, q2, p3, q3, p4, q4, e0, e1, e2, e3, e4⟩ := h.five
      rw [e0, e1, e2, e3, e4] at HNB
      rw [e0, e1, e2, e3, e4]
      clear e0 e1 e2 e3 e4 h hb hk hc
      go_enter Tryz.func22, Tryz.ntmps22
      go_wp2_with fail
      (go_at_call 33; refine (HNB.out _ eX).mono ?_; rintro e w1 ⟨v, ad, rfl, hN, hb1⟩)
      obtain ⟨av, cv, rfl⟩ := hN.slice
      have B1 : Below w.heap.size w w1 := by exact eX
      clear hN hb1
      go_wp2_with (go_at_call 44; refine (isMode_any _ _).mono ?_; rintro e w' ⟨rfl, hw'⟩; rw [hw', hmode]; clear hw' w')
      go_ret2
      exact ⟨_, rfl, by rw [XL.out]; exact own_nil _ _, B1⟩
    · have XL := Lib.hid (sd_yes hc hmode).1
      rw [(sd_yes hc hmode).2]
      have HNB := Lib.hid (fun (w1 : World) (hb' : Below w.heap.size w w1) => nodes_yes f z k w1 (h.up hb') hb hk)
      have LB := Lib.hid (lodF_bd hb hk)
      have RB := Lib.hid (res_bd hb hk)
      have DB := Lib.hid (fun j (hj : j < endN z k) => delF_bd hb hk hj)
      have l100 := snks_len hb k
      have hwire := wire_at hb hk
      have ⟨n1, n8, lr, lc, ls, _, _, qp, qr, _, qs⟩ := wire_nums hwire
      have LS := Lib.hid ls
      have LR := Lib.hid lr
      have QS := Lib.hid qs
      have QP := Lib.hid qp
      have QR := Lib.hid qr
      have hbl := Lib.hid hb
      have hkk := Lib.hid hk
      obtain ⟨p0, q0, p1, q1, p2, q2, p3, q3, p4, q4, e0, e1, e2, e3, e4⟩ := h.five
      obtain ⟨F, hc, hf⟩ := h.2.2
      rw [e4] at hc
      have ⟨x0, x1, x2, x3⟩ := hf k hk
      obtain ⟨s0, r0, f0⟩ := x0.slice; obtain ⟨s1, r1, f1⟩ := x1.slice; obtain ⟨s2, r2, f2⟩ := x2.slice; obtain ⟨s3, r3, f3⟩ := x3.slice
      rw [f0] at x0; rw [f1] at x1; rw [f3] at x3
      have H0 := Lib.hid x0; have H1 := Lib.hid x1; have H3 := Lib.hid x3
      rw [e0, e1, e2, e3, e4] at HNB
      rw [e0, e1, e2, e3, e4]
      have hkl : (k : Int) < (z.wires.length : Int) := by omega
      have hk0 : (0 : Int) ≤ (k : Int) := by omega
      obtain ⟨bw, ow, rfl, hlw, hxw⟩ := hc.at (Below.refl _ _) hk
      have y0 := hxw 0 (by omega); have y1 := hxw 1 (by omega); have y2 := hxw 2 (by omega); have y3 := hxw 3 (by omega)
      simp only [Nat.add_zero] at y0
      rw [f0] at y0; rw [f1] at y1; rw [f2] at y2; rw [f3] at y3
      clear e0 e1 e2 e3 e4 h hb hk hc hf x0 x1 x2 x3 f0 f1 f2 f3 qs qr qp lr lc ls hxw hwire
      obtain ⟨n, hn⟩ : ∃ n, n = endN z k := ⟨_, rfl⟩
      have HN := Lib.hid hn
      have n1 : 1 ≤ n := by rw [hn]; exact n1
      have n8 : n ≤ 8 := by rw [hn]; exact n8
      have hn8 : endN z k ≤ 8 := by rw [← HN.out]; exact n8
      obtain ⟨q, hq⟩ : ∃ q, q = (wrn z.wires k).sink.length := ⟨_, rfl⟩
      have q100 : q ≤ 100 := by have := LS.out; omega
      rw [← hq] at XL QS
      have HQ := Lib.hid hq
      rw [← hq] at y3 H3
      clear hn l100 hq
      go_enter Tryz.func22, Tryz.ntmps22
      go_wp2_with fail
      (go_at_call 33; refine (HNB.out _ eX).mono ?_; rintro e w1 ⟨v, ad, rfl, hN, hb1⟩)
      have hN := Lib.hid (show NodeL w1 _ v n ad (pa (wrn z.wires k)) (iv (wrn z.wires k).res) (lodF z k) by rw [HN.out]; exact hN)
      obtain ⟨av, cv, rfl⟩ := hN.out.slice
      have B1 : Below w.heap.size w w1 := by exact eX
      have c4 : w1.cell? ⟨w.heap.size, 4, none⟩ = some (.slice (some ⟨bw, ow, none⟩) z.wires.length q4) := cell_keep (w0 := w.alloc (Obj.cells #[.slice p0 z.lib.length q0, .slice p1 z.des.insts.length q1, .slice p2 z.des.nets.length q2, .slice p3 z.des.ports.length q3, .slice (some ⟨bw, ow, none⟩) z.wires.length q4] 46)) (by simp [go_sem]) eX
      have c3 : w1.cell? ⟨bw, ow + k * 4 + 3, none⟩ = some (.slice s3 q r3) := by rw [B1.cell (by exact hlw)]; exact y3
      have lw : bw < w1.heap.size := by have := B1.size; omega
      have l1 : w.heap.size < w1.heap.size := cell_lt c4
      have B1' := Lib.hid B1
      clear hb1 B1 y0 y1 y2 y3
      go_wp2_with (go_at_call 44; refine (isMode_any _ _).mono ?_; rintro e w' ⟨rfl, hw'⟩; rw [hw', hmode]; clear hw' w')
      go_loopw [11, 34] (fun v i wr => ∃ j : Nat, j ≤ q ∧ i = .int .i64 j ∧ Hid (GI wr w1.heap.size v (rowOf j (sdF z k m))) ∧ Below w1.heap.size w1 wr) (fun _ i _ => q - (intOf i).toNat)
      case atStart => exact ⟨0, by omega, rfl, Lib.hid (GI.nil _ _), Below.refl _ _⟩
      case round =>
        obtain ⟨j, hj, rfl, hG, hbr⟩ := hrel
        have hsz := hbr.size
        by_cases hlt : j < q
        · obtain ⟨b3, o3, rfl, hl3, yt⟩ := ints_at H3.out (B1'.out.trans (hbr.mono B1'.out.size)) (show j < (wrn z.wires k).sink.length by rw [← HQ.out]; exact hlt)
          have ⟨qs0, qs1⟩ := QS.out j hlt
          obtain ⟨sj, hsj⟩ := Int.eq_ofNat_of_zero_le qs0
          rw [hsj] at yt qs1
          have hsn : sj < n := by have := HN.out; unfold endN at this; omega
          have SE := Lib.hid (show sdF z k m j = qd (delF z k sj) 1000 m by simp only [sdF, hsj]; rfl)
          obtain ⟨g, cg, eg, _, hgl, hgc⟩ := (hN.out.below hbr).at hsn
          simp only [Value.slice.injEq] at eg
          obtain ⟨rfl, _, rfl⟩ := eg
          have yg := hgc sj hsn
          have i0 : (0 : Int) ≤ (j : Int) := by omega
          have i1 : (j : Int) < (q : Int) := by omega
          have i2 : (0 : Int) ≤ (sj : Int) := by omega
          have i3 : (sj : Int) < (n : Int) := by omega
          have ⟨d0, d1⟩ := DB.out sj (by rw [← HN.out]; exact hsn)
          clear hgc hsj qs0
          go_wp2_with fail
          (go_at_call 41; refine (delay_any sj hsn n8 RB.out LB.out wr (hN.out.below hbr).2.1).mono ?_; rintro e w5 ⟨rfl, hb5⟩)
          have hG := Lib.hid (hG.out.below hb5)
          have hb15 := hbr.trans (hb5.mono hsz)
          clear yg yt hb5
          change 0 ≤ dly (pa (wrn z.wires k)) (iv (wrn z.wires k).res) (lodF z k) sj at d0
          change dly (pa (wrn z.wires k)) (iv (wrn z.wires k).res) (lodF z k) sj ≤ 432000000 at d1
          go_wp2_with fail
          (go_at_call 45; refine (quotient_any _ _ _ _ (by omega) (by omega) (by omega)).mono ?_; rintro e w6 ⟨rfl, nq, rfl⟩)
          have bA : Below (w5.drewN nq).heap.size (w5.drewN nq) ((w5.drewN nq).alloc (Obj.cells #[.int .i64 (qd (dly (pa (wrn z.wires k)) (iv (wrn z.wires k).res) (lodF z k) sj) 1000 m)] 2)) := (Below.refl _ _).alloc (Nat.le_refl _) _
          have HA := Lib.hid bA
          have HG := Lib.hid ((hG.out.below (ext_drewN (Below.refl _ _) nq)).below HA.out)
          have hblk := Lib.hid HG.out.blk
          have hbX := Lib.hid (hb15.trans ((ext_drewN (Below.refl _ _) nq).mono hb15.size))
          have szX : w1.heap.size ≤ (w5.drewN nq).heap.size := hbX.out.size
          have szY := szX
          (try simp at szY)
          clear bA hG
          go_wp2_with (at_builtin; refine wpList_append_own _ rfl _ _ 34 rfl w1.heap.size 2 ti (.int .i64 0) 1 8 Tryz.underlying34 hi hz0 hz1 hz2 rfl (by decide) _ _ _ rfl HG.out ⟨_, 0, none⟩ 1 1 [.int .i64 (qd (dly (pa (wrn z.wires k)) (iv (wrn z.wires k).res) (lodF z k) sj) 1000 m)] rfl rfl (one_cellG2 _ _ _ _ (by simp)) (fun u hu => by simp at hu; subst hu; rfl) (by rw [rowOf_len]; unfold maxLen; omega) (by rw [rowOf_len]; omega) (by simp; omega) ?_; intro v' w9 hown' hgrow hnil)
          have hG2 : Hid (GI w9 w1.heap.size v' (rowOf (j + 1) (sdF z k m))) := Lib.hid (by
            unfold GI
            rw [rowOf_succ, List.map_append, List.length_append]
            first | exact hown' | (rw [SE.out]; exact hown'))
          have hb2 : Below w1.heap.size w1 w9 := (hbX.out.trans (HA.out.mono szX)).grown hgrow (by simp; omega) (fun q hq => hblk.out q hq)
          clear hown' hgrow hnil
          go_wp2
          go_roundw
          case rel => exact ⟨j + 1, by omega, by go_num, hG2, hb2⟩
          case measure => simp [intOf]; omega
        · obtain rfl : j = q := by omega
          have hI : ¬ (j : Int) < (j : Int) := by omega
          have hO := Lib.hid ((hG.out.own (by rw [rowOf_len]; omega)).mono (C := w.heap.size) B1'.out.size)
          have hbw := B1'.out.trans (hbr.mono B1'.out.size)
          clear hG
          go_wp2
          go_ret2
          exact ⟨_, rfl, by rw [XL.out]; exact hO.out, hbw⟩
  · have HCD := Lib.hid (fun (w1 : World) (hb' : Below w.heap.size w w1) => nodes_no f z x w1 (h.up hb') hc)
    have XL := Lib.hid (sd_no (m := m) hc).1
    have XC := (sd_no (m := m) hc).2
    have hp := code_pos z x
    obtain ⟨p0, q0, p1, q1, p2, q2, p3, q3, p4, q4, e0, e1, e2, e3, e4⟩ := h.five
    rw [XC]
    obtain ⟨c, hcc⟩ : ∃ c, c = blkCode z x := ⟨_, rfl⟩
    rw [← hcc, e0, e1, e2, e3, e4] at HCD
    rw [← hcc] at hc hp
    rw [← hcc, e0, e1, e2, e3, e4]
    clear e0 e1 e2 e3 e4 h hcc XC
    have hne : (c != 0) = true := by simpa using hc
    have hne2 : (c == 0) = false := by simpa using hc
    clear hp hc
    go_enter Tryz.func22, Tryz.ntmps22
    go_wp2_with fail
    (go_at_call 33; refine (HCD.out _ eX).mono ?_; rintro e w1 ⟨rfl, hb1⟩)
    have B1 : Below w.heap.size w w1 := by exact eX
    clear hb1
    go_wp2
    go_ret2
    exact ⟨_, rfl, by rw [XL.out]; exact own_nil _ _, B1⟩
set_option maxHeartbeats 16000000 in
theorem specSD_any (f : Nat → Value) (z : BlkD) (k : Nat) (m : Int) (w : World) (h : BlkF w w.heap.size f z) (hb : blkB z = true) (hk : k < z.wires.length) :
    Calls Tryz.prog 43 #[.agg #[f 0, f 1, f 2, f 3, f 4], .int .i64 (k : Int), .int .i64 m] w (ToInts (rowOf (wrn z.wires k).sink.length (sdF z k m)) w) := by
  obtain ⟨ti, hi, hz0, hz1, hz2⟩ := info_parts Tryz.infoI9
  have HNB := Lib.hid (fun (w1 : World) (hb' : Below w.heap.size w w1) => specDelays_any f z k w1 (h.up hb') hb hk)
  have DB := Lib.hid (fun j (hj : j < endN z k) => delF_bd hb hk hj)
  have l100 := snks_len hb k
  have hwire := wire_at hb hk
  have ⟨n1, n8, lr, lc, ls, _, _, qp, qr, _, qs⟩ := wire_nums hwire
  have LS := Lib.hid ls
  have LR := Lib.hid lr
  have QS := Lib.hid qs
  have QP := Lib.hid qp
  have QR := Lib.hid qr
  have hbl := Lib.hid hb
  have hkk := Lib.hid hk
  obtain ⟨p0, q0, p1, q1, p2, q2, p3, q3, p4, q4, e0, e1, e2, e3, e4⟩ := h.five
  obtain ⟨F, hc, hf⟩ := h.2.2
  rw [e4] at hc
  have ⟨x0, x1, x2, x3⟩ := hf k hk
  obtain ⟨s0, r0, f0⟩ := x0.slice; obtain ⟨s1, r1, f1⟩ := x1.slice; obtain ⟨s2, r2, f2⟩ := x2.slice; obtain ⟨s3, r3, f3⟩ := x3.slice
  rw [f0] at x0; rw [f1] at x1; rw [f3] at x3
  have H0 := Lib.hid x0; have H1 := Lib.hid x1; have H3 := Lib.hid x3
  rw [e0, e1, e2, e3, e4] at HNB
  rw [e0, e1, e2, e3, e4]
  have hkl : (k : Int) < (z.wires.length : Int) := by omega
  have hk0 : (0 : Int) ≤ (k : Int) := by omega
  obtain ⟨bw, ow, rfl, hlw, hxw⟩ := hc.at (Below.refl _ _) hk
  have y0 := hxw 0 (by omega); have y1 := hxw 1 (by omega); have y2 := hxw 2 (by omega); have y3 := hxw 3 (by omega)
  simp only [Nat.add_zero] at y0
  rw [f0] at y0; rw [f1] at y1; rw [f2] at y2; rw [f3] at y3
  clear e0 e1 e2 e3 e4 h hb hk hc hf x0 x1 x2 x3 f0 f1 f2 f3 qs qr qp lr lc ls hxw hwire
  obtain ⟨n, hn⟩ : ∃ n, n = endN z k := ⟨_, rfl⟩
  have HN := Lib.hid hn
  have n1 : 1 ≤ n := by rw [hn]; exact n1
  have n8 : n ≤ 8 := by rw [hn]; exact n8
  obtain ⟨q, hq⟩ : ∃ q, q = (wrn z.wires k).sink.length := ⟨_, rfl⟩
  have q100 : q ≤ 100 := by have := LS.out; omega
  rw [← hq] at QS ⊢
  have HQ := Lib.hid hq
  rw [← hq] at y3 H3
  rw [← hn] at HNB DB
  clear hn l100 hq
  unfold ToInts at HNB ⊢
  go_enter Tryz.func43, Tryz.ntmps43
  go_wp2_with fail
  (go_at_call 40; refine (HNB.out _ eX).mono ?_; rintro e w1 ⟨vd, rfl, hD, hb1⟩)
  obtain ⟨ad, cd, rfl⟩ := hD.slice
  obtain ⟨-, gd, rfl, gdB, gdl, gdx⟩ := hD.cells (by rw [rowOf_len]; omega)
  have GDX := Lib.hid (fun j (hj : j < n) => (show w1.cell? ⟨gd, j, none⟩ = some (.int .i64 (delF z k j)) by have := (gdx j (by rw [rowOf_len]; exact hj)).1; rw [rowOf_at hj] at this; exact this))
  have B1 : Below w.heap.size w w1 := by exact eX
  have c4 : w1.cell? ⟨w.heap.size, 4, none⟩ = some (.slice (some ⟨bw, ow, none⟩) z.wires.length q4) := cell_keep (w0 := w.alloc (Obj.cells #[.slice p0 z.lib.length q0, .slice p1 z.des.insts.length q1, .slice p2 z.des.nets.length q2, .slice p3 z.des.ports.length q3, .slice (some ⟨bw, ow, none⟩) z.wires.length q4] 46)) (by simp [go_sem]) eX
  have c3 : w1.cell? ⟨bw, ow + k * 4 + 3, none⟩ = some (.slice s3 q r3) := by rw [B1.cell (by exact hlw)]; exact y3
  have lw : bw < w1.heap.size := by have := B1.size; omega
  have l1 : w.heap.size < w1.heap.size := cell_lt c4
  have B1' := Lib.hid B1
  rw [rowOf_len]
  clear hb1 B1 y0 y1 y2 y3 hD gdx
  have G0 : Hid (GI (w1.alloc (Obj.cells #[] 2)) w1.heap.size (.slice (some ⟨w1.heap.size, 0, none⟩) 0 0) (rowOf 0 (sdF z k m))) := Lib.hid (GI.lit w1 w1.heap.size w1.heap.size (Nat.le_refl _) rfl _ rfl)
  go_wp2_with fail
  go_loopw [8, 9] (fun v i wr => ∃ j : Nat, j ≤ q ∧ i = .int .i64 j ∧ Hid (GI wr w1.heap.size v (rowOf j (sdF z k m))) ∧ Below w1.heap.size w1 wr) (fun _ i _ => q - (intOf i).toNat)
  case atStart => exact ⟨0, by omega, rfl, G0, (Below.refl _ _).alloc (Nat.le_refl _) _⟩
  case round =>
    clear G0
    obtain ⟨j, hj, rfl, hG, hbr⟩ := hrel
    have hsz := hbr.size
    have g4 := cell_keep c4 hbr
    have g3 := cell_keep c3 hbr
    by_cases hlt : j < q
    · obtain ⟨b3, o3, rfl, hl3, yt⟩ := ints_at H3.out (B1'.out.trans (hbr.mono B1'.out.size)) (show j < (wrn z.wires k).sink.length by rw [← HQ.out]; exact hlt)
      have ⟨qs0, qs1⟩ := QS.out j hlt
      obtain ⟨sj, hsj⟩ := Int.eq_ofNat_of_zero_le qs0
      rw [hsj] at yt qs1
      have hsn : sj < n := by have := HN.out; unfold endN at this; omega
      have SE := Lib.hid (show sdF z k m j = qd (delF z k sj) 1000 m by simp only [sdF, hsj]; rfl)
      have yd := cell_keep (GDX.out sj hsn) hbr
      have i0 : (0 : Int) ≤ (j : Int) := by omega
      have i1 : (j : Int) < (q : Int) := by omega
      have i2 : (0 : Int) ≤ (sj : Int) := by omega
      have i3 : (sj : Int) < (n : Int) := by omega
      have ⟨d0, d1⟩ := DB.out sj hsn
      clear hsj qs0
      go_wp2_with fail
      (go_at_call 80; refine (l01Div_any _ _ _ _ (by omega) (by omega) (by omega)).mono ?_; rintro e w' ⟨rfl, hw'⟩; rw [hw']; clear hw' w')
      have bA : Below wr.heap.size wr (wr.alloc (Obj.cells #[.int .i64 (qd (delF z k sj) 1000 m)] 2)) := (Below.refl _ _).alloc (Nat.le_refl _) _
      have HA := Lib.hid bA
      have HG := Lib.hid (hG.out.below HA.out)
      have hblk := Lib.hid HG.out.blk
      have hbX := Lib.hid (hbr)
      have szX : w1.heap.size ≤ wr.heap.size := hbX.out.size
      have szY := szX
      (try simp at szY)
      clear bA hG
      go_wp2_with (at_builtin; refine wpList_append_own _ rfl _ _ 34 rfl w1.heap.size 2 ti (.int .i64 0) 1 8 Tryz.underlying34 hi hz0 hz1 hz2 rfl (by decide) _ _ _ rfl HG.out ⟨_, 0, none⟩ 1 1 [.int .i64 (qd (delF z k sj) 1000 m)] rfl rfl (one_cellG2 _ _ _ _ (by simp)) (fun u hu => by simp at hu; subst hu; rfl) (by rw [rowOf_len]; unfold maxLen; omega) (by rw [rowOf_len]; omega) (by simp; omega) ?_; intro v' w9 hown' hgrow hnil)
      have hG2 : Hid (GI w9 w1.heap.size v' (rowOf (j + 1) (sdF z k m))) := Lib.hid (by
        unfold GI
        rw [rowOf_succ, List.map_append, List.length_append]
        first | exact hown' | (rw [SE.out]; exact hown'))
      have hb2 : Below w1.heap.size w1 w9 := (hbX.out.trans (HA.out.mono szX)).grown hgrow (by simp; omega) (fun q hq => hblk.out q hq)
      clear hown' hgrow hnil
      go_wp2
      go_roundw
      case rel => exact ⟨j + 1, by omega, by go_num, hG2, hb2⟩
      case measure => simp [intOf]; omega
    · obtain rfl : j = q := by omega
      have hI : ¬ (j : Int) < (j : Int) := by omega
      have hO := Lib.hid ((hG.out.own (by rw [rowOf_len]; omega)).mono (C := w.heap.size) B1'.out.size)
      have hbw := B1'.out.trans (hbr.mono B1'.out.size)
      clear hG
      go_wp2
      go_ret
      exact ⟨_, rfl, hO.out, hbw⟩
set_option maxHeartbeats 16000000 in
theorem specSinkDelays_any (f : Nat → Value) (z : BlkD) (x m : Int) (w : World) (h : BlkF w w.heap.size f z) :
    Calls Tryz.prog 21 #[.agg #[f 0, f 1, f 2, f 3, f 4], .int .i64 x, .int .i64 m] w (ListR w (sdelL z x m) (sdCode z x m)) := by
  have HCD := Lib.hid (fun (w1 : World) (hb' : Below w.heap.size w w1) => specCode_any f z x w1 (h.up hb'))
  by_cases hc : blkCode z x = 0
  · obtain ⟨k, rfl, hb, hk⟩ := code_get hc
    cases hmode : isM m
    · have XL := Lib.hid (sd_mode hc hmode).1
      rw [(sd_mode hc hmode).2]
      obtain ⟨p0, q0, p1, q1, p2, q2, p3, q3, p4, q4, e0, e1, e2, e3, e4⟩ := h.five
      rw [hc, e0, e1, e2, e3, e4] at HCD
      rw [e0, e1, e2, e3, e4]
      clear e0 e1 e2 e3 e4 h hb hk hc
      go_enter Tryz.func21, Tryz.ntmps21
      go_wp2_with fail
      (go_at_call 28; refine (HCD.out _ eX).mono ?_; rintro e w1 ⟨rfl, hb⟩; obtain ⟨hc, hf⟩ := bcell hb; have hz := hb.size; (try simp at hz); (try (have hz := Nat.lt_of_succ_le hz)); (try (have y0 : w.heap.size ≤ w1.heap.size := by omega)); (try (have z0 : w.heap.size < w1.heap.size := by omega)); (try (have z1 : w.heap.size + 1 < w1.heap.size := by omega)); (try (have z2 : w.heap.size + 1 + 1 < w1.heap.size := by omega)); (try (have z3 : w.heap.size + 1 + 1 + 1 < w1.heap.size := by omega)); (try (have z4 : w.heap.size + 1 + 1 + 1 + 1 < w1.heap.size := by omega)))
      have B1 : Below w.heap.size w w1 := by exact eX
      go_wp2_with (go_at_call 42; refine (l01Mode_any _ _).mono ?_; rintro e w' ⟨rfl, hw'⟩; rw [hw', hmode]; clear hw' w')
      go_ret2
      exact ⟨_, rfl, by rw [XL.out]; exact own_nil _ _, B1⟩
    · have XL := Lib.hid (sd_yes hc hmode).1
      rw [(sd_yes hc hmode).2]
      have HSD := Lib.hid (fun (w1 : World) (hb' : Below w.heap.size w w1) => specSD_any f z k m w1 (h.up hb') hb hk)
      obtain ⟨p0, q0, p1, q1, p2, q2, p3, q3, p4, q4, e0, e1, e2, e3, e4⟩ := h.five
      rw [e0, e1, e2, e3, e4] at HSD
      rw [hc, e0, e1, e2, e3, e4] at HCD
      rw [e0, e1, e2, e3, e4]
      clear e0 e1 e2 e3 e4 h hb hk hc
      unfold ToInts at HSD
      go_enter Tryz.func21, Tryz.ntmps21
      go_wp2_with fail
      (go_at_call 28; refine (HCD.out _ eX).mono ?_; rintro e w1 ⟨rfl, hb⟩; obtain ⟨hc, hf⟩ := bcell hb; have hz := hb.size; (try simp at hz); (try (have hz := Nat.lt_of_succ_le hz)); (try (have y0 : w.heap.size ≤ w1.heap.size := by omega)); (try (have z0 : w.heap.size < w1.heap.size := by omega)); (try (have z1 : w.heap.size + 1 < w1.heap.size := by omega)); (try (have z2 : w.heap.size + 1 + 1 < w1.heap.size := by omega)); (try (have z3 : w.heap.size + 1 + 1 + 1 < w1.heap.size := by omega)); (try (have z4 : w.heap.size + 1 + 1 + 1 + 1 < w1.heap.size := by omega)))
      have B1 : Below w.heap.size w w1 := by exact eX
      go_wp2_with (go_at_call 42; refine (l01Mode_any _ _).mono ?_; rintro e w' ⟨rfl, hw'⟩; rw [hw', hmode]; clear hw' w')
      (go_at_call 43; refine (HSD.out _ B1).mono ?_; rintro e w2 ⟨u, rfl, hU, hb2⟩)
      have HO := Lib.hid (hU.mono (C := w.heap.size) B1.size)
      have BB : Below w.heap.size w w2 := B1.trans (hb2.mono B1.size)
      obtain ⟨a2, c2, rfl⟩ := hU.slice
      clear hU hb2
      go_wp2
      go_ret2
      exact ⟨_, rfl, by rw [XL.out]; exact HO.out, BB⟩
  · have XL := Lib.hid (sd_no (m := m) hc).1
    have XC := (sd_no (m := m) hc).2
    have hp := code_pos z x
    obtain ⟨p0, q0, p1, q1, p2, q2, p3, q3, p4, q4, e0, e1, e2, e3, e4⟩ := h.five
    rw [XC]
    obtain ⟨c, hcc⟩ : ∃ c, c = blkCode z x := ⟨_, rfl⟩
    rw [← hcc, e0, e1, e2, e3, e4] at HCD
    rw [← hcc] at hc hp
    rw [← hcc, e0, e1, e2, e3, e4]
    clear e0 e1 e2 e3 e4 h hcc XC
    have hne : (c != 0) = true := by simpa using hc
    have hne2 : (c == 0) = false := by simpa using hc
    clear hp hc
    go_enter Tryz.func21, Tryz.ntmps21
    go_wp2_with fail
    (go_at_call 28; refine (HCD.out _ eX).mono ?_; rintro e w1 ⟨rfl, hb⟩; obtain ⟨hc, hf⟩ := bcell hb; have hz := hb.size; (try simp at hz); (try (have hz := Nat.lt_of_succ_le hz)); (try (have y0 : w.heap.size ≤ w1.heap.size := by omega)); (try (have z0 : w.heap.size < w1.heap.size := by omega)); (try (have z1 : w.heap.size + 1 < w1.heap.size := by omega)); (try (have z2 : w.heap.size + 1 + 1 < w1.heap.size := by omega)); (try (have z3 : w.heap.size + 1 + 1 + 1 < w1.heap.size := by omega)); (try (have z4 : w.heap.size + 1 + 1 + 1 + 1 < w1.heap.size := by omega)))
    have B1 : Below w.heap.size w w1 := by exact eX
    go_wp2
    go_ret2
    exact ⟨_, rfl, by rw [XL.out]; exact own_nil _ _, B1⟩
end Go.Proofs.YtodgpjolkfkcpaaGreat
