/-
SinkSlew of the program and of the model, for all blocks and numbers.
-/
import Derived.Test.YtodgpjolkfkcpaaGreatNodeN
import Derived.Test.YtodgpjolkfkcpaaGreatSqr
namespace Go.Proofs.YtodgpjolkfkcpaaGreat
open Go.ChangeShapes Go.WideShapes Go.ChangeAt Go.RowKit Go.Deep
set_option linter.unusedVariables false
set_option linter.unusedSimpArgs false
set_option maxRecDepth 100000
def slD (z : BlkD) (k : Nat) (i : Int) : Int := delF z k (iv (wrn z.wires k).sink i.toNat).toNat
def slOk (z : BlkD) (k : Nat) (i s m : Int) : Bool := inB i 0 (((wrn z.wires k).sink.length : Int) - 1) && inB s 0 1000000 && isM m
def slCode (z : BlkD) (x i s m : Int) : Int := if blkCode z x = 0 then (if slOk z x.toNat i s m then 0 else 2) else blkCode z x
def slewV (z : BlkD) (x i s m : Int) : Int := if blkCode z x = 0 ∧ slOk z x.toNat i s m = true then rt (s * s + qd (2 * slD z x.toNat i * (2 * slD z x.toNat i)) 1000000 m) m else 0
theorem sl_no {z : BlkD} {x i s m : Int} (h : blkCode z x ≠ 0) : slewV z x i s m = 0 ∧ slCode z x i s m = blkCode z x := ⟨by simp [slewV, h], by simp [slCode, h]⟩
theorem sl_bad {z : BlkD} {k : Nat} {i s m : Int} (h : blkCode z (k : Int) = 0) (hm : slOk z k i s m = false) : slewV z k i s m = 0 ∧ slCode z k i s m = 2 := ⟨by simp [slewV, hm], by simp [slCode, h, hm]⟩
theorem sl_yes {z : BlkD} {k : Nat} {i s m : Int} (h : blkCode z (k : Int) = 0) (hm : slOk z k i s m = true) : slewV z k i s m = rt (s * s + qd (2 * slD z k i * (2 * slD z k i)) 1000000 m) m ∧ slCode z k i s m = 0 := ⟨by simp [slewV, h, hm], by simp [slCode, h, hm]⟩
theorem isM_get {m : Int} (h : isM m = true) : m = 0 ∨ m = 1 := by simpa [isM] using h
theorem quotient_big (a b m : Int) (w : World) (ha : -4000000000000000000 ≤ a) (ha2 : a ≤ 4000000000000000000) (hb : 0 < b) : Calls Tryz.prog 45 #[.int .i64 m, .int .i64 a, .int .i64 b] w fun e w' => e = .returned (.int .i64 (qd a b m)) ∧ ∃ n, w' = w.drewN n := by
  obtain ⟨hq1, hq2⟩ := tdiv_bd a b _ ha ha2
  unfold qd
  by_cases hm0 : m = 0
  · subst hm0
    go_enter Tryz.func45, Tryz.ntmps45
    go_wp2
    go_quiet (fail)
    go_wp2
    all_goals (go_ret; exact ⟨ret_int (by simp; try omega), nq, rfl⟩)
  · by_cases hm1 : m = 1
    · subst hm1
      go_enter Tryz.func45, Tryz.ntmps45
      go_wp2
      go_quiet (fail)
      go_wp2
      all_goals (go_ret; exact ⟨ret_int (by simp; try omega), nq, rfl⟩)
    · go_enter Tryz.func45, Tryz.ntmps45
      go_wp2
      go_quiet (fail)
      go_wp2
      all_goals (go_ret; exact ⟨ret_int (by simp), nq, rfl⟩)
set_option maxHeartbeats 16000000 in
theorem implSinkSlew_any (f : Nat → Value) (z : BlkD) (x i s m : Int) (w : World) (h : BlkF w w.heap.size f z) :
    Calls Tryz.prog 24 #[.agg #[f 0, f 1, f 2, f 3, f 4], .int .i64 x, .int .i64 i, .int .i64 s, .int .i64 m] w fun e w' => e = .returned (.tuple #[.int .i64 (slewV z x i s m), .int .i64 (slCode z x i s m)]) ∧ Below w.heap.size w w' := by
  by_cases hc : blkCode z x = 0
  · obtain ⟨k, rfl, hb, hk⟩ := code_get hc
    have HNB := Lib.hid (fun (w1 : World) (hb' : Below w.heap.size w w1) => nodes_yes f z k w1 (h.up hb') hb hk)
    have LB := Lib.hid (lodF_bd hb hk)
    have RB := Lib.hid (res_bd hb hk)
    have DB := Lib.hid (fun j (hj : j < endN z k) => delF_bd hb hk hj)
    have l100 := snks_len hb k
    have SB := Lib.hid (fun (hm : slOk z k i s m = false) => sl_bad hc hm)
    have SY := Lib.hid (fun (hm : slOk z k i s m = true) => sl_yes hc hm)
    clear hc
    have hwire := wire_at hb hk
    have ⟨n1, n8, lr, lc, ls, _, _, qp, qr, _, qs⟩ := wire_nums hwire
    have LS := Lib.hid ls
    have LR := Lib.hid lr
    have QS := Lib.hid qs
    have QP := Lib.hid qp
    have QR := Lib.hid qr
    have hbl := Lib.hid hb
    have hkk := Lib.hid hk
    obtain ⟨p0, q0, p1, q1, p2, q2, p3, q3, p4, q4, e0, e1, e2, e3, e4⟩ := h.five
    obtain ⟨F, hc, hf⟩ := h.2.2
    rw [e4] at hc
    have ⟨x0, x1, x2, x3⟩ := hf k hk
    obtain ⟨s0, r0, f0⟩ := x0.slice; obtain ⟨s1, r1, f1⟩ := x1.slice; obtain ⟨s2, r2, f2⟩ := x2.slice; obtain ⟨s3, r3, f3⟩ := x3.slice
    rw [f0] at x0; rw [f1] at x1; rw [f3] at x3
    have H0 := Lib.hid x0; have H1 := Lib.hid x1; have H3 := Lib.hid x3
    rw [e0, e1, e2, e3, e4] at HNB
    rw [e0, e1, e2, e3, e4]
    have hkl : (k : Int) < (z.wires.length : Int) := by omega
    have hk0 : (0 : Int) ≤ (k : Int) := by omega
    obtain ⟨bw, ow, rfl, hlw, hxw⟩ := hc.at (Below.refl _ _) hk
    have y0 := hxw 0 (by omega); have y1 := hxw 1 (by omega); have y2 := hxw 2 (by omega); have y3 := hxw 3 (by omega)
    simp only [Nat.add_zero] at y0
    rw [f0] at y0; rw [f1] at y1; rw [f2] at y2; rw [f3] at y3
    clear e0 e1 e2 e3 e4 h hb hk hc hf x0 x1 x2 x3 f0 f1 f2 f3 qs qr qp lr lc ls hxw hwire
    obtain ⟨n, hn⟩ : ∃ n, n = endN z k := ⟨_, rfl⟩
    have HN := Lib.hid hn
    have n1 : 1 ≤ n := by rw [hn]; exact n1
    have n8 : n ≤ 8 := by rw [hn]; exact n8
    have hn8 : endN z k ≤ 8 := by rw [← HN.out]; exact n8
    have q100 : (wrn z.wires k).sink.length ≤ 100 := by have := LS.out; omega
    have QL : (wrn z.wires k).sink.length ≤ 9223372036854775807 := by omega
    clear hn l100
    have WALK := Lib.hid (fun (b1 b2 b3 : Bool) (h1 : inB i 0 (((wrn z.wires k).sink.length : Int) - 1) = b1) (h2 : inB s 0 1000000 = b2) (h3 : isM m = b3) => trivial)
    cases h1 : inB i 0 (((wrn z.wires k).sink.length : Int) - 1)
    · have hS := Lib.hid (SB.out (by simp [slOk, h1]))
      clear WALK SB SY
      rw [hS.out.1, hS.out.2]
      go_enter Tryz.func24, Tryz.ntmps24
      go_wp2_with fail
      (go_at_call 33; refine (HNB.out _ eX).mono ?_; rintro e w1 ⟨v, ad, rfl, hN, hb1⟩)
      have hN := Lib.hid (show NodeL w1 _ v n ad (pa (wrn z.wires k)) (iv (wrn z.wires k).res) (lodF z k) by rw [HN.out]; exact hN)
      obtain ⟨av, cv, rfl⟩ := hN.out.slice
      have B1 : Below w.heap.size w w1 := by exact eX
      have c4 : w1.cell? ⟨w.heap.size, 4, none⟩ = some (.slice (some ⟨bw, ow, none⟩) z.wires.length q4) := cell_keep (w0 := w.alloc (Obj.cells #[.slice p0 z.lib.length q0, .slice p1 z.des.insts.length q1, .slice p2 z.des.nets.length q2, .slice p3 z.des.ports.length q3, .slice (some ⟨bw, ow, none⟩) z.wires.length q4] 46)) (by simp [go_sem]) eX
      have c3 : w1.cell? ⟨bw, ow + k * 4 + 3, none⟩ = some (.slice s3 (wrn z.wires k).sink.length r3) := by rw [B1.cell (by exact hlw)]; exact y3
      have lw : bw < w1.heap.size := by have := B1.size; omega
      have l1 : w.heap.size < w1.heap.size := cell_lt c4
      have B1' := Lib.hid B1
      clear hb1 B1 y0 y1 y2 y3
      go_wp2_with (go_at_call 48; refine (hasIxI_any _ _ _ _ _ QL).mono ?_; rintro e w' ⟨rfl, hw'⟩; rw [hw', h1]; clear hw' w')
      go_ret2
      exact ⟨rfl, B1'.out⟩
    · cases h2 : inB s 0 1000000
      · have hS := Lib.hid (SB.out (by simp [slOk, h2]))
        clear WALK SB SY
        rw [hS.out.1, hS.out.2]
        go_enter Tryz.func24, Tryz.ntmps24
        go_wp2_with fail
        (go_at_call 33; refine (HNB.out _ eX).mono ?_; rintro e w1 ⟨v, ad, rfl, hN, hb1⟩)
        have hN := Lib.hid (show NodeL w1 _ v n ad (pa (wrn z.wires k)) (iv (wrn z.wires k).res) (lodF z k) by rw [HN.out]; exact hN)
        obtain ⟨av, cv, rfl⟩ := hN.out.slice
        have B1 : Below w.heap.size w w1 := by exact eX
        have c4 : w1.cell? ⟨w.heap.size, 4, none⟩ = some (.slice (some ⟨bw, ow, none⟩) z.wires.length q4) := cell_keep (w0 := w.alloc (Obj.cells #[.slice p0 z.lib.length q0, .slice p1 z.des.insts.length q1, .slice p2 z.des.nets.length q2, .slice p3 z.des.ports.length q3, .slice (some ⟨bw, ow, none⟩) z.wires.length q4] 46)) (by simp [go_sem]) eX
        have c3 : w1.cell? ⟨bw, ow + k * 4 + 3, none⟩ = some (.slice s3 (wrn z.wires k).sink.length r3) := by rw [B1.cell (by exact hlw)]; exact y3
        have lw : bw < w1.heap.size := by have := B1.size; omega
        have l1 : w.heap.size < w1.heap.size := cell_lt c4
        have B1' := Lib.hid B1
        clear hb1 B1 y0 y1 y2 y3
        go_wp2_with (first | (go_at_call 48; refine (hasIxI_any _ _ _ _ _ QL).mono ?_; rintro e w' ⟨rfl, hw'⟩; rw [hw', h1]; clear hw' w') | (go_at_call 49; refine (inRange_any _ _ _ _).mono ?_; rintro e w' ⟨rfl, hw'⟩; rw [hw', h2]; clear hw' w'))
        go_ret2
        exact ⟨rfl, B1'.out⟩
      · cases h3 : isM m
        · have hS := Lib.hid (SB.out (by simp [slOk, h3]))
          clear WALK SB SY
          rw [hS.out.1, hS.out.2]
          go_enter Tryz.func24, Tryz.ntmps24
          go_wp2_with fail
          (go_at_call 33; refine (HNB.out _ eX).mono ?_; rintro e w1 ⟨v, ad, rfl, hN, hb1⟩)
          have hN := Lib.hid (show NodeL w1 _ v n ad (pa (wrn z.wires k)) (iv (wrn z.wires k).res) (lodF z k) by rw [HN.out]; exact hN)
          obtain ⟨av, cv, rfl⟩ := hN.out.slice
          have B1 : Below w.heap.size w w1 := by exact eX
          have c4 : w1.cell? ⟨w.heap.size, 4, none⟩ = some (.slice (some ⟨bw, ow, none⟩) z.wires.length q4) := cell_keep (w0 := w.alloc (Obj.cells #[.slice p0 z.lib.length q0, .slice p1 z.des.insts.length q1, .slice p2 z.des.nets.length q2, .slice p3 z.des.ports.length q3, .slice (some ⟨bw, ow, none⟩) z.wires.length q4] 46)) (by simp [go_sem]) eX
          have c3 : w1.cell? ⟨bw, ow + k * 4 + 3, none⟩ = some (.slice s3 (wrn z.wires k).sink.length r3) := by rw [B1.cell (by exact hlw)]; exact y3
          have lw : bw < w1.heap.size := by have := B1.size; omega
          have l1 : w.heap.size < w1.heap.size := cell_lt c4
          have B1' := Lib.hid B1
          clear hb1 B1 y0 y1 y2 y3
          go_wp2_with (first | (go_at_call 48; refine (hasIxI_any _ _ _ _ _ QL).mono ?_; rintro e w' ⟨rfl, hw'⟩; rw [hw', h1]; clear hw' w') | (go_at_call 49; refine (inRange_any _ _ _ _).mono ?_; rintro e w' ⟨rfl, hw'⟩; rw [hw', h2]; clear hw' w') | (go_at_call 44; refine (isMode_any _ _).mono ?_; rintro e w' ⟨rfl, hw'⟩; rw [hw', h3]; clear hw' w'))
          go_ret2
          exact ⟨rfl, B1'.out⟩
        · have hS := Lib.hid (SY.out (by simp [slOk, h1, h2, h3]))
          clear WALK SB SY
          rw [hS.out.1, hS.out.2]
          have ⟨j0, j1⟩ := inB_get h1
          have ⟨s0', s1'⟩ := inB_get h2
          have hm := isM_get h3
          obtain ⟨ii, rfl⟩ := Int.eq_ofNat_of_zero_le j0
          have hil : ii < (wrn z.wires k).sink.length := by omega
          have ⟨qs0, qs1⟩ := QS.out ii hil
          obtain ⟨sj, hsj⟩ := Int.eq_ofNat_of_zero_le qs0
          rw [hsj] at qs1
          have hsn : sj < n := by have := HN.out; unfold endN at this; omega
          have ED := Lib.hid (show slD z k (ii : Int) = dly (pa (wrn z.wires k)) (iv (wrn z.wires k).res) (lodF z k) sj by simp only [slD, Int.toNat_natCast, hsj]; rfl)
          have ⟨d0, d1⟩ := DB.out sj (by rw [← HN.out]; exact hsn)
          change 0 ≤ dly (pa (wrn z.wires k)) (iv (wrn z.wires k).res) (lodF z k) sj at d0
          change dly (pa (wrn z.wires k)) (iv (wrn z.wires k).res) (lodF z k) sj ≤ 432000000 at d1
          rw [ED.out]
          go_enter Tryz.func24, Tryz.ntmps24
          go_wp2_with fail
          (go_at_call 33; refine (HNB.out _ eX).mono ?_; rintro e w1 ⟨v, ad, rfl, hN, hb1⟩)
          have hN := Lib.hid (show NodeL w1 _ v n ad (pa (wrn z.wires k)) (iv (wrn z.wires k).res) (lodF z k) by rw [HN.out]; exact hN)
          obtain ⟨av, cv, rfl⟩ := hN.out.slice
          have B1 : Below w.heap.size w w1 := by exact eX
          have c4 : w1.cell? ⟨w.heap.size, 4, none⟩ = some (.slice (some ⟨bw, ow, none⟩) z.wires.length q4) := cell_keep (w0 := w.alloc (Obj.cells #[.slice p0 z.lib.length q0, .slice p1 z.des.insts.length q1, .slice p2 z.des.nets.length q2, .slice p3 z.des.ports.length q3, .slice (some ⟨bw, ow, none⟩) z.wires.length q4] 46)) (by simp [go_sem]) eX
          have c3 : w1.cell? ⟨bw, ow + k * 4 + 3, none⟩ = some (.slice s3 (wrn z.wires k).sink.length r3) := by rw [B1.cell (by exact hlw)]; exact y3
          have lw : bw < w1.heap.size := by have := B1.size; omega
          have l1 : w.heap.size < w1.heap.size := cell_lt c4
          have B1' := Lib.hid B1
          clear hb1 B1 y0 y1 y2 y3
          obtain ⟨b3, o3, rfl, hl3, yt⟩ := ints_at H3.out B1'.out hil
          rw [hsj] at yt
          obtain ⟨g, cg, eg, _, hgl, hgc⟩ := hN.out.at hsn
          simp only [Value.slice.injEq] at eg
          obtain ⟨rfl, _, rfl⟩ := eg
          have yg := hgc sj hsn
          have i1 : (ii : Int) < ((wrn z.wires k).sink.length : Int) := by omega
          have i2 : (0 : Int) ≤ (sj : Int) := by omega
          have i3 : (sj : Int) < (n : Int) := by omega
          clear hgc hsj
          go_wp2_with (first | (go_at_call 48; refine (hasIxI_any _ _ _ _ _ QL).mono ?_; rintro e w' ⟨rfl, hw'⟩; rw [hw', h1]; clear hw' w') | (go_at_call 49; refine (inRange_any _ _ _ _).mono ?_; rintro e w' ⟨rfl, hw'⟩; rw [hw', h2]; clear hw' w') | (go_at_call 44; refine (isMode_any _ _).mono ?_; rintro e w' ⟨rfl, hw'⟩; rw [hw', h3]; clear hw' w'))
          (go_at_call 41; refine (delay_any sj hsn n8 RB.out LB.out w1 hN.out.2.1).mono ?_; rintro e w5 ⟨rfl, hb5⟩)
          obtain ⟨D, hD⟩ : ∃ D, D = dly (pa (wrn z.wires k)) (iv (wrn z.wires k).res) (lodF z k) sj := ⟨_, rfl⟩
          rw [← hD] at d0 d1 ⊢
          have B5 := Lib.hid (B1'.out.trans (hb5.mono B1'.out.size))
          have p0 := Int.mul_nonneg (show 0 ≤ 2 * D by omega) (show 0 ≤ 2 * D by omega)
          have p1 := sq_mono (show 0 ≤ 2 * D by omega) (show 2 * D ≤ 864000000 by omega)
          have t0 := sq_nn s
          have t1 := sq_mono s0' s1'
          obtain ⟨Q, hQ⟩ : ∃ Q, Q = qd (2 * D * (2 * D)) 1000000 m := ⟨_, rfl⟩
          have hQb : 0 ≤ Q ∧ Q ≤ 800000000000 := by
            rcases hm with rfl | rfl
            · have ⟨f1, f2, f3⟩ := qd_floor p0 (show (0 : Int) < 1000000 by omega)
              rw [← hQ] at f1 f2 f3; omega
            · have ⟨f1, f2, f3⟩ := qd_ceil p0 (show (0 : Int) < 1000000 by omega)
              rw [← hQ] at f1 f2 f3; omega
          have ⟨u0, u1⟩ := hQb
          have HQ2 := Lib.hid hQ
          have HD2 := Lib.hid hD
          have hw1 : IntKind.i64.wrap (2 * D * (2 * D)) = 2 * D * (2 * D) := IntWalk.i64_in _ (by omega)
          have hw2 : IntKind.i64.wrap (s * s) = s * s := IntWalk.i64_in _ (by omega)
          have t2 : s * s + Q ≤ 1152921504606846976 := by omega
          have t3 : 0 ≤ s * s + Q := by omega
          clear hD yg yt hb5 hQ hQb
          go_wp2_with fail
          (go_at_call 45; refine (quotient_big _ _ _ _ (by omega) (by omega) (by omega)).mono ?_; rintro e w6 ⟨rfl, nq, rfl⟩)
          rw [← HQ2.out]
          go_wp2_with fail
          (go_at_call 50; refine (root_any _ _ _ t3 t2 hm).mono ?_; rintro e w7 ⟨rfl, hb7⟩)
          have B7 : Below w.heap.size w w7 := (B5.out.trans ((ext_drewN (Below.refl _ _) nq).mono B5.out.size)).trans (hb7.mono (B5.out.trans ((ext_drewN (Below.refl _ _) nq).mono B5.out.size)).size)
          clear hb7 hw1 hw2
          go_wp2
          go_ret2
          exact ⟨by rw [HQ2.out, HD2.out]; rfl, B7⟩
  · have HCD := Lib.hid (fun (w1 : World) (hb' : Below w.heap.size w w1) => nodes_no f z x w1 (h.up hb') hc)
    rw [(sl_no (i := i) (s := s) (m := m) hc).1, (sl_no (i := i) (s := s) (m := m) hc).2]
    have hp := code_pos z x
    obtain ⟨p0, q0, p1, q1, p2, q2, p3, q3, p4, q4, e0, e1, e2, e3, e4⟩ := h.five
    obtain ⟨c, hcc⟩ : ∃ c, c = blkCode z x := ⟨_, rfl⟩
    rw [← hcc, e0, e1, e2, e3, e4] at HCD
    rw [← hcc] at hc hp
    rw [← hcc, e0, e1, e2, e3, e4]
    clear e0 e1 e2 e3 e4 h hcc
    have hne : (c != 0) = true := by simpa using hc
    have hne2 : (c == 0) = false := by simpa using hc
    clear hp hc
    go_enter Tryz.func24, Tryz.ntmps24
    go_wp2_with fail
    (go_at_call 33; refine (HCD.out _ eX).mono ?_; rintro e w1 ⟨rfl, hb1⟩)
    have B1 : Below w.heap.size w w1 := by exact eX
    clear hb1
    go_wp2
    go_ret2
    exact ⟨rfl, B1⟩
set_option maxHeartbeats 16000000 in
theorem specSlew_any (f : Nat → Value) (z : BlkD) (k ii : Nat) (s m : Int) (w : World) (h : BlkF w w.heap.size f z) (hb : blkB z = true) (hk : k < z.wires.length) (hil : ii < (wrn z.wires k).sink.length) (s0' : 0 ≤ s) (s1' : s ≤ 1000000) (hm : m = 0 ∨ m = 1) :
    Calls Tryz.prog 47 #[.agg #[f 0, f 1, f 2, f 3, f 4], .int .i64 (k : Int), .int .i64 (ii : Int), .int .i64 s, .int .i64 m] w fun e w' => e = .returned (.int .i64 (qd (rt (1000000 * s * s + 4 * slD z k ii * slD z k ii) m) 1000 m)) ∧ Below w.heap.size w w' := by
  have HNB := Lib.hid (fun (w1 : World) (hb' : Below w.heap.size w w1) => specDelays_any f z k w1 (h.up hb') hb hk)
  have DB := Lib.hid (fun j (hj : j < endN z k) => delF_bd hb hk hj)
  have l100 := snks_len hb k
  have hwire := wire_at hb hk
  have ⟨n1, n8, lr, lc, ls, _, _, qp, qr, _, qs⟩ := wire_nums hwire
  have LS := Lib.hid ls
  have LR := Lib.hid lr
  have QS := Lib.hid qs
  have QP := Lib.hid qp
  have QR := Lib.hid qr
  have hbl := Lib.hid hb
  have hkk := Lib.hid hk
  obtain ⟨p0, q0, p1, q1, p2, q2, p3, q3, p4, q4, e0, e1, e2, e3, e4⟩ := h.five
  obtain ⟨F, hc, hf⟩ := h.2.2
  rw [e4] at hc
  have ⟨x0, x1, x2, x3⟩ := hf k hk
  obtain ⟨s0, r0, f0⟩ := x0.slice; obtain ⟨s1, r1, f1⟩ := x1.slice; obtain ⟨s2, r2, f2⟩ := x2.slice; obtain ⟨s3, r3, f3⟩ := x3.slice
  rw [f0] at x0; rw [f1] at x1; rw [f3] at x3
  have H0 := Lib.hid x0; have H1 := Lib.hid x1; have H3 := Lib.hid x3
  rw [e0, e1, e2, e3, e4] at HNB
  rw [e0, e1, e2, e3, e4]
  have hkl : (k : Int) < (z.wires.length : Int) := by omega
  have hk0 : (0 : Int) ≤ (k : Int) := by omega
  obtain ⟨bw, ow, rfl, hlw, hxw⟩ := hc.at (Below.refl _ _) hk
  have y0 := hxw 0 (by omega); have y1 := hxw 1 (by omega); have y2 := hxw 2 (by omega); have y3 := hxw 3 (by omega)
  simp only [Nat.add_zero] at y0
  rw [f0] at y0; rw [f1] at y1; rw [f2] at y2; rw [f3] at y3
  clear e0 e1 e2 e3 e4 h hb hk hc hf x0 x1 x2 x3 f0 f1 f2 f3 qs qr qp lr lc ls hxw hwire
  obtain ⟨n, hn⟩ : ∃ n, n = endN z k := ⟨_, rfl⟩
  have HN := Lib.hid hn
  have n1 : 1 ≤ n := by rw [hn]; exact n1
  have n8 : n ≤ 8 := by rw [hn]; exact n8
  have q100 : (wrn z.wires k).sink.length ≤ 100 := by have := LS.out; omega
  rw [← hn] at HNB DB
  have ⟨qs0, qs1⟩ := QS.out ii hil
  obtain ⟨sj, hsj⟩ := Int.eq_ofNat_of_zero_le qs0
  obtain ⟨b3, o3, rfl, hl3, yt⟩ := ints_at H3.out (Below.refl _ _) hil
  rw [hsj] at qs1 yt
  have hsn : sj < n := by have := HN.out; unfold endN at this; omega
  have ED : slD z k (ii : Int) = delF z k sj := by simp only [slD, Int.toNat_natCast, hsj]
  rw [ED]
  have ⟨d0, d1⟩ := DB.out sj hsn
  have i1 : (ii : Int) < ((wrn z.wires k).sink.length : Int) := by omega
  have i11 : (0 : Int) ≤ (ii : Int) := by omega
  have i2 : (0 : Int) ≤ (sj : Int) := by omega
  have i3 : (sj : Int) < (n : Int) := by omega
  clear hn l100 hsj qs0 ED
  unfold ToInts at HNB
  have y3' : (w.alloc (Obj.cells #[.slice p0 z.lib.length q0, .slice p1 z.des.insts.length q1, .slice p2 z.des.nets.length q2, .slice p3 z.des.ports.length q3, .slice (some ⟨bw, ow, none⟩) z.wires.length q4] 46)).cell? ⟨bw, ow + k * 4 + 3, none⟩ = some (.slice (some ⟨b3, o3, none⟩) (wrn z.wires k).sink.length r3) := by rw [Below.cell (B := w.heap.size) ((Below.refl _ _).alloc (Nat.le_refl _) _) (by exact hlw)]; exact y3
  have yt' : (w.alloc (Obj.cells #[.slice p0 z.lib.length q0, .slice p1 z.des.insts.length q1, .slice p2 z.des.nets.length q2, .slice p3 z.des.ports.length q3, .slice (some ⟨bw, ow, none⟩) z.wires.length q4] 46)).cell? ⟨b3, o3 + ii, none⟩ = some (.int .i64 (sj : Int)) := by rw [Below.cell (B := w.heap.size) ((Below.refl _ _).alloc (Nat.le_refl _) _) (by exact hl3)]; exact yt
  have kb0 : (w.alloc (Obj.cells #[.slice p0 z.lib.length q0, .slice p1 z.des.insts.length q1, .slice p2 z.des.nets.length q2, .slice p3 z.des.ports.length q3, .slice (some ⟨bw, ow, none⟩) z.wires.length q4] 46)).cell? ⟨w.heap.size, 0, none⟩ = some (.slice p0 z.lib.length q0) := by simp [go_sem]
  have kb1 : (w.alloc (Obj.cells #[.slice p0 z.lib.length q0, .slice p1 z.des.insts.length q1, .slice p2 z.des.nets.length q2, .slice p3 z.des.ports.length q3, .slice (some ⟨bw, ow, none⟩) z.wires.length q4] 46)).cell? ⟨w.heap.size, 1, none⟩ = some (.slice p1 z.des.insts.length q1) := by simp [go_sem]
  have kb2 : (w.alloc (Obj.cells #[.slice p0 z.lib.length q0, .slice p1 z.des.insts.length q1, .slice p2 z.des.nets.length q2, .slice p3 z.des.ports.length q3, .slice (some ⟨bw, ow, none⟩) z.wires.length q4] 46)).cell? ⟨w.heap.size, 2, none⟩ = some (.slice p2 z.des.nets.length q2) := by simp [go_sem]
  have kb3 : (w.alloc (Obj.cells #[.slice p0 z.lib.length q0, .slice p1 z.des.insts.length q1, .slice p2 z.des.nets.length q2, .slice p3 z.des.ports.length q3, .slice (some ⟨bw, ow, none⟩) z.wires.length q4] 46)).cell? ⟨w.heap.size, 3, none⟩ = some (.slice p3 z.des.ports.length q3) := by simp [go_sem]
  have kb4 : (w.alloc (Obj.cells #[.slice p0 z.lib.length q0, .slice p1 z.des.insts.length q1, .slice p2 z.des.nets.length q2, .slice p3 z.des.ports.length q3, .slice (some ⟨bw, ow, none⟩) z.wires.length q4] 46)).cell? ⟨w.heap.size, 4, none⟩ = some (.slice (some ⟨bw, ow, none⟩) z.wires.length q4) := by simp [go_sem]
  obtain ⟨U, hU⟩ : ∃ U, U = w.alloc (Obj.cells #[.slice p0 z.lib.length q0, .slice p1 z.des.insts.length q1, .slice p2 z.des.nets.length q2, .slice p3 z.des.ports.length q3, .slice (some ⟨bw, ow, none⟩) z.wires.length q4] 46) := ⟨_, rfl⟩
  rw [← hU] at y3' yt' kb0 kb1 kb2 kb3 kb4
  have bU : Below w.heap.size w U := by rw [hU]; exact (Below.refl _ _).alloc (Nat.le_refl _) _
  have sU : w.heap.size < U.heap.size := cell_lt kb0
  have HU := Lib.hid hU
  clear hU y0 y1 y2 y3 yt
  go_enter Tryz.func47, Tryz.ntmps47
  go_wp2_with fail
  rw [← HU.out]
  refine wp_region_held_drew (S := (fun w' => w'.cell? ⟨w.heap.size, 0, none⟩ = some (.slice p0 z.lib.length q0) ∧ w'.cell? ⟨w.heap.size, 1, none⟩ = some (.slice p1 z.des.insts.length q1) ∧ w'.cell? ⟨w.heap.size, 2, none⟩ = some (.slice p2 z.des.nets.length q2) ∧ w'.cell? ⟨w.heap.size, 3, none⟩ = some (.slice p3 z.des.ports.length q3) ∧ w'.cell? ⟨w.heap.size, 4, none⟩ = some (.slice (some ⟨bw, ow, none⟩) z.wires.length q4) ∧ w'.cell? ⟨bw, ow + k * 4 + 3, none⟩ = some (.slice (some ⟨b3, o3, none⟩) (wrn z.wires k).sink.length r3) ∧ w'.cell? ⟨b3, o3 + ii, none⟩ = some (.int .i64 (sj : Int)) ∧ w'.cell? ⟨b3, o3 + ii, none⟩ = some (.int .i64 (sj : Int)) ∧ Below w.heap.size w w' ∧ w.heap.size < w'.heap.size)) (by kernel_rfl) ?_ (fun hHeld => ?_)
  · (try dsimp only); ((repeat' apply And.intro) <;> first | assumption | ((exact eX); done) | (simp [go_sem]; done) | (simp [go_sem, *]; done) | (simp; omega) | omega)
  (try dsimp only at hHeld)
  refine wpAnyH_take (i := 0) (oi := _) (v := ?_) rfl (by kernel_rfl) (by kernel_rfl) (by kernel_rfl) (fun _ _ _ h => h) (Or.inl ⟨by rfl, ?_⟩) (by with_reducible assumption) ?_
  rotate_left
  focus (intro w' hSw; (try dsimp only at hSw); go_simp; try (with_reducible rfl))
  (try simp only [Act.put, List.getElem_toArray, List.getElem_cons_zero, List.getElem_cons_succ, List.setIfInBounds_toArray, List.set_cons_zero, List.set_cons_succ])
  refine wpAnyH_take (i := 1) (oi := _) (v := ?_) rfl (by kernel_rfl) (by kernel_rfl) (by kernel_rfl) (fun _ _ _ h => h) (Or.inl ⟨by rfl, ?_⟩) (by with_reducible assumption) ?_
  rotate_left
  focus (intro w' hSw; (try dsimp only at hSw); go_simp; try (with_reducible rfl))
  (try simp only [Act.put, List.getElem_toArray, List.getElem_cons_zero, List.getElem_cons_succ, List.setIfInBounds_toArray, List.set_cons_zero, List.set_cons_succ])
  refine wpAnyH_take (i := 3) (oi := _) (v := ?_) rfl (by kernel_rfl) (by kernel_rfl) (by kernel_rfl) (fun _ _ _ h => h) (Or.inl ⟨by rfl, ?_⟩) (by with_reducible assumption) ?_
  rotate_left
  focus (intro w' hSw; (try dsimp only at hSw); go_simp; try (with_reducible rfl))
  (try simp only [Act.put, List.getElem_toArray, List.getElem_cons_zero, List.getElem_cons_succ, List.setIfInBounds_toArray, List.set_cons_zero, List.set_cons_succ])
  refine wpAnyH_take (i := 4) (oi := _) (v := ?_) rfl (by kernel_rfl) (by kernel_rfl) (by kernel_rfl) (fun _ _ _ h => h) (Or.inl ⟨by rfl, ?_⟩) (by with_reducible assumption) ?_
  rotate_left
  focus (intro w' hSw; (try dsimp only at hSw); go_simp; try (with_reducible rfl))
  (try simp only [Act.put, List.getElem_toArray, List.getElem_cons_zero, List.getElem_cons_succ, List.setIfInBounds_toArray, List.set_cons_zero, List.set_cons_succ])
  refine wpAnyH_take (i := 5) (oi := _) (v := ?_) rfl (by kernel_rfl) (by kernel_rfl) (by kernel_rfl) (fun _ _ _ h => h) (Or.inl ⟨by rfl, ?_⟩) (by with_reducible assumption) ?_
  rotate_left
  focus (intro w' hSw; (try dsimp only at hSw); go_simp; try (with_reducible rfl))
  (try simp only [Act.put, List.getElem_toArray, List.getElem_cons_zero, List.getElem_cons_succ, List.setIfInBounds_toArray, List.set_cons_zero, List.set_cons_succ])
  refine wpAnyH_take (i := 6) (oi := _) (v := ?_) rfl (by kernel_rfl) (by kernel_rfl) (by kernel_rfl) (fun _ _ _ h => h) (Or.inl ⟨by rfl, ?_⟩) (by with_reducible assumption) ?_
  rotate_left
  focus (intro w' hSw; (try dsimp only at hSw); go_simp; try (with_reducible rfl))
  (try simp only [Act.put, List.getElem_toArray, List.getElem_cons_zero, List.getElem_cons_succ, List.setIfInBounds_toArray, List.set_cons_zero, List.set_cons_succ])
  refine wpAnyH_take (i := 7) (oi := _) (v := ?_) rfl (by kernel_rfl) (by kernel_rfl) (by kernel_rfl) (fun _ _ _ h => h) (Or.inl ⟨by rfl, ?_⟩) (by with_reducible assumption) ?_
  rotate_left
  focus (intro w' hSw; (try dsimp only at hSw); go_simp; try (with_reducible rfl))
  (try simp only [Act.put, List.getElem_toArray, List.getElem_cons_zero, List.getElem_cons_succ, List.setIfInBounds_toArray, List.set_cons_zero, List.set_cons_succ])
  refine wpAnyH_take (i := 8) (oi := _) (v := ?_) rfl (by kernel_rfl) (by kernel_rfl) (by kernel_rfl) (fun _ _ _ h => h) (Or.inl ⟨by rfl, ?_⟩) (by with_reducible assumption) ?_
  rotate_left
  focus (intro w' hSw; (try dsimp only at hSw); go_simp; try (with_reducible rfl))
  (try simp only [Act.put, List.getElem_toArray, List.getElem_cons_zero, List.getElem_cons_succ, List.setIfInBounds_toArray, List.set_cons_zero, List.set_cons_succ])
  refine wpAnyH_take (i := 9) (oi := _) (v := ?_) rfl (by kernel_rfl) (by kernel_rfl) (by kernel_rfl) (fun _ _ _ h => h) (Or.inl ⟨by rfl, ?_⟩) (by with_reducible assumption) ?_
  rotate_left
  focus (intro w' hSw; (try dsimp only at hSw); go_simp; try (with_reducible rfl))
  (try simp only [Act.put, List.getElem_toArray, List.getElem_cons_zero, List.getElem_cons_succ, List.setIfInBounds_toArray, List.set_cons_zero, List.set_cons_succ])
  refine wpAnyH_take (i := 10) (oi := _) (v := ?_) rfl (by kernel_rfl) (by kernel_rfl) (by kernel_rfl) (fun _ _ _ h => h) (Or.inl ⟨by rfl, ?_⟩) (by with_reducible assumption) ?_
  rotate_left
  focus (intro w' hSw; (try dsimp only at hSw); go_simp; try (with_reducible rfl))
  (try simp only [Act.put, List.getElem_toArray, List.getElem_cons_zero, List.getElem_cons_succ, List.setIfInBounds_toArray, List.set_cons_zero, List.set_cons_succ])
  refine wpAnyH_take (i := 11) (oi := _) (v := ?_) rfl (by kernel_rfl) (by kernel_rfl) (by kernel_rfl) (fun _ _ _ h => h) (Or.inl ⟨by rfl, ?_⟩) (by with_reducible assumption) ?_
  rotate_left
  focus (intro w' hSw; (try dsimp only at hSw); go_simp; try (with_reducible rfl))
  (try simp only [Act.put, List.getElem_toArray, List.getElem_cons_zero, List.getElem_cons_succ, List.setIfInBounds_toArray, List.set_cons_zero, List.set_cons_succ])
  refine wpAnyH_ready (rs := [2]) (by kernel_rfl) (by simp) ?_
  refine AllReadyH.cons rfl (fun K hK => ?_) AllReadyH.nil
  go_simp
  (go_at_call 40; refine (HNB.out _ (bU.drew)).mono ?_; rintro e wn ⟨vd, rfl, hD, hb⟩)
  obtain ⟨ad, cd, rfl⟩ := hD.slice
  obtain ⟨-, gd, rfl, gdB, gdl, gdx⟩ := hD.cells (by rw [rowOf_len]; omega)
  have yd := (gdx sj (by rw [rowOf_len]; exact hsn)).1
  rw [rowOf_at hsn] at yd
  have BN := Lib.hid (show Below w.heap.size w wn from bU.drew.trans (hb.mono bU.drew.size))
  rw [rowOf_len]
  refine hK.out _ _ (keep8 hHeld hb) (fun hHeld' => ?_)
  clear hK K hHeld gdx hD
  have hHeld := hHeld'
  clear hHeld'
  (try simp only [Act.put, List.getElem_toArray, List.getElem_cons_zero, List.getElem_cons_succ, List.setIfInBounds_toArray, List.set_cons_zero, List.set_cons_succ])
  refine wpAnyH_take (i := 12) (oi := _) (v := ?_) rfl (by kernel_rfl) (by kernel_rfl) (by kernel_rfl) (fun _ _ _ h => h) (Or.inl ⟨by rfl, ?_⟩) (by with_reducible assumption) ?_
  rotate_left
  focus (intro w' hSw; (try dsimp only at hSw); go_simp; try (with_reducible rfl))
  (try simp only [Act.put, List.getElem_toArray, List.getElem_cons_zero, List.getElem_cons_succ, List.setIfInBounds_toArray, List.set_cons_zero, List.set_cons_succ])
  refine wpAnyH_ready (rs := [13]) (by kernel_rfl) (by simp) ?_
  refine AllReadyH.cons rfl (fun K hK => ?_) AllReadyH.nil
  go_simp
  refine hK.out _ _ hHeld (fun _ => ?_)
  clear hK K
  (try simp only [Act.put, List.getElem_toArray, List.getElem_cons_zero, List.getElem_cons_succ, List.setIfInBounds_toArray, List.set_cons_zero, List.set_cons_succ])
  refine wpAnyH_take (i := 14) (oi := _) (v := ?_) rfl (by kernel_rfl) (by kernel_rfl) (by kernel_rfl) (fun _ _ _ h => h) (Or.inl ⟨by rfl, ?_⟩) (by with_reducible assumption) ?_
  rotate_left
  focus (intro w' hSw; (try dsimp only at hSw); go_simp; try (with_reducible rfl))
  (try simp only [Act.put, List.getElem_toArray, List.getElem_cons_zero, List.getElem_cons_succ, List.setIfInBounds_toArray, List.set_cons_zero, List.set_cons_succ])
  refine wpAnyH_done (by kernel_rfl) ?_ _
  clear hHeld yd hb kb0 kb1 kb2 kb3 kb4 y3' yt' bU
  obtain ⟨D, hD⟩ : ∃ D, D = delF z k sj := ⟨_, rfl⟩
  rw [← hD] at d0 d1 ⊢
  have HD2 := Lib.hid hD
  have a0 := Int.mul_nonneg (show 0 ≤ 1000000 * s by omega) s0'
  have a1 := sq_mono s0' s1'
  have a2 : 1000000 * s * s = 1000000 * (s * s) := Int.mul_assoc _ _ _
  have b0 := Int.mul_nonneg (show 0 ≤ 4 * D by omega) d0
  have b1 := sq_mono d0 d1
  have b2 : 4 * D * D = 4 * (D * D) := Int.mul_assoc _ _ _
  have hw1 : IntKind.i64.wrap (1000000 * s * s) = 1000000 * s * s := IntWalk.i64_in _ (by omega)
  have hw2 : IntKind.i64.wrap (4 * D * D) = 4 * D * D := IntWalk.i64_in _ (by omega)
  have x1 : 0 ≤ 1000000 * s * s + 4 * D * D := by omega
  have x2 : 1000000 * s * s + 4 * D * D < 4000000000000000000 := by omega
  have x3 : 1000000 * s * s ≤ 1000000000000000000 := by omega
  have x4 : 4 * D * D ≤ 1000000000000000000 := by omega
  obtain ⟨r0, r1⟩ : 0 ≤ rt (1000000 * s * s + 4 * D * D) m ∧ rt (1000000 * s * s + 4 * D * D) m ≤ 2000000001 := by
    rcases hm with rfl | rfl
    · have ⟨c0, c1, c2⟩ := rt_floor x1
      exact ⟨c0, by have := sq_lt c0 (show (0 : Int) ≤ 2000000000 by omega) (by omega); omega⟩
    · have ⟨c0, c1, c2⟩ := rt_ceil x1
      refine ⟨c0, ?_⟩
      rcases c2 with c2 | c2
      · omega
      · by_cases z0 : rt (1000000 * s * s + 4 * D * D) 1 = 0
        · omega
        · have := sq_lt (show 0 ≤ rt (1000000 * s * s + 4 * D * D) 1 - 1 by omega) (show (0 : Int) ≤ 2000000000 by omega) (by omega); omega
  clear hD a1 a2 b1 b2
  go_wp2_with fail
  (go_at_call 81; refine (l07Root_any _ _ _ x1 x2 hm).mono ?_; rintro e w' ⟨rfl, hw'⟩; rw [hw']; clear hw' w')
  go_wp2_with fail
  (go_at_call 80; refine (l01Div_any _ _ _ _ (by omega) (by omega) (by omega)).mono ?_; rintro e w' ⟨rfl, hw'⟩; rw [hw']; clear hw' w')
  clear hw1 hw2
  go_wp2
  go_ret
  exact ⟨by rw [HD2.out]; rfl, BN.out⟩
set_option maxHeartbeats 16000000 in
theorem specSinkSlew_any (f : Nat → Value) (z : BlkD) (x i s m : Int) (w : World) (h : BlkF w w.heap.size f z) :
    Calls Tryz.prog 23 #[.agg #[f 0, f 1, f 2, f 3, f 4], .int .i64 x, .int .i64 i, .int .i64 s, .int .i64 m] w fun e w' => e = .returned (.tuple #[.int .i64 (slewV z x i s m), .int .i64 (slCode z x i s m)]) ∧ Below w.heap.size w w' := by
  have HCD := Lib.hid (fun (w1 : World) (hb' : Below w.heap.size w w1) => specCode_any f z x w1 (h.up hb'))
  by_cases hc : blkCode z x = 0
  · obtain ⟨k, rfl, hb, hk⟩ := code_get hc
    rw [hc] at HCD
    have HNB := Lib.hid (fun (ii : Nat) (hil : ii < (wrn z.wires k).sink.length) (s0 : 0 ≤ s) (s1 : s ≤ 1000000) (hm : m = 0 ∨ m = 1) (w1 : World) (hb' : Below w.heap.size w w1) => specSlew_any f z k ii s m w1 (h.up hb') hb hk hil s0 s1 hm)
    have l100 := snks_len hb k
    have SB := Lib.hid (fun (hm : slOk z k i s m = false) => sl_bad hc hm)
    have SY := Lib.hid (fun (hm : slOk z k i s m = true) => sl_yes hc hm)
    clear hc
    have hwire := wire_at hb hk
    have ⟨n1, n8, lr, lc, ls, _, _, qp, qr, _, qs⟩ := wire_nums hwire
    have LS := Lib.hid ls
    have LR := Lib.hid lr
    have QS := Lib.hid qs
    have QP := Lib.hid qp
    have QR := Lib.hid qr
    have hbl := Lib.hid hb
    have hkk := Lib.hid hk
    obtain ⟨p0, q0, p1, q1, p2, q2, p3, q3, p4, q4, e0, e1, e2, e3, e4⟩ := h.five
    obtain ⟨F, hc, hf⟩ := h.2.2
    rw [e4] at hc
    have ⟨x0, x1, x2, x3⟩ := hf k hk
    obtain ⟨s0, r0, f0⟩ := x0.slice; obtain ⟨s1, r1, f1⟩ := x1.slice; obtain ⟨s2, r2, f2⟩ := x2.slice; obtain ⟨s3, r3, f3⟩ := x3.slice
    rw [f0] at x0; rw [f1] at x1; rw [f3] at x3
    have H0 := Lib.hid x0; have H1 := Lib.hid x1; have H3 := Lib.hid x3
    rw [e0, e1, e2, e3, e4] at HNB HCD
    rw [e0, e1, e2, e3, e4]
    have hkl : (k : Int) < (z.wires.length : Int) := by omega
    have hk0 : (0 : Int) ≤ (k : Int) := by omega
    obtain ⟨bw, ow, rfl, hlw, hxw⟩ := hc.at (Below.refl _ _) hk
    have y0 := hxw 0 (by omega); have y1 := hxw 1 (by omega); have y2 := hxw 2 (by omega); have y3 := hxw 3 (by omega)
    simp only [Nat.add_zero] at y0
    rw [f0] at y0; rw [f1] at y1; rw [f2] at y2; rw [f3] at y3
    clear e0 e1 e2 e3 e4 h hb hk hc hf x0 x1 x2 x3 f0 f1 f2 f3 qs qr qp lr lc ls hxw hwire
    obtain ⟨n, hn⟩ : ∃ n, n = endN z k := ⟨_, rfl⟩
    have HN := Lib.hid hn
    have n1 : 1 ≤ n := by rw [hn]; exact n1
    have n8 : n ≤ 8 := by rw [hn]; exact n8
    have q100 : (wrn z.wires k).sink.length ≤ 100 := by have := LS.out; omega
    clear hn l100
    cases h1 : inB i 0 (((wrn z.wires k).sink.length : Int) - 1)
    · have hS := Lib.hid (SB.out (by simp [slOk, h1]))
      clear SB SY
      rw [hS.out.1, hS.out.2]
      go_enter Tryz.func23, Tryz.ntmps23
      go_wp2_with fail
      (go_at_call 28; refine (HCD.out _ eX).mono ?_; rintro e w1 ⟨rfl, hb1⟩)
      have B1 : Below w.heap.size w w1 := by exact eX
      have c4 : w1.cell? ⟨w.heap.size, 4, none⟩ = some (.slice (some ⟨bw, ow, none⟩) z.wires.length q4) := cell_keep (w0 := w.alloc (Obj.cells #[.slice p0 z.lib.length q0, .slice p1 z.des.insts.length q1, .slice p2 z.des.nets.length q2, .slice p3 z.des.ports.length q3, .slice (some ⟨bw, ow, none⟩) z.wires.length q4] 46)) (by simp [go_sem]) eX
      have c3 : w1.cell? ⟨bw, ow + k * 4 + 3, none⟩ = some (.slice s3 (wrn z.wires k).sink.length r3) := by rw [B1.cell (by exact hlw)]; exact y3
      have lw : bw < w1.heap.size := by have := B1.size; omega
      have l1 : w.heap.size < w1.heap.size := cell_lt c4
      have cb0 : w1.cell? ⟨w.heap.size, 0, none⟩ = some (.slice p0 z.lib.length q0) := cell_keep (w0 := w.alloc (Obj.cells #[.slice p0 z.lib.length q0, .slice p1 z.des.insts.length q1, .slice p2 z.des.nets.length q2, .slice p3 z.des.ports.length q3, .slice (some ⟨bw, ow, none⟩) z.wires.length q4] 46)) (by simp [go_sem]) eX
      have cb1 : w1.cell? ⟨w.heap.size, 1, none⟩ = some (.slice p1 z.des.insts.length q1) := cell_keep (w0 := w.alloc (Obj.cells #[.slice p0 z.lib.length q0, .slice p1 z.des.insts.length q1, .slice p2 z.des.nets.length q2, .slice p3 z.des.ports.length q3, .slice (some ⟨bw, ow, none⟩) z.wires.length q4] 46)) (by simp [go_sem]) eX
      have cb2 : w1.cell? ⟨w.heap.size, 2, none⟩ = some (.slice p2 z.des.nets.length q2) := cell_keep (w0 := w.alloc (Obj.cells #[.slice p0 z.lib.length q0, .slice p1 z.des.insts.length q1, .slice p2 z.des.nets.length q2, .slice p3 z.des.ports.length q3, .slice (some ⟨bw, ow, none⟩) z.wires.length q4] 46)) (by simp [go_sem]) eX
      have cb3 : w1.cell? ⟨w.heap.size, 3, none⟩ = some (.slice p3 z.des.ports.length q3) := cell_keep (w0 := w.alloc (Obj.cells #[.slice p0 z.lib.length q0, .slice p1 z.des.insts.length q1, .slice p2 z.des.nets.length q2, .slice p3 z.des.ports.length q3, .slice (some ⟨bw, ow, none⟩) z.wires.length q4] 46)) (by simp [go_sem]) eX
      clear hb1 y0 y1 y2 y3
      go_wp2_with (first | (go_at_call 46; refine (l01In_any _ _ _ _).mono ?_; rintro e w' ⟨rfl, hw'⟩; rw [hw', h1]; clear hw' w'))
      go_ret2
      exact ⟨rfl, B1⟩
    · cases h2 : inB s 0 1000000
      · have hS := Lib.hid (SB.out (by simp [slOk, h2]))
        clear SB SY
        rw [hS.out.1, hS.out.2]
        go_enter Tryz.func23, Tryz.ntmps23
        go_wp2_with fail
        (go_at_call 28; refine (HCD.out _ eX).mono ?_; rintro e w1 ⟨rfl, hb1⟩)
        have B1 : Below w.heap.size w w1 := by exact eX
        have c4 : w1.cell? ⟨w.heap.size, 4, none⟩ = some (.slice (some ⟨bw, ow, none⟩) z.wires.length q4) := cell_keep (w0 := w.alloc (Obj.cells #[.slice p0 z.lib.length q0, .slice p1 z.des.insts.length q1, .slice p2 z.des.nets.length q2, .slice p3 z.des.ports.length q3, .slice (some ⟨bw, ow, none⟩) z.wires.length q4] 46)) (by simp [go_sem]) eX
        have c3 : w1.cell? ⟨bw, ow + k * 4 + 3, none⟩ = some (.slice s3 (wrn z.wires k).sink.length r3) := by rw [B1.cell (by exact hlw)]; exact y3
        have lw : bw < w1.heap.size := by have := B1.size; omega
        have l1 : w.heap.size < w1.heap.size := cell_lt c4
        have cb0 : w1.cell? ⟨w.heap.size, 0, none⟩ = some (.slice p0 z.lib.length q0) := cell_keep (w0 := w.alloc (Obj.cells #[.slice p0 z.lib.length q0, .slice p1 z.des.insts.length q1, .slice p2 z.des.nets.length q2, .slice p3 z.des.ports.length q3, .slice (some ⟨bw, ow, none⟩) z.wires.length q4] 46)) (by simp [go_sem]) eX
        have cb1 : w1.cell? ⟨w.heap.size, 1, none⟩ = some (.slice p1 z.des.insts.length q1) := cell_keep (w0 := w.alloc (Obj.cells #[.slice p0 z.lib.length q0, .slice p1 z.des.insts.length q1, .slice p2 z.des.nets.length q2, .slice p3 z.des.ports.length q3, .slice (some ⟨bw, ow, none⟩) z.wires.length q4] 46)) (by simp [go_sem]) eX
        have cb2 : w1.cell? ⟨w.heap.size, 2, none⟩ = some (.slice p2 z.des.nets.length q2) := cell_keep (w0 := w.alloc (Obj.cells #[.slice p0 z.lib.length q0, .slice p1 z.des.insts.length q1, .slice p2 z.des.nets.length q2, .slice p3 z.des.ports.length q3, .slice (some ⟨bw, ow, none⟩) z.wires.length q4] 46)) (by simp [go_sem]) eX
        have cb3 : w1.cell? ⟨w.heap.size, 3, none⟩ = some (.slice p3 z.des.ports.length q3) := cell_keep (w0 := w.alloc (Obj.cells #[.slice p0 z.lib.length q0, .slice p1 z.des.insts.length q1, .slice p2 z.des.nets.length q2, .slice p3 z.des.ports.length q3, .slice (some ⟨bw, ow, none⟩) z.wires.length q4] 46)) (by simp [go_sem]) eX
        clear hb1 y0 y1 y2 y3
        go_wp2_with (first | (go_at_call 46; refine (l01In_any _ _ _ _).mono ?_; rintro e w' ⟨rfl, hw'⟩; rw [hw', h1]; clear hw' w') | (go_at_call 46; refine (l01In_any _ _ _ _).mono ?_; rintro e w' ⟨rfl, hw'⟩; rw [hw', h2]; clear hw' w'))
        go_ret2
        exact ⟨rfl, B1⟩
      · cases h3 : isM m
        · have hS := Lib.hid (SB.out (by simp [slOk, h3]))
          clear SB SY
          rw [hS.out.1, hS.out.2]
          go_enter Tryz.func23, Tryz.ntmps23
          go_wp2_with fail
          (go_at_call 28; refine (HCD.out _ eX).mono ?_; rintro e w1 ⟨rfl, hb1⟩)
          have B1 : Below w.heap.size w w1 := by exact eX
          have c4 : w1.cell? ⟨w.heap.size, 4, none⟩ = some (.slice (some ⟨bw, ow, none⟩) z.wires.length q4) := cell_keep (w0 := w.alloc (Obj.cells #[.slice p0 z.lib.length q0, .slice p1 z.des.insts.length q1, .slice p2 z.des.nets.length q2, .slice p3 z.des.ports.length q3, .slice (some ⟨bw, ow, none⟩) z.wires.length q4] 46)) (by simp [go_sem]) eX
          have c3 : w1.cell? ⟨bw, ow + k * 4 + 3, none⟩ = some (.slice s3 (wrn z.wires k).sink.length r3) := by rw [B1.cell (by exact hlw)]; exact y3
          have lw : bw < w1.heap.size := by have := B1.size; omega
          have l1 : w.heap.size < w1.heap.size := cell_lt c4
          have cb0 : w1.cell? ⟨w.heap.size, 0, none⟩ = some (.slice p0 z.lib.length q0) := cell_keep (w0 := w.alloc (Obj.cells #[.slice p0 z.lib.length q0, .slice p1 z.des.insts.length q1, .slice p2 z.des.nets.length q2, .slice p3 z.des.ports.length q3, .slice (some ⟨bw, ow, none⟩) z.wires.length q4] 46)) (by simp [go_sem]) eX
          have cb1 : w1.cell? ⟨w.heap.size, 1, none⟩ = some (.slice p1 z.des.insts.length q1) := cell_keep (w0 := w.alloc (Obj.cells #[.slice p0 z.lib.length q0, .slice p1 z.des.insts.length q1, .slice p2 z.des.nets.length q2, .slice p3 z.des.ports.length q3, .slice (some ⟨bw, ow, none⟩) z.wires.length q4] 46)) (by simp [go_sem]) eX
          have cb2 : w1.cell? ⟨w.heap.size, 2, none⟩ = some (.slice p2 z.des.nets.length q2) := cell_keep (w0 := w.alloc (Obj.cells #[.slice p0 z.lib.length q0, .slice p1 z.des.insts.length q1, .slice p2 z.des.nets.length q2, .slice p3 z.des.ports.length q3, .slice (some ⟨bw, ow, none⟩) z.wires.length q4] 46)) (by simp [go_sem]) eX
          have cb3 : w1.cell? ⟨w.heap.size, 3, none⟩ = some (.slice p3 z.des.ports.length q3) := cell_keep (w0 := w.alloc (Obj.cells #[.slice p0 z.lib.length q0, .slice p1 z.des.insts.length q1, .slice p2 z.des.nets.length q2, .slice p3 z.des.ports.length q3, .slice (some ⟨bw, ow, none⟩) z.wires.length q4] 46)) (by simp [go_sem]) eX
          clear hb1 y0 y1 y2 y3
          go_wp2_with (first | (go_at_call 46; refine (l01In_any _ _ _ _).mono ?_; rintro e w' ⟨rfl, hw'⟩; rw [hw', h1]; clear hw' w') | (go_at_call 46; refine (l01In_any _ _ _ _).mono ?_; rintro e w' ⟨rfl, hw'⟩; rw [hw', h2]; clear hw' w') | (go_at_call 42; refine (l01Mode_any _ _).mono ?_; rintro e w' ⟨rfl, hw'⟩; rw [hw', h3]; clear hw' w'))
          go_ret2
          exact ⟨rfl, B1⟩
        · have hS := Lib.hid (SY.out (by simp [slOk, h1, h2, h3]))
          clear SB SY
          rw [hS.out.1, hS.out.2]
          have ⟨j0, j1⟩ := inB_get h1
          have ⟨s0', s1'⟩ := inB_get h2
          have hm := isM_get h3
          obtain ⟨ii, rfl⟩ := Int.eq_ofNat_of_zero_le j0
          rw [rt_scale hm]
          have HN2 := Lib.hid (HNB.out ii (by omega) s0' s1' hm)
          go_enter Tryz.func23, Tryz.ntmps23
          go_wp2_with fail
          (go_at_call 28; refine (HCD.out _ eX).mono ?_; rintro e w1 ⟨rfl, hb1⟩)
          have B1 : Below w.heap.size w w1 := by exact eX
          have c4 : w1.cell? ⟨w.heap.size, 4, none⟩ = some (.slice (some ⟨bw, ow, none⟩) z.wires.length q4) := cell_keep (w0 := w.alloc (Obj.cells #[.slice p0 z.lib.length q0, .slice p1 z.des.insts.length q1, .slice p2 z.des.nets.length q2, .slice p3 z.des.ports.length q3, .slice (some ⟨bw, ow, none⟩) z.wires.length q4] 46)) (by simp [go_sem]) eX
          have c3 : w1.cell? ⟨bw, ow + k * 4 + 3, none⟩ = some (.slice s3 (wrn z.wires k).sink.length r3) := by rw [B1.cell (by exact hlw)]; exact y3
          have lw : bw < w1.heap.size := by have := B1.size; omega
          have l1 : w.heap.size < w1.heap.size := cell_lt c4
          have cb0 : w1.cell? ⟨w.heap.size, 0, none⟩ = some (.slice p0 z.lib.length q0) := cell_keep (w0 := w.alloc (Obj.cells #[.slice p0 z.lib.length q0, .slice p1 z.des.insts.length q1, .slice p2 z.des.nets.length q2, .slice p3 z.des.ports.length q3, .slice (some ⟨bw, ow, none⟩) z.wires.length q4] 46)) (by simp [go_sem]) eX
          have cb1 : w1.cell? ⟨w.heap.size, 1, none⟩ = some (.slice p1 z.des.insts.length q1) := cell_keep (w0 := w.alloc (Obj.cells #[.slice p0 z.lib.length q0, .slice p1 z.des.insts.length q1, .slice p2 z.des.nets.length q2, .slice p3 z.des.ports.length q3, .slice (some ⟨bw, ow, none⟩) z.wires.length q4] 46)) (by simp [go_sem]) eX
          have cb2 : w1.cell? ⟨w.heap.size, 2, none⟩ = some (.slice p2 z.des.nets.length q2) := cell_keep (w0 := w.alloc (Obj.cells #[.slice p0 z.lib.length q0, .slice p1 z.des.insts.length q1, .slice p2 z.des.nets.length q2, .slice p3 z.des.ports.length q3, .slice (some ⟨bw, ow, none⟩) z.wires.length q4] 46)) (by simp [go_sem]) eX
          have cb3 : w1.cell? ⟨w.heap.size, 3, none⟩ = some (.slice p3 z.des.ports.length q3) := cell_keep (w0 := w.alloc (Obj.cells #[.slice p0 z.lib.length q0, .slice p1 z.des.insts.length q1, .slice p2 z.des.nets.length q2, .slice p3 z.des.ports.length q3, .slice (some ⟨bw, ow, none⟩) z.wires.length q4] 46)) (by simp [go_sem]) eX
          clear hb1 y0 y1 y2 y3
          go_wp2_with (first | (go_at_call 46; refine (l01In_any _ _ _ _).mono ?_; rintro e w' ⟨rfl, hw'⟩; rw [hw', h1]; clear hw' w') | (go_at_call 46; refine (l01In_any _ _ _ _).mono ?_; rintro e w' ⟨rfl, hw'⟩; rw [hw', h2]; clear hw' w') | (go_at_call 42; refine (l01Mode_any _ _).mono ?_; rintro e w' ⟨rfl, hw'⟩; rw [hw', h3]; clear hw' w'))
          (go_at_call 47; refine (HN2.out _ B1).mono ?_; rintro e w2 ⟨rfl, hb2⟩)
          have B2 : Below w.heap.size w w2 := B1.trans (hb2.mono B1.size)
          clear hb2
          go_wp2
          go_ret2
          exact ⟨rfl, B2⟩
  · rw [(sl_no (i := i) (s := s) (m := m) hc).1, (sl_no (i := i) (s := s) (m := m) hc).2]
    have hp := code_pos z x
    obtain ⟨p0, q0, p1, q1, p2, q2, p3, q3, p4, q4, e0, e1, e2, e3, e4⟩ := h.five
    obtain ⟨c, hcc⟩ : ∃ c, c = blkCode z x := ⟨_, rfl⟩
    rw [← hcc, e0, e1, e2, e3, e4] at HCD
    rw [← hcc] at hc hp
    rw [← hcc, e0, e1, e2, e3, e4]
    clear e0 e1 e2 e3 e4 h hcc
    have hne : (c != 0) = true := by simpa using hc
    have hne2 : (c == 0) = false := by simpa using hc
    clear hp hc
    go_enter Tryz.func23, Tryz.ntmps23
    go_wp2_with fail
    (go_at_call 28; refine (HCD.out _ eX).mono ?_; rintro e w1 ⟨rfl, hb⟩; obtain ⟨hc, hf⟩ := bcell hb; have hz := hb.size; (try simp at hz); (try (have hz := Nat.lt_of_succ_le hz)); (try (have y0 : w.heap.size ≤ w1.heap.size := by omega)); (try (have z0 : w.heap.size < w1.heap.size := by omega)); (try (have z1 : w.heap.size + 1 < w1.heap.size := by omega)); (try (have z2 : w.heap.size + 1 + 1 < w1.heap.size := by omega)); (try (have z3 : w.heap.size + 1 + 1 + 1 < w1.heap.size := by omega)); (try (have z4 : w.heap.size + 1 + 1 + 1 + 1 < w1.heap.size := by omega)))
    have B1 : Below w.heap.size w w1 := by exact eX
    go_wp2
    go_ret2
    exact ⟨rfl, B1⟩
end Go.Proofs.YtodgpjolkfkcpaaGreat
