/-
The program's links through the instances of a block.
-/
import Derived.Test.YtkpfbnffhhmokaaGreatTurn
import Derived.Test.YtkpfbnffhhmokaaGreatAdd
namespace Go.Proofs.YtkpfbnffhhmokaaGreat
open Go.ChangeShapes Go.WideShapes Go.ChangeAt Go.RowKit Go.Deep
set_option linter.unusedVariables false
set_option linter.unusedSimpArgs false
set_option maxRecDepth 100000
/-- A link is appended by the program. -/
theorem lk_own {w w9 : World} {base : Nat} {v v' : Value} {L : List LkD} {l : LkD} (h : GL w base v L) (hown : w9.ownsRow base 109 4 v' ((L.map lkC).length + 1) ((L.map lkC).flatten ++ lkC l)) : GL w9 base v' (L ++ [l]) := by
 unfold GL
 rw [List.map_append]
 exact GR.snoc h hown rfl
def CLinksR (z : BlkD) (w : World) (e : Ending) (w' : World) : Prop := ∃ v, e = .returned v ∧ GL w' w.heap.size v (instsLk z z.des.insts.length) ∧ Below w.heap.size w w'
set_option maxHeartbeats 64000000 in
theorem cellLinks_any (f : Nat → Value) (z : BlkD) (w : World) (h : BlkF w w.heap.size f z) (hb : blkB z = true) :
  Calls Tryz.prog 91 #[.agg #[f 0, f 1, f 2, f 3, f 4]] w (CLinksR z w) := by
 obtain ⟨ti, hi, hz0, hz1, hz2⟩ := info_parts Tryz.infoLk
 have hd := (blk_get hb).1
 obtain ⟨hlib, hsz, -, hcn, -⟩ := desG hd
 have HCN := lh (fun i (hi : i < z.des.insts.length) => conn_inst hcn hi)
 have HCB := lh (fun i (hi : i < z.des.insts.length) => lib_cell hlib (conn_inst hcn hi).1 (conn_inst hcn hi).2.1)
 have HIL := lh (fun n (hn : n ≤ z.des.insts.length) => instsLk_len hb hn)
 have HFB := lh (fun i (hi : i ≤ z.des.insts.length) => firstP_bd hb hi)
 obtain ⟨p0, q0, p1, q1, p2, q2, p3, q3, p4, q4, e0, e1, e2, e3, e4⟩ := h.five
 obtain ⟨Fl, hcl, hfl⟩ := h.1
 obtain ⟨Fi, hci, hfi⟩ := h.2.1.1
 rw [e0] at hcl
 have hci : CellS w w.heap.size (f 1) z.des.insts.length 3 Fi := hci
 rw [e1] at hci
 have HL := lh hcl; have HI := lh hci; have HFL := lh hfl; have HFI := lh hfi
 have lni : z.des.insts.length ≤ 9223372036854775807 := hci.1
 rw [e0, e1, e2, e3, e4]
 clear e0 e1 e2 e3 e4 h hb hcl hci hfl hfi hd hlib hsz hcn
 obtain ⟨ni, hni⟩ : ∃ n, n = z.des.insts.length := ⟨_, rfl⟩
 rw [← hni] at lni HI HFI HCN HCB HIL HFB ⊢
 have NI := lh hni
 have RES := lh (show CLinksR z w = fun e w' => ∃ v, e = .returned v ∧ GL w' w.heap.size v (instsLk z ni) ∧ Below w.heap.size w w' by unfold CLinksR; rw [hni])
 clear hni
 obtain ⟨W, hW⟩ : ∃ W, W = w.alloc (Obj.cells #[.slice p0 z.lib.length q0, .slice p1 ni q1, .slice p2 z.des.nets.length q2, .slice p3 z.des.ports.length q3, .slice p4 z.wires.length q4] 46) := ⟨_, rfl⟩
 have bW : Below w.heap.size w W := by rw [hW]; exact eX
 have zW : W.heap.size = w.heap.size + 1 := by rw [hW]; simp
 have a0 : W.cell? ⟨w.heap.size, 0, none⟩ = some (.slice p0 z.lib.length q0) := by rw [hW]; simp [go_sem]
 have a1 : W.cell? ⟨w.heap.size, 1, none⟩ = some (.slice p1 ni q1) := by rw [hW]; simp [go_sem]
 have G0 : Hid (GL W (w.heap.size + 1) (.slice none 0 0) (instsLk z 0)) := lh (GR.nil _ _ _ _)
 have HW := lh hW
 have BWF := lh (fun (w1 : World) (v1 : Value) (hF : LkF W (.slice none 0 0) w1 v1) => (show Below w.heap.size w w1 from bW.trans (hF.below (by omega) (fun k hk => by simp [Value.ownBlock] at hk))))
 have ZW := lh zW
 have lw : w.heap.size < W.heap.size := by omega
 rw [RES.out]
 clear hW bW zW RES
 go_enter Tryz.func91, Tryz.ntmps91
 go_wp2_with fail
 rw [← HW.out]
 go_loopw [3, 4, 16] (fun v fp i wr => ∃ (n : Nat) (v1 : Value), v1 = v ∧ n ≤ ni ∧ i = .int .i64 n ∧ fp = .int .i64 (firstP z n) ∧ Hid (GL wr (w.heap.size + 1) v1 (instsLk z n)) ∧ Hid (LkF W (.slice none 0 0) wr v1)) (fun _ _ i _ => ni - (intOf i).toNat)
 case atStart => exact ⟨0, _, rfl, by omega, rfl, by simp [firstP, pls], G0, lh (LkF.refl _ _)⟩
 case round =>
  clear G0
  obtain ⟨n, v0, hv0, hn, rfl, rfl, hG, hF⟩ := hrel
  subst hv0
  obtain ⟨wo, hwo⟩ : ∃ wo : World, wo = wr := ⟨_, rfl⟩
  subst hwo
  have r0 := hF.out.cell a0 (by simp [Value.ownBlock])
  have r1 := hF.out.cell a1 (by simp [Value.ownBlock])
  have lr : w.heap.size < wo.heap.size := cell_lt r0
  have bww : Below w.heap.size w wo := BWF.out wo _ hF.out
  by_cases hlt : n < ni
  ·obtain ⟨i1, i2, -, -⟩ := HCN.out n hlt
   obtain ⟨bi, oi, rfl, hli, hxi⟩ := HI.out.at bww hlt
   have x0 := hxi 0 (by omega); have x1 := hxi 1 (by omega); have x2 := hxi 2 (by omega)
   simp only [Nat.add_zero] at x0
   obtain ⟨E0, E1, E2, -⟩ := HFI.out n hlt
   obtain ⟨pn2, qn2, en2⟩ := E2.slice
   rw [en2] at x2
   rw [E0] at x0; rw [E1] at x1
   obtain ⟨kc, hkc⟩ := Int.eq_ofNat_of_zero_le i1
   have hkl : kc < z.lib.length := by omega
   rw [hkc] at x1
   obtain ⟨bl, ol, rfl, hll, hxl⟩ := HL.out.at bww hkl
   have c0 := hxl 0 (by omega); have c1 := hxl 1 (by omega); have c2 := hxl 2 (by omega); have c3 := hxl 3 (by omega); have c4 := hxl 4 (by omega); have c5 := hxl 5 (by omega); have c6 := hxl 6 (by omega)
   simp only [Nat.add_zero] at c0
   obtain ⟨C0, C1, C2, C3, C4, C5, C6, -⟩ := HFL.out kc hkl
   obtain ⟨u2, v2, d2⟩ := C2.slice; obtain ⟨u4, v4, d4⟩ := C4.slice
   obtain ⟨Fa, hca, hfa⟩ := C3
   obtain ⟨-, u3, v3, d3, -⟩ := id hca
   rw [d3] at hca
   rw [C0] at c0; rw [C1] at c1; rw [d2] at c2; rw [d3] at c3; rw [d4] at c4; rw [C5] at c5; rw [C6] at c6
   have HXC := lh (show xcell z.lib (inn z.des.insts n) = cn z.lib kc by unfold xcell; rw [hkc]; rfl)
   have HA := lh hca; have HFA := lh hfa
   have hcb := HCB.out n hlt
   rw [HXC.out] at hcb
   have HCc := lh hcb
   have l8 := arcs_len hcb
   have lp5 := (pins_get (cell_get hcb).1).2.1
   have HNX := lh (show firstP z (n + 1) = firstP z n + ((cn z.lib kc).pins.length : Int) by rw [firstP_succ, HXC.out])
   have HAL := lh (fun m (hm : m < (cn z.lib kc).arcs.length) => (show arcLk (places z.lib z.des) (cn z.lib kc) n m = (turnsL (an (cn z.lib kc).arcs m).kind (an (cn z.lib kc).arcs m).sense).map (lkT (firstP z n + (an (cn z.lib kc).arcs m).src) (firstP z n + (an (cn z.lib kc).arcs m).dst) m) from by
    have := arcLk_is (z := z) (i := n) (m := m) (by rw [← NI.out]; exact hlt) (HCB.out n hlt) (by rw [HXC.out]; exact hm)
    rw [HXC.out] at this
    exact this))
   have HIS := lh (show instsLk z (n + 1) = instsLk z n ++ instLk (places z.lib z.des) (cn z.lib kc) n (cn z.lib kc).arcs.length by rw [instsLk_succ, HXC.out])
   have HLN := lh (HIL.out n (by omega))
   have ⟨f0, f1⟩ := HFB.out n (by omega)
   obtain ⟨fp, hfp⟩ : ∃ x, x = firstP z n := ⟨_, rfl⟩
   rw [← hfp] at HNX HAL f0 f1
   rw [← hfp]
   have HFp := lh hfp
   obtain ⟨na, hna⟩ : ∃ x, x = (cn z.lib kc).arcs.length := ⟨_, rfl⟩
   rw [← hna] at l8 HA HFA HAL HIS c3
   have NA := lh hna
   obtain ⟨np, hnp⟩ : ∃ x, x = (cn z.lib kc).pins.length := ⟨_, rfl⟩
   rw [← hnp] at lp5 HNX c2
   have NP := lh hnp
   have j0 : (0 : Int) ≤ (n : Int) := by omega
   have j1 : (n : Int) < (ni : Int) := by omega
   have j2 : (0 : Int) ≤ (kc : Int) := by omega
   have j3 : (kc : Int) < (z.lib.length : Int) := by omega
   have lbi : bi < wo.heap.size := by omega
   have lbl : bl < wo.heap.size := by omega
   have lbl2 : bl < wo.heap.size + 1 := by omega
   have lr2 : w.heap.size < wo.heap.size + 1 := by omega
   obtain ⟨W2, hW2⟩ : ∃ W2, W2 = (wo.alloc (Obj.cells #[.string (inn z.des.insts n).name, .int .i64 (kc : Int), .slice pn2 (inn z.des.insts n).nets.length qn2] 126)).alloc (Obj.cells #[.string (cn z.lib kc).name, .int .i64 (cn z.lib kc).kind, .slice u2 np v2, .slice u3 na v3, .slice u4 (cn z.lib kc).truth.length v4, .int .i64 (cn z.lib kc).leak, .int .i64 (cn z.lib kc).energy] 124) := ⟨_, rfl⟩
   have b2 : Below wo.heap.size wo W2 := by rw [hW2]; exact eX
   have z2 : W2.heap.size = wo.heap.size + 1 + 1 := by rw [hW2]; simp
   have t2 : W2.cell? ⟨wo.heap.size + 1, 2, none⟩ = some (.slice u2 np v2) := by rw [hW2]; simp [go_sem]
   have t3 : W2.cell? ⟨wo.heap.size + 1, 3, none⟩ = some (.slice u3 na v3) := by rw [hW2]; simp [go_sem]
   have HW2 := lh hW2
   have G1 := lh (show GL W2 (w.heap.size + 1) _ (instsLk z n ++ instLk (places z.lib z.des) (cn z.lib kc) n 0) from by
    have e : instLk (places z.lib z.des) (cn z.lib kc) n 0 = [] := rfl
    rw [e, List.append_nil]; exact GR.below hG.out b2)
   have F1 := lh (hF.out.trans (LkF.call _ b2))
   have HB2 := lh b2
   clear hxi hxl hkc hca hfa i1 i2 E0 E1 E2 en2 C0 C1 C2 C4 C5 C6 d2 d3 d4 hcb hfp hna hnp hW2
   go_wp2_with fail
   rw [← HW2.out]
   clear x0 x1 x2 c0 c1 c2 c3 c4 c5 c6 r0 r1
   go_loopw [3, 30] (fun v i wr => ∃ (m : Nat) (v1 : Value), v1 = v ∧ m ≤ na ∧ i = .int .i64 m ∧ Hid (GL wr (w.heap.size + 1) v1 (instsLk z n ++ instLk (places z.lib z.des) (cn z.lib kc) n m)) ∧ Hid (LkF W2 v0 wr v1)) (fun _ i _ => na - (intOf i).toNat)
   case atStart => exact ⟨0, _, rfl, by omega, rfl, G1, lh (LkF.refl _ _)⟩
   case round =>
    clear G1
    obtain ⟨m, v1, hv1, hm, rfl, hG2, hF2⟩ := hrel
    subst hv1
    obtain ⟨wa, hwa⟩ : ∃ wa : World, wa = wr := ⟨_, rfl⟩
    subst hwa
    have zF2 := hF2.out.1.size
    have bwa : Below w.heap.size w wa := BWF.out wa _ (F1.out.trans hF2.out)
    by_cases hmt : m < na
    ·obtain ⟨ba, oa, rfl, hla, hxa⟩ := HA.out.at bwa hmt
     obtain ⟨A0, A1, A2, A3, A4, A5⟩ := HFA.out m hmt
     obtain ⟨s4, r4, g4⟩ := A4.slice; obtain ⟨s5, r5, g5⟩ := A5.slice
     have y0 := hxa 0 (by omega); have y1 := hxa 1 (by omega); have y2 := hxa 2 (by omega); have y3 := hxa 3 (by omega); have y4 := hxa 4 (by omega); have y5 := hxa 5 (by omega)
     simp only [Nat.add_zero] at y0
     rw [A0] at y0; rw [A1] at y1; rw [A2] at y2; rw [A3] at y3; rw [g4] at y4; rw [g5] at y5
     obtain ⟨k0, k1, k2, k3, -⟩ := arc_ok HCc.out (show m < (cn z.lib kc).arcs.length by rw [← NA.out]; exact hmt)
     rw [← NP.out] at k1 k3
     have HAM := lh (show instLk (places z.lib z.des) (cn z.lib kc) n (m + 1) = instLk (places z.lib z.des) (cn z.lib kc) n m ++ _ from by rw [instLk_succ, HAL.out m hmt])
     obtain ⟨kd, hkd⟩ : ∃ x, x = (an (cn z.lib kc).arcs m).kind := ⟨_, rfl⟩
     obtain ⟨sr, hsr⟩ : ∃ x, x = (an (cn z.lib kc).arcs m).src := ⟨_, rfl⟩
     obtain ⟨ds, hds⟩ : ∃ x, x = (an (cn z.lib kc).arcs m).dst := ⟨_, rfl⟩
     obtain ⟨sn, hsn⟩ : ∃ x, x = (an (cn z.lib kc).arcs m).sense := ⟨_, rfl⟩
     rw [← hkd] at y0 HAM; rw [← hsr] at y1 k0 k1 HAM; rw [← hds] at y2 k2 k3 HAM; rw [← hsn] at y3 HAM
     clear hkd hsr hds hsn A0 A1 A2 A3 A4 A5 g4 g5 hxa
     have i0 : (0 : Int) ≤ (m : Int) := by omega
     have i1 : (m : Int) < (na : Int) := by omega
     have lba : ba < wa.heap.size := by omega
     have lwa : w.heap.size < wa.heap.size := by omega
     have bA := lh (show Below wa.heap.size wa (wa.alloc (Obj.cells #[.int .i64 kd, .int .i64 sr, .int .i64 ds, .int .i64 sn, .slice s4 (an (cn z.lib kc).arcs m).delay.length r4, .slice s5 (an (cn z.lib kc).arcs m).slew.length r5] 129)) from (Below.refl _ _).alloc (Nat.le_refl _) _)
     go_wp2_with fail
     (go_at_call 120; refine (turnsOf_any _ _ _ _ _ _ _).mono ?_; rintro e w3 ⟨tv, rfl, hT, hTb, hb⟩)
     obtain ⟨ta, tc, rfl⟩ := hT.slice
     have d1 : w3.cell? ⟨wa.heap.size, 1, none⟩ = some (.int .i64 sr) := cell_keep (w0 := wa.alloc (Obj.cells #[.int .i64 kd, .int .i64 sr, .int .i64 ds, .int .i64 sn, .slice s4 (an (cn z.lib kc).arcs m).delay.length r4, .slice s5 (an (cn z.lib kc).arcs m).slew.length r5] 129)) (by simp [go_sem]) hb
     have d2 : w3.cell? ⟨wa.heap.size, 2, none⟩ = some (.int .i64 ds) := cell_keep (w0 := wa.alloc (Obj.cells #[.int .i64 kd, .int .i64 sr, .int .i64 ds, .int .i64 sn, .slice s4 (an (cn z.lib kc).arcs m).delay.length r4, .slice s5 (an (cn z.lib kc).arcs m).slew.length r5] 129)) (by simp [go_sem]) hb
     have b3 := lh (bA.out.trans (hb.mono (by simp)))
     have z3 : wa.heap.size < w3.heap.size := cell_lt d1
     have HT := lh hT
     have NV1 := lh (show ∀ g, wa.heap.size ≤ g → some g ≠ v1.ownBlock from fun g hg e => by have := (hG2.out.blk g e.symm).2; omega)
     have TB := lh (show ∀ g o, ta = some ⟨g, o, none⟩ → wa.heap.size ≤ g from fun g o e => by
      have := hTb g (by rw [e]; rfl)
      simp at this
      omega)
     obtain ⟨nt, hnt⟩ : ∃ x, x = (turnsL kd sn).length := ⟨_, rfl⟩
     have l4 := turnsL_len kd sn
     rw [← hnt] at HT l4
     rw [← hnt]
     have NT := lh hnt
     have G3 := lh (show GL w3 (w.heap.size + 1) v1 ((instsLk z n ++ instLk (places z.lib z.des) (cn z.lib kc) n m) ++ arcT (fp + sr) (fp + ds) m (turnsL kd sn) 0) from by
      rw [arcT_zero, List.append_nil]; exact GR.below hG2.out b3.out)
     have F3 := lh (hF2.out.trans (LkF.call _ b3.out))
     have HLL := lh (show ∀ q, ((instsLk z n ++ instLk (places z.lib z.des) (cn z.lib kc) n m) ++ arcT (fp + sr) (fp + ds) m (turnsL kd sn) q).length ≤ 1000 from fun q => by
      rw [List.length_append, List.length_append]
      have := HLN.out
      have := instLk_len (places z.lib z.des) (cn z.lib kc) n m
      have := arcT_len (fp + sr) (fp + ds) m (turnsL kd sn) q
      have := turnsL_len kd sn
      omega)
     clear hT hTb hb hnt hG2 bA y0 y1 y2 y3 y4 y5
     have BW3 := lh (fun (w1 : World) (u : Value) (hF' : LkF w3 v1 w1 u) => BWF.out w1 u ((F1.out.trans F3.out).trans hF'))
     go_wp2_with fail
     go_loopw [3, 38] (fun u i wr => ∃ (q : Nat) (u1 : Value), u1 = u ∧ q ≤ nt ∧ i = .int .i64 q ∧ Hid (GL wr (w.heap.size + 1) u1 ((instsLk z n ++ instLk (places z.lib z.des) (cn z.lib kc) n m) ++ arcT (fp + sr) (fp + ds) m (turnsL kd sn) q)) ∧ Hid (LkF w3 v1 wr u1)) (fun _ i _ => nt - (intOf i).toNat)
     case atStart => exact ⟨0, _, rfl, by omega, rfl, G3, lh (LkF.refl _ _)⟩
     case round =>
      clear G3
      obtain ⟨q, u1, hu1, hq, rfl, hG4, hF4⟩ := hrel
      subst hu1
      obtain ⟨wt, hwt⟩ : ∃ wt : World, wt = wr := ⟨_, rfl⟩
      subst hwt
      have zF4 := hF4.out.1.size
      by_cases hqt : q < nt
      ·obtain ⟨tb, to', et, htb, m0, m1⟩ := HT.out.at (Below.refl _ _) (show q < (turnsL kd sn).length by rw [← NT.out]; exact hqt)
       subst et
       have ne1 := NV1.out tb (TB.out tb to' rfl)
       have m0 := hF4.out.cell m0 ne1
       have m1 := hF4.out.cell m1 ne1
       have n1 := hF4.out.cell d1 (NV1.out _ (Nat.le_refl _))
       have n2 := hF4.out.cell d2 (NV1.out _ (Nat.le_refl _))
       have ⟨xa0, xa1, xb0, xb1⟩ := turnsL_bd (k := kd) (s := sn) (show q < (turnsL kd sn).length by rw [← NT.out]; exact hqt)
       have NX := lh (arcT_succ (fp + sr) (fp + ds) m (turnsL kd sn) (show q < (turnsL kd sn).length by rw [← NT.out]; exact hqt))
       obtain ⟨xa, hxa⟩ : ∃ x, x = (trn (turnsL kd sn) q).1 := ⟨_, rfl⟩
       obtain ⟨xb, hxb⟩ : ∃ x, x = (trn (turnsL kd sn) q).2 := ⟨_, rfl⟩
       have LK := lh (show lkT (fp + sr) (fp + ds) m (trn (turnsL kd sn) q) = ⟨2 * (fp + sr) + xa, 2 * (fp + ds) + xb, 1, m⟩ by unfold lkT; rw [← hxa, ← hxb])
       rw [← hxa] at m0 xa0 xa1; rw [← hxb] at m1 xb0 xb1
       clear hxa hxb ne1
       have lwt : wa.heap.size < wt.heap.size := by omega
       have lwt2 : tb < wt.heap.size := by omega
       have lwt3 : w.heap.size < wt.heap.size := by omega
       have q0 : (0 : Int) ≤ (q : Int) := by omega
       have q1' : (q : Int) < (nt : Int) := by omega
       have bwt := BW3.out wt _ hF4.out
       have NEA := lh (show some wa.heap.size ≠ u1.ownBlock from fun e => by
        rcases hF4.out.2 with r | r
        ·exact NV1.out _ (Nat.le_refl _) (e.trans r)
        ·have := r _ e.symm; omega)
       have NET := lh (show some wt.heap.size ≠ u1.ownBlock from fun e => by have := (hG4.out.blk _ e.symm).2; omega)
       have s1 : IntKind.i64.wrap (fp + sr) = fp + sr := IntWalk.i64_in _ (by omega)
       have s2 : IntKind.i64.wrap (fp + ds) = fp + ds := IntWalk.i64_in _ (by omega)
       have bD := lh (show Below wt.heap.size wt ((wt.alloc (Obj.cells #[.int .i64 xa, .int .i64 xb] 183)).drew) from by exact eX)
       have zD : ((wt.alloc (Obj.cells #[.int .i64 xa, .int .i64 xb] 183)).drew).heap.size = wt.heap.size + 1 := by simp
       go_wp2_with fail
       refine wp_region_held_drew (S := (fun w' => w'.cell? ⟨wa.heap.size, 1, none⟩ = some (.int .i64 sr) ∧ w'.cell? ⟨wa.heap.size, 2, none⟩ = some (.int .i64 ds) ∧ w'.cell? ⟨wt.heap.size, 0, none⟩ = some (.int .i64 xa) ∧ w'.cell? ⟨wt.heap.size, 1, none⟩ = some (.int .i64 xb) ∧ Below w.heap.size w w' ∧ w.heap.size < w'.heap.size)) (by kernel_rfl) ?_ (fun hHeld => ?_)
       ·(try dsimp only); exact ⟨cell_keep n1 bD.out, cell_keep n2 bD.out, by simp [go_sem], by simp [go_sem], eX, by simp; omega⟩
       (try dsimp only at hHeld)
       refine takeH 0 (v := ?_) rfl ?_ ?_; rotate_left; focus (intro w' hSw; (try dsimp only at hSw); go_simp; try (with_reducible rfl))
       (try simp only [actP])
       refine takeH 1 (v := ?_) rfl ?_ ?_; rotate_left; focus (intro w' hSw; (try dsimp only at hSw); go_simp; try (with_reducible rfl))
       (try simp only [actP])
       refine takeH 2 (v := ?_) rfl ?_ ?_; rotate_left; focus (intro w' hSw; (try dsimp only at hSw); go_simp; try (with_reducible rfl))
       (try simp only [actP])
       refine takeH 3 (v := ?_) rfl ?_ ?_; rotate_left; focus (intro w' hSw; (try dsimp only at hSw); go_simp; try (with_reducible rfl))
       (try simp only [actP])
       refine takeH 4 (v := ?_) rfl ?_ ?_; rotate_left; focus (intro w' hSw; (try dsimp only at hSw); go_simp; try (with_reducible rfl))
       (try simp only [actP])
       refine takeH 5 (v := ?_) rfl ?_ ?_; rotate_left; focus (intro w' hSw; (try dsimp only at hSw); go_simp; try (with_reducible rfl))
       (try simp only [actP])
       refine takeH 6 (v := ?_) rfl ?_ ?_; rotate_left; focus (intro w' hSw; (try dsimp only at hSw); go_simp; try (with_reducible rfl))
       (try simp only [actP])
       refine takeH 8 (v := ?_) rfl ?_ ?_; rotate_left; focus (intro w' hSw; (try dsimp only at hSw); go_simp; try (with_reducible rfl))
       (try simp only [actP])
       refine takeH 9 (v := ?_) rfl ?_ ?_; rotate_left; focus (intro w' hSw; (try dsimp only at hSw); go_simp; try (with_reducible rfl))
       (try simp only [actP])
       refine takeH 10 (v := ?_) rfl ?_ ?_; rotate_left; focus (intro w' hSw; (try dsimp only at hSw); go_simp; try (with_reducible rfl))
       (try simp only [actP])
       refine takeH 11 (v := ?_) rfl ?_ ?_; rotate_left; focus (intro w' hSw; (try dsimp only at hSw); go_simp; try (with_reducible rfl))
       (try simp only [actP])
       refine takeH 12 (v := ?_) rfl ?_ ?_; rotate_left; focus (intro w' hSw; (try dsimp only at hSw); go_simp; try (with_reducible rfl))
       (try simp only [actP])
       refine takeH 13 (v := ?_) rfl ?_ ?_; rotate_left; focus (intro w' hSw; (try dsimp only at hSw); go_simp; try (with_reducible rfl))
       (try simp only [actP])
       refine takeH 15 (v := ?_) rfl ?_ ?_; rotate_left; focus (intro w' hSw; (try dsimp only at hSw); go_simp; try (with_reducible rfl))
       (try simp only [actP])
       refine wpAnyH_ready (rs := [7]) (by kernel_rfl) (by simp) ?_
       refine AllReadyH.cons rfl (fun K hK => ?_) AllReadyH.nil
       go_simp
       (go_at_call 121; refine (nodeOf_any _ _ _ (by omega) (by omega) (by omega) (by omega)).mono ?_; rintro e wn ⟨rfl, hw'⟩; rw [hw']; clear hw' wn)
       refine hK.out _ _ (hHeld) (fun hHeld' => ?_)
       clear hK K hHeld
       have hHeld := hHeld'
       clear hHeld'
       (try simp only [actP])
       refine wpAnyH_ready (rs := [14]) (by kernel_rfl) (by simp) ?_
       refine AllReadyH.cons rfl (fun K hK => ?_) AllReadyH.nil
       go_simp
       (go_at_call 121; refine (nodeOf_any _ _ _ (by omega) (by omega) (by omega) (by omega)).mono ?_; rintro e wn ⟨rfl, hw'⟩; rw [hw']; clear hw' wn)
       refine hK.out _ _ (hHeld) (fun hHeld' => ?_)
       clear hK K hHeld
       have hHeld := hHeld'
       clear hHeld'
       (try simp only [actP])
       refine takeH 16 (v := ?_) rfl ?_ ?_; rotate_left; focus (intro w' hSw; (try dsimp only at hSw); go_simp; try (with_reducible rfl))
       (try simp only [actP])
       refine wpAnyH_ready (rs := [17]) (by kernel_rfl) (by simp) ?_
       refine AllReadyH.cons rfl (fun K hK => ?_) AllReadyH.nil
       go_simp
       refine hK.out _ _ (keep4 hHeld ((Below.refl _ _).alloc (Nat.le_refl _) _)) (fun hHeld' => ?_)
       clear hK K hHeld
       have hHeld := hHeld'
       clear hHeld'
       (try simp only [actP])
       obtain ⟨W5, hW5⟩ : ∃ W5, W5 = ((wt.alloc (Obj.cells #[.int .i64 xa, .int .i64 xb] 183)).alloc (Obj.cells #[.int .i64 (2 * (fp + sr) + xa), .int .i64 (2 * (fp + ds) + xb), .int .i64 1, .int .i64 (m : Int)] 109)).drew := ⟨_, rfl⟩
       have b5 : Below wt.heap.size wt W5 := by rw [hW5]; exact eX
       have o5 : ∀ j u, [.int .i64 (2 * (fp + sr) + xa), .int .i64 (2 * (fp + ds) + xb), .int .i64 1, .int .i64 (m : Int)][j]? = some u → W5.cell? ((⟨wt.heap.size + 1, 0, none⟩ : Addr).add j) = some u := by rw [hW5]; exact four_new (wt.alloc (Obj.cells #[.int .i64 xa, .int .i64 xb] 183)) (.int .i64 (2 * (fp + sr) + xa)) (.int .i64 (2 * (fp + ds) + xb)) (.int .i64 1) (.int .i64 (m : Int)) 109 (wt.heap.size + 1) (by simp)
       rw [← hW5] at hHeld ⊢
       have HO5 := lh o5
       have B5 := lh b5
       have G5 := lh (show GL W5 (w.heap.size + 1) u1 _ from GR.below hG4.out b5)
       have z5 : wt.heap.size ≤ W5.heap.size := b5.size
       clear o5 b5 hW5
       refine wpAnyH_ready (rs := [18]) (by kernel_rfl) (by simp) ?_
       refine AllReadyH.cons rfl (fun K hK => ?_) AllReadyH.nil
       rw [if_pos (by rfl)]
       refine wp_append_at _ _ _ 65 rfl (w.heap.size + 1) 109 ti (.agg #[.int .i64 0, .int .i64 0, .int .i64 0, .int .i64 0]) 4 32 Tryz.underlying65 hi hz0 hz1 hz2 rfl (by decide) u1 _ _ rfl G5.out.1 ⟨wt.heap.size + 1, 0, none⟩ 1 1 [.int .i64 (2 * (fp + sr) + xa), .int .i64 (2 * (fp + ds) + xb), .int .i64 1, .int .i64 (m : Int)] rfl rfl HO5.out (fun u hu => by simp at hu; rcases hu with rfl | rfl | rfl | rfl <;> rfl) (by have := HLL.out q; rw [List.length_map]; unfold maxLen; omega) (by have := HLL.out q; rw [List.length_map]; omega) (by omega) ?_
       intro v' w9 hown' hgrow _ hat
       have F9 := lh (hF4.out.trans ((LkF.call u1 B5.out).trans (show LkF W5 u1 w9 v' from ⟨hgrow, hat.elim .inl (fun r => .inr (fun k hk => by rw [r] at hk; exact Nat.le_of_eq (Option.some.inj hk)))⟩)))
       have G9 := lh (lk_own (l := ⟨2 * (fp + sr) + xa, 2 * (fp + ds) + xb, 1, m⟩) G5.out hown')
       have z9 := hgrow.size
       refine hK.out _ _ (⟨hgrow.cell hHeld.1 NEA.out, hgrow.cell hHeld.2.1 NEA.out, hgrow.cell hHeld.2.2.1 NET.out, hgrow.cell hHeld.2.2.2.1 NET.out, BW3.out w9 _ F9.out, by omega⟩) (fun hHeld' => ?_)
       clear hK K hHeld
       have hHeld := hHeld'
       clear hHeld'
       (try simp only [actP])
       refine takeH 19 (v := ?_) rfl ?_ ?_; rotate_left; focus (intro w' hSw; (try dsimp only at hSw); go_simp; try (with_reducible rfl))
       (try simp only [actP])
       refine wpAnyH_done (by kernel_rfl) ?_ _
       have G10 : Hid (GL w9 (w.heap.size + 1) v' ((instsLk z n ++ instLk (places z.lib z.des) (cn z.lib kc) n m) ++ arcT (fp + sr) (fp + ds) m (turnsL kd sn) (q + 1))) := by
        have e := G9.out
        rw [List.append_assoc, ← LK.out, ← NX.out] at e
        exact lh e
       clear hHeld hown' hgrow hat G9 G5 hG4 hF4 m0 m1 n1 n2
       go_wp2
       go_roundw
       case rel => exact ⟨q + 1, _, rfl, by omega, by go_num, G10, F9⟩
       case measure => simp [intOf]; omega
      ·obtain rfl : q = nt := by omega
       have hI : ¬ (q : Int) < (q : Int) := by omega
       have G10 : Hid (GL wt (w.heap.size + 1) u1 (instsLk z n ++ instLk (places z.lib z.des) (cn z.lib kc) n (m + 1))) := by
        have e := hG4.out
        rw [NT.out, arcT_all, List.append_assoc, ← HAM.out] at e
        exact lh e
       have F10 := lh (F3.out.trans hF4.out)
       clear hG4 hF4
       go_wp2
       go_roundw
       case rel => exact ⟨m + 1, _, rfl, by omega, by go_num, G10, F10⟩
       case measure => simp [intOf]; omega
    ·obtain rfl : m = na := by omega
     have hI : ¬ (m : Int) < (m : Int) := by omega
     have t2' := hF2.out.cell t2 (fun e => by have := (hG.out.blk _ e.symm).2; omega)
     have G10 : Hid (GL wa (w.heap.size + 1) v1 (instsLk z (n + 1))) := by
      have e := hG2.out
      rw [← HIS.out] at e
      exact lh e
     have F10 := lh (F1.out.trans hF2.out)
     have s3 : IntKind.i64.wrap (fp + (np : Int)) = fp + (np : Int) := IntWalk.i64_in _ (by omega)
     have lwa : wo.heap.size + 1 < wa.heap.size := cell_lt t2'
     clear hG2 hF2
     go_wp2
     go_roundw
     case rel => exact ⟨n + 1, _, rfl, by omega, by go_num, by rw [HNX.out], G10, F10⟩
     case measure => simp [intOf]; omega
  ·obtain rfl : n = ni := by omega
   have hI : ¬ (n : Int) < (n : Int) := by omega
   have G10 := lh (GR.low hG.out (base' := w.heap.size) (by omega))
   clear hG
   go_wp2
   go_ret
   exact ⟨_, rfl, G10.out, bww⟩
end Go.Proofs.YtkpfbnffhhmokaaGreat
