/-
The program's TopologicalOrder, HasLoop and what lies below them.
-/
import Derived.Test.YtkpfbnffhhmokaaGreatOrdI
import Derived.Test.YtkpfbnffhhmokaaGreatGraph
namespace Go.Proofs.YtkpfbnffhhmokaaGreat
open Go.ChangeShapes Go.WideShapes Go.ChangeAt Go.RowKit Go.Deep
set_option linter.unusedVariables false
set_option linter.unusedSimpArgs false
set_option maxRecDepth 100000
theorem topoL_bd (z : BlkD) (bs : List Int) : (topoL z bs).length ≤ 10000 := by
 unfold topoL
 split
 ·next h =>
  have hb := grCode_valid h
  have := ndN_le hb
  cases e : topoR z bs with
  | none => simp [natsI]
  | some o =>
   have hl := ordN_len (show ordN (linksL z) (fun k => !hasI bs (k : Int)) (ndN z).toNat (ndN z).toNat = some o from e)
   show (natsI o).length ≤ 10000
   rw [natsI_len]
   omega
 ·simp
set_option maxHeartbeats 16000000 in
theorem implTopologicalOrder_any (f : Nat → Value) (z : BlkD) (v : Value) (bs : List Int) (w : World) (h : BlkF w w.heap.size f z) (hv : IntS w w.heap.size v bs) (hbl : bs.length ≤ 1048576) :
  Calls Tryz.prog 22 #[.agg #[f 0, f 1, f 2, f 3, f 4], v] w (ListR w (topoL z bs) (topoC z bs)) := by
 have HB := lh (fun (w1 : World) (hb : Below w.heap.size w w1) => graphOf_any f z v bs w1 (h.up hb) (hv.up hb) hbl)
 obtain ⟨p0, q0, p1, q1, p2, q2, p3, q3, p4, q4, e0, e1, e2, e3, e4⟩ := h.five
 obtain ⟨va, vc, rfl⟩ := hv.slice
 rw [e0, e1, e2, e3, e4] at HB
 rw [e0, e1, e2, e3, e4]
 clear e0 e1 e2 e3 e4 h hv
 unfold GraphR at HB
 by_cases hg : grCode z bs = 0
 ·have hb := grCode_valid hg
  have HO := lh (fun (gv : Value) (w1 : World) (L : Nat) (h : GraphV w1 L z bs gv) => orderI_any z bs gv w1 L h hb)
  unfold OrdIR at HO
  have hll := linksL_len hb
  have HGC := lh hg
  rw [hg] at HB
  clear hg
  go_enter Tryz.func22, Tryz.ntmps22
  go_wp2_with fail
  (go_at_call 51; refine (HB.out _ (by exact eX)).mono ?_; rintro e w1 ⟨gv, rfl, hyes, hno, hb⟩)
  have hgv := hyes (by trivial)
  obtain ⟨lv, bo, bi, base, V, rfl, l1, l2, l3, d1, hGL, hR⟩ := id hgv
  obtain ⟨la, lc, rfl⟩ := (GL.lks hGL (by omega)).slice
  have GV := lh hgv
  have b1 : Below w.heap.size w w1 := by exact eX
  have bA : Below w1.heap.size w1 (w1.alloc (Obj.cells #[.slice la (linksL z).length lc, .slice (some ⟨bo, 0, none⟩) (nodesN z) (nodesN z), .slice (some ⟨bi, 0, none⟩) (nodesN z) (nodesN z)] 68)) := (Below.refl _ _).alloc (Nat.le_refl _) _
  have GA := lh (GV.out.below bA)
  clear hyes hno hb hgv hGL hR GV bA l1 l2 l3
  go_wp2_with fail
  (go_at_call 52; refine (HO.out _ _ _ GA.out).mono ?_; rintro e w2 ⟨vo, rfl, hyes, hb⟩)
  cases ht : topoR z bs with
  | none =>
   have XL := lh (show topoL z bs = [] by simp [topoL, HGC.out, ht, natsI])
   have XC := lh (show topoC z bs = 7 by simp [topoC, HGC.out, ht])
   rw [ht] at hyes
   clear ht hyes
   go_wp2
   go_ret2
   exact ⟨_, by rw [XC.out]; rfl, by rw [XL.out]; exact own_nil _ _, by exact eX⟩
  | some o =>
   have XL := lh (show topoL z bs = natsI o by simp [topoL, HGC.out, ht])
   have XC := lh (show topoC z bs = 0 by simp [topoC, HGC.out, ht])
   have HW := lh (hyes o ht)
   obtain ⟨a, c, rfl⟩ := HW.out.slice
   clear ht hyes
   go_wp2
   go_ret2
   exact ⟨_, by rw [XC.out]; rfl, by rw [XL.out]; exact HW.out.mono (by have := b1.size; simp; omega), by exact eX⟩
 ·have XL := lh (show topoL z bs = [] by simp [topoL, hg])
  have XC := lh (show topoC z bs = grCode z bs by simp [topoC, hg])
  obtain ⟨cd, hcd⟩ : ∃ cd, cd = grCode z bs := ⟨_, rfl⟩
  rw [← hcd] at HB hg XC
  have hne : (cd != 0) = true := by simpa using hg
  have hne2 : (cd == 0) = false := by simpa using hg
  have HG0 := lh hg
  clear hcd hg
  go_enter Tryz.func22, Tryz.ntmps22
  go_wp2_with fail
  (go_at_call 51; refine (HB.out _ (by exact eX)).mono ?_; rintro e w1 ⟨gv, rfl, hyes, hno, hb⟩)
  obtain rfl := hno HG0.out
  clear hyes hno
  go_wp2
  go_ret2
  exact ⟨_, by rw [XC.out]; rfl, by rw [XL.out]; exact own_nil _ _, eX⟩
theorem specTopologicalOrder_any (f : Nat → Value) (z : BlkD) (v : Value) (bs : List Int) (w : World) (h : BlkF w w.heap.size f z) (hv : IntS w w.heap.size v bs) :
  Calls Tryz.prog 21 #[.agg #[f 0, f 1, f 2, f 3, f 4], v] w (ListR w (topoL z bs) (topoC z bs)) := specTopo_any f z v bs w h hv
def loopB (z : BlkD) (bs : List Int) : Bool := !(topoR z bs).isSome
set_option maxHeartbeats 8000000 in
theorem hasLoopI_any (z : BlkD) (bs : List Int) (gv : Value) (w : World) (L : Nat) (hg : GraphV w L z bs gv) (hb : blkB z = true) : Calls Tryz.prog 54 #[gv] w fun e w' => e = .returned (.bool (loopB z bs)) ∧ Below w.heap.size w w' := by
 have HO := lh (fun (gv : Value) (w1 : World) (L : Nat) (h : GraphV w1 L z bs gv) => orderI_any z bs gv w1 L h hb)
 unfold OrdIR at HO
 have hll := linksL_len hb
 obtain ⟨lv, bo, bi, base, V, rfl, l1, l2, l3, d1, hGL, hR⟩ := id hg
 obtain ⟨la, lc, rfl⟩ := (GL.lks hGL (by omega)).slice
 have bA : Below w.heap.size w (w.alloc (Obj.cells #[.slice la (linksL z).length lc, .slice (some ⟨bo, 0, none⟩) (nodesN z) (nodesN z), .slice (some ⟨bi, 0, none⟩) (nodesN z) (nodesN z)] 68)) := (Below.refl _ _).alloc (Nat.le_refl _) _
 have GA := lh (hg.below bA)
 have XT := lh (show loopB z bs = !(topoR z bs).isSome from rfl)
 clear hGL hR bA l1 l2 l3 hg
 go_enter Tryz.func54, Tryz.ntmps54
 go_wp2_with fail
 (go_at_call 52; refine (HO.out _ _ _ GA.out).mono ?_; rintro e w2 ⟨vo, rfl, hyes, hb⟩)
 go_wp2
 go_ret
 exact ⟨by rw [XT.out]; cases topoR z bs <;> rfl, by exact eX⟩
theorem orderZ_any (w : World) : Calls Tryz.prog 52 #[.agg #[.slice none 0 0, .slice none 0 0, .slice none 0 0]] w fun e w' => e = .returned (.tuple #[.slice none 0 0, .bool true]) ∧ Below w.heap.size w w' := by
 have hmm := @run_makeMap Tryz.prog
 have HOWN := lh (show World.ownsMap ((w.alloc (Obj.cells #[.slice none 0 0, .slice none 0 0, .slice none 0 0] 68)).alloc (.map #[] 0)) Tryz.prog 2 (plainElem (H := Unit) Tryz.prog 3) (w.heap.size + 1) 0 (.map []) from by
  have h := World.ownsMap_made (w.alloc (Obj.cells #[.slice none 0 0, .slice none 0 0, .slice none 0 0] 68)) Tryz.prog 2 (plainElem (H := Unit) Tryz.prog 3)
  simpa using h)
 have hs0 : ((Maps.size (DataW.map (H := Unit) []) : Nat) : Int) = 0 := rfl
 go_enter Tryz.func52, Tryz.ntmps52
 go_wp2
 refine wp_loop_rounds 1 ?_
 rw [rounds_succ]
 go_wp2
 refine wp_loop_rounds 1 ?_
 rw [rounds_succ]
 go_wp2_with (at_len; refine wpList_len_own _ rfl _ 146 rfl 2 3 Tryz.underlying146 _ _ _ _ rfl HOWN.out ?_)
 go_ret2
 exact ⟨rfl, by exact eX⟩
theorem hasLoopZ_any (w : World) : Calls Tryz.prog 54 #[.agg #[.slice none 0 0, .slice none 0 0, .slice none 0 0]] w fun e w' => e = .returned (.bool false) ∧ Below w.heap.size w w' := by
 go_enter Tryz.func54, Tryz.ntmps54
 go_wp2_with (go_at_call 52; refine (orderZ_any _).mono ?_; rintro e w2 ⟨rfl, hb⟩)
 go_ret
 exact ⟨rfl, by exact eX⟩
def loopC (z : BlkD) (bs : List Int) : Bool := if grCode z bs = 0 then loopB z bs else false
set_option maxHeartbeats 16000000 in
theorem implHasLoop_any (f : Nat → Value) (z : BlkD) (v : Value) (bs : List Int) (w : World) (h : BlkF w w.heap.size f z) (hv : IntS w w.heap.size v bs) (hbl : bs.length ≤ 1048576) :
  Calls Tryz.prog 24 #[.agg #[f 0, f 1, f 2, f 3, f 4], v] w fun e w' => e = .returned (.tuple #[.bool (loopC z bs), .int .i64 (grCode z bs)]) ∧ Below w.heap.size w w' := by
 have HB := lh (fun (w1 : World) (hb : Below w.heap.size w w1) => graphOf_any f z v bs w1 (h.up hb) (hv.up hb) hbl)
 obtain ⟨p0, q0, p1, q1, p2, q2, p3, q3, p4, q4, e0, e1, e2, e3, e4⟩ := h.five
 obtain ⟨va, vc, rfl⟩ := hv.slice
 rw [e0, e1, e2, e3, e4] at HB
 rw [e0, e1, e2, e3, e4]
 clear e0 e1 e2 e3 e4 h hv
 unfold GraphR at HB
 by_cases hg : grCode z bs = 0
 ·have hb := grCode_valid hg
  have HO := lh (fun (gv : Value) (w1 : World) (L : Nat) (h : GraphV w1 L z bs gv) => hasLoopI_any z bs gv w1 L h hb)
  have hll := linksL_len hb
  have XC := lh (show loopC z bs = loopB z bs by simp [loopC, hg])
  rw [hg] at HB ⊢
  rw [XC.out]
  clear hg
  go_enter Tryz.func24, Tryz.ntmps24
  go_wp2_with fail
  (go_at_call 51; refine (HB.out _ (by exact eX)).mono ?_; rintro e w1 ⟨gv, rfl, hyes, hno, hb⟩)
  have hgv := hyes (by trivial)
  obtain ⟨lv, bo, bi, base, V, rfl, l1, l2, l3, d1, hGL, hR⟩ := id hgv
  obtain ⟨la, lc, rfl⟩ := (GL.lks hGL (by omega)).slice
  have GV := lh hgv
  have bA : Below w1.heap.size w1 (w1.alloc (Obj.cells #[.slice la (linksL z).length lc, .slice (some ⟨bo, 0, none⟩) (nodesN z) (nodesN z), .slice (some ⟨bi, 0, none⟩) (nodesN z) (nodesN z)] 68)) := (Below.refl _ _).alloc (Nat.le_refl _) _
  have GA := lh (GV.out.below bA)
  clear hyes hno hgv hGL hR GV bA l1 l2 l3
  go_wp2_with fail
  (go_at_call 54; refine (HO.out _ _ _ GA.out).mono ?_; rintro e w2 ⟨rfl, hb2⟩)
  go_wp2
  go_ret2
  exact ⟨rfl, by exact eX⟩
 ·have XC := lh (show loopC z bs = false by simp [loopC, hg])
  rw [XC.out]
  obtain ⟨cd, hcd⟩ : ∃ cd, cd = grCode z bs := ⟨_, rfl⟩
  rw [← hcd] at HB hg ⊢
  have HG0 := lh hg
  clear hcd hg
  go_enter Tryz.func24, Tryz.ntmps24
  go_wp2_with fail
  (go_at_call 51; refine (HB.out _ (by exact eX)).mono ?_; rintro e w1 ⟨gv, rfl, hyes, hno, hb⟩)
  obtain rfl := hno HG0.out
  clear hyes hno
  go_wp2_with fail
  (go_at_call 54; refine (hasLoopZ_any _).mono ?_; rintro e w2 ⟨rfl, hb2⟩)
  go_wp2
  go_ret2
  exact ⟨rfl, by exact eX⟩
set_option maxHeartbeats 16000000 in
theorem specHas_any (f : Nat → Value) (z : BlkD) (v : Value) (bs : List Int) (w : World) (h : BlkF w w.heap.size f z) (hv : IntS w w.heap.size v bs) (hb : blkB z = true) :
  Calls Tryz.prog 53 #[.agg #[f 0, f 1, f 2, f 3, f 4], v] w fun e w' => e = .returned (.bool (loopB z bs)) ∧ Below w.heap.size w w' := by
 have HC := lh (fun (w1 : World) (hb' : Below w.heap.size w w1) => specLinks_any f z w1 (h.up hb') hb)
 have HCT := lh (fun (w1 : World) (hb' : Below w.heap.size w w1) => specCount_any f z w1 (h.up hb') hb)
 obtain ⟨a, c, rfl⟩ := hv.slice
 have HV := lh (fun (w1 : World) (hb' : Below w.heap.size w w1) => hv.up hb')
 obtain ⟨p0, q0, p1, q1, p2, q2, p3, q3, p4, q4, e0, e1, e2, e3, e4⟩ := h.five
 rw [e0, e1, e2, e3, e4] at HC HCT
 rw [e0, e1, e2, e3, e4]
 clear e0 e1 e2 e3 e4 h hv
 have HLL := lh (linksL_len hb)
 obtain ⟨n0, n2⟩ := ndN_le hb
 obtain ⟨N, hN⟩ := Int.eq_ofNat_of_zero_le n0
 have HE := lh (fun k (hk : k < (linksL z).length) => (show 0 ≤ (lkn (linksL z) k).src ∧ (lkn (linksL z) k).src < (N : Int) ∧ 0 ≤ (lkn (linksL z) k).dst ∧ (lkn (linksL z) k).dst < (N : Int) from by have := links_at hb hk; rw [hN] at this; exact this))
 obtain ⟨R, hR⟩ : ∃ R, R = ordN (linksL z) (fun k => !hasI bs (k : Int)) N N := ⟨_, rfl⟩
 have XR := lh (show loopB z bs = !R.isSome by simp [loopB, topoR, hN, hR])
 have XV := lh (show ordN (linksL z) (fun k => bvl (liveN bs (linksL z).length) k) N N = R from by rw [hR]; exact ordN_like (fun k hk => liveN_at bs hk) N N)
 rw [hN] at HCT n2
 have HN2 := lh (show N ≤ 200 by omega)
 rw [XR.out]
 clear hb hN n0 n2 hR XR
 unfold LinksR at HC
 go_enter Tryz.func53, Tryz.ntmps53
 go_wp2_with fail
 (go_at_call 47; refine (HC.out _ eX).mono ?_; rintro e w2 ⟨vl, rfl, hG, hb⟩; have ⟨hc, hf⟩ := bcell hb; have hz := hb.size; (try simp at hz); (try have hz := Nat.lt_of_succ_le hz); (try have y0 := wy w w2); (try have z0 := wz0 w w2); (try have z1 := wz1 w w2); (try have z2 := wz2 w w2); (try have z3 := wz3 w w2); (try have z4 := wz4 w w2))
 have HLk := GL.lks hG (by have := HLL.out; omega)
 obtain ⟨va, vc, rfl⟩ := HLk.slice
 have HLk := lh HLk
 have B2 : Below w.heap.size w w2 := by exact eX
 clear hG
 go_wp2_with fail
 (go_at_call 49; refine (HCT.out _ B2).mono ?_; rintro e w3 ⟨rfl, hb⟩; have ⟨hc, hf⟩ := bcell hb; have hz := hb.size; (try simp at hz); (try have hz := Nat.lt_of_succ_le hz); (try have y0 := wy w w3); (try have z0 := wz0 w w3); (try have z1 := wz1 w w3); (try have z2 := wz2 w w3); (try have z3 := wz3 w w3); (try have z4 := wz4 w w3))
 have B23 : Below w2.heap.size w2 w3 := by exact eX
 have B3 : Below w.heap.size w w3 := by exact eX
 go_wp2_with fail
 (go_at_call 50; refine (live_any va (linksL z).length vc _ bs _ (HV.out w3 B3) HLL.out).mono ?_; rintro e w4 ⟨vv, rfl, hV, hvb, hb⟩; have ⟨hc, hf⟩ := bcell hb; have hz := hb.size; (try simp at hz); (try have hz := Nat.lt_of_succ_le hz); (try have y0 := wy w w4); (try have z0 := wz0 w w4); (try have z1 := wz1 w w4); (try have z2 := wz2 w w4); (try have z3 := wz3 w w4); (try have z4 := wz4 w w4))
 have B4 : Below w.heap.size w w4 := by exact eX
 have HL4 := lh (HLk.out.up (show Below w2.heap.size w2 w4 from B23.trans ((show Below w3.heap.size w3 w4 by exact eX).mono B23.size)))
 have HV4 := lh hV
 clear hV hvb
 go_wp2_with fail
 (go_at_call 48; refine (order_any N _ _ (linksL z) (liveN bs (linksL z).length) _ HL4.out HV4.out (liveN_len _ _) HLL.out (by have := HN2.out; omega) HE.out).mono ?_; rintro e w5 ⟨vo, rfl, hO, hb⟩; have ⟨hc, hf⟩ := bcell hb; have hz := hb.size; (try simp at hz); (try have hz := Nat.lt_of_succ_le hz); (try have y0 := wy w w5); (try have z0 := wz0 w w5); (try have z1 := wz1 w w5); (try have z2 := wz2 w w5); (try have z3 := wz3 w w5); (try have z4 := wz4 w w5))
 have B5 : Below w.heap.size w w5 := by exact eX
 rw [XV.out] at hO ⊢
 clear hO
 go_wp2
 go_ret
 exact ⟨by cases R <;> rfl, by exact eX⟩
set_option maxHeartbeats 16000000 in
theorem specHasLoop_any (f : Nat → Value) (z : BlkD) (v : Value) (bs : List Int) (w : World) (h : BlkF w w.heap.size f z) (hv : IntS w w.heap.size v bs) :
  Calls Tryz.prog 23 #[.agg #[f 0, f 1, f 2, f 3, f 4], v] w fun e w' => e = .returned (.tuple #[.bool (loopC z bs), .int .i64 (grCode z bs)]) ∧ Below w.heap.size w w' := by
 have HG := lh (fun (w1 : World) (hb : Below w.heap.size w w1) => specGr_any f z v bs w1 (h.up hb) (hv.up hb))
 have HC := lh (fun (hb : blkB z = true) (w1 : World) (hb' : Below w.heap.size w w1) => specHas_any f z v bs w1 (h.up hb') (hv.up hb') hb)
 obtain ⟨a, c, rfl⟩ := hv.slice
 obtain ⟨p0, q0, p1, q1, p2, q2, p3, q3, p4, q4, e0, e1, e2, e3, e4⟩ := h.five
 rw [e0, e1, e2, e3, e4] at HG HC
 rw [e0, e1, e2, e3, e4]
 clear e0 e1 e2 e3 e4 h hv
 by_cases hg : grCode z bs = 0
 ·have HC := lh (HC.out (grCode_valid hg))
  have XC := lh (show loopC z bs = loopB z bs by simp [loopC, hg])
  rw [hg] at HG ⊢
  rw [XC.out]
  clear hg
  go_enter Tryz.func23, Tryz.ntmps23
  go_wp2_with fail
  (go_at_call 46; refine (HG.out _ eX).mono ?_; rintro e w1 ⟨rfl, hb⟩; have ⟨hc, hf⟩ := bcell hb; have hz := hb.size; (try simp at hz); (try have hz := Nat.lt_of_succ_le hz); (try have y0 := wy w w1); (try have z0 := wz0 w w1); (try have z1 := wz1 w w1); (try have z2 := wz2 w w1); (try have z3 := wz3 w w1); (try have z4 := wz4 w w1))
  have B1 : Below w.heap.size w w1 := by exact eX
  go_wp2_with fail
  (go_at_call 53; refine (HC.out _ B1).mono ?_; rintro e w2 ⟨rfl, hb⟩; have ⟨hc, hf⟩ := bcell hb; have hz := hb.size; (try simp at hz); (try have hz := Nat.lt_of_succ_le hz); (try have y0 := wy w w2); (try have z0 := wz0 w w2); (try have z1 := wz1 w w2); (try have z2 := wz2 w w2); (try have z3 := wz3 w w2); (try have z4 := wz4 w w2))
  go_wp2
  go_ret2
  exact ⟨rfl, by exact eX⟩
 ·have XC := lh (show loopC z bs = false by simp [loopC, hg])
  rw [XC.out]
  obtain ⟨cd, hcd⟩ : ∃ cd, cd = grCode z bs := ⟨_, rfl⟩
  rw [← hcd] at HG hg ⊢
  have hne : (cd != 0) = true := by simpa using hg
  have hne2 : (cd == 0) = false := by simpa using hg
  clear hcd hg HC
  go_enter Tryz.func23, Tryz.ntmps23
  go_wp2_with fail
  (go_at_call 46; refine (HG.out _ eX).mono ?_; rintro e w1 ⟨rfl, hb⟩; have ⟨hc, hf⟩ := bcell hb; have hz := hb.size; (try simp at hz); (try have hz := Nat.lt_of_succ_le hz); (try have y0 := wy w w1); (try have z0 := wz0 w w1); (try have z1 := wz1 w w1); (try have z2 := wz2 w w1); (try have z3 := wz3 w w1); (try have z4 := wz4 w w1))
  go_wp2
  go_ret2
  exact ⟨rfl, by exact eX⟩
end Go.Proofs.YtkpfbnffhhmokaaGreat
