/-
What the program answers of a timing graph: around a node, the links from it and to it.
-/
import Derived.Test.YtmlbpfbdhhkfkaaGreatGraph
import Derived.Test.YtmlbpfbdhhkfkaaGreatLinkF
namespace Go.Proofs.YtmlbpfbdhhkfkaaGreat
open Go.ChangeShapes Go.WideShapes Go.ChangeAt Go.RowKit Go.Deep
set_option linter.unusedVariables false
set_option linter.unusedSimpArgs false
set_option maxRecDepth 100000
/-- A list of numbers that comes in as an argument. -/
theorem open_ints_top {H : Type} {enc : TypeId × Value → H} {P : Program} {W : World} {base : Nat} {t e : TypeId} {v : Value} {d : DataW H} {p : List MemPlace} (ht : P.underlying t = some (.slice e)) (he : P.underlying e = some (.int .i64)) (hc : P.cellsOf e = 1)
  (hv : Value.okWide P W .any base t v) (h : DataW.Trod enc P W 0 (fun _ => true) true t v d p) : ∃ xs, IntS W W.heap.size v xs := by
 obtain ⟨a0, len, cap, rfl⟩ := okWide_slice ht hv
 obtain ⟨fuel, hf⟩ := h
 exact open_list ht he hc hf
def AroundR (z : BlkD) (bs : List Int) (x : Int) (w : World) (e : Ending) (w' : World) : Prop :=
 ∃ v, e = .returned (.tuple #[v, .int .i64 (ndCode z bs x)]) ∧ (ndCode z bs x = 0 → GraphV w' w.heap.size z bs v) ∧ (ndCode z bs x ≠ 0 → v = .agg #[.slice none 0 0, .slice none 0 0, .slice none 0 0]) ∧ Below w.heap.size w w'
theorem around_no {z : BlkD} {bs : List Int} {x c : Int} {w w' : World} {e : Ending} (hc : ndCode z bs x = c) (h0 : c ≠ 0) (he : e = .returned (.tuple #[.agg #[.slice none 0 0, .slice none 0 0, .slice none 0 0], .int .i64 c])) (hb : Below w.heap.size w w') : AroundR z bs x w e w' :=
 ⟨_, by rw [hc]; exact he, fun q => absurd (hc.symm.trans q) h0, fun _ => rfl, hb⟩
set_option maxHeartbeats 16000000 in
theorem graphAround_any (f : Nat → Value) (z : BlkD) (v : Value) (bs : List Int) (x : Int) (w : World) (h : BlkF w w.heap.size f z) (hv : IntS w w.heap.size v bs) (hbl : bs.length ≤ 1048576) :
  Calls Tryz.prog 62 #[.agg #[f 0, f 1, f 2, f 3, f 4], v, .int .i64 x] w (AroundR z bs x w) := by
 have HB := Lib.hid (fun (w1 : World) (hb : Below w.heap.size w w1) => graphOf_any f z v bs w1 (h.up hb) (hv.up hb) hbl)
 obtain ⟨p0, q0, p1, q1, p2, q2, p3, q3, p4, q4, e0, e1, e2, e3, e4⟩ := h.five
 obtain ⟨va, vc, rfl⟩ := hv.slice
 rw [e0, e1, e2, e3, e4] at HB
 rw [e0, e1, e2, e3, e4]
 clear e0 e1 e2 e3 e4 h hv
 obtain ⟨U, hU⟩ : ∃ U, U = (w.alloc (Obj.cells #[.slice p0 z.lib.length q0, .slice p1 z.des.insts.length q1, .slice p2 z.des.nets.length q2, .slice p3 z.des.ports.length q3, .slice p4 z.wires.length q4] 46)).alloc (Obj.cells #[.slice none 0 0, .slice none 0 0, .slice none 0 0] 75) := ⟨_, rfl⟩
 have v0 : U.cell? ⟨w.heap.size + 1, 0, none⟩ = some (.slice none 0 0) := by rw [hU]; simp [go_sem]
 have v1 : U.cell? ⟨w.heap.size + 1, 1, none⟩ = some (.slice none 0 0) := by rw [hU]; simp [go_sem]
 have v2 : U.cell? ⟨w.heap.size + 1, 2, none⟩ = some (.slice none 0 0) := by rw [hU]; simp [go_sem]
 have f0 : U.frozen? ⟨w.heap.size + 1, 0, none⟩ = false := by rw [hU]; simp [go_sem]
 have f1 : U.frozen? ⟨w.heap.size + 1, 1, none⟩ = false := by rw [hU]; simp [go_sem]
 have f2 : U.frozen? ⟨w.heap.size + 1, 2, none⟩ = false := by rw [hU]; simp [go_sem]
 have k0 : U.cell? ⟨w.heap.size, 0, none⟩ = some (.slice p0 z.lib.length q0) := by rw [hU]; simp [go_sem]
 have bU : Below w.heap.size w U := by rw [hU]; exact ((Below.refl _ _).alloc (Nat.le_refl _) _).alloc (by simp) _
 have sU : w.heap.size + 1 < U.heap.size := cell_lt v0
 have HU := Lib.hid hU
 clear hU k0
 go_enter Tryz.func62, Tryz.ntmps62
 go_wp2_with fail
 rw [← HU.out]
 (go_at_call 46; refine (HB.out _ bU).mono ?_; rintro e w1 ⟨gv, rfl, hyes, hno, hb⟩)
 have b1 := ext_trans bU hb
 have t0 := cell_keep v0 hb; have t1 := cell_keep v1 hb; have t2 := cell_keep v2 hb
 have u0 : w1.frozen? ⟨w.heap.size + 1, 0, none⟩ = false := by rw [hb.frozen (p := ⟨w.heap.size + 1, 0, none⟩) sU]; exact f0
 have u1 : w1.frozen? ⟨w.heap.size + 1, 1, none⟩ = false := by rw [hb.frozen (p := ⟨w.heap.size + 1, 1, none⟩) sU]; exact f1
 have u2 : w1.frozen? ⟨w.heap.size + 1, 2, none⟩ = false := by rw [hb.frozen (p := ⟨w.heap.size + 1, 2, none⟩) sU]; exact f2
 have sz : w.heap.size + 1 < w1.heap.size := by have := hb.size; omega
 have sz0 : w.heap.size < w1.heap.size := by omega
 clear v0 v1 v2 f0 f1 f2 hb bU
 by_cases hg : grCode z bs = 0
 ·have hbv := grCode_valid hg
  have hgv := hyes hg
  obtain ⟨lv, bo, bi, base, V, rfl, l1, l2, l3, d1, hGL, hR⟩ := id hgv
  have hll := linksL_len hbv
  obtain ⟨la, lc, rfl⟩ := (GL.lks hGL (by omega)).slice
  have n200 := ndN_le hbv
  have NN := ndN_is z
  have GV := Lib.hid hgv
  have HND := Lib.hid (show ndCode z bs x = if inB x 0 ((nodesN z : Int) - 1) then 0 else 4 by unfold ndCode; rw [if_pos hg, NN])
  obtain ⟨N, hN⟩ : ∃ N, N = nodesN z := ⟨_, rfl⟩
  rw [← hN] at NN HND
  rw [← hN]
  have hN200 : N ≤ 200 := by omega
  have HN := Lib.hid hN
  obtain ⟨nl, hnl⟩ : ∃ n, n = (linksL z).length := ⟨_, rfl⟩
  rw [← hnl]
  have NL := Lib.hid hnl
  have GV : Hid (GraphV w1 U.heap.size z bs (.agg #[.slice la nl lc, .slice (some ⟨bo, 0, none⟩) N N, .slice (some ⟨bi, 0, none⟩) N N])) := by rw [hN, hnl]; exact GV
  rw [hg]
  clear hyes hno hgv hGL hR hbv hN hnl hg n200 NN
  have bA : Below w1.heap.size w1 (w1.alloc (Obj.cells #[.slice la nl lc, .slice (some ⟨bo, 0, none⟩) N N, .slice (some ⟨bi, 0, none⟩) N N] 75)) := (Below.refl _ _).alloc (Nat.le_refl _) _
  cases hin : inB x 0 ((N : Int) - 1)
  ·have HI := Lib.hid (fun (w2 : World) => (show Calls Tryz.prog 107 #[.slice (some ⟨bo, 0, none⟩) N N, .int .i64 x] w2 fun e w' => e = .returned (.bool false) ∧ w' = w2 from by have := hasIxRow_any (some ⟨bo, 0, none⟩) N N x w2 (by omega); rw [hin] at this; exact this))
   have hQ := Lib.hid (show ndCode z bs x = 4 by rw [HND.out, hin]; rfl)
   clear hin HND
   go_wp2_with (go_at_call 107; refine (HI.out _).mono ?_; rintro e w' ⟨rfl, hw'⟩; rw [hw']; clear hw' w')
   exact bodyPost_ret (v := .tuple #[.agg #[.slice none 0 0, .slice none 0 0, .slice none 0 0], .int .i64 4]) (by simp [results, Tryz.results62, go_sem, *]) rfl (around_no hQ.out (by decide) rfl eX)
  ·have HI := Lib.hid (fun (w2 : World) => (show Calls Tryz.prog 107 #[.slice (some ⟨bo, 0, none⟩) N N, .int .i64 x] w2 fun e w' => e = .returned (.bool true) ∧ w' = w2 from by have := hasIxRow_any (some ⟨bo, 0, none⟩) N N x w2 (by omega); rw [hin] at this; exact this))
   have hQ := Lib.hid (show ndCode z bs x = 0 by rw [HND.out, hin]; rfl)
   clear hin HND
   go_wp2_with (go_at_call 107; refine (HI.out _).mono ?_; rintro e w' ⟨rfl, hw'⟩; rw [hw']; clear hw' w')
   exact bodyPost_ret (v := .tuple #[.agg #[.slice la nl lc, .slice (some ⟨bo, 0, none⟩) N N, .slice (some ⟨bi, 0, none⟩) N N], .int .i64 0]) (by simp [results, Tryz.results62, go_sem, *]) rfl ⟨_, by rw [hQ.out], fun _ => ((((GV.out.set (p := ⟨w.heap.size + 1, 0, none⟩) sU _).set (p := ⟨w.heap.size + 1, 1, none⟩) sU _).set (p := ⟨w.heap.size + 1, 2, none⟩) sU _).below ((Below.refl _ _).alloc (Nat.le_refl _) _)).low (show w.heap.size ≤ U.heap.size by omega), fun h => absurd hQ.out h, by exact eX⟩
 ·obtain rfl := hno hg
  have hQ := Lib.hid (show ndCode z bs x = grCode z bs by unfold ndCode; rw [if_neg hg])
  obtain ⟨cd, hcd⟩ : ∃ c, c = grCode z bs := ⟨_, rfl⟩
  rw [← hcd] at hg hQ ⊢
  have hne : (cd != 0) = true := by simpa using hg
  have hne2 : (cd == 0) = false := by simpa using hg
  have HG0 := Lib.hid hg
  clear hyes hno hcd hg
  go_wp2
  exact bodyPost_ret (v := .tuple #[.agg #[.slice none 0 0, .slice none 0 0, .slice none 0 0], .int .i64 cd]) (by simp [results, Tryz.results62, go_sem, *]) rfl (around_no hQ.out HG0.out rfl eX)
theorem nd_len {z : BlkD} {bs : List Int} {x : Int} (h : ndCode z bs x = 0) : (linksL z).length ≤ 10000 := by
 have := linksL_len (grCode_valid (show grCode z bs = 0 by rcases ndCode_cases z bs x with ⟨_, e⟩ | e | e | e <;> first | exact e | omega))
 omega
theorem froL_bd (z : BlkD) (bs : List Int) (x : Int) : (froL z bs x).length ≤ 10000 := by
 unfold froL
 split
 ·next h => exact Nat.le_trans (froLN_len _ _ _ _) (nd_len h)
 ·simp
theorem toL_bd (z : BlkD) (bs : List Int) (x : Int) : (toL z bs x).length ≤ 10000 := by
 unfold toL
 split
 ·next h => exact Nat.le_trans (toLN_len _ _ _ _) (nd_len h)
 ·simp
set_option maxHeartbeats 16000000 in
theorem implLinksFrom_any (f : Nat → Value) (z : BlkD) (v : Value) (bs : List Int) (x : Int) (w : World) (h : BlkF w w.heap.size f z) (hv : IntS w w.heap.size v bs) (hbl : bs.length ≤ 1048576) :
  Calls Tryz.prog 26 #[.agg #[f 0, f 1, f 2, f 3, f 4], v, .int .i64 x] w (ListR w (froL z bs x) (ndCode z bs x)) := by
 have HB := Lib.hid (fun (w1 : World) (hb : Below w.heap.size w w1) => graphAround_any f z v bs x w1 (h.up hb) (hv.up hb) hbl)
 obtain ⟨p0, q0, p1, q1, p2, q2, p3, q3, p4, q4, e0, e1, e2, e3, e4⟩ := h.five
 obtain ⟨va, vc, rfl⟩ := hv.slice
 rw [e0, e1, e2, e3, e4] at HB
 rw [e0, e1, e2, e3, e4]
 clear e0 e1 e2 e3 e4 h hv
 unfold AroundR at HB
 by_cases hg : ndCode z bs x = 0
 ·have hx := nd_in hg
  have XL := Lib.hid (show froL z bs x = froLN z bs x (linksL z).length by simp [froL, hg])
  have HGC := Lib.hid (grCode_valid (show grCode z bs = 0 by rcases ndCode_cases z bs x with ⟨_, e⟩ | e | e | e <;> first | exact e | omega))
  rw [ndN_is] at hx
  rw [hg] at HB ⊢
  clear hg
  go_enter Tryz.func26, Tryz.ntmps26
  go_wp2_with fail
  (go_at_call 62; refine (HB.out _ (by exact eX)).mono ?_; rintro e w1 ⟨gv, rfl, hyes, hno, hb⟩)
  obtain ⟨lv, bo, bi, base, V, rfl, l1, l2, l3, d1, hGL, hR⟩ := hyes (by trivial)
  have n200 := ndN_le HGC.out
  have hll := linksL_len HGC.out
  rw [ndN_is] at n200
  obtain ⟨la, lc, rfl⟩ := (GL.lks hGL (by omega)).slice
  obtain ⟨N, hN⟩ : ∃ N, N = nodesN z := ⟨_, rfl⟩
  rw [← hN] at hx n200 hR ⊢
  obtain ⟨xn, rfl⟩ := Int.eq_ofNat_of_zero_le hx.1
  have hxN : xn < N := by omega
  obtain ⟨rc0, _, rlt, rown⟩ := hR.2.1 (xn) (by omega)
  rw [show gB bo bi N (xn) = bo from if_pos hxN] at rlt
  rw [show gB bo bi N (xn) = bo from if_pos hxN, show gO N (xn) = xn from if_pos hxN] at rc0
  have rown : GI w1 base (V (xn)) (froLN z bs (xn : Int) (linksL z).length) := by
   have e : gR z bs N (linksL z).length (xn) = froLN z bs (xn : Int) (linksL z).length := if_pos hxN
   rw [← e]; exact rown
  obtain ⟨ra, rc, hrv⟩ := own_slice rown
  have hlen := froLN_len z bs (xn : Int) (linksL z).length
  have RO := Lib.hid (((GI.own rown (by omega)).mono (C := w.heap.size) (by simp at l1; omega)))
  rw [hrv] at rc0 RO
  have b1 : Below w.heap.size w w1 := by exact eX
  have s1 : bo < w1.heap.size := cell_lt rc0
  have i0 : (0 : Int) ≤ (xn : Int) := by omega
  have i1 : (xn : Int) < (N : Int) := by omega
  have bA : Below w1.heap.size w1 (w1.alloc (Obj.cells #[.slice la (linksL z).length lc, .slice (some ⟨bo, 0, none⟩) N N, .slice (some ⟨bi, 0, none⟩) N N] 75)) := (Below.refl _ _).alloc (Nat.le_refl _) _
  have RA := Lib.hid (RO.out.keep bA)
  clear hyes hno hb hGL hR rown hrv hlen RO bA hN
  go_wp2
  go_ret2
  exact ⟨_, rfl, by rw [XL.out]; exact RA.out, eX⟩
 ·have XL := Lib.hid (show froL z bs x = [] by simp [froL, hg])
  obtain ⟨cd, hcd⟩ : ∃ cd, cd = ndCode z bs x := ⟨_, rfl⟩
  rw [← hcd] at HB hg ⊢
  have hne : (cd != 0) = true := by simpa using hg
  have hne2 : (cd == 0) = false := by simpa using hg
  have HG0 := Lib.hid hg
  clear hcd hg
  go_enter Tryz.func26, Tryz.ntmps26
  go_wp2_with fail
  (go_at_call 62; refine (HB.out _ (by exact eX)).mono ?_; rintro e w1 ⟨gv, rfl, hyes, hno, hb⟩)
  obtain rfl := hno HG0.out
  clear hyes hno
  go_wp2
  go_ret2
  exact ⟨_, rfl, by rw [XL.out]; exact own_nil _ _, eX⟩
set_option maxHeartbeats 16000000 in
theorem implLinksTo_any (f : Nat → Value) (z : BlkD) (v : Value) (bs : List Int) (x : Int) (w : World) (h : BlkF w w.heap.size f z) (hv : IntS w w.heap.size v bs) (hbl : bs.length ≤ 1048576) :
  Calls Tryz.prog 31 #[.agg #[f 0, f 1, f 2, f 3, f 4], v, .int .i64 x] w (ListR w (toL z bs x) (ndCode z bs x)) := by
 have HB := Lib.hid (fun (w1 : World) (hb : Below w.heap.size w w1) => graphAround_any f z v bs x w1 (h.up hb) (hv.up hb) hbl)
 obtain ⟨p0, q0, p1, q1, p2, q2, p3, q3, p4, q4, e0, e1, e2, e3, e4⟩ := h.five
 obtain ⟨va, vc, rfl⟩ := hv.slice
 rw [e0, e1, e2, e3, e4] at HB
 rw [e0, e1, e2, e3, e4]
 clear e0 e1 e2 e3 e4 h hv
 unfold AroundR at HB
 by_cases hg : ndCode z bs x = 0
 ·have hx := nd_in hg
  have XL := Lib.hid (show toL z bs x = toLN z bs x (linksL z).length by simp [toL, hg])
  have HGC := Lib.hid (grCode_valid (show grCode z bs = 0 by rcases ndCode_cases z bs x with ⟨_, e⟩ | e | e | e <;> first | exact e | omega))
  rw [ndN_is] at hx
  rw [hg] at HB ⊢
  clear hg
  go_enter Tryz.func31, Tryz.ntmps31
  go_wp2_with fail
  (go_at_call 62; refine (HB.out _ (by exact eX)).mono ?_; rintro e w1 ⟨gv, rfl, hyes, hno, hb⟩)
  obtain ⟨lv, bo, bi, base, V, rfl, l1, l2, l3, d1, hGL, hR⟩ := hyes (by trivial)
  have n200 := ndN_le HGC.out
  have hll := linksL_len HGC.out
  rw [ndN_is] at n200
  obtain ⟨la, lc, rfl⟩ := (GL.lks hGL (by omega)).slice
  obtain ⟨N, hN⟩ : ∃ N, N = nodesN z := ⟨_, rfl⟩
  rw [← hN] at hx n200 hR ⊢
  obtain ⟨xn, rfl⟩ := Int.eq_ofNat_of_zero_le hx.1
  have hxN : xn < N := by omega
  obtain ⟨rc0, _, rlt, rown⟩ := hR.2.1 (N + xn) (by omega)
  rw [show gB bo bi N (N + xn) = bi from if_neg (by omega)] at rlt
  rw [show gB bo bi N (N + xn) = bi from if_neg (by omega), show gO N (N + xn) = xn from (if_neg (by omega)).trans (by omega)] at rc0
  have rown : GI w1 base (V (N + xn)) (toLN z bs (xn : Int) (linksL z).length) := by
   have e : gR z bs N (linksL z).length (N + xn) = toLN z bs (xn : Int) (linksL z).length := (if_neg (by omega)).trans (by rw [Nat.add_sub_cancel_left])
   rw [← e]; exact rown
  obtain ⟨ra, rc, hrv⟩ := own_slice rown
  have hlen := toLN_len z bs (xn : Int) (linksL z).length
  have RO := Lib.hid (((GI.own rown (by omega)).mono (C := w.heap.size) (by simp at l1; omega)))
  rw [hrv] at rc0 RO
  have b1 : Below w.heap.size w w1 := by exact eX
  have s1 : bi < w1.heap.size := cell_lt rc0
  have i0 : (0 : Int) ≤ (xn : Int) := by omega
  have i1 : (xn : Int) < (N : Int) := by omega
  have bA : Below w1.heap.size w1 (w1.alloc (Obj.cells #[.slice la (linksL z).length lc, .slice (some ⟨bo, 0, none⟩) N N, .slice (some ⟨bi, 0, none⟩) N N] 75)) := (Below.refl _ _).alloc (Nat.le_refl _) _
  have RA := Lib.hid (RO.out.keep bA)
  clear hyes hno hb hGL hR rown hrv hlen RO bA hN
  go_wp2
  go_ret2
  exact ⟨_, rfl, by rw [XL.out]; exact RA.out, eX⟩
 ·have XL := Lib.hid (show toL z bs x = [] by simp [toL, hg])
  obtain ⟨cd, hcd⟩ : ∃ cd, cd = ndCode z bs x := ⟨_, rfl⟩
  rw [← hcd] at HB hg ⊢
  have hne : (cd != 0) = true := by simpa using hg
  have hne2 : (cd == 0) = false := by simpa using hg
  have HG0 := Lib.hid hg
  clear hcd hg
  go_enter Tryz.func31, Tryz.ntmps31
  go_wp2_with fail
  (go_at_call 62; refine (HB.out _ (by exact eX)).mono ?_; rintro e w1 ⟨gv, rfl, hyes, hno, hb⟩)
  obtain rfl := hno HG0.out
  clear hyes hno
  go_wp2
  go_ret2
  exact ⟨_, rfl, by rw [XL.out]; exact own_nil _ _, eX⟩
end Go.Proofs.YtmlbpfbdhhkfkaaGreat
