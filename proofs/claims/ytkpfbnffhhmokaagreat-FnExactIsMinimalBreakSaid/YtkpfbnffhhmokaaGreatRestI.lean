/-
Whether the graph of a block without its broken links has a loop: hasLoop of the program, l10Has of the model.
-/
import Derived.Test.YtkpfbnffhhmokaaGreatOrdI
import Derived.Test.YtkpfbnffhhmokaaGreatGraph
import Derived.Test.YtkpfbnffhhmokaaGreatGrow
import Derived.Test.YtkpfbnffhhmokaaGreatLink
import Derived.Lib.AppendZerosOnto
import Derived.Laws.NewBlocks
import Derived.Laws.AppendOwnNone
namespace Go.Proofs.YtkpfbnffhhmokaaGreat
open Go.ChangeShapes Go.WideShapes Go.ChangeAt Go.RowKit Go.Deep
set_option linter.unusedVariables false
set_option linter.unusedSimpArgs false
set_option maxRecDepth 100000
def loopB (z : BlkD) (bs : List Int) : Bool := !(topoR z bs).isSome
set_option maxHeartbeats 8000000 in
theorem hasLoopI_any (z : BlkD) (bs : List Int) (gv : Value) (w : World) (L : Nat) (hg : GraphV w L z bs gv) (hb : blkB z = true) : Calls Tryz.prog 54 #[gv] w fun e w' => e = .returned (.bool (loopB z bs)) ∧ Below w.heap.size w w' := by
 have HO := lh (fun (gv : Value) (w1 : World) (L : Nat) (h : GraphV w1 L z bs gv) => orderI_any z bs gv w1 L h hb)
 unfold OrdIR at HO
 have hll := linksL_len hb
 obtain ⟨lv, bo, bi, base, V, rfl, l1, l2, l3, d1, hGL, hR⟩ := id hg
 obtain ⟨la, lc, rfl⟩ := (GL.lks hGL (by omega)).slice
 have bA : Below w.heap.size w (w.alloc (Obj.cells #[.slice la (linksL z).length lc, .slice (some ⟨bo, 0, none⟩) (nodesN z) (nodesN z), .slice (some ⟨bi, 0, none⟩) (nodesN z) (nodesN z)] 68)) := (Below.refl _ _).alloc (Nat.le_refl _) _
 have GA := lh (hg.below bA)
 have XT := lh (show loopB z bs = !(topoR z bs).isSome from rfl)
 clear hGL hR bA l1 l2 l3 hg
 go_enter Tryz.func54, Tryz.ntmps54
 go_wp2_with fail
 (go_at_call 52; refine (HO.out _ _ _ GA.out).mono ?_; rintro e w2 ⟨vo, rfl, hyes, hb⟩)
 go_wp2
 go_ret
 exact ⟨by rw [XT.out]; cases topoR z bs <;> rfl, by exact eX⟩
set_option maxHeartbeats 16000000 in
theorem specHas_any (f : Nat → Value) (z : BlkD) (v : Value) (bs : List Int) (w : World) (h : BlkF w w.heap.size f z) (hv : IntS w w.heap.size v bs) (hb : blkB z = true) :
  Calls Tryz.prog 53 #[.agg #[f 0, f 1, f 2, f 3, f 4], v] w fun e w' => e = .returned (.bool (loopB z bs)) ∧ Below w.heap.size w w' := by
 have HC := lh (fun (w1 : World) (hb' : Below w.heap.size w w1) => specLinks_any f z w1 (h.up hb') hb)
 have HCT := lh (fun (w1 : World) (hb' : Below w.heap.size w w1) => specCount_any f z w1 (h.up hb') hb)
 obtain ⟨a, c, rfl⟩ := hv.slice
 have HV := lh (fun (w1 : World) (hb' : Below w.heap.size w w1) => hv.up hb')
 obtain ⟨p0, q0, p1, q1, p2, q2, p3, q3, p4, q4, e0, e1, e2, e3, e4⟩ := h.five
 rw [e0, e1, e2, e3, e4] at HC HCT
 rw [e0, e1, e2, e3, e4]
 clear e0 e1 e2 e3 e4 h hv
 have HLL := lh (linksL_len hb)
 obtain ⟨n0, n2⟩ := ndN_le hb
 obtain ⟨N, hN⟩ := Int.eq_ofNat_of_zero_le n0
 have HE := lh (fun k (hk : k < (linksL z).length) => (show 0 ≤ (lkn (linksL z) k).src ∧ (lkn (linksL z) k).src < (N : Int) ∧ 0 ≤ (lkn (linksL z) k).dst ∧ (lkn (linksL z) k).dst < (N : Int) from by have := links_at hb hk; rw [hN] at this; exact this))
 obtain ⟨R, hR⟩ : ∃ R, R = ordN (linksL z) (fun k => !hasI bs (k : Int)) N N := ⟨_, rfl⟩
 have XR := lh (show loopB z bs = !R.isSome by simp [loopB, topoR, hN, hR])
 have XV := lh (show ordN (linksL z) (fun k => bvl (liveN bs (linksL z).length) k) N N = R from by rw [hR]; exact ordN_like (fun k hk => liveN_at bs hk) N N)
 rw [hN] at HCT n2
 have HN2 := lh (show N ≤ 200 by omega)
 rw [XR.out]
 clear hb hN n0 n2 hR XR
 unfold LinksR at HC
 go_enter Tryz.func53, Tryz.ntmps53
 go_wp2_with fail
 (go_at_call 47; refine (HC.out _ eX).mono ?_; rintro e w2 ⟨vl, rfl, hG, hb⟩; have ⟨hc, hf⟩ := bcell hb; have hz := hb.size; (try simp at hz); (try have hz := Nat.lt_of_succ_le hz); (try have y0 := wy w w2); (try have z0 := wz0 w w2); (try have z1 := wz1 w w2); (try have z2 := wz2 w w2); (try have z3 := wz3 w w2); (try have z4 := wz4 w w2))
 have HLk := GL.lks hG (by have := HLL.out; omega)
 obtain ⟨va, vc, rfl⟩ := HLk.slice
 have HLk := lh HLk
 have B2 : Below w.heap.size w w2 := by exact eX
 clear hG
 go_wp2_with fail
 (go_at_call 49; refine (HCT.out _ B2).mono ?_; rintro e w3 ⟨rfl, hb⟩; have ⟨hc, hf⟩ := bcell hb; have hz := hb.size; (try simp at hz); (try have hz := Nat.lt_of_succ_le hz); (try have y0 := wy w w3); (try have z0 := wz0 w w3); (try have z1 := wz1 w w3); (try have z2 := wz2 w w3); (try have z3 := wz3 w w3); (try have z4 := wz4 w w3))
 have B23 : Below w2.heap.size w2 w3 := by exact eX
 have B3 : Below w.heap.size w w3 := by exact eX
 go_wp2_with fail
 (go_at_call 50; refine (live_any va (linksL z).length vc _ bs _ (HV.out w3 B3) HLL.out).mono ?_; rintro e w4 ⟨vv, rfl, hV, hvb, hb⟩; have ⟨hc, hf⟩ := bcell hb; have hz := hb.size; (try simp at hz); (try have hz := Nat.lt_of_succ_le hz); (try have y0 := wy w w4); (try have z0 := wz0 w w4); (try have z1 := wz1 w w4); (try have z2 := wz2 w w4); (try have z3 := wz3 w w4); (try have z4 := wz4 w w4))
 have B4 : Below w.heap.size w w4 := by exact eX
 have HL4 := lh (HLk.out.up (show Below w2.heap.size w2 w4 from B23.trans ((show Below w3.heap.size w3 w4 by exact eX).mono B23.size)))
 have HV4 := lh hV
 clear hV hvb
 go_wp2_with fail
 (go_at_call 48; refine (order_any N _ _ (linksL z) (liveN bs (linksL z).length) _ HL4.out HV4.out (liveN_len _ _) HLL.out (by have := HN2.out; omega) HE.out).mono ?_; rintro e w5 ⟨vo, rfl, hO, hb⟩; have ⟨hc, hf⟩ := bcell hb; have hz := hb.size; (try simp at hz); (try have hz := Nat.lt_of_succ_le hz); (try have y0 := wy w w5); (try have z0 := wz0 w w5); (try have z1 := wz1 w w5); (try have z2 := wz2 w w5); (try have z3 := wz3 w w5); (try have z4 := wz4 w w5))
 have B5 : Below w.heap.size w w5 := by exact eX
 rw [XV.out] at hO ⊢
 clear hO
 go_wp2
 go_ret
 exact ⟨by cases R <;> rfl, by exact eX⟩
end Go.Proofs.YtkpfbnffhhmokaaGreat
namespace Go.Proofs.YtkpfbnffhhmokaaGreat
open Go.ChangeShapes Go.WideShapes Go.ChangeAt Go.RowKit Go.Deep Go.Lib
set_option linter.unusedVariables false
set_option linter.unusedSimpArgs false
set_option maxRecDepth 100000
theorem IntS.cellsOf {w : World} {B : Nat} {ad : Addr} {n c : Nat} {ys : List Int} (h : IntS w B (.slice (some ad) n c) ys) : n = ys.length ∧ ∀ j u, (ys.map (Value.int .i64))[j]? = some u → w.cell? (ad.add j) = some u := by
 obtain ⟨_, a, cap, e, hx⟩ := h
 injection e with e1 e2 e3
 refine ⟨e2, fun j u hj => ?_⟩
 have hjl : j < ys.length := by have := (List.getElem?_eq_some_iff.1 hj).1; simpa using this
 obtain ⟨b, off, e4, _, hc⟩ := hx (by omega)
 rw [e4] at e1
 cases e1
 rw [Addr.add_lit, hc j hjl]
 rw [← hj]
 simp [iv, List.getD, hjl]
theorem Tryz.infoCat : (Tryz.prog.info? 2).map (fun i => (i.zero, i.size, i.bytes)) = some (some (.int .i64 0), 1, 8) := by kernel_rfl
theorem wpList_append_ints {w : World} {ops : Array Oper} {rest : List Oper} {o : Oper} {a : Act} {Q : Exit → Act → World → Prop} (hgd : o.guard = none) (s x : Operand)
  (ho : o.op = .call { callee := .builtin .append, args := #[s, x], argTypes := #[33, 33] }) (base : Nat) (v : Value) (xs : List Int) (hs : a.eval s = v) (hown : GI w base v xs) (ys : List Int) (ua : Option Addr) (uc B : Nat) (hx : a.eval x = .slice ua ys.length uc) (hn : ua = none → uc = 0) (hu : IntS w B (.slice ua ys.length uc) ys)
  (hl : xs.length + ys.length ≤ 4000000) (hbase : base ≤ w.heap.size)
  (h : ∀ v' w', GI w' base v' (xs ++ ys) → w.grownBy w' v.ownBlock → (v'.ownBlock = v.ownBlock ∨ v'.ownBlock = some w.heap.size) → wpList Tryz.prog ops Q rest (a.put o.dst v') w') : wpList Tryz.prog ops Q (o :: rest) a w := by
 obtain ⟨ti, hi, hz0, hz1, hz2⟩ := info_parts Tryz.infoCat
 cases ua with
 | none =>
  obtain rfl := hn rfl
  have h0 : ys = [] := by
   obtain ⟨_, a', cap, e, hx⟩ := hu
   rcases Nat.eq_zero_or_pos ys.length with q | q
   ·exact List.length_eq_zero_iff.1 q
   ·obtain ⟨b, off, e4, _⟩ := hx q
    injection e with e1 _ _
    rw [e4] at e1
    cases e1
  subst h0
  refine wpList_plain hgd fun K hK => ?_
  have hrun := run_append_owned_none (P := Tryz.prog) (w := w) base 33 o.type 2 ti 1 Tryz.underlying33 hi v _ _ hown
  unfold Oper.wp execOp
  simp [ho, resolve, invoke, builtin, hs, hx, hrun, Result.andThen]
  exact hK _ _ (h v w (by rw [List.append_nil]; exact hown) (World.grownBy.refl _ _) (.inl rfl))
 | some ad =>
  obtain ⟨_, hc⟩ := hu.cellsOf
  refine wpList_append_at hgd s x 33 ho base 2 ti (.int .i64 0) 1 8 Tryz.underlying33 hi hz0 hz1 hz2 rfl (by decide) v xs.length _ hs hown ad ys.length uc (ys.map (Value.int .i64)) hx (by simp) hc (fun u hu => by obtain ⟨y, _, rfl⟩ := List.mem_map.1 hu; rfl) (by unfold maxLen; omega) (by omega) hbase ?_
  intro v' w' h1 h2 h3
  refine h v' w' ?_ h2 h3
  unfold GI
  rw [List.map_append, List.length_append]
  exact h1
set_option maxHeartbeats 8000000 in
theorem growNil_any (n : Nat) (w : World) (hn : n ≤ 4000000) :
  Calls Tryz.prog 125 #[.slice none 0 0, .int .i64 n] w fun e w' => ∃ v, e = .returned v ∧ GI w' w.heap.size v [] ∧ Below w.heap.size w w' := by
 obtain ⟨ti, hi, hz0, hz1, hz2⟩ := info_parts Tryz.infoCat
 by_cases h0 : n = 0
 ·subst h0
  go_enter Tryz.func125, Tryz.ntmps125
  go_wp2
  go_ret
  exact ⟨_, rfl, GI.nil _ _, Below.refl _ _⟩
 ·have hn0 : (0 : Int) < (n : Int) := by omega
  have hn1 : ¬ (n : Int) < 0 := by omega
  have hrz : ∀ ty, (Builtin.append_ #[33, 3] ty #[.slice none 0 0, .int .i64 (n : Int)]).run Tryz.prog w =
    .ok (.slice (some ⟨w.heap.size, 0, none⟩) n (grownCap w n 0 2)) (w.drew.alloc (.cells (#[] ++ Builtin.zeroCells (Value.int .i64 0).cells n ++ Builtin.zeroCells (Value.int .i64 0).cells (grownCap w n 0 2 - n)) 2)) := fun ty => by
   have h := Lib.run_append_grow_zeros w 33 3 ty 2 ti _ .i64 .i64 Tryz.underlying33 Tryz.underlying3 hi hz0 none 0 0 [] (by rw [hz1]; exact run_firstCells_none w.drew 1 0 0 0) n (by omega) (by omega) (by omega) (by omega) (by rw [hz2]; omega) (by rw [hz2, Nat.zero_add]; exact growslice_fits (by omega) (by omega))
   rw [Nat.zero_add] at h
   exact h
  have hG := grownCap_ge w n 0 2
  have hG2 := grownCap_le_maxLen w n 0 2 (by unfold maxLen; omega)
  obtain ⟨G, hGe⟩ : ∃ G, G = grownCap w n 0 2 := ⟨_, rfl⟩
  rw [← hGe] at hrz hG hG2
  obtain ⟨ROW, hROW⟩ : ∃ ROW : Array Value, ROW = #[] ++ Builtin.zeroCells (Value.int .i64 0).cells n ++ Builtin.zeroCells (Value.int .i64 0).cells (G - n) := ⟨_, rfl⟩
  rw [← hROW] at hrz
  have hRs : ROW.size = G * 1 := by rw [hROW]; simp [Builtin.zeroCells, Value.cells]; omega
  have HO := lh (World.ownsRow_made (e := 2) (base := w.heap.size) (size := 1) w.drew ROW G (Nat.le_refl _) hG2 hRs)
  clear hROW hGe hRs
  go_enter Tryz.func125, Tryz.ntmps125
  go_wp2_with (at_builtin; refine Lib.wpList_append_run _ rfl _ _ _ _ rfl _ _ rfl rfl _ _ (hrz _) ?_)
  go_ret
  exact ⟨_, rfl, HO.out, by exact eX⟩
set_option maxHeartbeats 8000000 in
theorem concat2_any (a1 a2 : Option Addr) (c1 c2 gb : Nat) (xs ys : List Int) (w : World) (h1 : IntS w w.heap.size (.slice a1 xs.length c1) xs) (h2 : IntS w w.heap.size (.slice a2 ys.length c2) ys) (hn1 : a1 = none → c1 = 0) (hn2 : a2 = none → c2 = 0) (hx : xs.length ≤ 1048576) (hy : ys.length ≤ 1048576)
  (k0 : w.cell? ⟨gb, 0, none⟩ = some (.slice a1 xs.length c1)) (k1 : w.cell? ⟨gb, 1, none⟩ = some (.slice a2 ys.length c2)) :
  Calls Tryz.prog 97 #[.slice (some ⟨gb, 0, none⟩) 2 2] w fun e w' => ∃ v, e = .returned v ∧ GI w' w.heap.size v (xs ++ ys) ∧ Below w.heap.size w w' := by
 have H1 := lh h1
 have H2 := lh h2
 have HG := lh (growNil_any (xs.length + ys.length) w (by omega))
 have hs : ¬ (xs.length : Int) + (ys.length : Int) < 0 := by omega
 have hs1 : ¬ (xs.length : Int) < 0 := by omega
 clear h1 h2
 go_enter Tryz.func97, Tryz.ntmps97
 go_wp2
 refine wp_loop_rounds 3 ?_
 rw [rounds_succ]
 go_wp2
 rw [rounds_succ]
 go_wp2
 rw [rounds_succ]
 go_wp2_with fail
 (go_at_call 125; refine HG.out.mono ?_; rintro e w1 ⟨v1, rfl, hg1, hb1⟩)
 have G1 := lh hg1
 have B1 := hb1
 have k0' := cell_keep k0 hb1
 have k1' := cell_keep k1 hb1
 have s1 := hb1.size
 have J1 := lh (IntS.keep (C := w.heap.size) H1.out hb1 (Nat.le_refl _))
 have lgb : gb < w.heap.size := cell_lt k0
 clear hg1 hb1 k0 k1
 go_wp2_with fail
 refine wp_loop_rounds 3 ?_
 rw [rounds_succ]
 go_upto_region 14 with (at_builtin; refine wpList_append_ints rfl _ _ rfl w.heap.size v1 [] rfl G1.out xs a1 c1 w.heap.size rfl hn1 J1.out (by simp; omega) s1 ?_; intro v2 w2 hg2 hgr2 hat2)
 have B2 : Below w.heap.size w w2 := B1.grown hgr2 s1 (fun k hk => G1.out.blk k hk)
 have k1'' := hgr2.cell k1' (fun e => by have := G1.out.blk gb e.symm; omega)
 have s2 := B2.size
 have G2 := lh hg2
 have J2 := lh (IntS.keep (C := w.heap.size) H2.out B2 (Nat.le_refl _))
 clear hg2 hgr2 hat2 k0' k1' G1
 go_wp2_with fail
 rw [rounds_succ]
 go_upto_region 14 with (at_builtin; refine wpList_append_ints rfl _ _ rfl w.heap.size v2 _ rfl G2.out ys a2 c2 w.heap.size rfl hn2 J2.out (by simp; omega) s2 ?_; intro v3 w3 hg3 hgr3 hat3)
 have B3 : Below w.heap.size w w3 := B2.grown hgr3 s2 (fun k hk => G2.out.blk k hk)
 have G3 := lh hg3
 clear hg3 hgr3 hat3 k1'' G2
 go_wp2_with fail
 rw [rounds_succ]
 go_wp2
 go_ret
 exact ⟨_, rfl, by simpa using G3.out, B3⟩
end Go.Proofs.YtkpfbnffhhmokaaGreat
namespace Go.Proofs.YtkpfbnffhhmokaaGreat
open Go.ChangeShapes Go.WideShapes Go.ChangeAt Go.RowKit Go.Deep
set_option linter.unusedVariables false
set_option linter.unusedSimpArgs false
set_option maxRecDepth 100000
/-- What remains behind the kept ones of the links that are still to be considered. -/
def resF (z : BlkD) : List Int → List Int → List Int
 | kept, [] => kept
 | kept, y :: ys => if loopB z (kept ++ ys) then resF z (kept ++ [y]) ys else resF z kept ys
theorem resF_len (z : BlkD) : ∀ (ys kept : List Int), (resF z kept ys).length ≤ kept.length + ys.length
 | [], kept => by simp [resF]
 | y :: ys, kept => by
  unfold resF
  split
  ·have := resF_len z ys (kept ++ [y]); simp at this ⊢; omega
  ·have := resF_len z ys kept; simp; omega
def woI (bs : List Int) (i : Nat) : List Int := bs.take i ++ bs.drop (i + 1)
theorem resF_full (z : BlkD) : ∀ (ys kept : List Int), (resF z kept ys).length = kept.length + ys.length ↔ ∀ i, i < ys.length → loopB z (kept ++ woI ys i) = true
 | [], kept => by simp [resF]
 | y :: ys, kept => by
  unfold resF
  by_cases h : loopB z (kept ++ ys) = true
  ·rw [if_pos h]
   have ih := resF_full z ys (kept ++ [y])
   have e : (kept ++ [y]).length + ys.length = kept.length + (y :: ys).length := by simp; omega
   rw [e] at ih
   rw [ih]
   constructor
   ·intro hh i hi
    cases i with
    | zero => simpa [woI] using h
    | succ i =>
     have := hh i (by simpa using hi)
     simpa [woI] using this
   ·intro hh i hi
    have := hh (i + 1) (by simpa using hi)
    simpa [woI] using this
  ·rw [if_neg h]
   constructor
   ·intro hh
    have := resF_len z ys kept
    simp at hh
    omega
   ·intro hh
    have := hh 0 (by simp)
    simp [woI] at this
    exact absurd this h
theorem inc_sub {xs ys : List Int} (h : ys.Pairwise (· < ·)) (hs : xs.Sublist ys) : IncI xs := asc_inc (h.sublist hs)
theorem inc_asc {xs : List Int} (h : IncI xs) : xs.Pairwise (· < ·) := by
 rw [List.pairwise_iff_getElem]
 intro i j hi hj hij
 have := h i j hij hj
 simpa [iv, List.getD, hi, hj] using this
theorem GraphV.aside {w : World} {L : Nat} {z : BlkD} {bs : List Int} {lv : Value} {bo bi base : Nat} {V : Nat → Value} (hG : GL w L lv (linksL z)) (hR : RowsIn w base (2 * nodesN z) (gB bo bi (nodesN z)) (gO (nodesN z)) V (gR z bs (nodesN z) (linksL z).length)) {p : Addr} (h0 : p.block < base) (h1 : p.block ≠ bo) (h2 : p.block ≠ bi) (h3 : lv.ownBlock ≠ some p.block) (u : Value) :
  GL (w.setCell p u) L lv (linksL z) ∧ RowsIn (w.setCell p u) base (2 * nodesN z) (gB bo bi (nodesN z)) (gO (nodesN z)) V (gR z bs (nodesN z) (linksL z).length) :=
 ⟨GR.kept hG (grown_set w p u) (fun k hk e => h3 (by rw [hk]; exact e.symm)), hR.set h0 (fun k _ => by unfold gB; split; exact fun e => h1 e.symm; exact fun e => h2 e.symm) u⟩
set_option maxHeartbeats 16000000 in
theorem without_any (z : BlkD) (b0 bs : List Int) (gv v : Value) (w : World) (L : Nat) (hg : GraphV w L z b0 gv) (hL : L ≤ w.heap.size) (hb : blkB z = true) (hv : IntS w w.heap.size v bs) (hbl : bs.length ≤ 1048576) (hinc : IncI bs) :
  Calls Tryz.prog 96 #[gv, v] w fun e w' => ∃ g', e = .returned g' ∧ GraphV w' L z bs g' ∧ Below w.heap.size w w' := by
 obtain ⟨lv, bo, bi, base, V, rfl, l0, l1, l2, d1, hGL, hR⟩ := hg
 have hll := linksL_len hb
 obtain ⟨la, lc, rfl⟩ := (GL.lks hGL (by omega)).slice
 obtain ⟨va, vc, rfl⟩ := hv.slice
 have n200 := ndN_le hb
 rw [ndN_is] at n200
 have hE := fun k (hk : k < (linksL z).length) => links_at hb hk
 have HN := lh (fun (w1 : World) (hb1 : Below w.heap.size w w1) => newGraph_any la lc z (.slice va bs.length vc) bs w1 (GL.lks (GR.kept hGL (grown_none hb1 none) (fun k hk e => by cases e)) (by omega)) hE hll (by omega) (hv.up hb1) hbl hinc)
 have HGL := lh hGL
 have HLB := lh (fun g (hg : (Value.slice la (linksL z).length lc).ownBlock = some g) => (hGL.blk g hg).2)
 unfold NwgR at HN
 clear hR hE l0 l1 l2 d1 hv
 obtain ⟨U, hU⟩ : ∃ U, U = (w.alloc (Obj.cells #[.slice la (linksL z).length lc, .slice (some ⟨bo, 0, none⟩) (nodesN z) (nodesN z), .slice (some ⟨bi, 0, none⟩) (nodesN z) (nodesN z)] 68)).alloc (Obj.cells #[.slice none 0 0, .slice none 0 0, .slice none 0 0] 68) := ⟨_, rfl⟩
 have g0 : U.cell? ⟨w.heap.size, 0, none⟩ = some (.slice la (linksL z).length lc) := by rw [hU]; simp [go_sem]
 have g1 : U.cell? ⟨w.heap.size, 1, none⟩ = some (.slice (some ⟨bo, 0, none⟩) (nodesN z) (nodesN z)) := by rw [hU]; simp [go_sem]
 have v0 : U.cell? ⟨w.heap.size + 1, 0, none⟩ = some (.slice none 0 0) := by rw [hU]; simp [go_sem]
 have v1 : U.cell? ⟨w.heap.size + 1, 1, none⟩ = some (.slice none 0 0) := by rw [hU]; simp [go_sem]
 have v2 : U.cell? ⟨w.heap.size + 1, 2, none⟩ = some (.slice none 0 0) := by rw [hU]; simp [go_sem]
 have f0 : U.frozen? ⟨w.heap.size + 1, 0, none⟩ = false := by rw [hU]; simp [go_sem]
 have f1 : U.frozen? ⟨w.heap.size + 1, 1, none⟩ = false := by rw [hU]; simp [go_sem]
 have f2 : U.frozen? ⟨w.heap.size + 1, 2, none⟩ = false := by rw [hU]; simp [go_sem]
 have bU : Below w.heap.size w U := by rw [hU]; exact ((Below.refl _ _).alloc (Nat.le_refl _) _).alloc (by simp) _
 have sU : w.heap.size + 1 < U.heap.size := cell_lt v0
 have HU := lh hU
 clear hU
 go_enter Tryz.func96, Tryz.ntmps96
 go_wp2_with fail
 rw [← HU.out]
 go_wp2_with fail
 (go_at_call 94; refine (HN.out _ bU).mono ?_; rintro e w1 ⟨bo2, bi2, base2, V2, rfl, m0, m1, m2, d2, hR2, hb1⟩)
 have b1 := bU.trans (hb1.mono bU.size)
 have t0 := cell_keep v0 hb1; have t1 := cell_keep v1 hb1; have t2 := cell_keep v2 hb1
 have u0 : w1.frozen? ⟨w.heap.size + 1, 0, none⟩ = false := by rw [hb1.frozen (p := ⟨w.heap.size + 1, 0, none⟩) sU]; exact f0
 have u1 : w1.frozen? ⟨w.heap.size + 1, 1, none⟩ = false := by rw [hb1.frozen (p := ⟨w.heap.size + 1, 1, none⟩) sU]; exact f1
 have u2 : w1.frozen? ⟨w.heap.size + 1, 2, none⟩ = false := by rw [hb1.frozen (p := ⟨w.heap.size + 1, 2, none⟩) sU]; exact f2
 have s1 : w.heap.size + 1 < w1.heap.size := cell_lt t0
 have GL1 : GL w1 L (.slice la (linksL z).length lc) (linksL z) := GR.kept HGL.out (grown_none b1 none) (fun k hk e => by cases e)
 have HAS := lh (fun (W : World) (p : Addr) (hp : p.block = w.heap.size + 1) (u : Value) (h1 : GL W L (.slice la (linksL z).length lc) (linksL z)) (h2 : RowsIn W base2 (2 * nodesN z) (gB bo2 bi2 (nodesN z)) (gO (nodesN z)) V2 (gR z bs (nodesN z) (linksL z).length)) => GraphV.aside h1 h2 (p := p) (by omega) (by omega) (by omega) (fun e => by have := HLB.out _ e; omega) u)
 have GG := lh (And.intro GL1 hR2)
 have D2 := lh d2
 have M0 := lh (show L ≤ base2 ∧ L ≤ bo2 ∧ L ≤ bi2 from ⟨by omega, by omega, by omega⟩)
 clear GL1 hR2 hb1 g0 g1 v0 v1 v2 f0 f1 f2 d2 HGL HN
 go_wp2
 have K1 := HAS.out w1 ⟨w.heap.size + 1, 0, none⟩ rfl (.slice la (linksL z).length lc) GG.out.1 GG.out.2
 have K2 := HAS.out _ ⟨w.heap.size + 1, 1, none⟩ rfl (.slice (some ⟨bo2, 0, none⟩) (nodesN z) (nodesN z)) K1.1 K1.2
 have K3 := HAS.out _ ⟨w.heap.size + 1, 2, none⟩ rfl (.slice (some ⟨bi2, 0, none⟩) (nodesN z) (nodesN z)) K2.1 K2.2
 exact bodyPost_ret (v := .agg #[.slice la (linksL z).length lc, .slice (some ⟨bo2, 0, none⟩) (nodesN z) (nodesN z), .slice (some ⟨bi2, 0, none⟩) (nodesN z) (nodesN z)]) (by simp [results, Tryz.results96, go_sem, *]) rfl ⟨_, rfl, ⟨_, bo2, bi2, base2, V2, rfl, M0.out.1, M0.out.2.1, M0.out.2.2, D2.out, K3.1, K3.2⟩, by exact eX⟩
set_option maxHeartbeats 16000000 in
theorem remaining_any (z : BlkD) (b0 bs : List Int) (gv : Value) (vb : Nat) (w : World) (L : Nat) (hg : GraphV w L z b0 gv) (hL : L ≤ w.heap.size) (hb : blkB z = true) (hv : IntS w w.heap.size (.slice (some ⟨vb, 0, none⟩) bs.length bs.length) bs) (hbl : bs.length ≤ 1048576) (hinc : IncI bs) :
  Calls Tryz.prog 56 #[gv, .slice (some ⟨vb, 0, none⟩) bs.length bs.length] w fun e w' => ∃ v, e = .returned v ∧ OwnS w' w.heap.size v (resF z [] bs) ∧ Below w.heap.size w w' := by
 obtain ⟨tj, hi, hz0, hz1, hz2⟩ := info_parts Tryz.infoI64
 have HG := lh (fun (w1 : World) (hb1 : Below w.heap.size w w1) => hg.below hb1)
 have HASC := lh (inc_asc hinc)
 have HW := lh (fun (l : List Int) (v : Value) (w1 : World) (hb1 : Below w.heap.size w w1) (h : IntS w1 w1.heap.size v l) (hl : l.length ≤ 1048576) (hi : IncI l) => without_any z b0 l gv v w1 L (hg.below hb1) (Nat.le_trans hL hb1.size) hb h hl hi)
 have HLP := lh (fun (l : List Int) (g : Value) (w1 : World) (h : GraphV w1 L z l g) => hasLoopI_any z l g w1 L h hb)
 have HV := lh hv
 have hll := linksL_len hb
 obtain ⟨lv, bo, bi, base, V, rfl, l0, l1, l2, d1, hGL, hR⟩ := hg
 obtain ⟨la, lc, rfl⟩ := (GL.lks hGL (by omega)).slice
 obtain ⟨n, hn⟩ : ∃ n, n = bs.length := ⟨_, rfl⟩
 rw [← hn] at hbl HV ⊢
 have HN := lh hn
 obtain ⟨U, hU⟩ : ∃ U, U = w.alloc (Obj.cells #[.slice la (linksL z).length lc, .slice (some ⟨bo, 0, none⟩) (nodesN z) (nodesN z), .slice (some ⟨bi, 0, none⟩) (nodesN z) (nodesN z)] 68) := ⟨_, rfl⟩
 have x0 : U.cell? ⟨w.heap.size, 0, none⟩ = some (.slice la (linksL z).length lc) := by rw [hU]; simp [go_sem]
 have x1 : U.cell? ⟨w.heap.size, 1, none⟩ = some (.slice (some ⟨bo, 0, none⟩) (nodesN z) (nodesN z)) := by rw [hU]; simp [go_sem]
 have x2 : U.cell? ⟨w.heap.size, 2, none⟩ = some (.slice (some ⟨bi, 0, none⟩) (nodesN z) (nodesN z)) := by rw [hU]; simp [go_sem]
 have bU : Below w.heap.size w U := by rw [hU]; exact (Below.refl _ _).alloc (Nat.le_refl _) _
 have sU : w.heap.size < U.heap.size := cell_lt x0
 have HU := lh hU
 clear hU hn hv hinc hGL hR l0 l1 l2 d1
 go_enter Tryz.func56, Tryz.ntmps56
 go_wp2_with fail
 rw [← HU.out]
 go_wp2_with fail
 go_loopw [5, 10] (fun r i wr => ∃ (k : Nat) (kept : List Int) (v : Value), v = r ∧ k ≤ n ∧ i = .int .i64 k ∧ Hid (resF z kept (bs.drop k) = resF z [] bs ∧ (kept ++ bs.drop k).Sublist bs) ∧ Hid (GI wr U.heap.size v kept) ∧ Below U.heap.size U wr) (fun _ i _ => n - (intOf i).toNat)
 case atStart => exact ⟨0, [], _, rfl, by omega, rfl, lh ⟨rfl, List.Sublist.refl _⟩, lh (GI.nil _ _), Below.refl _ _⟩
 case round =>
  obtain ⟨k, kept, v, hv, hk, rfl, hI, hG, hbU⟩ := hrel
  have hbw : Below w.heap.size w wr := bU.trans (hbU.mono bU.size)
  have zU := hbU.size
  by_cases hkn : k < n
  ·have hkb : k < bs.length := by rw [← HN.out]; exact hkn
   have hcell : wr.cell? ⟨vb, k, none⟩ = some (.int .i64 (iv bs k)) := by
    obtain ⟨_, a, cap, e, hx⟩ := HV.out
    injection e with e1 _ _
    obtain ⟨b, off, e4, hlt, hc⟩ := hx (by omega)
    rw [e4] at e1
    cases e1
    have := hc k hkb
    rw [Nat.zero_add] at this
    exact cell_keep this hbw
   have hdr : bs.drop k = iv bs k :: bs.drop (k + 1) := by
    rw [List.drop_eq_getElem_cons hkb]
    simp [iv, List.getD, hkb]
   obtain ⟨y, hy⟩ : ∃ y, y = iv bs k := ⟨_, rfl⟩
   rw [← hy] at hcell hdr
   clear hy
   have hkl : kept.length + (n - k) ≤ n := by
    have := hI.out.2.length_le
    simp at this
    have := HN.out
    omega
   obtain ⟨m, hm⟩ : ∃ m, m = kept.length := ⟨_, rfl⟩
   have hsl : ∃ a c, v = .slice a m c ∧ (a = none → c = 0) := by
    rcases hG.out.2 with ⟨e, h0⟩ | ⟨g, cap, cur, e, _⟩
    ·exact ⟨none, 0, by rw [e, hm, h0], fun _ => rfl⟩
    ·exact ⟨_, cap, by rw [e, hm], fun e => by cases e⟩
   obtain ⟨av, cv, rfl, hac⟩ := hsl
   subst hv
   have HM9 := lh hm
   have hmn : m + (n - k) ≤ n := by rw [hm]; exact hkl
   clear hm
   have hkw : IntKind.i64.wrap ((k : Int) + 1) = (k : Int) + 1 := IntWalk.i64_in _ (by omega)
   have ki0 : (0 : Int) ≤ (k : Int) := by omega
   have ki1 : (k : Int) < (n : Int) := by omega
   obtain ⟨OFF, hO1, hO2⟩ : ∃ OFF : Nat, (n = k + 1 → OFF = 0) ∧ (n ≠ k + 1 → OFF = k + 1) := by
    by_cases h : n = k + 1
    ·exact ⟨0, fun _ => rfl, fun q => absurd h q⟩
    ·exact ⟨k + 1, fun q => absurd q h, fun _ => rfl⟩
   have y0 := cell_keep x0 hbU; have y1 := cell_keep x1 hbU; have y2 := cell_keep x2 hbU
   go_upto_region 5 with fail
   refine wp_region_held_drew (S := (fun w' => w'.cell? ⟨w.heap.size, 0, none⟩ = some (.slice la (linksL z).length lc) ∧ w'.cell? ⟨w.heap.size, 1, none⟩ = some (.slice (some ⟨bo, 0, none⟩) (nodesN z) (nodesN z)) ∧ w'.cell? ⟨w.heap.size, 2, none⟩ = some (.slice (some ⟨bi, 0, none⟩) (nodesN z) (nodesN z)) ∧ Below wr.heap.size wr w')) (by kernel_rfl) ?_ (fun hHeld => ?_)
   ·(try dsimp only); exact ⟨y0, y1, y2, eX⟩
   (try dsimp only at hHeld)
   refine takeH 0 (v := ?_) rfl ?_ ?_; rotate_left; focus (intro w' hSw; (try dsimp only at hSw); go_simp; try (with_reducible rfl))
   (try simp only [actP])
   refine takeH 1 (v := ?_) rfl ?_ ?_; rotate_left; focus (intro w' hSw; (try dsimp only at hSw); go_simp; try (with_reducible rfl))
   (try simp only [actP])
   refine takeH 2 (v := ?_) rfl ?_ ?_; rotate_left; focus (intro w' hSw; (try dsimp only at hSw); go_simp; try (with_reducible rfl))
   (try simp only [actP])
   refine takeH 3 (v := ?_) rfl ?_ ?_; rotate_left; focus (intro w' hSw; (try dsimp only at hSw); go_simp; try (with_reducible rfl))
   (try simp only [actP])
   refine takeH 4 (v := ?_) rfl ?_ ?_; rotate_left; focus (intro w' hSw; (try dsimp only at hSw); go_simp; try (with_reducible rfl))
   (try simp only [actP])
   refine takeH 5 (v := .slice (some ⟨vb, OFF, none⟩) (n - (k + 1)) (n - (k + 1))) rfl ?_ ?_
   ·intro w' hSw
    (try dsimp only at hSw)
    by_cases hlast : n = k + 1
    ·have := hO1 hlast
     subst this
     have hq : ¬ 0 < n - (k + 1) := by omega
     go_simp
     intro h
     omega
    ·have := hO2 hlast
     subst this
     have hq : ¬ n = k + 1 := hlast
     go_simp
     intro h
     exact absurd (h (by omega)) (by omega)
   (try simp only [actP])
   have hdl : (bs.drop (k + 1)).length = n - (k + 1) := by rw [List.length_drop, ← HN.out]
   have bA : Below wr.heap.size wr ((wr.alloc (Obj.cells #[.slice av m cv, .slice (some ⟨vb, OFF, none⟩) (n - (k + 1)) (n - (k + 1))] 33)).drew) := by exact eX
   refine wpAnyH_ready (rs := [6]) (by kernel_rfl) (by simp) ?_
   refine AllReadyH.cons rfl (fun K hK => ?_) AllReadyH.nil
   go_simp
   refine hK.out _ _ (⟨cell_keep y0 bA, cell_keep y1 bA, cell_keep y2 bA, bA⟩) (fun hHeld' => ?_)
   clear hK K hHeld
   have hHeld := hHeld'
   clear hHeld'
   (try simp only [actP])
   obtain ⟨wa, hwa⟩ : ∃ wa, wa = (wr.alloc (Obj.cells #[.slice av m cv, .slice (some ⟨vb, OFF, none⟩) (n - (k + 1)) (n - (k + 1))] 33)).drew := ⟨_, rfl⟩
   have oa0 : wa.cell? ⟨wr.heap.size, 0, none⟩ = some (.slice av kept.length cv) := by rw [hwa, ← HM9.out]; simp [go_sem]
   have oa1 : wa.cell? ⟨wr.heap.size, 1, none⟩ = some (.slice (some ⟨vb, OFF, none⟩) (bs.drop (k + 1)).length (n - (k + 1))) := by rw [hwa, hdl]; simp [go_sem]
   rw [← hwa] at hHeld bA ⊢
   have bwa := hbw.trans (bA.mono hbw.size)
   have J1 : IntS wa wa.heap.size (.slice av kept.length cv) kept := by
    have h := (GI.own (GI.below hG.out bA) (by have := HM9.out; omega)).ints
    rw [HM9.out] at h
    exact h
   have J2 : IntS wa wa.heap.size (.slice (some ⟨vb, OFF, none⟩) (bs.drop (k + 1)).length (n - (k + 1))) (bs.drop (k + 1)) := by
    refine ⟨by omega, _, _, rfl, fun hp => ?_⟩
    obtain ⟨_, a, cap, e, hx⟩ := HV.out
    injection e with e1 _ _
    obtain ⟨b, off, e4, hlt, hc⟩ := hx (by omega)
    rw [e4] at e1
    cases e1
    have hOF := hO2 (by omega)
    refine ⟨vb, OFF, rfl, Nat.lt_of_lt_of_le hlt bwa.size, fun i hi => ?_⟩
    rw [hOF]
    have := cell_keep (hc (k + 1 + i) (by omega)) bwa
    rw [Nat.zero_add] at this
    rw [this]
    simp [iv, List.getD, List.getElem?_drop]
   obtain ⟨l, hl⟩ : ∃ l, l = kept ++ bs.drop (k + 1) := ⟨_, rfl⟩
   have hll2 : l.length ≤ n := by rw [hl, List.length_append, hdl]; have := HM9.out; omega
   have HCT := lh (concat2_any av (some ⟨vb, OFF, none⟩) cv (n - (k + 1)) wr.heap.size kept (bs.drop (k + 1)) wa J1 J2 hac (fun e => by cases e) (by have := HM9.out; omega) (by omega) oa0 oa1)
   rw [← hl] at HCT
   have HL := lh hl
   have HINC := lh (show IncI l from by
    rw [hl]
    refine inc_sub HASC.out (List.Sublist.trans ?_ hI.out.2)
    rw [hdr]
    exact List.Sublist.append_left (List.sublist_cons_self y _) kept)
   clear hwa oa0 oa1 J1 J2 hl
   refine wpAnyH_ready (rs := [7]) (by kernel_rfl) (by simp) ?_
   refine AllReadyH.cons rfl (fun K hK => ?_) AllReadyH.nil
   go_simp
   (go_at_call 97; refine HCT.out.mono ?_; rintro e wb ⟨lv2, rfl, hgc, hbc⟩)
   refine hK.out _ _ (⟨cell_keep hHeld.1 hbc, cell_keep hHeld.2.1 hbc, cell_keep hHeld.2.2.1 hbc, eT hHeld.2.2.2 hbc⟩) (fun hHeld' => ?_)
   clear hK K hHeld
   have hHeld := hHeld'
   clear hHeld'
   (try simp only [actP])
   have bwb := bwa.trans (hbc.mono bwa.size)
   have HWB := lh (HW.out l lv2 wb bwb (GI.own hgc (by omega)).ints (by omega) HINC.out)
   clear hgc hbc
   refine wpAnyH_ready (rs := [8]) (by kernel_rfl) (by simp) ?_
   refine AllReadyH.cons rfl (fun K hK => ?_) AllReadyH.nil
   go_simp
   (go_at_call 96; refine HWB.out.mono ?_; rintro e wc9 ⟨g9, rfl, hg9, hbc⟩)
   refine hK.out _ _ (⟨cell_keep hHeld.1 hbc, cell_keep hHeld.2.1 hbc, cell_keep hHeld.2.2.1 hbc, eT hHeld.2.2.2 hbc⟩) (fun hHeld' => ?_)
   clear hK K hHeld
   have hHeld := hHeld'
   clear hHeld'
   (try simp only [actP])
   have bwc9 := bwb.trans (hbc.mono bwb.size)
   have HLC := lh (HLP.out l g9 wc9 hg9)
   obtain ⟨lb9, hlb9⟩ : ∃ q, q = loopB z l := ⟨_, rfl⟩
   rw [← hlb9] at HLC
   have HLB9 := lh hlb9
   clear hg9 hbc hlb9
   refine wpAnyH_ready (rs := [9]) (by kernel_rfl) (by simp) ?_
   refine AllReadyH.cons rfl (fun K hK => ?_) AllReadyH.nil
   go_simp
   (go_at_call 54; refine HLC.out.mono ?_; rintro e wd ⟨rfl, hbc⟩)
   refine hK.out _ _ (⟨cell_keep hHeld.1 hbc, cell_keep hHeld.2.1 hbc, cell_keep hHeld.2.2.1 hbc, eT hHeld.2.2.2 hbc⟩) (fun hHeld' => ?_)
   clear hK K hHeld
   have hHeld := hHeld'
   clear hHeld'
   (try simp only [actP])
   refine wpAnyH_done (by kernel_rfl) ?_ _
   have bd := hHeld.2.2.2
   have GD := lh (GI.below hG.out bd)
   have bUd : Below U.heap.size U wd := hbU.trans (bd.mono hbU.size)
   have zd := bUd.size
   clear hHeld hbc bA bwa bwb bwc9 y0 y1 y2 hcell
   cases lb9
   ·have I9 := lh (show resF z kept (bs.drop (k + 1)) = resF z [] bs ∧ (kept ++ bs.drop (k + 1)).Sublist bs from by
     have h := hI.out
     rw [hdr] at h
     refine ⟨?_, List.Sublist.trans (List.Sublist.append_left (List.sublist_cons_self y _) kept) h.2⟩
     have h1 := h.1
     rw [resF, ← HL.out, ← HLB9.out, if_neg (by simp)] at h1
     exact h1)
    clear hI hG
    go_wp2
    go_roundw
    case rel => exact ⟨k + 1, kept, _, rfl, by omega, by go_num, I9, GD, bUd⟩
    case measure => simp [intOf]; omega
   ·have I9 := lh (show resF z (kept ++ [y]) (bs.drop (k + 1)) = resF z [] bs ∧ ((kept ++ [y]) ++ bs.drop (k + 1)).Sublist bs from by
     have h := hI.out
     rw [hdr] at h
     refine ⟨?_, by rw [List.append_assoc]; exact h.2⟩
     have h1 := h.1
     rw [resF, ← HL.out, ← HLB9.out, if_pos rfl] at h1
     exact h1)
    have bA2 : Below wd.heap.size wd (wd.alloc (Obj.cells #[.int .i64 y] 2)) := (Below.refl _ _).alloc (Nat.le_refl _) _
    have hG9 := GI.below GD.out bA2
    have HBLK := lh GD.out.blk
    unfold GI at hG9
    rw [← HM9.out] at hG9
    clear hI hG
    go_wp2_with (at_builtin; refine wpList_append_at rfl _ _ 33 rfl U.heap.size 2 tj (.int .i64 0) 1 8 Tryz.underlying33 hi hz0 hz1 hz2 rfl (by decide) _ _ _ rfl hG9 ⟨wd.heap.size, 0, none⟩ 1 1 [.int .i64 y] rfl rfl (one_cellG2 _ _ _ _ (by simp)) (fun u hu => by simp at hu; subst hu; rfl) (by unfold maxLen; omega) (by omega) (by simp; omega) ?_; intro v' w9 hown' hgrow hat)
    have G9 := lh (show GI w9 U.heap.size v' (kept ++ [y]) from GI.snoc (by rw [← HM9.out]; exact hown'))
    have B9 : Below U.heap.size U w9 := (bUd.trans (bA2.mono zd)).grown hgrow (Nat.le_trans zd bA2.size) (fun k hk => HBLK.out k hk)
    clear hown' hgrow hat hG9 GD
    go_wp2
    go_roundw
    case rel => exact ⟨k + 1, _, _, rfl, by omega, by go_num, I9, G9, B9⟩
    case measure => simp [intOf]; omega
  ·have e : k = n := by omega
   subst e
   have hI2 : ¬ (k : Int) < (k : Int) := by omega
   have HR := lh (show kept = resF z [] bs from by
    have h := hI.out.1
    rw [HN.out, List.drop_length] at h
    rw [← h, resF])
   have HO := lh ((hG.out.own (by
    have := hI.out.2.length_le
    rw [List.length_append] at this
    have := HN.out
    omega)).mono (C := w.heap.size) (Nat.le_of_lt sU))
   subst hv
   clear hI hG
   go_wp2
   go_ret
   exact ⟨_, rfl, by rw [← HR.out]; exact HO.out, hbw⟩
def resL (z : BlkD) (bs : List Int) : List Int := if grCode z bs = 0 then (if loopB z bs then [] else resF z [] bs) else []
def resC (z : BlkD) (bs : List Int) : Int := if grCode z bs = 0 then (if loopB z bs then 7 else 0) else grCode z bs
theorem resL_bd {z : BlkD} {bs : List Int} (h : bs.length ≤ 1048576) : (resL z bs).length ≤ 1048576 := by
 unfold resL
 split
 ·split
  ·simp
  ·have := resF_len z bs []; simp at this; omega
 ·simp
set_option maxHeartbeats 16000000 in
theorem implRestoreLinks_any (f : Nat → Value) (z : BlkD) (vb : Nat) (bs : List Int) (w : World) (h : BlkF w w.heap.size f z) (hv : IntS w w.heap.size (.slice (some ⟨vb, 0, none⟩) bs.length bs.length) bs) (hbl : bs.length ≤ 1048576) :
  Calls Tryz.prog 26 #[.agg #[f 0, f 1, f 2, f 3, f 4], .slice (some ⟨vb, 0, none⟩) bs.length bs.length] w (ListR w (resL z bs) (resC z bs)) := by
 have HB := lh (fun (w1 : World) (hb : Below w.heap.size w w1) => graphOf_any f z _ bs w1 (h.up hb) (hv.up hb) hbl)
 have HV := lh (fun (w1 : World) (hb : Below w.heap.size w w1) => hv.up hb)
 obtain ⟨p0, q0, p1, q1, p2, q2, p3, q3, p4, q4, e0, e1, e2, e3, e4⟩ := h.five
 rw [e0, e1, e2, e3, e4] at HB
 rw [e0, e1, e2, e3, e4]
 clear e0 e1 e2 e3 e4 h hv
 unfold GraphR at HB
 by_cases hg : grCode z bs = 0
 ·have hb := grCode_valid hg
  have hinc := ris_inc (show risB bs ((linksL z).length : Int) = true by
   unfold grCode at hg
   rw [if_pos hb] at hg
   cases h : risB bs ((linksL z).length : Int)
   ·rw [h] at hg; simp at hg
   ·rfl)
  have HO := lh (fun (gv : Value) (w1 : World) (L : Nat) (h : GraphV w1 L z bs gv) => hasLoopI_any z bs gv w1 L h hb)
  have HRM := lh (fun (gv : Value) (w1 : World) (L : Nat) (h : GraphV w1 L z bs gv) (hL : L ≤ w1.heap.size) (hv1 : IntS w1 w1.heap.size (.slice (some ⟨vb, 0, none⟩) bs.length bs.length) bs) => remaining_any z bs bs gv vb w1 L h hL hb hv1 hbl hinc)
  have hll := linksL_len hb
  have HGC := lh hg
  rw [hg] at HB
  clear hg hinc
  go_enter Tryz.func26, Tryz.ntmps26
  go_wp2_with fail
  (go_at_call 51; refine (HB.out _ (by exact eX)).mono ?_; rintro e w1 ⟨gv, rfl, hyes, hno, hb⟩)
  have hgv := hyes (by trivial)
  obtain ⟨lv, bo, bi, base, V, rfl, l1, l2, l3, d1, hGL, hR⟩ := id hgv
  obtain ⟨la, lc, rfl⟩ := (GL.lks hGL (by omega)).slice
  have GV := lh hgv
  have b1 : Below w.heap.size w w1 := by exact eX
  have bA : Below w1.heap.size w1 (w1.alloc (Obj.cells #[.slice la (linksL z).length lc, .slice (some ⟨bo, 0, none⟩) (nodesN z) (nodesN z), .slice (some ⟨bi, 0, none⟩) (nodesN z) (nodesN z)] 68)) := (Below.refl _ _).alloc (Nat.le_refl _) _
  have GA := lh (GV.out.below bA)
  obtain ⟨W, hW⟩ : ∃ W, W = w1.alloc (Obj.cells #[.slice la (linksL z).length lc, .slice (some ⟨bo, 0, none⟩) (nodesN z) (nodesN z), .slice (some ⟨bi, 0, none⟩) (nodesN z) (nodesN z)] 68) := ⟨_, rfl⟩
  have x0 : W.cell? ⟨w1.heap.size, 0, none⟩ = some (.slice la (linksL z).length lc) := by rw [hW]; simp [go_sem]
  have x1 : W.cell? ⟨w1.heap.size, 1, none⟩ = some (.slice (some ⟨bo, 0, none⟩) (nodesN z) (nodesN z)) := by rw [hW]; simp [go_sem]
  have x2 : W.cell? ⟨w1.heap.size, 2, none⟩ = some (.slice (some ⟨bi, 0, none⟩) (nodesN z) (nodesN z)) := by rw [hW]; simp [go_sem]
  have hzb := hb.size
  rw [← hW] at GA bA
  have bW := b1.trans (bA.mono b1.size)
  have HWW := lh hW
  have L0 : (w.alloc (Obj.cells #[.slice p0 z.lib.length q0, .slice p1 z.des.insts.length q1, .slice p2 z.des.nets.length q2, .slice p3 z.des.ports.length q3, .slice p4 z.wires.length q4] 46)).heap.size ≤ W.heap.size := Nat.le_trans hzb bA.size
  clear hyes hno hb hgv hGL hR GV l1 l2 l3 hW hzb
  go_upto_region 4 with fail
  rw [← HWW.out]
  go_wp2_with fail
  (go_at_call 54; refine (HO.out _ _ _ GA.out).mono ?_; rintro e w2 ⟨rfl, hb2⟩)
  have y0 := cell_keep x0 hb2; have y1 := cell_keep x1 hb2; have y2 := cell_keep x2 hb2
  have GB := lh (GA.out.below hb2)
  have B2 := bW.trans (hb2.mono bW.size)
  have L2 := Nat.le_trans L0 hb2.size
  clear x0 x1 x2 hb2 bA
  cases hlo : loopB z bs
  ·have XL := lh (show resL z bs = resF z [] bs by unfold resL; rw [if_pos HGC.out, hlo, if_neg (by simp)])
   have XC := lh (show resC z bs = 0 by unfold resC; rw [if_pos HGC.out, hlo, if_neg (by simp)])
   clear hlo
   go_wp2_with fail
   (go_at_call 56; refine (HRM.out _ _ _ GB.out L2 (HV.out _ B2)).mono ?_; rintro e w3 ⟨vo, rfl, hO, hb3⟩)
   have HO3 := lh (hO.mono (C := w.heap.size) B2.size)
   obtain ⟨ua, uc, rfl⟩ := HO3.out.slice
   have B3 := B2.trans (hb3.mono B2.size)
   clear hO hb3
   go_wp2
   go_ret2
   exact ⟨_, by rw [XC.out]; rfl, by rw [XL.out]; exact HO3.out, B3⟩
  ·have XL := lh (show resL z bs = [] by unfold resL; rw [if_pos HGC.out, hlo, if_pos rfl])
   have XC := lh (show resC z bs = 7 by unfold resC; rw [if_pos HGC.out, hlo, if_pos rfl])
   clear hlo
   go_wp2
   go_ret2
   exact ⟨_, by rw [XC.out]; rfl, by rw [XL.out]; exact own_nil _ _, B2⟩
 ·have XL := lh (show resL z bs = [] by simp [resL, hg])
  have XC := lh (show resC z bs = grCode z bs by simp [resC, hg])
  obtain ⟨cd, hcd⟩ : ∃ cd, cd = grCode z bs := ⟨_, rfl⟩
  rw [← hcd] at HB hg XC
  have hne : (cd != 0) = true := by simpa using hg
  have hne2 : (cd == 0) = false := by simpa using hg
  have HG0 := lh hg
  clear hcd hg
  go_enter Tryz.func26, Tryz.ntmps26
  go_wp2_with fail
  (go_at_call 51; refine (HB.out _ (by exact eX)).mono ?_; rintro e w1 ⟨gv, rfl, hyes, hno, hb⟩)
  obtain rfl := hno HG0.out
  clear hyes hno
  go_wp2
  go_ret2
  exact ⟨_, by rw [XC.out]; rfl, by rw [XL.out]; exact own_nil _ _, eX⟩
end Go.Proofs.YtkpfbnffhhmokaaGreat
namespace Go.Proofs.YtkpfbnffhhmokaaGreat
open Go.ChangeShapes Go.WideShapes Go.ChangeAt Go.RowKit Go.Deep
set_option linter.unusedVariables false
set_option linter.unusedSimpArgs false
set_option maxRecDepth 100000
theorem woI_mid (kept ys : List Int) (y : Int) : woI (kept ++ y :: ys) kept.length = kept ++ ys := by
 unfold woI
 rw [List.take_left, List.drop_append]
 simp
theorem wp_append_ints (w : World) {o : Oper} {a : Act} {K : Act → World → Prop} {Q : Exit → Act → World → Prop} (s x : Operand)
  (ho : o.op = .call { callee := .builtin .append, args := #[s, x], argTypes := #[33, 33] }) (base : Nat) (v : Value) (xs : List Int) (hs : a.eval s = v) (hown : GI w base v xs) (ys : List Int) (ad : Addr) (m uc : Nat) (hm : m = ys.length) (hx : a.eval x = .slice (some ad) m uc) (hc : ∀ j u, (ys.map (Value.int .i64))[j]? = some u → w.cell? (ad.add j) = some u)
  (hl : xs.length + m ≤ 4000000) (hbase : base ≤ w.heap.size)
  (h : ∀ v' w', GI w' base v' (xs ++ ys) → w.grownBy w' v.ownBlock → (v'.ownBlock = v.ownBlock ∨ v'.ownBlock = some w.heap.size) → K (a.put o.dst v') w') : o.wp Tryz.prog a w K Q := by
 obtain ⟨ti, hi, hz0, hz1, hz2⟩ := info_parts Tryz.infoCat
 refine wp_append_at w s x 33 ho base 2 ti (.int .i64 0) 1 8 Tryz.underlying33 hi hz0 hz1 hz2 rfl (by decide) v xs.length _ hs hown ad m uc (ys.map (Value.int .i64)) hx (by simp [hm]) hc (fun u hu => by obtain ⟨y, _, rfl⟩ := List.mem_map.1 hu; rfl) (by unfold maxLen; omega) (by omega) hbase ?_
 intro v' w' h1 h2 _ h3
 refine h v' w' ?_ h2 h3
 unfold GI
 rw [List.map_append, List.length_append, ← hm]
 exact h1
theorem cells_take {w : World} {b k n : Nat} {xs : List Int} (hk : k < n) (hn : n = xs.length) (h : ∀ i, i < n → w.cell? ⟨b, i, none⟩ = some (.int .i64 (iv xs i))) : ∀ j u, ((xs.take k).map (Value.int .i64))[j]? = some u → w.cell? ((⟨b, 0, none⟩ : Addr).add j) = some u := by
 intro j u hj
 have hjl : j < ((xs.take k).map (Value.int .i64)).length := (List.getElem?_eq_some_iff.1 hj).1
 have hjk : j < k := by simp at hjl; omega
 have hjx : j < xs.length := by omega
 rw [Addr.add_lit, Nat.zero_add, h j (by omega), ← hj]
 simp [iv, List.getD, List.getElem?_take, hjk, hjx]
theorem cells_drop {w : World} {b k n OFF : Nat} {xs : List Int} (hn : n = xs.length) (ho : k + 1 < n → OFF = k + 1) (h : ∀ i, i < n → w.cell? ⟨b, i, none⟩ = some (.int .i64 (iv xs i))) : ∀ j u, ((xs.drop (k + 1)).map (Value.int .i64))[j]? = some u → w.cell? ((⟨b, OFF, none⟩ : Addr).add j) = some u := by
 intro j u hj
 have hjl : j < ((xs.drop (k + 1)).map (Value.int .i64)).length := (List.getElem?_eq_some_iff.1 hj).1
 have hjk : k + 1 + j < n := by simp at hjl; omega
 have hjx : k + 1 + j < xs.length := by omega
 rw [Addr.add_lit, ho (by omega), h _ hjk, ← hj]
 simp [iv, List.getD, List.getElem?_drop, hjx]
set_option maxHeartbeats 16000000 in
theorem specWithout_any (b c k : Nat) (xs : List Int) (w : World) (h : IntS w w.heap.size (.slice (some ⟨b, 0, none⟩) xs.length c) xs) (hk : k < xs.length) (hc : xs.length ≤ c) (hl : xs.length ≤ 1048576) :
  Calls Tryz.prog 55 #[.slice (some ⟨b, 0, none⟩) xs.length c, .int .i64 k] w fun e w' => ∃ v, e = .returned v ∧ GI w' w.heap.size v (woI xs k) ∧ Below w.heap.size w w' := by
 obtain ⟨tj, hi, hz0, hz1, hz2⟩ := info_parts Tryz.infoI64
 obtain ⟨n, hn⟩ : ∃ n, n = xs.length := ⟨_, rfl⟩
 have hcell : ∀ (w' : World), Below w.heap.size w w' → ∀ i, i < n → w'.cell? ⟨b, i, none⟩ = some (.int .i64 (iv xs i)) := fun w' hb i hi => by
  obtain ⟨_, a, cap, e, hx⟩ := h
  injection e with e1 _ _
  obtain ⟨b', off, e4, hlt, hcc⟩ := hx (by omega)
  rw [e4] at e1
  cases e1
  have := hcc i (by omega)
  rw [Nat.zero_add] at this
  exact cell_keep this hb
 rw [← hn] at hk hc hl ⊢
 have HCELL := lh hcell
 have HN := lh hn
 have hkw : IntKind.i64.wrap ((k : Int) + 1) = (k : Int) + 1 := IntWalk.i64_in _ (by omega)
 have ki0 : (0 : Int) ≤ (k : Int) := by omega
 have ki1 : (k : Int) ≤ (c : Int) := by omega
 have ki2 : (k : Int) < (n : Int) := by omega
 have c0 : ¬ c = 0 := by omega
 have c1 : ¬ 0 = c := by omega
 obtain ⟨OFF, hO1, hO2⟩ : ∃ OFF : Nat, (c = k + 1 → OFF = 0) ∧ (c ≠ k + 1 → OFF = k + 1) := by
  by_cases h : c = k + 1
  ·exact ⟨0, fun _ => rfl, fun q => absurd h q⟩
  ·exact ⟨k + 1, fun q => absurd q h, fun _ => rfl⟩
 clear h hn hcell
 go_enter Tryz.func55, Tryz.ntmps55
 go_upto_region 1 with fail
 refine wp_region_held_drew (S := (fun w' => Below w.heap.size w w')) (by kernel_rfl) ?_ (fun hHeld => ?_)
 ·(try dsimp only); exact eX
 (try dsimp only at hHeld)
 refine takeH 1 (v := ?_) rfl ?_ ?_; rotate_left; focus (intro w' hSw; (try dsimp only at hSw); go_simp; try (with_reducible rfl))
 (try simp only [actP])
 refine takeH 2 (v := ?_) rfl ?_ ?_; rotate_left; focus (intro w' hSw; (try dsimp only at hSw); go_simp; try (with_reducible rfl))
 (try simp only [actP])
 refine takeH 3 (v := .slice (some ⟨b, 0, none⟩) k c) rfl ?_ ?_
 ·intro w' hSw
  (try dsimp only at hSw)
  go_simp
 (try simp only [actP])
 refine takeH 5 (v := ?_) rfl ?_ ?_; rotate_left; focus (intro w' hSw; (try dsimp only at hSw); go_simp; try (with_reducible rfl))
 (try simp only [actP])
 refine takeH 6 (v := ?_) rfl ?_ ?_; rotate_left; focus (intro w' hSw; (try dsimp only at hSw); go_simp; try (with_reducible rfl))
 (try simp only [actP])
 refine takeH 7 (v := ?_) rfl ?_ ?_; rotate_left; focus (intro w' hSw; (try dsimp only at hSw); go_simp; try (with_reducible rfl))
 (try simp only [actP])
 refine takeH 8 (v := .slice (some ⟨b, OFF, none⟩) (n - (k + 1)) (c - (k + 1))) rfl ?_ ?_
 ·intro w' hSw
  (try dsimp only at hSw)
  by_cases hlast : c = k + 1
  ·have := hO1 hlast
   subst this
   have hq : ¬ 0 < c - (k + 1) := by omega
   go_simp
   intro h
   omega
  ·have := hO2 hlast
   subst this
   have hq : ¬ c = k + 1 := hlast
   go_simp
   intro h
   exact absurd (h (by omega)) (by omega)
 (try simp only [actP])
 refine wpAnyH_ready (rs := [0]) (by kernel_rfl) (by simp) ?_
 refine AllReadyH.cons rfl (fun K hK => ?_) AllReadyH.nil
 go_simp
 refine hK.out _ _ (show Below w.heap.size w _ by exact eX) (fun hHeld' => ?_)
 clear hK K hHeld
 have hHeld := hHeld'
 clear hHeld'
 (try simp only [actP])
 obtain ⟨wa, hwa⟩ : ∃ wa, wa = (w.alloc (Obj.cells #[] 2)).drew := ⟨_, rfl⟩
 have G0 : GI wa w.heap.size (.slice (some ⟨w.heap.size, 0, none⟩) 0 0) [] := by
  rw [hwa]
  exact GI.below (GI.lit w w.heap.size w.heap.size (Nat.le_refl _) rfl 2 rfl) (by exact eX)
 rw [← hwa] at hHeld ⊢
 clear hwa
 have sa := hHeld.size
 refine wpAnyH_ready (rs := [4]) (by kernel_rfl) (by simp) ?_
 refine AllReadyH.cons rfl (fun K hK => ?_) AllReadyH.nil
 rw [if_pos (by rfl)]
 refine wp_append_ints wa _ _ rfl w.heap.size _ [] rfl G0 (xs.take k) ⟨b, 0, none⟩ k c (by rw [List.length_take, ← HN.out]; omega) rfl (cells_take hk HN.out (HCELL.out wa hHeld)) (by simp; omega) sa ?_
 intro v1 w1 g1 hgrow hat
 rw [List.nil_append] at g1
 have hb1 : Below w.heap.size w w1 := hHeld.grown hgrow sa (fun q hq => G0.blk q hq)
 refine hK.out _ _ hb1 (fun hHeld' => ?_)
 clear hK K hHeld hgrow hat G0 sa
 have hHeld := hHeld'
 clear hHeld'
 (try simp only [actP])
 have s1 := hHeld.size
 obtain ⟨a1, c1', rfl⟩ := own_slice (show w1.ownsRow _ _ _ _ _ _ from g1)
 refine wpAnyH_ready (rs := [9]) (by kernel_rfl) (by simp) ?_
 refine AllReadyH.cons rfl (fun K hK => ?_) AllReadyH.nil
 rw [if_pos (by rfl)]
 refine wp_append_ints w1 _ _ rfl w.heap.size _ (xs.take k) rfl g1 (xs.drop (k + 1)) ⟨b, OFF, none⟩ (n - (k + 1)) (c - (k + 1)) (by rw [List.length_drop, ← HN.out]) rfl (cells_drop HN.out (fun q => hO2 (by omega)) (HCELL.out w1 hHeld)) (by rw [List.length_take, ← HN.out]; omega) s1 ?_
 intro v2 w2 g2 hgrow hat
 have hb2 : Below w.heap.size w w2 := hHeld.grown hgrow s1 (fun q hq => g1.blk q hq)
 refine hK.out _ _ hb2 (fun hHeld' => ?_)
 clear hK K hHeld hgrow hat g1 s1
 have hHeld := hHeld'
 clear hHeld'
 (try simp only [actP])
 refine takeH 10 (v := ?_) rfl ?_ ?_; rotate_left; focus (intro w' hSw; (try dsimp only at hSw); go_simp; try (with_reducible rfl))
 (try simp only [actP])
 refine wpAnyH_done (by kernel_rfl) ?_ _
 obtain ⟨a2, c2', rfl⟩ := own_slice (show w2.ownsRow _ _ _ _ _ _ from g2)
 go_wp2
 go_ret
 exact ⟨_, rfl, g2, hHeld⟩
theorem GI.parts {w : World} {base : Nat} {v : Value} {xs : List Int} (h : GI w base v xs) (h0 : 0 < xs.length) : ∃ g c, v = .slice (some ⟨g, 0, none⟩) xs.length c ∧ xs.length ≤ c := by
 rcases h.2 with ⟨rfl, q⟩ | ⟨g, cap, cur, rfl, _, _, hc, _⟩
 ·omega
 ·exact ⟨g, cap, rfl, by omega⟩
theorem GI.mono {w : World} {B C : Nat} {v : Value} {xs : List Int} (h : GI w B v xs) (hc : C ≤ B) : GI w C v xs := by
 obtain ⟨h0, h1⟩ := h
 refine ⟨h0, ?_⟩
 rcases h1 with q | ⟨g, cap, cur, e, hb, r⟩
 ·exact .inl q
 ·exact .inr ⟨g, cap, cur, e, Nat.le_trans hc hb, r⟩
set_option maxHeartbeats 16000000 in
theorem specRestoreLinks_any (f : Nat → Value) (z : BlkD) (vb : Nat) (bs : List Int) (w : World) (h : BlkF w w.heap.size f z) (hv : IntS w w.heap.size (.slice (some ⟨vb, 0, none⟩) bs.length bs.length) bs) (hbl : bs.length ≤ 1048576) :
  Calls Tryz.prog 25 #[.agg #[f 0, f 1, f 2, f 3, f 4], .slice (some ⟨vb, 0, none⟩) bs.length bs.length] w (ListR w (resL z bs) (resC z bs)) := by
 have HG := lh (fun (w1 : World) (hb : Below w.heap.size w w1) => specGr_any f z _ bs w1 (h.up hb) (hv.up hb))
 have HC := lh (fun (hb : blkB z = true) (v : Value) (l : List Int) (w1 : World) (hb' : Below w.heap.size w w1) (h1 : IntS w1 w1.heap.size v l) => specHas_any f z v l w1 (h.up hb') h1 hb)
 have HV := lh (fun (w1 : World) (hb : Below w.heap.size w w1) => hv.up hb)
 have HB := lh (IntS.cellsOf hv)
 obtain ⟨p0, q0, p1, q1, p2, q2, p3, q3, p4, q4, e0, e1, e2, e3, e4⟩ := h.five
 rw [e0, e1, e2, e3, e4] at HG HC
 rw [e0, e1, e2, e3, e4]
 clear e0 e1 e2 e3 e4 h hv
 by_cases hg : grCode z bs = 0
 ·have HC := lh (HC.out (grCode_valid hg))
  have HGC := lh hg
  rw [hg] at HG
  clear hg
  cases hlo : loopB z bs
  ·have XL := lh (show resL z bs = resF z [] bs by unfold resL; rw [if_pos HGC.out, hlo, if_neg (by simp)])
   have XC := lh (show resC z bs = 0 by unfold resC; rw [if_pos HGC.out, hlo, if_neg (by simp)])
   have XLO := lh hlo
   clear hlo
   obtain ⟨U, hU⟩ : ∃ U, U = w.alloc (Obj.cells #[.slice p0 z.lib.length q0, .slice p1 z.des.insts.length q1, .slice p2 z.des.nets.length q2, .slice p3 z.des.ports.length q3, .slice p4 z.wires.length q4] 46) := ⟨_, rfl⟩
   have x0 : U.cell? ⟨w.heap.size, 0, none⟩ = some (.slice p0 z.lib.length q0) := by rw [hU]; simp [go_sem]
   have x1 : U.cell? ⟨w.heap.size, 1, none⟩ = some (.slice p1 z.des.insts.length q1) := by rw [hU]; simp [go_sem]
   have x2 : U.cell? ⟨w.heap.size, 2, none⟩ = some (.slice p2 z.des.nets.length q2) := by rw [hU]; simp [go_sem]
   have x3 : U.cell? ⟨w.heap.size, 3, none⟩ = some (.slice p3 z.des.ports.length q3) := by rw [hU]; simp [go_sem]
   have x4 : U.cell? ⟨w.heap.size, 4, none⟩ = some (.slice p4 z.wires.length q4) := by rw [hU]; simp [go_sem]
   have bU : Below w.heap.size w U := by rw [hU]; exact (Below.refl _ _).alloc (Nat.le_refl _) _
   have sU : w.heap.size < U.heap.size := cell_lt x0
   have HU := lh hU
   clear hU
   go_enter Tryz.func25, Tryz.ntmps25
   go_wp2_with fail
   rw [← HU.out]
   go_wp2_with fail
   (go_at_call 46; refine (HG.out _ bU).mono ?_; rintro e w1 ⟨rfl, hb1⟩)
   have B1 := bU.trans (hb1.mono bU.size)
   have y0 := cell_keep x0 hb1; have y1 := cell_keep x1 hb1; have y2 := cell_keep x2 hb1; have y3 := cell_keep x3 hb1; have y4 := cell_keep x4 hb1
   have sU1 := hb1.size
   clear x0 x1 x2 x3 x4 hb1
   go_wp2_with fail
   (go_at_call 53; refine (HC.out _ bs _ B1 (HV.out _ B1)).mono ?_; rintro e w2 ⟨rfl, hb2⟩)
   have B2 := B1.trans (hb2.mono B1.size)
   have x0 := cell_keep y0 hb2; have x1 := cell_keep y1 hb2; have x2 := cell_keep y2 hb2; have x3 := cell_keep y3 hb2; have x4 := cell_keep y4 hb2
   have sU2 := Nat.lt_of_lt_of_le sU (Nat.le_trans sU1 hb2.size)
   clear y0 y1 y2 y3 y4 hb2 B1 sU1
   rw [XLO.out]
   have bA : Below w2.heap.size w2 (w2.alloc (Obj.cells #[] 2)) := (Below.refl _ _).alloc (Nat.le_refl _) _
   have G2 : GI (w2.alloc (Obj.cells #[] 2)) w2.heap.size (.slice (some ⟨w2.heap.size, 0, none⟩) 0 0) [] := GI.lit w2 w2.heap.size w2.heap.size (Nat.le_refl _) rfl 2 rfl
   have HV2 := lh (HV.out _ (B2.trans (bA.mono B2.size)))
   go_wp2_with (at_builtin; refine wpList_append_ints rfl _ _ rfl w2.heap.size _ [] rfl G2 bs (some ⟨vb, 0, none⟩) bs.length _ rfl (fun e => by cases e) HV2.out (by simp; omega) bA.size ?_; intro v3 w3 g3 hgrow hat)
   have b3 : Below w2.heap.size w2 w3 := bA.grown hgrow bA.size (fun q hq => G2.blk q hq)
   have G3 := lh (show GI w3 (w.heap.size + 1) v3 bs from GI.mono g3 (by omega))
   have B3 := B2.trans (b3.mono B2.size)
   have y0 := cell_keep x0 b3; have y1 := cell_keep x1 b3; have y2 := cell_keep x2 b3; have y3 := cell_keep x3 b3; have y4 := cell_keep x4 b3
   have s3 := b3.size
   clear g3 hgrow hat G2 bA B2 HV2 x0 x1 x2 x3 x4 b3 bU HU sU HV
   go_wp2_with fail
   go_loopw [7, 8, 9] (fun r i fw wr => ∃ (kept ys : List Int) (v : Value), v = r ∧ kept.length + ys.length ≤ 1048576 ∧ i = .int .i64 kept.length ∧ Hid (resF z kept ys = resF z [] bs) ∧ Hid (GI wr (w.heap.size + 1) v (kept ++ ys)) ∧ Below w3.heap.size w3 wr) (fun r i _ _ => (match r with | .slice _ n _ => n | _ => 0) - (intOf i).toNat)
   case atStart => exact ⟨[], bs, _, rfl, by simpa using hbl, rfl, lh rfl, G3, Below.refl _ _⟩
   case round =>
    obtain ⟨kept, ys, v, hv, hl, rfl, hI, hGr, hBr⟩ := hrel
    subst hv
    have z0 := cell_keep y0 hBr; have z1 := cell_keep y1 hBr; have z2 := cell_keep y2 hBr; have z3 := cell_keep y3 hBr; have z4 := cell_keep y4 hBr
    have Br := B3.trans (hBr.mono B3.size)
    have sr := hBr.size
    cases ys with
    | nil =>
     have XO := lh (show kept ++ [] = resL z bs by rw [XL.out, ← hI.out, List.append_nil]; rfl)
     rw [List.append_nil] at hGr XO
     obtain ⟨va, vc, rfl⟩ := own_slice (show wr.ownsRow _ _ _ _ _ _ from hGr.out)
     go_wp2
     go_ret2
     exact ⟨_, by rw [XC.out]; rfl, by rw [← XO.out]; exact GI.own (GI.mono hGr.out (by omega)) (by simp at hl; omega), Br⟩
    | cons y ys =>
     have hlx : (kept ++ y :: ys).length = kept.length + (ys.length + 1) := by simp
     have hly : (kept ++ ys).length = kept.length + ys.length := by simp
     have hl : kept.length + (ys.length + 1) ≤ 1048576 := hl
     obtain ⟨g, c, hgv, hgc⟩ := GI.parts hGr.out (by omega)
     subst hgv
     have HWO := lh (specWithout_any g c kept.length (kept ++ y :: ys) wr (GI.own hGr.out (by omega)).ints (by omega) hgc (by omega))
     rw [woI_mid, hlx] at HWO
     rw [hlx] at hgc ⊢
     obtain ⟨k, hk⟩ : ∃ k, k = kept.length := ⟨_, rfl⟩
     obtain ⟨m, hm⟩ : ∃ m, m = ys.length := ⟨_, rfl⟩
     have HGr := lh hGr.out
     have HK := lh hk
     have HM := lh hm
     have HLY := lh hly
     rw [← hk, ← hm] at HWO hgc hl ⊢
     have hi1 : (k : Int) < ((k + (m + 1) : Nat) : Int) := by omega
     have hkw : IntKind.i64.wrap ((k : Int) + 1) = (k : Int) + 1 := IntWalk.i64_in _ (by omega)
     clear hGr hk hm hlx hly
     go_wp2_with fail
     (go_at_call 55; refine HWO.out.mono ?_; rintro e w4 ⟨v4, rfl, hg4, hb4⟩)
     have B4 := Br.trans (hb4.mono Br.size)
     have t0 := cell_keep z0 hb4; have t1 := cell_keep z1 hb4; have t2 := cell_keep z2 hb4; have t3 := cell_keep z3 hb4; have t4 := cell_keep z4 hb4
     have sb4 := hb4.size
     have H4 := lh hg4
     have HA := lh (HC.out v4 (kept ++ ys) w4 B4 (GI.own hg4 (by have := HLY.out; have := HK.out; have := HM.out; omega)).ints)
     have G4' := lh (GI.below HGr.out hb4)
     have Bb4 := hBr.trans (hb4.mono sr)
     obtain ⟨a4, c4, rfl⟩ := own_slice (show w4.ownsRow _ _ _ _ _ _ from hg4)
     clear hg4 hb4 HWO
     have HLJ : (kept ++ ys).length = k + m := by have := HLY.out; have := HK.out; have := HM.out; omega
     have HLX : (kept ++ y :: ys).length = k + (m + 1) := by rw [List.length_append, List.length_cons]; have := HK.out; have := HM.out; omega
     rw [HLJ] at HA H4
     rw [HLX] at G4'
     rw [HLJ]
     have HLJ := lh HLJ
     clear HLX HGr
     obtain ⟨lb, hlb⟩ : ∃ q, q = loopB z (kept ++ ys) := ⟨_, rfl⟩
     rw [← hlb] at HA
     have HLB := lh hlb
     clear hlb z0 z1 z2 z3 z4 hBr
     go_wp2_with fail
     (go_at_call 53; refine HA.out.mono ?_; rintro e w5 ⟨rfl, hb5⟩)
     have B5 := B4.trans (hb5.mono B4.size)
     have Bb5 := Bb4.trans (hb5.mono Bb4.size)
     have z0 := cell_keep t0 hb5; have z1 := cell_keep t1 hb5; have z2 := cell_keep t2 hb5; have z3 := cell_keep t3 hb5; have z4 := cell_keep t4 hb5
     have G5a := lh (GI.below G4'.out hb5)
     have G5b := lh (GI.mono (GI.below H4.out hb5) (show w.heap.size + 1 ≤ wr.heap.size by omega))
     clear hb5 t0 t1 t2 t3 t4 HA H4 G4'
     cases lb
     ·have I9 := lh (show resF z kept ys = resF z [] bs from by
       have h1 := hI.out
       rw [resF, ← HLB.out, if_neg (by simp)] at h1
       exact h1)
      clear hI
      go_wp2
      go_roundw
      case rel => exact ⟨kept, ys, _, rfl, by have := HK.out; have := HM.out; omega, by rw [← HK.out], I9, G5b, Bb5⟩
      case measure => simp [intOf] <;> omega
     ·have I9 := lh (show resF z (kept ++ [y]) ys = resF z [] bs from by
       have h1 := hI.out
       rw [resF, ← HLB.out, if_pos rfl] at h1
       exact h1)
      have G9 := lh (show GI w5 (w.heap.size + 1) (.slice (some ⟨g, 0, none⟩) (k + (m + 1)) c) ((kept ++ [y]) ++ ys) by rw [List.append_assoc]; exact G5a.out)
      clear hI
      go_wp2
      go_roundw
      case rel => exact ⟨kept ++ [y], ys, _, rfl, by have := HK.out; have := HM.out; simp; omega, by have := HK.out; simp; omega, I9, G9, Bb5⟩
      case measure => simp [intOf] <;> omega
  ·have XL := lh (show resL z bs = [] by unfold resL; rw [if_pos HGC.out, hlo, if_pos rfl])
   have XC := lh (show resC z bs = 7 by unfold resC; rw [if_pos HGC.out, hlo, if_pos rfl])
   have XLO := lh hlo
   clear hlo
   go_enter Tryz.func25, Tryz.ntmps25
   go_wp2_with fail
   (go_at_call 46; refine (HG.out _ eX).mono ?_; rintro e w1 ⟨rfl, hb⟩; have ⟨hc, hf⟩ := bcell hb; have hz := hb.size; (try simp at hz); (try have hz := Nat.lt_of_succ_le hz); (try have y0 := wy w w1); (try have z0 := wz0 w w1); (try have z1 := wz1 w w1); (try have z2 := wz2 w w1); (try have z3 := wz3 w w1); (try have z4 := wz4 w w1))
   have B1 : Below w.heap.size w w1 := by exact eX
   go_wp2_with fail
   (go_at_call 53; refine (HC.out _ bs _ B1 (HV.out _ B1)).mono ?_; rintro e w2 ⟨rfl, hb⟩; have ⟨hc, hf⟩ := bcell hb; have hz := hb.size; (try simp at hz); (try have hz := Nat.lt_of_succ_le hz); (try have y0 := wy w w2); (try have z0 := wz0 w w2); (try have z1 := wz1 w w2); (try have z2 := wz2 w w2); (try have z3 := wz3 w w2); (try have z4 := wz4 w w2))
   have B2 : Below w.heap.size w w2 := by exact eX
   rw [XLO.out]
   go_wp2
   go_ret2
   exact ⟨_, by rw [XC.out]; rfl, by rw [XL.out]; exact GI.own (GI.lit _ _ _ (by exact B2.size) rfl 2 rfl) (by simp), by exact eX⟩
 ·have XL := lh (show resL z bs = [] by simp [resL, hg])
  have XC := lh (show resC z bs = grCode z bs by simp [resC, hg])
  obtain ⟨cd, hcd⟩ : ∃ cd, cd = grCode z bs := ⟨_, rfl⟩
  rw [← hcd] at HG hg XC
  have hne : (cd != 0) = true := by simpa using hg
  have hne2 : (cd == 0) = false := by simpa using hg
  clear hcd hg HC
  go_enter Tryz.func25, Tryz.ntmps25
  go_wp2_with fail
  (go_at_call 46; refine (HG.out _ eX).mono ?_; rintro e w1 ⟨rfl, hb⟩; have ⟨hc, hf⟩ := bcell hb; have hz := hb.size; (try simp at hz); (try have hz := Nat.lt_of_succ_le hz); (try have y0 := wy w w1); (try have z0 := wz0 w w1); (try have z1 := wz1 w w1); (try have z2 := wz2 w w1); (try have z3 := wz3 w w1); (try have z4 := wz4 w w1))
  have B1 : Below w.heap.size w w1 := by exact eX
  go_wp2
  go_ret2
  exact ⟨_, by rw [XC.out]; rfl, by rw [XL.out]; exact GI.own (GI.lit _ _ _ (by exact B1.size) rfl 2 rfl) (by simp), by exact eX⟩
set_option maxHeartbeats 4000000 in
theorem toInt64S_full (v : Value) (xs : List Int) (w : World) (h : IntS w w.heap.size v xs) (hm : xs.length ≤ 1048576) : Calls Tryz.prog 12 #[v] w (fun e w' => ∃ vb, e = .returned (.slice (some ⟨vb, 0, none⟩) xs.length xs.length) ∧ OwnS w' w.heap.size (.slice (some ⟨vb, 0, none⟩) xs.length xs.length) xs ∧ Below w.heap.size w w') := by
 obtain ⟨i0, hi, hz0, hz1, hz2⟩ := info_parts Tryz.infoInt
 obtain ⟨hn, a, cap, rfl, hx0⟩ := h
 obtain ⟨n, hnn⟩ : ∃ n, n = xs.length := ⟨_, rfl⟩
 have HN := lh hnn
 have HX := lh hx0
 rw [← hnn] at hn hm ⊢
 clear hx0 hnn
 go_enter Tryz.func12, Tryz.ntmps12
 go_wp2_with (at_make; refine wpList_make_full _ rfl _ _ 33 rfl w.heap.size 2 i0 (.int .i64 0) 1 Tryz.underlying33 hi hz0 hz1 .i64 .i64 _ _ n rfl rfl rfl rfl (by rw [hz2]; omega) (by unfold maxLen; omega) (Nat.le_refl _) ?_; intro w0 hown0 hgrow0; have hb0 := below_grown hgrow0; clear hgrow0)
 have hr0 : 0 < n → IRow w0 w.heap.size n 0 xs := fun hp => (IRow.made hown0).resolve_right (by omega)
 clear hown0
 go_loopw [4] (fun i wr => ∃ k : Nat, k ≤ n ∧ i = .int .i64 k ∧ Hid (0 < n → IRow wr w.heap.size n k xs) ∧ Below w.heap.size w wr) (fun i _ => n - (intOf i).toNat)
 case atStart => exact ⟨0, by omega, rfl, lh hr0, hb0⟩
 case round =>
  obtain ⟨k, hk, rfl, hr, hbw⟩ := hrel
  by_cases hkn : k < n
  ·obtain ⟨b, off, rfl, hlt, hx⟩ := HX.out (by have := HN.out; omega)
   have x0 := hx k (by have := HN.out; omega)
   have y0 : wr.cell? ⟨b, off + k, none⟩ = some (.int .i64 (iv xs k)) := by rw [hbw.cell (by show b < _; omega)]; exact x0
   clear x0 hx hr0 hb0
   have hr1 := hr.out (by omega)
   obtain ⟨v0, e0⟩ := (hr1.2.1 k (by omega)).2
   have f0 := (hr1.2.1 k (by omega)).1
   have hrs := lh (fun (_ : 0 < n) => hr1.store hkn rfl)
   clear hr1 hr
   go_wp2
   go_roundw
   case rel => exact ⟨k + 1, by omega, by go_num, hrs, eX⟩
   case measure => simp [intOf]; omega
  ·obtain rfl : k = n := by omega
   go_wp2
   go_ret
   by_cases h0 : k = 0
   ·subst h0
    obtain rfl := nil_of HN.out.symm
    exact ⟨_, rfl, own_empty _ _ _ _, hbw⟩
   ·exact ⟨_, rfl, IRow.own (hr.out (by omega)) HN.out (by omega) (Nat.le_refl _), hbw⟩
end Go.Proofs.YtkpfbnffhhmokaaGreat
