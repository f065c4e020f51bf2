/-
The program's timing graph of a block: its links, and the live ones from and to each node.
-/
import Derived.Test.YtmlbpfbdhhkfkaaGreatCellL
import Derived.Test.YtmlbpfbdhhkfkaaGreatWireL
import Derived.Test.YtmlbpfbdhhkfkaaGreatBin
import Derived.Test.YtmlbpfbdhhkfkaaGreatRowM
import Derived.Test.YtmlbpfbdhhkfkaaGreatLinkF
import Derived.Laws.AppendOwnNone
namespace Go.Proofs.YtmlbpfbdhhkfkaaGreat
open Go.ChangeShapes Go.WideShapes Go.ChangeAt Go.RowKit Go.Deep
set_option linter.unusedVariables false
set_option linter.unusedSimpArgs false
set_option maxRecDepth 100000
def nodesN (z : BlkD) : Nat := 2 * (places z.lib z.des).length
theorem ndN_is (z : BlkD) : ndN z = (nodesN z : Int) := by simp [ndN, nodesN]
def gB (bo bi N k : Nat) : Nat := if k < N then bo else bi
def gO (N k : Nat) : Nat := if k < N then k else k - N
def gR (z : BlkD) (bs : List Int) (N m k : Nat) : List Int := if k < N then froLN z bs (k : Int) m else toLN z bs ((k - N : Nat) : Int) m
theorem gR_dead {z : BlkD} {bs : List Int} {N m : Nat} (h : hasI bs (m : Int) = true) (k : Nat) : gR z bs N (m + 1) k = gR z bs N m k := by
 unfold gR
 by_cases hk : k < N
 ·rw [if_pos hk, if_pos hk, froLN_succ, h]; simp
 ·rw [if_neg hk, if_neg hk, toLN_succ, h]; simp
theorem gR_live {z : BlkD} {bs : List Int} {N m f t : Nat} (h : hasI bs (m : Int) = false) (hf : (lkn (linksL z) m).src = (f : Int)) (ht : (lkn (linksL z) m).dst = (t : Int)) (k : Nat) (hfN : f < N) :
  gR z bs N (m + 1) k = if k = N + t then gR z bs N m (N + t) ++ [(m : Int)] else if k = f then gR z bs N m f ++ [(m : Int)] else gR z bs N m k := by
 unfold gR
 by_cases hk : k < N
 ·rw [if_neg (show ¬ k = N + t by omega), if_pos hk, froLN_succ, h, hf, if_pos hfN]
  by_cases e : k = f
  ·subst e; simp
  ·have e2 : ¬ ((f : Int) = (k : Int)) := by omega
   simp [e, e2, hk]
 ·rw [if_neg hk, toLN_succ, h, ht, if_neg (show ¬ N + t < N by omega), if_neg (show ¬ k = f by omega)]
  by_cases e : k = N + t
  ·subst e; simp
  ·have e2 : ¬ ((t : Int) = ((k - N : Nat) : Int)) := by omega
   simp [e, e2, hk]
theorem gR_len (z : BlkD) (bs : List Int) (N m k : Nat) : (gR z bs N m k).length ≤ m := by
 unfold gR
 split
 ·exact froLN_len _ _ _ _
 ·exact toLN_len _ _ _ _
theorem gR_zero (z : BlkD) (bs : List Int) (N k : Nat) : gR z bs N 0 k = [] := by
 have := gR_len z bs N 0 k
 exact List.length_eq_zero_iff.1 (by omega)
theorem RowsIn.congr {w : World} {base n : Nat} {g o : Nat → Nat} {V : Nat → Value} {R R' : Nat → List Int} (h : RowsIn w base n g o V R) (e : ∀ k, R k = R' k) : RowsIn w base n g o V R' := by
 have : R = R' := funext e
 rw [← this]; exact h
theorem gInj {bo bi N j k : Nat} (hne : bo ≠ bi) (hj : j < 2 * N) (hjk : j ≠ k) (hg : gB bo bi N j = gB bo bi N k) : gO N j ≠ gO N k := by
 unfold gB at hg
 unfold gO
 by_cases h1 : j < N
 ·by_cases h2 : k < N
  ·simp only [if_pos h1, if_pos h2]; exact hjk
  ·simp only [if_pos h1, if_neg h2] at hg; exact absurd hg hne
 ·by_cases h2 : k < N
  ·simp only [if_neg h1, if_pos h2] at hg; exact absurd hg.symm hne
  ·simp only [if_neg h1, if_neg h2]; omega
/-- The graph as a value: its links and its two lists of lists, in memory of their own. -/
def GraphV (w : World) (L : Nat) (z : BlkD) (bs : List Int) (v : Value) : Prop :=
 ∃ lv bo bi base V, v = .agg #[lv, .slice (some ⟨bo, 0, none⟩) (nodesN z) (nodesN z), .slice (some ⟨bi, 0, none⟩) (nodesN z) (nodesN z)] ∧ L ≤ base ∧ L ≤ bo ∧ L ≤ bi ∧ bo ≠ bi ∧ GL w L lv (linksL z) ∧ RowsIn w base (2 * nodesN z) (gB bo bi (nodesN z)) (gO (nodesN z)) V (gR z bs (nodesN z) (linksL z).length)
theorem GL.set {w : World} {base : Nat} {v : Value} {L : List LkD} (h : GL w base v L) {p : Addr} (hp : p.block < base) (u : Value) : GL (w.setCell p u) base v L :=
 GR.kept h (grown_set w p u) (fun k hk e => by have := (GR.blk h k hk).1; have := Option.some.inj e; omega)
theorem GraphV.set {w : World} {L : Nat} {z : BlkD} {bs : List Int} {v : Value} (h : GraphV w L z bs v) {p : Addr} (hp : p.block < L) (u : Value) : GraphV (w.setCell p u) L z bs v := by
 obtain ⟨lv, bo, bi, base, V, e, h0, h1, h2, h3, h4, h5⟩ := h
 exact ⟨lv, bo, bi, base, V, e, h0, h1, h2, h3, h4.set hp u, h5.set (by omega) (fun k _ => by unfold gB; split <;> omega) u⟩
theorem GraphV.low {w : World} {L M : Nat} {z : BlkD} {bs : List Int} {v : Value} (h : GraphV w L z bs v) (hM : M ≤ L) : GraphV w M z bs v := by
 obtain ⟨lv, bo, bi, base, V, e, h0, h1, h2, h3, h4, h5⟩ := h
 exact ⟨lv, bo, bi, base, V, e, Nat.le_trans hM h0, Nat.le_trans hM h1, Nat.le_trans hM h2, h3, GR.low h4 hM, h5⟩
theorem GraphV.below {w w' : World} {L : Nat} {z : BlkD} {bs : List Int} {v : Value} (h : GraphV w L z bs v) (hb : Below w.heap.size w w') : GraphV w' L z bs v := by
 obtain ⟨lv, bo, bi, base, V, e, h0, h1, h2, h3, h4, h5⟩ := h
 exact ⟨lv, bo, bi, base, V, e, h0, h1, h2, h3, GR.below h4 hb, h5.below hb⟩
def GraphR (z : BlkD) (bs : List Int) (w : World) (e : Ending) (w' : World) : Prop :=
 ∃ v, e = .returned (.tuple #[v, .int .i64 (grCode z bs)]) ∧ (grCode z bs = 0 → GraphV w' w.heap.size z bs v) ∧ (grCode z bs ≠ 0 → v = .agg #[.slice none 0 0, .slice none 0 0, .slice none 0 0]) ∧ Below w.heap.size w w'
theorem graph_no {z : BlkD} {bs : List Int} {w w' : World} {e : Ending} {c : Int} (hc : grCode z bs = c) (h0 : c ≠ 0) (he : e = .returned (.tuple #[.agg #[.slice none 0 0, .slice none 0 0, .slice none 0 0], .int .i64 c])) (hb : Below w.heap.size w w') : GraphR z bs w e w' :=
 ⟨_, by rw [hc]; exact he, fun q => absurd (hc.symm.trans q) h0, fun _ => rfl, hb⟩
/-- 'append(xs, ys...)' of two lists of links, in a region. -/
theorem wp_append_links {w : World} {o : Oper} {a : Act} {K : Act → World → Prop} {Q : Exit → Act → World → Prop} (s x : Operand) (ho : o.op = .call { callee := .builtin .append, args := #[s, x], argTypes := #[34, 34] })
  (base base2 : Nat) (v v2 : Value) (L1 L2 : List LkD) (hs : a.eval s = v) (hx : a.eval x = v2) (h1 : GL w base v L1) (h2 : GL w base2 v2 L2) (hl : L1.length + L2.length ≤ 100000) (hbase : base ≤ w.heap.size)
  (h : ∀ v' w', GL w' base v' (L1 ++ L2) → w.grownBy w' v.ownBlock → (v'.ownBlock = v.ownBlock ∨ v'.ownBlock = some w.heap.size) → K (a.put o.dst v') w') : o.wp Tryz.prog a w K Q := by
 obtain ⟨ti, hi, hz0, hz1, hz2⟩ := info_parts Tryz.infoLk
 have e1 : (L1.map lkC).length = L1.length := List.length_map _
 have e2 : (L2.map lkC).length = L2.length := List.length_map _
 rcases h2.1.2 with ⟨rfl, hn⟩ | ⟨g, cap, cur, rfl, hb, hg, _⟩
 ·have hL2 : L2 = [] := List.length_eq_zero_iff.1 (by omega)
  subst hL2
  have hrun := run_append_owned_none (P := Tryz.prog) (w := w) base 34 o.type 80 ti 4 Tryz.underlying34 hi v _ _ h1.1
  unfold Oper.wp execOp
  simp [ho, resolve, invoke, builtin, hs, hx, hrun, Result.andThen]
  exact h v w (by rw [List.append_nil]; exact h1) (World.grownBy.refl _ _) (.inl rfl)
 ·refine wp_append_at w s x 34 ho base 80 ti (.agg #[.int .i64 0, .int .i64 0, .int .i64 0, .int .i64 0]) 4 32 Tryz.underlying34 hi hz0 hz1 hz2 rfl (by decide) v _ _ hs h1.1 ⟨g, 0, none⟩ (L2.map lkC).length cap (L2.map lkC).flatten hx ?_ ?_ ?_ (by unfold maxLen; omega) (by omega) hbase ?_
  ·exact flat_len _ h2.2
  ·intro j u hj
   have hlt : j < (L2.map lkC).flatten.length := (List.getElem?_eq_some_iff.1 hj).1
   rw [flat_len _ h2.2] at hlt
   have hc := World.ownsRow.cellAt h2.1 j hlt
   have e : (⟨g, 0, none⟩ : Addr).add j = ⟨g, j, none⟩ := by simp [Addr.add]; exact fun h => h.symm
   rw [e, hc]; exact hj
  ·intro u hu
   obtain ⟨l, hl1, hl2⟩ := List.mem_flatten.1 hu
   obtain ⟨q, _, rfl⟩ := List.mem_map.1 hl1
   simp only [lkC, List.mem_cons, List.not_mem_nil, or_false] at hl2
   rcases hl2 with rfl | rfl | rfl | rfl <;> rfl
  ·intro v' w' hown' hgrow _ hat
   refine h v' w' ⟨?_, fun f hf => ?_⟩ hgrow hat
   ·rw [List.map_append, List.flatten_append, List.length_append]; exact hown'
   ·rw [List.map_append] at hf
    rcases List.mem_append.1 hf with hf | hf
    ·exact h1.2 f hf
    ·exact h2.2 f hf
theorem made_rows (z : BlkD) (bs : List Int) {W : World} {bo bi N : Nat} {T : TypeId} (h1 : W.heap[bo]? = some (.cells (madeCells #[.slice none 0 0] N) T (0, 0))) (h2 : W.heap[bi]? = some (.cells (madeCells #[.slice none 0 0] N) T (0, 0))) :
  RowsIn W W.heap.size (2 * N) (gB bo bi N) (gO N) (fun _ => .slice none 0 0) (gR z bs N 0) := by
 have l1 : bo < W.heap.size := (Array.getElem?_eq_some_iff.1 h1).1
 have l2 : bi < W.heap.size := (Array.getElem?_eq_some_iff.1 h2).1
 have key : ∀ g i, (g = bo ∨ g = bi) → i < N → W.cell? ⟨g, i, none⟩ = some (.slice none 0 0) ∧ W.frozen? ⟨g, i, none⟩ = false ∧ g < W.heap.size := by
  intro g i hg hi
  have hgg : W.heap[g]? = some (.cells (madeCells #[.slice none 0 0] N) T (0, 0)) := by rcases hg with rfl | rfl <;> assumption
  refine ⟨?_, by simp [World.frozen?, hgg], by rcases hg with rfl | rfl <;> assumption⟩
  rw [cell_of_row W g i _ _ _ hgg]
  simp [madeCells, hi, Nat.mod_one]
 refine ⟨Nat.le_refl _, fun k hk => ?_, fun j k _ _ _ => .inl rfl⟩
 rw [gR_zero]
 by_cases h : k < N
 ·obtain ⟨a, b, c⟩ := key bo k (.inl rfl) h
  simp only [gB, gO, if_pos h]
  exact ⟨a, b, c, GI.nil _ _⟩
 ·obtain ⟨a, b, c⟩ := key bi (k - N) (.inr rfl) (by omega)
  simp only [gB, gO, if_neg h]
  exact ⟨a, b, c, GI.nil _ _⟩
theorem Tryz.infoRow : (Tryz.prog.info? 56).map (fun i => (i.zero, i.size, i.bytes)) = some (some (.slice none 0 0), 1, 24) := by kernel_rfl
theorem mkRows (N : Nat) (hN : N ≤ 1000) (W : World) : (Instr.makeSlice 73 (.int .i64 (N : Int)) (.int .i64 (N : Int))).run Tryz.prog W = .ok (.slice (some ⟨W.heap.size, 0, none⟩) N N) (W.alloc (.cells (madeCells #[.slice none 0 0] (N * 1)) 56)) := by
 obtain ⟨ti, hi, hz0, hz1, hz2⟩ := info_parts Tryz.infoRow
 have h := run_makeSlice W (P := Tryz.prog) 73 56 ti (.slice none 0 0) Tryz.underlying73 hi hz0 .i64 .i64 (N : Int) (N : Int) (by omega) (Int.le_refl _) (by rw [hz1]; omega) (by rw [hz2]; omega) (by omega)
 rw [hz1] at h
 simpa [Value.cells] using h
theorem heap3 (w : World) (a b c : Obj) : (((w.alloc a).alloc b).alloc c).drew.heap[w.heap.size]? = some a ∧ (((w.alloc a).alloc b).alloc c).drew.heap[w.heap.size + 1]? = some b ∧ (((w.alloc a).alloc b).alloc c).drew.heap[w.heap.size + 1 + 1]? = some c := by
 have e1 : (w.alloc a).heap.size = w.heap.size + 1 := by simp
 have e2 : ((w.alloc a).alloc b).heap.size = w.heap.size + 1 + 1 := by simp
 have b1 : Below (w.alloc a).heap.size (w.alloc a) (((w.alloc a).alloc b).alloc c) := by exact eX
 have b2 : Below ((w.alloc a).alloc b).heap.size ((w.alloc a).alloc b) (((w.alloc a).alloc b).alloc c) := by exact eX
 refine ⟨?_, ?_, ?_⟩
 ·have := b1.block w.heap.size (by omega)
  rw [heap_alloc_new] at this; exact this
 ·have := b2.block (w.heap.size + 1) (by omega)
  rw [← e1, heap_alloc_new, e1] at this; exact this
 ·have := heap_alloc_new ((w.alloc a).alloc b) c
  rw [e2] at this; exact this
/-- Two arrays of lists and the graph that points to them, all of them new. -/
structure Made8 (w10 wx : World) (N bo bi bg : Nat) (lv : Value) : Prop where
 d1 : bo ≠ bi
 d2 : bg ≠ bo
 d3 : bg ≠ bi
 l1 : w10.heap.size ≤ bo
 l2 : w10.heap.size ≤ bi
 l3 : w10.heap.size ≤ bg
 h1 : wx.heap[bo]? = some (.cells (madeCells #[.slice none 0 0] N) 56 (0, 0))
 h2 : wx.heap[bi]? = some (.cells (madeCells #[.slice none 0 0] N) 56 (0, 0))
 c0 : wx.cell? ⟨bg, 0, none⟩ = some lv
 c1 : wx.cell? ⟨bg, 1, none⟩ = some (.slice (some ⟨bo, 0, none⟩) N N)
 c2 : wx.cell? ⟨bg, 2, none⟩ = some (.slice (some ⟨bi, 0, none⟩) N N)
 b : Below w10.heap.size w10 wx
theorem made8 {w10 wx : World} {N bo bi bg : Nat} {lv : Value} {T : TypeId} (h1 : wx.heap[bo]? = some (.cells (madeCells #[.slice none 0 0] N) 56 (0, 0))) (h2 : wx.heap[bi]? = some (.cells (madeCells #[.slice none 0 0] N) 56 (0, 0)))
  (h3 : wx.heap[bg]? = some (.cells #[lv, .slice (some ⟨bo, 0, none⟩) N N, .slice (some ⟨bi, 0, none⟩) N N] T (0, 0))) (d1 : bo ≠ bi) (d2 : bg ≠ bo) (d3 : bg ≠ bi) (l1 : w10.heap.size ≤ bo) (l2 : w10.heap.size ≤ bi) (l3 : w10.heap.size ≤ bg) (b : Below w10.heap.size w10 wx) : Made8 w10 wx N bo bi bg lv :=
 ⟨d1, d2, d3, l1, l2, l3, h1, h2, by rw [cell_of_row _ _ _ _ _ _ h3]; rfl, by rw [cell_of_row _ _ _ _ _ _ h3]; rfl, by rw [cell_of_row _ _ _ _ _ _ h3]; rfl, b⟩
set_option maxHeartbeats 64000000 in
theorem graphOf_any (f : Nat → Value) (z : BlkD) (v : Value) (bs : List Int) (w : World) (h : BlkF w w.heap.size f z) (hv : IntS w w.heap.size v bs) (hbl : bs.length ≤ 1048576) :
  Calls Tryz.prog 46 #[.agg #[f 0, f 1, f 2, f 3, f 4], v] w (GraphR z bs w) := by
 obtain ⟨i0, hi, hz0, hz1, hz2⟩ := info_parts Tryz.infoI64
 have HB := Lib.hid (fun (w1 : World) (hb : Below w.heap.size w w1) => netBlk_all f z w1 (h.up hb))
 have HCL := Lib.hid (fun (hb : blkB z = true) (w1 : World) (hb' : Below w.heap.size w w1) => cellLinks_any f z w1 (h.up hb') hb)
 obtain ⟨p0, q0, p1, q1, p2, q2, p3, q3, p4, q4, e0, e1, e2, e3, e4⟩ := h.five
 obtain ⟨va, vc, rfl⟩ := hv.slice
 have HV := Lib.hid (fun (w1 : World) (hb : Below w.heap.size w w1) => hv.up hb)
 rw [e0, e1, e2, e3, e4] at HB HCL
 rw [e0, e1, e2, e3, e4]
 clear e0 e1 e2 e3 e4 h hv
 unfold BlkNet at HB
 unfold CLinksR at HCL
 obtain ⟨U, hU⟩ : ∃ U, U = (w.alloc (Obj.cells #[.slice p0 z.lib.length q0, .slice p1 z.des.insts.length q1, .slice p2 z.des.nets.length q2, .slice p3 z.des.ports.length q3, .slice p4 z.wires.length q4] 46)).alloc (Obj.cells #[.slice none 0 0, .slice none 0 0, .slice none 0 0] 75) := ⟨_, rfl⟩
 have k0 : U.cell? ⟨w.heap.size, 0, none⟩ = some (.slice p0 z.lib.length q0) := by rw [hU]; simp [go_sem]
 have k1 : U.cell? ⟨w.heap.size, 1, none⟩ = some (.slice p1 z.des.insts.length q1) := by rw [hU]; simp [go_sem]
 have k2 : U.cell? ⟨w.heap.size, 2, none⟩ = some (.slice p2 z.des.nets.length q2) := by rw [hU]; simp [go_sem]
 have k3 : U.cell? ⟨w.heap.size, 3, none⟩ = some (.slice p3 z.des.ports.length q3) := by rw [hU]; simp [go_sem]
 have k4 : U.cell? ⟨w.heap.size, 4, none⟩ = some (.slice p4 z.wires.length q4) := by rw [hU]; simp [go_sem]
 have v0 : U.cell? ⟨w.heap.size + 1, 0, none⟩ = some (.slice none 0 0) := by rw [hU]; simp [go_sem]
 have v1 : U.cell? ⟨w.heap.size + 1, 1, none⟩ = some (.slice none 0 0) := by rw [hU]; simp [go_sem]
 have v2 : U.cell? ⟨w.heap.size + 1, 2, none⟩ = some (.slice none 0 0) := by rw [hU]; simp [go_sem]
 have f0 : U.frozen? ⟨w.heap.size + 1, 0, none⟩ = false := by rw [hU]; simp [go_sem]
 have f1 : U.frozen? ⟨w.heap.size + 1, 1, none⟩ = false := by rw [hU]; simp [go_sem]
 have f2 : U.frozen? ⟨w.heap.size + 1, 2, none⟩ = false := by rw [hU]; simp [go_sem]
 have bU : Below w.heap.size w U := by rw [hU]; exact ((Below.refl _ _).alloc (Nat.le_refl _) _).alloc (by simp) _
 have sU : w.heap.size + 1 < U.heap.size := cell_lt v0
 have HU := Lib.hid hU
 clear hU
 cases hb : blkB z
 ·have hQ := Lib.hid (show grCode z bs = 1 by simp [grCode, hb])
  rw [hb] at HB
  clear hb HCL
  go_enter Tryz.func46, Tryz.ntmps46
  go_wp2_with fail
  rw [← HU.out]
  (go_at_call 55; refine (HB.out _ bU).mono ?_; rintro e w1 ⟨a, n, c, m, rfl, hb, _⟩)
  have b1 := ext_trans bU hb
  have t0 := cell_keep v0 hb; have t1 := cell_keep v1 hb; have t2 := cell_keep v2 hb
  have u0 : w1.frozen? ⟨w.heap.size + 1, 0, none⟩ = false := by rw [hb.frozen (p := ⟨w.heap.size + 1, 0, none⟩) sU]; exact f0
  have u1 : w1.frozen? ⟨w.heap.size + 1, 1, none⟩ = false := by rw [hb.frozen (p := ⟨w.heap.size + 1, 1, none⟩) sU]; exact f1
  have u2 : w1.frozen? ⟨w.heap.size + 1, 2, none⟩ = false := by rw [hb.frozen (p := ⟨w.heap.size + 1, 2, none⟩) sU]; exact f2
  have sz : w.heap.size + 1 < w1.heap.size := by have := hb.size; omega
  have sz0 : w.heap.size < w1.heap.size := by omega
  clear k0 k1 k2 k3 k4 v0 v1 v2 f0 f1 f2 hb bU
  go_wp2
  exact bodyPost_ret (v := .tuple #[.agg #[.slice none 0 0, .slice none 0 0, .slice none 0 0], .int .i64 1]) (by simp [results, Tryz.results46, go_sem, *]) rfl (graph_no hQ.out (by decide) rfl eX)
 ·have hd := (blk_get hb).1
  have h100 := placesM hd
  have hwl : z.wires.length = z.des.nets.length := (blk_get hb).2.1
  have hll := linksL_len hb
  have HCL := Lib.hid (HCL.out hb)
  have HIN := Lib.hid (fun k (hk : k < (linksL z).length) => links_at hb hk)
  have HWL := Lib.hid (fun (a : Option Addr) (n cap : Nat) (m : Option Nat) (L : Nat) (w1 : World) (hK : NetK w1 L (places z.lib z.des) (.agg #[.slice a n cap, .map m])) => (show Calls Tryz.prog 89 #[.agg #[.slice a n cap, .map m], .int .i64 (z.wires.length : Int)] w1 (WLinksR z w1) from by rw [hwl]; exact wireLinks_any z a n cap m L w1 hb hK))
  have HGC := Lib.hid (show grCode z bs = if risB bs ((linksL z).length : Int) then 0 else 2 by simp [grCode, hb])
  have HLE := Lib.hid (show linksL z = instsLk z z.des.insts.length ++ netsLk (places z.lib z.des) z.des.nets.length from rfl)
  have HLN := Lib.hid (show (instsLk z z.des.insts.length).length + (netsLk (places z.lib z.des) z.des.nets.length).length ≤ 7000 by rw [← List.length_append]; exact hll)
  rw [hb] at HB
  unfold WLinksR at HWL
  clear hb hd hwl
  go_enter Tryz.func46, Tryz.ntmps46
  go_wp2_with fail
  rw [← HU.out]
  (go_at_call 55; refine (HB.out _ bU).mono ?_; rintro e w1 ⟨a, n, c, m, rfl, hb, hk⟩)
  have hk := hk (by trivial)
  obtain ⟨hn, _, _⟩ := hk.look (by omega)
  subst hn
  have b1 := ext_trans bU hb
  have g0 := cell_keep k0 hb
  have g1 := cell_keep k1 hb
  have g2 := cell_keep k2 hb
  have g3 := cell_keep k3 hb
  have g4 := cell_keep k4 hb
  have t0 := cell_keep v0 hb
  have t1 := cell_keep v1 hb
  have t2 := cell_keep v2 hb
  have u0 : w1.frozen? ⟨w.heap.size + 1, 0, none⟩ = false := by rw [hb.frozen (p := ⟨w.heap.size + 1, 0, none⟩) sU]; exact f0
  have u1 : w1.frozen? ⟨w.heap.size + 1, 1, none⟩ = false := by rw [hb.frozen (p := ⟨w.heap.size + 1, 1, none⟩) sU]; exact f1
  have u2 : w1.frozen? ⟨w.heap.size + 1, 2, none⟩ = false := by rw [hb.frozen (p := ⟨w.heap.size + 1, 2, none⟩) sU]; exact f2
  have sz : w.heap.size + 1 < w1.heap.size := by have := hb.size; omega
  have sz0 : w.heap.size < w1.heap.size := by omega
  clear k0 k1 k2 k3 k4 v0 v1 v2 f0 f1 f2 hb bU
  obtain ⟨W, hW⟩ : ∃ W, W = w1.alloc (Obj.cells #[.slice a (places z.lib z.des).length c, .map m] 90) := ⟨_, rfl⟩
  have bA : Below w1.heap.size w1 W := by rw [hW]; exact (Below.refl _ _).alloc (Nat.le_refl _) _
  have n0 : W.cell? ⟨w1.heap.size, 0, none⟩ = some (.slice a (places z.lib z.des).length c) := by rw [hW]; simp [go_sem]
  have n1 : W.cell? ⟨w1.heap.size, 1, none⟩ = some (.map m) := by rw [hW]; simp [go_sem]
  have h0 := cell_keep g0 bA
  have h1 := cell_keep g1 bA
  have h2 := cell_keep g2 bA
  have h3 := cell_keep g3 bA
  have h4 := cell_keep g4 bA
  have x0 := cell_keep t0 bA
  have x1 := cell_keep t1 bA
  have x2 := cell_keep t2 bA
  have y0 : W.frozen? ⟨w.heap.size + 1, 0, none⟩ = false := by rw [bA.frozen (p := ⟨w.heap.size + 1, 0, none⟩) sz]; exact u0
  have y1 : W.frozen? ⟨w.heap.size + 1, 1, none⟩ = false := by rw [bA.frozen (p := ⟨w.heap.size + 1, 1, none⟩) sz]; exact u1
  have y2 : W.frozen? ⟨w.heap.size + 1, 2, none⟩ = false := by rw [bA.frozen (p := ⟨w.heap.size + 1, 2, none⟩) sz]; exact u2
  have bW := b1.trans (bA.mono b1.size)
  have sW : w1.heap.size < W.heap.size := cell_lt n0
  have HK := Lib.hid (hk.below bA)
  clear g0 g1 g2 g3 g4 t0 t1 t2 u0 u1 u2 hk bA b1
  go_wp2_with fail
  rw [← hW]
  clear hW
  refine wp_region_held_drew (S := (fun w' => w'.cell? ⟨w.heap.size, 0, none⟩ = some (.slice p0 z.lib.length q0) ∧ w'.cell? ⟨w.heap.size, 1, none⟩ = some (.slice p1 z.des.insts.length q1) ∧ w'.cell? ⟨w.heap.size, 2, none⟩ = some (.slice p2 z.des.nets.length q2) ∧ w'.cell? ⟨w.heap.size, 3, none⟩ = some (.slice p3 z.des.ports.length q3) ∧ w'.cell? ⟨w.heap.size, 4, none⟩ = some (.slice p4 z.wires.length q4) ∧ w'.cell? ⟨w1.heap.size, 0, none⟩ = some (.slice a (places z.lib z.des).length c) ∧ w'.cell? ⟨w1.heap.size, 1, none⟩ = some (.map m) ∧ Below W.heap.size W w')) (by kernel_rfl) ?_ (fun hHeld => ?_)
  ·(try dsimp only); exact ⟨h0, h1, h2, h3, h4, n0, n1, eX⟩
  (try dsimp only at hHeld)
  refine takeH 0 (v := ?_) rfl ?_ ?_; rotate_left; focus (intro w' hSw; (try dsimp only at hSw); go_simp; try (with_reducible rfl))
  (try simp only [actP])
  refine takeH 2 (v := ?_) rfl ?_ ?_; rotate_left; focus (intro w' hSw; (try dsimp only at hSw); go_simp; try (with_reducible rfl))
  (try simp only [actP])
  refine takeH 3 (v := ?_) rfl ?_ ?_; rotate_left; focus (intro w' hSw; (try dsimp only at hSw); go_simp; try (with_reducible rfl))
  (try simp only [actP])
  refine takeH 4 (v := ?_) rfl ?_ ?_; rotate_left; focus (intro w' hSw; (try dsimp only at hSw); go_simp; try (with_reducible rfl))
  (try simp only [actP])
  refine takeH 5 (v := ?_) rfl ?_ ?_; rotate_left; focus (intro w' hSw; (try dsimp only at hSw); go_simp; try (with_reducible rfl))
  (try simp only [actP])
  refine wpAnyH_ready (rs := [1]) (by kernel_rfl) (by simp) ?_
  refine AllReadyH.cons rfl (fun K hK => ?_) AllReadyH.nil
  go_simp
  (go_at_call 88; refine (HCL.out _ (by exact eX)).mono ?_; rintro e wa ⟨lv, rfl, hL, hba⟩)
  refine hK.out _ _ (⟨cell_keep hHeld.1 hba, cell_keep hHeld.2.1 hba, cell_keep hHeld.2.2.1 hba, cell_keep hHeld.2.2.2.1 hba, cell_keep hHeld.2.2.2.2.1 hba, cell_keep hHeld.2.2.2.2.2.1 hba, cell_keep hHeld.2.2.2.2.2.2.1 hba, eT hHeld.2.2.2.2.2.2.2 hba⟩) (fun hHeld' => ?_)
  clear hK K hHeld
  have hHeld := hHeld'
  clear hHeld'
  (try simp only [actP])
  refine wpAnyH_ready (rs := [6]) (by kernel_rfl) (by simp) ?_
  refine AllReadyH.cons rfl (fun K hK => ?_) AllReadyH.nil
  go_simp
  (go_at_call 89; refine (HWL.out a _ c m _ wa (HK.out.below hHeld.2.2.2.2.2.2.2)).mono ?_; rintro e wb ⟨lw, rfl, hM, hbb⟩)
  refine hK.out _ _ (⟨cell_keep hHeld.1 hbb, cell_keep hHeld.2.1 hbb, cell_keep hHeld.2.2.1 hbb, cell_keep hHeld.2.2.2.1 hbb, cell_keep hHeld.2.2.2.2.1 hbb, cell_keep hHeld.2.2.2.2.2.1 hbb, cell_keep hHeld.2.2.2.2.2.2.1 hbb, eT hHeld.2.2.2.2.2.2.2 hbb⟩) (fun hHeld' => ?_)
  clear hK K hHeld
  have hHeld := hHeld'
  clear hHeld'
  (try simp only [actP])
  have zba : W.heap.size ≤ wa.heap.size := by have := hba.size; simpa using this
  have zbb := hbb.size
  have HG1 := Lib.hid (show GL wb W.heap.size lv _ from GR.below hL hbb)
  clear hL
  refine wpAnyH_ready (rs := [7]) (by kernel_rfl) (by simp) ?_
  refine AllReadyH.cons rfl (fun K hK => ?_) AllReadyH.nil
  rw [if_pos (by rfl)]
  refine wp_append_links _ _ rfl W.heap.size _ lv lw _ _ rfl rfl HG1.out hM (by have := HLN.out; omega) (by omega) ?_
  intro v' w9 hG hgrow hat
  have ne : ∀ g, g < W.heap.size → some g ≠ lv.ownBlock := fun g hg e => by have := (HG1.out.blk g e.symm).1; omega
  have b9 : Below W.heap.size W w9 := hHeld.2.2.2.2.2.2.2.grown hgrow (by omega) (fun k hk => (HG1.out.blk k hk).1)
  refine hK.out _ _ (⟨hgrow.cell hHeld.1 (ne _ (by show w.heap.size < W.heap.size; omega)), hgrow.cell hHeld.2.1 (ne _ (by show w.heap.size < W.heap.size; omega)), hgrow.cell hHeld.2.2.1 (ne _ (by show w.heap.size < W.heap.size; omega)), hgrow.cell hHeld.2.2.2.1 (ne _ (by show w.heap.size < W.heap.size; omega)), hgrow.cell hHeld.2.2.2.2.1 (ne _ (by show w.heap.size < W.heap.size; omega)), hgrow.cell hHeld.2.2.2.2.2.1 (ne _ (by show w1.heap.size < W.heap.size; omega)), hgrow.cell hHeld.2.2.2.2.2.2.1 (ne _ (by show w1.heap.size < W.heap.size; omega)), b9⟩) (fun hHeld' => ?_)
  clear hK K hHeld
  have hHeld := hHeld'
  clear hHeld'
  (try simp only [actP])
  refine takeH 8 (v := ?_) rfl ?_ ?_; rotate_left; focus (intro w' hSw; (try dsimp only at hSw); go_simp; try (with_reducible rfl))
  (try simp only [actP])
  refine wpAnyH_done (by kernel_rfl) ?_ _
  have r0 := hHeld.2.2.2.2.2.1
  rw [← HLE.out] at hG
  have hS := GL.lks hG (by omega)
  obtain ⟨la, lc, rfl⟩ := hS.slice
  have HG := Lib.hid hG
  have HS := Lib.hid hS
  have bw9 := bW.trans (b9.mono bW.size)
  have zW9 := b9.size
  clear hHeld hgrow hat hG hS ne HG1 hM hba hbb
  have sz9 : w.heap.size + 1 < w9.heap.size := by omega
  have X0 := cell_keep x0 b9; have X1 := cell_keep x1 b9; have X2 := cell_keep x2 b9
  have Y0 : w9.frozen? ⟨w.heap.size + 1, 0, none⟩ = false := by rw [b9.frozen (p := ⟨w.heap.size + 1, 0, none⟩) (show w.heap.size + 1 < W.heap.size by omega)]; exact y0
  have Y1 : w9.frozen? ⟨w.heap.size + 1, 1, none⟩ = false := by rw [b9.frozen (p := ⟨w.heap.size + 1, 1, none⟩) (show w.heap.size + 1 < W.heap.size by omega)]; exact y1
  have Y2 : w9.frozen? ⟨w.heap.size + 1, 2, none⟩ = false := by rw [b9.frozen (p := ⟨w.heap.size + 1, 2, none⟩) (show w.heap.size + 1 < W.heap.size by omega)]; exact y2
  clear h0 h1 h2 h3 h4 n0 n1 x0 x1 x2 y0 y1 y2
  cases hr : risB bs ((linksL z).length : Int)
  ·have hQ := Lib.hid (show grCode z bs = 2 by rw [HGC.out, hr]; rfl)
   have HX := Lib.hid (show Calls Tryz.prog 90 #[.slice la (linksL z).length lc, .slice va bs.length vc] w9 fun e w' => e = .returned (.bool false) ∧ Below w9.heap.size w9 w' from by
    have := isIxList_any la (linksL z).length lc (.slice va bs.length vc) bs w9 (HV.out w9 bw9) (by omega)
    rw [hr] at this
    exact this)
   clear hr HGC HIN
   go_wp2_with fail
   (go_at_call 90; refine HX.out.mono ?_; rintro e w10 ⟨rfl, hb⟩)
   have b10 := bw9.trans (hb.mono bw9.size)
   have q0 := cell_keep X0 hb; have q1 := cell_keep X1 hb; have q2 := cell_keep X2 hb
   have m0 : w10.frozen? ⟨w.heap.size + 1, 0, none⟩ = false := by rw [hb.frozen (p := ⟨w.heap.size + 1, 0, none⟩) sz9]; exact Y0
   have m1 : w10.frozen? ⟨w.heap.size + 1, 1, none⟩ = false := by rw [hb.frozen (p := ⟨w.heap.size + 1, 1, none⟩) sz9]; exact Y1
   have m2 : w10.frozen? ⟨w.heap.size + 1, 2, none⟩ = false := by rw [hb.frozen (p := ⟨w.heap.size + 1, 2, none⟩) sz9]; exact Y2
   have s10 : w.heap.size + 1 < w10.heap.size := cell_lt q0
   clear X0 X1 X2 Y0 Y1 Y2 r0 hb
   go_wp2
   exact bodyPost_ret (v := .tuple #[.agg #[.slice none 0 0, .slice none 0 0, .slice none 0 0], .int .i64 2]) (by simp [results, Tryz.results46, go_sem, *]) rfl (graph_no hQ.out (by decide) rfl (by exact eX))
  ·have hQ := Lib.hid (show grCode z bs = 0 by rw [HGC.out, hr]; rfl)
   have HX := Lib.hid (show Calls Tryz.prog 90 #[.slice la (linksL z).length lc, .slice va bs.length vc] w9 fun e w' => e = .returned (.bool true) ∧ Below w9.heap.size w9 w' from by
    have := isIxList_any la (linksL z).length lc (.slice va bs.length vc) bs w9 (HV.out w9 bw9) (by omega)
    rw [hr] at this
    exact this)
   have HINC := Lib.hid (ris_inc hr)
   have HMK := Lib.hid (mkRows (nodesN z) (by unfold nodesN; omega))
   obtain ⟨N, hN⟩ : ∃ N, N = nodesN z := ⟨_, rfl⟩
   have hNP : (2 : Int) * ((places z.lib z.des).length : Int) = (N : Int) := by rw [hN]; simp [nodesN]
   have w2P : IntKind.i64.wrap ((N : Int)) = (N : Int) := IntWalk.i64_in _ (by rw [← hNP]; omega)
   have hN200 : N ≤ 200 := by omega
   rw [← hN] at HMK
   have HN := Lib.hid hN
   clear hr HGC hN
   go_wp2_with fail
   (go_at_call 90; refine HX.out.mono ?_; rintro e w10 ⟨rfl, hb⟩)
   have b10 := bw9.trans (hb.mono bw9.size)
   have q0 := cell_keep X0 hb; have q1 := cell_keep X1 hb; have q2 := cell_keep X2 hb; have r1 := cell_keep r0 hb
   have m0 : w10.frozen? ⟨w.heap.size + 1, 0, none⟩ = false := by rw [hb.frozen (p := ⟨w.heap.size + 1, 0, none⟩) sz9]; exact Y0
   have m1 : w10.frozen? ⟨w.heap.size + 1, 1, none⟩ = false := by rw [hb.frozen (p := ⟨w.heap.size + 1, 1, none⟩) sz9]; exact Y1
   have m2 : w10.frozen? ⟨w.heap.size + 1, 2, none⟩ = false := by rw [hb.frozen (p := ⟨w.heap.size + 1, 2, none⟩) sz9]; exact Y2
   have s10 : w.heap.size + 1 < w10.heap.size := cell_lt q0
   have HG10 := Lib.hid (show GL w10 W.heap.size _ _ from GR.below HG.out hb)
   have zW10 : W.heap.size ≤ w10.heap.size := by have := hb.size; omega
   clear X0 X1 X2 Y0 Y1 Y2 r0 hb HG HS
   go_upto_region 8 with fail
   have hmk := HMK.out
   go_cut [10] (fun s10 wx => ∃ bo bi bg : Nat, s10 = .pointer (some ⟨bg, 0, none⟩) ∧ Made8 w10 wx N bo bi bg (.slice la (linksL z).length lc))
   case first =>
    go_region
    all_goals (go_wp2_with fail; go_meet)
    all_goals (first | exact ⟨w10.heap.size, w10.heap.size + 1, w10.heap.size + 1 + 1, rfl, made8 (heap3 w10 _ _ _).1 (heap3 w10 _ _ _).2.1 (heap3 w10 _ _ _).2.2 (by omega) (by omega) (by omega) (by omega) (by omega) (by omega) (by exact eX)⟩ | exact ⟨w10.heap.size, w10.heap.size + 1 + 1, w10.heap.size + 1, rfl, made8 (heap3 w10 _ _ _).1 (heap3 w10 _ _ _).2.2 (heap3 w10 _ _ _).2.1 (by omega) (by omega) (by omega) (by omega) (by omega) (by omega) (by exact eX)⟩ | exact ⟨w10.heap.size + 1, w10.heap.size, w10.heap.size + 1 + 1, rfl, made8 (heap3 w10 _ _ _).2.1 (heap3 w10 _ _ _).1 (heap3 w10 _ _ _).2.2 (by omega) (by omega) (by omega) (by omega) (by omega) (by omega) (by exact eX)⟩ | exact ⟨w10.heap.size + 1, w10.heap.size + 1 + 1, w10.heap.size, rfl, made8 (heap3 w10 _ _ _).2.1 (heap3 w10 _ _ _).2.2 (heap3 w10 _ _ _).1 (by omega) (by omega) (by omega) (by omega) (by omega) (by omega) (by exact eX)⟩ | exact ⟨w10.heap.size + 1 + 1, w10.heap.size, w10.heap.size + 1, rfl, made8 (heap3 w10 _ _ _).2.2 (heap3 w10 _ _ _).1 (heap3 w10 _ _ _).2.1 (by omega) (by omega) (by omega) (by omega) (by omega) (by omega) (by exact eX)⟩ | exact ⟨w10.heap.size + 1 + 1, w10.heap.size + 1, w10.heap.size, rfl, made8 (heap3 w10 _ _ _).2.2 (heap3 w10 _ _ _).2.1 (heap3 w10 _ _ _).1 (by omega) (by omega) (by omega) (by omega) (by omega) (by omega) (by exact eX)⟩)
   case rest =>
    obtain ⟨wk, hwk⟩ : ∃ wk : World, wk = wc := ⟨_, rfl⟩
    subst hwk
    obtain ⟨bo, bi, bg, rfl, hM8⟩ := hcut
    have zc := hM8.b.size
    have bwc := b10.trans (hM8.b.mono b10.size)
    have c0 := cell_keep q0 hM8.b; have c1 := cell_keep q1 hM8.b; have c2 := cell_keep q2 hM8.b
    have RW := Lib.hid (made_rows z bs hM8.h1 hM8.h2)
    have HGc := Lib.hid (show GL wk W.heap.size (.slice la (linksL z).length lc) (linksL z) from GR.below HG10.out hM8.b)
    have HSc := Lib.hid (GL.lks HGc.out (by omega))
    have HGB := Lib.hid (fun g (hg : (Value.slice la (linksL z).length lc).ownBlock = some g) => (HG10.out.blk g hg).2)
    have HM8 := Lib.hid hM8
    have dd1 := hM8.d1; have dd2 := hM8.d2; have dd3 := hM8.d3; have ll1 := hM8.l1; have ll2 := hM8.l2; have ll3 := hM8.l3
    have gc1 := hM8.c1; have gc2 := hM8.c2; have gc0 := hM8.c0
    have sgc := cell_lt gc1
    have sbo : bo < wk.heap.size := (Array.getElem?_eq_some_iff.1 hM8.h1).1
    have sbi : bi < wk.heap.size := (Array.getElem?_eq_some_iff.1 hM8.h2).1
    have frz : ∀ j, w10.frozen? ⟨w.heap.size + 1, j, none⟩ = false → wk.frozen? ⟨w.heap.size + 1, j, none⟩ = false := fun j hj => by rw [hM8.b.frozen (p := ⟨w.heap.size + 1, j, none⟩) (show w.heap.size + 1 < w10.heap.size by omega)]; exact hj
    have mc0 := frz 0 m0; have mc1 := frz 1 m1; have mc2 := frz 2 m2
    obtain ⟨nl, hnl⟩ : ∃ n, n = (linksL z).length := ⟨_, rfl⟩
    rw [← hnl] at hll HSc HGc HGB HIN gc0
    (try rw [← hnl])
    have NL := Lib.hid hnl
    have s1w : w.heap.size + 1 < wk.heap.size := by omega
    clear hM8 q0 q1 q2 m0 m1 m2 frz r1 HG10 HX hnl HMK hmk
    go_wp2_with fail
    go_loopw [48] (fun i wr => ∃ (m : Nat) (V : Nat → Value), m ≤ nl ∧ i = .int .i64 m ∧ Hid (RowsIn wr wk.heap.size (2 * N) (gB bo bi N) (gO N) V (gR z bs N m)) ∧ Hid (OnlyIn wk wr wk.heap.size (fun k => k = bo ∨ k = bi))) (fun i _ => nl - (intOf i).toNat)
    case atStart => exact ⟨0, _, by omega, rfl, RW, Lib.hid (OnlyIn.refl _ _ _)⟩
    case round =>
     clear RW
     obtain ⟨m, V, hm, rfl, hR, hO⟩ := hrel
     obtain ⟨wo, hwo⟩ : ∃ wo : World, wo = wr := ⟨_, rfl⟩
     subst hwo
     have zO := hO.out.size
     have bww : Below w.heap.size w wo := bwc.trans (hO.out.below (B := w.heap.size) (by omega) (fun k hk => by rcases hk with rfl | rfl <;> omega))
     by_cases hlt : m < nl
     ·obtain ⟨lb, lo, rfl, hlb, l0, l1, l2, l3⟩ := HSc.out.at (Below.refl _ _) (show m < (linksL z).length by rw [← NL.out]; exact hlt)
      have nS : ¬ (lb = bo ∨ lb = bi) := by have := HGB.out lb rfl; omega
      have l0 := hO.out.cell l0 hlb nS; have l1 := hO.out.cell l1 hlb nS; have l2 := hO.out.cell l2 hlb nS; have l3 := hO.out.cell l3 hlb nS
      have e1 := hO.out.cell gc1 sgc (by simp; omega); have e2 := hO.out.cell gc2 sgc (by simp; omega)
      obtain ⟨s0, s1, d0, d1⟩ := HIN.out m hlt
      rw [ndN_is, ← HN.out] at s1 d1
      obtain ⟨fs, hfs⟩ := Int.eq_ofNat_of_zero_le s0
      obtain ⟨ft, hft⟩ := Int.eq_ofNat_of_zero_le d0
      have GLV := Lib.hid (fun (hh : hasI bs (m : Int) = false) (k : Nat) (hfN : fs < N) => gR_live (N := N) hh hfs hft k hfN)
      rw [hfs] at l0 s1; rw [hft] at l1 d1
      have hfN : fs < N := by omega
      have htN : ft < N := by omega
      have ij0 : (0 : Int) ≤ (fs : Int) := by omega
      have ij1 : (0 : Int) ≤ (ft : Int) := by omega
      have im0 : (0 : Int) ≤ (m : Int) := by omega
      have im1 : (m : Int) < (nl : Int) := by omega
      have lbw : lb < wo.heap.size := by omega
      clear hfs hft s0 d0 nS
      go_wp2_with fail
      (go_at_call 91; refine (binSearch_any (.slice va bs.length vc) bs (m : Int) _ (HV.out _ (by exact eX)) HINC.out hbl).mono ?_; rintro e wp ⟨pp, qq, rfl, hwp, -⟩)
      have bp : Below wo.heap.size wo wp := by rw [hwp]; exact eX
      have bq : Below (wo.alloc (Obj.cells #[.int .i64 (fs : Int), .int .i64 (ft : Int), .int .i64 (lkn (linksL z) m).kind, .int .i64 (lkn (linksL z) m).ix] 80)).heap.size (wo.alloc (Obj.cells #[.int .i64 (fs : Int), .int .i64 (ft : Int), .int .i64 (lkn (linksL z) m).kind, .int .i64 (lkn (linksL z) m).ix] 80)) wp := by rw [hwp]; exact eN (eR _ _) _
      have el0 : wp.cell? ⟨wo.heap.size, 0, none⟩ = some (.int .i64 (fs : Int)) := cell_keep (by simp [go_sem]) bq
      have el1 : wp.cell? ⟨wo.heap.size, 1, none⟩ = some (.int .i64 (ft : Int)) := cell_keep (by simp [go_sem]) bq
      have ec1 := cell_keep e1 bp; have ec2 := cell_keep e2 bp
      have zwp : wo.heap.size < wp.heap.size := cell_lt el0
      have RP := Lib.hid (hR.out.below bp)
      have OP := Lib.hid (hO.out.trans (OnlyIn.call bp zO))
      clear bq hwp l0 l1 l2 l3 e1 e2
      cases hh : hasI bs (m : Int)
      ·have GLV := Lib.hid (fun k => GLV.out hh k hfN)
       clear hh
       have NLT := Lib.hid (show some wo.heap.size ≠ (V (N + ft)).ownBlock from fun e => by have := (World.ownsRow.lt (hR.out.2.1 (N + ft) (by omega)).2.2.2 _ e.symm).2; omega)
       obtain ⟨rcell1, rfroz1, rlt1, rown1⟩ := RP.out.2.1 (fs) (by omega)
       have EG1 := Lib.hid (show gB bo bi N (fs) = bo from if_pos hfN)
       have EO1 := Lib.hid (show gO N (fs) = fs from if_pos hfN)
       rw [EG1.out] at rlt1
       rw [EG1.out, EO1.out] at rcell1 rfroz1
       (try dsimp only at rown1)
       obtain ⟨rn1, hrn1⟩ : ∃ n, n = (gR z bs N m fs).length := ⟨_, rfl⟩
       obtain ⟨ra1, rc1, hrv1⟩ := own_slice rown1
       have rlen1 := gR_len z bs N m fs
       rw [← hrn1] at hrv1 rlen1
       have HRV1 := Lib.hid hrv1
       have NB1 := Lib.hid (fun g (hg : g < wk.heap.size) => (show some g ≠ (V (fs)).ownBlock from fun e => by have := rown1.blk g e.symm; omega))
       have NL1 := Lib.hid (show some wo.heap.size ≠ (V (fs)).ownBlock from fun e => by have := (World.ownsRow.lt (hR.out.2.1 fs (by omega)).2.2.2 _ e.symm).2; omega)
       have ROWN1 := Lib.hid rown1
       have RN1 := Lib.hid hrn1
       rw [hrv1] at rcell1
       have GC1 : wp.cell? ⟨bg, 1, none⟩ = some (.slice (some ⟨bo, 0, none⟩) N N) := ec1
       have LC1 : wp.cell? ⟨wo.heap.size, 0, none⟩ = some (.int .i64 (fs : Int)) := el0
       have bA1 : Below wp.heap.size wp ((wp.alloc (Obj.cells #[.int .i64 (m : Int)] 2)).drew) := by exact eX
       clear hrv1 rown1 hrn1
       go_upto_region 14 with fail
       go_cut [48] from 48 to 89 (fun s48 wx => s48 = .int .i64 (m : Int) ∧ ∃ V1 : Nat → Value, Hid (RowsIn wx wk.heap.size (2 * N) (gB bo bi N) (gO N) V1 (fun j => if j = fs then gR z bs N m fs ++ [(m : Int)] else gR z bs N m j)) ∧ Hid (OnlyIn wk wx wk.heap.size (fun k => k = bo ∨ k = bi)) ∧ wx.cell? ⟨bg, 2, none⟩ = some (.slice (some ⟨bi, 0, none⟩) N N) ∧ wx.cell? ⟨wo.heap.size, 1, none⟩ = some (.int .i64 (ft : Int)) ∧ Hid (some wo.heap.size ≠ (V1 (N + ft)).ownBlock) ∧ wo.heap.size < wx.heap.size)
       case first =>
        refine wp_region_held_drew (S := (fun w' => w'.cell? ⟨bg, 1, none⟩ = some (.slice (some ⟨bo, 0, none⟩) N N) ∧ w'.cell? ⟨wo.heap.size, 0, none⟩ = some (.int .i64 (fs : Int)))) (by kernel_rfl) ?_ (fun hHeld => ?_)
        ·(try dsimp only); exact ⟨GC1, LC1⟩
        (try dsimp only at hHeld)
        refine takeH 0 (v := ?_) rfl ?_ ?_; rotate_left; focus (intro w' hSw; (try dsimp only at hSw); go_simp; try (with_reducible rfl))
        (try simp only [actP])
        refine takeH 1 (v := ?_) rfl ?_ ?_; rotate_left; focus (intro w' hSw; (try dsimp only at hSw); go_simp; try (with_reducible rfl))
        (try simp only [actP])
        refine takeH 2 (v := ?_) rfl ?_ ?_; rotate_left; focus (intro w' hSw; (try dsimp only at hSw); go_simp; try (with_reducible rfl))
        (try simp only [actP])
        refine takeH 3 (v := ?_) rfl ?_ ?_; rotate_left; focus (intro w' hSw; (try dsimp only at hSw); go_simp; try (with_reducible rfl))
        (try simp only [actP])
        refine takeH 4 (v := ?_) rfl ?_ ?_; rotate_left; focus (intro w' hSw; (try dsimp only at hSw); go_simp; try (with_reducible rfl))
        (try simp only [actP])
        refine takeH 5 (v := ?_) rfl ?_ ?_; rotate_left; focus (intro w' hSw; (try dsimp only at hSw); go_simp; try (with_reducible rfl))
        (try simp only [actP])
        refine takeH 6 (v := ?_) rfl ?_ ?_; rotate_left; focus (intro w' hSw; (try dsimp only at hSw); go_simp; try (with_reducible rfl))
        (try simp only [actP])
        refine takeH 7 (v := ?_) rfl ?_ ?_; rotate_left; focus (intro w' hSw; (try dsimp only at hSw); go_simp; try (with_reducible rfl))
        (try simp only [actP])
        refine takeH 8 (v := ?_) rfl ?_ ?_; rotate_left; focus (intro w' hSw; (try dsimp only at hSw); go_simp; try (with_reducible rfl))
        (try simp only [actP])
        refine takeH 10 (v := ?_) rfl ?_ ?_; rotate_left; focus (intro w' hSw; (try dsimp only at hSw); go_simp; try (with_reducible rfl))
        (try simp only [actP])
        refine wpAnyH_ready (rs := [9, 11]) (by kernel_rfl) (by simp) ?_
        refine AllReadyH.cons rfl (fun K hK => ?_) (AllReadyH.cons rfl (fun K hK => ?_) AllReadyH.nil)
        ·have rcD : (wp.drew).cell? ⟨bo, fs, none⟩ = some (.slice ra1 rn1 rc1) := rcell1
         go_simp
         refine hK.out _ _ (hHeld) (fun hHeld' => ?_)
         clear hK K hHeld
         have hHeld := hHeld'
         clear hHeld'
         (try simp only [actP])
         refine wpAnyH_ready (rs := [11]) (by kernel_rfl) (by simp) ?_
         refine AllReadyH.cons rfl (fun K hK => ?_) AllReadyH.nil
         go_simp
         refine hK.out _ _ (⟨cell_keep GC1 bA1, cell_keep LC1 bA1⟩) (fun hHeld' => ?_)
         clear hK K hHeld
         have hHeld := hHeld'
         clear hHeld'
         (try simp only [actP])
         obtain ⟨wa, hwa⟩ : ∃ wa, wa = (wp.alloc (Obj.cells #[.int .i64 (m : Int)] 2)).drew := ⟨_, rfl⟩
         have oa : wa.cell? ⟨wp.heap.size, 0, none⟩ = some (.int .i64 (m : Int)) := by rw [hwa]; simp [go_sem]
         rw [← hwa] at hHeld bA1 ⊢
         have za := bA1.size
         have OV := GI.below ROWN1.out bA1
         clear hwa
         refine wpAnyH_ready (rs := [12]) (by kernel_rfl) (by simp) ?_
         refine AllReadyH.cons rfl (fun K hK => ?_) AllReadyH.nil
         rw [if_pos (by rfl)]
         refine wp_append_at _ _ _ 56 rfl wk.heap.size 2 i0 (.int .i64 0) 1 8 Tryz.underlying56 hi hz0 hz1 hz2 rfl (by decide) (V (fs)) _ _ (by rw [HRV1.out]; rfl) OV ⟨wp.heap.size, 0, none⟩ 1 1 [.int .i64 (m : Int)] rfl rfl (one_at oa) (fun u hu => by simp at hu; subst hu; rfl) (by rw [← RN1.out]; unfold maxLen; omega) (by rw [← RN1.out]; omega) (by omega) ?_
         intro nv wb hown hgrow _ hat
         obtain ⟨sa, sc, hsv⟩ := own_slice hown
         subst hsv
         have rc2 := hgrow.cell (cell_keep rcell1 bA1) (NB1.out _ rlt1)
         have rf2 : wb.frozen? ⟨bo, fs, none⟩ = false := by rw [World.frozen?_of_block (a := ⟨bo, fs, none⟩) (hgrow.block bo (by omega) (NB1.out _ rlt1)), bA1.frozen (p := ⟨bo, fs, none⟩) (show bo < wp.heap.size by omega)]; exact rfroz1
         refine hK.out _ _ (⟨hgrow.cell hHeld.1 (NB1.out _ sgc), hgrow.cell hHeld.2 NL1.out⟩) (fun hHeld' => ?_)
         clear hK K hHeld
         have hHeld := hHeld'
         clear hHeld'
         (try simp only [actP])
         have PS := Lib.hid (RowsIn.push2 (k := fs) RP.out (by omega) EG1.out EO1.out (fun j hj hne hg => gInj dd1 hj hne hg) bA1 hown hgrow hat)
         have ON := Lib.hid (fun u => OnlyIn.push OP.out (by omega) bA1 hgrow (fun g hg => ROWN1.out.blk g hg) (p := ⟨bo, fs, none⟩) (.inl rfl) u)
         have zb := hgrow.size
         refine takeH 13 (v := ?_) rfl ?_ ?_; rotate_left; focus (intro w' hSw; (try dsimp only at hSw); go_simp; try (with_reducible rfl))
         (try simp only [actP])
         refine wpAnyH_ready (rs := [14]) (by kernel_rfl) (by simp) ?_
         refine AllReadyH.cons rfl (fun K hK => ?_) AllReadyH.nil
         go_simp
         refine hK.out _ _ (⟨(grown_set wb ⟨bo, fs, none⟩ _).cell hHeld.1 (by simp; omega), (grown_set wb ⟨bo, fs, none⟩ _).cell hHeld.2 (by simp; omega)⟩) (fun hHeld' => ?_)
         clear hK K hHeld
         have hHeld := hHeld'
         clear hHeld'
         (try simp only [actP])
         refine wpAnyH_done (by kernel_rfl) ?_ _
         go_wp2_with fail
         go_meet
         exact ⟨rfl, _, PS, Lib.hid (ON.out _), (grown_set wb ⟨bo, fs, none⟩ _).cell (hgrow.cell (cell_keep ec2 bA1) (NB1.out _ sgc)) (by simp; omega), (grown_set wb ⟨bo, fs, none⟩ _).cell (hgrow.cell (cell_keep el1 bA1) NL1.out) (by simp; omega), Lib.hid (by simp only [if_neg (show ¬ N + ft = fs by omega)]; exact NLT.out), by simp [World.setCell]; omega⟩
        ·have rcA : ((wp.alloc (Obj.cells #[.int .i64 (m : Int)] 2)).drew).cell? ⟨bo, fs, none⟩ = some (.slice ra1 rn1 rc1) := cell_keep rcell1 bA1
         go_simp
         refine hK.out _ _ (⟨cell_keep GC1 bA1, cell_keep LC1 bA1⟩) (fun hHeld' => ?_)
         clear hK K hHeld
         have hHeld := hHeld'
         clear hHeld'
         (try simp only [actP])
         refine wpAnyH_ready (rs := [9]) (by kernel_rfl) (by simp) ?_
         refine AllReadyH.cons rfl (fun K hK => ?_) AllReadyH.nil
         go_simp
         refine hK.out _ _ (hHeld) (fun hHeld' => ?_)
         clear hK K hHeld
         have hHeld := hHeld'
         clear hHeld'
         (try simp only [actP])
         obtain ⟨wa, hwa⟩ : ∃ wa, wa = (wp.alloc (Obj.cells #[.int .i64 (m : Int)] 2)).drew := ⟨_, rfl⟩
         have oa : wa.cell? ⟨wp.heap.size, 0, none⟩ = some (.int .i64 (m : Int)) := by rw [hwa]; simp [go_sem]
         rw [← hwa] at hHeld bA1 ⊢
         have za := bA1.size
         have OV := GI.below ROWN1.out bA1
         clear hwa
         refine wpAnyH_ready (rs := [12]) (by kernel_rfl) (by simp) ?_
         refine AllReadyH.cons rfl (fun K hK => ?_) AllReadyH.nil
         rw [if_pos (by rfl)]
         refine wp_append_at _ _ _ 56 rfl wk.heap.size 2 i0 (.int .i64 0) 1 8 Tryz.underlying56 hi hz0 hz1 hz2 rfl (by decide) (V (fs)) _ _ (by rw [HRV1.out]; rfl) OV ⟨wp.heap.size, 0, none⟩ 1 1 [.int .i64 (m : Int)] rfl rfl (one_at oa) (fun u hu => by simp at hu; subst hu; rfl) (by rw [← RN1.out]; unfold maxLen; omega) (by rw [← RN1.out]; omega) (by omega) ?_
         intro nv wb hown hgrow _ hat
         obtain ⟨sa, sc, hsv⟩ := own_slice hown
         subst hsv
         have rc2 := hgrow.cell (cell_keep rcell1 bA1) (NB1.out _ rlt1)
         have rf2 : wb.frozen? ⟨bo, fs, none⟩ = false := by rw [World.frozen?_of_block (a := ⟨bo, fs, none⟩) (hgrow.block bo (by omega) (NB1.out _ rlt1)), bA1.frozen (p := ⟨bo, fs, none⟩) (show bo < wp.heap.size by omega)]; exact rfroz1
         refine hK.out _ _ (⟨hgrow.cell hHeld.1 (NB1.out _ sgc), hgrow.cell hHeld.2 NL1.out⟩) (fun hHeld' => ?_)
         clear hK K hHeld
         have hHeld := hHeld'
         clear hHeld'
         (try simp only [actP])
         have PS := Lib.hid (RowsIn.push2 (k := fs) RP.out (by omega) EG1.out EO1.out (fun j hj hne hg => gInj dd1 hj hne hg) bA1 hown hgrow hat)
         have ON := Lib.hid (fun u => OnlyIn.push OP.out (by omega) bA1 hgrow (fun g hg => ROWN1.out.blk g hg) (p := ⟨bo, fs, none⟩) (.inl rfl) u)
         have zb := hgrow.size
         refine takeH 13 (v := ?_) rfl ?_ ?_; rotate_left; focus (intro w' hSw; (try dsimp only at hSw); go_simp; try (with_reducible rfl))
         (try simp only [actP])
         refine wpAnyH_ready (rs := [14]) (by kernel_rfl) (by simp) ?_
         refine AllReadyH.cons rfl (fun K hK => ?_) AllReadyH.nil
         go_simp
         refine hK.out _ _ (⟨(grown_set wb ⟨bo, fs, none⟩ _).cell hHeld.1 (by simp; omega), (grown_set wb ⟨bo, fs, none⟩ _).cell hHeld.2 (by simp; omega)⟩) (fun hHeld' => ?_)
         clear hK K hHeld
         have hHeld := hHeld'
         clear hHeld'
         (try simp only [actP])
         refine wpAnyH_done (by kernel_rfl) ?_ _
         go_wp2_with fail
         go_meet
         exact ⟨rfl, _, PS, Lib.hid (ON.out _), (grown_set wb ⟨bo, fs, none⟩ _).cell (hgrow.cell (cell_keep ec2 bA1) (NB1.out _ sgc)) (by simp; omega), (grown_set wb ⟨bo, fs, none⟩ _).cell (hgrow.cell (cell_keep el1 bA1) NL1.out) (by simp; omega), Lib.hid (by simp only [if_neg (show ¬ N + ft = fs by omega)]; exact NLT.out), by simp [World.setCell]; omega⟩
       case rest =>
        obtain ⟨w2, hw2⟩ : ∃ w2 : World, w2 = wc := ⟨_, rfl⟩
        subst hw2
        obtain ⟨rfl, V1, RP2, OP2, ec2', el1', NLB, zwx⟩ := hcut
        have zw2 := OP2.out.size
        clear ec1 ec2 el0 el1 rcell1 rfroz1 GC1 LC1 bA1 RP OP hR
        have ec2 := ec2'; have el1 := el1'
        clear ec2' el1'
        obtain ⟨rcell2, rfroz2, rlt2, rown2⟩ := RP2.out.2.1 (N + ft) (by omega)
        have EG2 := Lib.hid (show gB bo bi N (N + ft) = bi from if_neg (by omega))
        have EO2 := Lib.hid (show gO N (N + ft) = ft from (if_neg (by omega)).trans (by omega))
        rw [EG2.out] at rlt2
        rw [EG2.out, EO2.out] at rcell2 rfroz2
        (try dsimp only at rown2)
        obtain ⟨rn2, hrn2⟩ : ∃ n, n = (if N + ft = fs then gR z bs N m fs ++ [(m : Int)] else gR z bs N m (N + ft)).length := ⟨_, rfl⟩
        obtain ⟨ra2, rc2, hrv2⟩ := own_slice rown2
        have rlen2 := (show (if N + ft = fs then gR z bs N m fs ++ [(m : Int)] else gR z bs N m (N + ft)).length ≤ m from by rw [if_neg (by omega)]; exact gR_len z bs N m (N + ft))
        rw [← hrn2] at hrv2 rlen2
        have HRV2 := Lib.hid hrv2
        have NB2 := Lib.hid (fun g (hg : g < wk.heap.size) => (show some g ≠ (V1 (N + ft)).ownBlock from fun e => by have := rown2.blk g e.symm; omega))
        have NL2 := Lib.hid (show some wo.heap.size ≠ (V1 (N + ft)).ownBlock from NLB.out)
        have ROWN2 := Lib.hid rown2
        have RN2 := Lib.hid hrn2
        rw [hrv2] at rcell2
        have GC2 : w2.cell? ⟨bg, 2, none⟩ = some (.slice (some ⟨bi, 0, none⟩) N N) := ec2
        have LC2 : w2.cell? ⟨wo.heap.size, 1, none⟩ = some (.int .i64 (ft : Int)) := el1
        have bA2 : Below w2.heap.size w2 ((w2.alloc (Obj.cells #[.int .i64 (m : Int)] 2)).drew) := by exact eX
        clear hrv2 rown2 hrn2
        go_upto_region 15 with fail
        refine wp_region_held_drew (S := (fun w' => w'.cell? ⟨bg, 2, none⟩ = some (.slice (some ⟨bi, 0, none⟩) N N) ∧ w'.cell? ⟨wo.heap.size, 1, none⟩ = some (.int .i64 (ft : Int)))) (by kernel_rfl) ?_ (fun hHeld => ?_)
        ·(try dsimp only); exact ⟨GC2, LC2⟩
        (try dsimp only at hHeld)
        refine takeH 0 (v := ?_) rfl ?_ ?_; rotate_left; focus (intro w' hSw; (try dsimp only at hSw); go_simp; try (with_reducible rfl))
        (try simp only [actP])
        refine takeH 1 (v := ?_) rfl ?_ ?_; rotate_left; focus (intro w' hSw; (try dsimp only at hSw); go_simp; try (with_reducible rfl))
        (try simp only [actP])
        refine takeH 2 (v := ?_) rfl ?_ ?_; rotate_left; focus (intro w' hSw; (try dsimp only at hSw); go_simp; try (with_reducible rfl))
        (try simp only [actP])
        refine takeH 3 (v := ?_) rfl ?_ ?_; rotate_left; focus (intro w' hSw; (try dsimp only at hSw); go_simp; try (with_reducible rfl))
        (try simp only [actP])
        refine takeH 4 (v := ?_) rfl ?_ ?_; rotate_left; focus (intro w' hSw; (try dsimp only at hSw); go_simp; try (with_reducible rfl))
        (try simp only [actP])
        refine takeH 5 (v := ?_) rfl ?_ ?_; rotate_left; focus (intro w' hSw; (try dsimp only at hSw); go_simp; try (with_reducible rfl))
        (try simp only [actP])
        refine takeH 6 (v := ?_) rfl ?_ ?_; rotate_left; focus (intro w' hSw; (try dsimp only at hSw); go_simp; try (with_reducible rfl))
        (try simp only [actP])
        refine takeH 7 (v := ?_) rfl ?_ ?_; rotate_left; focus (intro w' hSw; (try dsimp only at hSw); go_simp; try (with_reducible rfl))
        (try simp only [actP])
        refine takeH 8 (v := ?_) rfl ?_ ?_; rotate_left; focus (intro w' hSw; (try dsimp only at hSw); go_simp; try (with_reducible rfl))
        (try simp only [actP])
        refine takeH 10 (v := ?_) rfl ?_ ?_; rotate_left; focus (intro w' hSw; (try dsimp only at hSw); go_simp; try (with_reducible rfl))
        (try simp only [actP])
        refine wpAnyH_ready (rs := [9, 11]) (by kernel_rfl) (by simp) ?_
        refine AllReadyH.cons rfl (fun K hK => ?_) (AllReadyH.cons rfl (fun K hK => ?_) AllReadyH.nil)
        ·have rcD : (w2.drew).cell? ⟨bi, ft, none⟩ = some (.slice ra2 rn2 rc2) := rcell2
         go_simp
         refine hK.out _ _ (hHeld) (fun hHeld' => ?_)
         clear hK K hHeld
         have hHeld := hHeld'
         clear hHeld'
         (try simp only [actP])
         refine wpAnyH_ready (rs := [11]) (by kernel_rfl) (by simp) ?_
         refine AllReadyH.cons rfl (fun K hK => ?_) AllReadyH.nil
         go_simp
         refine hK.out _ _ (⟨cell_keep GC2 bA2, cell_keep LC2 bA2⟩) (fun hHeld' => ?_)
         clear hK K hHeld
         have hHeld := hHeld'
         clear hHeld'
         (try simp only [actP])
         obtain ⟨wa, hwa⟩ : ∃ wa, wa = (w2.alloc (Obj.cells #[.int .i64 (m : Int)] 2)).drew := ⟨_, rfl⟩
         have oa : wa.cell? ⟨w2.heap.size, 0, none⟩ = some (.int .i64 (m : Int)) := by rw [hwa]; simp [go_sem]
         rw [← hwa] at hHeld bA2 ⊢
         have za := bA2.size
         have OV := GI.below ROWN2.out bA2
         clear hwa
         refine wpAnyH_ready (rs := [12]) (by kernel_rfl) (by simp) ?_
         refine AllReadyH.cons rfl (fun K hK => ?_) AllReadyH.nil
         rw [if_pos (by rfl)]
         refine wp_append_at _ _ _ 56 rfl wk.heap.size 2 i0 (.int .i64 0) 1 8 Tryz.underlying56 hi hz0 hz1 hz2 rfl (by decide) (V1 (N + ft)) _ _ (by rw [HRV2.out]; rfl) OV ⟨w2.heap.size, 0, none⟩ 1 1 [.int .i64 (m : Int)] rfl rfl (one_at oa) (fun u hu => by simp at hu; subst hu; rfl) (by rw [← RN2.out]; unfold maxLen; omega) (by rw [← RN2.out]; omega) (by omega) ?_
         intro nv wb hown hgrow _ hat
         obtain ⟨sa, sc, hsv⟩ := own_slice hown
         subst hsv
         have rc2 := hgrow.cell (cell_keep rcell2 bA2) (NB2.out _ rlt2)
         have rf2 : wb.frozen? ⟨bi, ft, none⟩ = false := by rw [World.frozen?_of_block (a := ⟨bi, ft, none⟩) (hgrow.block bi (by omega) (NB2.out _ rlt2)), bA2.frozen (p := ⟨bi, ft, none⟩) (show bi < w2.heap.size by omega)]; exact rfroz2
         refine hK.out _ _ (⟨hgrow.cell hHeld.1 (NB2.out _ sgc), hgrow.cell hHeld.2 NL2.out⟩) (fun hHeld' => ?_)
         clear hK K hHeld
         have hHeld := hHeld'
         clear hHeld'
         (try simp only [actP])
         have PS := Lib.hid (RowsIn.push2 (k := N + ft) RP2.out (by omega) EG2.out EO2.out (fun j hj hne hg => gInj dd1 hj hne hg) bA2 hown hgrow hat)
         have ON := Lib.hid (fun u => OnlyIn.push OP2.out (by omega) bA2 hgrow (fun g hg => ROWN2.out.blk g hg) (p := ⟨bi, ft, none⟩) (.inr rfl) u)
         have zb := hgrow.size
         refine takeH 13 (v := ?_) rfl ?_ ?_; rotate_left; focus (intro w' hSw; (try dsimp only at hSw); go_simp; try (with_reducible rfl))
         (try simp only [actP])
         refine wpAnyH_ready (rs := [14]) (by kernel_rfl) (by simp) ?_
         refine AllReadyH.cons rfl (fun K hK => ?_) AllReadyH.nil
         go_simp
         refine hK.out _ _ (⟨(grown_set wb ⟨bi, ft, none⟩ _).cell hHeld.1 (by simp; omega), (grown_set wb ⟨bi, ft, none⟩ _).cell hHeld.2 (by simp; omega)⟩) (fun hHeld' => ?_)
         clear hK K hHeld
         have hHeld := hHeld'
         clear hHeld'
         (try simp only [actP])
         refine wpAnyH_done (by kernel_rfl) ?_ _
         have R9 := Lib.hid (PS.out.congr (R' := gR z bs N (m + 1)) (fun k => by rw [GLV.out k]; simp only [if_neg (show ¬ N + ft = fs by omega)]))
         have O9 := Lib.hid (ON.out (.slice sa (rn2 + 1) sc))
         rw [← RN2.out] at R9 ⊢
         clear hHeld hown hgrow hat PS ON
         go_wp2
         go_roundw
         case rel => exact ⟨m + 1, _, by omega, by go_num, R9, O9⟩
         case measure => simp [intOf]; omega
        ·have rcA : ((w2.alloc (Obj.cells #[.int .i64 (m : Int)] 2)).drew).cell? ⟨bi, ft, none⟩ = some (.slice ra2 rn2 rc2) := cell_keep rcell2 bA2
         go_simp
         refine hK.out _ _ (⟨cell_keep GC2 bA2, cell_keep LC2 bA2⟩) (fun hHeld' => ?_)
         clear hK K hHeld
         have hHeld := hHeld'
         clear hHeld'
         (try simp only [actP])
         refine wpAnyH_ready (rs := [9]) (by kernel_rfl) (by simp) ?_
         refine AllReadyH.cons rfl (fun K hK => ?_) AllReadyH.nil
         go_simp
         refine hK.out _ _ (hHeld) (fun hHeld' => ?_)
         clear hK K hHeld
         have hHeld := hHeld'
         clear hHeld'
         (try simp only [actP])
         obtain ⟨wa, hwa⟩ : ∃ wa, wa = (w2.alloc (Obj.cells #[.int .i64 (m : Int)] 2)).drew := ⟨_, rfl⟩
         have oa : wa.cell? ⟨w2.heap.size, 0, none⟩ = some (.int .i64 (m : Int)) := by rw [hwa]; simp [go_sem]
         rw [← hwa] at hHeld bA2 ⊢
         have za := bA2.size
         have OV := GI.below ROWN2.out bA2
         clear hwa
         refine wpAnyH_ready (rs := [12]) (by kernel_rfl) (by simp) ?_
         refine AllReadyH.cons rfl (fun K hK => ?_) AllReadyH.nil
         rw [if_pos (by rfl)]
         refine wp_append_at _ _ _ 56 rfl wk.heap.size 2 i0 (.int .i64 0) 1 8 Tryz.underlying56 hi hz0 hz1 hz2 rfl (by decide) (V1 (N + ft)) _ _ (by rw [HRV2.out]; rfl) OV ⟨w2.heap.size, 0, none⟩ 1 1 [.int .i64 (m : Int)] rfl rfl (one_at oa) (fun u hu => by simp at hu; subst hu; rfl) (by rw [← RN2.out]; unfold maxLen; omega) (by rw [← RN2.out]; omega) (by omega) ?_
         intro nv wb hown hgrow _ hat
         obtain ⟨sa, sc, hsv⟩ := own_slice hown
         subst hsv
         have rc2 := hgrow.cell (cell_keep rcell2 bA2) (NB2.out _ rlt2)
         have rf2 : wb.frozen? ⟨bi, ft, none⟩ = false := by rw [World.frozen?_of_block (a := ⟨bi, ft, none⟩) (hgrow.block bi (by omega) (NB2.out _ rlt2)), bA2.frozen (p := ⟨bi, ft, none⟩) (show bi < w2.heap.size by omega)]; exact rfroz2
         refine hK.out _ _ (⟨hgrow.cell hHeld.1 (NB2.out _ sgc), hgrow.cell hHeld.2 NL2.out⟩) (fun hHeld' => ?_)
         clear hK K hHeld
         have hHeld := hHeld'
         clear hHeld'
         (try simp only [actP])
         have PS := Lib.hid (RowsIn.push2 (k := N + ft) RP2.out (by omega) EG2.out EO2.out (fun j hj hne hg => gInj dd1 hj hne hg) bA2 hown hgrow hat)
         have ON := Lib.hid (fun u => OnlyIn.push OP2.out (by omega) bA2 hgrow (fun g hg => ROWN2.out.blk g hg) (p := ⟨bi, ft, none⟩) (.inr rfl) u)
         have zb := hgrow.size
         refine takeH 13 (v := ?_) rfl ?_ ?_; rotate_left; focus (intro w' hSw; (try dsimp only at hSw); go_simp; try (with_reducible rfl))
         (try simp only [actP])
         refine wpAnyH_ready (rs := [14]) (by kernel_rfl) (by simp) ?_
         refine AllReadyH.cons rfl (fun K hK => ?_) AllReadyH.nil
         go_simp
         refine hK.out _ _ (⟨(grown_set wb ⟨bi, ft, none⟩ _).cell hHeld.1 (by simp; omega), (grown_set wb ⟨bi, ft, none⟩ _).cell hHeld.2 (by simp; omega)⟩) (fun hHeld' => ?_)
         clear hK K hHeld
         have hHeld := hHeld'
         clear hHeld'
         (try simp only [actP])
         refine wpAnyH_done (by kernel_rfl) ?_ _
         have R9 := Lib.hid (PS.out.congr (R' := gR z bs N (m + 1)) (fun k => by rw [GLV.out k]; simp only [if_neg (show ¬ N + ft = fs by omega)]))
         have O9 := Lib.hid (ON.out (.slice sa (rn2 + 1) sc))
         rw [← RN2.out] at R9 ⊢
         clear hHeld hown hgrow hat PS ON
         go_wp2
         go_roundw
         case rel => exact ⟨m + 1, _, by omega, by go_num, R9, O9⟩
         case measure => simp [intOf]; omega
      ·have R9 := Lib.hid (RP.out.congr (fun k => (gR_dead hh k).symm))
       clear hh
       go_wp2
       go_roundw
       case rel => exact ⟨m + 1, _, by omega, by go_num, R9, OP⟩
       case measure => simp [intOf]; omega
     ·obtain rfl : m = nl := by omega
      have hI : ¬ (m : Int) < (m : Int) := by omega
      have e0 := hO.out.cell gc0 sgc (by simp; omega); have e1 := hO.out.cell gc1 sgc (by simp; omega); have e2 := hO.out.cell gc2 sgc (by simp; omega)
      have i0 := hO.out.cell c0 s1w (by simp; omega); have i1 := hO.out.cell c1 s1w (by simp; omega); have i2 := hO.out.cell c2 s1w (by simp; omega)
      have j0 := hO.out.frozen mc0 s1w (by simp; omega); have j1 := hO.out.frozen mc1 s1w (by simp; omega); have j2 := hO.out.frozen mc2 s1w (by simp; omega)
      have GV := Lib.hid (show GraphV wo W.heap.size z bs (.agg #[.slice la m lc, .slice (some ⟨bo, 0, none⟩) N N, .slice (some ⟨bi, 0, none⟩) N N]) from ⟨_, bo, bi, wk.heap.size, V, by rw [← HN.out], by omega, by omega, by omega, dd1, ⟨hO.out.row HGc.out.1 (fun g hg => by have := HGB.out g hg; refine ⟨by omega, ?_⟩; show ¬ (g = bo ∨ g = bi); omega), HGc.out.2⟩, by rw [← HN.out, ← NL.out]; exact hR.out⟩)
      have sw1 : w.heap.size + 1 < wo.heap.size := by omega
      have sw2 : w.heap.size + 1 < W.heap.size := by omega
      clear hR c0 c1 c2 mc0 mc1 mc2
      go_wp2
      exact bodyPost_ret (v := .tuple #[.agg #[.slice la m lc, .slice (some ⟨bo, 0, none⟩) N N, .slice (some ⟨bi, 0, none⟩) N N], .int .i64 0]) (by simp [results, Tryz.results46, go_sem, *]) rfl ⟨_, by rw [hQ.out], fun _ => (((GV.out.set (p := ⟨w.heap.size + 1, 0, none⟩) sw2 _).set (p := ⟨w.heap.size + 1, 1, none⟩) sw2 _).set (p := ⟨w.heap.size + 1, 2, none⟩) sw2 _).low (by omega), fun h => absurd hQ.out h, by exact eX⟩
end Go.Proofs.YtmlbpfbdhhkfkaaGreat
