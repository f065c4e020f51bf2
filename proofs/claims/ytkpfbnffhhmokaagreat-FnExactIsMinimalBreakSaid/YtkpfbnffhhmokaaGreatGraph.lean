/-
A graph made anew of links and of the broken ones among them.
-/
import Derived.Test.YtkpfbnffhhmokaaGreatBin
import Derived.Test.YtkpfbnffhhmokaaGreatRowM
import Derived.Test.YtkpfbnffhhmokaaGreatLinkF
import Derived.Laws.AppendOwnNone
import Derived.Test.YtkpfbnffhhmokaaGreatCellL
import Derived.Test.YtkpfbnffhhmokaaGreatWireL
namespace Go.Proofs.YtkpfbnffhhmokaaGreat
open Go.ChangeShapes Go.WideShapes Go.ChangeAt Go.RowKit Go.Deep
set_option linter.unusedVariables false
set_option linter.unusedSimpArgs false
set_option maxRecDepth 100000
def nodesN (z : BlkD) : Nat := 2 * (places z.lib z.des).length
theorem ndN_is (z : BlkD) : ndN z = (nodesN z : Int) := by simp [ndN, nodesN]
def gB (bo bi N k : Nat) : Nat := if k < N then bo else bi
def gO (N k : Nat) : Nat := if k < N then k else k - N
def gR (z : BlkD) (bs : List Int) (N m k : Nat) : List Int := if k < N then froLN z bs (k : Int) m else toLN z bs ((k - N : Nat) : Int) m
theorem gR_dead {z : BlkD} {bs : List Int} {N m : Nat} (h : hasI bs (m : Int) = true) (k : Nat) : gR z bs N (m + 1) k = gR z bs N m k := by
 unfold gR
 by_cases hk : k < N
 ·rw [if_pos hk, if_pos hk, froLN_succ, h]; simp
 ·rw [if_neg hk, if_neg hk, toLN_succ, h]; simp
theorem gR_live {z : BlkD} {bs : List Int} {N m f t : Nat} (h : hasI bs (m : Int) = false) (hf : (lkn (linksL z) m).src = (f : Int)) (ht : (lkn (linksL z) m).dst = (t : Int)) (k : Nat) (hfN : f < N) :
  gR z bs N (m + 1) k = if k = N + t then gR z bs N m (N + t) ++ [(m : Int)] else if k = f then gR z bs N m f ++ [(m : Int)] else gR z bs N m k := by
 unfold gR
 by_cases hk : k < N
 ·rw [if_neg (show ¬ k = N + t by omega), if_pos hk, froLN_succ, h, hf, if_pos hfN]
  by_cases e : k = f
  ·subst e; simp
  ·have e2 : ¬ ((f : Int) = (k : Int)) := by omega
   simp [e, e2, hk]
 ·rw [if_neg hk, toLN_succ, h, ht, if_neg (show ¬ N + t < N by omega), if_neg (show ¬ k = f by omega)]
  by_cases e : k = N + t
  ·subst e; simp
  ·have e2 : ¬ ((t : Int) = ((k - N : Nat) : Int)) := by omega
   simp [e, e2, hk]
theorem gR_len (z : BlkD) (bs : List Int) (N m k : Nat) : (gR z bs N m k).length ≤ m := by
 unfold gR
 split
 ·exact froLN_len _ _ _ _
 ·exact toLN_len _ _ _ _
theorem gR_zero (z : BlkD) (bs : List Int) (N k : Nat) : gR z bs N 0 k = [] := by
 have := gR_len z bs N 0 k
 exact List.length_eq_zero_iff.1 (by omega)
theorem RowsIn.congr {w : World} {base n : Nat} {g o : Nat → Nat} {V : Nat → Value} {R R' : Nat → List Int} (h : RowsIn w base n g o V R) (e : ∀ k, R k = R' k) : RowsIn w base n g o V R' := by
 have : R = R' := funext e
 rw [← this]; exact h
theorem gInj {bo bi N j k : Nat} (hne : bo ≠ bi) (hj : j < 2 * N) (hjk : j ≠ k) (hg : gB bo bi N j = gB bo bi N k) : gO N j ≠ gO N k := by
 unfold gB at hg
 unfold gO
 by_cases h1 : j < N
 ·by_cases h2 : k < N
  ·simp only [if_pos h1, if_pos h2]; exact hjk
  ·simp only [if_pos h1, if_neg h2] at hg; exact absurd hg hne
 ·by_cases h2 : k < N
  ·simp only [if_neg h1, if_pos h2] at hg; exact absurd hg.symm hne
  ·simp only [if_neg h1, if_neg h2]; omega
/-- The graph as a value: its links and its two lists of lists, in memory of their own. -/
def GraphV (w : World) (L : Nat) (z : BlkD) (bs : List Int) (v : Value) : Prop :=
 ∃ lv bo bi base V, v = .agg #[lv, .slice (some ⟨bo, 0, none⟩) (nodesN z) (nodesN z), .slice (some ⟨bi, 0, none⟩) (nodesN z) (nodesN z)] ∧ L ≤ base ∧ L ≤ bo ∧ L ≤ bi ∧ bo ≠ bi ∧ GL w L lv (linksL z) ∧ RowsIn w base (2 * nodesN z) (gB bo bi (nodesN z)) (gO (nodesN z)) V (gR z bs (nodesN z) (linksL z).length)
theorem GL.set {w : World} {base : Nat} {v : Value} {L : List LkD} (h : GL w base v L) {p : Addr} (hp : p.block < base) (u : Value) : GL (w.setCell p u) base v L :=
 GR.kept h (grown_set w p u) (fun k hk e => by have := (GR.blk h k hk).1; have := Option.some.inj e; omega)
theorem GraphV.set {w : World} {L : Nat} {z : BlkD} {bs : List Int} {v : Value} (h : GraphV w L z bs v) {p : Addr} (hp : p.block < L) (u : Value) : GraphV (w.setCell p u) L z bs v := by
 obtain ⟨lv, bo, bi, base, V, e, h0, h1, h2, h3, h4, h5⟩ := h
 exact ⟨lv, bo, bi, base, V, e, h0, h1, h2, h3, h4.set hp u, h5.set (by omega) (fun k _ => by unfold gB; split <;> omega) u⟩
theorem GraphV.low {w : World} {L M : Nat} {z : BlkD} {bs : List Int} {v : Value} (h : GraphV w L z bs v) (hM : M ≤ L) : GraphV w M z bs v := by
 obtain ⟨lv, bo, bi, base, V, e, h0, h1, h2, h3, h4, h5⟩ := h
 exact ⟨lv, bo, bi, base, V, e, Nat.le_trans hM h0, Nat.le_trans hM h1, Nat.le_trans hM h2, h3, GR.low h4 hM, h5⟩
theorem GraphV.below {w w' : World} {L : Nat} {z : BlkD} {bs : List Int} {v : Value} (h : GraphV w L z bs v) (hb : Below w.heap.size w w') : GraphV w' L z bs v := by
 obtain ⟨lv, bo, bi, base, V, e, h0, h1, h2, h3, h4, h5⟩ := h
 exact ⟨lv, bo, bi, base, V, e, h0, h1, h2, h3, GR.below h4 hb, h5.below hb⟩
theorem made_rows (z : BlkD) (bs : List Int) {W : World} {bo bi N : Nat} {T : TypeId} (h1 : W.heap[bo]? = some (.cells (madeCells #[.slice none 0 0] N) T (0, 0))) (h2 : W.heap[bi]? = some (.cells (madeCells #[.slice none 0 0] N) T (0, 0))) :
  RowsIn W W.heap.size (2 * N) (gB bo bi N) (gO N) (fun _ => .slice none 0 0) (gR z bs N 0) := by
 have l1 : bo < W.heap.size := (Array.getElem?_eq_some_iff.1 h1).1
 have l2 : bi < W.heap.size := (Array.getElem?_eq_some_iff.1 h2).1
 have key : ∀ g i, (g = bo ∨ g = bi) → i < N → W.cell? ⟨g, i, none⟩ = some (.slice none 0 0) ∧ W.frozen? ⟨g, i, none⟩ = false ∧ g < W.heap.size := by
  intro g i hg hi
  have hgg : W.heap[g]? = some (.cells (madeCells #[.slice none 0 0] N) T (0, 0)) := by rcases hg with rfl | rfl <;> assumption
  refine ⟨?_, by simp [World.frozen?, hgg], by rcases hg with rfl | rfl <;> assumption⟩
  rw [cell_of_row W g i _ _ _ hgg]
  simp [madeCells, hi, Nat.mod_one]
 refine ⟨Nat.le_refl _, fun k hk => ?_, fun j k _ _ _ => .inl rfl⟩
 rw [gR_zero]
 by_cases h : k < N
 ·obtain ⟨a, b, c⟩ := key bo k (.inl rfl) h
  simp only [gB, gO, if_pos h]
  exact ⟨a, b, c, GI.nil _ _⟩
 ·obtain ⟨a, b, c⟩ := key bi (k - N) (.inr rfl) (by omega)
  simp only [gB, gO, if_neg h]
  exact ⟨a, b, c, GI.nil _ _⟩
theorem Tryz.infoRow : (Tryz.prog.info? 33).map (fun i => (i.zero, i.size, i.bytes)) = some (some (.slice none 0 0), 1, 24) := by kernel_rfl
theorem mkRows (N : Nat) (hN : N ≤ 1000) (W : World) : (Instr.makeSlice 66 (.int .i64 (N : Int)) (.int .i64 (N : Int))).run Tryz.prog W = .ok (.slice (some ⟨W.heap.size, 0, none⟩) N N) (W.alloc (.cells (madeCells #[.slice none 0 0] (N * 1)) 33)) := by
 obtain ⟨ti, hi, hz0, hz1, hz2⟩ := info_parts Tryz.infoRow
 have h := run_makeSlice W (P := Tryz.prog) 66 33 ti (.slice none 0 0) Tryz.underlying66 hi hz0 .i64 .i64 (N : Int) (N : Int) (by omega) (Int.le_refl _) (by rw [hz1]; omega) (by rw [hz2]; omega) (by omega)
 rw [hz1] at h
 simpa [Value.cells] using h
theorem heap3 (w : World) (a b c : Obj) : (((w.alloc a).alloc b).alloc c).drew.heap[w.heap.size]? = some a ∧ (((w.alloc a).alloc b).alloc c).drew.heap[w.heap.size + 1]? = some b ∧ (((w.alloc a).alloc b).alloc c).drew.heap[w.heap.size + 1 + 1]? = some c := by
 have e1 : (w.alloc a).heap.size = w.heap.size + 1 := by simp
 have e2 : ((w.alloc a).alloc b).heap.size = w.heap.size + 1 + 1 := by simp
 have b1 : Below (w.alloc a).heap.size (w.alloc a) (((w.alloc a).alloc b).alloc c) := by exact eX
 have b2 : Below ((w.alloc a).alloc b).heap.size ((w.alloc a).alloc b) (((w.alloc a).alloc b).alloc c) := by exact eX
 refine ⟨?_, ?_, ?_⟩
 ·have := b1.block w.heap.size (by omega)
  rw [heap_alloc_new] at this; exact this
 ·have := b2.block (w.heap.size + 1) (by omega)
  rw [← e1, heap_alloc_new, e1] at this; exact this
 ·have := heap_alloc_new ((w.alloc a).alloc b) c
  rw [e2] at this; exact this
/-- Two arrays of lists and the graph that points to them, all of them new. -/
structure Made8 (w10 wx : World) (N bo bi bg : Nat) (lv : Value) : Prop where
 d1 : bo ≠ bi
 d2 : bg ≠ bo
 d3 : bg ≠ bi
 l1 : w10.heap.size ≤ bo
 l2 : w10.heap.size ≤ bi
 l3 : w10.heap.size ≤ bg
 h1 : wx.heap[bo]? = some (.cells (madeCells #[.slice none 0 0] N) 33 (0, 0))
 h2 : wx.heap[bi]? = some (.cells (madeCells #[.slice none 0 0] N) 33 (0, 0))
 c0 : wx.cell? ⟨bg, 0, none⟩ = some lv
 c1 : wx.cell? ⟨bg, 1, none⟩ = some (.slice (some ⟨bo, 0, none⟩) N N)
 c2 : wx.cell? ⟨bg, 2, none⟩ = some (.slice (some ⟨bi, 0, none⟩) N N)
 b : Below w10.heap.size w10 wx
theorem made8 {w10 wx : World} {N bo bi bg : Nat} {lv : Value} {T : TypeId} (h1 : wx.heap[bo]? = some (.cells (madeCells #[.slice none 0 0] N) 33 (0, 0))) (h2 : wx.heap[bi]? = some (.cells (madeCells #[.slice none 0 0] N) 33 (0, 0)))
  (h3 : wx.heap[bg]? = some (.cells #[lv, .slice (some ⟨bo, 0, none⟩) N N, .slice (some ⟨bi, 0, none⟩) N N] T (0, 0))) (d1 : bo ≠ bi) (d2 : bg ≠ bo) (d3 : bg ≠ bi) (l1 : w10.heap.size ≤ bo) (l2 : w10.heap.size ≤ bi) (l3 : w10.heap.size ≤ bg) (b : Below w10.heap.size w10 wx) : Made8 w10 wx N bo bi bg lv :=
 ⟨d1, d2, d3, l1, l2, l3, h1, h2, by rw [cell_of_row _ _ _ _ _ _ h3]; rfl, by rw [cell_of_row _ _ _ _ _ _ h3]; rfl, by rw [cell_of_row _ _ _ _ _ _ h3]; rfl, b⟩
/-- What newGraph answers. -/
def NwgR (z : BlkD) (bs : List Int) (lv : Value) (w : World) (e : Ending) (w' : World) : Prop :=
 ∃ bo bi base V, e = .returned (.agg #[lv, .slice (some ⟨bo, 0, none⟩) (nodesN z) (nodesN z), .slice (some ⟨bi, 0, none⟩) (nodesN z) (nodesN z)]) ∧ w.heap.size ≤ base ∧ w.heap.size ≤ bo ∧ w.heap.size ≤ bi ∧ bo ≠ bi ∧ RowsIn w' base (2 * nodesN z) (gB bo bi (nodesN z)) (gO (nodesN z)) V (gR z bs (nodesN z) (linksL z).length) ∧ Below w.heap.size w w'
theorem NwgR.graph {z : BlkD} {bs : List Int} {lv : Value} {w : World} {e : Ending} {w' : World} (h : NwgR z bs lv w e w') {L : Nat} (hL : L ≤ w.heap.size) (hg : GL w L lv (linksL z)) : ∃ v, e = .returned v ∧ GraphV w' L z bs v ∧ Below w.heap.size w w' := by
 obtain ⟨bo, bi, base, V, rfl, h0, h1, h2, h3, h4, h5⟩ := h
 exact ⟨_, rfl, ⟨lv, bo, bi, base, V, rfl, Nat.le_trans hL h0, Nat.le_trans hL h1, Nat.le_trans hL h2, h3, GR.below hg h5, h4⟩, h5⟩
set_option maxHeartbeats 64000000 in
theorem newGraph_any (la : Option Addr) (lc : Nat) (z : BlkD) (v : Value) (bs : List Int) (w : World) (hS : LkS w w.heap.size (.slice la (linksL z).length lc) (linksL z))
  (hIN : ∀ k, k < (linksL z).length → 0 ≤ (lkn (linksL z) k).src ∧ (lkn (linksL z) k).src < ndN z ∧ 0 ≤ (lkn (linksL z) k).dst ∧ (lkn (linksL z) k).dst < ndN z) (hll : (linksL z).length ≤ 7000) (hNN : nodesN z ≤ 200)
  (hv : IntS w w.heap.size v bs) (hbl : bs.length ≤ 1048576) (hinc : IncI bs) :
  Calls Tryz.prog 94 #[.slice la (linksL z).length lc, .int .i64 (nodesN z : Int), v] w (NwgR z bs (.slice la (linksL z).length lc) w) := by
 obtain ⟨i0, hi, hz0, hz1, hz2⟩ := info_parts Tryz.infoI64
 obtain ⟨va, vc, rfl⟩ := hv.slice
 have HV := lh (fun (w1 : World) (hb : Below w.heap.size w w1) => hv.up hb)
 have HS := lh hS
 have HIN := lh hIN
 have HINC := lh hinc
 have HMK := lh (mkRows (nodesN z) (by omega))
 obtain ⟨N, hN⟩ : ∃ N, N = nodesN z := ⟨_, rfl⟩
 rw [← hN] at HMK hNN ⊢
 have hN200 : N ≤ 200 := hNN
 have HN := lh hN
 clear hN hv hS hIN hinc hNN
 obtain ⟨w10, hU⟩ : ∃ U, U = w.alloc (Obj.cells #[.slice none 0 0, .slice none 0 0, .slice none 0 0] 68) := ⟨_, rfl⟩
 have q0 : w10.cell? ⟨w.heap.size, 0, none⟩ = some (.slice none 0 0) := by rw [hU]; simp [go_sem]
 have q1 : w10.cell? ⟨w.heap.size, 1, none⟩ = some (.slice none 0 0) := by rw [hU]; simp [go_sem]
 have q2 : w10.cell? ⟨w.heap.size, 2, none⟩ = some (.slice none 0 0) := by rw [hU]; simp [go_sem]
 have m0 : w10.frozen? ⟨w.heap.size, 0, none⟩ = false := by rw [hU]; simp [go_sem]
 have m1 : w10.frozen? ⟨w.heap.size, 1, none⟩ = false := by rw [hU]; simp [go_sem]
 have m2 : w10.frozen? ⟨w.heap.size, 2, none⟩ = false := by rw [hU]; simp [go_sem]
 have b10 : Below w.heap.size w w10 := by rw [hU]; exact (Below.refl _ _).alloc (Nat.le_refl _) _
 have s10 : w.heap.size < w10.heap.size := cell_lt q0
 have HU := lh hU
 clear hU
 go_enter Tryz.func94, Tryz.ntmps94
 go_wp2_with fail
 rw [← HU.out]
 go_upto_region 1 with fail
 have hmk := HMK.out
 go_cut [7] (fun s10 wx => ∃ bo bi bg : Nat, s10 = .pointer (some ⟨bg, 0, none⟩) ∧ Made8 w10 wx N bo bi bg (.slice la (linksL z).length lc))
 case first =>
  go_region
  all_goals (go_wp2_with fail; go_meet)
  all_goals (first | exact ⟨w10.heap.size, w10.heap.size + 1, w10.heap.size + 1 + 1, rfl, made8 (heap3 w10 _ _ _).1 (heap3 w10 _ _ _).2.1 (heap3 w10 _ _ _).2.2 (by omega) (by omega) (by omega) (by omega) (by omega) (by omega) (by exact eX)⟩ | exact ⟨w10.heap.size, w10.heap.size + 1 + 1, w10.heap.size + 1, rfl, made8 (heap3 w10 _ _ _).1 (heap3 w10 _ _ _).2.2 (heap3 w10 _ _ _).2.1 (by omega) (by omega) (by omega) (by omega) (by omega) (by omega) (by exact eX)⟩ | exact ⟨w10.heap.size + 1, w10.heap.size, w10.heap.size + 1 + 1, rfl, made8 (heap3 w10 _ _ _).2.1 (heap3 w10 _ _ _).1 (heap3 w10 _ _ _).2.2 (by omega) (by omega) (by omega) (by omega) (by omega) (by omega) (by exact eX)⟩ | exact ⟨w10.heap.size + 1, w10.heap.size + 1 + 1, w10.heap.size, rfl, made8 (heap3 w10 _ _ _).2.1 (heap3 w10 _ _ _).2.2 (heap3 w10 _ _ _).1 (by omega) (by omega) (by omega) (by omega) (by omega) (by omega) (by exact eX)⟩ | exact ⟨w10.heap.size + 1 + 1, w10.heap.size, w10.heap.size + 1, rfl, made8 (heap3 w10 _ _ _).2.2 (heap3 w10 _ _ _).1 (heap3 w10 _ _ _).2.1 (by omega) (by omega) (by omega) (by omega) (by omega) (by omega) (by exact eX)⟩ | exact ⟨w10.heap.size + 1 + 1, w10.heap.size + 1, w10.heap.size, rfl, made8 (heap3 w10 _ _ _).2.2 (heap3 w10 _ _ _).2.1 (heap3 w10 _ _ _).1 (by omega) (by omega) (by omega) (by omega) (by omega) (by omega) (by exact eX)⟩)
 case rest =>
  obtain ⟨wk, hwk⟩ : ∃ wk : World, wk = wc := ⟨_, rfl⟩
  subst hwk
  obtain ⟨bo, bi, bg, rfl, hM8⟩ := hcut
  have zc := hM8.b.size
  have bwc := b10.trans (hM8.b.mono b10.size)
  have c0 := cell_keep q0 hM8.b; have c1 := cell_keep q1 hM8.b; have c2 := cell_keep q2 hM8.b
  have RW := lh (made_rows z bs hM8.h1 hM8.h2)
  have HM8 := lh hM8
  have dd1 := hM8.d1; have dd2 := hM8.d2; have dd3 := hM8.d3; have ll1 := hM8.l1; have ll2 := hM8.l2; have ll3 := hM8.l3
  have gc1 := hM8.c1; have gc2 := hM8.c2; have gc0 := hM8.c0
  have sgc := cell_lt gc1
  have sbo : bo < wk.heap.size := (Array.getElem?_eq_some_iff.1 hM8.h1).1
  have sbi : bi < wk.heap.size := (Array.getElem?_eq_some_iff.1 hM8.h2).1
  have frz : ∀ j, w10.frozen? ⟨w.heap.size, j, none⟩ = false → wk.frozen? ⟨w.heap.size, j, none⟩ = false := fun j hj => by rw [hM8.b.frozen (p := ⟨w.heap.size, j, none⟩) (show w.heap.size < w10.heap.size by omega)]; exact hj
  have mc0 := frz 0 m0; have mc1 := frz 1 m1; have mc2 := frz 2 m2
  obtain ⟨nl, hnl⟩ : ∃ n, n = (linksL z).length := ⟨_, rfl⟩
  rw [← hnl] at hll HS HIN gc0
  (try rw [← hnl])
  have NL := lh hnl
  have s1w : w.heap.size < wk.heap.size := by omega
  clear hM8 q0 q1 q2 m0 m1 m2 frz hnl HMK hmk
  go_wp2_with fail
  go_loopw [20] (fun i wr => ∃ (m : Nat) (V : Nat → Value), m ≤ nl ∧ i = .int .i64 m ∧ Hid (RowsIn wr wk.heap.size (2 * N) (gB bo bi N) (gO N) V (gR z bs N m)) ∧ Hid (OnlyIn wk wr wk.heap.size (fun k => k = bo ∨ k = bi))) (fun i _ => nl - (intOf i).toNat)
  case atStart => exact ⟨0, _, by omega, rfl, RW, lh (OnlyIn.refl _ _ _)⟩
  case round =>
   clear RW
   obtain ⟨m, V, hm, rfl, hR, hO⟩ := hrel
   obtain ⟨wo, hwo⟩ : ∃ wo : World, wo = wr := ⟨_, rfl⟩
   subst hwo
   have zO := hO.out.size
   have bww : Below w.heap.size w wo := bwc.trans (hO.out.below (B := w.heap.size) (by omega) (fun k hk => by rcases hk with rfl | rfl <;> omega))
   by_cases hlt : m < nl
   ·obtain ⟨lb, lo, rfl, hlb, l0, l1, l2, l3⟩ := HS.out.at bww (show m < (linksL z).length by rw [← NL.out]; exact hlt)
    have e1 := hO.out.cell gc1 sgc (by simp; omega); have e2 := hO.out.cell gc2 sgc (by simp; omega)
    obtain ⟨s0, s1, d0, d1⟩ := HIN.out m hlt
    rw [ndN_is, ← HN.out] at s1 d1
    obtain ⟨fs, hfs⟩ := Int.eq_ofNat_of_zero_le s0
    obtain ⟨ft, hft⟩ := Int.eq_ofNat_of_zero_le d0
    have GLV := lh (fun (hh : hasI bs (m : Int) = false) (k : Nat) (hfN : fs < N) => gR_live (N := N) hh hfs hft k hfN)
    rw [hfs] at l0 s1; rw [hft] at l1 d1
    have hfN : fs < N := by omega
    have htN : ft < N := by omega
    have ij0 : (0 : Int) ≤ (fs : Int) := by omega
    have ij1 : (0 : Int) ≤ (ft : Int) := by omega
    have im0 : (0 : Int) ≤ (m : Int) := by omega
    have im1 : (m : Int) < (nl : Int) := by omega
    have lbw : lb < wo.heap.size := by omega
    clear hfs hft s0 d0
    go_wp2_with fail
    (go_at_call 123; refine (binSearch_any (.slice va bs.length vc) bs (m : Int) _ (HV.out _ (by exact eX)) HINC.out hbl).mono ?_; rintro e wp ⟨pp, qq, rfl, hwp, -⟩)
    have bp : Below wo.heap.size wo wp := by rw [hwp]; exact eX
    have bq : Below (wo.alloc (Obj.cells #[.int .i64 (fs : Int), .int .i64 (ft : Int), .int .i64 (lkn (linksL z) m).kind, .int .i64 (lkn (linksL z) m).ix] 109)).heap.size (wo.alloc (Obj.cells #[.int .i64 (fs : Int), .int .i64 (ft : Int), .int .i64 (lkn (linksL z) m).kind, .int .i64 (lkn (linksL z) m).ix] 109)) wp := by rw [hwp]; exact eN (eR _ _) _
    have el0 : wp.cell? ⟨wo.heap.size, 0, none⟩ = some (.int .i64 (fs : Int)) := cell_keep (by simp [go_sem]) bq
    have el1 : wp.cell? ⟨wo.heap.size, 1, none⟩ = some (.int .i64 (ft : Int)) := cell_keep (by simp [go_sem]) bq
    have ec1 := cell_keep e1 bp; have ec2 := cell_keep e2 bp
    have zwp : wo.heap.size < wp.heap.size := cell_lt el0
    have RP := lh (hR.out.below bp)
    have OP := lh (hO.out.trans (OnlyIn.call bp zO))
    clear bq hwp l0 l1 l2 l3 e1 e2
    cases hh : hasI bs (m : Int)
    ·have GLV := lh (fun k => GLV.out hh k hfN)
     clear hh
     have NLT := lh (show some wo.heap.size ≠ (V (N + ft)).ownBlock from fun e => by have := (World.ownsRow.lt (hR.out.2.1 (N + ft) (by omega)).2.2.2 _ e.symm).2; omega)
     obtain ⟨rcell1, rfroz1, rlt1, rown1⟩ := RP.out.2.1 (fs) (by omega)
     have EG1 := lh (show gB bo bi N (fs) = bo from if_pos hfN)
     have EO1 := lh (show gO N (fs) = fs from if_pos hfN)
     rw [EG1.out] at rlt1
     rw [EG1.out, EO1.out] at rcell1 rfroz1
     (try dsimp only at rown1)
     obtain ⟨rn1, hrn1⟩ : ∃ n, n = (gR z bs N m fs).length := ⟨_, rfl⟩
     obtain ⟨ra1, rc1, hrv1⟩ := own_slice rown1
     have rlen1 := gR_len z bs N m fs
     rw [← hrn1] at hrv1 rlen1
     have HRV1 := lh hrv1
     have NB1 := lh (fun g (hg : g < wk.heap.size) => (show some g ≠ (V (fs)).ownBlock from fun e => by have := rown1.blk g e.symm; omega))
     have NL1 := lh (show some wo.heap.size ≠ (V (fs)).ownBlock from fun e => by have := (World.ownsRow.lt (hR.out.2.1 fs (by omega)).2.2.2 _ e.symm).2; omega)
     have ROWN1 := lh rown1
     have RN1 := lh hrn1
     rw [hrv1] at rcell1
     have GC1 : wp.cell? ⟨bg, 1, none⟩ = some (.slice (some ⟨bo, 0, none⟩) N N) := ec1
     have LC1 : wp.cell? ⟨wo.heap.size, 0, none⟩ = some (.int .i64 (fs : Int)) := el0
     have bA1 : Below wp.heap.size wp ((wp.alloc (Obj.cells #[.int .i64 (m : Int)] 2)).drew) := by exact eX
     clear hrv1 rown1 hrn1
     go_upto_region 7 with fail
     go_cut [20] from 20 to 61 (fun s48 wx => s48 = .int .i64 (m : Int) ∧ ∃ V1 : Nat → Value, Hid (RowsIn wx wk.heap.size (2 * N) (gB bo bi N) (gO N) V1 (fun j => if j = fs then gR z bs N m fs ++ [(m : Int)] else gR z bs N m j)) ∧ Hid (OnlyIn wk wx wk.heap.size (fun k => k = bo ∨ k = bi)) ∧ wx.cell? ⟨bg, 2, none⟩ = some (.slice (some ⟨bi, 0, none⟩) N N) ∧ wx.cell? ⟨wo.heap.size, 1, none⟩ = some (.int .i64 (ft : Int)) ∧ Hid (some wo.heap.size ≠ (V1 (N + ft)).ownBlock) ∧ wo.heap.size < wx.heap.size)
     case first =>
      refine wp_region_held_drew (S := (fun w' => w'.cell? ⟨bg, 1, none⟩ = some (.slice (some ⟨bo, 0, none⟩) N N) ∧ w'.cell? ⟨wo.heap.size, 0, none⟩ = some (.int .i64 (fs : Int)))) (by kernel_rfl) ?_ (fun hHeld => ?_)
      ·(try dsimp only); exact ⟨GC1, LC1⟩
      (try dsimp only at hHeld)
      refine takeH 0 (v := ?_) rfl ?_ ?_; rotate_left; focus (intro w' hSw; (try dsimp only at hSw); go_simp; try (with_reducible rfl))
      (try simp only [actP])
      refine takeH 1 (v := ?_) rfl ?_ ?_; rotate_left; focus (intro w' hSw; (try dsimp only at hSw); go_simp; try (with_reducible rfl))
      (try simp only [actP])
      refine takeH 2 (v := ?_) rfl ?_ ?_; rotate_left; focus (intro w' hSw; (try dsimp only at hSw); go_simp; try (with_reducible rfl))
      (try simp only [actP])
      refine takeH 3 (v := ?_) rfl ?_ ?_; rotate_left; focus (intro w' hSw; (try dsimp only at hSw); go_simp; try (with_reducible rfl))
      (try simp only [actP])
      refine takeH 4 (v := ?_) rfl ?_ ?_; rotate_left; focus (intro w' hSw; (try dsimp only at hSw); go_simp; try (with_reducible rfl))
      (try simp only [actP])
      refine takeH 5 (v := ?_) rfl ?_ ?_; rotate_left; focus (intro w' hSw; (try dsimp only at hSw); go_simp; try (with_reducible rfl))
      (try simp only [actP])
      refine takeH 6 (v := ?_) rfl ?_ ?_; rotate_left; focus (intro w' hSw; (try dsimp only at hSw); go_simp; try (with_reducible rfl))
      (try simp only [actP])
      refine takeH 7 (v := ?_) rfl ?_ ?_; rotate_left; focus (intro w' hSw; (try dsimp only at hSw); go_simp; try (with_reducible rfl))
      (try simp only [actP])
      refine takeH 8 (v := ?_) rfl ?_ ?_; rotate_left; focus (intro w' hSw; (try dsimp only at hSw); go_simp; try (with_reducible rfl))
      (try simp only [actP])
      refine takeH 10 (v := ?_) rfl ?_ ?_; rotate_left; focus (intro w' hSw; (try dsimp only at hSw); go_simp; try (with_reducible rfl))
      (try simp only [actP])
      refine wpAnyH_ready (rs := [9, 11]) (by kernel_rfl) (by simp) ?_
      refine AllReadyH.cons rfl (fun K hK => ?_) (AllReadyH.cons rfl (fun K hK => ?_) AllReadyH.nil)
      ·have rcD : (wp.drew).cell? ⟨bo, fs, none⟩ = some (.slice ra1 rn1 rc1) := rcell1
       go_simp
       refine hK.out _ _ (hHeld) (fun hHeld' => ?_)
       clear hK K hHeld
       have hHeld := hHeld'
       clear hHeld'
       (try simp only [actP])
       refine wpAnyH_ready (rs := [11]) (by kernel_rfl) (by simp) ?_
       refine AllReadyH.cons rfl (fun K hK => ?_) AllReadyH.nil
       go_simp
       refine hK.out _ _ (⟨cell_keep GC1 bA1, cell_keep LC1 bA1⟩) (fun hHeld' => ?_)
       clear hK K hHeld
       have hHeld := hHeld'
       clear hHeld'
       (try simp only [actP])
       obtain ⟨wa, hwa⟩ : ∃ wa, wa = (wp.alloc (Obj.cells #[.int .i64 (m : Int)] 2)).drew := ⟨_, rfl⟩
       have oa : wa.cell? ⟨wp.heap.size, 0, none⟩ = some (.int .i64 (m : Int)) := by rw [hwa]; simp [go_sem]
       rw [← hwa] at hHeld bA1 ⊢
       have za := bA1.size
       have OV := GI.below ROWN1.out bA1
       clear hwa
       refine wpAnyH_ready (rs := [12]) (by kernel_rfl) (by simp) ?_
       refine AllReadyH.cons rfl (fun K hK => ?_) AllReadyH.nil
       rw [if_pos (by rfl)]
       refine wp_append_at _ _ _ 33 rfl wk.heap.size 2 i0 (.int .i64 0) 1 8 Tryz.underlying33 hi hz0 hz1 hz2 rfl (by decide) (V (fs)) _ _ (by rw [HRV1.out]; rfl) OV ⟨wp.heap.size, 0, none⟩ 1 1 [.int .i64 (m : Int)] rfl rfl (one_at oa) (fun u hu => by simp at hu; subst hu; rfl) (by rw [← RN1.out]; unfold maxLen; omega) (by rw [← RN1.out]; omega) (by omega) ?_
       intro nv wb hown hgrow _ hat
       obtain ⟨sa, sc, hsv⟩ := own_slice hown
       subst hsv
       have rc2 := hgrow.cell (cell_keep rcell1 bA1) (NB1.out _ rlt1)
       have rf2 : wb.frozen? ⟨bo, fs, none⟩ = false := by rw [World.frozen?_of_block (a := ⟨bo, fs, none⟩) (hgrow.block bo (by omega) (NB1.out _ rlt1)), bA1.frozen (p := ⟨bo, fs, none⟩) (show bo < wp.heap.size by omega)]; exact rfroz1
       refine hK.out _ _ (⟨hgrow.cell hHeld.1 (NB1.out _ sgc), hgrow.cell hHeld.2 NL1.out⟩) (fun hHeld' => ?_)
       clear hK K hHeld
       have hHeld := hHeld'
       clear hHeld'
       (try simp only [actP])
       have PS := lh (RowsIn.push2 (k := fs) RP.out (by omega) EG1.out EO1.out (fun j hj hne hg => gInj dd1 hj hne hg) bA1 hown hgrow hat)
       have ON := lh (fun u => OnlyIn.push OP.out (by omega) bA1 hgrow (fun g hg => ROWN1.out.blk g hg) (p := ⟨bo, fs, none⟩) (.inl rfl) u)
       have zb := hgrow.size
       refine takeH 13 (v := ?_) rfl ?_ ?_; rotate_left; focus (intro w' hSw; (try dsimp only at hSw); go_simp; try (with_reducible rfl))
       (try simp only [actP])
       refine wpAnyH_ready (rs := [14]) (by kernel_rfl) (by simp) ?_
       refine AllReadyH.cons rfl (fun K hK => ?_) AllReadyH.nil
       go_simp
       refine hK.out _ _ (⟨(grown_set wb ⟨bo, fs, none⟩ _).cell hHeld.1 (by simp; omega), (grown_set wb ⟨bo, fs, none⟩ _).cell hHeld.2 (by simp; omega)⟩) (fun hHeld' => ?_)
       clear hK K hHeld
       have hHeld := hHeld'
       clear hHeld'
       (try simp only [actP])
       refine wpAnyH_done (by kernel_rfl) ?_ _
       go_wp2_with fail
       go_meet
       exact ⟨rfl, _, PS, lh (ON.out _), (grown_set wb ⟨bo, fs, none⟩ _).cell (hgrow.cell (cell_keep ec2 bA1) (NB1.out _ sgc)) (by simp; omega), (grown_set wb ⟨bo, fs, none⟩ _).cell (hgrow.cell (cell_keep el1 bA1) NL1.out) (by simp; omega), lh (by simp only [if_neg (show ¬ N + ft = fs by omega)]; exact NLT.out), by simp [World.setCell]; omega⟩
      ·have rcA : ((wp.alloc (Obj.cells #[.int .i64 (m : Int)] 2)).drew).cell? ⟨bo, fs, none⟩ = some (.slice ra1 rn1 rc1) := cell_keep rcell1 bA1
       go_simp
       refine hK.out _ _ (⟨cell_keep GC1 bA1, cell_keep LC1 bA1⟩) (fun hHeld' => ?_)
       clear hK K hHeld
       have hHeld := hHeld'
       clear hHeld'
       (try simp only [actP])
       refine wpAnyH_ready (rs := [9]) (by kernel_rfl) (by simp) ?_
       refine AllReadyH.cons rfl (fun K hK => ?_) AllReadyH.nil
       go_simp
       refine hK.out _ _ (hHeld) (fun hHeld' => ?_)
       clear hK K hHeld
       have hHeld := hHeld'
       clear hHeld'
       (try simp only [actP])
       obtain ⟨wa, hwa⟩ : ∃ wa, wa = (wp.alloc (Obj.cells #[.int .i64 (m : Int)] 2)).drew := ⟨_, rfl⟩
       have oa : wa.cell? ⟨wp.heap.size, 0, none⟩ = some (.int .i64 (m : Int)) := by rw [hwa]; simp [go_sem]
       rw [← hwa] at hHeld bA1 ⊢
       have za := bA1.size
       have OV := GI.below ROWN1.out bA1
       clear hwa
       refine wpAnyH_ready (rs := [12]) (by kernel_rfl) (by simp) ?_
       refine AllReadyH.cons rfl (fun K hK => ?_) AllReadyH.nil
       rw [if_pos (by rfl)]
       refine wp_append_at _ _ _ 33 rfl wk.heap.size 2 i0 (.int .i64 0) 1 8 Tryz.underlying33 hi hz0 hz1 hz2 rfl (by decide) (V (fs)) _ _ (by rw [HRV1.out]; rfl) OV ⟨wp.heap.size, 0, none⟩ 1 1 [.int .i64 (m : Int)] rfl rfl (one_at oa) (fun u hu => by simp at hu; subst hu; rfl) (by rw [← RN1.out]; unfold maxLen; omega) (by rw [← RN1.out]; omega) (by omega) ?_
       intro nv wb hown hgrow _ hat
       obtain ⟨sa, sc, hsv⟩ := own_slice hown
       subst hsv
       have rc2 := hgrow.cell (cell_keep rcell1 bA1) (NB1.out _ rlt1)
       have rf2 : wb.frozen? ⟨bo, fs, none⟩ = false := by rw [World.frozen?_of_block (a := ⟨bo, fs, none⟩) (hgrow.block bo (by omega) (NB1.out _ rlt1)), bA1.frozen (p := ⟨bo, fs, none⟩) (show bo < wp.heap.size by omega)]; exact rfroz1
       refine hK.out _ _ (⟨hgrow.cell hHeld.1 (NB1.out _ sgc), hgrow.cell hHeld.2 NL1.out⟩) (fun hHeld' => ?_)
       clear hK K hHeld
       have hHeld := hHeld'
       clear hHeld'
       (try simp only [actP])
       have PS := lh (RowsIn.push2 (k := fs) RP.out (by omega) EG1.out EO1.out (fun j hj hne hg => gInj dd1 hj hne hg) bA1 hown hgrow hat)
       have ON := lh (fun u => OnlyIn.push OP.out (by omega) bA1 hgrow (fun g hg => ROWN1.out.blk g hg) (p := ⟨bo, fs, none⟩) (.inl rfl) u)
       have zb := hgrow.size
       refine takeH 13 (v := ?_) rfl ?_ ?_; rotate_left; focus (intro w' hSw; (try dsimp only at hSw); go_simp; try (with_reducible rfl))
       (try simp only [actP])
       refine wpAnyH_ready (rs := [14]) (by kernel_rfl) (by simp) ?_
       refine AllReadyH.cons rfl (fun K hK => ?_) AllReadyH.nil
       go_simp
       refine hK.out _ _ (⟨(grown_set wb ⟨bo, fs, none⟩ _).cell hHeld.1 (by simp; omega), (grown_set wb ⟨bo, fs, none⟩ _).cell hHeld.2 (by simp; omega)⟩) (fun hHeld' => ?_)
       clear hK K hHeld
       have hHeld := hHeld'
       clear hHeld'
       (try simp only [actP])
       refine wpAnyH_done (by kernel_rfl) ?_ _
       go_wp2_with fail
       go_meet
       exact ⟨rfl, _, PS, lh (ON.out _), (grown_set wb ⟨bo, fs, none⟩ _).cell (hgrow.cell (cell_keep ec2 bA1) (NB1.out _ sgc)) (by simp; omega), (grown_set wb ⟨bo, fs, none⟩ _).cell (hgrow.cell (cell_keep el1 bA1) NL1.out) (by simp; omega), lh (by simp only [if_neg (show ¬ N + ft = fs by omega)]; exact NLT.out), by simp [World.setCell]; omega⟩
     case rest =>
      obtain ⟨w2, hw2⟩ : ∃ w2 : World, w2 = wc := ⟨_, rfl⟩
      subst hw2
      obtain ⟨rfl, V1, RP2, OP2, ec2', el1', NLB, zwx⟩ := hcut
      have zw2 := OP2.out.size
      clear ec1 ec2 el0 el1 rcell1 rfroz1 GC1 LC1 bA1 RP OP hR
      have ec2 := ec2'; have el1 := el1'
      clear ec2' el1'
      obtain ⟨rcell2, rfroz2, rlt2, rown2⟩ := RP2.out.2.1 (N + ft) (by omega)
      have EG2 := lh (show gB bo bi N (N + ft) = bi from if_neg (by omega))
      have EO2 := lh (show gO N (N + ft) = ft from (if_neg (by omega)).trans (by omega))
      rw [EG2.out] at rlt2
      rw [EG2.out, EO2.out] at rcell2 rfroz2
      (try dsimp only at rown2)
      obtain ⟨rn2, hrn2⟩ : ∃ n, n = (if N + ft = fs then gR z bs N m fs ++ [(m : Int)] else gR z bs N m (N + ft)).length := ⟨_, rfl⟩
      obtain ⟨ra2, rc2, hrv2⟩ := own_slice rown2
      have rlen2 := (show (if N + ft = fs then gR z bs N m fs ++ [(m : Int)] else gR z bs N m (N + ft)).length ≤ m from by rw [if_neg (by omega)]; exact gR_len z bs N m (N + ft))
      rw [← hrn2] at hrv2 rlen2
      have HRV2 := lh hrv2
      have NB2 := lh (fun g (hg : g < wk.heap.size) => (show some g ≠ (V1 (N + ft)).ownBlock from fun e => by have := rown2.blk g e.symm; omega))
      have NL2 := lh (show some wo.heap.size ≠ (V1 (N + ft)).ownBlock from NLB.out)
      have ROWN2 := lh rown2
      have RN2 := lh hrn2
      rw [hrv2] at rcell2
      have GC2 : w2.cell? ⟨bg, 2, none⟩ = some (.slice (some ⟨bi, 0, none⟩) N N) := ec2
      have LC2 : w2.cell? ⟨wo.heap.size, 1, none⟩ = some (.int .i64 (ft : Int)) := el1
      have bA2 : Below w2.heap.size w2 ((w2.alloc (Obj.cells #[.int .i64 (m : Int)] 2)).drew) := by exact eX
      clear hrv2 rown2 hrn2
      go_upto_region 8 with fail
      refine wp_region_held_drew (S := (fun w' => w'.cell? ⟨bg, 2, none⟩ = some (.slice (some ⟨bi, 0, none⟩) N N) ∧ w'.cell? ⟨wo.heap.size, 1, none⟩ = some (.int .i64 (ft : Int)))) (by kernel_rfl) ?_ (fun hHeld => ?_)
      ·(try dsimp only); exact ⟨GC2, LC2⟩
      (try dsimp only at hHeld)
      refine takeH 0 (v := ?_) rfl ?_ ?_; rotate_left; focus (intro w' hSw; (try dsimp only at hSw); go_simp; try (with_reducible rfl))
      (try simp only [actP])
      refine takeH 1 (v := ?_) rfl ?_ ?_; rotate_left; focus (intro w' hSw; (try dsimp only at hSw); go_simp; try (with_reducible rfl))
      (try simp only [actP])
      refine takeH 2 (v := ?_) rfl ?_ ?_; rotate_left; focus (intro w' hSw; (try dsimp only at hSw); go_simp; try (with_reducible rfl))
      (try simp only [actP])
      refine takeH 3 (v := ?_) rfl ?_ ?_; rotate_left; focus (intro w' hSw; (try dsimp only at hSw); go_simp; try (with_reducible rfl))
      (try simp only [actP])
      refine takeH 4 (v := ?_) rfl ?_ ?_; rotate_left; focus (intro w' hSw; (try dsimp only at hSw); go_simp; try (with_reducible rfl))
      (try simp only [actP])
      refine takeH 5 (v := ?_) rfl ?_ ?_; rotate_left; focus (intro w' hSw; (try dsimp only at hSw); go_simp; try (with_reducible rfl))
      (try simp only [actP])
      refine takeH 6 (v := ?_) rfl ?_ ?_; rotate_left; focus (intro w' hSw; (try dsimp only at hSw); go_simp; try (with_reducible rfl))
      (try simp only [actP])
      refine takeH 7 (v := ?_) rfl ?_ ?_; rotate_left; focus (intro w' hSw; (try dsimp only at hSw); go_simp; try (with_reducible rfl))
      (try simp only [actP])
      refine takeH 8 (v := ?_) rfl ?_ ?_; rotate_left; focus (intro w' hSw; (try dsimp only at hSw); go_simp; try (with_reducible rfl))
      (try simp only [actP])
      refine takeH 10 (v := ?_) rfl ?_ ?_; rotate_left; focus (intro w' hSw; (try dsimp only at hSw); go_simp; try (with_reducible rfl))
      (try simp only [actP])
      refine wpAnyH_ready (rs := [9, 11]) (by kernel_rfl) (by simp) ?_
      refine AllReadyH.cons rfl (fun K hK => ?_) (AllReadyH.cons rfl (fun K hK => ?_) AllReadyH.nil)
      ·have rcD : (w2.drew).cell? ⟨bi, ft, none⟩ = some (.slice ra2 rn2 rc2) := rcell2
       go_simp
       refine hK.out _ _ (hHeld) (fun hHeld' => ?_)
       clear hK K hHeld
       have hHeld := hHeld'
       clear hHeld'
       (try simp only [actP])
       refine wpAnyH_ready (rs := [11]) (by kernel_rfl) (by simp) ?_
       refine AllReadyH.cons rfl (fun K hK => ?_) AllReadyH.nil
       go_simp
       refine hK.out _ _ (⟨cell_keep GC2 bA2, cell_keep LC2 bA2⟩) (fun hHeld' => ?_)
       clear hK K hHeld
       have hHeld := hHeld'
       clear hHeld'
       (try simp only [actP])
       obtain ⟨wa, hwa⟩ : ∃ wa, wa = (w2.alloc (Obj.cells #[.int .i64 (m : Int)] 2)).drew := ⟨_, rfl⟩
       have oa : wa.cell? ⟨w2.heap.size, 0, none⟩ = some (.int .i64 (m : Int)) := by rw [hwa]; simp [go_sem]
       rw [← hwa] at hHeld bA2 ⊢
       have za := bA2.size
       have OV := GI.below ROWN2.out bA2
       clear hwa
       refine wpAnyH_ready (rs := [12]) (by kernel_rfl) (by simp) ?_
       refine AllReadyH.cons rfl (fun K hK => ?_) AllReadyH.nil
       rw [if_pos (by rfl)]
       refine wp_append_at _ _ _ 33 rfl wk.heap.size 2 i0 (.int .i64 0) 1 8 Tryz.underlying33 hi hz0 hz1 hz2 rfl (by decide) (V1 (N + ft)) _ _ (by rw [HRV2.out]; rfl) OV ⟨w2.heap.size, 0, none⟩ 1 1 [.int .i64 (m : Int)] rfl rfl (one_at oa) (fun u hu => by simp at hu; subst hu; rfl) (by rw [← RN2.out]; unfold maxLen; omega) (by rw [← RN2.out]; omega) (by omega) ?_
       intro nv wb hown hgrow _ hat
       obtain ⟨sa, sc, hsv⟩ := own_slice hown
       subst hsv
       have rc2 := hgrow.cell (cell_keep rcell2 bA2) (NB2.out _ rlt2)
       have rf2 : wb.frozen? ⟨bi, ft, none⟩ = false := by rw [World.frozen?_of_block (a := ⟨bi, ft, none⟩) (hgrow.block bi (by omega) (NB2.out _ rlt2)), bA2.frozen (p := ⟨bi, ft, none⟩) (show bi < w2.heap.size by omega)]; exact rfroz2
       refine hK.out _ _ (⟨hgrow.cell hHeld.1 (NB2.out _ sgc), hgrow.cell hHeld.2 NL2.out⟩) (fun hHeld' => ?_)
       clear hK K hHeld
       have hHeld := hHeld'
       clear hHeld'
       (try simp only [actP])
       have PS := lh (RowsIn.push2 (k := N + ft) RP2.out (by omega) EG2.out EO2.out (fun j hj hne hg => gInj dd1 hj hne hg) bA2 hown hgrow hat)
       have ON := lh (fun u => OnlyIn.push OP2.out (by omega) bA2 hgrow (fun g hg => ROWN2.out.blk g hg) (p := ⟨bi, ft, none⟩) (.inr rfl) u)
       have zb := hgrow.size
       refine takeH 13 (v := ?_) rfl ?_ ?_; rotate_left; focus (intro w' hSw; (try dsimp only at hSw); go_simp; try (with_reducible rfl))
       (try simp only [actP])
       refine wpAnyH_ready (rs := [14]) (by kernel_rfl) (by simp) ?_
       refine AllReadyH.cons rfl (fun K hK => ?_) AllReadyH.nil
       go_simp
       refine hK.out _ _ (⟨(grown_set wb ⟨bi, ft, none⟩ _).cell hHeld.1 (by simp; omega), (grown_set wb ⟨bi, ft, none⟩ _).cell hHeld.2 (by simp; omega)⟩) (fun hHeld' => ?_)
       clear hK K hHeld
       have hHeld := hHeld'
       clear hHeld'
       (try simp only [actP])
       refine wpAnyH_done (by kernel_rfl) ?_ _
       have R9 := lh (PS.out.congr (R' := gR z bs N (m + 1)) (fun k => by rw [GLV.out k]; simp only [if_neg (show ¬ N + ft = fs by omega)]))
       have O9 := lh (ON.out (.slice sa (rn2 + 1) sc))
       rw [← RN2.out] at R9 ⊢
       clear hHeld hown hgrow hat PS ON
       go_wp2
       go_roundw
       case rel => exact ⟨m + 1, _, by omega, by go_num, R9, O9⟩
       case measure => simp [intOf]; omega
      ·have rcA : ((w2.alloc (Obj.cells #[.int .i64 (m : Int)] 2)).drew).cell? ⟨bi, ft, none⟩ = some (.slice ra2 rn2 rc2) := cell_keep rcell2 bA2
       go_simp
       refine hK.out _ _ (⟨cell_keep GC2 bA2, cell_keep LC2 bA2⟩) (fun hHeld' => ?_)
       clear hK K hHeld
       have hHeld := hHeld'
       clear hHeld'
       (try simp only [actP])
       refine wpAnyH_ready (rs := [9]) (by kernel_rfl) (by simp) ?_
       refine AllReadyH.cons rfl (fun K hK => ?_) AllReadyH.nil
       go_simp
       refine hK.out _ _ (hHeld) (fun hHeld' => ?_)
       clear hK K hHeld
       have hHeld := hHeld'
       clear hHeld'
       (try simp only [actP])
       obtain ⟨wa, hwa⟩ : ∃ wa, wa = (w2.alloc (Obj.cells #[.int .i64 (m : Int)] 2)).drew := ⟨_, rfl⟩
       have oa : wa.cell? ⟨w2.heap.size, 0, none⟩ = some (.int .i64 (m : Int)) := by rw [hwa]; simp [go_sem]
       rw [← hwa] at hHeld bA2 ⊢
       have za := bA2.size
       have OV := GI.below ROWN2.out bA2
       clear hwa
       refine wpAnyH_ready (rs := [12]) (by kernel_rfl) (by simp) ?_
       refine AllReadyH.cons rfl (fun K hK => ?_) AllReadyH.nil
       rw [if_pos (by rfl)]
       refine wp_append_at _ _ _ 33 rfl wk.heap.size 2 i0 (.int .i64 0) 1 8 Tryz.underlying33 hi hz0 hz1 hz2 rfl (by decide) (V1 (N + ft)) _ _ (by rw [HRV2.out]; rfl) OV ⟨w2.heap.size, 0, none⟩ 1 1 [.int .i64 (m : Int)] rfl rfl (one_at oa) (fun u hu => by simp at hu; subst hu; rfl) (by rw [← RN2.out]; unfold maxLen; omega) (by rw [← RN2.out]; omega) (by omega) ?_
       intro nv wb hown hgrow _ hat
       obtain ⟨sa, sc, hsv⟩ := own_slice hown
       subst hsv
       have rc2 := hgrow.cell (cell_keep rcell2 bA2) (NB2.out _ rlt2)
       have rf2 : wb.frozen? ⟨bi, ft, none⟩ = false := by rw [World.frozen?_of_block (a := ⟨bi, ft, none⟩) (hgrow.block bi (by omega) (NB2.out _ rlt2)), bA2.frozen (p := ⟨bi, ft, none⟩) (show bi < w2.heap.size by omega)]; exact rfroz2
       refine hK.out _ _ (⟨hgrow.cell hHeld.1 (NB2.out _ sgc), hgrow.cell hHeld.2 NL2.out⟩) (fun hHeld' => ?_)
       clear hK K hHeld
       have hHeld := hHeld'
       clear hHeld'
       (try simp only [actP])
       have PS := lh (RowsIn.push2 (k := N + ft) RP2.out (by omega) EG2.out EO2.out (fun j hj hne hg => gInj dd1 hj hne hg) bA2 hown hgrow hat)
       have ON := lh (fun u => OnlyIn.push OP2.out (by omega) bA2 hgrow (fun g hg => ROWN2.out.blk g hg) (p := ⟨bi, ft, none⟩) (.inr rfl) u)
       have zb := hgrow.size
       refine takeH 13 (v := ?_) rfl ?_ ?_; rotate_left; focus (intro w' hSw; (try dsimp only at hSw); go_simp; try (with_reducible rfl))
       (try simp only [actP])
       refine wpAnyH_ready (rs := [14]) (by kernel_rfl) (by simp) ?_
       refine AllReadyH.cons rfl (fun K hK => ?_) AllReadyH.nil
       go_simp
       refine hK.out _ _ (⟨(grown_set wb ⟨bi, ft, none⟩ _).cell hHeld.1 (by simp; omega), (grown_set wb ⟨bi, ft, none⟩ _).cell hHeld.2 (by simp; omega)⟩) (fun hHeld' => ?_)
       clear hK K hHeld
       have hHeld := hHeld'
       clear hHeld'
       (try simp only [actP])
       refine wpAnyH_done (by kernel_rfl) ?_ _
       have R9 := lh (PS.out.congr (R' := gR z bs N (m + 1)) (fun k => by rw [GLV.out k]; simp only [if_neg (show ¬ N + ft = fs by omega)]))
       have O9 := lh (ON.out (.slice sa (rn2 + 1) sc))
       rw [← RN2.out] at R9 ⊢
       clear hHeld hown hgrow hat PS ON
       go_wp2
       go_roundw
       case rel => exact ⟨m + 1, _, by omega, by go_num, R9, O9⟩
       case measure => simp [intOf]; omega
    ·have R9 := lh (RP.out.congr (fun k => (gR_dead hh k).symm))
     clear hh
     go_wp2
     go_roundw
     case rel => exact ⟨m + 1, _, by omega, by go_num, R9, OP⟩
     case measure => simp [intOf]; omega
   ·obtain rfl : m = nl := by omega
    have hI : ¬ (m : Int) < (m : Int) := by omega
    have e0 := hO.out.cell gc0 sgc (by simp; omega); have e1 := hO.out.cell gc1 sgc (by simp; omega); have e2 := hO.out.cell gc2 sgc (by simp; omega)
    have i0 := hO.out.cell c0 s1w (by simp; omega); have i1 := hO.out.cell c1 s1w (by simp; omega); have i2 := hO.out.cell c2 s1w (by simp; omega)
    have j0 := hO.out.frozen mc0 s1w (by simp; omega); have j1 := hO.out.frozen mc1 s1w (by simp; omega); have j2 := hO.out.frozen mc2 s1w (by simp; omega)
    have GV := lh (fun (p : Addr) (hp : p.block = w.heap.size) (W : World) (h : RowsIn W wk.heap.size (2 * N) (gB bo bi N) (gO N) V (gR z bs N m)) (u : Value) => h.set (p := p) (by omega) (fun k _ => by unfold gB; split <;> omega) u)
    have sw1 : w.heap.size < wo.heap.size := by omega
    have RF := lh hR.out
    clear hR c0 c1 c2 mc0 mc1 mc2
    go_wp2
    exact bodyPost_ret (v := .agg #[.slice la m lc, .slice (some ⟨bo, 0, none⟩) N N, .slice (some ⟨bi, 0, none⟩) N N]) (by simp [results, Tryz.results94, go_sem, *]) rfl ⟨bo, bi, wk.heap.size, V, by rw [← HN.out, ← NL.out], by omega, by omega, by omega, dd1, by rw [← HN.out, ← NL.out]; exact GV.out ⟨w.heap.size, 2, none⟩ rfl _ (GV.out ⟨w.heap.size, 1, none⟩ rfl _ (GV.out ⟨w.heap.size, 0, none⟩ rfl _ RF.out _) _) _, by exact eX⟩
end Go.Proofs.YtkpfbnffhhmokaaGreat
namespace Go.Proofs.YtkpfbnffhhmokaaGreat
open Go.ChangeShapes Go.WideShapes Go.ChangeAt Go.RowKit Go.Deep
set_option linter.unusedVariables false
set_option linter.unusedSimpArgs false
set_option maxRecDepth 100000
def GraphR (z : BlkD) (bs : List Int) (w : World) (e : Ending) (w' : World) : Prop :=
 ∃ v, e = .returned (.tuple #[v, .int .i64 (grCode z bs)]) ∧ (grCode z bs = 0 → GraphV w' w.heap.size z bs v) ∧ (grCode z bs ≠ 0 → v = .agg #[.slice none 0 0, .slice none 0 0, .slice none 0 0]) ∧ Below w.heap.size w w'
theorem graph_no {z : BlkD} {bs : List Int} {w w' : World} {e : Ending} {c : Int} (hc : grCode z bs = c) (h0 : c ≠ 0) (he : e = .returned (.tuple #[.agg #[.slice none 0 0, .slice none 0 0, .slice none 0 0], .int .i64 c])) (hb : Below w.heap.size w w') : GraphR z bs w e w' :=
 ⟨_, by rw [hc]; exact he, fun q => absurd (hc.symm.trans q) h0, fun _ => rfl, hb⟩
/-- 'append(xs, ys...)' of two lists of links, in a region. -/
theorem wp_append_links {w : World} {o : Oper} {a : Act} {K : Act → World → Prop} {Q : Exit → Act → World → Prop} (s x : Operand) (ho : o.op = .call { callee := .builtin .append, args := #[s, x], argTypes := #[65, 65] })
  (base base2 : Nat) (v v2 : Value) (L1 L2 : List LkD) (hs : a.eval s = v) (hx : a.eval x = v2) (h1 : GL w base v L1) (h2 : GL w base2 v2 L2) (hl : L1.length + L2.length ≤ 100000) (hbase : base ≤ w.heap.size)
  (h : ∀ v' w', GL w' base v' (L1 ++ L2) → w.grownBy w' v.ownBlock → (v'.ownBlock = v.ownBlock ∨ v'.ownBlock = some w.heap.size) → K (a.put o.dst v') w') : o.wp Tryz.prog a w K Q := by
 obtain ⟨ti, hi, hz0, hz1, hz2⟩ := info_parts Tryz.infoLk
 have e1 : (L1.map lkC).length = L1.length := List.length_map _
 have e2 : (L2.map lkC).length = L2.length := List.length_map _
 rcases h2.1.2 with ⟨rfl, hn⟩ | ⟨g, cap, cur, rfl, hb, hg, _⟩
 ·have hL2 : L2 = [] := List.length_eq_zero_iff.1 (by omega)
  subst hL2
  have hrun := run_append_owned_none (P := Tryz.prog) (w := w) base 65 o.type 109 ti 4 Tryz.underlying65 hi v _ _ h1.1
  unfold Oper.wp execOp
  simp [ho, resolve, invoke, builtin, hs, hx, hrun, Result.andThen]
  exact h v w (by rw [List.append_nil]; exact h1) (World.grownBy.refl _ _) (.inl rfl)
 ·refine wp_append_at w s x 65 ho base 109 ti (.agg #[.int .i64 0, .int .i64 0, .int .i64 0, .int .i64 0]) 4 32 Tryz.underlying65 hi hz0 hz1 hz2 rfl (by decide) v _ _ hs h1.1 ⟨g, 0, none⟩ (L2.map lkC).length cap (L2.map lkC).flatten hx ?_ ?_ ?_ (by unfold maxLen; omega) (by omega) hbase ?_
  ·exact flat_len _ h2.2
  ·intro j u hj
   have hlt : j < (L2.map lkC).flatten.length := (List.getElem?_eq_some_iff.1 hj).1
   rw [flat_len _ h2.2] at hlt
   have hc := World.ownsRow.cellAt h2.1 j hlt
   have e : (⟨g, 0, none⟩ : Addr).add j = ⟨g, j, none⟩ := by simp [Addr.add]; exact fun h => h.symm
   rw [e, hc]; exact hj
  ·intro u hu
   obtain ⟨l, hl1, hl2⟩ := List.mem_flatten.1 hu
   obtain ⟨q, _, rfl⟩ := List.mem_map.1 hl1
   simp only [lkC, List.mem_cons, List.not_mem_nil, or_false] at hl2
   rcases hl2 with rfl | rfl | rfl | rfl <;> rfl
  ·intro v' w' hown' hgrow _ hat
   refine h v' w' ⟨?_, fun f hf => ?_⟩ hgrow hat
   ·rw [List.map_append, List.flatten_append, List.length_append]; exact hown'
   ·rw [List.map_append] at hf
    rcases List.mem_append.1 hf with hf | hf
    ·exact h1.2 f hf
    ·exact h2.2 f hf
set_option maxHeartbeats 64000000 in
theorem graphOf_any (f : Nat → Value) (z : BlkD) (v : Value) (bs : List Int) (w : World) (h : BlkF w w.heap.size f z) (hv : IntS w w.heap.size v bs) (hbl : bs.length ≤ 1048576) :
  Calls Tryz.prog 51 #[.agg #[f 0, f 1, f 2, f 3, f 4], v] w (GraphR z bs w) := by
 obtain ⟨i0, hi, hz0, hz1, hz2⟩ := info_parts Tryz.infoI64
 have HB := lh (fun (w1 : World) (hb : Below w.heap.size w w1) => netBlk_all f z w1 (h.up hb))
 have HCL := lh (fun (hb : blkB z = true) (w1 : World) (hb' : Below w.heap.size w w1) => cellLinks_any f z w1 (h.up hb') hb)
 obtain ⟨p0, q0, p1, q1, p2, q2, p3, q3, p4, q4, e0, e1, e2, e3, e4⟩ := h.five
 obtain ⟨va, vc, rfl⟩ := hv.slice
 have HV := lh (fun (w1 : World) (hb : Below w.heap.size w w1) => hv.up hb)
 rw [e0, e1, e2, e3, e4] at HB HCL
 rw [e0, e1, e2, e3, e4]
 clear e0 e1 e2 e3 e4 h hv
 unfold BlkNet at HB
 unfold CLinksR at HCL
 obtain ⟨U, hU⟩ : ∃ U, U = (w.alloc (Obj.cells #[.slice p0 z.lib.length q0, .slice p1 z.des.insts.length q1, .slice p2 z.des.nets.length q2, .slice p3 z.des.ports.length q3, .slice p4 z.wires.length q4] 46)).alloc (Obj.cells #[.slice none 0 0, .slice none 0 0, .slice none 0 0] 68) := ⟨_, rfl⟩
 have k0 : U.cell? ⟨w.heap.size, 0, none⟩ = some (.slice p0 z.lib.length q0) := by rw [hU]; simp [go_sem]
 have k1 : U.cell? ⟨w.heap.size, 1, none⟩ = some (.slice p1 z.des.insts.length q1) := by rw [hU]; simp [go_sem]
 have k2 : U.cell? ⟨w.heap.size, 2, none⟩ = some (.slice p2 z.des.nets.length q2) := by rw [hU]; simp [go_sem]
 have k3 : U.cell? ⟨w.heap.size, 3, none⟩ = some (.slice p3 z.des.ports.length q3) := by rw [hU]; simp [go_sem]
 have k4 : U.cell? ⟨w.heap.size, 4, none⟩ = some (.slice p4 z.wires.length q4) := by rw [hU]; simp [go_sem]
 have v0 : U.cell? ⟨w.heap.size + 1, 0, none⟩ = some (.slice none 0 0) := by rw [hU]; simp [go_sem]
 have v1 : U.cell? ⟨w.heap.size + 1, 1, none⟩ = some (.slice none 0 0) := by rw [hU]; simp [go_sem]
 have v2 : U.cell? ⟨w.heap.size + 1, 2, none⟩ = some (.slice none 0 0) := by rw [hU]; simp [go_sem]
 have f0 : U.frozen? ⟨w.heap.size + 1, 0, none⟩ = false := by rw [hU]; simp [go_sem]
 have f1 : U.frozen? ⟨w.heap.size + 1, 1, none⟩ = false := by rw [hU]; simp [go_sem]
 have f2 : U.frozen? ⟨w.heap.size + 1, 2, none⟩ = false := by rw [hU]; simp [go_sem]
 have bU : Below w.heap.size w U := by rw [hU]; exact ((Below.refl _ _).alloc (Nat.le_refl _) _).alloc (by simp) _
 have sU : w.heap.size + 1 < U.heap.size := cell_lt v0
 have HU := lh hU
 clear hU
 cases hb : blkB z
 ·have hQ := lh (show grCode z bs = 1 by simp [grCode, hb])
  rw [hb] at HB
  clear hb HCL
  go_enter Tryz.func51, Tryz.ntmps51
  go_wp2_with fail
  rw [← HU.out]
  (go_at_call 90; refine (HB.out _ bU).mono ?_; rintro e w1 ⟨a, n, c, m, rfl, hb, _⟩)
  have b1 := ext_trans bU hb
  have t0 := cell_keep v0 hb; have t1 := cell_keep v1 hb; have t2 := cell_keep v2 hb
  have u0 : w1.frozen? ⟨w.heap.size + 1, 0, none⟩ = false := by rw [hb.frozen (p := ⟨w.heap.size + 1, 0, none⟩) sU]; exact f0
  have u1 : w1.frozen? ⟨w.heap.size + 1, 1, none⟩ = false := by rw [hb.frozen (p := ⟨w.heap.size + 1, 1, none⟩) sU]; exact f1
  have u2 : w1.frozen? ⟨w.heap.size + 1, 2, none⟩ = false := by rw [hb.frozen (p := ⟨w.heap.size + 1, 2, none⟩) sU]; exact f2
  have sz : w.heap.size + 1 < w1.heap.size := by have := hb.size; omega
  have sz0 : w.heap.size < w1.heap.size := by omega
  clear k0 k1 k2 k3 k4 v0 v1 v2 f0 f1 f2 hb bU
  go_wp2
  exact bodyPost_ret (v := .tuple #[.agg #[.slice none 0 0, .slice none 0 0, .slice none 0 0], .int .i64 1]) (by simp [results, Tryz.results51, go_sem, *]) rfl (graph_no hQ.out (by decide) rfl eX)
 ·have hd := (blk_get hb).1
  have h100 := placesM hd
  have hwl : z.wires.length = z.des.nets.length := (blk_get hb).2.1
  have hll := linksL_len hb
  have HCL := lh (HCL.out hb)
  have HIN := lh (fun k (hk : k < (linksL z).length) => links_at hb hk)
  have HWL := lh (fun (a : Option Addr) (n cap : Nat) (m : Option Nat) (L : Nat) (w1 : World) (hK : NetK w1 L (places z.lib z.des) (.agg #[.slice a n cap, .map m])) => (show Calls Tryz.prog 92 #[.agg #[.slice a n cap, .map m], .int .i64 (z.wires.length : Int)] w1 (WLinksR z w1) from by rw [hwl]; exact wireLinks_any z a n cap m L w1 hb hK))
  have HGC := lh (show grCode z bs = if risB bs ((linksL z).length : Int) then 0 else 2 by simp [grCode, hb])
  have HLE := lh (show linksL z = instsLk z z.des.insts.length ++ netsLk (places z.lib z.des) z.des.nets.length from rfl)
  have HLN := lh (show (instsLk z z.des.insts.length).length + (netsLk (places z.lib z.des) z.des.nets.length).length ≤ 7000 by rw [← List.length_append]; exact hll)
  rw [hb] at HB
  unfold WLinksR at HWL
  clear hb hd hwl
  go_enter Tryz.func51, Tryz.ntmps51
  go_wp2_with fail
  rw [← HU.out]
  (go_at_call 90; refine (HB.out _ bU).mono ?_; rintro e w1 ⟨a, n, c, m, rfl, hb, hk⟩)
  have hk := hk (by trivial)
  obtain ⟨hn, _, _⟩ := hk.look (by omega)
  subst hn
  have b1 := ext_trans bU hb
  have g0 := cell_keep k0 hb
  have g1 := cell_keep k1 hb
  have g2 := cell_keep k2 hb
  have g3 := cell_keep k3 hb
  have g4 := cell_keep k4 hb
  have t0 := cell_keep v0 hb
  have t1 := cell_keep v1 hb
  have t2 := cell_keep v2 hb
  have u0 : w1.frozen? ⟨w.heap.size + 1, 0, none⟩ = false := by rw [hb.frozen (p := ⟨w.heap.size + 1, 0, none⟩) sU]; exact f0
  have u1 : w1.frozen? ⟨w.heap.size + 1, 1, none⟩ = false := by rw [hb.frozen (p := ⟨w.heap.size + 1, 1, none⟩) sU]; exact f1
  have u2 : w1.frozen? ⟨w.heap.size + 1, 2, none⟩ = false := by rw [hb.frozen (p := ⟨w.heap.size + 1, 2, none⟩) sU]; exact f2
  have sz : w.heap.size + 1 < w1.heap.size := by have := hb.size; omega
  have sz0 : w.heap.size < w1.heap.size := by omega
  clear k0 k1 k2 k3 k4 v0 v1 v2 f0 f1 f2 hb bU
  obtain ⟨W, hW⟩ : ∃ W, W = w1.alloc (Obj.cells #[.slice a (places z.lib z.des).length c, .map m] 140) := ⟨_, rfl⟩
  have bA : Below w1.heap.size w1 W := by rw [hW]; exact (Below.refl _ _).alloc (Nat.le_refl _) _
  have n0 : W.cell? ⟨w1.heap.size, 0, none⟩ = some (.slice a (places z.lib z.des).length c) := by rw [hW]; simp [go_sem]
  have n1 : W.cell? ⟨w1.heap.size, 1, none⟩ = some (.map m) := by rw [hW]; simp [go_sem]
  have h0 := cell_keep g0 bA
  have h1 := cell_keep g1 bA
  have h2 := cell_keep g2 bA
  have h3 := cell_keep g3 bA
  have h4 := cell_keep g4 bA
  have x0 := cell_keep t0 bA
  have x1 := cell_keep t1 bA
  have x2 := cell_keep t2 bA
  have y0 : W.frozen? ⟨w.heap.size + 1, 0, none⟩ = false := by rw [bA.frozen (p := ⟨w.heap.size + 1, 0, none⟩) sz]; exact u0
  have y1 : W.frozen? ⟨w.heap.size + 1, 1, none⟩ = false := by rw [bA.frozen (p := ⟨w.heap.size + 1, 1, none⟩) sz]; exact u1
  have y2 : W.frozen? ⟨w.heap.size + 1, 2, none⟩ = false := by rw [bA.frozen (p := ⟨w.heap.size + 1, 2, none⟩) sz]; exact u2
  have bW := b1.trans (bA.mono b1.size)
  have sW : w1.heap.size < W.heap.size := cell_lt n0
  have HK := lh (hk.below bA)
  clear g0 g1 g2 g3 g4 t0 t1 t2 u0 u1 u2 hk bA b1
  go_wp2_with fail
  rw [← hW]
  clear hW
  refine wp_region_held_drew (S := (fun w' => w'.cell? ⟨w.heap.size, 0, none⟩ = some (.slice p0 z.lib.length q0) ∧ w'.cell? ⟨w.heap.size, 1, none⟩ = some (.slice p1 z.des.insts.length q1) ∧ w'.cell? ⟨w.heap.size, 2, none⟩ = some (.slice p2 z.des.nets.length q2) ∧ w'.cell? ⟨w.heap.size, 3, none⟩ = some (.slice p3 z.des.ports.length q3) ∧ w'.cell? ⟨w.heap.size, 4, none⟩ = some (.slice p4 z.wires.length q4) ∧ w'.cell? ⟨w1.heap.size, 0, none⟩ = some (.slice a (places z.lib z.des).length c) ∧ w'.cell? ⟨w1.heap.size, 1, none⟩ = some (.map m) ∧ Below W.heap.size W w')) (by kernel_rfl) ?_ (fun hHeld => ?_)
  ·(try dsimp only); exact ⟨h0, h1, h2, h3, h4, n0, n1, eX⟩
  (try dsimp only at hHeld)
  refine takeH 0 (v := ?_) rfl ?_ ?_; rotate_left; focus (intro w' hSw; (try dsimp only at hSw); go_simp; try (with_reducible rfl))
  (try simp only [actP])
  refine takeH 2 (v := ?_) rfl ?_ ?_; rotate_left; focus (intro w' hSw; (try dsimp only at hSw); go_simp; try (with_reducible rfl))
  (try simp only [actP])
  refine takeH 3 (v := ?_) rfl ?_ ?_; rotate_left; focus (intro w' hSw; (try dsimp only at hSw); go_simp; try (with_reducible rfl))
  (try simp only [actP])
  refine takeH 4 (v := ?_) rfl ?_ ?_; rotate_left; focus (intro w' hSw; (try dsimp only at hSw); go_simp; try (with_reducible rfl))
  (try simp only [actP])
  refine takeH 5 (v := ?_) rfl ?_ ?_; rotate_left; focus (intro w' hSw; (try dsimp only at hSw); go_simp; try (with_reducible rfl))
  (try simp only [actP])
  refine wpAnyH_ready (rs := [1]) (by kernel_rfl) (by simp) ?_
  refine AllReadyH.cons rfl (fun K hK => ?_) AllReadyH.nil
  go_simp
  (go_at_call 91; refine (HCL.out _ (by exact eX)).mono ?_; rintro e wa ⟨lv, rfl, hL, hba⟩)
  refine hK.out _ _ (⟨cell_keep hHeld.1 hba, cell_keep hHeld.2.1 hba, cell_keep hHeld.2.2.1 hba, cell_keep hHeld.2.2.2.1 hba, cell_keep hHeld.2.2.2.2.1 hba, cell_keep hHeld.2.2.2.2.2.1 hba, cell_keep hHeld.2.2.2.2.2.2.1 hba, eT hHeld.2.2.2.2.2.2.2 hba⟩) (fun hHeld' => ?_)
  clear hK K hHeld
  have hHeld := hHeld'
  clear hHeld'
  (try simp only [actP])
  refine wpAnyH_ready (rs := [6]) (by kernel_rfl) (by simp) ?_
  refine AllReadyH.cons rfl (fun K hK => ?_) AllReadyH.nil
  go_simp
  (go_at_call 92; refine (HWL.out a _ c m _ wa (HK.out.below hHeld.2.2.2.2.2.2.2)).mono ?_; rintro e wb ⟨lw, rfl, hM, hbb⟩)
  refine hK.out _ _ (⟨cell_keep hHeld.1 hbb, cell_keep hHeld.2.1 hbb, cell_keep hHeld.2.2.1 hbb, cell_keep hHeld.2.2.2.1 hbb, cell_keep hHeld.2.2.2.2.1 hbb, cell_keep hHeld.2.2.2.2.2.1 hbb, cell_keep hHeld.2.2.2.2.2.2.1 hbb, eT hHeld.2.2.2.2.2.2.2 hbb⟩) (fun hHeld' => ?_)
  clear hK K hHeld
  have hHeld := hHeld'
  clear hHeld'
  (try simp only [actP])
  have zba : W.heap.size ≤ wa.heap.size := by have := hba.size; simpa using this
  have zbb := hbb.size
  have HG1 := lh (show GL wb W.heap.size lv _ from GR.below hL hbb)
  clear hL
  refine wpAnyH_ready (rs := [7]) (by kernel_rfl) (by simp) ?_
  refine AllReadyH.cons rfl (fun K hK => ?_) AllReadyH.nil
  rw [if_pos (by rfl)]
  refine wp_append_links _ _ rfl W.heap.size _ lv lw _ _ rfl rfl HG1.out hM (by have := HLN.out; omega) (by omega) ?_
  intro v' w9 hG hgrow hat
  have ne : ∀ g, g < W.heap.size → some g ≠ lv.ownBlock := fun g hg e => by have := (HG1.out.blk g e.symm).1; omega
  have b9 : Below W.heap.size W w9 := hHeld.2.2.2.2.2.2.2.grown hgrow (by omega) (fun k hk => (HG1.out.blk k hk).1)
  refine hK.out _ _ (⟨hgrow.cell hHeld.1 (ne _ (by show w.heap.size < W.heap.size; omega)), hgrow.cell hHeld.2.1 (ne _ (by show w.heap.size < W.heap.size; omega)), hgrow.cell hHeld.2.2.1 (ne _ (by show w.heap.size < W.heap.size; omega)), hgrow.cell hHeld.2.2.2.1 (ne _ (by show w.heap.size < W.heap.size; omega)), hgrow.cell hHeld.2.2.2.2.1 (ne _ (by show w.heap.size < W.heap.size; omega)), hgrow.cell hHeld.2.2.2.2.2.1 (ne _ (by show w1.heap.size < W.heap.size; omega)), hgrow.cell hHeld.2.2.2.2.2.2.1 (ne _ (by show w1.heap.size < W.heap.size; omega)), b9⟩) (fun hHeld' => ?_)
  clear hK K hHeld
  have hHeld := hHeld'
  clear hHeld'
  (try simp only [actP])
  refine takeH 8 (v := ?_) rfl ?_ ?_; rotate_left; focus (intro w' hSw; (try dsimp only at hSw); go_simp; try (with_reducible rfl))
  (try simp only [actP])
  refine wpAnyH_done (by kernel_rfl) ?_ _
  have r0 := hHeld.2.2.2.2.2.1
  rw [← HLE.out] at hG
  have hS := GL.lks hG (by omega)
  obtain ⟨la, lc, rfl⟩ := hS.slice
  have HG := lh hG
  have HS := lh hS
  have bw9 := bW.trans (b9.mono bW.size)
  have zW9 := b9.size
  clear hHeld hgrow hat hG hS ne HG1 hM hba hbb
  have sz9 : w.heap.size + 1 < w9.heap.size := by omega
  have X0 := cell_keep x0 b9; have X1 := cell_keep x1 b9; have X2 := cell_keep x2 b9
  have Y0 : w9.frozen? ⟨w.heap.size + 1, 0, none⟩ = false := by rw [b9.frozen (p := ⟨w.heap.size + 1, 0, none⟩) (show w.heap.size + 1 < W.heap.size by omega)]; exact y0
  have Y1 : w9.frozen? ⟨w.heap.size + 1, 1, none⟩ = false := by rw [b9.frozen (p := ⟨w.heap.size + 1, 1, none⟩) (show w.heap.size + 1 < W.heap.size by omega)]; exact y1
  have Y2 : w9.frozen? ⟨w.heap.size + 1, 2, none⟩ = false := by rw [b9.frozen (p := ⟨w.heap.size + 1, 2, none⟩) (show w.heap.size + 1 < W.heap.size by omega)]; exact y2
  clear h0 h1 h2 h3 h4 n0 n1 x0 x1 x2 y0 y1 y2
  cases hr : risB bs ((linksL z).length : Int)
  ·have hQ := lh (show grCode z bs = 2 by rw [HGC.out, hr]; rfl)
   have HX := lh (show Calls Tryz.prog 93 #[.slice la (linksL z).length lc, .slice va bs.length vc] w9 fun e w' => e = .returned (.bool false) ∧ Below w9.heap.size w9 w' from by
    have := isIxList_any la (linksL z).length lc (.slice va bs.length vc) bs w9 (HV.out w9 bw9) (by omega)
    rw [hr] at this
    exact this)
   clear hr HGC HIN
   go_wp2_with fail
   (go_at_call 93; refine HX.out.mono ?_; rintro e w10 ⟨rfl, hb⟩)
   have b10 := bw9.trans (hb.mono bw9.size)
   have q0 := cell_keep X0 hb; have q1 := cell_keep X1 hb; have q2 := cell_keep X2 hb
   have m0 : w10.frozen? ⟨w.heap.size + 1, 0, none⟩ = false := by rw [hb.frozen (p := ⟨w.heap.size + 1, 0, none⟩) sz9]; exact Y0
   have m1 : w10.frozen? ⟨w.heap.size + 1, 1, none⟩ = false := by rw [hb.frozen (p := ⟨w.heap.size + 1, 1, none⟩) sz9]; exact Y1
   have m2 : w10.frozen? ⟨w.heap.size + 1, 2, none⟩ = false := by rw [hb.frozen (p := ⟨w.heap.size + 1, 2, none⟩) sz9]; exact Y2
   have s10 : w.heap.size + 1 < w10.heap.size := cell_lt q0
   clear X0 X1 X2 Y0 Y1 Y2 r0 hb
   go_wp2
   exact bodyPost_ret (v := .tuple #[.agg #[.slice none 0 0, .slice none 0 0, .slice none 0 0], .int .i64 2]) (by simp [results, Tryz.results51, go_sem, *]) rfl (graph_no hQ.out (by decide) rfl (by exact eX))
  ·have hQ := lh (show grCode z bs = 0 by rw [HGC.out, hr]; rfl)
   have HX := lh (show Calls Tryz.prog 93 #[.slice la (linksL z).length lc, .slice va bs.length vc] w9 fun e w' => e = .returned (.bool true) ∧ Below w9.heap.size w9 w' from by
    have := isIxList_any la (linksL z).length lc (.slice va bs.length vc) bs w9 (HV.out w9 bw9) (by omega)
    rw [hr] at this
    exact this)
   have HNG := lh (fun (w1 : World) (hg : GL w1 W.heap.size (.slice la (linksL z).length lc) (linksL z)) (hb1 : Below w.heap.size w w1) => newGraph_any la lc z (.slice va bs.length vc) bs w1 (GL.lks hg (by omega)) HIN.out hll (by unfold nodesN; omega) (HV.out w1 hb1) hbl (ris_inc hr))
   obtain ⟨N, hN⟩ : ∃ N, N = nodesN z := ⟨_, rfl⟩
   have hNP : (2 : Int) * ((places z.lib z.des).length : Int) = (N : Int) := by rw [hN]; simp [nodesN]
   have w2P : IntKind.i64.wrap ((N : Int)) = (N : Int) := IntWalk.i64_in _ (by rw [← hNP]; omega)
   have hN200 : N ≤ 200 := by omega
   rw [← hN] at HNG
   have HN := lh hN
   clear hr HGC hN
   go_wp2_with fail
   (go_at_call 93; refine HX.out.mono ?_; rintro e w10 ⟨rfl, hb⟩)
   have b10 := bw9.trans (hb.mono bw9.size)
   have q0 := cell_keep X0 hb; have q1 := cell_keep X1 hb; have q2 := cell_keep X2 hb; have r1 := cell_keep r0 hb
   have m0 : w10.frozen? ⟨w.heap.size + 1, 0, none⟩ = false := by rw [hb.frozen (p := ⟨w.heap.size + 1, 0, none⟩) sz9]; exact Y0
   have m1 : w10.frozen? ⟨w.heap.size + 1, 1, none⟩ = false := by rw [hb.frozen (p := ⟨w.heap.size + 1, 1, none⟩) sz9]; exact Y1
   have m2 : w10.frozen? ⟨w.heap.size + 1, 2, none⟩ = false := by rw [hb.frozen (p := ⟨w.heap.size + 1, 2, none⟩) sz9]; exact Y2
   have s10 : w.heap.size + 1 < w10.heap.size := cell_lt q0
   have HG10 := lh (show GL w10 W.heap.size _ _ from GR.below HG.out hb)
   have zW10 : W.heap.size ≤ w10.heap.size := by have := hb.size; omega
   clear X0 X1 X2 Y0 Y1 Y2 r0 hb HG HS
   go_wp2_with fail
   (go_at_call 94; refine (HNG.out _ HG10.out b10).mono ?_; intro e w11 hNR)
   obtain ⟨bo, bi, base, V, rfl, l0, l1, l2, d1, hR, hb⟩ := hNR
   rw [← HN.out]
   have GV := lh (show GraphV w11 W.heap.size z bs (.agg #[.slice la (linksL z).length lc, .slice (some ⟨bo, 0, none⟩) N N, .slice (some ⟨bi, 0, none⟩) N N]) from ⟨_, bo, bi, base, V, by rw [← HN.out], by omega, by omega, by omega, d1, GR.below HG10.out hb, hR⟩)
   have b11 := b10.trans (hb.mono b10.size)
   have p0 := cell_keep q0 hb; have p1 := cell_keep q1 hb; have p2 := cell_keep q2 hb
   have k0 : w11.frozen? ⟨w.heap.size + 1, 0, none⟩ = false := by rw [hb.frozen (p := ⟨w.heap.size + 1, 0, none⟩) s10]; exact m0
   have k1 : w11.frozen? ⟨w.heap.size + 1, 1, none⟩ = false := by rw [hb.frozen (p := ⟨w.heap.size + 1, 1, none⟩) s10]; exact m1
   have k2 : w11.frozen? ⟨w.heap.size + 1, 2, none⟩ = false := by rw [hb.frozen (p := ⟨w.heap.size + 1, 2, none⟩) s10]; exact m2
   have s11 : w.heap.size + 1 < w11.heap.size := cell_lt p0
   have sw2 : w.heap.size + 1 < W.heap.size := by omega
   clear q0 q1 q2 m0 m1 m2 r1 hb hR HG10 HNG
   go_wp2
   exact bodyPost_ret (v := .tuple #[.agg #[.slice la (linksL z).length lc, .slice (some ⟨bo, 0, none⟩) N N, .slice (some ⟨bi, 0, none⟩) N N], .int .i64 0]) (by simp [results, Tryz.results51, go_sem, *]) rfl ⟨_, by rw [hQ.out], fun _ => (((GV.out.set (p := ⟨w.heap.size + 1, 0, none⟩) sw2 _).set (p := ⟨w.heap.size + 1, 1, none⟩) sw2 _).set (p := ⟨w.heap.size + 1, 2, none⟩) sw2 _).low (by omega), fun h => absurd hQ.out h, by exact eX⟩
end Go.Proofs.YtkpfbnffhhmokaaGreat
namespace Go.Proofs.YtkpfbnffhhmokaaGreat
open Go.ChangeShapes Go.WideShapes Go.ChangeAt Go.RowKit Go.Deep
set_option linter.unusedVariables false
set_option linter.unusedSimpArgs false
set_option maxRecDepth 100000
/-- A list of numbers that comes in as an argument. -/
theorem open_ints_top {H : Type} {enc : TypeId × Value → H} {P : Program} {W : World} {base : Nat} {t e : TypeId} {v : Value} {d : DataW H} {p : List MemPlace} (ht : P.underlying t = some (.slice e)) (he : P.underlying e = some (.int .i64)) (hc : P.cellsOf e = 1)
  (hv : Value.okWide P W .any base t v) (h : DataW.Trod enc P W 0 (fun _ => true) true t v d p) : ∃ xs, IntS W W.heap.size v xs := by
 obtain ⟨a0, len, cap, rfl⟩ := okWide_slice ht hv
 obtain ⟨fuel, hf⟩ := h
 exact open_list ht he hc hf
def AroundR (z : BlkD) (bs : List Int) (x : Int) (w : World) (e : Ending) (w' : World) : Prop :=
 ∃ v, e = .returned (.tuple #[v, .int .i64 (ndCode z bs x)]) ∧ (ndCode z bs x = 0 → GraphV w' w.heap.size z bs v) ∧ (ndCode z bs x ≠ 0 → v = .agg #[.slice none 0 0, .slice none 0 0, .slice none 0 0]) ∧ Below w.heap.size w w'
theorem around_no {z : BlkD} {bs : List Int} {x c : Int} {w w' : World} {e : Ending} (hc : ndCode z bs x = c) (h0 : c ≠ 0) (he : e = .returned (.tuple #[.agg #[.slice none 0 0, .slice none 0 0, .slice none 0 0], .int .i64 c])) (hb : Below w.heap.size w w') : AroundR z bs x w e w' :=
 ⟨_, by rw [hc]; exact he, fun q => absurd (hc.symm.trans q) h0, fun _ => rfl, hb⟩
set_option maxHeartbeats 16000000 in
theorem graphAround_any (f : Nat → Value) (z : BlkD) (v : Value) (bs : List Int) (x : Int) (w : World) (h : BlkF w w.heap.size f z) (hv : IntS w w.heap.size v bs) (hbl : bs.length ≤ 1048576) :
  Calls Tryz.prog 36 #[.agg #[f 0, f 1, f 2, f 3, f 4], v, .int .i64 x] w (AroundR z bs x w) := by
 have HB := lh (fun (w1 : World) (hb : Below w.heap.size w w1) => graphOf_any f z v bs w1 (h.up hb) (hv.up hb) hbl)
 obtain ⟨p0, q0, p1, q1, p2, q2, p3, q3, p4, q4, e0, e1, e2, e3, e4⟩ := h.five
 obtain ⟨va, vc, rfl⟩ := hv.slice
 rw [e0, e1, e2, e3, e4] at HB
 rw [e0, e1, e2, e3, e4]
 clear e0 e1 e2 e3 e4 h hv
 obtain ⟨U, hU⟩ : ∃ U, U = (w.alloc (Obj.cells #[.slice p0 z.lib.length q0, .slice p1 z.des.insts.length q1, .slice p2 z.des.nets.length q2, .slice p3 z.des.ports.length q3, .slice p4 z.wires.length q4] 46)).alloc (Obj.cells #[.slice none 0 0, .slice none 0 0, .slice none 0 0] 68) := ⟨_, rfl⟩
 have v0 : U.cell? ⟨w.heap.size + 1, 0, none⟩ = some (.slice none 0 0) := by rw [hU]; simp [go_sem]
 have v1 : U.cell? ⟨w.heap.size + 1, 1, none⟩ = some (.slice none 0 0) := by rw [hU]; simp [go_sem]
 have v2 : U.cell? ⟨w.heap.size + 1, 2, none⟩ = some (.slice none 0 0) := by rw [hU]; simp [go_sem]
 have f0 : U.frozen? ⟨w.heap.size + 1, 0, none⟩ = false := by rw [hU]; simp [go_sem]
 have f1 : U.frozen? ⟨w.heap.size + 1, 1, none⟩ = false := by rw [hU]; simp [go_sem]
 have f2 : U.frozen? ⟨w.heap.size + 1, 2, none⟩ = false := by rw [hU]; simp [go_sem]
 have k0 : U.cell? ⟨w.heap.size, 0, none⟩ = some (.slice p0 z.lib.length q0) := by rw [hU]; simp [go_sem]
 have bU : Below w.heap.size w U := by rw [hU]; exact ((Below.refl _ _).alloc (Nat.le_refl _) _).alloc (by simp) _
 have sU : w.heap.size + 1 < U.heap.size := cell_lt v0
 have HU := lh hU
 clear hU k0
 go_enter Tryz.func36, Tryz.ntmps36
 go_wp2_with fail
 rw [← HU.out]
 (go_at_call 51; refine (HB.out _ bU).mono ?_; rintro e w1 ⟨gv, rfl, hyes, hno, hb⟩)
 have b1 := ext_trans bU hb
 have t0 := cell_keep v0 hb; have t1 := cell_keep v1 hb; have t2 := cell_keep v2 hb
 have u0 : w1.frozen? ⟨w.heap.size + 1, 0, none⟩ = false := by rw [hb.frozen (p := ⟨w.heap.size + 1, 0, none⟩) sU]; exact f0
 have u1 : w1.frozen? ⟨w.heap.size + 1, 1, none⟩ = false := by rw [hb.frozen (p := ⟨w.heap.size + 1, 1, none⟩) sU]; exact f1
 have u2 : w1.frozen? ⟨w.heap.size + 1, 2, none⟩ = false := by rw [hb.frozen (p := ⟨w.heap.size + 1, 2, none⟩) sU]; exact f2
 have sz : w.heap.size + 1 < w1.heap.size := by have := hb.size; omega
 have sz0 : w.heap.size < w1.heap.size := by omega
 clear v0 v1 v2 f0 f1 f2 hb bU
 by_cases hg : grCode z bs = 0
 ·have hbv := grCode_valid hg
  have hgv := hyes hg
  obtain ⟨lv, bo, bi, base, V, rfl, l1, l2, l3, d1, hGL, hR⟩ := id hgv
  have hll := linksL_len hbv
  obtain ⟨la, lc, rfl⟩ := (GL.lks hGL (by omega)).slice
  have n200 := ndN_le hbv
  have NN := ndN_is z
  have GV := lh hgv
  have HND := lh (show ndCode z bs x = if inB x 0 ((nodesN z : Int) - 1) then 0 else 4 by unfold ndCode; rw [if_pos hg, NN])
  obtain ⟨N, hN⟩ : ∃ N, N = nodesN z := ⟨_, rfl⟩
  rw [← hN] at NN HND
  rw [← hN]
  have hN200 : N ≤ 200 := by omega
  have HN := lh hN
  obtain ⟨nl, hnl⟩ : ∃ n, n = (linksL z).length := ⟨_, rfl⟩
  rw [← hnl]
  have NL := lh hnl
  have GV : Hid (GraphV w1 U.heap.size z bs (.agg #[.slice la nl lc, .slice (some ⟨bo, 0, none⟩) N N, .slice (some ⟨bi, 0, none⟩) N N])) := by rw [hN, hnl]; exact GV
  rw [hg]
  clear hyes hno hgv hGL hR hbv hN hnl hg n200 NN
  have bA : Below w1.heap.size w1 (w1.alloc (Obj.cells #[.slice la nl lc, .slice (some ⟨bo, 0, none⟩) N N, .slice (some ⟨bi, 0, none⟩) N N] 68)) := (Below.refl _ _).alloc (Nat.le_refl _) _
  cases hin : inB x 0 ((N : Int) - 1)
  ·have HI := lh (fun (w2 : World) => (show Calls Tryz.prog 70 #[.slice (some ⟨bo, 0, none⟩) N N, .int .i64 x] w2 fun e w' => e = .returned (.bool false) ∧ w' = w2 from by have := hasIxRow_any (some ⟨bo, 0, none⟩) N N x w2 (by omega); rw [hin] at this; exact this))
   have hQ := lh (show ndCode z bs x = 4 by rw [HND.out, hin]; rfl)
   clear hin HND
   go_wp2_with (go_at_call 70; refine (HI.out _).mono ?_; rintro e w' ⟨rfl, hw'⟩; rw [hw']; clear hw' w')
   exact bodyPost_ret (v := .tuple #[.agg #[.slice none 0 0, .slice none 0 0, .slice none 0 0], .int .i64 4]) (by simp [results, Tryz.results36, go_sem, *]) rfl (around_no hQ.out (by decide) rfl eX)
  ·have HI := lh (fun (w2 : World) => (show Calls Tryz.prog 70 #[.slice (some ⟨bo, 0, none⟩) N N, .int .i64 x] w2 fun e w' => e = .returned (.bool true) ∧ w' = w2 from by have := hasIxRow_any (some ⟨bo, 0, none⟩) N N x w2 (by omega); rw [hin] at this; exact this))
   have hQ := lh (show ndCode z bs x = 0 by rw [HND.out, hin]; rfl)
   clear hin HND
   go_wp2_with (go_at_call 70; refine (HI.out _).mono ?_; rintro e w' ⟨rfl, hw'⟩; rw [hw']; clear hw' w')
   exact bodyPost_ret (v := .tuple #[.agg #[.slice la nl lc, .slice (some ⟨bo, 0, none⟩) N N, .slice (some ⟨bi, 0, none⟩) N N], .int .i64 0]) (by simp [results, Tryz.results36, go_sem, *]) rfl ⟨_, by rw [hQ.out], fun _ => ((((GV.out.set (p := ⟨w.heap.size + 1, 0, none⟩) sU _).set (p := ⟨w.heap.size + 1, 1, none⟩) sU _).set (p := ⟨w.heap.size + 1, 2, none⟩) sU _).below ((Below.refl _ _).alloc (Nat.le_refl _) _)).low (show w.heap.size ≤ U.heap.size by omega), fun h => absurd hQ.out h, by exact eX⟩
 ·obtain rfl := hno hg
  have hQ := lh (show ndCode z bs x = grCode z bs by unfold ndCode; rw [if_neg hg])
  obtain ⟨cd, hcd⟩ : ∃ c, c = grCode z bs := ⟨_, rfl⟩
  rw [← hcd] at hg hQ ⊢
  have hne : (cd != 0) = true := by simpa using hg
  have hne2 : (cd == 0) = false := by simpa using hg
  have HG0 := lh hg
  clear hyes hno hcd hg
  go_wp2
  exact bodyPost_ret (v := .tuple #[.agg #[.slice none 0 0, .slice none 0 0, .slice none 0 0], .int .i64 cd]) (by simp [results, Tryz.results36, go_sem, *]) rfl (around_no hQ.out HG0.out rfl eX)
theorem nd_len {z : BlkD} {bs : List Int} {x : Int} (h : ndCode z bs x = 0) : (linksL z).length ≤ 10000 := by
 have := linksL_len (grCode_valid (show grCode z bs = 0 by rcases ndCode_cases z bs x with ⟨_, e⟩ | e | e | e <;> first | exact e | omega))
 omega
theorem froL_bd (z : BlkD) (bs : List Int) (x : Int) : (froL z bs x).length ≤ 10000 := by
 unfold froL
 split
 ·next h => exact Nat.le_trans (froLN_len _ _ _ _) (nd_len h)
 ·simp
theorem toL_bd (z : BlkD) (bs : List Int) (x : Int) : (toL z bs x).length ≤ 10000 := by
 unfold toL
 split
 ·next h => exact Nat.le_trans (toLN_len _ _ _ _) (nd_len h)
 ·simp
end Go.Proofs.YtkpfbnffhhmokaaGreat
