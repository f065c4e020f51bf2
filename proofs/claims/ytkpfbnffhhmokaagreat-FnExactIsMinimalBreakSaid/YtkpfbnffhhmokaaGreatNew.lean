/-
The program's netlist of a connected design.
-/
import Derived.Test.YtkpfbnffhhmokaaGreatAdd
import Derived.Test.YtkpfbnffhhmokaaGreatNetK
import Derived.StillTailTactics
import Derived.Maps.OwnOps
namespace Go.Proofs.YtkpfbnffhhmokaaGreat
open Go.ChangeShapes Go.WideShapes Go.ChangeAt Go.RowKit Go.Deep
set_option linter.unusedVariables false
set_option linter.unusedSimpArgs false
set_option maxRecDepth 100000
theorem plsI_len (ts : List CellD) (x : InstD) (i m : Nat) : (plsI ts x i m).length = m := by simp [plsI]
theorem plsP_len (d : DesD) (m : Nat) : (plsP d m).length = m := by simp [plsP]
theorem pls_len {ts : List CellD} {d : DesD} (hl : libB ts = true) (hc : connB ts d = true) : ∀ n, n ≤ d.insts.length → (pls ts d n).length ≤ 5 * n := by
 intro n
 induction n with
 | zero => intro _; simp [pls]
 | succ n ih =>
  intro hn
  obtain ⟨a, b, c, _⟩ := conn_inst hc (show n < d.insts.length by omega)
  have h5 := (pins_get (cell_get (lib_cell hl a b)).1).2.1
  rw [pls_succ, List.length_append, plsI_len]
  have := ih (by omega)
  omega
theorem name_size {s : ByteArray} (h : nameB s = true) : s.size ≤ 8 := by
 simp only [nameB, Bool.and_eq_true, decide_eq_true_eq] at h
 exact h.1.2
theorem names_size {nm : Nat → ByteArray} {n i : Nat} (h : namesB nm n = true) (hi : i < n) : (nm i).size ≤ 8 := by
 simp only [namesB, Bool.and_eq_true] at h
 exact name_size (allB_get (p := fun i => nameB (nm i)) h.1 i hi)
theorem pin_name {c : CellD} (h : cellB c = true) {k : Nat} (hk : k < c.pins.length) : (pn c.pins k).name.size ≤ 8 := by
 have h2 := (pins_get (cell_get h).1).2.2.1 k hk
 unfold pinOk at h2
 simp only [Bool.and_eq_true] at h2
 exact name_size h2.1.1
/-- The box of the result stands. -/
def Res4 (w wr : World) : Prop := (∃ u, wr.cell? ⟨w.heap.size + 1, 0, none⟩ = some u) ∧ (∃ u, wr.cell? ⟨w.heap.size + 1, 1, none⟩ = some u) ∧ wr.frozen? ⟨w.heap.size + 1, 0, none⟩ = false ∧ wr.frozen? ⟨w.heap.size + 1, 1, none⟩ = false
theorem Res4.low {w wr wn : World} (h : Res4 w wr) (hb : Below (w.heap.size + 1 + 1) wr wn) : Res4 w wn := by
 obtain ⟨⟨u, h0⟩, ⟨v, h1⟩, h2, h3⟩ := h
 exact ⟨⟨u, by rw [hb.cell (p := ⟨w.heap.size + 1, 0, none⟩) (show w.heap.size + 1 < w.heap.size + 1 + 1 by omega)]; exact h0⟩, ⟨v, by rw [hb.cell (p := ⟨w.heap.size + 1, 1, none⟩) (show w.heap.size + 1 < w.heap.size + 1 + 1 by omega)]; exact h1⟩,
  by rw [hb.frozen (p := ⟨w.heap.size + 1, 0, none⟩) (show w.heap.size + 1 < w.heap.size + 1 + 1 by omega)]; exact h2, by rw [hb.frozen (p := ⟨w.heap.size + 1, 1, none⟩) (show w.heap.size + 1 < w.heap.size + 1 + 1 by omega)]; exact h3⟩
theorem Res4.below {w wr wn : World} (h : Res4 w wr) (hb : Below wr.heap.size wr wn) (hs : w.heap.size + 1 + 1 ≤ wr.heap.size) : Res4 w wn := h.low (hb.mono hs)
theorem held9 {W : World} {g1 g2 g3 bn o : Nat} {s t : ByteArray} {kc np q2 : Nat} {bs : Option Addr} {d c k j a : Int} {ck : Bool} {t1 t2 t3 : TypeId}
  (h1 : W.heap[g1]? = some (.cells #[.string s, .int .i64 (kc : Int), .slice bs np q2] t1 (0, 0))) (h2 : W.heap[g2]? = some (.cells #[.string t, .int .i64 d, .int .i64 c, .bool ck] t2 (0, 0))) (h3 : W.heap[g3]? = some (.cells #[.int .i64 k, .int .i64 j] t3 (0, 0))) (h4 : W.cell? ⟨bn, o, none⟩ = some (.int .i64 a)) :
  W.cell? ⟨g1, 0, none⟩ = some (.string s) ∧ W.cell? ⟨g1, 2, none⟩ = some (.slice bs np q2) ∧ W.cell? ⟨g2, 0, none⟩ = some (.string t) ∧ W.cell? ⟨g2, 1, none⟩ = some (.int .i64 d) ∧ W.cell? ⟨g2, 2, none⟩ = some (.int .i64 c) ∧ W.cell? ⟨g3, 0, none⟩ = some (.int .i64 k) ∧ W.cell? ⟨g3, 1, none⟩ = some (.int .i64 j) ∧ W.cell? ⟨bn, o, none⟩ = some (.int .i64 a) := by
 refine ⟨?_, ?_, ?_, ?_, ?_, ?_, ?_, h4⟩
 ·rw [cell_of_row W g1 0 _ _ _ h1]; rfl
 ·rw [cell_of_row W g1 2 _ _ _ h1]; rfl
 ·rw [cell_of_row W g2 0 _ _ _ h2]; rfl
 ·rw [cell_of_row W g2 1 _ _ _ h2]; rfl
 ·rw [cell_of_row W g2 2 _ _ _ h2]; rfl
 ·rw [cell_of_row W g3 0 _ _ _ h3]; rfl
 ·rw [cell_of_row W g3 1 _ _ _ h3]; rfl
theorem first_kept (w : World) (o1 o2 o3 o4 : Obj) : ((((w.alloc o1).alloc o2).alloc o3).alloc o4).heap[w.heap.size]? = some o1 := by
 have hb : Below (w.alloc o1).heap.size (w.alloc o1) ((((w.alloc o1).alloc o2).alloc o3).alloc o4) := eX
 rw [hb.block _ (by simp)]
 exact heap_alloc_new w o1
theorem net_start (w : World) (o1 o2 : Obj) : Net ((((w.alloc o1).alloc o2).alloc (.map #[] 0)).alloc (.cells #[.slice none 0 0, .map (some (w.heap.size + 1 + 1))] 140)) (w.heap.size + 1 + 1 + 1 + 1) (w.heap.size + 1 + 1 + 1) (w.heap.size + 1 + 1) [] := by
 refine ⟨none, 0, by simp [go_sem], by simp [go_sem], by simp [go_sem], by omega, by omega, by simp, GR.nil _ _ _ _, ?_⟩
 have h := ends_made ((w.alloc o1).alloc o2) (w.heap.size + 1 + 1 + 1 + 1) (by simp)
 have e : ((w.alloc o1).alloc o2).heap.size = w.heap.size + 1 + 1 := by simp
 rw [e] at h
 exact h.kept (row := none) (World.grownBy_alloc _ _ none) (by simp) (fun k h => by cases h)
/-- A netlist that is ready: its two fields as values. -/
def NetV (w w' : World) (P : List PlD) (v : Value) : Prop :=
 ∃ a cap B base, v = .agg #[.slice a P.length cap, .map (some B)] ∧ w.heap.size ≤ B ∧ w.heap.size ≤ base ∧ base ≤ w'.heap.size ∧ GR w' base 257 6 (.slice a P.length cap) (P.map plC) ∧ Ends w' base B P ∧ Below w.heap.size w w'
def NewR (ts : List CellD) (d : DesD) (w : World) (e : Ending) (w' : World) : Prop := ∃ v, e = .returned v ∧ NetV w w' (places ts d) v
set_option maxHeartbeats 16000000 in
theorem newNet_any (v : Value) (ts : List CellD) (f : Nat → Value) (d : DesD) (w : World) (hl : CellsS w w.heap.size v ts) (h : DesF w w.heap.size f d) (hlib : libB ts = true) (hsz : sizesB d = true) (hnm : hasNm d = true) (hcn : connB ts d = true) :
  Calls Tryz.prog 151 #[v, .agg #[f 0, f 1, f 2]] w (NewR ts d w) := by
 have hmm := @run_makeMap Tryz.prog
 obtain ⟨h0, h1, h2⟩ := h
 obtain ⟨a1, cap1, e1⟩ := h1.slice
 obtain ⟨Fi, hci, hfi⟩ := h0
 obtain ⟨Fp, hcp, hfp⟩ := h2
 obtain ⟨Fl, hcl, hfl⟩ := hl
 simp only [sizesB, Bool.and_eq_true, decide_eq_true_eq] at hsz
 simp only [hasNm, Bool.and_eq_true] at hnm
 have HNI := lh hnm.1.1
 have HNP := lh hnm.2
 have HCN := lh hcn
 have HLB := lh hlib
 have HLN := lh (pls_len hlib hcn)
 obtain ⟨n, hnn⟩ : ∃ n, n = d.insts.length := ⟨_, rfl⟩
 obtain ⟨c, hcc⟩ : ∃ c, c = d.ports.length := ⟨_, rfl⟩
 obtain ⟨l, hll⟩ : ∃ l, l = ts.length := ⟨_, rfl⟩
 have hn14 : n ≤ 14 := by rw [hnn]; exact hsz.1.1
 have hc8 : c ≤ 8 := by rw [hcc]; exact hsz.2
 have hm30 := hsz.1.2
 rw [← hnn] at hci hfi; rw [← hcc] at hcp hfp; rw [← hll] at hcl hfl
 have HI := hci; have HP := hcp; have HL := hcl
 obtain ⟨hn, a0, cap0, e0, _⟩ := hci
 obtain ⟨hc', a2, cap2, e2, _⟩ := hcp
 obtain ⟨hl', al, capl, rfl, _⟩ := hcl
 rw [e0] at HI; rw [e2] at HP
 rw [e0, e1, e2]
 have HI := lh HI; have HP := lh HP; have HL := lh HL
 have HFI := lh hfi; have HFP := lh hfp; have HFL := lh hfl
 have NN := lh hnn; have CC := lh hcc; have LL := lh hll
 clear hfi hfp hfl hnn hcc hll e0 e1 e2 h1 hsz hnm hcn hlib hn hc' hl'
 obtain ⟨DB, hDB⟩ : ∃ o, o = Obj.cells #[.slice a0 n cap0, .slice a1 d.nets.length cap1, .slice a2 c cap2] 43 := ⟨_, rfl⟩
 have HDB := lh hDB
 clear hDB
 go_enter Tryz.func151, Tryz.ntmps151
 go_wp2
 go_loopw [18] (fun i wr => ∃ k : Nat, k ≤ n ∧ i = .int .i64 k ∧ Hid (Net wr (w.heap.size + 1 + 1 + 1 + 1) (w.heap.size + 1 + 1 + 1) (w.heap.size + 1 + 1) (pls ts d k)) ∧ Hid (wr.heap[w.heap.size]? = some DB) ∧ Hid (Res4 w wr) ∧ w.heap.size + 1 + 1 + 1 < wr.heap.size ∧ Below w.heap.size w wr) (fun i _ => n - (intOf i).toNat)
 case atStart => exact ⟨0, by omega, rfl, lh (net_start w _ _), lh (by rw [HDB.out]; exact first_kept w _ _ _ _), lh (by refine ⟨⟨_, by simp [go_sem]; rfl⟩, ⟨_, by simp [go_sem]; rfl⟩, ?_, ?_⟩ <;> simp [go_sem]), by simp, eX⟩
 case round =>
  obtain ⟨wo, hwo⟩ : ∃ wo : World, wo = wr := ⟨_, rfl⟩
  subst hwo
  obtain ⟨k, hk, rfl, hN, hD, hr4, hs, hbw⟩ := hrel
  by_cases hkn : k < n
  ·obtain ⟨b, off, rfl, hlt, hx⟩ := HI.out.at hbw hkn
   have y0 := hx 0 (by omega); have y1 := hx 1 (by omega); have y2 := hx 2 (by omega)
   simp only [Nat.add_zero] at y0
   have ⟨e0, e1, x2, _⟩ := HFI.out k hkn
   obtain ⟨p2, q2, e2⟩ := x2.slice
   rw [e2] at x2
   rw [e0] at y0; rw [e1] at y1; rw [e2] at y2
   have X2 := lh x2
   have hkd : k < d.insts.length := by have := NN.out; omega
   have hI : (k : Int) < (n : Int) := by omega
   have i0 : (0 : Int) ≤ (k : Int) := by omega
   obtain ⟨i1, i2, hnp, hnet⟩ := conn_inst HCN.out hkd
   have hcl := lib_cell HLB.out i1 i2
   have hnms := names_size (nm := fun i => (inn d.insts i).name) HNI.out hkd
   obtain ⟨kc, hkc⟩ := Int.eq_ofNat_of_zero_le i1
   have hkl : kc < l := by have := LL.out; omega
   have hxc : xcell ts (inn d.insts k) = cn ts kc := by unfold xcell; rw [hkc]; rfl
   rw [hkc] at y1
   rw [hxc] at hcl hnp
   obtain ⟨bl, offl, rfl, hltl, hxl⟩ := HL.out.at hbw hkl
   have z2 := hxl 2 (by omega)
   have xp := (HFL.out kc hkl).2.2.1
   obtain ⟨pl, ql, el⟩ := xp.slice
   rw [el] at z2 xp
   obtain ⟨Fq, hcq, hfq⟩ := xp
   obtain ⟨x, hxx⟩ : ∃ x, x = inn d.insts k := ⟨_, rfl⟩
   obtain ⟨ps, hps⟩ : ∃ ps, ps = (cn ts kc).pins := ⟨_, rfl⟩
   obtain ⟨np, hnp'⟩ : ∃ np, np = ps.length := ⟨_, rfl⟩
   have hnn : x.nets.length = np := by rw [hxx, hnp', hps]; exact hnp
   have np5 : np ≤ 5 := by rw [hnp', hps]; exact (pins_get (cell_get hcl).1).2.1
   have hpn : ∀ j, j < np → (pn ps j).name.size ≤ 8 := fun j hj => by rw [hps]; exact pin_name hcl (by rw [← hps, ← hnp']; exact hj)
   have hlen := HLN.out k (by omega)
   have hIl : (kc : Int) < (l : Int) := by omega
   have il0 : (0 : Int) ≤ (kc : Int) := by omega
   have hltw : bl < wo.heap.size := Nat.lt_of_lt_of_le hltl hbw.size
   rw [← hps, ← hnp'] at z2 hcq hfq
   rw [← hxx] at y0 y2 X2 hnet hnms
   rw [hnn] at y2 hnet
   have HPN := lh hpn
   have HQ := lh hcq; have HFQ := lh hfq
   have HNET := lh hnet
   have HXX := lh hxx; have HXC := lh hxc; have HPS := lh hps; have HNP' := lh hnp'; have HNN := lh hnn
   clear hx e0 e1 e2 x2 hxl el hnp hcl hkc hxc hcq hfq hpn hnet hps hnp' hnn hxx i1 i2
   have hsw := hbw.size
   have bI : Below wo.heap.size wo (wo.alloc (Obj.cells #[.string x.name, .int .i64 (kc : Int), .slice p2 np q2] 126)) := (Below.refl _ _).alloc (Nat.le_refl _) _
   have hN1 := lh (hN.out.below bI)
   have hD1 := lh ((bI.block w.heap.size (by omega)).trans hD.out)
   have hI1 := lh (heap_alloc_new wo (Obj.cells #[.string x.name, .int .i64 (kc : Int), .slice p2 np q2] 126))
   have hb1 := lh (hbw.trans (bI.mono (by omega)))
   have hr1 := lh (hr4.out.below bI (by omega))
   go_wp2
   go_loopw [30] (fun i wq => ∃ j : Nat, j ≤ np ∧ i = .int .i64 j ∧ Hid (Net wq (w.heap.size + 1 + 1 + 1 + 1) (w.heap.size + 1 + 1 + 1) (w.heap.size + 1 + 1) (pls ts d k ++ plsI ts x k j)) ∧ Hid (wq.heap[w.heap.size]? = some DB) ∧ Hid (Res4 w wq) ∧ Hid (wq.heap[wo.heap.size]? = some (.cells #[.string x.name, .int .i64 (kc : Int), .slice p2 np q2] 126 (0, 0))) ∧ wo.heap.size < wq.heap.size ∧ Below w.heap.size w wq) (fun i _ => np - (intOf i).toNat)
   case atStart => exact ⟨0, by omega, rfl, lh (by simpa [plsI] using hN1.out), hD1, hr1, hI1, by simp, hb1.out⟩
   case round =>
    clear hN hN1 hD hD1 hI1 bI hb1 hbw y0 y1 y2 z2 hr4 hr1
    obtain ⟨j, hj, rfl, hN, hD, hr4, hIB, hsq, hbw⟩ := hrel
    by_cases hjn : j < np
    ·obtain ⟨bp, offp, rfl, hltp, hx⟩ := HQ.out.at hbw hjn
     have y0 := hx 0 (by omega); have y1 := hx 1 (by omega); have y2 := hx 2 (by omega); have y3 := hx 3 (by omega)
     simp only [Nat.add_zero] at y0
     have ⟨e0, e1, e2, e3, _⟩ := HFQ.out j hjn
     rw [e0] at y0; rw [e1] at y1; rw [e2] at y2; rw [e3] at y3
     have s0 := cell_of_row wr wo.heap.size 0 _ _ (0, 0) hIB.out
     have s2 := cell_of_row wr wo.heap.size 2 _ _ (0, 0) hIB.out
     simp at s0 s2
     obtain ⟨_, _, _, ev, hni⟩ := X2.out
     cases ev
     obtain ⟨bn, offn, en, hltn, hxn⟩ := hni (by have := HNN.out; omega)
     subst en
     have yn : wr.cell? ⟨bn, offn + j, none⟩ = some (.int .i64 (iv x.nets j)) := by rw [hbw.cell (p := ⟨bn, offn + j, none⟩) hltn]; exact hxn j (by have := HNN.out; omega)
     have hJ : (j : Int) < (np : Int) := by omega
     have j0 : (0 : Int) ≤ (j : Int) := by omega
     have hs := hbw.size
     have l1 : bp < wr.heap.size := by omega
     have l2 : bn < wr.heap.size := by omega
     have l3 : w.heap.size < wr.heap.size := by omega
     have hpn := HPN.out j hjn
     have nt := HNET.out j hjn
     have wfn : (Lit.int .i64 (iv x.nets j)).wf = true := WalkArith.wf_i64 (by omega)
     have NT := lh nt; have WFN := lh wfn; have HXN := lh hxn; have HNI' := lh hni
     have su1a : x.name.size + 1 ≤ 9223372036854775807 := by omega
     have su1b : ¬ 9223372036854775807 < x.name.size + 1 := by omega
     have su1c : ¬ (9223372036854775807 : Int) < ((x.name.size : Nat) : Int) + 1 := by omega
     have su2a : x.name.size + 1 + (pn ps j).name.size ≤ 9223372036854775807 := by omega
     have su2b : ¬ 9223372036854775807 < x.name.size + 1 + (pn ps j).name.size := by omega
     have su2c : ¬ (9223372036854775807 : Int) < ((x.name.size : Nat) : Int) + 1 + (((pn ps j).name.size : Nat) : Int) := by omega
     clear hx e0 e1 e2 e3 nt wfn hxn hni
     go_wp2
     obtain ⟨W, hW⟩ : ∃ W, W = ((wr.alloc (Obj.cells #[.string (pn ps j).name, .int .i64 (pn ps j).dir, .int .i64 (pn ps j).cap, .bool (pn ps j).clock] 211)).alloc (Obj.cells #[.int .i64 (k : Int), .int .i64 (j : Int)] 254)).drew := ⟨_, rfl⟩
     have bW : Below wr.heap.size wr W := by rw [hW]; (exact eX)
     have zW : wr.heap.size + 2 ≤ W.heap.size := by rw [hW]; simp
     have hW1 := lh ((bW.block wo.heap.size (by omega)).trans hIB.out)
     have hW2 : W.heap[wr.heap.size]? = some (Obj.cells #[.string (pn ps j).name, .int .i64 (pn ps j).dir, .int .i64 (pn ps j).cap, .bool (pn ps j).clock] 211) := by rw [hW]; exact one_new wr _ _
     have hW3 : W.heap[wr.heap.size + 1]? = some (Obj.cells #[.int .i64 (k : Int), .int .i64 (j : Int)] 254) := by rw [hW]; exact two_new wr _ _
     have hW4 := lh ((bW.block w.heap.size (by omega)).trans hD.out)
     have hW2 := lh hW2
     have hW3 := lh hW3
     have hNW := lh (hN.out.below bW)
     have bWw : Below w.heap.size w W := hbw.trans (bW.mono (by omega))
     have ynW : W.cell? ⟨bn, offn + j, none⟩ = some (.int .i64 (iv x.nets j)) := cell_keep yn bW
     refine wp_region_held_drew (S := (fun w' => w'.cell? ⟨wo.heap.size, 0, none⟩ = some (.string x.name) ∧ w'.cell? ⟨wo.heap.size, 2, none⟩ = some (.slice (some ⟨bn, offn, none⟩) np q2) ∧ w'.cell? ⟨wr.heap.size, 0, none⟩ = some (.string (pn ps j).name) ∧ w'.cell? ⟨wr.heap.size, 1, none⟩ = some (.int .i64 (pn ps j).dir) ∧ w'.cell? ⟨wr.heap.size, 2, none⟩ = some (.int .i64 (pn ps j).cap) ∧ w'.cell? ⟨wr.heap.size + 1, 0, none⟩ = some (.int .i64 (k : Int)) ∧ w'.cell? ⟨wr.heap.size + 1, 1, none⟩ = some (.int .i64 (j : Int)) ∧ w'.cell? ⟨bn, offn + j, none⟩ = some (.int .i64 (iv x.nets j)))) (by kernel_rfl) ?_ (fun hHeld => ?_)
     ·(try dsimp only); rw [← hW]; exact held9 hW1.out hW2.out hW3.out ynW
     (try dsimp only at hHeld)
     refine takeH 0 (v := ?_) rfl ?_ ?_; rotate_left; focus (intro w' hSw; (try dsimp only at hSw); go_simp; try (with_reducible rfl))
     (try simp only [actP])
     refine takeH 1 (v := ?_) rfl ?_ ?_; rotate_left; focus (intro w' hSw; (try dsimp only at hSw); go_simp; try (with_reducible rfl))
     (try simp only [actP])
     refine takeH 2 (v := ?_) rfl ?_ ?_; rotate_left; focus (intro w' hSw; (try dsimp only at hSw); go_simp; try (with_reducible rfl))
     (try simp only [actP])
     refine takeH 3 (v := ?_) rfl ?_ ?_; rotate_left; focus (intro w' hSw; (try dsimp only at hSw); go_simp; try (with_reducible rfl))
     (try simp only [actP])
     refine takeH 4 (v := ?_) rfl ?_ ?_; rotate_left; focus (intro w' hSw; (try dsimp only at hSw); go_simp; try (with_reducible rfl))
     (try simp only [actP])
     refine takeH 5 (v := ?_) rfl ?_ ?_; rotate_left; focus (intro w' hSw; (try dsimp only at hSw); go_simp; try (with_reducible rfl))
     (try simp only [actP])
     refine takeH 6 (v := ?_) rfl ?_ ?_; rotate_left; focus (intro w' hSw; (try dsimp only at hSw); go_simp; try (with_reducible rfl))
     (try simp only [actP])
     refine takeH 7 (v := ?_) rfl ?_ ?_; rotate_left; focus (intro w' hSw; (try dsimp only at hSw); go_simp; try (with_reducible rfl))
     (try simp only [actP])
     refine takeH 8 (v := ?_) rfl ?_ ?_; rotate_left; focus (intro w' hSw; (try dsimp only at hSw); go_simp; try (with_reducible rfl))
     (try simp only [actP])
     refine takeH 9 (v := ?_) rfl ?_ ?_; rotate_left; focus (intro w' hSw; (try dsimp only at hSw); go_simp; try (with_reducible rfl))
     (try simp only [actP])
     refine takeH 10 (v := ?_) rfl ?_ ?_; rotate_left; focus (intro w' hSw; (try dsimp only at hSw); go_simp; try (with_reducible rfl))
     (try simp only [actP])
     refine takeH 11 (v := ?_) rfl ?_ ?_; rotate_left; focus (intro w' hSw; (try dsimp only at hSw); go_simp; try (with_reducible rfl))
     (try simp only [actP])
     refine takeH 12 (v := ?_) rfl ?_ ?_; rotate_left; focus (intro w' hSw; (try dsimp only at hSw); go_simp; try (with_reducible rfl))
     (try simp only [actP])
     refine takeH 13 (v := ?_) rfl ?_ ?_; rotate_left; focus (intro w' hSw; (try dsimp only at hSw); go_simp; try (with_reducible rfl))
     (try simp only [actP])
     refine takeH 14 (v := ?_) rfl ?_ ?_; rotate_left; focus (intro w' hSw; (try dsimp only at hSw); go_simp; try (with_reducible rfl))
     (try simp only [actP])
     refine takeH 15 (v := ?_) rfl ?_ ?_; rotate_left; focus (intro w' hSw; (try dsimp only at hSw); go_simp; try (with_reducible rfl))
     (try simp only [actP])
     refine takeH 16 (v := ?_) rfl ?_ ?_; rotate_left; focus (intro w' hSw; (try dsimp only at hSw); go_simp; try (with_reducible rfl))
     (try simp only [actP])
     refine takeH 17 (v := ?_) rfl ?_ ?_; rotate_left; focus (intro w' hSw; (try dsimp only at hSw); go_simp; try (with_reducible rfl))
     (try simp only [actP])
     rw [← hW] at hHeld ⊢
     clear hW
     have HA := lh (fun (S : ByteArray) (hS : S = pinNm x.name (pn ps j).name) => add_any ⟨(k : Int), (j : Int), S, iv x.nets j, (pn ps j).cap, (pn ps j).dir == 2⟩ _ _ _ (w.heap.size + 1 + 1) _ W hNW.out WFN.out (by rw [List.length_append, plsI_len]; omega) (by omega) (Nat.le_refl _))
     refine wpAnyH_ready (rs := [18]) (by kernel_rfl) (by simp) ?_
     refine AllReadyH.cons rfl (fun K hK => ?_) AllReadyH.nil
     go_simp
     go_at_call 186
     refine (HA.out _ rfl).mono ?_
     rintro e wn ⟨rfl, hNet, hFr⟩
     have k1 := hFr.typ _ _ hW1.out (by omega) (by omega) (fun cs z e => by simp at e) (fun cs z e => by simp at e)
     have k2 := hFr.typ _ _ hW2.out (by omega) (by omega) (fun cs z e => by simp at e) (fun cs z e => by simp at e)
     have k3 := hFr.typ _ _ hW3.out (by omega) (by omega) (fun cs z e => by simp at e) (fun cs z e => by simp at e)
     have k4 := lh (hFr.typ _ _ hW4.out (by omega) (by omega) (fun cs z e => by rw [HDB.out] at e; simp at e) (fun cs z e => by rw [HDB.out] at e; simp at e))
     have yw : wn.cell? ⟨bn, offn + j, none⟩ = some (.int .i64 (iv x.nets j)) := by rw [hFr.low.cell (p := ⟨bn, offn + j, none⟩) (show bn < w.heap.size + 1 + 1 by omega)]; exact ynW
     have K1 := lh k1
     have KR := lh ((hr4.out.below bW (by omega)).low hFr.low)
     refine hK.out _ _ (held9 k1 k2 k3 yw) (fun hHeld' => ?_)
     clear hK K hHeld
     have hHeld := hHeld'
     clear hHeld'
     (try simp only [actP])
     refine wpAnyH_done (by kernel_rfl) ?_ _
     have hPL : (⟨(k : Int), (j : Int), pinNm x.name (pn ps j).name, iv x.nets j, (pn ps j).cap, (pn ps j).dir == 2⟩ : PlD) = plI ts x k j := by
      have hc : (xcell ts x).pins = ps := by rw [HXX.out, HXC.out]; exact HPS.out.symm
      simp only [plI, hc]
      rfl
     rw [hPL, List.append_assoc, ← plsI_succ] at hNet
     have HN2 := lh hNet
     have bR := lh (bWw.trans (hFr.low.mono (by omega)))
     have zR : wo.heap.size < wn.heap.size := by have := hFr.low.size; omega
     clear k1 k2 k3 yw hNet hFr hPL hHeld hW1 hW2 hW3 hW4 hNW bWw ynW HA bW y0 y1 y2 y3 s0 s2 yn
     go_wp2
     go_roundw
     case rel => exact ⟨j + 1, by omega, by go_num, HN2, k4, KR, K1, zR, bR.out⟩
     case measure => simp [intOf]; omega
    ·obtain rfl : j = np := by omega
     have hJ : ¬ (j : Int) < (j : Int) := by omega
     have hpl : pls ts d k ++ plsI ts x k j = pls ts d (k + 1) := by rw [pls_succ, ← HXX.out, show xcell ts x = cn ts kc by rw [HXX.out]; exact HXC.out, ← HPS.out, ← HNP'.out]
     rw [hpl] at hN
     have hs2 : w.heap.size + 1 + 1 + 1 < wr.heap.size := by omega
     clear hpl
     go_wp2
     go_roundw
     case rel => exact ⟨k + 1, by omega, by go_num, hN, hD, hr4, hs2, hbw⟩
     case measure => simp [intOf]; omega
  ·obtain rfl : k = n := by omega
   have hI : ¬ (k : Int) < (k : Int) := by omega
   have hDr := hD.out
   rw [HDB.out] at hDr
   have r2 := cell_of_row wo w.heap.size 2 _ _ (0, 0) hDr
   simp at r2
   have hN1 := lh (show Net wo (w.heap.size + 1 + 1 + 1 + 1) (w.heap.size + 1 + 1 + 1) (w.heap.size + 1 + 1) (pls ts d k ++ plsP d 0) by simpa [plsP] using hN.out)
   have hlen := HLN.out k (Nat.le_of_eq NN.out)
   clear hDr
   go_wp2
   go_loopw [62] (fun i wq => ∃ j : Nat, j ≤ c ∧ i = .int .i64 j ∧ Hid (Net wq (w.heap.size + 1 + 1 + 1 + 1) (w.heap.size + 1 + 1 + 1) (w.heap.size + 1 + 1) (pls ts d k ++ plsP d j)) ∧ Hid (Res4 w wq) ∧ w.heap.size + 1 + 1 + 1 < wq.heap.size ∧ Below w.heap.size w wq) (fun i _ => c - (intOf i).toNat)
   case atStart => exact ⟨0, by omega, rfl, hN1, hr4, hs, hbw⟩
   case round =>
    clear hN hN1 hD hs hbw r2 hr4
    obtain ⟨j, hj, rfl, hN, r4, hs, hbw⟩ := hrel
    by_cases hjc : j < c
    ·obtain ⟨bp, offp, rfl, hltp, hx⟩ := HP.out.at hbw hjc
     have y0 := hx 0 (by omega); have y1 := hx 1 (by omega); have y2 := hx 2 (by omega)
     simp only [Nat.add_zero] at y0
     have ⟨e0, e1, e2, _⟩ := HFP.out j hjc
     rw [e0] at y0; rw [e1] at y1; rw [e2] at y2
     have hJ : (j : Int) < (c : Int) := by omega
     have j0 : (0 : Int) ≤ (j : Int) := by omega
     have hcp := conn_port HCN.out (show j < d.ports.length by have := CC.out; omega)
     have hsw := hbw.size
     have bI : Below wr.heap.size wr (wr.alloc (Obj.cells #[.string (ptn d.ports j).name, .int .i64 (ptn d.ports j).dir, .int .i64 (ptn d.ports j).net] 163)) := (Below.refl _ _).alloc (Nat.le_refl _) _
     have HA := lh (add_any ⟨-1, (j : Int), (ptn d.ports j).name, (ptn d.ports j).net, 0, (ptn d.ports j).dir == 1⟩ _ _ _ (w.heap.size + 1 + 1) _ _ (hN.out.below bI) (show (Lit.int .i64 (ptn d.ports j).net).wf = true from WalkArith.wf_i64 (by omega)) (by rw [List.length_append, plsP_len]; omega) (by omega) (Nat.le_refl _))
     have hr4 := r4.out.below bI (by omega)
     have bJ := hbw.trans (bI.mono (by omega))
     have R4 := lh hr4
     have BJ := lh bJ
     clear hx e0 e1 e2 hN hcp r4 hr4 bJ bI
     go_wp2_with fail
     go_at_call 186
     refine HA.out.mono ?_
     rintro e wn ⟨rfl, hNet, hFr⟩
     have hPL : (⟨-1, (j : Int), (ptn d.ports j).name, (ptn d.ports j).net, 0, (ptn d.ports j).dir == 1⟩ : PlD) = plP d j := rfl
     rw [hPL, List.append_assoc, ← plsP_succ] at hNet
     have HN2 := lh hNet
     have HR4 := lh (R4.out.low hFr.low)
     have bR := lh (BJ.out.trans (hFr.low.mono (by omega)))
     have zR : w.heap.size + 1 + 1 + 1 < wn.heap.size := by have := hFr.low.size; simp at this; omega
     clear hNet hFr hPL HA R4 BJ y0 y1 y2
     go_wp2
     go_roundw
     case rel => exact ⟨j + 1, by omega, by go_num, HN2, HR4, zR, bR.out⟩
     case measure => simp [intOf]; omega
    ·obtain rfl : j = c := by omega
     have hJ : ¬ (j : Int) < (j : Int) := by omega
     obtain ⟨⟨u0, h0r⟩, ⟨u1, h1r⟩, f0r, f1r⟩ := r4.out
     have hNo := hN.out
     rw [show pls ts d k ++ plsP d j = places ts d by rw [places, ← NN.out, ← CC.out]] at hNo
     obtain ⟨aa, cc, n0, n1, _, _, _, hbs, hG, hE⟩ := hNo
     have HG := lh hG
     have HE := lh hE
     have L4 : w.heap.size + 1 < wr.heap.size := by omega
     have ne3 : ¬ w.heap.size + 1 + 1 + 1 = w.heap.size + 1 := by omega
     clear hN hG hE r4
     go_wp2
     have g1 := grown_set wr ⟨w.heap.size + 1, 0, none⟩ (.slice aa (places ts d).length cc)
     have g2 := grown_set (wr.setCell ⟨w.heap.size + 1, 0, none⟩ (.slice aa (places ts d).length cc)) ⟨w.heap.size + 1, 1, none⟩ (.map (some (w.heap.size + 1 + 1)))
     have hG2 := (HG.out.kept g1 (fun q hq e => by have := (HG.out.blk q hq).1; simp at e; omega)).kept g2 (fun q hq e => by have := (HG.out.blk q hq).1; simp at e; omega)
     have hE2 := (HE.out.kept g1 (by simp) (fun q hq => .inl (by simp at hq; omega))).kept g2 (by simp) (fun q hq => .inl (by simp at hq; omega))
     exact bodyPost_ret (v := .agg #[.slice aa (places ts d).length cc, .map (some (w.heap.size + 1 + 1))]) (by simp [results, Tryz.results151, go_sem, h0r, h1r]) rfl ⟨_, rfl, aa, cc, w.heap.size + 1 + 1, w.heap.size + 1 + 1 + 1 + 1, rfl, by omega, by omega, by have := g1.size; have := g2.size; omega, hG2, hE2, eX⟩
end Go.Proofs.YtkpfbnffhhmokaaGreat
