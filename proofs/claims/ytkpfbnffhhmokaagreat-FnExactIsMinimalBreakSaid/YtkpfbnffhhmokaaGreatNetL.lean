/-
The model's list of places.
-/
import Derived.Test.YtkpfbnffhhmokaaGreatNetM
import Derived.Test.YtkpfbnffhhmokaaGreatGrowR
import Derived.Deep.RegionHeld3
namespace Go.Proofs.YtkpfbnffhhmokaaGreat
open Go.ChangeShapes Go.WideShapes Go.ChangeAt Go.RowKit Go.Deep
set_option linter.unusedVariables false
set_option linter.unusedSimpArgs false
set_option maxRecDepth 100000
def mC (p : PlD) : List Value := [.int .i64 p.inst, .int .i64 p.pin, .int .i64 p.net, .bool p.drv]
def PlM (w : World) (B : Nat) (v : Value) (P : List PlD) : Prop := ∃ F, CellS w B v P.length 4 F ∧ ∀ i, i < P.length → F i 0 = .int .i64 (pll P i).inst ∧ F i 1 = .int .i64 (pll P i).pin ∧ F i 2 = .int .i64 (pll P i).net ∧ F i 3 = .bool (pll P i).drv
theorem PlM.slice {w : World} {L : Nat} {v : Value} {P : List PlD} (h : PlM w L v P) : ∃ p q, v = .slice p P.length q := by
 obtain ⟨F, ⟨_, a, cap, rfl, _⟩, _⟩ := h
 exact ⟨_, _, rfl⟩
theorem PlM.keep {w w' : World} {B C : Nat} {v : Value} {P : List PlD} (h : PlM w B v P) (hb : Below B w w') (hB : B ≤ C) : PlM w' C v P := by
 obtain ⟨F, h0, h1⟩ := h
 exact ⟨F, h0.keep hb hB, h1⟩
theorem PlM.up {w w' : World} {v : Value} {P : List PlD} (h : PlM w w.heap.size v P) (hb : Below w.heap.size w w') : PlM w' w'.heap.size v P := h.keep hb hb.size
theorem PlM.at {w wr : World} {a : Option Addr} {n cap k : Nat} {P : List PlD} (h : PlM w w.heap.size (.slice a n cap) P) (hb : Below w.heap.size w wr) (hk : k < P.length) :
  ∃ b off, a = some ⟨b, off, none⟩ ∧ b < w.heap.size ∧ wr.cell? ⟨b, off + k * 4, none⟩ = some (.int .i64 (pll P k).inst) ∧ wr.cell? ⟨b, off + k * 4 + 1, none⟩ = some (.int .i64 (pll P k).pin) ∧ wr.cell? ⟨b, off + k * 4 + 2, none⟩ = some (.int .i64 (pll P k).net) ∧ wr.cell? ⟨b, off + k * 4 + 3, none⟩ = some (.bool (pll P k).drv) := by
 obtain ⟨F, hc, hf⟩ := h
 obtain ⟨_, a', cap', e, _⟩ := id hc
 cases e
 obtain ⟨b, off, rfl, hlt, hx⟩ := hc.at hb hk
 have y0 := hx 0 (by omega); have y1 := hx 1 (by omega); have y2 := hx 2 (by omega); have y3 := hx 3 (by omega)
 obtain ⟨e0, e1, e2, e3⟩ := hf k hk
 rw [e0] at y0; rw [e1] at y1; rw [e2] at y2; rw [e3] at y3
 exact ⟨b, off, rfl, hlt, by simpa using y0, y1, y2, y3⟩
theorem GR_PlM {w : World} {base : Nat} {t : TypeId} {v : Value} {P : List PlD} (h : GR w base t 4 v (P.map mC)) (hl : P.length ≤ 1048576) : PlM w w.heap.size v P := by
 have hl' : (P.map mC).length = P.length := List.length_map _
 have hc := (h.out (by omega) (by rw [hl']; exact hl)).cells
 rw [hl'] at hc
 refine ⟨_, hc, fun i hi => ?_⟩
 have e : (P.map mC).getD i [] = mC (pll P i) := by simp [List.getD, pll, hi]
 simp only [e]
 exact ⟨rfl, rfl, rfl, rfl⟩
theorem mplsI_len (x : InstD) (i m : Nat) : (mplsI x i m).length = m := by simp [mplsI]
theorem mplsP_len (d : DesD) (m : Nat) : (mplsP d m).length = m := by simp [mplsP]
theorem mpls_len {d : DesD} (h5 : ∀ i, i < d.insts.length → (inn d.insts i).nets.length ≤ 5) : ∀ n, n ≤ d.insts.length → (mpls d n).length ≤ 5 * n := by
 intro n
 induction n with
 | zero => intro _; simp [mpls]
 | succ n ih =>
  intro hn
  rw [mpls_succ, List.length_append, mplsI_len]
  have := ih (by omega)
  have := h5 n (by omega)
  omega
theorem GR.zero (w : World) {base c : Nat} {t : TypeId} {v : Value} {fs : List (List Value)} (hf : fs = []) (hv : v = .slice (some ⟨w.heap.size, 0, none⟩) 0 0) (hb : base ≤ w.heap.size) : GR (w.alloc (Obj.cells #[] t)) base t c v fs := by
 subst hf; subst hv
 exact GR.lit #[] [] rfl (by simp) hb (by simp)
theorem cellM {w w' : World} {row : Option Nat} {g o : Nat} {u : Value} (h : w.cell? ⟨g, o, none⟩ = some u) (hg : w.grownBy w' row) (hne : some g ≠ row) : w'.cell? ⟨g, o, none⟩ = some u := hg.cell h hne
theorem Tryz.infoPlM : (Tryz.prog.info? 177).map (fun i => (i.zero, i.size, i.bytes)) = some (some (.agg #[.int .i64 0, .int .i64 0, .int .i64 0, .bool false]), 4, 32) := by kernel_rfl
def PlacesR (d : DesD) (w : World) (e : Ending) (w' : World) : Prop := ∃ v, e = .returned v ∧ PlM w' w'.heap.size v (mplaces d) ∧ GR w' w.heap.size 177 4 v ((mplaces d).map mC) ∧ Below w.heap.size w w'
set_option maxHeartbeats 16000000 in
theorem specPlaces_any (f : Nat → Value) (d : DesD) (w : World) (h : DesF w w.heap.size f d) (hsz : sizesB d = true) (h5 : ∀ i, i < d.insts.length → (inn d.insts i).nets.length ≤ 5) :
  Calls Tryz.prog 88 #[.agg #[f 0, f 1, f 2]] w (PlacesR d w) := by
 obtain ⟨i0, hi, hz0, hz1, hz2⟩ := info_parts Tryz.infoPlM
 obtain ⟨a1, c1, e1⟩ := h.2.1.slice
 obtain ⟨Fi, hci, hfi⟩ := h.1
 obtain ⟨Fp, hcp, hfp⟩ := h.2.2
 have HI := hci; have HP := hcp
 obtain ⟨hn, a0, c0, e0, _⟩ := hci
 obtain ⟨hc', a2, c2, e2, _⟩ := hcp
 rw [e0] at HI; rw [e2] at HP
 rw [e0, e1, e2]
 have HI := lh HI; have HP := lh HP
 have HFI := lh hfi; have HFP := lh hfp
 have HLN := lh (mpls_len h5)
 have H5 := lh h5
 simp only [sizesB, Bool.and_eq_true, decide_eq_true_eq] at hsz
 have n14 := hsz.1.1
 have c8 := hsz.2
 clear hfi hfp e0 e1 e2 h h5 hsz
 obtain ⟨n, hnn⟩ : ∃ n, n = d.insts.length := ⟨_, rfl⟩
 obtain ⟨c, hcc⟩ : ∃ c, c = d.ports.length := ⟨_, rfl⟩
 have NN := lh hnn; have CC := lh hcc
 rw [← hnn] at HI HFI hn n14 ⊢; rw [← hcc] at HP HFP hc' c8 ⊢
 clear hnn hcc
 go_enter Tryz.func88, Tryz.ntmps88
 go_wp2
 go_loopw [3, 5, 4] (fun v _ i wr => ∃ k : Nat, k ≤ n ∧ i = .int .i64 k ∧ Hid (GR wr (w.heap.size + 1) 177 4 v ((mpls d k).map mC)) ∧ wr.cell? ⟨w.heap.size, 0, none⟩ = some (.slice a0 n c0) ∧ wr.cell? ⟨w.heap.size, 2, none⟩ = some (.slice a2 c c2) ∧ Below w.heap.size w wr) (fun _ _ i _ => n - (intOf i).toNat)
 case atStart => exact ⟨0, by omega, rfl, lh (GR.zero (w.alloc (Obj.cells #[.slice a0 n c0, .slice a1 d.nets.length c1, .slice a2 c c2] 43)) (by simp [mpls]) (by simp) (by simp)), by simp [go_sem], by simp [go_sem], eX⟩
 case round =>
  obtain ⟨k, hk, rfl, hG, r0, r2, hbw⟩ := hrel
  have lb := cell_lt r0
  by_cases hkn : k < n
  ·obtain ⟨b, off, e9, hlt, hx⟩ := HI.out.at hbw hkn
   subst e9
   have y2 := hx 2 (by omega)
   have x2 := (HFI.out k hkn).2.2.1
   obtain ⟨p2, q2, e2⟩ := x2.slice
   rw [e2] at y2 x2
   obtain ⟨x, hxx⟩ : ∃ x, x = inn d.insts k := ⟨_, rfl⟩
   rw [← hxx] at y2 x2
   have XX := lh hxx
   have X2 := lh x2
   have h5 : x.nets.length ≤ 5 := by rw [hxx]; exact H5.out k (by have := NN.out; omega)
   have hln := HLN.out k (by have := NN.out; omega)
   have hI : (k : Int) < (n : Int) := by omega
   have i00 : (0 : Int) ≤ (k : Int) := by omega
   have G0 := lh (show GR wr (w.heap.size + 1) 177 4 _ ((mpls d k ++ mplsI x k 0).map mC) by simpa [mplsI] using hG.out)
   have R0 := lh r0
   have R2 := lh r2
   have BW := lh hbw
   clear hx x2 hxx hG e2
   go_wp2
   clear r0 r2 hbw y2
   go_loopw [3, 6] (fun v i wr => ∃ j : Nat, j ≤ x.nets.length ∧ i = .int .i64 j ∧ Hid (GR wr (w.heap.size + 1) 177 4 v ((mpls d k ++ mplsI x k j).map mC)) ∧ wr.cell? ⟨w.heap.size, 0, none⟩ = some (.slice (some ⟨b, off, none⟩) n c0) ∧ wr.cell? ⟨w.heap.size, 2, none⟩ = some (.slice a2 c c2) ∧ Below w.heap.size w wr) (fun _ i _ => x.nets.length - (intOf i).toNat)
   case atStart => exact ⟨0, by omega, rfl, G0, R0.out, R2.out, BW.out⟩
   case round =>
    clear G0 R0 R2 BW
    obtain ⟨j, hj, rfl, hG, r0, r2, hbw⟩ := hrel
    have lb := cell_lt r0
    have hblk := hG.out.blk
    by_cases hjn : j < x.nets.length
    ·obtain ⟨_, _, _, ev, hni⟩ := X2.out
     cases ev
     obtain ⟨bn, offn, en, hltn, hxn⟩ := hni (by omega)
     subst en
     have yn : wr.cell? ⟨bn, offn + j, none⟩ = some (.int .i64 (iv x.nets j)) := by rw [hbw.cell (p := ⟨bn, offn + j, none⟩) hltn]; exact hxn j hjn
     have hJ : (j : Int) < (x.nets.length : Int) := by omega
     have j0 : (0 : Int) ≤ (j : Int) := by omega
     obtain ⟨N1, hN1⟩ : ∃ N : Nat, N + 1 = x.nets.length := ⟨x.nets.length - 1, by omega⟩
     have hlm : ((mpls d k ++ mplsI x k j).map mC).length ≤ 100 := by rw [List.length_map, List.length_append, mplsI_len]; omega
     have HLM := lh hlm
     have bA : ∀ (D : Bool), Below wr.heap.size wr (wr.alloc (Obj.cells #[.int .i64 (k : Int), .int .i64 (j : Int), .int .i64 (iv x.nets j), .bool D] 177)) := fun D => (Below.refl _ _).alloc (Nat.le_refl _) _
     have HA := lh bA
     have HN1 := lh hN1
     have hNx : (x.nets.length : Int) - 1 = (N1 : Int) := by omega
     have HJN := lh (show (((j : Int) == (N1 : Int))) = decide (j + 1 = x.nets.length) by
      by_cases e : j = N1
      ·simp [e, hN1]
      ·have : ¬ j + 1 = x.nets.length := by omega
       simp [this]
       omega)
     clear hni hxn hlm bA hN1
     go_wp2_with (at_builtin; refine wpList_append_own _ rfl _ _ 135 rfl (w.heap.size + 1) 177 i0 (.agg #[.int .i64 0, .int .i64 0, .int .i64 0, .bool false]) 4 32 Tryz.underlying135 hi hz0 hz1 hz2 rfl (by decide) _ _ _ rfl (hG.out.below (HA.out _)).1 ⟨wr.heap.size, 0, none⟩ 1 1 [.int .i64 (k : Int), .int .i64 (j : Int), .int .i64 (iv x.nets j), .bool _] rfl rfl (lit_cells _ #[.int .i64 (k : Int), .int .i64 (j : Int), .int .i64 (iv x.nets j), .bool _] _ _ rfl) (fun u hu => by simp at hu; rcases hu with rfl | rfl | rfl | rfl <;> rfl) (by have := HLM.out; unfold maxLen; omega) (by have := HLM.out; omega) (by simp; omega) ?_; intro v' w2 hown' hgrow hnil)
     rw [HJN.out] at hown' hgrow
     have hg := (hG.out.below (HA.out (decide (j + 1 = x.nets.length)))).snoc (f := mC (mpI x k j)) hown' rfl
     rw [show (mpls d k ++ mplsI x k j).map mC ++ [mC (mpI x k j)] = (mpls d k ++ mplsI x k (j + 1)).map mC by rw [mplsI_succ]; simp] at hg
     have hG4 := lh hg
     have q0 := cellM (cell_keep r0 (HA.out (decide (j + 1 = x.nets.length)))) hgrow (fun e => by have := (hblk _ e.symm).1; omega)
     have q2 := cellM (cell_keep r2 (HA.out (decide (j + 1 = x.nets.length)))) hgrow (fun e => by have := (hblk _ e.symm).1; omega)
     have hb2 : Below w.heap.size w w2 := (hbw.trans ((HA.out (decide (j + 1 = x.nets.length))).mono (by omega))).grown hgrow (by simp; omega) (fun q hq => by have := (hblk q hq).1; omega)
     clear hg hown' hgrow hnil hblk r0 r2 yn
     go_wp2
     go_roundw
     case rel => exact ⟨j + 1, by omega, by go_num, hG4, q0, q2, hb2⟩
     case measure => simp [intOf]; omega
    ·obtain rfl : j = x.nets.length := by omega
     have hJ : ¬ (x.nets.length : Int) < (x.nets.length : Int) := by omega
     have hG4 := lh (show GR wr (w.heap.size + 1) 177 4 _ ((mpls d (k + 1)).map mC) by rw [mpls_succ, ← XX.out]; exact hG.out)
     clear hG
     go_wp2
     go_roundw
     case rel => exact ⟨k + 1, by omega, by go_num, hG4, r0, r2, hbw⟩
     case measure => simp [intOf]; omega
  ·obtain rfl : k = n := by omega
   have hI : ¬ (k : Int) < (k : Int) := by omega
   have hln := HLN.out k (Nat.le_of_eq NN.out)
   have G0 := lh (show GR wr (w.heap.size + 1) 177 4 _ ((mpls d k ++ mplsP d 0).map mC) by simpa [mplsP] using hG.out)
   have R2 := lh r2
   have BW := lh hbw
   clear hG
   go_wp2
   clear r0 r2 hbw lb
   go_loopw [3, 7] (fun v i wr => ∃ j : Nat, j ≤ c ∧ i = .int .i64 j ∧ Hid (GR wr (w.heap.size + 1) 177 4 v ((mpls d k ++ mplsP d j).map mC)) ∧ wr.cell? ⟨w.heap.size, 2, none⟩ = some (.slice a2 c c2) ∧ Below w.heap.size w wr) (fun _ i _ => c - (intOf i).toNat)
   case atStart => exact ⟨0, by omega, rfl, G0, R2.out, BW.out⟩
   case round =>
    clear G0 R2 BW
    obtain ⟨j, hj, rfl, hG, r2, hbw⟩ := hrel
    have lb := cell_lt r2
    have hblk := hG.out.blk
    by_cases hjc : j < c
    ·obtain ⟨b, off, e9, hlt, hx⟩ := HP.out.at hbw hjc
     subst e9
     have y1 := hx 1 (by omega)
     have y2 := hx 2 (by omega)
     have ⟨_, e1, e2, _⟩ := HFP.out j hjc
     rw [e1] at y1; rw [e2] at y2
     have hJ : (j : Int) < (c : Int) := by omega
     have j0 : (0 : Int) ≤ (j : Int) := by omega
     have hlm : ((mpls d k ++ mplsP d j).map mC).length ≤ 100 := by rw [List.length_map, List.length_append, mplsP_len]; omega
     have HLM := lh hlm
     have bD : Below wr.heap.size wr wr.drew := (Below.refl _ _).drew
     clear hx e1 e2 hlm
     go_wp2
     refine wp_region_held_drew (S := (fun w' => w'.cell? ⟨w.heap.size, 2, none⟩ = some (.slice (some ⟨b, off, none⟩) c c2) ∧ w'.cell? ⟨b, off + j * 3 + 1, none⟩ = some (.int .i64 (ptn d.ports j).dir) ∧ w'.cell? ⟨b, off + j * 3 + 2, none⟩ = some (.int .i64 (ptn d.ports j).net))) (by kernel_rfl) ?_ (fun hHeld => ?_)
     ·(try dsimp only); exact ⟨cell_keep r2 bD, cell_keep y1 bD, cell_keep y2 bD⟩
     (try dsimp only at hHeld)
     refine takeH 0 (v := ?_) rfl ?_ ?_; rotate_left; focus (intro w' hSw; (try dsimp only at hSw); go_simp; try (with_reducible rfl))
     (try simp only [actP])
     refine takeH 1 (v := ?_) rfl ?_ ?_; rotate_left; focus (intro w' hSw; (try dsimp only at hSw); go_simp; try (with_reducible rfl))
     (try simp only [actP])
     refine takeH 2 (v := ?_) rfl ?_ ?_; rotate_left; focus (intro w' hSw; (try dsimp only at hSw); go_simp; try (with_reducible rfl))
     (try simp only [actP])
     refine takeH 3 (v := ?_) rfl ?_ ?_; rotate_left; focus (intro w' hSw; (try dsimp only at hSw); go_simp; try (with_reducible rfl))
     (try simp only [actP])
     refine takeH 4 (v := ?_) rfl ?_ ?_; rotate_left; focus (intro w' hSw; (try dsimp only at hSw); go_simp; try (with_reducible rfl))
     (try simp only [actP])
     refine takeH 5 (v := ?_) rfl ?_ ?_; rotate_left; focus (intro w' hSw; (try dsimp only at hSw); go_simp; try (with_reducible rfl))
     (try simp only [actP])
     refine takeH 6 (v := ?_) rfl ?_ ?_; rotate_left; focus (intro w' hSw; (try dsimp only at hSw); go_simp; try (with_reducible rfl))
     (try simp only [actP])
     refine takeH 7 (v := ?_) rfl ?_ ?_; rotate_left; focus (intro w' hSw; (try dsimp only at hSw); go_simp; try (with_reducible rfl))
     (try simp only [actP])
     refine takeH 8 (v := ?_) rfl ?_ ?_; rotate_left; focus (intro w' hSw; (try dsimp only at hSw); go_simp; try (with_reducible rfl))
     (try simp only [actP])
     refine takeH 9 (v := ?_) rfl ?_ ?_; rotate_left; focus (intro w' hSw; (try dsimp only at hSw); go_simp; try (with_reducible rfl))
     (try simp only [actP])
     refine takeH 10 (v := ?_) rfl ?_ ?_; rotate_left; focus (intro w' hSw; (try dsimp only at hSw); go_simp; try (with_reducible rfl))
     (try simp only [actP])
     refine takeH 11 (v := ?_) rfl ?_ ?_; rotate_left; focus (intro w' hSw; (try dsimp only at hSw); go_simp; try (with_reducible rfl))
     (try simp only [actP])
     refine takeH 12 (v := ?_) rfl ?_ ?_; rotate_left; focus (intro w' hSw; (try dsimp only at hSw); go_simp; try (with_reducible rfl))
     (try simp only [actP])
     refine takeH 13 (v := ?_) rfl ?_ ?_; rotate_left; focus (intro w' hSw; (try dsimp only at hSw); go_simp; try (with_reducible rfl))
     (try simp only [actP])
     refine takeH 14 (v := ?_) rfl ?_ ?_; rotate_left; focus (intro w' hSw; (try dsimp only at hSw); go_simp; try (with_reducible rfl))
     (try simp only [actP])
     refine takeH 15 (v := ?_) rfl ?_ ?_; rotate_left; focus (intro w' hSw; (try dsimp only at hSw); go_simp; try (with_reducible rfl))
     (try simp only [actP])
     refine wpAnyH_ready (rs := [16]) (by kernel_rfl) (by simp) ?_
     refine AllReadyH.cons rfl (fun K hK => ?_) AllReadyH.nil
     go_simp
     have bA : Below wr.drew.heap.size wr.drew (wr.drew.alloc (Obj.cells #[.int .i64 (-1), .int .i64 (j : Int), .int .i64 (ptn d.ports j).net, .bool ((ptn d.ports j).dir == 1)] 177)) := (Below.refl _ _).alloc (Nat.le_refl _) _
     refine hK.out _ _ (⟨cell_keep hHeld.1 bA, cell_keep hHeld.2.1 bA, cell_keep hHeld.2.2 bA⟩) (fun hHeld' => ?_)
     clear hK K hHeld
     have hHeld := hHeld'
     clear hHeld'
     (try simp only [actP])
     have hG2 := hG.out.below bD
     have hG3 := hG2.below bA
     refine wpAnyH_ready (rs := [17]) (by kernel_rfl) (by simp) ?_
     refine AllReadyH.cons rfl (fun K hK => ?_) AllReadyH.nil
     rw [if_pos (by rfl)]
     refine wp_append_own _ _ _ 135 rfl (w.heap.size + 1) 177 i0 (.agg #[.int .i64 0, .int .i64 0, .int .i64 0, .bool false]) 4 32 Tryz.underlying135 hi hz0 hz1 hz2 rfl (by decide) _ _ _ rfl hG3.1 ⟨_, 0, none⟩ 1 1 [.int .i64 (-1), .int .i64 (j : Int), .int .i64 (ptn d.ports j).net, .bool ((ptn d.ports j).dir == 1)] rfl rfl (lit_cells _ #[.int .i64 (-1), .int .i64 (j : Int), .int .i64 (ptn d.ports j).net, .bool ((ptn d.ports j).dir == 1)] _ _ rfl) (fun u hu => by simp at hu; rcases hu with rfl | rfl | rfl | rfl <;> rfl) (by have := HLM.out; unfold maxLen; omega) (by have := HLM.out; omega) (by simp; omega) ?_
     intro v' w2 hown' hgrow hnil
     refine hK.out _ _ (⟨cellM hHeld.1 hgrow (fun e => by have := (hblk _ e.symm).1; omega), cellM hHeld.2.1 hgrow (fun e => by have := (hblk _ e.symm).1; omega), cellM hHeld.2.2 hgrow (fun e => by have := (hblk _ e.symm).1; omega)⟩) (fun hHeld' => ?_)
     clear hK K hHeld
     have hHeld := hHeld'
     clear hHeld'
     (try simp only [actP])
     refine takeH 18 (v := ?_) rfl ?_ ?_; rotate_left; focus (intro w' hSw; (try dsimp only at hSw); go_simp; try (with_reducible rfl))
     (try simp only [actP])
     refine wpAnyH_done (by kernel_rfl) ?_ _
     have hg := hG3.snoc (f := mC (mpP d j)) hown' rfl
     rw [show (mpls d k ++ mplsP d j).map mC ++ [mC (mpP d j)] = (mpls d k ++ mplsP d (j + 1)).map mC by rw [mplsP_succ]; simp] at hg
     have hG4 := lh hg
     have q2 := cellM (cell_keep (cell_keep r2 bD) bA) hgrow (fun e => by have := (hblk _ e.symm).1; omega)
     have hb2 : Below w.heap.size w w2 := ((hbw.trans (bD.mono hbw.size)).trans (bA.mono (Nat.le_trans hbw.size bD.size))).grown hgrow (by have := bA.size; have := bD.size; omega) (fun q hq => by have := (hblk q hq).1; omega)
     clear hg hown' hgrow hnil hblk r2 y1 y2 hG3 hG2 hHeld bA bD
     go_wp2
     go_roundw
     case rel => exact ⟨j + 1, by omega, by go_num, hG4, q2, hb2⟩
     case measure => simp [intOf]; omega
    ·obtain rfl : j = c := by omega
     have hJ : ¬ (j : Int) < (j : Int) := by omega
     have hPM := lh (GR_PlM hG.out (by rw [List.length_append, mplsP_len]; omega))
     rw [show mpls d k ++ mplsP d j = mplaces d by rw [mplaces, ← NN.out, ← CC.out]] at hPM hG
     have hGM := lh (hG.out.low (base' := w.heap.size) (by omega))
     clear hG
     go_wp2
     go_ret
     exact ⟨_, rfl, hPM.out, hGM.out, hbw⟩
end Go.Proofs.YtkpfbnffhhmokaaGreat
