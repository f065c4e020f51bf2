/-
Contracts of copies of lists of integers (program and model), for lists that are not empty.
-/
import Derived.Test.YtkpfbnffhhmokaaGreatTabL
import Derived.WalkSpells
import Derived.Test.YtkpfbnffhhmokaaGreatNetL
import Derived.Test.YtkpfbnffhhmokaaGreatNetS
import Derived.BigQuiet
namespace Go.Proofs.YtkpfbnffhhmokaaGreat
open Go.ChangeShapes Go.WideShapes Go.ChangeAt Go.RowKit
set_option linter.unusedVariables false
def icells (xs : List Int) : List Value := xs.map (Value.int .i64)
theorem icells_get {xs : List Int} {j : Nat} (h : j < xs.length) : (icells xs)[j]? = some (.int .i64 (iv xs j)) := by
 simp [icells, iv, List.getD, h]
theorem row_own {w : World} {base : Nat} {e : TypeId} {v : Value} {n : Nat} {xs : List Int} (h : w.ownsRow base e 1 v n (icells xs)) (hm : n ≤ 9223372036854775807) : OwnS w base v xs := by
 have hl : n = xs.length := by have := h.1; simp [icells] at this; omega
 subst hl
 rcases h.2 with ⟨rfl, h0⟩ | ⟨g, cap, cur, rfl, hb, hg, _⟩
 ·rw [nil_of h0]; exact own_empty _ _ _ _
 ·refine ⟨hm, _, cap, rfl, fun hp => ⟨g, rfl, hb, ?_, fun i hi => ?_⟩⟩
  ·have hc := h.cellAt 0 (by omega)
   rw [icells_get hp] at hc
   exact cell_lt hc
  ·refine ⟨?_, h.frozenAt i⟩
   have hc := h.cellAt i (by omega)
   rw [icells_get hi] at hc
   simpa using hc
end Go.Proofs.YtkpfbnffhhmokaaGreat
namespace Go.Proofs.YtkpfbnffhhmokaaGreat
open Go.ChangeShapes Go.WideShapes Go.ChangeAt Go.RowKit Go.Deep
set_option linter.unusedVariables false
set_option linter.unusedSimpArgs false
set_option maxRecDepth 100000
theorem PlM.strip {w : World} {B : Nat} {v : Value} {P : List PlD} (h : PlM w B v (P.map strip)) : PlM w B v P := by
 obtain ⟨F, h0, h1⟩ := h
 rw [List.length_map] at h0 h1
 refine ⟨F, h0, fun i hi => ?_⟩
 have := h1 i hi
 rw [pll_strip] at this
 exact this
theorem desG {ts : List CellD} {d : DesD} (h : desB ts d = true) : libB ts = true ∧ sizesB d = true ∧ hasNm d = true ∧ connB ts d = true ∧ drvB ts d = true := by
 simp only [desB, Bool.and_eq_true] at h
 exact ⟨h.1.1.1.1, h.1.1.1.2, h.1.1.2, h.1.2, h.2⟩
theorem nets5 {ts : List CellD} {d : DesD} (h : desB ts d = true) : ∀ i, i < d.insts.length → (inn d.insts i).nets.length ≤ 5 := fun i hi => by
 obtain ⟨a, b, c, _⟩ := conn_inst (desG h).2.2.2.1 hi
 rw [c]
 exact (pins_get (cell_get (lib_cell (desG h).1 a b)).1).2.1
theorem placesM {ts : List CellD} {d : DesD} (h : desB ts d = true) : (places ts d).length ≤ 100 := by
 have e := mplaces_is (desG h).1 (desG h).2.2.2.1
 have e2 : (places ts d).length = (mplaces d).length := by rw [e, List.length_map]
 have hs := (desG h).2.1
 simp only [sizesB, Bool.and_eq_true, decide_eq_true_eq] at hs
 have := mpls_len (nets5 h) d.insts.length (Nat.le_refl _)
 rw [e2, mplaces, List.length_append, mplsP_len]
 omega
def PlacesV (ts : List CellD) (d : DesD) (w : World) (e : Ending) (w' : World) : Prop := ∃ a cap, e = .returned (.slice a (places ts d).length cap) ∧ PlM w' w'.heap.size (.slice a (places ts d).length cap) (places ts d) ∧ GR w' w.heap.size 177 4 (.slice a (places ts d).length cap) (((places ts d).map strip).map mC) ∧ Below w.heap.size w w'
theorem specPlacesV_any (f : Nat → Value) (ts : List CellD) (d : DesD) (w : World) (h : DesF w w.heap.size f d) (hd : desB ts d = true) : Calls Tryz.prog 88 #[.agg #[f 0, f 1, f 2]] w (PlacesV ts d w) := by
 refine (specPlaces_any f d w h (desG hd).2.1 (nets5 hd)).mono ?_
 rintro e w' ⟨v, rfl, hP, hG, hb⟩
 rw [mplaces_is (desG hd).1 (desG hd).2.2.2.1] at hP hG
 have hP := hP.strip
 obtain ⟨a, cap, rfl⟩ := hP.slice
 exact ⟨a, cap, rfl, hP, hG, hb⟩
set_option maxHeartbeats 4000000 in
theorem specFind_any (f : Nat → Value) (ts : List CellD) (d : DesD) (x y : Int) (w : World) (h : DesF w w.heap.size f d) (hd : desB ts d = true) :
  Calls Tryz.prog 84 #[.agg #[f 0, f 1, f 2], .int .i64 x, .int .i64 y] w fun e w' => e = .returned (.int .i64 (ix (fun i => ((pll (places ts d) i).inst == x && (pll (places ts d) i).pin == y)) (places ts d).length)) ∧ Below w.heap.size w w' := by
 have C := lh (fun (w1 : World) (hb : Below w.heap.size w w1) => specPlacesV_any f ts d w1 (h.up hb) hd)
 obtain ⟨a0, c0, e0⟩ := h.1.slice; obtain ⟨a1, c1, e1⟩ := h.2.1.slice; obtain ⟨a2, c2, e2⟩ := h.2.2.slice
 rw [e0, e1, e2] at C ⊢
 have hln := placesM hd
 unfold PlacesV at C
 generalize places ts d = P at C hln ⊢
 clear h e0 e1 e2 hd
 go_enter Tryz.func84, Tryz.ntmps84
 go_wp2_with fail
 go_at_call 88
 refine (C.out _ eX).mono ?_
 rintro e w1 ⟨a, cap, rfl, hP, hGP, hb⟩
 have HP := lh hP
 have BW : Below w.heap.size w w1 := eX
 clear hP hGP
 obtain ⟨n, hnn⟩ : ∃ n, n = P.length := ⟨_, rfl⟩
 rw [← hnn] at hln HP ⊢
 have NN := lh hnn
 clear hnn
 go_wp2
 go_loop [8] (fun i => ∃ k : Nat, k ≤ n ∧ i = .int .i64 k ∧ Hid (∀ j, j < k → ((pll P j).inst == x && (pll P j).pin == y) = false)) (fun i => n - (intOf i).toNat)
 case atStart => exact ⟨0, by omega, rfl, lh (fun j hj => absurd hj (Nat.not_lt_zero j))⟩
 case round =>
  obtain ⟨k, hk, rfl, hall⟩ := hrel
  by_cases hkn : k < n
  ·obtain ⟨b, off, rfl, hlt, y0, y1, y2, y3⟩ := HP.out.at (Below.refl _ _) (show k < P.length by have := NN.out; omega)
   have hI : (k : Int) < (n : Int) := by omega
   have i0 : (0 : Int) ≤ (k : Int) := by omega
   cases d1 : ((pll P k).inst == x)
   ·have hok := lh (all_more (p := fun j => ((pll P j).inst == x && (pll P j).pin == y) = false) hall.out (by rw [d1]; rfl))
    go_wp2
    go_round
    case rel => exact ⟨k + 1, by omega, by go_num, hok⟩
    case measure => simp [intOf]; omega
   ·cases d2 : ((pll P k).pin == y)
    ·have hok := lh (all_more (p := fun j => ((pll P j).inst == x && (pll P j).pin == y) = false) hall.out (by rw [d2, Bool.and_false]))
     go_wp2
     go_round
     case rel => exact ⟨k + 1, by omega, by go_num, hok⟩
     case measure => simp [intOf]; omega
    ·have hok := lh (ix_at (q := fun i => ((pll P i).inst == x && (pll P i).pin == y)) hkn (by rw [d1, d2]; rfl) hall.out)
     go_wp2
     rw [← NN.out, hok.out]
     go_ret
     exact ⟨rfl, BW⟩
  ·obtain rfl : k = n := by omega
   have hok := lh (ix_none (q := fun i => ((pll P i).inst == x && (pll P i).pin == y)) hall.out)
   have hI : ¬ (k : Int) < (k : Int) := by omega
   go_wp2
   rw [← NN.out, hok.out]
   go_ret
   exact ⟨rfl, BW⟩
set_option maxHeartbeats 4000000 in
theorem specDriver_any (f : Nat → Value) (ts : List CellD) (d : DesD) (x : Int) (w : World) (h : DesF w w.heap.size f d) (hd : desB ts d = true) :
  Calls Tryz.prog 85 #[.agg #[f 0, f 1, f 2], .int .i64 x] w fun e w' => e = .returned (.int .i64 (ix (fun i => ((pll (places ts d) i).net == x && (pll (places ts d) i).drv)) (places ts d).length)) ∧ Below w.heap.size w w' := by
 have C := lh (fun (w1 : World) (hb : Below w.heap.size w w1) => specPlacesV_any f ts d w1 (h.up hb) hd)
 obtain ⟨a0, c0, e0⟩ := h.1.slice; obtain ⟨a1, c1, e1⟩ := h.2.1.slice; obtain ⟨a2, c2, e2⟩ := h.2.2.slice
 rw [e0, e1, e2] at C ⊢
 have hln := placesM hd
 unfold PlacesV at C
 generalize places ts d = P at C hln ⊢
 clear h e0 e1 e2 hd
 go_enter Tryz.func85, Tryz.ntmps85
 go_wp2_with fail
 go_at_call 88
 refine (C.out _ eX).mono ?_
 rintro e w1 ⟨a, cap, rfl, hP, hGP, hb⟩
 have HP := lh hP
 have BW : Below w.heap.size w w1 := eX
 clear hP hGP
 obtain ⟨n, hnn⟩ : ∃ n, n = P.length := ⟨_, rfl⟩
 rw [← hnn] at hln HP ⊢
 have NN := lh hnn
 clear hnn
 go_wp2
 go_loop [6] (fun i => ∃ k : Nat, k ≤ n ∧ i = .int .i64 k ∧ Hid (∀ j, j < k → ((pll P j).net == x && (pll P j).drv) = false)) (fun i => n - (intOf i).toNat)
 case atStart => exact ⟨0, by omega, rfl, lh (fun j hj => absurd hj (Nat.not_lt_zero j))⟩
 case round =>
  obtain ⟨k, hk, rfl, hall⟩ := hrel
  by_cases hkn : k < n
  ·obtain ⟨b, off, rfl, hlt, y0, y1, y2, y3⟩ := HP.out.at (Below.refl _ _) (show k < P.length by have := NN.out; omega)
   have hI : (k : Int) < (n : Int) := by omega
   have i0 : (0 : Int) ≤ (k : Int) := by omega
   cases d1 : ((pll P k).net == x)
   ·have hok := lh (all_more (p := fun j => ((pll P j).net == x && (pll P j).drv) = false) hall.out (by rw [d1]; rfl))
    go_wp2
    go_round
    case rel => exact ⟨k + 1, by omega, by go_num, hok⟩
    case measure => simp [intOf]; omega
   ·cases d2 : (pll P k).drv
    ·have hok := lh (all_more (p := fun j => ((pll P j).net == x && (pll P j).drv) = false) hall.out (by rw [d2, Bool.and_false]))
     rw [d2] at y3
     go_wp2
     go_round
     case rel => exact ⟨k + 1, by omega, by go_num, hok⟩
     case measure => simp [intOf]; omega
    ·have hok := lh (ix_at (q := fun i => ((pll P i).net == x && (pll P i).drv)) hkn (by rw [d1, d2]; rfl) hall.out)
     rw [d2] at y3
     go_wp2
     rw [← NN.out, hok.out]
     go_ret
     exact ⟨rfl, BW⟩
  ·obtain rfl : k = n := by omega
   have hok := lh (ix_none (q := fun i => ((pll P i).net == x && (pll P i).drv)) hall.out)
   have hI : ¬ (k : Int) < (k : Int) := by omega
   go_wp2
   rw [← NN.out, hok.out]
   go_ret
   exact ⟨rfl, BW⟩
def notB (P : List PlD) (x : Int) (k : Nat) : List Int := ((List.range k).filter (fun i => atEnd x false (pll P i))).map (fun i : Nat => (i : Int))
theorem notB_succ (P : List PlD) (x : Int) (k : Nat) : notB P x (k + 1) = if atEnd x false (pll P k) then notB P x k ++ [(k : Int)] else notB P x k := by
 unfold notB
 rw [List.range_succ, List.filter_append]
 by_cases e : atEnd x false (pll P k) = true
 ·simp [e]
 ·simp [e]
theorem notB_end (P : List PlD) (x : Int) : notB P x P.length = endsL P x false := rfl
theorem notB_len (P : List PlD) (x : Int) (k : Nat) : (notB P x k).length ≤ k := by
 unfold notB
 rw [List.length_map]
 exact Nat.le_trans (List.length_filter_le _ _) (by simp)
def intC (z : Int) : List Value := [.int .i64 z]
theorem GR_own {w : World} {base : Nat} {t : TypeId} {v : Value} {zs : List Int} (h : GR w base t 1 v (zs.map intC)) (hl : zs.length ≤ 1048576) : OwnS w base v zs := by
 have e : ∀ ys : List Int, (ys.map intC).flatten = icells ys := by
  intro ys
  induction ys with
  | nil => rfl
  | cons a r ih =>
   rw [List.map_cons, List.flatten_cons, ih]
   rfl
 have h1 := h.1
 rw [e zs, List.length_map] at h1
 exact row_own h1 (by omega)
set_option maxHeartbeats 8000000 in
theorem specSinks_any (f : Nat → Value) (ts : List CellD) (d : DesD) (x : Int) (w : World) (h : DesF w w.heap.size f d) (hd : desB ts d = true) :
  Calls Tryz.prog 86 #[.agg #[f 0, f 1, f 2], .int .i64 x] w fun e w' => ∃ u, e = .returned u ∧ OwnS w' w.heap.size u (endsL (places ts d) x false) ∧ Below w.heap.size w w' := by
 obtain ⟨i0, hi, hz0, hz1, hz2⟩ := info_parts Tryz.infoInt5
 have C := lh (fun (w1 : World) (hb : Below w.heap.size w w1) => specPlacesV_any f ts d w1 (h.up hb) hd)
 obtain ⟨a0, c0, e0⟩ := h.1.slice; obtain ⟨a1, c1, e1⟩ := h.2.1.slice; obtain ⟨a2, c2, e2⟩ := h.2.2.slice
 rw [e0, e1, e2] at C ⊢
 have hln := placesM hd
 unfold PlacesV at C
 generalize places ts d = P at C hln ⊢
 clear h e0 e1 e2 hd
 go_enter Tryz.func86, Tryz.ntmps86
 go_wp2_with fail
 go_at_call 88
 refine (C.out _ eX).mono ?_
 rintro e w1 ⟨a, cap, rfl, hP, hGP, hb⟩
 have HP := lh hP
 have BW : Below w.heap.size w w1 := eX
 have hsz := hb.size
 have G0 : Hid (GR w1 (w.heap.size + 1) 2 1 (.slice (some ⟨w.heap.size + 1, 0, none⟩) 0 0) ((notB P x 0).map intC)) := lh ((GR.zero (w.alloc (Obj.cells #[.slice a0 d.insts.length c0, .slice a1 d.nets.length c1, .slice a2 d.ports.length c2] 43)) (by simp [notB]) (by simp) (by simp)).below hb)
 clear hP
 obtain ⟨n, hnn⟩ : ∃ n, n = P.length := ⟨_, rfl⟩
 rw [← hnn] at hln hGP ⊢
 have NN := lh hnn
 have HGP := lh (hGP.low (base' := w.heap.size) (by simp; omega))
 have LW : w.heap.size + 1 ≤ w1.heap.size := by simp at hsz; omega
 have BX := lh BW
 clear hnn hb hsz BW HP hGP
 go_wp2
 obtain ⟨wo, hwo⟩ : ∃ wo : World, wo = w1 := ⟨_, rfl⟩
 subst hwo
 go_loopw [5, 7] (fun v i wr => ∃ k : Nat, k ≤ n ∧ i = .int .i64 k ∧ Hid (GR wr (w.heap.size + 1) 2 1 v ((notB P x k).map intC)) ∧ Hid (GR wr w.heap.size 177 4 (.slice a n cap) ((P.map strip).map mC)) ∧ w.heap.size + 1 ≤ wr.heap.size ∧ Below w.heap.size w wr) (fun _ i _ => n - (intOf i).toNat)
 case atStart => exact ⟨0, by omega, rfl, G0, HGP, LW, BX.out⟩
 case round =>
  clear G0 HGP LW BX
  obtain ⟨k, hk, rfl, hG, hP, hL, hbw⟩ := hrel
  have hblk := hG.out.blk
  have hPM := (GR_PlM hP.out (by rw [List.length_map]; have := NN.out; omega)).strip
  by_cases hkn : k < n
  ·obtain ⟨b, off, e9, hlt, y0, y1, y2, y3⟩ := hPM.at (Below.refl _ _) (show k < P.length by have := NN.out; omega)
   have hI : (k : Int) < (n : Int) := by omega
   have i00 : (0 : Int) ≤ (k : Int) := by omega
   clear hPM
   subst e9
   by_cases hat : atEnd x false (pll P k) = true
   ·have hd1 : ((pll P k).net == x) = true := by simp only [atEnd, Bool.and_eq_true] at hat; exact hat.1
    have hd2 : (pll P k).drv = false := by simp only [atEnd, Bool.and_eq_true, beq_iff_eq] at hat; exact hat.2
    have hnx := lh (show notB P x (k + 1) = notB P x k ++ [(k : Int)] by rw [notB_succ, if_pos hat])
    rw [hd2] at y3
    have hlm : ((notB P x k).map intC).length ≤ 100 := by rw [List.length_map]; have := notB_len P x k; omega
    have HLM := lh hlm
    have bA : Below wr.heap.size wr (wr.alloc (Obj.cells #[.int .i64 (k : Int)] 2)) := (Below.refl _ _).alloc (Nat.le_refl _) _
    have HA := lh bA
    clear hlm bA hat hd2
    go_wp2_with (at_builtin; refine wpList_append_own _ rfl _ _ 33 rfl (w.heap.size + 1) 2 i0 (.int .i64 0) 1 8 Tryz.underlying33 hi hz0 hz1 hz2 rfl (by decide) _ _ _ rfl (hG.out.below HA.out).1 ⟨wr.heap.size, 0, none⟩ 1 1 [.int .i64 (k : Int)] rfl rfl (one_cellG2 _ _ _ _ rfl) (fun u hu => by simp at hu; subst hu; rfl) (by have := HLM.out; unfold maxLen; omega) (by have := HLM.out; omega) (by simp; omega) ?_; intro v' w2 hown' hgrow hnil)
    have hg := (hG.out.below HA.out).snoc (f := intC (k : Int)) hown' rfl
    rw [show (notB P x k).map intC ++ [intC (k : Int)] = (notB P x (k + 1)).map intC by rw [hnx.out, List.map_append]; rfl] at hg
    have hG2 := lh hg
    have hP2 := lh (show GR w2 w.heap.size 177 4 (.slice (some ⟨b, off, none⟩) n cap) ((P.map strip).map mC) from ⟨own_grownT (hP.out.below HA.out).1 hgrow (own_rowT (hG.out.below HA.out).1) (by decide), hP.out.2⟩)
    have hL2 : w.heap.size + 1 ≤ w2.heap.size := by have := hgrow.size; simp at this; omega
    have hb2 : Below w.heap.size w w2 := (hbw.trans (HA.out.mono (by omega))).grown hgrow (by simp; omega) (fun q hq => by have := (hblk q hq).1; omega)
    clear hg hown' hgrow hnil hblk y0 y1 y2 y3
    go_wp2
    go_roundw
    case rel => exact ⟨k + 1, by omega, by go_num, hG2, hP2, hL2, hb2⟩
    case measure => simp [intOf]; omega
   ·have hnx : notB P x (k + 1) = notB P x k := by rw [notB_succ, if_neg hat]
    rw [← hnx] at hG
    cases d1 : ((pll P k).net == x)
    ·clear hnx hat
     go_wp2
     go_roundw
     case rel => exact ⟨k + 1, by omega, by go_num, hG, hP, hL, hbw⟩
     case measure => simp [intOf]; omega
    ·have d2 : (pll P k).drv = true := by
      cases e : (pll P k).drv
      ·exact absurd (by simp only [atEnd, d1, e]; rfl) hat
      ·rfl
     rw [d2] at y3
     clear hnx hat
     go_wp2
     go_roundw
     case rel => exact ⟨k + 1, by omega, by go_num, hG, hP, hL, hbw⟩
     case measure => simp [intOf]; omega
  ·obtain rfl : k = n := by omega
   have hI : ¬ (k : Int) < (k : Int) := by omega
   have hO := lh ((GR_own hG.out (by have := notB_len P x k; omega)).mono (show w.heap.size ≤ w.heap.size + 1 by omega))
   rw [NN.out, notB_end] at hO
   clear hG hP hPM
   go_wp2
   go_ret
   exact ⟨_, rfl, hO.out, hbw⟩
end Go.Proofs.YtkpfbnffhhmokaaGreat
