/-
IsMinimalBreak of the program and of the model.
-/
import Derived.Test.YtkpfbnffhhmokaaGreatRestI
namespace Go.Proofs.YtkpfbnffhhmokaaGreat
open Go.ChangeShapes Go.WideShapes Go.ChangeAt Go.RowKit Go.Deep
set_option linter.unusedVariables false
set_option linter.unusedSimpArgs false
set_option maxRecDepth 100000
def minB (z : BlkD) (bs : List Int) : Bool := if grCode z bs = 0 then (!loopB z bs && decide ((resF z [] bs).length = bs.length)) else false
theorem minB_yes {z : BlkD} {bs : List Int} (hg : grCode z bs = 0) (h0 : loopB z bs = false) (h : ∀ i, i < bs.length → loopB z (woI bs i) = true) : minB z bs = true := by
 unfold minB
 rw [if_pos hg, h0]
 have := (resF_full z bs []).2 (fun i hi => by simpa using h i hi)
 simpa using this
theorem minB_no {z : BlkD} {bs : List Int} {i : Nat} (hi : i < bs.length) (h : loopB z (woI bs i) = false) : minB z bs = false := by
 unfold minB
 split
 ·have hn : ¬ (resF z [] bs).length = bs.length := fun e => by
   have := (resF_full z bs []).1 (by simpa using e) i hi
   rw [List.nil_append, h] at this
   cases this
  simp [hn]
 ·rfl
theorem minB_loop {z : BlkD} {bs : List Int} (h : loopB z bs = true) : minB z bs = false := by
 unfold minB
 split
 ·rw [h]; rfl
 ·rfl
set_option maxHeartbeats 16000000 in
theorem implIsMinimalBreak_any (f : Nat → Value) (z : BlkD) (vb : Nat) (bs : List Int) (w : World) (h : BlkF w w.heap.size f z) (hv : IntS w w.heap.size (.slice (some ⟨vb, 0, none⟩) bs.length bs.length) bs) (hbl : bs.length ≤ 1048576) :
  Calls Tryz.prog 28 #[.agg #[f 0, f 1, f 2, f 3, f 4], .slice (some ⟨vb, 0, none⟩) bs.length bs.length] w fun e w' => e = .returned (.tuple #[.bool (minB z bs), .int .i64 (grCode z bs)]) ∧ Below w.heap.size w w' := by
 have HB := lh (fun (w1 : World) (hb : Below w.heap.size w w1) => implRestoreLinks_any f z vb bs w1 (h.up hb) (hv.up hb) hbl)
 obtain ⟨p0, q0, p1, q1, p2, q2, p3, q3, p4, q4, e0, e1, e2, e3, e4⟩ := h.five
 rw [e0, e1, e2, e3, e4] at HB
 rw [e0, e1, e2, e3, e4]
 clear e0 e1 e2 e3 e4 h hv
 unfold ListR at HB
 have hrl := resL_bd (z := z) hbl
 by_cases hg : grCode z bs = 0
 ·cases hlo : loopB z bs
  ·have XL := lh (show resL z bs = resF z [] bs by unfold resL; rw [if_pos hg, hlo, if_neg (by simp)])
   have XC := lh (show resC z bs = 0 by unfold resC; rw [if_pos hg, hlo, if_neg (by simp)])
   have XM := lh (show minB z bs = decide ((resL z bs).length = bs.length) by unfold minB; rw [if_pos hg, hlo, XL.out]; simp)
   obtain ⟨rl, hrl2⟩ : ∃ rl, rl = resL z bs := ⟨_, rfl⟩
   rw [← hrl2] at HB hrl XM
   rw [XC.out] at HB
   rw [hg, XM.out]
   clear hlo hg hrl2 XL XC XM
   by_cases hle : rl.length = bs.length
   ·have hz : ((rl.length : Nat) : Int) = ((bs.length : Nat) : Int) := by omega
    have hd : decide (rl.length = bs.length) = true := by simpa using hle
    rw [hd]
    clear hle hd
    go_enter Tryz.func28, Tryz.ntmps28
    go_wp2_with fail
    (go_at_call 26; refine (HB.out _ (by exact eX)).mono ?_; rintro e w1 ⟨u, rfl, hO, hb⟩)
    obtain ⟨ua, uc, rfl⟩ := hO.slice
    clear hO
    go_wp2
    go_ret2
    exact ⟨rfl, by exact eX⟩
   ·have hz : (((rl.length : Nat) : Int) == ((bs.length : Nat) : Int)) = false := by simp; omega
    have hd : decide (rl.length = bs.length) = false := by simpa using hle
    rw [hd]
    clear hd
    go_enter Tryz.func28, Tryz.ntmps28
    go_wp2_with fail
    (go_at_call 26; refine (HB.out _ (by exact eX)).mono ?_; rintro e w1 ⟨u, rfl, hO, hb⟩)
    obtain ⟨ua, uc, rfl⟩ := hO.slice
    clear hO
    go_wp2
    go_ret2
    exact ⟨rfl, by exact eX⟩
  ·have XC := lh (show resC z bs = 7 by unfold resC; rw [if_pos hg, hlo, if_pos rfl])
   have XM := lh (show minB z bs = false by unfold minB; rw [if_pos hg, hlo]; rfl)
   rw [XC.out] at HB
   rw [hg, XM.out]
   clear hlo hg
   go_enter Tryz.func28, Tryz.ntmps28
   go_wp2_with fail
   (go_at_call 26; refine (HB.out _ (by exact eX)).mono ?_; rintro e w1 ⟨u, rfl, hO, hb⟩)
   obtain ⟨ua, uc, rfl⟩ := hO.slice
   clear hO
   go_wp2
   go_ret2
   exact ⟨rfl, by exact eX⟩
 ·have XC := lh (show resC z bs = grCode z bs by simp [resC, hg])
  have XM := lh (show minB z bs = false by simp [minB, hg])
  have hc := grCode_cases z bs
  rw [XM.out]
  rw [XC.out] at HB
  obtain ⟨cd, hcd⟩ : ∃ cd, cd = grCode z bs := ⟨_, rfl⟩
  rw [← hcd] at HB hg hc ⊢
  have hne : (cd == 0) = false := by simpa using hg
  have hne7 : ¬ cd = 7 := by omega
  clear hcd hg hc XC XM
  go_enter Tryz.func28, Tryz.ntmps28
  go_wp2_with fail
  (go_at_call 26; refine (HB.out _ (by exact eX)).mono ?_; rintro e w1 ⟨u, rfl, hO, hb⟩)
  obtain ⟨ua, uc, rfl⟩ := hO.slice
  clear hO
  go_wp2
  go_ret2
  exact ⟨rfl, by exact eX⟩
set_option maxHeartbeats 16000000 in
theorem specIsMinimalBreak_any (f : Nat → Value) (z : BlkD) (vb : Nat) (bs : List Int) (w : World) (h : BlkF w w.heap.size f z) (hv : IntS w w.heap.size (.slice (some ⟨vb, 0, none⟩) bs.length bs.length) bs) (hbl : bs.length ≤ 1048576) :
  Calls Tryz.prog 27 #[.agg #[f 0, f 1, f 2, f 3, f 4], .slice (some ⟨vb, 0, none⟩) bs.length bs.length] w fun e w' => e = .returned (.tuple #[.bool (minB z bs), .int .i64 (grCode z bs)]) ∧ Below w.heap.size w w' := by
 have HG := lh (fun (w1 : World) (hb : Below w.heap.size w w1) => specGr_any f z _ bs w1 (h.up hb) (hv.up hb))
 have HC := lh (fun (hb : blkB z = true) (v : Value) (l : List Int) (w1 : World) (hb' : Below w.heap.size w w1) (h1 : IntS w1 w1.heap.size v l) => specHas_any f z v l w1 (h.up hb') h1 hb)
 have HV := lh (fun (w1 : World) (hb : Below w.heap.size w w1) => hv.up hb)
 obtain ⟨p0, q0, p1, q1, p2, q2, p3, q3, p4, q4, e0, e1, e2, e3, e4⟩ := h.five
 rw [e0, e1, e2, e3, e4] at HG HC
 rw [e0, e1, e2, e3, e4]
 clear e0 e1 e2 e3 e4 h hv
 by_cases hg : grCode z bs = 0
 ·have HC := lh (HC.out (grCode_valid hg))
  have HGC := lh hg
  rw [hg] at HG
  rw [hg]
  clear hg
  cases hlo : loopB z bs
  ·have XLO := lh hlo
   clear hlo
   obtain ⟨U, hU⟩ : ∃ U, U = w.alloc (Obj.cells #[.slice p0 z.lib.length q0, .slice p1 z.des.insts.length q1, .slice p2 z.des.nets.length q2, .slice p3 z.des.ports.length q3, .slice p4 z.wires.length q4] 46) := ⟨_, rfl⟩
   have x0 : U.cell? ⟨w.heap.size, 0, none⟩ = some (.slice p0 z.lib.length q0) := by rw [hU]; simp [go_sem]
   have x1 : U.cell? ⟨w.heap.size, 1, none⟩ = some (.slice p1 z.des.insts.length q1) := by rw [hU]; simp [go_sem]
   have x2 : U.cell? ⟨w.heap.size, 2, none⟩ = some (.slice p2 z.des.nets.length q2) := by rw [hU]; simp [go_sem]
   have x3 : U.cell? ⟨w.heap.size, 3, none⟩ = some (.slice p3 z.des.ports.length q3) := by rw [hU]; simp [go_sem]
   have x4 : U.cell? ⟨w.heap.size, 4, none⟩ = some (.slice p4 z.wires.length q4) := by rw [hU]; simp [go_sem]
   have bU : Below w.heap.size w U := by rw [hU]; exact (Below.refl _ _).alloc (Nat.le_refl _) _
   have sU : w.heap.size < U.heap.size := cell_lt x0
   have HU := lh hU
   clear hU
   go_enter Tryz.func27, Tryz.ntmps27
   go_wp2_with fail
   rw [← HU.out]
   go_wp2_with fail
   (go_at_call 46; refine (HG.out _ bU).mono ?_; rintro e w1 ⟨rfl, hb1⟩)
   have B1 := bU.trans (hb1.mono bU.size)
   have y0 := cell_keep x0 hb1; have y1 := cell_keep x1 hb1; have y2 := cell_keep x2 hb1; have y3 := cell_keep x3 hb1; have y4 := cell_keep x4 hb1
   have sU1 := hb1.size
   clear x0 x1 x2 x3 x4 hb1
   go_wp2_with fail
   (go_at_call 53; refine (HC.out _ bs _ B1 (HV.out _ B1)).mono ?_; rintro e w2 ⟨rfl, hb2⟩)
   have B2 := B1.trans (hb2.mono B1.size)
   have x0 := cell_keep y0 hb2; have x1 := cell_keep y1 hb2; have x2 := cell_keep y2 hb2; have x3 := cell_keep y3 hb2; have x4 := cell_keep y4 hb2
   have sU2 := Nat.lt_of_lt_of_le sU (Nat.le_trans sU1 hb2.size)
   clear y0 y1 y2 y3 y4 hb2 B1 sU1
   rw [XLO.out]
   have s2 := B2.size
   obtain ⟨n, hn⟩ : ∃ n, n = bs.length := ⟨_, rfl⟩
   have HWO := lh (fun (k : Nat) (hk : k < n) (w1 : World) (hb : Below w.heap.size w w1) => specWithout_any vb bs.length k bs w1 (HV.out w1 hb) (by omega) (Nat.le_refl _) hbl)
   rw [← hn] at HWO hbl ⊢
   have HN := lh hn
   clear hn bU HU sU HV
   go_wp2_with fail
   go_loopw [7, 8] (fun r i wr => ∃ (m : Bool) (k : Nat), r = .bool m ∧ k ≤ n ∧ i = .int .i64 k ∧ Hid (m = true → ∀ j, j < k → loopB z (woI bs j) = true) ∧ Hid (m = false → minB z bs = false) ∧ Below w2.heap.size w2 wr) (fun _ i _ => n - (intOf i).toNat)
   case atStart => exact ⟨true, 0, rfl, by omega, rfl, lh (fun _ j hj => absurd hj (by omega)), lh (fun q => by cases q), Below.refl _ _⟩
   case round =>
    obtain ⟨m, k, rfl, hk, rfl, hA, hB, hBr⟩ := hrel
    have Br := B2.trans (hBr.mono s2)
    cases m
    ·have XM := lh (hB.out rfl)
     by_cases hkn : (k : Int) < (n : Int)
     ·go_wp2
      go_ret2
      exact ⟨by rw [XM.out]; rfl, Br⟩
     ·go_wp2
      go_ret2
      exact ⟨by rw [XM.out]; rfl, Br⟩
    ·by_cases hkn : k < n
     ·have hkn2 : (k : Int) < (n : Int) := by omega
      have hkw : IntKind.i64.wrap ((k : Int) + 1) = (k : Int) + 1 := IntWalk.i64_in _ (by omega)
      have z0 := cell_keep x0 hBr; have z1 := cell_keep x1 hBr; have z2 := cell_keep x2 hBr; have z3 := cell_keep x3 hBr; have z4 := cell_keep x4 hBr
      have sr := hBr.size
      go_upto_region 8 with fail
      refine wp_region_held_drew (S := (fun w' => w'.cell? ⟨w.heap.size, 0, none⟩ = some (.slice p0 z.lib.length q0) ∧ w'.cell? ⟨w.heap.size, 1, none⟩ = some (.slice p1 z.des.insts.length q1) ∧ w'.cell? ⟨w.heap.size, 2, none⟩ = some (.slice p2 z.des.nets.length q2) ∧ w'.cell? ⟨w.heap.size, 3, none⟩ = some (.slice p3 z.des.ports.length q3) ∧ w'.cell? ⟨w.heap.size, 4, none⟩ = some (.slice p4 z.wires.length q4) ∧ Below wr.heap.size wr w')) (by kernel_rfl) ?_ (fun hHeld => ?_)
      ·(try dsimp only); exact ⟨z0, z1, z2, z3, z4, eX⟩
      (try dsimp only at hHeld)
      refine takeH 0 (v := ?_) rfl ?_ ?_; rotate_left; focus (intro w' hSw; (try dsimp only at hSw); go_simp; try (with_reducible rfl))
      (try simp only [actP])
      refine takeH 1 (v := ?_) rfl ?_ ?_; rotate_left; focus (intro w' hSw; (try dsimp only at hSw); go_simp; try (with_reducible rfl))
      (try simp only [actP])
      refine takeH 2 (v := ?_) rfl ?_ ?_; rotate_left; focus (intro w' hSw; (try dsimp only at hSw); go_simp; try (with_reducible rfl))
      (try simp only [actP])
      have hz := hHeld.2.2.2.2.2
      have Bz := Br.trans (hz.mono Br.size)
      have HW1 := lh (HWO.out k hkn _ Bz)
      refine wpAnyH_ready (rs := [3]) (by kernel_rfl) (by simp) ?_
      refine AllReadyH.cons rfl (fun K hK => ?_) AllReadyH.nil
      go_simp
      (go_at_call 55; refine HW1.out.mono ?_; rintro e w3 ⟨v3, rfl, hg3, hb3⟩)
      refine hK.out _ _ (⟨cell_keep hHeld.1 hb3, cell_keep hHeld.2.1 hb3, cell_keep hHeld.2.2.1 hb3, cell_keep hHeld.2.2.2.1 hb3, cell_keep hHeld.2.2.2.2.1 hb3, eT hHeld.2.2.2.2.2 hb3⟩) (fun hHeld' => ?_)
      clear hK K hHeld
      have hHeld := hHeld'
      clear hHeld'
      (try simp only [actP])
      have B3 := Bz.trans (hb3.mono Bz.size)
      have hwl : (woI bs k).length ≤ 1048576 := by unfold woI; rw [List.length_append, List.length_take, List.length_drop, ← HN.out]; omega
      have HA := lh (HC.out v3 (woI bs k) w3 B3 (GI.own hg3 (by omega)).ints)
      obtain ⟨lb, hlb⟩ : ∃ q, q = loopB z (woI bs k) := ⟨_, rfl⟩
      rw [← hlb] at HA
      have HLB := lh hlb
      obtain ⟨a3, c3, rfl⟩ := own_slice (show w3.ownsRow _ _ _ _ _ _ from hg3)
      clear hlb hg3 hb3 HW1 hz Bz
      refine wpAnyH_ready (rs := [4]) (by kernel_rfl) (by simp) ?_
      refine AllReadyH.cons rfl (fun K hK => ?_) AllReadyH.nil
      go_simp
      (go_at_call 53; refine HA.out.mono ?_; rintro e w4 ⟨rfl, hb4⟩)
      refine hK.out _ _ (⟨cell_keep hHeld.1 hb4, cell_keep hHeld.2.1 hb4, cell_keep hHeld.2.2.1 hb4, cell_keep hHeld.2.2.2.1 hb4, cell_keep hHeld.2.2.2.2.1 hb4, eT hHeld.2.2.2.2.2 hb4⟩) (fun hHeld' => ?_)
      clear hK K hHeld
      have hHeld := hHeld'
      clear hHeld'
      (try simp only [actP])
      refine takeH 5 (v := ?_) rfl ?_ ?_; rotate_left; focus (intro w' hSw; (try dsimp only at hSw); go_simp; try (with_reducible rfl))
      (try simp only [actP])
      refine wpAnyH_done (by kernel_rfl) ?_ _
      have b9 := hBr.trans (hHeld.2.2.2.2.2.mono sr)
      have A9 := lh (show lb = true → ∀ j, j < k + 1 → loopB z (woI bs j) = true from fun q j hj => by
       by_cases e : j = k
       ·rw [e, ← HLB.out, q]
       ·exact hA.out rfl j (by omega))
      have M9 := lh (show lb = false → minB z bs = false from fun q => minB_no (i := k) (by rw [← HN.out]; exact hkn) (by rw [← HLB.out, q]))
      clear hHeld HA hb4 B3 hA hB
      go_wp2
      go_roundw
      case rel => exact ⟨lb, k + 1, rfl, by omega, by go_num, A9, M9, b9⟩
      case measure => simp [intOf] <;> omega
     ·have e : k = n := by omega
      subst e
      have hI2 : ¬ (k : Int) < (k : Int) := by omega
      have XM := lh (show minB z bs = true from minB_yes HGC.out XLO.out (by have := hA.out rfl; rw [HN.out] at this; exact this))
      go_wp2
      go_ret2
      exact ⟨by rw [XM.out]; rfl, Br⟩
  ·have XM := lh (minB_loop hlo)
   have XLO := lh hlo
   clear hlo
   rw [XM.out]
   go_enter Tryz.func27, Tryz.ntmps27
   go_wp2_with fail
   (go_at_call 46; refine (HG.out _ eX).mono ?_; rintro e w1 ⟨rfl, hb⟩; have ⟨hc, hf⟩ := bcell hb; have hz := hb.size; (try simp at hz); (try have hz := Nat.lt_of_succ_le hz); (try have y0 := wy w w1); (try have z0 := wz0 w w1); (try have z1 := wz1 w w1); (try have z2 := wz2 w w1); (try have z3 := wz3 w w1); (try have z4 := wz4 w w1))
   have B1 : Below w.heap.size w w1 := by exact eX
   go_wp2_with fail
   (go_at_call 53; refine (HC.out _ bs _ B1 (HV.out _ B1)).mono ?_; rintro e w2 ⟨rfl, hb⟩; have ⟨hc, hf⟩ := bcell hb; have hz := hb.size; (try simp at hz); (try have hz := Nat.lt_of_succ_le hz); (try have y0 := wy w w2); (try have z0 := wz0 w w2); (try have z1 := wz1 w w2); (try have z2 := wz2 w w2); (try have z3 := wz3 w w2); (try have z4 := wz4 w w2))
   have B2 : Below w.heap.size w w2 := by exact eX
   rw [XLO.out]
   go_wp2_with fail
   go_loopw [7, 8] (fun r i wr => r = .bool false ∧ i = .int .i64 0 ∧ wr = w2) (fun _ _ _ => 0)
   case atStart => exact ⟨rfl, rfl, rfl⟩
   case round =>
    obtain ⟨rfl, rfl, rfl⟩ := hrel
    by_cases hkn : (0 : Int) < ((bs.length : Nat) : Int)
    ·go_wp2
     go_ret2
     exact ⟨rfl, B2⟩
    ·go_wp2
     go_ret2
     exact ⟨rfl, B2⟩
 ·have XM := lh (show minB z bs = false by simp [minB, hg])
  rw [XM.out]
  obtain ⟨cd, hcd⟩ : ∃ cd, cd = grCode z bs := ⟨_, rfl⟩
  rw [← hcd] at HG hg ⊢
  have hne : (cd != 0) = true := by simpa using hg
  have hne2 : (cd == 0) = false := by simpa using hg
  clear hcd hg HC
  go_enter Tryz.func27, Tryz.ntmps27
  go_wp2_with fail
  (go_at_call 46; refine (HG.out _ eX).mono ?_; rintro e w1 ⟨rfl, hb⟩; have ⟨hc, hf⟩ := bcell hb; have hz := hb.size; (try simp at hz); (try have hz := Nat.lt_of_succ_le hz); (try have y0 := wy w w1); (try have z0 := wz0 w w1); (try have z1 := wz1 w w1); (try have z2 := wz2 w w1); (try have z3 := wz3 w w1); (try have z4 := wz4 w w1))
  have B1 : Below w.heap.size w w1 := by exact eX
  go_wp2
  go_ret2
  exact ⟨rfl, by exact eX⟩
end Go.Proofs.YtkpfbnffhhmokaaGreat
