/-
The nodes that live links reach, forward and back, in the model.
-/
import Derived.Test.YtkpfbnffhhmokaaGreatLive
import Derived.Test.YtkpfbnffhhmokaaGreatLinkF
namespace Go.Proofs.YtkpfbnffhhmokaaGreat
open Go.ChangeShapes Go.WideShapes Go.ChangeAt Go.RowKit Go.Deep
set_option linter.unusedVariables false
set_option linter.unusedSimpArgs false
set_option maxRecDepth 100000
set_option maxHeartbeats 16000000 in
theorem reach_true (n x : Nat) (vl vv : Value) (L : List LkD) (lv : List Bool) (w : World) (hL : LkS w w.heap.size vl L) (hv : BoolS w w.heap.size vv lv) (hlv : lv.length = L.length) (hl : L.length ≤ 7000) (hn : n ≤ 100000) (hx : x < n)
  (hE : ∀ k, k < L.length → 0 ≤ (lkn L k).src ∧ (lkn L k).src < n ∧ 0 ≤ (lkn L k).dst ∧ (lkn L k).dst < n) :
  Calls Tryz.prog 64 #[.int .i64 (n : Int), vl, vv, .int .i64 (x : Int), .bool true] w (BoolR w (rchL L (fun k => bvl lv k) true x n)) := by
 obtain ⟨ti, hi, hz0, hz1, hz2⟩ := info_parts Tryz.infoB
 obtain ⟨pa', ca, rfl⟩ := hL.slice
 obtain ⟨pb, cb, rfl⟩ := hv.slice
 have HL := lh hL
 have HV := lh hv
 have HE := lh hE
 obtain ⟨m, hm⟩ : ∃ m, m = L.length := ⟨_, rfl⟩
 rw [hlv] at HV ⊢
 rw [← hm] at HL HV hl ⊢
 have HM := lh hm
 have HLV := lh hlv
 have hxi : (x : Int) < (n : Int) := by omega
 have hx0 : (0 : Int) ≤ (x : Int) := by omega
 clear hm hE hL hv hlv
 go_enter Tryz.func64, Tryz.ntmps64
 go_wp2_with (at_make; refine wpList_make_full _ rfl _ _ 84 rfl w.heap.size 4 ti (.bool false) 1 Tryz.underlying84 hi hz0 hz1 .i64 .i64 _ _ n rfl rfl rfl rfl (by rw [hz2]; omega) (by unfold maxLen; omega) (Nat.le_refl _) ?_; intro w1 hown0 hgrow0; have B1 := below_grown hgrow0; have R0 := BRow.made hown0; clear hgrow0 hown0; have c0 := (R0.2 x hx).2; have f0 := (R0.2 x hx).1; have R1 := lh (R0.store hx); clear R0)
 have BS := lh (show Below w.heap.size w (w1.setCell ⟨w.heap.size, x, none⟩ (.bool true)) from by exact eX)
 obtain ⟨g, hg⟩ : ∃ g, g = w.heap.size := ⟨_, rfl⟩
 have hgl : g ≤ w.heap.size := by omega
 have hgl2 : w.heap.size ≤ g := by omega
 obtain ⟨W1, hW1⟩ : ∃ W1, W1 = w1.setCell ⟨w.heap.size, x, none⟩ (.bool true) := ⟨_, rfl⟩
 rw [← hW1] at R1 BS ⊢
 rw [← hg] at R1 ⊢
 clear hW1 B1 c0 f0 hg
 obtain ⟨X, hX⟩ : ∃ X, X = L := ⟨_, rfl⟩
 go_loopw [12] (fun c wr => ∃ (b : Bool) (s : Nat → Bool), c = .bool b ∧ Hid (BRow wr g n s) ∧ Hid (∀ i, s i = true → Rch L (fun k => bvl lv k) true x i) ∧ s x = true ∧ Hid (b = false → ClosedTo L (fun k => bvl lv k) true s m) ∧ Below w.heap.size w wr) (fun c wr => 2 * cntW wr g n + (match c with | .bool true => 1 | _ => 0))
 case atStart => exact ⟨true, _, rfl, R1, lh (fun i hi => (Classical.em (i = x)).elim (fun e => e ▸ Rch.here) (fun e => absurd hi (by simp [putB, e]))), putB_same _ _, lh (fun h => by cases h), BS.out⟩
 case round =>
  clear R1 BS
  obtain ⟨b, s, rfl, hR, hS, hsx, hC, hbw⟩ := hrel
  cases b
  ·have HO := lh (BRow.bools (cap := n) (xs := rchL L (fun k => bvl lv k) true x n) hR.out (rchL_len _ _ _ _ _) (by omega) (fun i hi => rch_done hsx (by have := hC.out rfl; rw [HM.out] at this; exact this) hS.out hi))
   clear hC hS hR
   go_wp2
   go_ret
   exact ⟨_, rfl, HO.out, fun k hk => by simp [Value.ownBlock] at hk; omega, hbw⟩
  ·clear hC
   have HK0 := lh hR.out.cnt
   obtain ⟨s0, hs0⟩ : ∃ s0, s0 = s := ⟨_, rfl⟩
   have RI := lh (show BRow wr g n s0 from by rw [hs0]; exact hR.out)
   have SI := lh (show ∀ i, s0 i = true → Rch L (fun k => bvl lv k) true x i from by rw [hs0]; exact hS.out)
   have XI : s0 x = true := by rw [hs0]; exact hsx
   rw [← hs0] at HK0
   clear hR hS hsx hs0
   obtain ⟨W2, hW2⟩ : ∃ W2, W2 = wr := ⟨_, rfl⟩
   rw [← hW2] at HK0 RI hbw ⊢
   clear hW2
   go_wp2_with fail
   go_loopw [12, 13] (fun c i wr => ∃ (b : Bool) (k : Nat) (s : Nat → Bool), c = .bool b ∧ i = .int .i64 k ∧ k ≤ m ∧ Hid (BRow wr g n s) ∧ Hid (∀ i, s i = true → Rch L (fun k => bvl lv k) true x i) ∧ s x = true ∧ Hid (if b then cntF n s < cntF n s0 else s = s0 ∧ ClosedTo L (fun k => bvl lv k) true s k) ∧ Below w.heap.size w wr) (fun _ i _ => m - (intOf i).toNat)
   case atStart => exact ⟨false, 0, s0, rfl, rfl, by omega, RI, SI, XI, lh ⟨rfl, fun k hk => absurd hk (Nat.not_lt_zero k)⟩, hbw⟩
   case round =>
    clear RI SI XI hbw
    obtain ⟨b, k, s, rfl, rfl, hk, hR, hS, hsx, hC, hbw⟩ := hrel
    by_cases hkm : k < m
    ·have hk' : k < L.length := by rw [← HM.out]; exact hkm
     obtain ⟨q, off, rfl, hql, y0, y1, y2, y3⟩ := HL.out.at hbw hk'
     obtain ⟨q2, rfl, hq2, z0⟩ := bools_at HV.out hbw (show k < lv.length by rw [HLV.out]; exact hk')
     obtain ⟨a0, a1, d0, d1⟩ := HE.out k hk'
     obtain ⟨a, ha⟩ := Int.eq_ofNat_of_zero_le a0
     obtain ⟨d, hd⟩ := Int.eq_ofNat_of_zero_le d0
     rw [ha] at y0 a0 a1; rw [hd] at y1 d0 d1
     have hef : (if true then (lkn L k).src else (lkn L k).dst).toNat = a := by simp [ha, hd]
     have het : (if true then (lkn L k).dst else (lkn L k).src).toNat = d := by simp [ha, hd]
     have HEF := lh hef
     have HET := lh het
     clear ha hd hef het y2 y3
     have i0 : (0 : Int) ≤ (k : Int) := by omega
     have i1 : (k : Int) < (m : Int) := by omega
     have ra := hR.out.2 a (by omega)
     have rd := hR.out.2 d (by omega)
     obtain ⟨fa, ra⟩ := ra
     obtain ⟨fd, rd⟩ := rd
     have hgs := hR.out.1
     have hskip := lh (fun (hh : bvl lv k = false ∨ s a = false ∨ s d = true) => (show (if b then cntF n s < cntF n s0 else s = s0 ∧ ClosedTo L (fun k => bvl lv k) true s (k + 1)) from by
      have h := hC.out
      cases b
      ·simp only [Bool.false_eq_true, if_false] at h ⊢
       refine ⟨h.1, fun j hj hlj hsj => ?_⟩
       by_cases e : j = k
       ·subst e
        rw [HEF.out] at hsj
        rw [HET.out]
        rcases hh with hh | hh | hh
        ·have hl9 : bvl lv j = true := hlj
         rw [hh] at hl9; cases hl9
        ·rw [hh] at hsj; cases hsj
        ·exact hh
       ·exact h.2 j (by omega) hlj hsj
      ·exact h))
     cases e1 : bvl lv k
     ·have hC9 := lh (hskip.out (.inl e1))
      rw [e1] at z0
      clear hC hskip e1
      go_wp2_with fail
      go_quiet (fail)
      go_wp2
      go_roundw
      case rel => exact ⟨b, k + 1, s, rfl, by go_num, by omega, hR, hS, hsx, hC9, eX⟩
      case measure => simp [intOf]; omega
     ·cases e2 : s a
      ·have hC9 := lh (hskip.out (.inr (.inl e2)))
       rw [e1] at z0
       rw [e2] at ra
       clear hC hskip e1 e2
       go_wp2_with fail
       go_quiet (fail)
       go_wp2
       go_roundw
       case rel => exact ⟨b, k + 1, s, rfl, by go_num, by omega, hR, hS, hsx, hC9, eX⟩
       case measure => simp [intOf]; omega
      ·cases e3 : s d
       ·have HP := lh (show cntF n (putB s d) < cntF n s0 from by
         have h1 := cnt_less (n := n) (s := s) (k := d) (by omega) e3
         have h := hC.out
         cases b
         ·simp only [Bool.false_eq_true, if_false] at h
          rw [h.1] at h1 ⊢
          exact h1
         ·simp only [if_true] at h
          omega)
        have HS9 := lh (show ∀ i, putB s d i = true → Rch L (fun k => bvl lv k) true x i from by
         intro i hi
         by_cases e : i = d
         ·subst e
          have := Rch.step (L := L) (lv := fun k => bvl lv k) (fw := true) (x := x) k hk' e1 (by rw [HEF.out]; exact hS.out _ e2)
          rw [HET.out] at this
          exact this
         ·refine hS.out i ?_
          simpa [putB, e] using hi)
        have HR9 := lh (fun (nq : Nat) => BRow.store (w := wr.drewN nq) (k := d) hR.out (by omega))
        have hX9 : putB s d x = true := putB_up hsx
        rw [e1] at z0
        rw [e2] at ra
        rw [e3] at rd
        clear hC hskip e1 e2 e3 hS hR
        go_wp2_with fail
        go_quiet (fail)
        go_wp2
        go_roundw
        case rel => exact ⟨true, k + 1, _, rfl, by go_num, by omega, lh (HR9.out _), HS9, hX9, lh (by simpa using HP.out), eX⟩
        case measure => simp [intOf]; omega
       ·have hC9 := lh (hskip.out (.inr (.inr e3)))
        rw [e1] at z0
        rw [e2] at ra
        rw [e3] at rd
        clear hC hskip e1 e2 e3
        go_wp2_with fail
        go_quiet (fail)
        go_wp2
        go_roundw
        case rel => exact ⟨b, k + 1, s, rfl, by go_num, by omega, hR, hS, hsx, hC9, eX⟩
        case measure => simp [intOf]; omega
    ·obtain rfl : k = m := by omega
     have hI : ¬ (k : Int) < (k : Int) := by omega
     have HK1 := lh hR.out.cnt
     go_wp2
     go_roundw
     case rel => exact ⟨b, s, rfl, hR, hS, hsx, lh (fun e => by subst e; have h := hC.out; simp only [Bool.false_eq_true, if_false] at h; exact h.2), hbw⟩
     case measure =>
      have h := hC.out
      rw [HK1.out, HK0.out]
      cases b
      ·simp only [Bool.false_eq_true, if_false] at h
       rw [h.1]
       simp
      ·simp only [if_true] at h
       simp
       omega
set_option maxHeartbeats 16000000 in
theorem reach_false (n x : Nat) (vl vv : Value) (L : List LkD) (lv : List Bool) (w : World) (hL : LkS w w.heap.size vl L) (hv : BoolS w w.heap.size vv lv) (hlv : lv.length = L.length) (hl : L.length ≤ 7000) (hn : n ≤ 100000) (hx : x < n)
  (hE : ∀ k, k < L.length → 0 ≤ (lkn L k).src ∧ (lkn L k).src < n ∧ 0 ≤ (lkn L k).dst ∧ (lkn L k).dst < n) :
  Calls Tryz.prog 64 #[.int .i64 (n : Int), vl, vv, .int .i64 (x : Int), .bool false] w (BoolR w (rchL L (fun k => bvl lv k) false x n)) := by
 obtain ⟨ti, hi, hz0, hz1, hz2⟩ := info_parts Tryz.infoB
 obtain ⟨pa', ca, rfl⟩ := hL.slice
 obtain ⟨pb, cb, rfl⟩ := hv.slice
 have HL := lh hL
 have HV := lh hv
 have HE := lh hE
 obtain ⟨m, hm⟩ : ∃ m, m = L.length := ⟨_, rfl⟩
 rw [hlv] at HV ⊢
 rw [← hm] at HL HV hl ⊢
 have HM := lh hm
 have HLV := lh hlv
 have hxi : (x : Int) < (n : Int) := by omega
 have hx0 : (0 : Int) ≤ (x : Int) := by omega
 clear hm hE hL hv hlv
 go_enter Tryz.func64, Tryz.ntmps64
 go_wp2_with (at_make; refine wpList_make_full _ rfl _ _ 84 rfl w.heap.size 4 ti (.bool false) 1 Tryz.underlying84 hi hz0 hz1 .i64 .i64 _ _ n rfl rfl rfl rfl (by rw [hz2]; omega) (by unfold maxLen; omega) (Nat.le_refl _) ?_; intro w1 hown0 hgrow0; have B1 := below_grown hgrow0; have R0 := BRow.made hown0; clear hgrow0 hown0; have c0 := (R0.2 x hx).2; have f0 := (R0.2 x hx).1; have R1 := lh (R0.store hx); clear R0)
 have BS := lh (show Below w.heap.size w (w1.setCell ⟨w.heap.size, x, none⟩ (.bool true)) from by exact eX)
 obtain ⟨g, hg⟩ : ∃ g, g = w.heap.size := ⟨_, rfl⟩
 have hgl : g ≤ w.heap.size := by omega
 have hgl2 : w.heap.size ≤ g := by omega
 obtain ⟨W1, hW1⟩ : ∃ W1, W1 = w1.setCell ⟨w.heap.size, x, none⟩ (.bool true) := ⟨_, rfl⟩
 rw [← hW1] at R1 BS ⊢
 rw [← hg] at R1 ⊢
 clear hW1 B1 c0 f0 hg
 obtain ⟨X, hX⟩ : ∃ X, X = L := ⟨_, rfl⟩
 go_loopw [12] (fun c wr => ∃ (b : Bool) (s : Nat → Bool), c = .bool b ∧ Hid (BRow wr g n s) ∧ Hid (∀ i, s i = true → Rch L (fun k => bvl lv k) false x i) ∧ s x = true ∧ Hid (b = false → ClosedTo L (fun k => bvl lv k) false s m) ∧ Below w.heap.size w wr) (fun c wr => 2 * cntW wr g n + (match c with | .bool true => 1 | _ => 0))
 case atStart => exact ⟨true, _, rfl, R1, lh (fun i hi => (Classical.em (i = x)).elim (fun e => e ▸ Rch.here) (fun e => absurd hi (by simp [putB, e]))), putB_same _ _, lh (fun h => by cases h), BS.out⟩
 case round =>
  clear R1 BS
  obtain ⟨b, s, rfl, hR, hS, hsx, hC, hbw⟩ := hrel
  cases b
  ·have HO := lh (BRow.bools (cap := n) (xs := rchL L (fun k => bvl lv k) false x n) hR.out (rchL_len _ _ _ _ _) (by omega) (fun i hi => rch_done hsx (by have := hC.out rfl; rw [HM.out] at this; exact this) hS.out hi))
   clear hC hS hR
   go_wp2
   go_ret
   exact ⟨_, rfl, HO.out, fun k hk => by simp [Value.ownBlock] at hk; omega, hbw⟩
  ·clear hC
   have HK0 := lh hR.out.cnt
   obtain ⟨s0, hs0⟩ : ∃ s0, s0 = s := ⟨_, rfl⟩
   have RI := lh (show BRow wr g n s0 from by rw [hs0]; exact hR.out)
   have SI := lh (show ∀ i, s0 i = true → Rch L (fun k => bvl lv k) false x i from by rw [hs0]; exact hS.out)
   have XI : s0 x = true := by rw [hs0]; exact hsx
   rw [← hs0] at HK0
   clear hR hS hsx hs0
   obtain ⟨W2, hW2⟩ : ∃ W2, W2 = wr := ⟨_, rfl⟩
   rw [← hW2] at HK0 RI hbw ⊢
   clear hW2
   go_wp2_with fail
   go_loopw [12, 13] (fun c i wr => ∃ (b : Bool) (k : Nat) (s : Nat → Bool), c = .bool b ∧ i = .int .i64 k ∧ k ≤ m ∧ Hid (BRow wr g n s) ∧ Hid (∀ i, s i = true → Rch L (fun k => bvl lv k) false x i) ∧ s x = true ∧ Hid (if b then cntF n s < cntF n s0 else s = s0 ∧ ClosedTo L (fun k => bvl lv k) false s k) ∧ Below w.heap.size w wr) (fun _ i _ => m - (intOf i).toNat)
   case atStart => exact ⟨false, 0, s0, rfl, rfl, by omega, RI, SI, XI, lh ⟨rfl, fun k hk => absurd hk (Nat.not_lt_zero k)⟩, hbw⟩
   case round =>
    clear RI SI XI hbw
    obtain ⟨b, k, s, rfl, rfl, hk, hR, hS, hsx, hC, hbw⟩ := hrel
    by_cases hkm : k < m
    ·have hk' : k < L.length := by rw [← HM.out]; exact hkm
     obtain ⟨q, off, rfl, hql, y0, y1, y2, y3⟩ := HL.out.at hbw hk'
     obtain ⟨q2, rfl, hq2, z0⟩ := bools_at HV.out hbw (show k < lv.length by rw [HLV.out]; exact hk')
     obtain ⟨a0, a1, d0, d1⟩ := HE.out k hk'
     obtain ⟨a, ha⟩ := Int.eq_ofNat_of_zero_le a0
     obtain ⟨d, hd⟩ := Int.eq_ofNat_of_zero_le d0
     rw [ha] at y0 a0 a1; rw [hd] at y1 d0 d1
     have hef : (if false then (lkn L k).src else (lkn L k).dst).toNat = d := by simp [ha, hd]
     have het : (if false then (lkn L k).dst else (lkn L k).src).toNat = a := by simp [ha, hd]
     have HEF := lh hef
     have HET := lh het
     clear ha hd hef het y2 y3
     have i0 : (0 : Int) ≤ (k : Int) := by omega
     have i1 : (k : Int) < (m : Int) := by omega
     have ra := hR.out.2 a (by omega)
     have rd := hR.out.2 d (by omega)
     obtain ⟨fa, ra⟩ := ra
     obtain ⟨fd, rd⟩ := rd
     have hgs := hR.out.1
     have hskip := lh (fun (hh : bvl lv k = false ∨ s d = false ∨ s a = true) => (show (if b then cntF n s < cntF n s0 else s = s0 ∧ ClosedTo L (fun k => bvl lv k) false s (k + 1)) from by
      have h := hC.out
      cases b
      ·simp only [Bool.false_eq_true, if_false] at h ⊢
       refine ⟨h.1, fun j hj hlj hsj => ?_⟩
       by_cases e : j = k
       ·subst e
        rw [HEF.out] at hsj
        rw [HET.out]
        rcases hh with hh | hh | hh
        ·have hl9 : bvl lv j = true := hlj
         rw [hh] at hl9; cases hl9
        ·rw [hh] at hsj; cases hsj
        ·exact hh
       ·exact h.2 j (by omega) hlj hsj
      ·exact h))
     cases e1 : bvl lv k
     ·have hC9 := lh (hskip.out (.inl e1))
      rw [e1] at z0
      clear hC hskip e1
      go_wp2_with fail
      go_quiet (fail)
      go_wp2
      go_roundw
      case rel => exact ⟨b, k + 1, s, rfl, by go_num, by omega, hR, hS, hsx, hC9, eX⟩
      case measure => simp [intOf]; omega
     ·cases e2 : s d
      ·have hC9 := lh (hskip.out (.inr (.inl e2)))
       rw [e1] at z0
       rw [e2] at rd
       clear hC hskip e1 e2
       go_wp2_with fail
       go_quiet (fail)
       go_wp2
       go_roundw
       case rel => exact ⟨b, k + 1, s, rfl, by go_num, by omega, hR, hS, hsx, hC9, eX⟩
       case measure => simp [intOf]; omega
      ·cases e3 : s a
       ·have HP := lh (show cntF n (putB s a) < cntF n s0 from by
         have h1 := cnt_less (n := n) (s := s) (k := a) (by omega) e3
         have h := hC.out
         cases b
         ·simp only [Bool.false_eq_true, if_false] at h
          rw [h.1] at h1 ⊢
          exact h1
         ·simp only [if_true] at h
          omega)
        have HS9 := lh (show ∀ i, putB s a i = true → Rch L (fun k => bvl lv k) false x i from by
         intro i hi
         by_cases e : i = a
         ·subst e
          have := Rch.step (L := L) (lv := fun k => bvl lv k) (fw := false) (x := x) k hk' e1 (by rw [HEF.out]; exact hS.out _ e2)
          rw [HET.out] at this
          exact this
         ·refine hS.out i ?_
          simpa [putB, e] using hi)
        have HR9 := lh (fun (nq : Nat) => BRow.store (w := wr.drewN nq) (k := a) hR.out (by omega))
        have hX9 : putB s a x = true := putB_up hsx
        rw [e1] at z0
        rw [e2] at rd
        rw [e3] at ra
        clear hC hskip e1 e2 e3 hS hR
        go_wp2_with fail
        go_quiet (fail)
        go_wp2
        go_roundw
        case rel => exact ⟨true, k + 1, _, rfl, by go_num, by omega, lh (HR9.out _), HS9, hX9, lh (by simpa using HP.out), eX⟩
        case measure => simp [intOf]; omega
       ·have hC9 := lh (hskip.out (.inr (.inr e3)))
        rw [e1] at z0
        rw [e2] at rd
        rw [e3] at ra
        clear hC hskip e1 e2 e3
        go_wp2_with fail
        go_quiet (fail)
        go_wp2
        go_roundw
        case rel => exact ⟨b, k + 1, s, rfl, by go_num, by omega, hR, hS, hsx, hC9, eX⟩
        case measure => simp [intOf]; omega
    ·obtain rfl : k = m := by omega
     have hI : ¬ (k : Int) < (k : Int) := by omega
     have HK1 := lh hR.out.cnt
     go_wp2
     go_roundw
     case rel => exact ⟨b, s, rfl, hR, hS, hsx, lh (fun e => by subst e; have h := hC.out; simp only [Bool.false_eq_true, if_false] at h; exact h.2), hbw⟩
     case measure =>
      have h := hC.out
      rw [HK1.out, HK0.out]
      cases b
      ·simp only [Bool.false_eq_true, if_false] at h
       rw [h.1]
       simp
      ·simp only [if_true] at h
       simp
       omega
end Go.Proofs.YtkpfbnffhhmokaaGreat
namespace Go.Proofs.YtkpfbnffhhmokaaGreat
open Go.ChangeShapes Go.WideShapes Go.ChangeAt Go.RowKit Go.Deep
set_option linter.unusedVariables false
set_option linter.unusedSimpArgs false
set_option maxRecDepth 100000
theorem rch_like {L : List LkD} {lv lv' : Nat → Bool} {fw : Bool} {x i : Nat} (h : ∀ k, k < L.length → lv k = lv' k) (r : Rch L lv fw x i) : Rch L lv' fw x i := by
 induction r with
 | here => exact Rch.here
 | step k hk hl _ ih => exact Rch.step k hk (by rw [← h k hk]; exact hl) ih
theorem rchL_like {L : List LkD} {lv lv' : Nat → Bool} (h : ∀ k, k < L.length → lv k = lv' k) (fw : Bool) (x n : Nat) : rchL L lv fw x n = rchL L lv' fw x n := by
 unfold rchL
 refine List.map_congr_left (fun i _ => ?_)
 have : Rch L lv fw x i ↔ Rch L lv' fw x i := ⟨rch_like h, rch_like (fun k hk => (h k hk).symm)⟩
 simp [this]
/-- The nodes that live links reach from x, in order. -/
noncomputable def coneL (z : BlkD) (bs : List Int) (x : Int) (fw : Bool) : List Int := if ndCode z bs x = 0 then listN (rchL (linksL z) (fun k => !hasI bs (k : Int)) fw x.toNat (ndN z).toNat) (ndN z).toNat else []
set_option maxHeartbeats 8000000 in
theorem specCone_true (f : Nat → Value) (z : BlkD) (v : Value) (bs : List Int) (x : Int) (w : World) (h : BlkF w w.heap.size f z) (hv : IntS w w.heap.size v bs) :
  Calls Tryz.prog 32 #[.agg #[f 0, f 1, f 2, f 3, f 4], v, .int .i64 x, .bool true] w (ListR w (coneL z bs x true) (ndCode z bs x)) := by
 have HG := lh (fun (w1 : World) (hb : Below w.heap.size w w1) => specNd_any f z v bs x w1 (h.up hb) (hv.up hb))
 have HC := lh (fun (hb : blkB z = true) (w1 : World) (hb' : Below w.heap.size w w1) => specLinks_any f z w1 (h.up hb') hb)
 have HCT := lh (fun (hb : blkB z = true) (w1 : World) (hb' : Below w.heap.size w w1) => specCount_any f z w1 (h.up hb') hb)
 obtain ⟨a, c, rfl⟩ := hv.slice
 have HV := lh (fun (w1 : World) (hb' : Below w.heap.size w w1) => hv.up hb')
 obtain ⟨p0, q0, p1, q1, p2, q2, p3, q3, p4, q4, e0, e1, e2, e3, e4⟩ := h.five
 rw [e0, e1, e2, e3, e4] at HG HC HCT
 rw [e0, e1, e2, e3, e4]
 clear e0 e1 e2 e3 e4 h
 clear hv
 by_cases hg : ndCode z bs x = 0
 ·have hgr : grCode z bs = 0 := by rcases ndCode_cases z bs x with ⟨_, e⟩ | e | e | e <;> first | exact e | omega
  have hb := grCode_valid hgr
  have HC := lh (HC.out hb)
  have HCT := lh (HCT.out hb)
  have HLL := lh (linksL_len hb)
  obtain ⟨x0, x1⟩ := nd_in hg
  obtain ⟨n0, n2⟩ := ndN_le hb
  obtain ⟨xn, rfl⟩ := Int.eq_ofNat_of_zero_le x0
  obtain ⟨N, hN⟩ := Int.eq_ofNat_of_zero_le n0
  have HE := lh (fun k (hk : k < (linksL z).length) => (show 0 ≤ (lkn (linksL z) k).src ∧ (lkn (linksL z) k).src < (N : Int) ∧ 0 ≤ (lkn (linksL z) k).dst ∧ (lkn (linksL z) k).dst < (N : Int) from by have := links_at hb hk; rw [hN] at this; exact this))
  have XL := lh (show coneL z bs (xn : Int) true = listN (rchL (linksL z) (fun k => !hasI bs (k : Int)) true xn N) N by simp [coneL, hg, hN])
  have XV := lh (show rchL (linksL z) (fun k => bvl (liveN bs (linksL z).length) k) true xn N = rchL (linksL z) (fun k => !hasI bs (k : Int)) true xn N from rchL_like (fun k hk => liveN_at bs hk) true xn N)
  rw [hN] at HCT n2 x1
  have HX := lh (show xn < N by omega)
  have HN2 := lh (show N ≤ 200 by omega)
  rw [hg] at HG ⊢
  clear hg hgr hb hN n0 n2 x0 x1
  unfold LinksR at HC
  go_enter Tryz.func32, Tryz.ntmps32
  go_wp2_with fail
  (go_at_call 62; refine (HG.out _ eX).mono ?_; rintro e w1 ⟨rfl, hb⟩; have ⟨hc, hf⟩ := bcell hb; have hz := hb.size; (try simp at hz); (try have hz := Nat.lt_of_succ_le hz); (try have y0 := wy w w1); (try have z0 := wz0 w w1); (try have z1 := wz1 w w1); (try have z2 := wz2 w w1); (try have z3 := wz3 w w1); (try have z4 := wz4 w w1))
  have B1 : Below w.heap.size w w1 := by exact eX
  go_wp2_with fail
  (go_at_call 47; refine (HC.out _ B1).mono ?_; rintro e w2 ⟨vl, rfl, hG, hb⟩; have ⟨hc, hf⟩ := bcell hb; have hz := hb.size; (try simp at hz); (try have hz := Nat.lt_of_succ_le hz); (try have y0 := wy w w2); (try have z0 := wz0 w w2); (try have z1 := wz1 w w2); (try have z2 := wz2 w w2); (try have z3 := wz3 w w2); (try have z4 := wz4 w w2))
  have HLk := GL.lks hG (by have := HLL.out; omega)
  obtain ⟨va, vc, rfl⟩ := HLk.slice
  have HLk := lh HLk
  have B2 : Below w.heap.size w w2 := by exact eX
  clear hG
  go_wp2_with fail
  (go_at_call 49; refine (HCT.out _ B2).mono ?_; rintro e w3 ⟨rfl, hb⟩; have ⟨hc, hf⟩ := bcell hb; have hz := hb.size; (try simp at hz); (try have hz := Nat.lt_of_succ_le hz); (try have y0 := wy w w3); (try have z0 := wz0 w w3); (try have z1 := wz1 w w3); (try have z2 := wz2 w w3); (try have z3 := wz3 w w3); (try have z4 := wz4 w w3))
  have B23 : Below w2.heap.size w2 w3 := by exact eX
  have B3 : Below w.heap.size w w3 := by exact eX
  go_wp2_with fail
  (go_at_call 50; refine (live_any va (linksL z).length vc _ bs _ (HV.out w3 B3) HLL.out).mono ?_; rintro e w4 ⟨vv, rfl, hV, hvb, hb⟩; have ⟨hc, hf⟩ := bcell hb; have hz := hb.size; (try simp at hz); (try have hz := Nat.lt_of_succ_le hz); (try have y0 := wy w w4); (try have z0 := wz0 w w4); (try have z1 := wz1 w w4); (try have z2 := wz2 w w4); (try have z3 := wz3 w w4); (try have z4 := wz4 w w4))
  have B4 : Below w.heap.size w w4 := by exact eX
  have HL4 := lh (HLk.out.up (show Below w2.heap.size w2 w4 from B23.trans ((show Below w3.heap.size w3 w4 by exact eX).mono B23.size)))
  have HV4 := lh hV
  clear hV hvb
  go_wp2_with fail
  (go_at_call 64; refine (reach_true N xn _ _ (linksL z) (liveN bs (linksL z).length) _ HL4.out HV4.out (liveN_len _ _) HLL.out (by have := HN2.out; omega) HX.out HE.out).mono ?_; rintro e w5 ⟨vs, rfl, hS, hsb, hb⟩; have ⟨hc, hf⟩ := bcell hb; have hz := hb.size; (try simp at hz); (try have hz := Nat.lt_of_succ_le hz); (try have y0 := wy w w5); (try have z0 := wz0 w w5); (try have z1 := wz1 w w5); (try have z2 := wz2 w w5); (try have z3 := wz3 w w5); (try have z4 := wz4 w w5))
  have B5 : Below w.heap.size w w5 := by exact eX
  rw [XV.out] at hS
  have HS5 := lh hS
  clear hS hsb
  go_wp2_with fail
  (go_at_call 63; refine (listed_any _ _ _ HS5.out (by rw [rchL_len]; have := HN2.out; omega)).mono ?_; rintro e w6 ⟨vo, rfl, hO, hb⟩; have ⟨hc, hf⟩ := bcell hb; have hz := hb.size; (try simp at hz); (try have hz := Nat.lt_of_succ_le hz); (try have y0 := wy w w6); (try have z0 := wz0 w w6); (try have z1 := wz1 w w6); (try have z2 := wz2 w w6); (try have z3 := wz3 w w6); (try have z4 := wz4 w w6))
  have B6 : Below w.heap.size w w6 := by exact eX
  rw [rchL_len] at hO
  have HO := lh (hO.mono (C := w.heap.size) B5.size)
  obtain ⟨ua, uc, rfl⟩ := HO.out.slice
  clear hO
  go_wp2
  go_ret2
  exact ⟨_, rfl, by rw [XL.out]; exact HO.out, B6⟩
 ·have XL := lh (show coneL z bs x true = [] by simp [coneL, hg])
  obtain ⟨cd, hcd⟩ : ∃ cd, cd = ndCode z bs x := ⟨_, rfl⟩
  rw [← hcd] at HG hg ⊢
  have hne : (cd != 0) = true := by simpa using hg
  have hne2 : (cd == 0) = false := by simpa using hg
  clear hcd hg HC HCT HV
  go_enter Tryz.func32, Tryz.ntmps32
  go_wp2_with fail
  (go_at_call 62; refine (HG.out _ eX).mono ?_; rintro e w1 ⟨rfl, hb⟩; have ⟨hc, hf⟩ := bcell hb; have hz := hb.size; (try simp at hz); (try have hz := Nat.lt_of_succ_le hz); (try have y0 := wy w w1); (try have z0 := wz0 w w1); (try have z1 := wz1 w w1); (try have z2 := wz2 w w1); (try have z3 := wz3 w w1); (try have z4 := wz4 w w1))
  go_wp2
  go_ret2
  exact ⟨_, rfl, by rw [XL.out]; exact own_empty _ _ _ _, eX⟩
set_option maxHeartbeats 8000000 in
theorem specCone_false (f : Nat → Value) (z : BlkD) (v : Value) (bs : List Int) (x : Int) (w : World) (h : BlkF w w.heap.size f z) (hv : IntS w w.heap.size v bs) :
  Calls Tryz.prog 32 #[.agg #[f 0, f 1, f 2, f 3, f 4], v, .int .i64 x, .bool false] w (ListR w (coneL z bs x false) (ndCode z bs x)) := by
 have HG := lh (fun (w1 : World) (hb : Below w.heap.size w w1) => specNd_any f z v bs x w1 (h.up hb) (hv.up hb))
 have HC := lh (fun (hb : blkB z = true) (w1 : World) (hb' : Below w.heap.size w w1) => specLinks_any f z w1 (h.up hb') hb)
 have HCT := lh (fun (hb : blkB z = true) (w1 : World) (hb' : Below w.heap.size w w1) => specCount_any f z w1 (h.up hb') hb)
 obtain ⟨a, c, rfl⟩ := hv.slice
 have HV := lh (fun (w1 : World) (hb' : Below w.heap.size w w1) => hv.up hb')
 obtain ⟨p0, q0, p1, q1, p2, q2, p3, q3, p4, q4, e0, e1, e2, e3, e4⟩ := h.five
 rw [e0, e1, e2, e3, e4] at HG HC HCT
 rw [e0, e1, e2, e3, e4]
 clear e0 e1 e2 e3 e4 h
 clear hv
 by_cases hg : ndCode z bs x = 0
 ·have hgr : grCode z bs = 0 := by rcases ndCode_cases z bs x with ⟨_, e⟩ | e | e | e <;> first | exact e | omega
  have hb := grCode_valid hgr
  have HC := lh (HC.out hb)
  have HCT := lh (HCT.out hb)
  have HLL := lh (linksL_len hb)
  obtain ⟨x0, x1⟩ := nd_in hg
  obtain ⟨n0, n2⟩ := ndN_le hb
  obtain ⟨xn, rfl⟩ := Int.eq_ofNat_of_zero_le x0
  obtain ⟨N, hN⟩ := Int.eq_ofNat_of_zero_le n0
  have HE := lh (fun k (hk : k < (linksL z).length) => (show 0 ≤ (lkn (linksL z) k).src ∧ (lkn (linksL z) k).src < (N : Int) ∧ 0 ≤ (lkn (linksL z) k).dst ∧ (lkn (linksL z) k).dst < (N : Int) from by have := links_at hb hk; rw [hN] at this; exact this))
  have XL := lh (show coneL z bs (xn : Int) false = listN (rchL (linksL z) (fun k => !hasI bs (k : Int)) false xn N) N by simp [coneL, hg, hN])
  have XV := lh (show rchL (linksL z) (fun k => bvl (liveN bs (linksL z).length) k) false xn N = rchL (linksL z) (fun k => !hasI bs (k : Int)) false xn N from rchL_like (fun k hk => liveN_at bs hk) false xn N)
  rw [hN] at HCT n2 x1
  have HX := lh (show xn < N by omega)
  have HN2 := lh (show N ≤ 200 by omega)
  rw [hg] at HG ⊢
  clear hg hgr hb hN n0 n2 x0 x1
  unfold LinksR at HC
  go_enter Tryz.func32, Tryz.ntmps32
  go_wp2_with fail
  (go_at_call 62; refine (HG.out _ eX).mono ?_; rintro e w1 ⟨rfl, hb⟩; have ⟨hc, hf⟩ := bcell hb; have hz := hb.size; (try simp at hz); (try have hz := Nat.lt_of_succ_le hz); (try have y0 := wy w w1); (try have z0 := wz0 w w1); (try have z1 := wz1 w w1); (try have z2 := wz2 w w1); (try have z3 := wz3 w w1); (try have z4 := wz4 w w1))
  have B1 : Below w.heap.size w w1 := by exact eX
  go_wp2_with fail
  (go_at_call 47; refine (HC.out _ B1).mono ?_; rintro e w2 ⟨vl, rfl, hG, hb⟩; have ⟨hc, hf⟩ := bcell hb; have hz := hb.size; (try simp at hz); (try have hz := Nat.lt_of_succ_le hz); (try have y0 := wy w w2); (try have z0 := wz0 w w2); (try have z1 := wz1 w w2); (try have z2 := wz2 w w2); (try have z3 := wz3 w w2); (try have z4 := wz4 w w2))
  have HLk := GL.lks hG (by have := HLL.out; omega)
  obtain ⟨va, vc, rfl⟩ := HLk.slice
  have HLk := lh HLk
  have B2 : Below w.heap.size w w2 := by exact eX
  clear hG
  go_wp2_with fail
  (go_at_call 49; refine (HCT.out _ B2).mono ?_; rintro e w3 ⟨rfl, hb⟩; have ⟨hc, hf⟩ := bcell hb; have hz := hb.size; (try simp at hz); (try have hz := Nat.lt_of_succ_le hz); (try have y0 := wy w w3); (try have z0 := wz0 w w3); (try have z1 := wz1 w w3); (try have z2 := wz2 w w3); (try have z3 := wz3 w w3); (try have z4 := wz4 w w3))
  have B23 : Below w2.heap.size w2 w3 := by exact eX
  have B3 : Below w.heap.size w w3 := by exact eX
  go_wp2_with fail
  (go_at_call 50; refine (live_any va (linksL z).length vc _ bs _ (HV.out w3 B3) HLL.out).mono ?_; rintro e w4 ⟨vv, rfl, hV, hvb, hb⟩; have ⟨hc, hf⟩ := bcell hb; have hz := hb.size; (try simp at hz); (try have hz := Nat.lt_of_succ_le hz); (try have y0 := wy w w4); (try have z0 := wz0 w w4); (try have z1 := wz1 w w4); (try have z2 := wz2 w w4); (try have z3 := wz3 w w4); (try have z4 := wz4 w w4))
  have B4 : Below w.heap.size w w4 := by exact eX
  have HL4 := lh (HLk.out.up (show Below w2.heap.size w2 w4 from B23.trans ((show Below w3.heap.size w3 w4 by exact eX).mono B23.size)))
  have HV4 := lh hV
  clear hV hvb
  go_wp2_with fail
  (go_at_call 64; refine (reach_false N xn _ _ (linksL z) (liveN bs (linksL z).length) _ HL4.out HV4.out (liveN_len _ _) HLL.out (by have := HN2.out; omega) HX.out HE.out).mono ?_; rintro e w5 ⟨vs, rfl, hS, hsb, hb⟩; have ⟨hc, hf⟩ := bcell hb; have hz := hb.size; (try simp at hz); (try have hz := Nat.lt_of_succ_le hz); (try have y0 := wy w w5); (try have z0 := wz0 w w5); (try have z1 := wz1 w w5); (try have z2 := wz2 w w5); (try have z3 := wz3 w w5); (try have z4 := wz4 w w5))
  have B5 : Below w.heap.size w w5 := by exact eX
  rw [XV.out] at hS
  have HS5 := lh hS
  clear hS hsb
  go_wp2_with fail
  (go_at_call 63; refine (listed_any _ _ _ HS5.out (by rw [rchL_len]; have := HN2.out; omega)).mono ?_; rintro e w6 ⟨vo, rfl, hO, hb⟩; have ⟨hc, hf⟩ := bcell hb; have hz := hb.size; (try simp at hz); (try have hz := Nat.lt_of_succ_le hz); (try have y0 := wy w w6); (try have z0 := wz0 w w6); (try have z1 := wz1 w w6); (try have z2 := wz2 w w6); (try have z3 := wz3 w w6); (try have z4 := wz4 w w6))
  have B6 : Below w.heap.size w w6 := by exact eX
  rw [rchL_len] at hO
  have HO := lh (hO.mono (C := w.heap.size) B5.size)
  obtain ⟨ua, uc, rfl⟩ := HO.out.slice
  clear hO
  go_wp2
  go_ret2
  exact ⟨_, rfl, by rw [XL.out]; exact HO.out, B6⟩
 ·have XL := lh (show coneL z bs x false = [] by simp [coneL, hg])
  obtain ⟨cd, hcd⟩ : ∃ cd, cd = ndCode z bs x := ⟨_, rfl⟩
  rw [← hcd] at HG hg ⊢
  have hne : (cd != 0) = true := by simpa using hg
  have hne2 : (cd == 0) = false := by simpa using hg
  clear hcd hg HC HCT HV
  go_enter Tryz.func32, Tryz.ntmps32
  go_wp2_with fail
  (go_at_call 62; refine (HG.out _ eX).mono ?_; rintro e w1 ⟨rfl, hb⟩; have ⟨hc, hf⟩ := bcell hb; have hz := hb.size; (try simp at hz); (try have hz := Nat.lt_of_succ_le hz); (try have y0 := wy w w1); (try have z0 := wz0 w w1); (try have z1 := wz1 w w1); (try have z2 := wz2 w w1); (try have z3 := wz3 w w1); (try have z4 := wz4 w w1))
  go_wp2
  go_ret2
  exact ⟨_, rfl, by rw [XL.out]; exact own_empty _ _ _ _, eX⟩
set_option maxHeartbeats 4000000 in
theorem specFanOut_any (f : Nat → Value) (z : BlkD) (v : Value) (bs : List Int) (x : Int) (w : World) (h : BlkF w w.heap.size f z) (hv : IntS w w.heap.size v bs) :
  Calls Tryz.prog 10 #[.agg #[f 0, f 1, f 2, f 3, f 4], v, .int .i64 x] w (ListR w (coneL z bs x true) (ndCode z bs x)) := by
 have HC := lh (fun (w1 : World) (hb : Below w.heap.size w w1) => specCone_true f z v bs x w1 (h.up hb) (hv.up hb))
 obtain ⟨a, c, rfl⟩ := hv.slice
 obtain ⟨p0, q0, p1, q1, p2, q2, p3, q3, p4, q4, e0, e1, e2, e3, e4⟩ := h.five
 rw [e0, e1, e2, e3, e4] at HC
 rw [e0, e1, e2, e3, e4]
 clear e0 e1 e2 e3 e4 h hv
 unfold ListR at HC
 go_enter Tryz.func10, Tryz.ntmps10
 go_wp2_with fail
 (go_at_call 32; refine (HC.out _ eX).mono ?_; rintro e w1 ⟨vo, rfl, hO, hb⟩; have ⟨hc, hf⟩ := bcell hb; have hz := hb.size; (try simp at hz); (try have hz := Nat.lt_of_succ_le hz); (try have y0 := wy w w1); (try have z0 := wz0 w w1); (try have z1 := wz1 w w1); (try have z2 := wz2 w w1); (try have z3 := wz3 w w1); (try have z4 := wz4 w w1))
 have B1 : Below w.heap.size w w1 := by exact eX
 have HO := lh (hO.mono (C := w.heap.size) (by simp))
 obtain ⟨ua, uc, rfl⟩ := HO.out.slice
 clear hO
 go_wp2
 go_ret2
 exact ⟨_, rfl, HO.out, B1⟩
set_option maxHeartbeats 4000000 in
theorem specFanIn_any (f : Nat → Value) (z : BlkD) (v : Value) (bs : List Int) (x : Int) (w : World) (h : BlkF w w.heap.size f z) (hv : IntS w w.heap.size v bs) :
  Calls Tryz.prog 19 #[.agg #[f 0, f 1, f 2, f 3, f 4], v, .int .i64 x] w (ListR w (coneL z bs x false) (ndCode z bs x)) := by
 have HC := lh (fun (w1 : World) (hb : Below w.heap.size w w1) => specCone_false f z v bs x w1 (h.up hb) (hv.up hb))
 obtain ⟨a, c, rfl⟩ := hv.slice
 obtain ⟨p0, q0, p1, q1, p2, q2, p3, q3, p4, q4, e0, e1, e2, e3, e4⟩ := h.five
 rw [e0, e1, e2, e3, e4] at HC
 rw [e0, e1, e2, e3, e4]
 clear e0 e1 e2 e3 e4 h hv
 unfold ListR at HC
 go_enter Tryz.func19, Tryz.ntmps19
 go_wp2_with fail
 (go_at_call 32; refine (HC.out _ eX).mono ?_; rintro e w1 ⟨vo, rfl, hO, hb⟩; have ⟨hc, hf⟩ := bcell hb; have hz := hb.size; (try simp at hz); (try have hz := Nat.lt_of_succ_le hz); (try have y0 := wy w w1); (try have z0 := wz0 w w1); (try have z1 := wz1 w w1); (try have z2 := wz2 w w1); (try have z3 := wz3 w w1); (try have z4 := wz4 w w1))
 have B1 : Below w.heap.size w w1 := by exact eX
 have HO := lh (hO.mono (C := w.heap.size) (by simp))
 obtain ⟨ua, uc, rfl⟩ := HO.out.slice
 clear hO
 go_wp2
 go_ret2
 exact ⟨_, rfl, HO.out, B1⟩
end Go.Proofs.YtkpfbnffhhmokaaGreat
