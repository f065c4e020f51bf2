/-
The arcs of a cell: the program's own check of them, for valid pins.
-/
import Derived.Test.YtkpfbnffhhmokaaGreatArc
import Derived.Test.YtkpfbnffhhmokaaGreatIndexA
import Derived.Test.YtkpfbnffhhmokaaGreatNum
namespace Go.Proofs.YtkpfbnffhhmokaaGreat
open Go.ChangeShapes Go.WideShapes Go.ChangeAt Go.RowKit
set_option linter.unusedVariables false
set_option linter.unusedSimpArgs false
/-- The role of a pin: none, data, clock, output. -/
def rl (ps : List PinD) (x : Int) : Int := if inB x 0 ((ps.length : Int) - 1) then (if (pn ps x.toNat).dir = 2 then 3 else if (pn ps x.toNat).clock then 2 else 1) else 0
theorem roleOf_any (v : Value) (ps : List PinD) (x : Int) (w : World) (h : PinsS w w.heap.size v ps) : Calls Tryz.prog 230 #[v, .int .i64 x] w fun e w' => e = .returned (.int .i64 (rl ps x)) ∧ w' = w := by
 obtain ⟨F, hc, hf⟩ := h
 obtain ⟨n, hnn⟩ : ∃ n, n = ps.length := ⟨_, rfl⟩
 unfold rl
 rw [← hnn] at hc hf ⊢
 have HC := hc
 obtain ⟨hn, a, cap, rfl, _⟩ := hc
 clear hnn
 cases hi : inB x 0 ((n : Int) - 1)
 ·go_enter Tryz.func230, Tryz.ntmps230
  go_wp2_with (go_at_call 243; refine (hasIxPin_any _ _ _ _ _ (by omega)).mono ?_; rintro e w' ⟨rfl, hw'⟩; rw [hw']; clear hw' w')
  go_ret
  exact ⟨rfl, rfl⟩
 ·have ⟨i1, i2⟩ := inB_get hi
  obtain ⟨k, rfl⟩ := Int.eq_ofNat_of_zero_le i1
  have hkn : k < n := by omega
  obtain ⟨b, off, rfl, hlt, hx⟩ := HC.at (Below.refl _ _) hkn
  have y1 := hx 1 (by omega); have y3 := hx 3 (by omega)
  rw [(hf k hkn).2.1] at y1
  rw [(hf k hkn).2.2.2.1] at y3
  simp only [Int.toNat_natCast, if_true]
  have hI : (k : Int) < (n : Int) := by omega
  clear hx HC hf
  by_cases d : (pn ps k).dir = 2
  ·rw [if_pos d]
   rw [d] at y1
   go_enter Tryz.func230, Tryz.ntmps230
   go_wp2_with (go_at_call 243; refine (hasIxPin_any _ _ _ _ _ (by omega)).mono ?_; rintro e w' ⟨rfl, hw'⟩; rw [hw']; clear hw' w')
   go_ret
   exact ⟨rfl, rfl⟩
  ·rw [if_neg d]
   have d' : ((pn ps k).dir == 2) = false := by simpa using d
   rcases Bool.eq_false_or_eq_true (pn ps k).clock with ck | ck
   ·rw [if_pos ck]
    rw [ck] at y3
    go_enter Tryz.func230, Tryz.ntmps230
    go_wp2_with (go_at_call 243; refine (hasIxPin_any _ _ _ _ _ (by omega)).mono ?_; rintro e w' ⟨rfl, hw'⟩; rw [hw']; clear hw' w')
    go_ret
    exact ⟨rfl, rfl⟩
   ·rw [if_neg (by rw [ck]; decide)]
    rw [ck] at y3
    go_enter Tryz.func230, Tryz.ntmps230
    go_wp2_with (go_at_call 243; refine (hasIxPin_any _ _ _ _ _ (by omega)).mono ?_; rintro e w' ⟨rfl, hw'⟩; rw [hw']; clear hw' w')
    go_ret
    exact ⟨rfl, rfl⟩
def kC (kd : Int) (a1 a2 b1 b3 sn0 sn13 : Bool) : Bool :=
 if kd = 1 then a1 && b3 && sn13 else if kd = 2 then a2 && b3 && sn0 else if kd = 3 then a2 && b3 && sn0 else if kd = 4 then a2 && b1 && sn0 else if kd = 5 then a2 && b1 && sn0 else false
theorem kC_1 (a1 a2 b1 b3 s0 s1 : Bool) : kC 1 a1 a2 b1 b3 s0 s1 = (a1 && b3 && s1) := rfl
theorem kC_2 (a1 a2 b1 b3 s0 s1 : Bool) : kC 2 a1 a2 b1 b3 s0 s1 = (a2 && b3 && s0) := rfl
theorem kC_3 (a1 a2 b1 b3 s0 s1 : Bool) : kC 3 a1 a2 b1 b3 s0 s1 = (a2 && b3 && s0) := rfl
theorem kC_4 (a1 a2 b1 b3 s0 s1 : Bool) : kC 4 a1 a2 b1 b3 s0 s1 = (a2 && b1 && s0) := rfl
theorem kC_5 (a1 a2 b1 b3 s0 s1 : Bool) : kC 5 a1 a2 b1 b3 s0 s1 = (a2 && b1 && s0) := rfl
theorem kC_no {kd : Int} (h1 : ¬ kd = 1) (h2 : ¬ kd = 2) (h3 : ¬ kd = 3) (h4 : ¬ kd = 4) (h5 : ¬ kd = 5) (a1 a2 b1 b3 s0 s1 : Bool) : kC kd a1 a2 b1 b3 s0 s1 = false := by simp [kC, h1, h2, h3, h4, h5]
def conB (ps : List PinD) (a : ArcD) : Bool := kC a.kind (rl ps a.src == 1) (rl ps a.src == 2) (rl ps a.dst == 1) (rl ps a.dst == 3) (a.sense == 0) (inB a.sense 1 3)
def hasB (a : ArcD) : Bool := if a.kind = 4 ∨ a.kind = 5 then ((a.slew.length : Int) == 0) && tabsOk a.delay false else tabsOk a.delay true && tabsOk a.slew true
set_option maxRecDepth 100000 in
set_option maxHeartbeats 8000000 in
theorem connects_any (g : Nat → Value) (a : ArcD) (v : Value) (ps : List PinD) (w : World) (h' : ArcF w w.heap.size g a) (h : PinsS w w.heap.size v ps) :
  Calls Tryz.prog 219 #[.agg #[g 0, g 1, g 2, g 3, g 4, g 5], v] w fun e w' => e = .returned (.bool (conB ps a)) ∧ Below w.heap.size w w' := by
 have H := lh h
 obtain ⟨pp, qq, rfl⟩ := h.slice
 obtain ⟨kd, src, dst, sn, dl, sl⟩ := a
 obtain ⟨g0, g1, g2, g3, z4, z5⟩ := h'
 simp only at g0 g1 g2 g3 z4 z5
 obtain ⟨r4, s4, g4⟩ := z4.slice; obtain ⟨r5, s5, g5⟩ := z5.slice
 rw [g0, g1, g2, g3, g4, g5]
 unfold conB
 simp only
 obtain ⟨R, hR⟩ : ∃ R, R = rl ps src := ⟨_, rfl⟩
 obtain ⟨T, hT⟩ : ∃ T, T = rl ps dst := ⟨_, rfl⟩
 have HR := lh (fun (w1 : World) (hb : Below w.heap.size w w1) => roleOf_any _ ps src w1 (H.out.up hb))
 have HT := lh (fun (w1 : World) (hb : Below w.heap.size w w1) => roleOf_any _ ps dst w1 (H.out.up hb))
 rw [← hR] at HR ⊢
 rw [← hT] at HT ⊢
 clear h z4 z5 g0 g1 g2 g3 g4 g5 hR hT H
 by_cases k1 : kd = 1
 ·subst k1
  cases ha : (R == 1)
  ·rw [kC_1]
   simp only [Bool.not_false, Bool.not_true, Bool.true_and, Bool.false_and, Bool.and_true, Bool.and_false]
   go_enter Tryz.func219, Tryz.ntmps219
   go_wp2
   go_quiet ((go_at_call 230; first | (with_reducible exact Calls.quiet_of_same (HR.out _ eX)) | (with_reducible exact Calls.quiet_of_same (HT.out _ eX))))
   go_wp2_with (go_at_call 106; refine (inRange_any _ _ _ _).mono ?_; rintro e w' ⟨rfl, hw'⟩; rw [hw']; clear hw' w')
   go_ret
   exact ⟨rfl, eX⟩
  ·cases hb : (T == 3)
   ·rw [kC_1]
    simp only [Bool.not_false, Bool.not_true, Bool.true_and, Bool.false_and, Bool.and_true, Bool.and_false]
    go_enter Tryz.func219, Tryz.ntmps219
    go_wp2
    go_quiet ((go_at_call 230; first | (with_reducible exact Calls.quiet_of_same (HR.out _ eX)) | (with_reducible exact Calls.quiet_of_same (HT.out _ eX))))
    go_wp2_with (go_at_call 106; refine (inRange_any _ _ _ _).mono ?_; rintro e w' ⟨rfl, hw'⟩; rw [hw']; clear hw' w')
    go_ret
    exact ⟨rfl, eX⟩
   ·cases hc : inB sn 1 3
    ·rw [kC_1]
     simp only [Bool.not_false, Bool.not_true, Bool.true_and, Bool.false_and, Bool.and_true, Bool.and_false]
     go_enter Tryz.func219, Tryz.ntmps219
     go_wp2
     go_quiet ((go_at_call 230; first | (with_reducible exact Calls.quiet_of_same (HR.out _ eX)) | (with_reducible exact Calls.quiet_of_same (HT.out _ eX))))
     go_wp2_with (go_at_call 106; refine (inRange_any _ _ _ _).mono ?_; rintro e w' ⟨rfl, hw'⟩; rw [hw']; clear hw' w')
     go_ret
     exact ⟨rfl, eX⟩
    ·rw [kC_1]
     simp only [Bool.not_false, Bool.not_true, Bool.true_and, Bool.false_and, Bool.and_true, Bool.and_false]
     go_enter Tryz.func219, Tryz.ntmps219
     go_wp2
     go_quiet ((go_at_call 230; first | (with_reducible exact Calls.quiet_of_same (HR.out _ eX)) | (with_reducible exact Calls.quiet_of_same (HT.out _ eX))))
     go_wp2_with (go_at_call 106; refine (inRange_any _ _ _ _).mono ?_; rintro e w' ⟨rfl, hw'⟩; rw [hw']; clear hw' w')
     go_ret
     exact ⟨rfl, eX⟩
 ·have m1 : (kd == 1) = false := by simpa using k1
  by_cases k2 : kd = 2
  ·subst k2
   cases ha : (R == 2)
   ·rw [kC_2]
    simp only [Bool.not_false, Bool.not_true, Bool.true_and, Bool.false_and, Bool.and_true, Bool.and_false]
    go_enter Tryz.func219, Tryz.ntmps219
    go_wp2
    go_quiet ((go_at_call 230; first | (with_reducible exact Calls.quiet_of_same (HR.out _ eX)) | (with_reducible exact Calls.quiet_of_same (HT.out _ eX))))
    go_wp2_with (go_at_call 106; refine (inRange_any _ _ _ _).mono ?_; rintro e w' ⟨rfl, hw'⟩; rw [hw']; clear hw' w')
    go_ret
    exact ⟨rfl, eX⟩
   ·cases hb : (T == 3)
    ·rw [kC_2]
     simp only [Bool.not_false, Bool.not_true, Bool.true_and, Bool.false_and, Bool.and_true, Bool.and_false]
     go_enter Tryz.func219, Tryz.ntmps219
     go_wp2
     go_quiet ((go_at_call 230; first | (with_reducible exact Calls.quiet_of_same (HR.out _ eX)) | (with_reducible exact Calls.quiet_of_same (HT.out _ eX))))
     go_wp2_with (go_at_call 106; refine (inRange_any _ _ _ _).mono ?_; rintro e w' ⟨rfl, hw'⟩; rw [hw']; clear hw' w')
     go_ret
     exact ⟨rfl, eX⟩
    ·cases hc : (sn == 0)
     ·rw [kC_2]
      simp only [Bool.not_false, Bool.not_true, Bool.true_and, Bool.false_and, Bool.and_true, Bool.and_false]
      go_enter Tryz.func219, Tryz.ntmps219
      go_wp2
      go_quiet ((go_at_call 230; first | (with_reducible exact Calls.quiet_of_same (HR.out _ eX)) | (with_reducible exact Calls.quiet_of_same (HT.out _ eX))))
      go_wp2_with (go_at_call 106; refine (inRange_any _ _ _ _).mono ?_; rintro e w' ⟨rfl, hw'⟩; rw [hw']; clear hw' w')
      go_ret
      exact ⟨rfl, eX⟩
     ·rw [kC_2]
      simp only [Bool.not_false, Bool.not_true, Bool.true_and, Bool.false_and, Bool.and_true, Bool.and_false]
      go_enter Tryz.func219, Tryz.ntmps219
      go_wp2
      go_quiet ((go_at_call 230; first | (with_reducible exact Calls.quiet_of_same (HR.out _ eX)) | (with_reducible exact Calls.quiet_of_same (HT.out _ eX))))
      go_wp2_with (go_at_call 106; refine (inRange_any _ _ _ _).mono ?_; rintro e w' ⟨rfl, hw'⟩; rw [hw']; clear hw' w')
      go_ret
      exact ⟨rfl, eX⟩
  ·have m2 : (kd == 2) = false := by simpa using k2
   by_cases k3 : kd = 3
   ·subst k3
    cases ha : (R == 2)
    ·rw [kC_3]
     simp only [Bool.not_false, Bool.not_true, Bool.true_and, Bool.false_and, Bool.and_true, Bool.and_false]
     go_enter Tryz.func219, Tryz.ntmps219
     go_wp2
     go_quiet ((go_at_call 230; first | (with_reducible exact Calls.quiet_of_same (HR.out _ eX)) | (with_reducible exact Calls.quiet_of_same (HT.out _ eX))))
     go_wp2_with (go_at_call 106; refine (inRange_any _ _ _ _).mono ?_; rintro e w' ⟨rfl, hw'⟩; rw [hw']; clear hw' w')
     go_ret
     exact ⟨rfl, eX⟩
    ·cases hb : (T == 3)
     ·rw [kC_3]
      simp only [Bool.not_false, Bool.not_true, Bool.true_and, Bool.false_and, Bool.and_true, Bool.and_false]
      go_enter Tryz.func219, Tryz.ntmps219
      go_wp2
      go_quiet ((go_at_call 230; first | (with_reducible exact Calls.quiet_of_same (HR.out _ eX)) | (with_reducible exact Calls.quiet_of_same (HT.out _ eX))))
      go_wp2_with (go_at_call 106; refine (inRange_any _ _ _ _).mono ?_; rintro e w' ⟨rfl, hw'⟩; rw [hw']; clear hw' w')
      go_ret
      exact ⟨rfl, eX⟩
     ·cases hc : (sn == 0)
      ·rw [kC_3]
       simp only [Bool.not_false, Bool.not_true, Bool.true_and, Bool.false_and, Bool.and_true, Bool.and_false]
       go_enter Tryz.func219, Tryz.ntmps219
       go_wp2
       go_quiet ((go_at_call 230; first | (with_reducible exact Calls.quiet_of_same (HR.out _ eX)) | (with_reducible exact Calls.quiet_of_same (HT.out _ eX))))
       go_wp2_with (go_at_call 106; refine (inRange_any _ _ _ _).mono ?_; rintro e w' ⟨rfl, hw'⟩; rw [hw']; clear hw' w')
       go_ret
       exact ⟨rfl, eX⟩
      ·rw [kC_3]
       simp only [Bool.not_false, Bool.not_true, Bool.true_and, Bool.false_and, Bool.and_true, Bool.and_false]
       go_enter Tryz.func219, Tryz.ntmps219
       go_wp2
       go_quiet ((go_at_call 230; first | (with_reducible exact Calls.quiet_of_same (HR.out _ eX)) | (with_reducible exact Calls.quiet_of_same (HT.out _ eX))))
       go_wp2_with (go_at_call 106; refine (inRange_any _ _ _ _).mono ?_; rintro e w' ⟨rfl, hw'⟩; rw [hw']; clear hw' w')
       go_ret
       exact ⟨rfl, eX⟩
   ·have m3 : (kd == 3) = false := by simpa using k3
    by_cases k4 : kd = 4
    ·subst k4
     cases ha : (R == 2)
     ·rw [kC_4]
      simp only [Bool.not_false, Bool.not_true, Bool.true_and, Bool.false_and, Bool.and_true, Bool.and_false]
      go_enter Tryz.func219, Tryz.ntmps219
      go_wp2
      go_quiet ((go_at_call 230; first | (with_reducible exact Calls.quiet_of_same (HR.out _ eX)) | (with_reducible exact Calls.quiet_of_same (HT.out _ eX))))
      go_wp2_with (go_at_call 106; refine (inRange_any _ _ _ _).mono ?_; rintro e w' ⟨rfl, hw'⟩; rw [hw']; clear hw' w')
      go_ret
      exact ⟨rfl, eX⟩
     ·cases hb : (T == 1)
      ·rw [kC_4]
       simp only [Bool.not_false, Bool.not_true, Bool.true_and, Bool.false_and, Bool.and_true, Bool.and_false]
       go_enter Tryz.func219, Tryz.ntmps219
       go_wp2
       go_quiet ((go_at_call 230; first | (with_reducible exact Calls.quiet_of_same (HR.out _ eX)) | (with_reducible exact Calls.quiet_of_same (HT.out _ eX))))
       go_wp2_with (go_at_call 106; refine (inRange_any _ _ _ _).mono ?_; rintro e w' ⟨rfl, hw'⟩; rw [hw']; clear hw' w')
       go_ret
       exact ⟨rfl, eX⟩
      ·cases hc : (sn == 0)
       ·rw [kC_4]
        simp only [Bool.not_false, Bool.not_true, Bool.true_and, Bool.false_and, Bool.and_true, Bool.and_false]
        go_enter Tryz.func219, Tryz.ntmps219
        go_wp2
        go_quiet ((go_at_call 230; first | (with_reducible exact Calls.quiet_of_same (HR.out _ eX)) | (with_reducible exact Calls.quiet_of_same (HT.out _ eX))))
        go_wp2_with (go_at_call 106; refine (inRange_any _ _ _ _).mono ?_; rintro e w' ⟨rfl, hw'⟩; rw [hw']; clear hw' w')
        go_ret
        exact ⟨rfl, eX⟩
       ·rw [kC_4]
        simp only [Bool.not_false, Bool.not_true, Bool.true_and, Bool.false_and, Bool.and_true, Bool.and_false]
        go_enter Tryz.func219, Tryz.ntmps219
        go_wp2
        go_quiet ((go_at_call 230; first | (with_reducible exact Calls.quiet_of_same (HR.out _ eX)) | (with_reducible exact Calls.quiet_of_same (HT.out _ eX))))
        go_wp2_with (go_at_call 106; refine (inRange_any _ _ _ _).mono ?_; rintro e w' ⟨rfl, hw'⟩; rw [hw']; clear hw' w')
        go_ret
        exact ⟨rfl, eX⟩
    ·have m4 : (kd == 4) = false := by simpa using k4
     by_cases k5 : kd = 5
     ·subst k5
      cases ha : (R == 2)
      ·rw [kC_5]
       simp only [Bool.not_false, Bool.not_true, Bool.true_and, Bool.false_and, Bool.and_true, Bool.and_false]
       go_enter Tryz.func219, Tryz.ntmps219
       go_wp2
       go_quiet ((go_at_call 230; first | (with_reducible exact Calls.quiet_of_same (HR.out _ eX)) | (with_reducible exact Calls.quiet_of_same (HT.out _ eX))))
       go_wp2_with (go_at_call 106; refine (inRange_any _ _ _ _).mono ?_; rintro e w' ⟨rfl, hw'⟩; rw [hw']; clear hw' w')
       go_ret
       exact ⟨rfl, eX⟩
      ·cases hb : (T == 1)
       ·rw [kC_5]
        simp only [Bool.not_false, Bool.not_true, Bool.true_and, Bool.false_and, Bool.and_true, Bool.and_false]
        go_enter Tryz.func219, Tryz.ntmps219
        go_wp2
        go_quiet ((go_at_call 230; first | (with_reducible exact Calls.quiet_of_same (HR.out _ eX)) | (with_reducible exact Calls.quiet_of_same (HT.out _ eX))))
        go_wp2_with (go_at_call 106; refine (inRange_any _ _ _ _).mono ?_; rintro e w' ⟨rfl, hw'⟩; rw [hw']; clear hw' w')
        go_ret
        exact ⟨rfl, eX⟩
       ·cases hc : (sn == 0)
        ·rw [kC_5]
         simp only [Bool.not_false, Bool.not_true, Bool.true_and, Bool.false_and, Bool.and_true, Bool.and_false]
         go_enter Tryz.func219, Tryz.ntmps219
         go_wp2
         go_quiet ((go_at_call 230; first | (with_reducible exact Calls.quiet_of_same (HR.out _ eX)) | (with_reducible exact Calls.quiet_of_same (HT.out _ eX))))
         go_wp2_with (go_at_call 106; refine (inRange_any _ _ _ _).mono ?_; rintro e w' ⟨rfl, hw'⟩; rw [hw']; clear hw' w')
         go_ret
         exact ⟨rfl, eX⟩
        ·rw [kC_5]
         simp only [Bool.not_false, Bool.not_true, Bool.true_and, Bool.false_and, Bool.and_true, Bool.and_false]
         go_enter Tryz.func219, Tryz.ntmps219
         go_wp2
         go_quiet ((go_at_call 230; first | (with_reducible exact Calls.quiet_of_same (HR.out _ eX)) | (with_reducible exact Calls.quiet_of_same (HT.out _ eX))))
         go_wp2_with (go_at_call 106; refine (inRange_any _ _ _ _).mono ?_; rintro e w' ⟨rfl, hw'⟩; rw [hw']; clear hw' w')
         go_ret
         exact ⟨rfl, eX⟩
     ·have m5 : (kd == 5) = false := by simpa using k5
      rw [kC_no k1 k2 k3 k4 k5]
      go_enter Tryz.func219, Tryz.ntmps219
      go_wp2
      go_quiet ((go_at_call 230; first | (with_reducible exact Calls.quiet_of_same (HR.out _ eX)) | (with_reducible exact Calls.quiet_of_same (HT.out _ eX))))
      go_wp2_with (go_at_call 106; refine (inRange_any _ _ _ _).mono ?_; rintro e w' ⟨rfl, hw'⟩; rw [hw']; clear hw' w')
      go_ret
      exact ⟨rfl, eX⟩
theorem isCheck_yes (k : Int) (h : k = 4 ∨ k = 5) (w : World) : Calls Tryz.prog 231 #[.int .i64 k] w fun e w' => e = .returned (.bool true) ∧ w' = w := by
 rcases h with rfl | rfl
 ·go_enter Tryz.func231, Tryz.ntmps231
  go_wp2
  go_ret
  exact ⟨rfl, rfl⟩
 ·go_enter Tryz.func231, Tryz.ntmps231
  go_wp2
  go_ret
  exact ⟨rfl, rfl⟩
theorem isCheck_no (k : Int) (h : ¬ (k = 4 ∨ k = 5)) (w : World) : Calls Tryz.prog 231 #[.int .i64 k] w fun e w' => e = .returned (.bool false) ∧ w' = w := by
 have m4 : (k == 4) = false := by simp; omega
 have m5 : (k == 5) = false := by simp; omega
 clear h
 go_enter Tryz.func231, Tryz.ntmps231
 go_wp2
 go_ret
 exact ⟨rfl, rfl⟩
set_option maxHeartbeats 4000000 in
theorem hasTables_any (g : Nat → Value) (a : ArcD) (w : World) (h' : ArcF w w.heap.size g a) :
  Calls Tryz.prog 220 #[.agg #[g 0, g 1, g 2, g 3, g 4, g 5]] w fun e w' => e = .returned (.bool (hasB a)) ∧ Below w.heap.size w w' := by
 obtain ⟨kd, src, dst, sn, dl, sl⟩ := a
 obtain ⟨g0, g1, g2, g3, z4, z5⟩ := h'
 simp only at g0 g1 g2 g3 z4 z5
 obtain ⟨r4, s4, g4⟩ := z4.slice; obtain ⟨r5, s5, g5⟩ := z5.slice
 rw [g4] at z4; rw [g5] at z5
 rw [g0, g1, g2, g3, g4, g5]
 have X4 := lh z4; have X5 := lh z5
 unfold hasB
 simp only
 clear z4 z5 g0 g1 g2 g3 g4 g5
 by_cases k : kd = 4 ∨ kd = 5
 ·rw [if_pos k]
  have HN := lh (fun (w1 : World) (hb : Below w.heap.size w w1) => areTables_any _ dl false w1 (X4.out.up hb))
  have e : leastI false = -1000000 := rfl
  rw [e] at HN
  clear e
  rcases k with rfl | rfl
  ·cases hs : ((sl.length : Int) == 0)
   ·go_enter Tryz.func220, Tryz.ntmps220
    go_wp2_with (go_at_call 231; with_reducible refine (isCheck_yes _ (by decide) _).mono ?_; rintro e w' ⟨rfl, hw'⟩; rw [hw']; clear hw' w')
    go_ret
    exact ⟨rfl, eX⟩
   ·cases ht : tabsOk dl false
    ·rw [ht] at HN
     go_enter Tryz.func220, Tryz.ntmps220
     go_wp2_with (first | (go_at_call 231; with_reducible refine (isCheck_yes _ (by decide) _).mono ?_; rintro e w' ⟨rfl, hw'⟩; rw [hw']; clear hw' w') | (go_at_call 232; refine (HN.out _ eX).mono ?_; rintro e w1 ⟨rfl, hb⟩; have ⟨hc, hf⟩ := bcell hb; have hz := hb.size; (try simp at hz); (try have hz := Nat.lt_of_succ_le hz); (try have y0 := wy w w1); (try have z0 := wz0 w w1); (try have z1 := wz1 w w1); (try have z2 := wz2 w w1); (try have z3 := wz3 w w1); (try have z4 := wz4 w w1); (try have x0 := wz0 wc w1); (try have x1 := wy wc w1)))
     go_ret
     exact ⟨rfl, eX⟩
    ·rw [ht] at HN
     go_enter Tryz.func220, Tryz.ntmps220
     go_wp2_with (first | (go_at_call 231; with_reducible refine (isCheck_yes _ (by decide) _).mono ?_; rintro e w' ⟨rfl, hw'⟩; rw [hw']; clear hw' w') | (go_at_call 232; refine (HN.out _ eX).mono ?_; rintro e w1 ⟨rfl, hb⟩; have ⟨hc, hf⟩ := bcell hb; have hz := hb.size; (try simp at hz); (try have hz := Nat.lt_of_succ_le hz); (try have y0 := wy w w1); (try have z0 := wz0 w w1); (try have z1 := wz1 w w1); (try have z2 := wz2 w w1); (try have z3 := wz3 w w1); (try have z4 := wz4 w w1); (try have x0 := wz0 wc w1); (try have x1 := wy wc w1)))
     go_ret
     exact ⟨rfl, eX⟩
  ·cases hs : ((sl.length : Int) == 0)
   ·go_enter Tryz.func220, Tryz.ntmps220
    go_wp2_with (go_at_call 231; with_reducible refine (isCheck_yes _ (by decide) _).mono ?_; rintro e w' ⟨rfl, hw'⟩; rw [hw']; clear hw' w')
    go_ret
    exact ⟨rfl, eX⟩
   ·cases ht : tabsOk dl false
    ·rw [ht] at HN
     go_enter Tryz.func220, Tryz.ntmps220
     go_wp2_with (first | (go_at_call 231; with_reducible refine (isCheck_yes _ (by decide) _).mono ?_; rintro e w' ⟨rfl, hw'⟩; rw [hw']; clear hw' w') | (go_at_call 232; refine (HN.out _ eX).mono ?_; rintro e w1 ⟨rfl, hb⟩; have ⟨hc, hf⟩ := bcell hb; have hz := hb.size; (try simp at hz); (try have hz := Nat.lt_of_succ_le hz); (try have y0 := wy w w1); (try have z0 := wz0 w w1); (try have z1 := wz1 w w1); (try have z2 := wz2 w w1); (try have z3 := wz3 w w1); (try have z4 := wz4 w w1); (try have x0 := wz0 wc w1); (try have x1 := wy wc w1)))
     go_ret
     exact ⟨rfl, eX⟩
    ·rw [ht] at HN
     go_enter Tryz.func220, Tryz.ntmps220
     go_wp2_with (first | (go_at_call 231; with_reducible refine (isCheck_yes _ (by decide) _).mono ?_; rintro e w' ⟨rfl, hw'⟩; rw [hw']; clear hw' w') | (go_at_call 232; refine (HN.out _ eX).mono ?_; rintro e w1 ⟨rfl, hb⟩; have ⟨hc, hf⟩ := bcell hb; have hz := hb.size; (try simp at hz); (try have hz := Nat.lt_of_succ_le hz); (try have y0 := wy w w1); (try have z0 := wz0 w w1); (try have z1 := wz1 w w1); (try have z2 := wz2 w w1); (try have z3 := wz3 w w1); (try have z4 := wz4 w w1); (try have x0 := wz0 wc w1); (try have x1 := wy wc w1)))
     go_ret
     exact ⟨rfl, eX⟩
 ·rw [if_neg k]
  have K := lh k
  have m4 : (kd == 4) = false := by simp; omega
  have m5 : (kd == 5) = false := by simp; omega
  have HP := lh (fun (w1 : World) (hb : Below w.heap.size w w1) => areTables_any _ dl true w1 (X4.out.up hb))
  have HS := lh (fun (w1 : World) (hb : Below w.heap.size w w1) => areTables_any _ sl true w1 (X5.out.up hb))
  have e : leastI true = 0 := rfl
  rw [e] at HP HS
  clear e k
  cases ht : tabsOk dl true
  ·rw [ht] at HP
   go_enter Tryz.func220, Tryz.ntmps220
   go_wp2_with (first | (go_at_call 231; with_reducible refine (isCheck_no _ K.out _).mono ?_; rintro e w' ⟨rfl, hw'⟩; rw [hw']; clear hw' w') | (go_at_call 232; with_reducible refine (HP.out _ eX).mono ?_; rintro e w1 ⟨rfl, hb⟩; have ⟨hc, hf⟩ := bcell hb; have hz := hb.size; (try simp at hz); (try have hz := Nat.lt_of_succ_le hz); (try have y0 := wy w w1); (try have z0 := wz0 w w1); (try have z1 := wz1 w w1); (try have z2 := wz2 w w1); (try have z3 := wz3 w w1); (try have z4 := wz4 w w1); (try have x0 := wz0 wc w1); (try have x1 := wy wc w1)))
   go_ret
   exact ⟨rfl, eX⟩
  ·cases hs : tabsOk sl true
   ·rw [ht] at HP
    rw [hs] at HS
    go_enter Tryz.func220, Tryz.ntmps220
    go_wp2_with (first | (go_at_call 231; with_reducible refine (isCheck_no _ K.out _).mono ?_; rintro e w' ⟨rfl, hw'⟩; rw [hw']; clear hw' w') | (go_at_call 232; with_reducible refine (HP.out _ eX).mono ?_; rintro e w1 ⟨rfl, hb⟩; have ⟨hc, hf⟩ := bcell hb; have hz := hb.size; (try simp at hz); (try have hz := Nat.lt_of_succ_le hz); (try have y0 := wy w w1); (try have z0 := wz0 w w1); (try have z1 := wz1 w w1); (try have z2 := wz2 w w1); (try have z3 := wz3 w w1); (try have z4 := wz4 w w1); (try have x0 := wz0 wc w1); (try have x1 := wy wc w1)) | (go_at_call 232; with_reducible refine (HS.out _ eX).mono ?_; rintro e w1 ⟨rfl, hb⟩; have ⟨hc, hf⟩ := bcell hb; have hz := hb.size; (try simp at hz); (try have hz := Nat.lt_of_succ_le hz); (try have y0 := wy w w1); (try have z0 := wz0 w w1); (try have z1 := wz1 w w1); (try have z2 := wz2 w w1); (try have z3 := wz3 w w1); (try have z4 := wz4 w w1); (try have x0 := wz0 wc w1); (try have x1 := wy wc w1)))
    go_ret
    exact ⟨rfl, eX⟩
   ·rw [ht] at HP
    rw [hs] at HS
    go_enter Tryz.func220, Tryz.ntmps220
    go_wp2_with (first | (go_at_call 231; with_reducible refine (isCheck_no _ K.out _).mono ?_; rintro e w' ⟨rfl, hw'⟩; rw [hw']; clear hw' w') | (go_at_call 232; with_reducible refine (HP.out _ eX).mono ?_; rintro e w1 ⟨rfl, hb⟩; have ⟨hc, hf⟩ := bcell hb; have hz := hb.size; (try simp at hz); (try have hz := Nat.lt_of_succ_le hz); (try have y0 := wy w w1); (try have z0 := wz0 w w1); (try have z1 := wz1 w w1); (try have z2 := wz2 w w1); (try have z3 := wz3 w w1); (try have z4 := wz4 w w1); (try have x0 := wz0 wc w1); (try have x1 := wy wc w1)) | (go_at_call 232; with_reducible refine (HS.out _ eX).mono ?_; rintro e w1 ⟨rfl, hb⟩; have ⟨hc, hf⟩ := bcell hb; have hz := hb.size; (try simp at hz); (try have hz := Nat.lt_of_succ_le hz); (try have y0 := wy w w1); (try have z0 := wz0 w w1); (try have z1 := wz1 w w1); (try have z2 := wz2 w w1); (try have z3 := wz3 w w1); (try have z4 := wz4 w w1); (try have x0 := wz0 wc w1); (try have x1 := wy wc w1)))
    go_ret
    exact ⟨rfl, eX⟩
theorem rl_at {ps : List PinD} (hp : pinsB ps = true) {k : Nat} (hk : k < ps.length) : rl ps (k : Int) = if k + 1 = ps.length then 3 else if (pn ps k).clock then 2 else 1 := by
 have ⟨p2, p5, hok, _⟩ := pins_get hp
 unfold rl
 rw [inB_yes (by omega) (by omega)]
 simp only [Int.toNat_natCast, if_true]
 by_cases e : k + 1 = ps.length
 ·have h := hok k hk
  rw [pinOk_last e] at h
  simp only [Bool.and_eq_true, decide_eq_true_eq] at h
  rw [if_pos h.2.1.1, if_pos e]
 ·have h := hok k hk
  rw [pinOk_in e] at h
  simp only [Bool.and_eq_true, decide_eq_true_eq] at h
  rw [if_neg (by rw [h.2]; decide), if_neg e]
theorem rl_out {ps : List PinD} {x : Int} (h : inB x 0 ((ps.length : Int) - 1) = false) : rl ps x = 0 := by unfold rl; rw [h]; rfl
theorem arc_same {ps : List PinD} (hp : pinsB ps = true) (a : ArcD) : (conB ps a && hasB a) = sArc ps a := by
 obtain ⟨kd, src, dst, sn, dl, sl⟩ := a
 unfold conB hasB sArc ckI
 simp only
 have ⟨p2, p5, hok, _⟩ := pins_get hp
 by_cases hs : 0 ≤ src ∧ src ≤ (ps.length : Int) - 1
 ·obtain ⟨s, rfl⟩ := Int.eq_ofNat_of_zero_le hs.1
  have hsn : s < ps.length := by omega
  rw [rl_at hp hsn]
  by_cases hd : 0 ≤ dst ∧ dst ≤ (ps.length : Int) - 1
  ·obtain ⟨d, rfl⟩ := Int.eq_ofNat_of_zero_le hd.1
   have hdn : d < ps.length := by omega
   rw [rl_at hp hdn]
   have hj : inB (d : Int) 0 ((ps.length : Int) - 1) = true := inB_yes (by omega) (by omega)
   rw [hj]
   simp only [Int.toNat_natCast]
   by_cases es : s + 1 = ps.length
   ·have hi : inB (s : Int) 0 ((ps.length : Int) - 1 - 1) = false := inB_no2 (by omega)
    rw [hi, if_pos es]
    have z1 : ((3 : Int) == 1) = false := by decide
    have z2 : ((3 : Int) == 2) = false := by decide
    rw [z1, z2]
    simp [kC]
   ·have hi : inB (s : Int) 0 ((ps.length : Int) - 1 - 1) = true := inB_yes (by omega) (by omega)
    rw [hi, if_neg es]
    by_cases ed : d + 1 = ps.length
    ·have q1 : ((d : Int) == (ps.length : Int) - 1) = true := by simp; omega
     have q2 : decide ((d : Int) < (ps.length : Int) - 1) = false := by simp; omega
     rw [if_pos ed, q1, q2]
     by_cases k1 : kd = 1
     ·subst k1; rw [kC_1, kB_1]; cases (pn ps s).clock <;> cases inB sn 1 3 <;> simp
     ·by_cases k2 : kd = 2
      ·subst k2; rw [kC_2, kB_2]; cases (pn ps s).clock <;> cases (sn == 0) <;> simp
      ·by_cases k3 : kd = 3
       ·subst k3; rw [kC_3, kB_3]; cases (pn ps s).clock <;> cases (sn == 0) <;> simp
       ·by_cases k4 : kd = 4
        ·subst k4; rw [kC_4, kB_4]; simp
        ·by_cases k5 : kd = 5
         ·subst k5; rw [kC_5, kB_5]; simp
         ·rw [kC_no k1 k2 k3 k4 k5, kB_no k1 k2 k3 k4 k5]; simp
    ·have q1 : ((d : Int) == (ps.length : Int) - 1) = false := by simp; omega
     have q2 : decide ((d : Int) < (ps.length : Int) - 1) = true := by simp; omega
     rw [if_neg ed, q1, q2]
     have z3 : ((if (pn ps d).clock = true then (2 : Int) else 1) == 3) = false := by cases (pn ps d).clock <;> decide
     have z1 : ((if (pn ps d).clock = true then (2 : Int) else 1) == 1) = !(pn ps d).clock := by cases (pn ps d).clock <;> decide
     rw [z3, z1]
     by_cases k1 : kd = 1
     ·subst k1; rw [kC_1, kB_1]; simp
     ·by_cases k2 : kd = 2
      ·subst k2; rw [kC_2, kB_2]; simp
      ·by_cases k3 : kd = 3
       ·subst k3; rw [kC_3, kB_3]; simp
       ·by_cases k4 : kd = 4
        ·subst k4; rw [kC_4, kB_4]; cases (pn ps s).clock <;> cases (pn ps d).clock <;> cases (sn == 0) <;> cases tabsOk dl false <;> simp
        ·by_cases k5 : kd = 5
         ·subst k5; rw [kC_5, kB_5]; cases (pn ps s).clock <;> cases (pn ps d).clock <;> cases (sn == 0) <;> cases tabsOk dl false <;> simp
         ·rw [kC_no k1 k2 k3 k4 k5, kB_no k1 k2 k3 k4 k5]; simp
  ·have hj : inB dst 0 ((ps.length : Int) - 1) = false := by
    by_cases h0 : 0 ≤ dst
    ·exact inB_no2 (fun h => hd ⟨h0, h⟩)
    ·exact inB_no1 h0
   rw [rl_out hj, hj]
   have z1 : ((0 : Int) == 1) = false := by decide
   have z3 : ((0 : Int) == 3) = false := by decide
   rw [z1, z3]
   simp [kC]
 ·have hj : inB src 0 ((ps.length : Int) - 1) = false := by
   by_cases h0 : 0 ≤ src
   ·exact inB_no2 (fun h => hs ⟨h0, h⟩)
   ·exact inB_no1 h0
  have hi : inB src 0 ((ps.length : Int) - 1 - 1) = false := by
   by_cases h0 : 0 ≤ src
   ·exact inB_no2 (fun h => hs ⟨h0, by omega⟩)
   ·exact inB_no1 h0
  rw [rl_out hj, hi]
  have z1 : ((0 : Int) == 1) = false := by decide
  have z2 : ((0 : Int) == 2) = false := by decide
  rw [z1, z2]
  simp [kC]
def arcsB (ps : List PinD) (ts : List ArcD) : Bool := decide (ts.length ≤ 8) && allB (fun i => sArc ps (an ts i)) ts.length && allB (difAr ts) ts.length
theorem arcs_long {ps : List PinD} {ts : List ArcD} (h : 8 < ts.length) : arcsB ps ts = false := by
 have : ¬ ts.length ≤ 8 := by omega
 simp [arcsB, this]
theorem arcs_bad {ps : List PinD} {ts : List ArcD} {k : Nat} (hk : k < ts.length) (h : sArc ps (an ts k) = false) : arcsB ps ts = false := by
 unfold arcsB
 rw [allB_no (p := fun i => sArc ps (an ts i)) hk h]
 simp
theorem arcs_dup {ps : List PinD} {ts : List ArcD} {k : Nat} (hk : k < ts.length) (h : difAr ts k = false) : arcsB ps ts = false := by
 unfold arcsB
 rw [allB_no (p := difAr ts) hk h]
 simp
theorem arcs_all {ps : List PinD} {ts : List ArcD} (h0 : ts.length ≤ 8) (h : ∀ i, i < ts.length → sArc ps (an ts i) = true) : arcsB ps ts = allB (difAr ts) ts.length := by
 unfold arcsB
 rw [allB_yes (p := fun i => sArc ps (an ts i)) h]
 simp [h0]
theorem arcs_get {ps : List PinD} {ts : List ArcD} (h : arcsB ps ts = true) : ts.length ≤ 8 ∧ (∀ i, i < ts.length → sArc ps (an ts i) = true) ∧ ∀ i, i < ts.length → difAr ts i = true := by
 simp only [arcsB, Bool.and_eq_true, decide_eq_true_eq] at h
 exact ⟨h.1.1, allB_get h.1.2, allB_get h.2⟩
set_option maxRecDepth 100000 in
set_option maxHeartbeats 4000000 in
theorem areArcs_any (v u : Value) (ts : List ArcD) (ps : List PinD) (w : World) (h : ArcsS w w.heap.size v ts) (h' : PinsS w w.heap.size u ps) (hp : pinsB ps = true) :
  Calls Tryz.prog 202 #[v, u] w fun e w' => e = .returned (.bool (arcsB ps ts)) ∧ Below w.heap.size w w' := by
 have H := lh h; have P := lh h'; have HPB := lh hp
 obtain ⟨pp, pq, rfl⟩ := h'.slice
 obtain ⟨F, hc, hf⟩ := h
 obtain ⟨n, hnn⟩ : ∃ n, n = ts.length := ⟨_, rfl⟩
 rw [← hnn] at hc hf
 have HC := hc
 obtain ⟨hn, a, cap, rfl, _⟩ := hc
 have HC := lh HC; have HF := lh hf; have HN := lh hnn
 clear hf hnn h' hp
 by_cases c8 : 8 < n
 ·have hQ := lh (arcs_long (ps := ps) (ts := ts) (by have := HN.out; omega))
  have c8' : (8 : Int) < (n : Int) := by omega
  go_enter Tryz.func202, Tryz.ntmps202
  go_wp2
  rw [hQ.out]
  go_ret
  exact ⟨rfl, eX⟩
 ·have c8' : ¬ (8 : Int) < (n : Int) := by omega
  go_enter Tryz.func202, Tryz.ntmps202
  go_wp2
  go_loopw [12] (fun i wr => ∃ k : Nat, k ≤ n ∧ i = .int .i64 k ∧ Hid (∀ j, j < k → sArc ps (an ts j) = true) ∧ Below w.heap.size w wr) (fun i _ => n - (intOf i).toNat)
  case atStart => exact ⟨0, by omega, rfl, lh (fun j hj => absurd hj (Nat.not_lt_zero j)), eX⟩
  case round =>
   obtain ⟨k, hk, rfl, hall, hbw⟩ := hrel
   by_cases hkn : k < n
   ·obtain ⟨b, off, rfl, hlt, hx⟩ := HC.out.at hbw hkn
    have y0 := hx 0 (by omega); have y1 := hx 1 (by omega); have y2 := hx 2 (by omega); have y3 := hx 3 (by omega); have y4 := hx 4 (by omega); have y5 := hx 5 (by omega)
    simp only [Nat.add_zero] at y0
    have ⟨e0, e1, e2, e3, x4, x5⟩ := (HF.out k hkn).up hbw
    obtain ⟨p4, q4, e4⟩ := x4.slice; obtain ⟨p5, q5, e5⟩ := x5.slice
    rw [e4] at x4; rw [e5] at x5
    rw [e0] at y0; rw [e1] at y1; rw [e2] at y2; rw [e3] at y3; rw [e4] at y4; rw [e5] at y5
    have HA := lh (show ArcF wr wr.heap.size (vec [.int .i64 (an ts k).kind, .int .i64 (an ts k).src, .int .i64 (an ts k).dst, .int .i64 (an ts k).sense, .slice p4 (an ts k).delay.length q4, .slice p5 (an ts k).slew.length q5]) (an ts k) from ⟨rfl, rfl, rfl, rfl, x4, x5⟩)
    have HCn := lh (fun (w1 : World) (hb : Below wr.heap.size wr w1) => connects_any _ (an ts k) _ ps w1 (HA.out.up hb) (P.out.up (ext_trans hbw hb)))
    have HHs := lh (fun (w1 : World) (hb : Below wr.heap.size wr w1) => hasTables_any _ (an ts k) w1 (HA.out.up hb))
    have hsame := arc_same HPB.out (an ts k)
    have hI : (k : Int) < (n : Int) := by omega
    have i0 : (0 : Int) ≤ (k : Int) := by omega
    clear hx e0 e1 e2 e3 e4 e5 x4 x5
    cases hcn : conB ps (an ts k)
    ·rw [hcn] at hsame HCn
     have hQ := lh (arcs_bad (ps := ps) (ts := ts) (k := k) (by have := HN.out; omega) (by rw [← hsame]; rfl))
     clear hsame
     go_wp2_with (go_at_call 219; refine (HCn.out _ eX).mono ?_; rintro e w1 ⟨rfl, hb⟩; have ⟨hc, hf⟩ := bcell hb; have hz := hb.size; (try simp at hz); (try have hz := Nat.lt_of_succ_le hz); (try have y0 := wy w w1); (try have z0 := wz0 w w1); (try have z1 := wz1 w w1); (try have z2 := wz2 w w1); (try have z3 := wz3 w w1); (try have z4 := wz4 w w1); (try have x0 := wz0 wc w1); (try have x1 := wy wc w1))
     rw [hQ.out]
     go_ret
     exact ⟨rfl, eX⟩
    ·cases hhs : hasB (an ts k)
     ·rw [hcn, hhs] at hsame
      rw [hcn] at HCn
      rw [hhs] at HHs
      have hQ := lh (arcs_bad (ps := ps) (ts := ts) (k := k) (by have := HN.out; omega) (by rw [← hsame]; rfl))
      clear hsame
      go_wp2_with (first | (go_at_call 219; refine (HCn.out _ eX).mono ?_; rintro e w1 ⟨rfl, hb⟩; have ⟨hc, hf⟩ := bcell hb; have hz := hb.size; (try simp at hz); (try have hz := Nat.lt_of_succ_le hz); (try have y0 := wy w w1); (try have z0 := wz0 w w1); (try have z1 := wz1 w w1); (try have z2 := wz2 w w1); (try have z3 := wz3 w w1); (try have z4 := wz4 w w1); (try have x0 := wz0 wc w1); (try have x1 := wy wc w1)) | (go_at_call 220; refine (HHs.out _ eX).mono ?_; rintro e w1 ⟨rfl, hb⟩; have ⟨hc, hf⟩ := bcell hb; have hz := hb.size; (try simp at hz); (try have hz := Nat.lt_of_succ_le hz); (try have y0 := wy w w1); (try have z0 := wz0 w w1); (try have z1 := wz1 w w1); (try have z2 := wz2 w w1); (try have z3 := wz3 w w1); (try have z4 := wz4 w w1); (try have x0 := wz0 wc w1); (try have x1 := wy wc w1)))
      rw [hQ.out]
      go_ret
      exact ⟨rfl, eX⟩
     ·rw [hcn, hhs] at hsame
      rw [hcn] at HCn
      rw [hhs] at HHs
      have hok := lh (all_more (p := fun j => sArc ps (an ts j) = true) hall.out (by rw [← hsame]; rfl))
      clear hsame
      go_wp2_with (first | (go_at_call 219; refine (HCn.out _ eX).mono ?_; rintro e w1 ⟨rfl, hb⟩; have ⟨hc, hf⟩ := bcell hb; have hz := hb.size; (try simp at hz); (try have hz := Nat.lt_of_succ_le hz); (try have y0 := wy w w1); (try have z0 := wz0 w w1); (try have z1 := wz1 w w1); (try have z2 := wz2 w w1); (try have z3 := wz3 w w1); (try have z4 := wz4 w w1); (try have x0 := wz0 wc w1); (try have x1 := wy wc w1)) | (go_at_call 220; refine (HHs.out _ eX).mono ?_; rintro e w1 ⟨rfl, hb⟩; have ⟨hc, hf⟩ := bcell hb; have hz := hb.size; (try simp at hz); (try have hz := Nat.lt_of_succ_le hz); (try have y0 := wy w w1); (try have z0 := wz0 w w1); (try have z1 := wz1 w w1); (try have z2 := wz2 w w1); (try have z3 := wz3 w w1); (try have z4 := wz4 w w1); (try have x0 := wz0 wc w1); (try have x1 := wy wc w1)))
      go_roundw
      case rel => exact ⟨k + 1, by omega, by go_num, hok, eX⟩
      case measure => simp [intOf]; omega
   ·obtain rfl : k = n := by omega
    have hI : ¬ (k : Int) < (k : Int) := by omega
    have HB := lh (arcs_all (ps := ps) (ts := ts) (by have := HN.out; omega) (by rw [← HN.out]; exact hall.out))
    have HX := lh (difAr_any _ ts wr (H.out.up hbw))
    rw [← HB.out] at HX
    go_wp2_with fail
    (go_at_call 221; refine (HX.out).mono ?_; rintro e w1 ⟨rfl, hb⟩; have ⟨hc, hf⟩ := bcell hb; have hz := hb.size; (try simp at hz); (try have hz := Nat.lt_of_succ_le hz); (try have y0 := wy w w1); (try have z0 := wz0 w w1); (try have z1 := wz1 w w1); (try have z2 := wz2 w w1); (try have z3 := wz3 w w1); (try have z4 := wz4 w w1))
    go_wp2_with fail
    go_ret
    exact ⟨rfl, eX⟩
end Go.Proofs.YtkpfbnffhhmokaaGreat
