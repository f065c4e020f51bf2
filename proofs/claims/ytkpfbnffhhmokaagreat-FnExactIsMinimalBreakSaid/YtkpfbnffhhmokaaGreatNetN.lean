/-
The program's check of names: areNamed over instances, ports and nets.
-/
import Derived.Test.YtkpfbnffhhmokaaGreatIndexD
import Derived.Test.YtkpfbnffhhmokaaGreatNetP
import Derived.Test.YtkpfbnffhhmokaaGreatNum
import Derived.Test.YtkpfbnffhhmokaaGreatKinds
namespace Go.Proofs.YtkpfbnffhhmokaaGreat
open Go.ChangeShapes Go.WideShapes Go.ChangeAt Go.RowKit
set_option linter.unusedVariables false
set_option linter.unusedSimpArgs false
set_option maxHeartbeats 1000000 in
theorem areIn_any (v : Value) (ps : List InstD) (w : World) (h : InstsS w w.heap.size v ps) :
  Calls Tryz.prog 177 #[v, .func (.func 178) #[] #[]] w fun e w' => e = .returned (.bool (namesB (fun i => (inn ps i).name) ps.length)) ∧ Below w.heap.size w w' := by
 have H := lh h
 obtain ⟨F, hc, hf⟩ := h
 obtain ⟨n, hnn⟩ : ∃ n, n = ps.length := ⟨_, rfl⟩
 rw [← hnn] at hc hf ⊢
 have HC := hc
 obtain ⟨hn, a, cap, rfl, _⟩ := hc
 have HC := lh HC; have HF := lh hf; have HN := lh hnn
 clear hf hnn
 go_enter Tryz.func177, Tryz.ntmps177
 go_wp2
 go_loopw [9] (fun i wr => ∃ k : Nat, k ≤ n ∧ i = .int .i64 k ∧ Hid (∀ j, j < k → nameB ((inn ps j).name) = true) ∧ Below w.heap.size w wr) (fun i _ => n - (intOf i).toNat)
 case atStart => exact ⟨0, by omega, rfl, lh (fun j hj => absurd hj (Nat.not_lt_zero j)), eX⟩
 case round =>
  obtain ⟨k, hk, rfl, hall, hbw⟩ := hrel
  by_cases hkn : k < n
  ·obtain ⟨b, off, rfl, hlt, hx⟩ := HC.out.at hbw hkn
   have y0 := hx 0 (by omega)
   have y1 := hx 1 (by omega)
   have y2 := hx 2 (by omega)
   simp only [Nat.add_zero] at y0
   have hI : (k : Int) < (n : Int) := by omega
   have i0 : (0 : Int) ≤ (k : Int) := by omega
   clear hx
   have ⟨e0, e1, x2, hs⟩ := (HF.out k hkn).up hbw
   obtain ⟨p2, q2, e2⟩ := x2.slice
   rw [e2] at x2
   rw [e0] at y0; rw [e1] at y1; rw [e2] at y2
   have HA := lh (show InstF wr wr.heap.size (vec [.string (inn ps k).name, .int .i64 (inn ps k).cell, .slice p2 (inn ps k).nets.length q2]) (inn ps k) from ⟨rfl, rfl, x2, hs⟩)
   clear e0 e1 e2 x2
   have HQ := lh (fun (w1 : World) => implName_any ((inn ps k).name) w1 HA.out.2.2.2)
   cases hd : nameB ((inn ps k).name)
   ·have hQ := lh (names_bad (nm := fun i => (inn ps i).name) hkn hd)
    rw [hd] at HQ
    clear hd
    go_wp2_with (first | (go_at_call 178; refine (nameOfInstance_any (vec [.string (inn ps k).name, .int .i64 (inn ps k).cell, .slice p2 (inn ps k).nets.length q2]) (inn ps k) _ (HA.out.up eX)).mono ?_; rintro e w1 ⟨rfl, hb⟩; have ⟨hc, hf⟩ := bcell hb; have hz := hb.size; (try simp at hz); (try have hz := Nat.lt_of_succ_le hz); (try have y0 := wy w w1); (try have z0 := wz0 w w1); (try have z1 := wz1 w w1); (try have z2 := wz2 w w1); (try have z3 := wz3 w w1); (try have z4 := wz4 w w1); (try have x0 := wz0 wc w1); (try have x1 := wy wc w1)) | (go_at_call 197; refine (HQ.out _).mono ?_; rintro e w1 ⟨rfl, hb⟩; have ⟨hc, hf⟩ := bcell hb; have hz := hb.size; (try simp at hz); (try have hz := Nat.lt_of_succ_le hz); (try have y0 := wy w w1); (try have z0 := wz0 w w1); (try have z1 := wz1 w w1); (try have z2 := wz2 w w1); (try have z3 := wz3 w w1); (try have z4 := wz4 w w1); (try have x0 := wz0 wc w1); (try have x1 := wy wc w1)))
    rw [hQ.out]
    go_ret
    exact ⟨rfl, eX⟩
   ·have hok := lh (all_more hall.out hd)
    rw [hd] at HQ
    clear hd
    go_wp2_with (first | (go_at_call 178; refine (nameOfInstance_any (vec [.string (inn ps k).name, .int .i64 (inn ps k).cell, .slice p2 (inn ps k).nets.length q2]) (inn ps k) _ (HA.out.up eX)).mono ?_; rintro e w1 ⟨rfl, hb⟩; have ⟨hc, hf⟩ := bcell hb; have hz := hb.size; (try simp at hz); (try have hz := Nat.lt_of_succ_le hz); (try have y0 := wy w w1); (try have z0 := wz0 w w1); (try have z1 := wz1 w w1); (try have z2 := wz2 w w1); (try have z3 := wz3 w w1); (try have z4 := wz4 w w1); (try have x0 := wz0 wc w1); (try have x1 := wy wc w1)) | (go_at_call 197; refine (HQ.out _).mono ?_; rintro e w1 ⟨rfl, hb⟩; have ⟨hc, hf⟩ := bcell hb; have hz := hb.size; (try simp at hz); (try have hz := Nat.lt_of_succ_le hz); (try have y0 := wy w w1); (try have z0 := wz0 w w1); (try have z1 := wz1 w w1); (try have z2 := wz2 w w1); (try have z3 := wz3 w w1); (try have z4 := wz4 w w1); (try have x0 := wz0 wc w1); (try have x1 := wy wc w1)))
    go_roundw
    case rel => exact ⟨k + 1, by omega, by go_num, hok, eX⟩
    case measure => simp [intOf]; omega
  ·obtain rfl : k = n := by omega
   have hI : ¬ (k : Int) < (k : Int) := by omega
   have HX := lh (difIn_any _ ps wr (H.out.up hbw))
   have HB := lh (names_all (nm := fun i => (inn ps i).name) hall.out)
   rw [← HN.out, show allB (difIn ps) k = allB (difN (fun i => (inn ps i).name)) k from rfl, ← HB.out] at HX
   go_wp2_with fail
   (go_at_call 206; refine (HX.out).mono ?_; rintro e w1 ⟨rfl, hb⟩; have ⟨hc, hf⟩ := bcell hb; have hz := hb.size; (try simp at hz); (try have hz := Nat.lt_of_succ_le hz); (try have y0 := wy w w1); (try have z0 := wz0 w w1); (try have z1 := wz1 w w1); (try have z2 := wz2 w w1); (try have z3 := wz3 w w1); (try have z4 := wz4 w w1))
   go_wp2_with fail
   go_ret
   exact ⟨rfl, eX⟩
set_option maxHeartbeats 1000000 in
theorem arePo_any (v : Value) (ps : List PortD) (w : World) (h : PortsS w w.heap.size v ps) :
  Calls Tryz.prog 181 #[v, .func (.func 182) #[] #[]] w fun e w' => e = .returned (.bool (namesB (fun i => (ptn ps i).name) ps.length)) ∧ Below w.heap.size w w' := by
 have H := lh h
 obtain ⟨F, hc, hf⟩ := h
 obtain ⟨n, hnn⟩ : ∃ n, n = ps.length := ⟨_, rfl⟩
 rw [← hnn] at hc hf ⊢
 have HC := hc
 obtain ⟨hn, a, cap, rfl, _⟩ := hc
 have HC := lh HC; have HF := lh hf; have HN := lh hnn
 clear hf hnn
 go_enter Tryz.func181, Tryz.ntmps181
 go_wp2
 go_loopw [9] (fun i wr => ∃ k : Nat, k ≤ n ∧ i = .int .i64 k ∧ Hid (∀ j, j < k → nameB ((ptn ps j).name) = true) ∧ Below w.heap.size w wr) (fun i _ => n - (intOf i).toNat)
 case atStart => exact ⟨0, by omega, rfl, lh (fun j hj => absurd hj (Nat.not_lt_zero j)), eX⟩
 case round =>
  obtain ⟨k, hk, rfl, hall, hbw⟩ := hrel
  by_cases hkn : k < n
  ·obtain ⟨b, off, rfl, hlt, hx⟩ := HC.out.at hbw hkn
   have y0 := hx 0 (by omega)
   have y1 := hx 1 (by omega)
   have y2 := hx 2 (by omega)
   simp only [Nat.add_zero] at y0
   have hI : (k : Int) < (n : Int) := by omega
   have i0 : (0 : Int) ≤ (k : Int) := by omega
   clear hx
   have ⟨e0, e1, e2, hs⟩ := HF.out k hkn
   rw [e0] at y0; rw [e1] at y1; rw [e2] at y2
   have HA := lh (show PortF (vec [.string (ptn ps k).name, .int .i64 (ptn ps k).dir, .int .i64 (ptn ps k).net]) (ptn ps k) from ⟨rfl, rfl, rfl, hs⟩)
   clear e0 e1 e2
   have HQ := lh (fun (w1 : World) => implName_any ((ptn ps k).name) w1 HA.out.2.2.2)
   cases hd : nameB ((ptn ps k).name)
   ·have hQ := lh (names_bad (nm := fun i => (ptn ps i).name) hkn hd)
    rw [hd] at HQ
    clear hd
    go_wp2_with (first | (go_at_call 182; refine (nameOfPort_any (vec [.string (ptn ps k).name, .int .i64 (ptn ps k).dir, .int .i64 (ptn ps k).net]) (ptn ps k) _ HA.out).mono ?_; rintro e w1 ⟨rfl, hb⟩; have ⟨hc, hf⟩ := bcell hb; have hz := hb.size; (try simp at hz); (try have hz := Nat.lt_of_succ_le hz); (try have y0 := wy w w1); (try have z0 := wz0 w w1); (try have z1 := wz1 w w1); (try have z2 := wz2 w w1); (try have z3 := wz3 w w1); (try have z4 := wz4 w w1); (try have x0 := wz0 wc w1); (try have x1 := wy wc w1)) | (go_at_call 197; refine (HQ.out _).mono ?_; rintro e w1 ⟨rfl, hb⟩; have ⟨hc, hf⟩ := bcell hb; have hz := hb.size; (try simp at hz); (try have hz := Nat.lt_of_succ_le hz); (try have y0 := wy w w1); (try have z0 := wz0 w w1); (try have z1 := wz1 w w1); (try have z2 := wz2 w w1); (try have z3 := wz3 w w1); (try have z4 := wz4 w w1); (try have x0 := wz0 wc w1); (try have x1 := wy wc w1)))
    rw [hQ.out]
    go_ret
    exact ⟨rfl, eX⟩
   ·have hok := lh (all_more hall.out hd)
    rw [hd] at HQ
    clear hd
    go_wp2_with (first | (go_at_call 182; refine (nameOfPort_any (vec [.string (ptn ps k).name, .int .i64 (ptn ps k).dir, .int .i64 (ptn ps k).net]) (ptn ps k) _ HA.out).mono ?_; rintro e w1 ⟨rfl, hb⟩; have ⟨hc, hf⟩ := bcell hb; have hz := hb.size; (try simp at hz); (try have hz := Nat.lt_of_succ_le hz); (try have y0 := wy w w1); (try have z0 := wz0 w w1); (try have z1 := wz1 w w1); (try have z2 := wz2 w w1); (try have z3 := wz3 w w1); (try have z4 := wz4 w w1); (try have x0 := wz0 wc w1); (try have x1 := wy wc w1)) | (go_at_call 197; refine (HQ.out _).mono ?_; rintro e w1 ⟨rfl, hb⟩; have ⟨hc, hf⟩ := bcell hb; have hz := hb.size; (try simp at hz); (try have hz := Nat.lt_of_succ_le hz); (try have y0 := wy w w1); (try have z0 := wz0 w w1); (try have z1 := wz1 w w1); (try have z2 := wz2 w w1); (try have z3 := wz3 w w1); (try have z4 := wz4 w w1); (try have x0 := wz0 wc w1); (try have x1 := wy wc w1)))
    go_roundw
    case rel => exact ⟨k + 1, by omega, by go_num, hok, eX⟩
    case measure => simp [intOf]; omega
  ·obtain rfl : k = n := by omega
   have hI : ¬ (k : Int) < (k : Int) := by omega
   have HX := lh (difPo_any _ ps wr (H.out.up hbw))
   have HB := lh (names_all (nm := fun i => (ptn ps i).name) hall.out)
   rw [← HN.out, show allB (difPo ps) k = allB (difN (fun i => (ptn ps i).name)) k from rfl, ← HB.out] at HX
   go_wp2_with fail
   (go_at_call 208; refine (HX.out).mono ?_; rintro e w1 ⟨rfl, hb⟩; have ⟨hc, hf⟩ := bcell hb; have hz := hb.size; (try simp at hz); (try have hz := Nat.lt_of_succ_le hz); (try have y0 := wy w w1); (try have z0 := wz0 w w1); (try have z1 := wz1 w w1); (try have z2 := wz2 w w1); (try have z3 := wz3 w w1); (try have z4 := wz4 w w1))
   go_wp2_with fail
   go_ret
   exact ⟨rfl, eX⟩
set_option maxHeartbeats 1000000 in
theorem areSt_any (v : Value) (ps : List ByteArray) (w : World) (h : TxQ w w.heap.size v ps) :
  Calls Tryz.prog 179 #[v, .func (.func 180) #[] #[]] w fun e w' => e = .returned (.bool (namesB (fun i => sn ps i) ps.length)) ∧ Below w.heap.size w w' := by
 have H := lh h
 obtain ⟨F, hc, hf⟩ := h
 obtain ⟨n, hnn⟩ : ∃ n, n = ps.length := ⟨_, rfl⟩
 rw [← hnn] at hc hf ⊢
 have HC := hc
 obtain ⟨hn, a, cap, rfl, _⟩ := hc
 have HC := lh HC; have HF := lh hf; have HN := lh hnn
 clear hf hnn
 go_enter Tryz.func179, Tryz.ntmps179
 go_wp2
 go_loopw [9] (fun i wr => ∃ k : Nat, k ≤ n ∧ i = .int .i64 k ∧ Hid (∀ j, j < k → nameB (sn ps j) = true) ∧ Below w.heap.size w wr) (fun i _ => n - (intOf i).toNat)
 case atStart => exact ⟨0, by omega, rfl, lh (fun j hj => absurd hj (Nat.not_lt_zero j)), eX⟩
 case round =>
  obtain ⟨k, hk, rfl, hall, hbw⟩ := hrel
  by_cases hkn : k < n
  ·obtain ⟨b, off, rfl, hlt, hx⟩ := HC.out.at hbw hkn
   have y0 := hx 0 (by omega)
   simp only [Nat.add_zero, Nat.mul_one] at y0
   have hI : (k : Int) < (n : Int) := by omega
   have i0 : (0 : Int) ≤ (k : Int) := by omega
   clear hx
   have ⟨e0, hs⟩ := HF.out k hkn
   rw [e0] at y0
   have HA := lh (show StrF (vec [.string (sn ps k)]) (sn ps k) from ⟨rfl, hs⟩)
   clear e0
   have HQ := lh (fun (w1 : World) => implName_any (sn ps k) w1 HA.out.2)
   cases hd : nameB (sn ps k)
   ·have hQ := lh (names_bad (nm := fun i => sn ps i) hkn hd)
    rw [hd] at HQ
    clear hd
    go_wp2_with (first | (go_at_call 180; refine (nameOfNet_s (sn ps k) _ HA.out.2).mono ?_; rintro e w1 ⟨rfl, hb⟩; have ⟨hc, hf⟩ := bcell hb; have hz := hb.size; (try simp at hz); (try have hz := Nat.lt_of_succ_le hz); (try have y0 := wy w w1); (try have z0 := wz0 w w1); (try have z1 := wz1 w w1); (try have z2 := wz2 w w1); (try have z3 := wz3 w w1); (try have z4 := wz4 w w1); (try have x0 := wz0 wc w1); (try have x1 := wy wc w1)) | (go_at_call 197; refine (HQ.out _).mono ?_; rintro e w1 ⟨rfl, hb⟩; have ⟨hc, hf⟩ := bcell hb; have hz := hb.size; (try simp at hz); (try have hz := Nat.lt_of_succ_le hz); (try have y0 := wy w w1); (try have z0 := wz0 w w1); (try have z1 := wz1 w w1); (try have z2 := wz2 w w1); (try have z3 := wz3 w w1); (try have z4 := wz4 w w1); (try have x0 := wz0 wc w1); (try have x1 := wy wc w1)))
    rw [hQ.out]
    go_ret
    exact ⟨rfl, eX⟩
   ·have hok := lh (all_more hall.out hd)
    rw [hd] at HQ
    clear hd
    go_wp2_with (first | (go_at_call 180; refine (nameOfNet_s (sn ps k) _ HA.out.2).mono ?_; rintro e w1 ⟨rfl, hb⟩; have ⟨hc, hf⟩ := bcell hb; have hz := hb.size; (try simp at hz); (try have hz := Nat.lt_of_succ_le hz); (try have y0 := wy w w1); (try have z0 := wz0 w w1); (try have z1 := wz1 w w1); (try have z2 := wz2 w w1); (try have z3 := wz3 w w1); (try have z4 := wz4 w w1); (try have x0 := wz0 wc w1); (try have x1 := wy wc w1)) | (go_at_call 197; refine (HQ.out _).mono ?_; rintro e w1 ⟨rfl, hb⟩; have ⟨hc, hf⟩ := bcell hb; have hz := hb.size; (try simp at hz); (try have hz := Nat.lt_of_succ_le hz); (try have y0 := wy w w1); (try have z0 := wz0 w w1); (try have z1 := wz1 w w1); (try have z2 := wz2 w w1); (try have z3 := wz3 w w1); (try have z4 := wz4 w w1); (try have x0 := wz0 wc w1); (try have x1 := wy wc w1)))
    go_roundw
    case rel => exact ⟨k + 1, by omega, by go_num, hok, eX⟩
    case measure => simp [intOf]; omega
  ·obtain rfl : k = n := by omega
   have hI : ¬ (k : Int) < (k : Int) := by omega
   have HX := lh (difSt_any _ ps wr (H.out.up hbw))
   have HB := lh (names_all (nm := fun i => sn ps i) hall.out)
   rw [← HN.out, show allB (difSt ps) k = allB (difN (fun i => sn ps i)) k from rfl, ← HB.out] at HX
   go_wp2_with fail
   (go_at_call 207; refine (HX.out).mono ?_; rintro e w1 ⟨rfl, hb⟩; have ⟨hc, hf⟩ := bcell hb; have hz := hb.size; (try simp at hz); (try have hz := Nat.lt_of_succ_le hz); (try have y0 := wy w w1); (try have z0 := wz0 w w1); (try have z1 := wz1 w w1); (try have z2 := wz2 w w1); (try have z3 := wz3 w w1); (try have z4 := wz4 w w1))
   go_wp2_with fail
   go_ret
   exact ⟨rfl, eX⟩
end Go.Proofs.YtkpfbnffhhmokaaGreat
namespace Go.Proofs.YtkpfbnffhhmokaaGreat
open Go.ChangeShapes Go.WideShapes Go.ChangeAt Go.RowKit
set_option linter.unusedVariables false
set_option linter.unusedSimpArgs false
theorem wlim_any (f : Nat → Value) (d : DesD) (w : World) (h : DesF w w.heap.size f d) : Calls Tryz.prog 148 #[.agg #[f 0, f 1, f 2]] w fun e w' => e = .returned (.bool (sizesB d)) ∧ Below w.heap.size w w' := by
 obtain ⟨h0, h1, h2⟩ := h
 obtain ⟨p0, q0, e0⟩ := h0.slice; obtain ⟨p1, q1, e1⟩ := h1.slice; obtain ⟨p2, q2, e2⟩ := h2.slice
 rw [e0, e1, e2]
 clear e0 e1 e2 h0 h1 h2
 unfold sizesB
 generalize d.insts.length = a
 generalize d.nets.length = b
 generalize d.ports.length = c
 by_cases c0 : a ≤ 14
 ·by_cases c1 : b ≤ 30
  ·by_cases c2 : c ≤ 8
   all_goals
    have c0' : (a : Int) ≤ 14 := by omega
    have c1' : (b : Int) ≤ 30 := by omega
    simp only [c0, c1, c2, decide_true, decide_false, Bool.and_true, Bool.and_false]
    first
    | (have c2' : (c : Int) ≤ 8 := (by omega); clear c0 c1 c2; go_enter Tryz.func148, Tryz.ntmps148; go_wp2; go_ret; exact ⟨rfl, eX⟩)
    | (have c2' : ¬ (c : Int) ≤ 8 := (by omega); clear c0 c1 c2; go_enter Tryz.func148, Tryz.ntmps148; go_wp2; go_ret; exact ⟨rfl, eX⟩)
  ·have c0' : (a : Int) ≤ 14 := by omega
   have c1' : ¬ (b : Int) ≤ 30 := by omega
   simp only [c0, c1, decide_true, decide_false, Bool.and_true, Bool.and_false, Bool.false_and]
   clear c0 c1
   go_enter Tryz.func148, Tryz.ntmps148
   go_wp2
   go_ret
   exact ⟨rfl, eX⟩
 ·have c0' : ¬ (a : Int) ≤ 14 := by omega
  simp only [c0, decide_true, decide_false, Bool.and_true, Bool.and_false, Bool.false_and]
  clear c0
  go_enter Tryz.func148, Tryz.ntmps148
  go_wp2
  go_ret
  exact ⟨rfl, eX⟩
theorem hasNm_any (f : Nat → Value) (d : DesD) (w : World) (h : DesF w w.heap.size f d) : Calls Tryz.prog 149 #[.agg #[f 0, f 1, f 2]] w fun e w' => e = .returned (.bool (hasNm d)) ∧ Below w.heap.size w w' := by
 obtain ⟨h0, h1, h2⟩ := h
 have A0 := lh (fun (w1 : World) (hb : Below w.heap.size w w1) => areIn_any (f 0) d.insts w1 (h0.up hb))
 have A1 := lh (fun (w1 : World) (hb : Below w.heap.size w w1) => areSt_any (f 1) d.nets w1 (h1.up hb).q)
 have A2 := lh (fun (w1 : World) (hb : Below w.heap.size w w1) => arePo_any (f 2) d.ports w1 (h2.up hb))
 obtain ⟨p0, q0, e0⟩ := h0.slice; obtain ⟨p1, q1, e1⟩ := h1.slice; obtain ⟨p2, q2, e2⟩ := h2.slice
 rw [e0] at A0; rw [e1] at A1; rw [e2] at A2
 rw [e0, e1, e2]
 clear e0 e1 e2 h0 h1 h2
 unfold hasNm
 show Calls _ _ _ _ fun e w' => e = .returned (.bool (namesB (fun i => (inn d.insts i).name) d.insts.length && namesB (fun i => sn d.nets i) d.nets.length && namesB (fun i => (ptn d.ports i).name) d.ports.length)) ∧ _
 generalize namesB (fun i => (inn d.insts i).name) d.insts.length = b0 at A0 ⊢
 generalize namesB (fun i => sn d.nets i) d.nets.length = b1 at A1 ⊢
 generalize namesB (fun i => (ptn d.ports i).name) d.ports.length = b2 at A2 ⊢
 cases b0 <;> cases b1 <;> cases b2
 all_goals
  go_enter Tryz.func149, Tryz.ntmps149
  go_wp2_with (first | (go_at_call 177; refine (A0.out _ eX).mono ?_; rintro e w1 ⟨rfl, hb⟩; have ⟨hc, hf⟩ := bcell hb; have hz := hb.size; (try simp at hz); (try have hz := Nat.lt_of_succ_le hz); (try have y0 := wy w w1); (try have z0 := wz0 w w1); (try have z1 := wz1 w w1); (try have z2 := wz2 w w1); (try have z3 := wz3 w w1); (try have z4 := wz4 w w1); (try have x0 := wz0 wc w1); (try have x1 := wy wc w1)) | (go_at_call 179; refine (A1.out _ eX).mono ?_; rintro e w1 ⟨rfl, hb⟩; have ⟨hc, hf⟩ := bcell hb; have hz := hb.size; (try simp at hz); (try have hz := Nat.lt_of_succ_le hz); (try have y0 := wy w w1); (try have z0 := wz0 w w1); (try have z1 := wz1 w w1); (try have z2 := wz2 w w1); (try have z3 := wz3 w w1); (try have z4 := wz4 w w1); (try have x0 := wz0 wc w1); (try have x1 := wy wc w1)) | (go_at_call 181; refine (A2.out _ eX).mono ?_; rintro e w1 ⟨rfl, hb⟩; have ⟨hc, hf⟩ := bcell hb; have hz := hb.size; (try simp at hz); (try have hz := Nat.lt_of_succ_le hz); (try have y0 := wy w w1); (try have z0 := wz0 w w1); (try have z1 := wz1 w w1); (try have z2 := wz2 w w1); (try have z3 := wz3 w w1); (try have z4 := wz4 w w1); (try have x0 := wz0 wc w1); (try have x1 := wy wc w1)))
  go_ret
  exact ⟨rfl, eX⟩
theorem conC_any (x : Int) (g n : Nat) (a : Option Addr) (cap : Nat) (w : World) (hn : n ≤ 9223372036854775807) (hc : w.cell? ⟨g, 1, none⟩ = some (.slice a n cap)) : Calls Tryz.prog 184 #[.int .i64 x, .pointer (some ⟨g, 0, none⟩)] w fun e w' => e = .returned (.bool (!inB x 0 ((n : Int) - 1))) ∧ w' = w := by
 have HQ := lh (hasIxStr_any a n cap x w hn)
 cases h : inB x 0 ((n : Int) - 1)
 all_goals
  rw [h] at HQ
  clear h
  go_enter Tryz.func184, Tryz.ntmps184
  go_wp2_with (go_at_call 185; refine HQ.out.mono ?_; rintro e w' ⟨rfl, hw'⟩; rw [hw']; clear hw' w')
  go_ret
  exact ⟨rfl, rfl⟩
set_option maxHeartbeats 2000000 in
theorem conF_any (v : Value) (xs : List Int) (g m : Nat) (a' : Option Addr) (cap' : Nat) (w : World) (h : IntS w w.heap.size v xs) (hm : m ≤ 9223372036854775807) (hc : w.cell? ⟨g, 1, none⟩ = some (.slice a' m cap')) :
  Calls Tryz.prog 187 #[v, .func (.func 184) #[] #[.pointer (some ⟨g, 0, none⟩)]] w fun e w' => e = .returned (.int .i64 (ix (fun i => !inB (iv xs i) 0 ((m : Int) - 1)) xs.length)) ∧ w' = w := by
 obtain ⟨hn, a, cap, rfl, hx0⟩ := h
 obtain ⟨n, hnn⟩ : ∃ n, n = xs.length := ⟨_, rfl⟩
 rw [← hnn] at hn hx0 ⊢
 have HX := lh hx0
 have HC := lh hc
 clear hx0 hnn hc
 go_enter Tryz.func187, Tryz.ntmps187
 go_wp2
 go_loopw [5, 8] (fun _ i wr => ∃ k : Nat, k ≤ n ∧ i = .int .i64 k ∧ Hid (∀ j, j < k → (!inB (iv xs j) 0 ((m : Int) - 1)) = false) ∧ wr = w) (fun _ i _ => n - (intOf i).toNat)
 case atStart => exact ⟨0, by omega, rfl, lh (fun j hj => absurd hj (Nat.not_lt_zero j)), rfl⟩
 case round =>
  obtain ⟨k, hk, rfl, hall, rfl⟩ := hrel
  by_cases hkn : k < n
  ·obtain ⟨b, off, rfl, hlt, hx⟩ := HX.out (by omega)
   have y0 := hx k hkn
   have hI : (k : Int) < (n : Int) := by omega
   have i0 : (0 : Int) ≤ (k : Int) := by omega
   clear hx
   have hB := lh (conC_any (iv xs k) g m a' cap' wr hm HC.out)
   cases hd : (!inB (iv xs k) 0 ((m : Int) - 1))
   ·have hok := lh (all_more hall.out hd)
    rw [hd] at hB
    clear hd
    go_wp2_with (go_at_call 184; refine hB.out.mono ?_; rintro e w' ⟨rfl, hw'⟩; rw [hw']; clear hw' w')
    go_roundw
    case rel => exact ⟨k + 1, by omega, by go_num, hok, by first | rfl | trivial⟩
    case measure => simp [intOf]; omega
   ·have hok := lh (ix_at (q := fun i => !inB (iv xs i) 0 ((m : Int) - 1)) hkn hd hall.out)
    rw [hd] at hB
    clear hd
    go_wp2_with (go_at_call 184; refine hB.out.mono ?_; rintro e w' ⟨rfl, hw'⟩; rw [hw']; clear hw' w')
    rw [hok.out]
    go_ret
    exact ⟨rfl, rfl⟩
  ·obtain rfl : k = n := by omega
   have hok := lh (ix_none (q := fun i => !inB (iv xs i) 0 ((m : Int) - 1)) hall.out)
   have hI : ¬ (k : Int) < (k : Int) := by omega
   go_wp2
   rw [hok.out]
   go_ret
   exact ⟨rfl, rfl⟩
theorem ix_nets (m : Nat) (x : InstD) : decide (0 ≤ ix (fun i => !inB (iv x.nets i) 0 ((m : Int) - 1)) x.nets.length) = !netsOk m x := by
 unfold netsOk
 rcases first_or (fun i => !inB (iv x.nets i) 0 ((m : Int) - 1)) x.nets.length with ⟨k, h1, h2, h3⟩ | h
 ·rw [ix_at h1 h2 h3, allB_no (p := fun i => inB (iv x.nets i) 0 ((m : Int) - 1)) h1 (by simpa using h2)]
  simp
 ·rw [ix_none h, allB_yes (p := fun i => inB (iv x.nets i) 0 ((m : Int) - 1)) (fun i hi => by simpa using h i hi)]
  rfl
theorem conX_any (v : Value) (x : InstD) (g m : Nat) (a' : Option Addr) (cap' : Nat) (w : World) (h : IntS w w.heap.size v x.nets) (hm : m ≤ 9223372036854775807) (hc : w.cell? ⟨g, 1, none⟩ = some (.slice a' m cap')) :
  Calls Tryz.prog 153 #[v, .func (.func 184) #[] #[.pointer (some ⟨g, 0, none⟩)]] w fun e w' => e = .returned (.bool (!netsOk m x)) ∧ w' = w := by
 have H := lh (conF_any v x.nets g m a' cap' w h hm hc)
 have e := ix_nets m x
 obtain ⟨X, hX⟩ : ∃ X, X = ix (fun i => !inB (iv x.nets i) 0 ((m : Int) - 1)) x.nets.length := ⟨_, rfl⟩
 rw [← hX] at H e
 rw [← e]
 clear hX e hc
 go_enter Tryz.func153, Tryz.ntmps153
 go_wp2_with (go_at_call 187; refine H.out.mono ?_; rintro e w' ⟨rfl, hw'⟩; rw [hw']; clear hw' w')
 go_ret
 exact ⟨rfl, rfl⟩
end Go.Proofs.YtkpfbnffhhmokaaGreat
