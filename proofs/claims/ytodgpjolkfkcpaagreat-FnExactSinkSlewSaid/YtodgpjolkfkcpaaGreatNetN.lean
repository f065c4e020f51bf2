/-
The program's check of names: areNamed over instances, ports and nets.
-/
import Derived.Test.YtodgpjolkfkcpaaGreatIndexD
import Derived.Test.YtodgpjolkfkcpaaGreatNetP
namespace Go.Proofs.YtodgpjolkfkcpaaGreat
open Go.ChangeShapes Go.WideShapes Go.ChangeAt Go.RowKit
set_option linter.unusedVariables false
set_option linter.unusedSimpArgs false
set_option maxHeartbeats 1000000 in
theorem areIn_any (v : Value) (ps : List InstD) (w : World) (h : InstsS w w.heap.size v ps) :
    Calls Tryz.prog 129 #[v, .func (.func 130) #[] #[]] w fun e w' => e = .returned (.bool (namesB (fun i => (inn ps i).name) ps.length)) ∧ Below w.heap.size w w' := by
  have H := Lib.hid h
  obtain ⟨F, hc, hf⟩ := h
  obtain ⟨n, hnn⟩ : ∃ n, n = ps.length := ⟨_, rfl⟩
  rw [← hnn] at hc hf ⊢
  have HC := hc
  obtain ⟨hn, a, cap, rfl, _⟩ := hc
  have HC := Lib.hid HC; have HF := Lib.hid hf; have HN := Lib.hid hnn
  clear hf hnn
  go_enter Tryz.func129, Tryz.ntmps129
  go_wp2
  go_loopw [9] (fun i wr => ∃ k : Nat, k ≤ n ∧ i = .int .i64 k ∧ Hid (∀ j, j < k → nameB ((inn ps j).name) = true) ∧ Below w.heap.size w wr) (fun i _ => n - (intOf i).toNat)
  case atStart => exact ⟨0, by omega, rfl, Lib.hid (fun j hj => absurd hj (Nat.not_lt_zero j)), eX⟩
  case round =>
    obtain ⟨k, hk, rfl, hall, hbw⟩ := hrel
    by_cases hkn : k < n
    · obtain ⟨b, off, rfl, hlt, hx⟩ := HC.out.at hbw hkn
      have y0 := hx 0 (by omega)
      have y1 := hx 1 (by omega)
      have y2 := hx 2 (by omega)
      simp only [Nat.add_zero] at y0
      have hI : (k : Int) < (n : Int) := by omega
      have i0 : (0 : Int) ≤ (k : Int) := by omega
      clear hx
      have ⟨e0, e1, x2, hs⟩ := (HF.out k hkn).up hbw
      obtain ⟨p2, q2, e2⟩ := x2.slice
      rw [e2] at x2
      rw [e0] at y0; rw [e1] at y1; rw [e2] at y2
      have HA := Lib.hid (show InstF wr wr.heap.size (vec [.string (inn ps k).name, .int .i64 (inn ps k).cell, .slice p2 (inn ps k).nets.length q2]) (inn ps k) from ⟨rfl, rfl, x2, hs⟩)
      clear e0 e1 e2 x2
      have HQ := Lib.hid (fun (w1 : World) => implName_any ((inn ps k).name) w1 HA.out.2.2.2)
      cases hd : nameB ((inn ps k).name)
      · have hQ := Lib.hid (names_bad (nm := fun i => (inn ps i).name) hkn hd)
        rw [hd] at HQ
        clear hd
        go_wp2_with (first | (go_at_call 130; refine (nameOfInstance_any (vec [.string (inn ps k).name, .int .i64 (inn ps k).cell, .slice p2 (inn ps k).nets.length q2]) (inn ps k) _ (HA.out.up eX)).mono ?_; rintro e w1 ⟨rfl, hb⟩; obtain ⟨hc, hf⟩ := bcell hb; have hz := hb.size; (try simp at hz); (try (have hz := Nat.lt_of_succ_le hz)); (try (have y0 : w.heap.size ≤ w1.heap.size := by omega)); (try (have z0 : w.heap.size < w1.heap.size := by omega)); (try (have z1 : w.heap.size + 1 < w1.heap.size := by omega)); (try (have z2 : w.heap.size + 1 + 1 < w1.heap.size := by omega)); (try (have z3 : w.heap.size + 1 + 1 + 1 < w1.heap.size := by omega)); (try (have z4 : w.heap.size + 1 + 1 + 1 + 1 < w1.heap.size := by omega)); (try (have x0 : wc.heap.size < w1.heap.size := by omega)); (try (have x1 : wc.heap.size ≤ w1.heap.size := by omega))) | (go_at_call 148; refine (HQ.out _).mono ?_; rintro e w1 ⟨rfl, hb⟩; obtain ⟨hc, hf⟩ := bcell hb; have hz := hb.size; (try simp at hz); (try (have hz := Nat.lt_of_succ_le hz)); (try (have y0 : w.heap.size ≤ w1.heap.size := by omega)); (try (have z0 : w.heap.size < w1.heap.size := by omega)); (try (have z1 : w.heap.size + 1 < w1.heap.size := by omega)); (try (have z2 : w.heap.size + 1 + 1 < w1.heap.size := by omega)); (try (have z3 : w.heap.size + 1 + 1 + 1 < w1.heap.size := by omega)); (try (have z4 : w.heap.size + 1 + 1 + 1 + 1 < w1.heap.size := by omega)); (try (have x0 : wc.heap.size < w1.heap.size := by omega)); (try (have x1 : wc.heap.size ≤ w1.heap.size := by omega))))
        rw [hQ.out]
        go_ret
        exact ⟨rfl, eX⟩
      · have hok := Lib.hid (all_more hall.out hd)
        rw [hd] at HQ
        clear hd
        go_wp2_with (first | (go_at_call 130; refine (nameOfInstance_any (vec [.string (inn ps k).name, .int .i64 (inn ps k).cell, .slice p2 (inn ps k).nets.length q2]) (inn ps k) _ (HA.out.up eX)).mono ?_; rintro e w1 ⟨rfl, hb⟩; obtain ⟨hc, hf⟩ := bcell hb; have hz := hb.size; (try simp at hz); (try (have hz := Nat.lt_of_succ_le hz)); (try (have y0 : w.heap.size ≤ w1.heap.size := by omega)); (try (have z0 : w.heap.size < w1.heap.size := by omega)); (try (have z1 : w.heap.size + 1 < w1.heap.size := by omega)); (try (have z2 : w.heap.size + 1 + 1 < w1.heap.size := by omega)); (try (have z3 : w.heap.size + 1 + 1 + 1 < w1.heap.size := by omega)); (try (have z4 : w.heap.size + 1 + 1 + 1 + 1 < w1.heap.size := by omega)); (try (have x0 : wc.heap.size < w1.heap.size := by omega)); (try (have x1 : wc.heap.size ≤ w1.heap.size := by omega))) | (go_at_call 148; refine (HQ.out _).mono ?_; rintro e w1 ⟨rfl, hb⟩; obtain ⟨hc, hf⟩ := bcell hb; have hz := hb.size; (try simp at hz); (try (have hz := Nat.lt_of_succ_le hz)); (try (have y0 : w.heap.size ≤ w1.heap.size := by omega)); (try (have z0 : w.heap.size < w1.heap.size := by omega)); (try (have z1 : w.heap.size + 1 < w1.heap.size := by omega)); (try (have z2 : w.heap.size + 1 + 1 < w1.heap.size := by omega)); (try (have z3 : w.heap.size + 1 + 1 + 1 < w1.heap.size := by omega)); (try (have z4 : w.heap.size + 1 + 1 + 1 + 1 < w1.heap.size := by omega)); (try (have x0 : wc.heap.size < w1.heap.size := by omega)); (try (have x1 : wc.heap.size ≤ w1.heap.size := by omega))))
        go_roundw
        case rel => exact ⟨k + 1, by omega, by go_num, hok, eX⟩
        case measure => simp [intOf]; omega
    · obtain rfl : k = n := by omega
      have hI : ¬ (k : Int) < (k : Int) := by omega
      have HX := Lib.hid (difIn_any _ ps wr (H.out.up hbw))
      have HB := Lib.hid (names_all (nm := fun i => (inn ps i).name) hall.out)
      rw [← HN.out, show allB (difIn ps) k = allB (difN (fun i => (inn ps i).name)) k from rfl, ← HB.out] at HX
      go_wp2_with fail
      (go_at_call 157; refine (HX.out).mono ?_; rintro e w1 ⟨rfl, hb⟩; obtain ⟨hc, hf⟩ := bcell hb; have hz := hb.size; (try simp at hz); (try (have hz := Nat.lt_of_succ_le hz)); (try (have y0 : w.heap.size ≤ w1.heap.size := by omega)); (try (have z0 : w.heap.size < w1.heap.size := by omega)); (try (have z1 : w.heap.size + 1 < w1.heap.size := by omega)); (try (have z2 : w.heap.size + 1 + 1 < w1.heap.size := by omega)); (try (have z3 : w.heap.size + 1 + 1 + 1 < w1.heap.size := by omega)); (try (have z4 : w.heap.size + 1 + 1 + 1 + 1 < w1.heap.size := by omega)))
      go_wp2_with fail
      go_ret
      exact ⟨rfl, eX⟩
set_option maxHeartbeats 1000000 in
theorem arePo_any (v : Value) (ps : List PortD) (w : World) (h : PortsS w w.heap.size v ps) :
    Calls Tryz.prog 133 #[v, .func (.func 134) #[] #[]] w fun e w' => e = .returned (.bool (namesB (fun i => (ptn ps i).name) ps.length)) ∧ Below w.heap.size w w' := by
  have H := Lib.hid h
  obtain ⟨F, hc, hf⟩ := h
  obtain ⟨n, hnn⟩ : ∃ n, n = ps.length := ⟨_, rfl⟩
  rw [← hnn] at hc hf ⊢
  have HC := hc
  obtain ⟨hn, a, cap, rfl, _⟩ := hc
  have HC := Lib.hid HC; have HF := Lib.hid hf; have HN := Lib.hid hnn
  clear hf hnn
  go_enter Tryz.func133, Tryz.ntmps133
  go_wp2
  go_loopw [9] (fun i wr => ∃ k : Nat, k ≤ n ∧ i = .int .i64 k ∧ Hid (∀ j, j < k → nameB ((ptn ps j).name) = true) ∧ Below w.heap.size w wr) (fun i _ => n - (intOf i).toNat)
  case atStart => exact ⟨0, by omega, rfl, Lib.hid (fun j hj => absurd hj (Nat.not_lt_zero j)), eX⟩
  case round =>
    obtain ⟨k, hk, rfl, hall, hbw⟩ := hrel
    by_cases hkn : k < n
    · obtain ⟨b, off, rfl, hlt, hx⟩ := HC.out.at hbw hkn
      have y0 := hx 0 (by omega)
      have y1 := hx 1 (by omega)
      have y2 := hx 2 (by omega)
      simp only [Nat.add_zero] at y0
      have hI : (k : Int) < (n : Int) := by omega
      have i0 : (0 : Int) ≤ (k : Int) := by omega
      clear hx
      have ⟨e0, e1, e2, hs⟩ := HF.out k hkn
      rw [e0] at y0; rw [e1] at y1; rw [e2] at y2
      have HA := Lib.hid (show PortF (vec [.string (ptn ps k).name, .int .i64 (ptn ps k).dir, .int .i64 (ptn ps k).net]) (ptn ps k) from ⟨rfl, rfl, rfl, hs⟩)
      clear e0 e1 e2
      have HQ := Lib.hid (fun (w1 : World) => implName_any ((ptn ps k).name) w1 HA.out.2.2.2)
      cases hd : nameB ((ptn ps k).name)
      · have hQ := Lib.hid (names_bad (nm := fun i => (ptn ps i).name) hkn hd)
        rw [hd] at HQ
        clear hd
        go_wp2_with (first | (go_at_call 134; refine (nameOfPort_any (vec [.string (ptn ps k).name, .int .i64 (ptn ps k).dir, .int .i64 (ptn ps k).net]) (ptn ps k) _ HA.out).mono ?_; rintro e w1 ⟨rfl, hb⟩; obtain ⟨hc, hf⟩ := bcell hb; have hz := hb.size; (try simp at hz); (try (have hz := Nat.lt_of_succ_le hz)); (try (have y0 : w.heap.size ≤ w1.heap.size := by omega)); (try (have z0 : w.heap.size < w1.heap.size := by omega)); (try (have z1 : w.heap.size + 1 < w1.heap.size := by omega)); (try (have z2 : w.heap.size + 1 + 1 < w1.heap.size := by omega)); (try (have z3 : w.heap.size + 1 + 1 + 1 < w1.heap.size := by omega)); (try (have z4 : w.heap.size + 1 + 1 + 1 + 1 < w1.heap.size := by omega)); (try (have x0 : wc.heap.size < w1.heap.size := by omega)); (try (have x1 : wc.heap.size ≤ w1.heap.size := by omega))) | (go_at_call 148; refine (HQ.out _).mono ?_; rintro e w1 ⟨rfl, hb⟩; obtain ⟨hc, hf⟩ := bcell hb; have hz := hb.size; (try simp at hz); (try (have hz := Nat.lt_of_succ_le hz)); (try (have y0 : w.heap.size ≤ w1.heap.size := by omega)); (try (have z0 : w.heap.size < w1.heap.size := by omega)); (try (have z1 : w.heap.size + 1 < w1.heap.size := by omega)); (try (have z2 : w.heap.size + 1 + 1 < w1.heap.size := by omega)); (try (have z3 : w.heap.size + 1 + 1 + 1 < w1.heap.size := by omega)); (try (have z4 : w.heap.size + 1 + 1 + 1 + 1 < w1.heap.size := by omega)); (try (have x0 : wc.heap.size < w1.heap.size := by omega)); (try (have x1 : wc.heap.size ≤ w1.heap.size := by omega))))
        rw [hQ.out]
        go_ret
        exact ⟨rfl, eX⟩
      · have hok := Lib.hid (all_more hall.out hd)
        rw [hd] at HQ
        clear hd
        go_wp2_with (first | (go_at_call 134; refine (nameOfPort_any (vec [.string (ptn ps k).name, .int .i64 (ptn ps k).dir, .int .i64 (ptn ps k).net]) (ptn ps k) _ HA.out).mono ?_; rintro e w1 ⟨rfl, hb⟩; obtain ⟨hc, hf⟩ := bcell hb; have hz := hb.size; (try simp at hz); (try (have hz := Nat.lt_of_succ_le hz)); (try (have y0 : w.heap.size ≤ w1.heap.size := by omega)); (try (have z0 : w.heap.size < w1.heap.size := by omega)); (try (have z1 : w.heap.size + 1 < w1.heap.size := by omega)); (try (have z2 : w.heap.size + 1 + 1 < w1.heap.size := by omega)); (try (have z3 : w.heap.size + 1 + 1 + 1 < w1.heap.size := by omega)); (try (have z4 : w.heap.size + 1 + 1 + 1 + 1 < w1.heap.size := by omega)); (try (have x0 : wc.heap.size < w1.heap.size := by omega)); (try (have x1 : wc.heap.size ≤ w1.heap.size := by omega))) | (go_at_call 148; refine (HQ.out _).mono ?_; rintro e w1 ⟨rfl, hb⟩; obtain ⟨hc, hf⟩ := bcell hb; have hz := hb.size; (try simp at hz); (try (have hz := Nat.lt_of_succ_le hz)); (try (have y0 : w.heap.size ≤ w1.heap.size := by omega)); (try (have z0 : w.heap.size < w1.heap.size := by omega)); (try (have z1 : w.heap.size + 1 < w1.heap.size := by omega)); (try (have z2 : w.heap.size + 1 + 1 < w1.heap.size := by omega)); (try (have z3 : w.heap.size + 1 + 1 + 1 < w1.heap.size := by omega)); (try (have z4 : w.heap.size + 1 + 1 + 1 + 1 < w1.heap.size := by omega)); (try (have x0 : wc.heap.size < w1.heap.size := by omega)); (try (have x1 : wc.heap.size ≤ w1.heap.size := by omega))))
        go_roundw
        case rel => exact ⟨k + 1, by omega, by go_num, hok, eX⟩
        case measure => simp [intOf]; omega
    · obtain rfl : k = n := by omega
      have hI : ¬ (k : Int) < (k : Int) := by omega
      have HX := Lib.hid (difPo_any _ ps wr (H.out.up hbw))
      have HB := Lib.hid (names_all (nm := fun i => (ptn ps i).name) hall.out)
      rw [← HN.out, show allB (difPo ps) k = allB (difN (fun i => (ptn ps i).name)) k from rfl, ← HB.out] at HX
      go_wp2_with fail
      (go_at_call 159; refine (HX.out).mono ?_; rintro e w1 ⟨rfl, hb⟩; obtain ⟨hc, hf⟩ := bcell hb; have hz := hb.size; (try simp at hz); (try (have hz := Nat.lt_of_succ_le hz)); (try (have y0 : w.heap.size ≤ w1.heap.size := by omega)); (try (have z0 : w.heap.size < w1.heap.size := by omega)); (try (have z1 : w.heap.size + 1 < w1.heap.size := by omega)); (try (have z2 : w.heap.size + 1 + 1 < w1.heap.size := by omega)); (try (have z3 : w.heap.size + 1 + 1 + 1 < w1.heap.size := by omega)); (try (have z4 : w.heap.size + 1 + 1 + 1 + 1 < w1.heap.size := by omega)))
      go_wp2_with fail
      go_ret
      exact ⟨rfl, eX⟩
set_option maxHeartbeats 1000000 in
theorem areSt_any (v : Value) (ps : List ByteArray) (w : World) (h : TxQ w w.heap.size v ps) :
    Calls Tryz.prog 131 #[v, .func (.func 132) #[] #[]] w fun e w' => e = .returned (.bool (namesB (fun i => sn ps i) ps.length)) ∧ Below w.heap.size w w' := by
  have H := Lib.hid h
  obtain ⟨F, hc, hf⟩ := h
  obtain ⟨n, hnn⟩ : ∃ n, n = ps.length := ⟨_, rfl⟩
  rw [← hnn] at hc hf ⊢
  have HC := hc
  obtain ⟨hn, a, cap, rfl, _⟩ := hc
  have HC := Lib.hid HC; have HF := Lib.hid hf; have HN := Lib.hid hnn
  clear hf hnn
  go_enter Tryz.func131, Tryz.ntmps131
  go_wp2
  go_loopw [9] (fun i wr => ∃ k : Nat, k ≤ n ∧ i = .int .i64 k ∧ Hid (∀ j, j < k → nameB (sn ps j) = true) ∧ Below w.heap.size w wr) (fun i _ => n - (intOf i).toNat)
  case atStart => exact ⟨0, by omega, rfl, Lib.hid (fun j hj => absurd hj (Nat.not_lt_zero j)), eX⟩
  case round =>
    obtain ⟨k, hk, rfl, hall, hbw⟩ := hrel
    by_cases hkn : k < n
    · obtain ⟨b, off, rfl, hlt, hx⟩ := HC.out.at hbw hkn
      have y0 := hx 0 (by omega)
      simp only [Nat.add_zero, Nat.mul_one] at y0
      have hI : (k : Int) < (n : Int) := by omega
      have i0 : (0 : Int) ≤ (k : Int) := by omega
      clear hx
      have ⟨e0, hs⟩ := HF.out k hkn
      rw [e0] at y0
      have HA := Lib.hid (show StrF (vec [.string (sn ps k)]) (sn ps k) from ⟨rfl, hs⟩)
      clear e0
      have HQ := Lib.hid (fun (w1 : World) => implName_any (sn ps k) w1 HA.out.2)
      cases hd : nameB (sn ps k)
      · have hQ := Lib.hid (names_bad (nm := fun i => sn ps i) hkn hd)
        rw [hd] at HQ
        clear hd
        go_wp2_with (first | (go_at_call 132; refine (nameOfNet_s (sn ps k) _ HA.out.2).mono ?_; rintro e w1 ⟨rfl, hb⟩; obtain ⟨hc, hf⟩ := bcell hb; have hz := hb.size; (try simp at hz); (try (have hz := Nat.lt_of_succ_le hz)); (try (have y0 : w.heap.size ≤ w1.heap.size := by omega)); (try (have z0 : w.heap.size < w1.heap.size := by omega)); (try (have z1 : w.heap.size + 1 < w1.heap.size := by omega)); (try (have z2 : w.heap.size + 1 + 1 < w1.heap.size := by omega)); (try (have z3 : w.heap.size + 1 + 1 + 1 < w1.heap.size := by omega)); (try (have z4 : w.heap.size + 1 + 1 + 1 + 1 < w1.heap.size := by omega)); (try (have x0 : wc.heap.size < w1.heap.size := by omega)); (try (have x1 : wc.heap.size ≤ w1.heap.size := by omega))) | (go_at_call 148; refine (HQ.out _).mono ?_; rintro e w1 ⟨rfl, hb⟩; obtain ⟨hc, hf⟩ := bcell hb; have hz := hb.size; (try simp at hz); (try (have hz := Nat.lt_of_succ_le hz)); (try (have y0 : w.heap.size ≤ w1.heap.size := by omega)); (try (have z0 : w.heap.size < w1.heap.size := by omega)); (try (have z1 : w.heap.size + 1 < w1.heap.size := by omega)); (try (have z2 : w.heap.size + 1 + 1 < w1.heap.size := by omega)); (try (have z3 : w.heap.size + 1 + 1 + 1 < w1.heap.size := by omega)); (try (have z4 : w.heap.size + 1 + 1 + 1 + 1 < w1.heap.size := by omega)); (try (have x0 : wc.heap.size < w1.heap.size := by omega)); (try (have x1 : wc.heap.size ≤ w1.heap.size := by omega))))
        rw [hQ.out]
        go_ret
        exact ⟨rfl, eX⟩
      · have hok := Lib.hid (all_more hall.out hd)
        rw [hd] at HQ
        clear hd
        go_wp2_with (first | (go_at_call 132; refine (nameOfNet_s (sn ps k) _ HA.out.2).mono ?_; rintro e w1 ⟨rfl, hb⟩; obtain ⟨hc, hf⟩ := bcell hb; have hz := hb.size; (try simp at hz); (try (have hz := Nat.lt_of_succ_le hz)); (try (have y0 : w.heap.size ≤ w1.heap.size := by omega)); (try (have z0 : w.heap.size < w1.heap.size := by omega)); (try (have z1 : w.heap.size + 1 < w1.heap.size := by omega)); (try (have z2 : w.heap.size + 1 + 1 < w1.heap.size := by omega)); (try (have z3 : w.heap.size + 1 + 1 + 1 < w1.heap.size := by omega)); (try (have z4 : w.heap.size + 1 + 1 + 1 + 1 < w1.heap.size := by omega)); (try (have x0 : wc.heap.size < w1.heap.size := by omega)); (try (have x1 : wc.heap.size ≤ w1.heap.size := by omega))) | (go_at_call 148; refine (HQ.out _).mono ?_; rintro e w1 ⟨rfl, hb⟩; obtain ⟨hc, hf⟩ := bcell hb; have hz := hb.size; (try simp at hz); (try (have hz := Nat.lt_of_succ_le hz)); (try (have y0 : w.heap.size ≤ w1.heap.size := by omega)); (try (have z0 : w.heap.size < w1.heap.size := by omega)); (try (have z1 : w.heap.size + 1 < w1.heap.size := by omega)); (try (have z2 : w.heap.size + 1 + 1 < w1.heap.size := by omega)); (try (have z3 : w.heap.size + 1 + 1 + 1 < w1.heap.size := by omega)); (try (have z4 : w.heap.size + 1 + 1 + 1 + 1 < w1.heap.size := by omega)); (try (have x0 : wc.heap.size < w1.heap.size := by omega)); (try (have x1 : wc.heap.size ≤ w1.heap.size := by omega))))
        go_roundw
        case rel => exact ⟨k + 1, by omega, by go_num, hok, eX⟩
        case measure => simp [intOf]; omega
    · obtain rfl : k = n := by omega
      have hI : ¬ (k : Int) < (k : Int) := by omega
      have HX := Lib.hid (difSt_any _ ps wr (H.out.up hbw))
      have HB := Lib.hid (names_all (nm := fun i => sn ps i) hall.out)
      rw [← HN.out, show allB (difSt ps) k = allB (difN (fun i => sn ps i)) k from rfl, ← HB.out] at HX
      go_wp2_with fail
      (go_at_call 158; refine (HX.out).mono ?_; rintro e w1 ⟨rfl, hb⟩; obtain ⟨hc, hf⟩ := bcell hb; have hz := hb.size; (try simp at hz); (try (have hz := Nat.lt_of_succ_le hz)); (try (have y0 : w.heap.size ≤ w1.heap.size := by omega)); (try (have z0 : w.heap.size < w1.heap.size := by omega)); (try (have z1 : w.heap.size + 1 < w1.heap.size := by omega)); (try (have z2 : w.heap.size + 1 + 1 < w1.heap.size := by omega)); (try (have z3 : w.heap.size + 1 + 1 + 1 < w1.heap.size := by omega)); (try (have z4 : w.heap.size + 1 + 1 + 1 + 1 < w1.heap.size := by omega)))
      go_wp2_with fail
      go_ret
      exact ⟨rfl, eX⟩
end Go.Proofs.YtodgpjolkfkcpaaGreat
