/-
The program's limits, names and connections of a design.
-/
import Derived.Test.YtodgpjolkfkcpaaGreatNetN
import Derived.Test.YtodgpjolkfkcpaaGreatNum
import Derived.Test.YtodgpjolkfkcpaaGreatKinds
namespace Go.Proofs.YtodgpjolkfkcpaaGreat
open Go.ChangeShapes Go.WideShapes Go.ChangeAt Go.RowKit
set_option linter.unusedVariables false
set_option linter.unusedSimpArgs false
theorem wlim_any (f : Nat → Value) (d : DesD) (w : World) (h : DesF w w.heap.size f d) : Calls Tryz.prog 110 #[.agg #[f 0, f 1, f 2]] w fun e w' => e = .returned (.bool (sizesB d)) ∧ Below w.heap.size w w' := by
  obtain ⟨h0, h1, h2⟩ := h
  obtain ⟨p0, q0, e0⟩ := h0.slice; obtain ⟨p1, q1, e1⟩ := h1.slice; obtain ⟨p2, q2, e2⟩ := h2.slice
  rw [e0, e1, e2]
  clear e0 e1 e2 h0 h1 h2
  unfold sizesB
  generalize d.insts.length = a
  generalize d.nets.length = b
  generalize d.ports.length = c
  by_cases c0 : a ≤ 14
  · by_cases c1 : b ≤ 30
    · by_cases c2 : c ≤ 8
      all_goals
        have c0' : (a : Int) ≤ 14 := by omega
        have c1' : (b : Int) ≤ 30 := by omega
        simp only [c0, c1, c2, decide_true, decide_false, Bool.and_true, Bool.and_false]
        first
        | (have c2' : (c : Int) ≤ 8 := by omega
           clear c0 c1 c2
           go_enter Tryz.func110, Tryz.ntmps110
           go_wp2
           go_ret
           exact ⟨rfl, eX⟩)
        | (have c2' : ¬ (c : Int) ≤ 8 := by omega
           clear c0 c1 c2
           go_enter Tryz.func110, Tryz.ntmps110
           go_wp2
           go_ret
           exact ⟨rfl, eX⟩)
    · have c0' : (a : Int) ≤ 14 := by omega
      have c1' : ¬ (b : Int) ≤ 30 := by omega
      simp only [c0, c1, decide_true, decide_false, Bool.and_true, Bool.and_false, Bool.false_and]
      clear c0 c1
      go_enter Tryz.func110, Tryz.ntmps110
      go_wp2
      go_ret
      exact ⟨rfl, eX⟩
  · have c0' : ¬ (a : Int) ≤ 14 := by omega
    simp only [c0, decide_true, decide_false, Bool.and_true, Bool.and_false, Bool.false_and]
    clear c0
    go_enter Tryz.func110, Tryz.ntmps110
    go_wp2
    go_ret
    exact ⟨rfl, eX⟩
theorem hasNm_any (f : Nat → Value) (d : DesD) (w : World) (h : DesF w w.heap.size f d) : Calls Tryz.prog 111 #[.agg #[f 0, f 1, f 2]] w fun e w' => e = .returned (.bool (hasNm d)) ∧ Below w.heap.size w w' := by
  obtain ⟨h0, h1, h2⟩ := h
  have A0 := Lib.hid (fun (w1 : World) (hb : Below w.heap.size w w1) => areIn_any (f 0) d.insts w1 (h0.up hb))
  have A1 := Lib.hid (fun (w1 : World) (hb : Below w.heap.size w w1) => areSt_any (f 1) d.nets w1 (h1.up hb).q)
  have A2 := Lib.hid (fun (w1 : World) (hb : Below w.heap.size w w1) => arePo_any (f 2) d.ports w1 (h2.up hb))
  obtain ⟨p0, q0, e0⟩ := h0.slice; obtain ⟨p1, q1, e1⟩ := h1.slice; obtain ⟨p2, q2, e2⟩ := h2.slice
  rw [e0] at A0; rw [e1] at A1; rw [e2] at A2
  rw [e0, e1, e2]
  clear e0 e1 e2 h0 h1 h2
  unfold hasNm
  show Calls _ _ _ _ fun e w' => e = .returned (.bool (namesB (fun i => (inn d.insts i).name) d.insts.length && namesB (fun i => sn d.nets i) d.nets.length && namesB (fun i => (ptn d.ports i).name) d.ports.length)) ∧ _
  generalize namesB (fun i => (inn d.insts i).name) d.insts.length = b0 at A0 ⊢
  generalize namesB (fun i => sn d.nets i) d.nets.length = b1 at A1 ⊢
  generalize namesB (fun i => (ptn d.ports i).name) d.ports.length = b2 at A2 ⊢
  cases b0 <;> cases b1 <;> cases b2
  all_goals
    go_enter Tryz.func111, Tryz.ntmps111
    go_wp2_with (first | (go_at_call 129; refine (A0.out _ eX).mono ?_; rintro e w1 ⟨rfl, hb⟩; obtain ⟨hc, hf⟩ := bcell hb; have hz := hb.size; (try simp at hz); (try (have hz := Nat.lt_of_succ_le hz)); (try (have y0 : w.heap.size ≤ w1.heap.size := by omega)); (try (have z0 : w.heap.size < w1.heap.size := by omega)); (try (have z1 : w.heap.size + 1 < w1.heap.size := by omega)); (try (have z2 : w.heap.size + 1 + 1 < w1.heap.size := by omega)); (try (have z3 : w.heap.size + 1 + 1 + 1 < w1.heap.size := by omega)); (try (have z4 : w.heap.size + 1 + 1 + 1 + 1 < w1.heap.size := by omega)); (try (have x0 : wc.heap.size < w1.heap.size := by omega)); (try (have x1 : wc.heap.size ≤ w1.heap.size := by omega))) | (go_at_call 131; refine (A1.out _ eX).mono ?_; rintro e w1 ⟨rfl, hb⟩; obtain ⟨hc, hf⟩ := bcell hb; have hz := hb.size; (try simp at hz); (try (have hz := Nat.lt_of_succ_le hz)); (try (have y0 : w.heap.size ≤ w1.heap.size := by omega)); (try (have z0 : w.heap.size < w1.heap.size := by omega)); (try (have z1 : w.heap.size + 1 < w1.heap.size := by omega)); (try (have z2 : w.heap.size + 1 + 1 < w1.heap.size := by omega)); (try (have z3 : w.heap.size + 1 + 1 + 1 < w1.heap.size := by omega)); (try (have z4 : w.heap.size + 1 + 1 + 1 + 1 < w1.heap.size := by omega)); (try (have x0 : wc.heap.size < w1.heap.size := by omega)); (try (have x1 : wc.heap.size ≤ w1.heap.size := by omega))) | (go_at_call 133; refine (A2.out _ eX).mono ?_; rintro e w1 ⟨rfl, hb⟩; obtain ⟨hc, hf⟩ := bcell hb; have hz := hb.size; (try simp at hz); (try (have hz := Nat.lt_of_succ_le hz)); (try (have y0 : w.heap.size ≤ w1.heap.size := by omega)); (try (have z0 : w.heap.size < w1.heap.size := by omega)); (try (have z1 : w.heap.size + 1 < w1.heap.size := by omega)); (try (have z2 : w.heap.size + 1 + 1 < w1.heap.size := by omega)); (try (have z3 : w.heap.size + 1 + 1 + 1 < w1.heap.size := by omega)); (try (have z4 : w.heap.size + 1 + 1 + 1 + 1 < w1.heap.size := by omega)); (try (have x0 : wc.heap.size < w1.heap.size := by omega)); (try (have x1 : wc.heap.size ≤ w1.heap.size := by omega))))
    go_ret
    exact ⟨rfl, eX⟩
theorem conC_any (x : Int) (g n : Nat) (a : Option Addr) (cap : Nat) (w : World) (hn : n ≤ 9223372036854775807) (hc : w.cell? ⟨g, 1, none⟩ = some (.slice a n cap)) : Calls Tryz.prog 136 #[.int .i64 x, .pointer (some ⟨g, 0, none⟩)] w fun e w' => e = .returned (.bool (!inB x 0 ((n : Int) - 1))) ∧ w' = w := by
  have HQ := Lib.hid (hasIxStr_any a n cap x w hn)
  cases h : inB x 0 ((n : Int) - 1)
  all_goals
    rw [h] at HQ
    clear h
    go_enter Tryz.func136, Tryz.ntmps136
    go_wp2_with (go_at_call 137; refine HQ.out.mono ?_; rintro e w' ⟨rfl, hw'⟩; rw [hw']; clear hw' w')
    go_ret
    exact ⟨rfl, rfl⟩
set_option maxHeartbeats 2000000 in
theorem conF_any (v : Value) (xs : List Int) (g m : Nat) (a' : Option Addr) (cap' : Nat) (w : World) (h : IntS w w.heap.size v xs) (hm : m ≤ 9223372036854775807) (hc : w.cell? ⟨g, 1, none⟩ = some (.slice a' m cap')) :
    Calls Tryz.prog 139 #[v, .func (.func 136) #[] #[.pointer (some ⟨g, 0, none⟩)]] w fun e w' => e = .returned (.int .i64 (ix (fun i => !inB (iv xs i) 0 ((m : Int) - 1)) xs.length)) ∧ w' = w := by
  obtain ⟨hn, a, cap, rfl, hx0⟩ := h
  obtain ⟨n, hnn⟩ : ∃ n, n = xs.length := ⟨_, rfl⟩
  rw [← hnn] at hn hx0 ⊢
  have HX := Lib.hid hx0
  have HC := Lib.hid hc
  clear hx0 hnn hc
  go_enter Tryz.func139, Tryz.ntmps139
  go_wp2
  go_loopw [5, 8] (fun _ i wr => ∃ k : Nat, k ≤ n ∧ i = .int .i64 k ∧ Hid (∀ j, j < k → (!inB (iv xs j) 0 ((m : Int) - 1)) = false) ∧ wr = w) (fun _ i _ => n - (intOf i).toNat)
  case atStart => exact ⟨0, by omega, rfl, Lib.hid (fun j hj => absurd hj (Nat.not_lt_zero j)), rfl⟩
  case round =>
    obtain ⟨k, hk, rfl, hall, rfl⟩ := hrel
    by_cases hkn : k < n
    · obtain ⟨b, off, rfl, hlt, hx⟩ := HX.out (by omega)
      have y0 := hx k hkn
      have hI : (k : Int) < (n : Int) := by omega
      have i0 : (0 : Int) ≤ (k : Int) := by omega
      clear hx
      have hB := Lib.hid (conC_any (iv xs k) g m a' cap' wr hm HC.out)
      cases hd : (!inB (iv xs k) 0 ((m : Int) - 1))
      · have hok := Lib.hid (all_more hall.out hd)
        rw [hd] at hB
        clear hd
        go_wp2_with (go_at_call 136; refine hB.out.mono ?_; rintro e w' ⟨rfl, hw'⟩; rw [hw']; clear hw' w')
        go_roundw
        case rel => exact ⟨k + 1, by omega, by go_num, hok, by first | rfl | trivial⟩
        case measure => simp [intOf]; omega
      · have hok := Lib.hid (ix_at (q := fun i => !inB (iv xs i) 0 ((m : Int) - 1)) hkn hd hall.out)
        rw [hd] at hB
        clear hd
        go_wp2_with (go_at_call 136; refine hB.out.mono ?_; rintro e w' ⟨rfl, hw'⟩; rw [hw']; clear hw' w')
        rw [hok.out]
        go_ret
        exact ⟨rfl, rfl⟩
    · obtain rfl : k = n := by omega
      have hok := Lib.hid (ix_none (q := fun i => !inB (iv xs i) 0 ((m : Int) - 1)) hall.out)
      have hI : ¬ (k : Int) < (k : Int) := by omega
      go_wp2
      rw [hok.out]
      go_ret
      exact ⟨rfl, rfl⟩
theorem ix_nets (m : Nat) (x : InstD) : decide (0 ≤ ix (fun i => !inB (iv x.nets i) 0 ((m : Int) - 1)) x.nets.length) = !netsOk m x := by
  unfold netsOk
  rcases first_or (fun i => !inB (iv x.nets i) 0 ((m : Int) - 1)) x.nets.length with ⟨k, h1, h2, h3⟩ | h
  · rw [ix_at h1 h2 h3, allB_no (p := fun i => inB (iv x.nets i) 0 ((m : Int) - 1)) h1 (by simpa using h2)]
    simp
  · rw [ix_none h, allB_yes (p := fun i => inB (iv x.nets i) 0 ((m : Int) - 1)) (fun i hi => by simpa using h i hi)]
    rfl
theorem conX_any (v : Value) (x : InstD) (g m : Nat) (a' : Option Addr) (cap' : Nat) (w : World) (h : IntS w w.heap.size v x.nets) (hm : m ≤ 9223372036854775807) (hc : w.cell? ⟨g, 1, none⟩ = some (.slice a' m cap')) :
    Calls Tryz.prog 115 #[v, .func (.func 136) #[] #[.pointer (some ⟨g, 0, none⟩)]] w fun e w' => e = .returned (.bool (!netsOk m x)) ∧ w' = w := by
  have H := Lib.hid (conF_any v x.nets g m a' cap' w h hm hc)
  have e := ix_nets m x
  obtain ⟨X, hX⟩ : ∃ X, X = ix (fun i => !inB (iv x.nets i) 0 ((m : Int) - 1)) x.nets.length := ⟨_, rfl⟩
  rw [← hX] at H e
  rw [← e]
  clear hX e hc
  go_enter Tryz.func115, Tryz.ntmps115
  go_wp2_with (go_at_call 139; refine H.out.mono ?_; rintro e w' ⟨rfl, hw'⟩; rw [hw']; clear hw' w')
  go_ret
  exact ⟨rfl, rfl⟩
end Go.Proofs.YtodgpjolkfkcpaaGreat
