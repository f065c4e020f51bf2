/-
The model's IsLibrary, for all libraries; and a library that came in.
-/
import Derived.Test.YtkpfbnffhhmokaaGreatLib
import Derived.Test.YtkpfbnffhhmokaaGreatOpen
namespace Go.Proofs.YtkpfbnffhhmokaaGreat
open Go.ChangeShapes Go.WideShapes Go.ChangeAt Go.RowKit Go.Deep Go.Joins
set_option linter.unusedVariables false
set_option linter.unusedSimpArgs false
theorem difC_hit {ts : List CellD} {q k : Nat} (hq : q < k) (h : ((cn ts q).name.toList == (cn ts k).name.toList) = true) : difCl ts k = false := by
 unfold difCl
 refine allB_no hq ?_
 show (!((cn ts q).name.toList == (cn ts k).name.toList)) = false
 rw [h]
 rfl
theorem difC_miss {ts : List CellD} {k : Nat} (h : ∀ q, q < k → ((cn ts q).name.toList == (cn ts k).name.toList) = false) : difCl ts k = true := by
 unfold difCl
 refine allB_yes (fun j hj => ?_)
 show (!((cn ts j).name.toList == (cn ts k).name.toList)) = true
 rw [h j hj]
 rfl
theorem lib_end {ts : List CellD} (h : ∀ i, i < ts.length → cellB (cn ts i) = true) (h2 : ∀ i, i < ts.length → difCl ts i = true) : libB ts = decide (ts.length ≤ 8) := by
 unfold libB
 rw [allB_yes (p := fun i => cellB (cn ts i)) h, allB_yes (p := difCl ts) h2]
 simp
set_option maxHeartbeats 4000000 in
theorem specIsLibrary_any (v : Value) (ts : List CellD) (w : World) (h : CellsS w w.heap.size v ts) : Calls Tryz.prog 144 #[.agg #[v]] w fun e w' => e = .returned (.bool (libB ts)) ∧ Below w.heap.size w w' := by
 obtain ⟨F, hc, hf⟩ := h
 obtain ⟨n, hnn⟩ : ∃ n, n = ts.length := ⟨_, rfl⟩
 rw [← hnn] at hc hf
 have HC := hc
 obtain ⟨hn, a, cap, rfl, _⟩ := hc
 have HC := lh HC; have HF := lh hf; have HN := lh hnn
 clear hf hnn
 go_enter Tryz.func144, Tryz.ntmps144
 go_wp2
 go_loopw [3] (fun i wr => ∃ k : Nat, k ≤ n ∧ i = .int .i64 k ∧ Hid (∀ j, j < k → cellB (cn ts j) = true) ∧ Hid (∀ j, j < k → difCl ts j = true) ∧ wr.cell? ⟨w.heap.size, 0, none⟩ = some (.slice a n cap) ∧ Below w.heap.size w wr) (fun i _ => n - (intOf i).toNat)
 case atStart => exact ⟨0, by omega, rfl, lh (fun j hj => absurd hj (Nat.not_lt_zero j)), lh (fun j hj => absurd hj (Nat.not_lt_zero j)), by simp [go_sem], eX⟩
 case round =>
  obtain ⟨k, hk, rfl, hall, hdif, r0, hbw⟩ := hrel
  by_cases hkn : k < n
  ·obtain ⟨b, off, rfl, hlt, hx⟩ := HC.out.at hbw hkn
   have y0 := hx 0 (by omega); have y1 := hx 1 (by omega); have y2 := hx 2 (by omega); have y3 := hx 3 (by omega); have y4 := hx 4 (by omega); have y5 := hx 5 (by omega); have y6 := hx 6 (by omega)
   simp only [Nat.add_zero] at y0
   have ⟨e0, e1, x2, x3, x4, e5, e6, hs⟩ := (HF.out k hkn).up hbw
   obtain ⟨p2, q2, e2⟩ := x2.slice; obtain ⟨p3, q3, e3⟩ := x3.slice; obtain ⟨p4, q4, e4⟩ := x4.slice
   rw [e2] at x2; rw [e3] at x3; rw [e4] at x4
   rw [e0] at y0; rw [e1] at y1; rw [e2] at y2; rw [e3] at y3; rw [e4] at y4; rw [e5] at y5; rw [e6] at y6
   have HA := lh (show CellF wr wr.heap.size (vec [.string (cn ts k).name, .int .i64 (cn ts k).kind, .slice p2 (cn ts k).pins.length q2, .slice p3 (cn ts k).arcs.length q3, .slice p4 (cn ts k).truth.length q4, .int .i64 (cn ts k).leak, .int .i64 (cn ts k).energy]) (cn ts k) from ⟨rfl, rfl, x2, x3, x4, rfl, rfl, hs⟩)
   have HI := lh (fun (w1 : World) (hb : Below wr.heap.size wr w1) => (show Calls Tryz.prog 172 #[.agg #[.string (cn ts k).name, .int .i64 (cn ts k).kind, .slice p2 (cn ts k).pins.length q2, .slice p3 (cn ts k).arcs.length q3, .slice p4 (cn ts k).truth.length q4, .int .i64 (cn ts k).leak, .int .i64 (cn ts k).energy]] w1 _ from specIsCell_any (vec [.string (cn ts k).name, .int .i64 (cn ts k).kind, .slice p2 (cn ts k).pins.length q2, .slice p3 (cn ts k).arcs.length q3, .slice p4 (cn ts k).truth.length q4, .int .i64 (cn ts k).leak, .int .i64 (cn ts k).energy]) (cn ts k) w1 (HA.out.up hb)))
   have hI : (k : Int) < (n : Int) := by omega
   have i0 : (0 : Int) ≤ (k : Int) := by omega
   clear hx e0 e1 e2 e3 e4 e5 e6 x2 x3 x4 hs
   cases hcb : cellB (cn ts k)
   ·have hQ := lh (lib_bad (ts := ts) (k := k) (by have := HN.out; omega) hcb)
    rw [hcb] at HI
    clear hcb
    go_wp2_with (go_at_call 172; refine (HI.out _ eX).mono ?_; rintro e w1 ⟨rfl, hb⟩; have ⟨hc, hf⟩ := bcell hb; have hz := hb.size; (try simp at hz); (try have hz := Nat.lt_of_succ_le hz); (try have y0 := wy w w1); (try have z0 := wz0 w w1); (try have z1 := wz1 w w1); (try have z2 := wz2 w w1); (try have z3 := wz3 w w1); (try have z4 := wz4 w w1); (try have x0 := wz0 wc w1); (try have x1 := wy wc w1))
    rw [hQ.out]
    go_ret
    exact ⟨rfl, eX⟩
   ·have hok := lh (all_more (p := fun j => cellB (cn ts j) = true) hall.out hcb)
    rw [hcb] at HI
    clear hcb
    go_wp2_with fail
    go_at_call 172
    refine (HI.out _ eX).mono ?_
    rintro e w1 ⟨rfl, hb⟩
    have s0 := cell_keep r0 hb
    have hbw1 : Below w.heap.size w w1 := ext_trans hbw hb
    clear HI HA y0 y1 y2 y3 y4 y5 y6 r0 hb
    go_wp2_with fail
    go_loopw [4] (fun j wi => ∃ q : Nat, q ≤ k ∧ j = .int .i64 q ∧ Hid (∀ r, r < q → ((cn ts r).name.toList == (cn ts k).name.toList) = false) ∧ wi.cell? ⟨w.heap.size, 0, none⟩ = some (.slice (some ⟨b, off, none⟩) n cap) ∧ Below w.heap.size w wi) (fun j _ => k - (intOf j).toNat)
    case atStart => exact ⟨0, by omega, rfl, lh (fun j hj => absurd hj (Nat.not_lt_zero j)), s0, hbw1⟩
    case round =>
     clear s0 hbw1
     obtain ⟨q, hq, rfl, hne, r0, hbi⟩ := hrel
     by_cases hqk : q < k
     ·obtain ⟨b', off', e', hlt', hx⟩ := HC.out.at hbi (show q < n by omega)
      obtain ⟨rfl, rfl⟩ : b' = b ∧ off' = off := by simpa using e'.symm
      obtain ⟨_, _, e'', _, hxk⟩ := HC.out.at hbi hkn
      obtain ⟨rfl, rfl⟩ : _ = b' ∧ _ = off' := by simpa using e''.symm
      have u0 := hx 0 (by omega)
      have z0 := hxk 0 (by omega)
      simp only [Nat.add_zero] at u0 z0
      rw [(HF.out q (by omega)).1] at u0
      rw [(HF.out k hkn).1] at z0
      have hqI : (q : Int) < (n : Int) := by omega
      have hqkI : (q : Int) < (k : Int) := by omega
      have q0 : (0 : Int) ≤ (q : Int) := by omega
      clear hx hxk e' e''
      cases hd : ((cn ts q).name.toList == (cn ts k).name.toList)
      ·have hn' := lh (all_more (p := fun r => ((cn ts r).name.toList == (cn ts k).name.toList) = false) hne.out hd)
       go_wp2_with fail
       go_quiet (fail)
       go_wp2_with fail
       go_roundw
       case rel => exact ⟨q + 1, by omega, by go_num, hn', r0, eX⟩
       case measure => simp [intOf]; omega
      ·have hQ := lh (lib_dup (ts := ts) (k := k) (by have := HN.out; omega) (difC_hit hqk hd))
       go_wp2_with fail
       go_quiet (fail)
       go_wp2_with fail
       rw [hQ.out]
       go_ret
       exact ⟨rfl, eX⟩
     ·obtain rfl : q = k := by omega
      have hdd := lh (all_more hdif.out (difC_miss hne.out))
      go_wp2_with fail
      go_roundw
      case rel => exact ⟨q + 1, by omega, by go_num, hok, hdd, r0, hbi⟩
      case measure => simp [intOf]; omega
  ·obtain rfl : k = n := by omega
   have hQ := lh (lib_end (ts := ts) (by rw [← HN.out]; exact hall.out) (by rw [← HN.out]; exact hdif.out))
   rw [← HN.out] at hQ
   by_cases c8 : k ≤ 8
   ·have c8' : (k : Int) ≤ 8 := by omega
    rw [decide_eq_true c8] at hQ
    go_wp2_with fail
    rw [hQ.out]
    go_ret
    exact ⟨rfl, hbw⟩
   ·have c8' : ¬ (k : Int) ≤ 8 := by omega
    rw [decide_eq_false c8] at hQ
    go_wp2_with fail
    rw [hQ.out]
    go_ret
    exact ⟨rfl, hbw⟩
section
variable {H : Type} {enc : TypeId × Value → H} {W : World}
set_option maxRecDepth 100000 in
theorem Tryz.openCells {fuel : Nat} {c0 : Value} {x : DataW H × List MemPlace} (h : DataW.trod enc Tryz.prog W 0 (fun _ => true) true fuel 22 [c0] = some x) : ∃ ts, CellsS W W.heap.size c0 ts := by
 obtain ⟨n, F, hc, hf⟩ := open_rows Tryz.underlying22 Tryz.underlying154 (by kernel_rfl) (by kernel_rfl) (by simp) h
 have each : ∀ i, i < n → ∃ p : CellD, CellF W W.heap.size (F i) p := by
  intro i hi
  obtain ⟨_, _, t0⟩ := hf i hi 0 _ rfl
  obtain ⟨_, _, t1⟩ := hf i hi 1 _ rfl
  obtain ⟨_, _, t2⟩ := hf i hi 2 _ rfl
  obtain ⟨_, _, t3⟩ := hf i hi 3 _ rfl
  obtain ⟨_, _, t4⟩ := hf i hi 4 _ rfl
  obtain ⟨_, _, t5⟩ := hf i hi 5 _ rfl
  obtain ⟨_, _, t6⟩ := hf i hi 6 _ rfl
  obtain ⟨s, e0, _, hs⟩ := DataW.trod_string Tryz.underlying9 t0
  obtain ⟨a1, e1, _, _⟩ := DataW.trod_int Tryz.underlying2 t1
  obtain ⟨a5, e5, _, _⟩ := DataW.trod_int Tryz.underlying2 t5
  obtain ⟨a6, e6, _, _⟩ := DataW.trod_int Tryz.underlying2 t6
  obtain ⟨ps, b2⟩ := Tryz.openPins t2
  obtain ⟨ts, b3⟩ := Tryz.openArcs t3
  obtain ⟨xs, b4⟩ := Tryz.openInts t4
  unfold maxLen at hs
  exact ⟨⟨s, a1, ps, ts, xs, a5, a6⟩, by simpa using e0, by simpa using e1, b2, b3, b4, by simpa using e5, by simpa using e6, by show s.size ≤ _; omega⟩
 have : Inhabited CellD := ⟨⟨.empty, 0, [], [], [], 0, 0⟩⟩
 obtain ⟨q, hq⟩ := choose_lt each
 refine ⟨(List.range n).map q, F, by simpa using hc, fun i hi => ?_⟩
 have hi' : i < n := by simpa using hi
 unfold cn
 rw [map_at q hi']
 exact hq i hi'
end
end Go.Proofs.YtkpfbnffhhmokaaGreat
