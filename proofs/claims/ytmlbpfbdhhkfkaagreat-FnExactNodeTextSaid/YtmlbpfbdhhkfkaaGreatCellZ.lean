/-
The laws' own sizes of pins, tables, arcs and cells: not negative only if every list is short enough.
-/
import Derived.Test.YtmlbpfbdhhkfkaaGreatCellD
namespace Go.Proofs.YtmlbpfbdhhkfkaaGreat
open Go.ChangeShapes Go.WideShapes Go.ChangeAt Go.RowKit
set_option linter.unusedVariables false
/-- A size is left over, or -1; one that is left over tells that P. -/
def Left (P : Prop) (w : World) (e : Ending) (w' : World) : Prop := (∃ r : Int, e = .returned (.int .i64 r) ∧ -1 ≤ r ∧ r ≤ 1048576 ∧ (0 ≤ r → P)) ∧ Below w.heap.size w w'
theorem szInts_any (v : Value) (xs : List Int) (l : Int) (w : World) (h : IntS w w.heap.size v xs) (h0 : 0 ≤ l) (h1 : l ≤ 1048576) :
  Calls Tryz.prog 116 #[v, .int .i64 l] w fun e w' => (∃ r : Int, e = .returned (.int .i64 r) ∧ -1 ≤ r ∧ r ≤ l ∧ (0 ≤ r → xs.length + r ≤ l)) ∧ Below w.heap.size w w' := by
 refine (szInt64S_any v xs _ l w h h0 h1).mono ?_
 rintro e w' ⟨rfl, rfl⟩
 refine ⟨⟨_, rfl, ?_⟩, Below.refl _ _⟩
 unfold szR
 split
 ·exact ⟨by omega, by omega, fun h => absurd h (by omega)⟩
 ·exact ⟨by omega, by omega, fun h => by omega⟩
theorem szTab_any (f : Nat → Value) (t : TabD) (l : Int) (w : World) (h : TabF w w.heap.size f t) (h0 : 0 ≤ l) (h1 : l ≤ 1048576) :
  Calls Tryz.prog 231 #[.agg #[f 0, f 1, f 2], .int .i64 l] w (Left (TabSm t) w) := by
 obtain ⟨v0, v1, v2, e0, e1, e2⟩ : ∃ v0 v1 v2, f 0 = v0 ∧ f 1 = v1 ∧ f 2 = v2 := ⟨_, _, _, rfl, rfl, rfl⟩
 obtain ⟨x0, x1, x2⟩ := h
 rw [e0] at x0; rw [e1] at x1; rw [e2] at x2
 rw [e0, e1, e2]
 have H0 := Lib.hid x0; have H1 := Lib.hid x1; have H2 := Lib.hid x2
 clear x0 x1 x2 e0 e1 e2
 go_enter Tryz.func231, Tryz.ntmps231
 go_wp2_with fail
 (go_at_call 116; refine (szInts_any _ _ _ _ (H0.out.up eX) h0 h1).mono ?_; rintro e w1 ⟨⟨r1, rfl, a1, b1, c1⟩, hb⟩; have ⟨hc, hf⟩ := bcell hb; have hz := hb.size; (try simp at hz); (try have hz := Nat.lt_of_succ_le hz); (try have y0 := wy w w1); (try have z0 := wz0 w w1); (try have z1 := wz1 w w1); (try have z2 := wz2 w w1); (try have z3 := wz3 w w1); (try have z4 := wz4 w w1))
 by_cases n1 : r1 < 0
 ·go_wp2
  go_ret
  exact ⟨⟨_, rfl, by omega, by omega, fun h => absurd h (by omega)⟩, eX⟩
 ·go_wp2_with fail
  (go_at_call 116; refine (szInts_any _ _ _ _ (H1.out.up eX) (by omega) (by omega)).mono ?_; rintro e w2 ⟨⟨r2, rfl, a2, b2, c2⟩, hb⟩; have ⟨hc, hf⟩ := bcell hb; have hz := hb.size; (try simp at hz); (try have hz := Nat.lt_of_succ_le hz); (try have y0 := wy w w2); (try have z0 := wz0 w w2); (try have z1 := wz1 w w2); (try have z2 := wz2 w w2); (try have z3 := wz3 w w2); (try have z4 := wz4 w w2))
  by_cases n2 : r2 < 0
  ·go_wp2
   go_ret
   exact ⟨⟨_, rfl, by omega, by omega, fun h => absurd h (by omega)⟩, eX⟩
  ·go_wp2_with fail
   (go_at_call 116; refine (szInts_any _ _ _ _ (H2.out.up eX) (by omega) (by omega)).mono ?_; rintro e w3 ⟨⟨r3, rfl, a3, b3, c3⟩, hb⟩; have ⟨hc, hf⟩ := bcell hb; have hz := hb.size; (try simp at hz); (try have hz := Nat.lt_of_succ_le hz); (try have y0 := wy w w3); (try have z0 := wz0 w w3); (try have z1 := wz1 w w3); (try have z2 := wz2 w w3); (try have z3 := wz3 w w3); (try have z4 := wz4 w w3))
   by_cases n3 : r3 < 0
   ·go_wp2
    go_ret
    exact ⟨⟨_, rfl, by omega, by omega, fun h => absurd h (by omega)⟩, eX⟩
   ·go_wp2
    go_ret
    exact ⟨⟨_, rfl, by omega, by omega, fun h => by have := c1 (by omega); have := c2 (by omega); have := c3 (by omega); unfold TabSm; omega⟩, eX⟩
theorem szPin_any (f : Nat → Value) (p : PinD) (l : Int) (w : World) (h : PinF f p) (h0 : 0 ≤ l) (h1 : l ≤ 1048576) :
  Calls Tryz.prog 183 #[.agg #[f 0, f 1, f 2, f 3], .int .i64 l] w (Left True w) := by
 obtain ⟨e0, e1, e2, e3, hs⟩ := h
 rw [e0, e1, e2, e3]
 clear e0 e1 e2 e3
 by_cases hd : l - (p.name.size : Int) < 0
 ·go_enter Tryz.func183, Tryz.ntmps183
  go_wp2
  go_ret
  exact ⟨⟨_, rfl, by omega, by omega, fun _ => trivial⟩, eX⟩
 ·go_enter Tryz.func183, Tryz.ntmps183
  go_wp2
  go_ret
  exact ⟨⟨_, rfl, by omega, by omega, fun _ => trivial⟩, eX⟩
theorem szPins_any (v : Value) (ps : List PinD) (l : Int) (w : World) (h : PinsS w w.heap.size v ps) (h0 : 0 ≤ l) (h1 : l ≤ 1048576) :
  Calls Tryz.prog 146 #[v, .int .i64 l] w (Left (PinsSm ps) w) := by
 obtain ⟨F, hc, hf⟩ := h
 unfold PinsSm
 obtain ⟨n, hnn⟩ : ∃ n, n = ps.length := ⟨_, rfl⟩
 rw [← hnn] at hc hf ⊢
 have HC := hc
 obtain ⟨hn, a, cap, rfl, _⟩ := hc
 have HC := Lib.hid HC; have HF := Lib.hid hf
 clear hf hnn
 by_cases hd : l - (n : Int) < 0
 ·go_enter Tryz.func146, Tryz.ntmps146
  go_wp2
  go_ret
  exact ⟨⟨_, rfl, by omega, by omega, fun h => absurd h (by omega)⟩, eX⟩
 ·go_enter Tryz.func146, Tryz.ntmps146
  go_wp2
  go_loopw [5, 1] (fun i q wr => ∃ (k : Nat) (r : Int), k ≤ n ∧ i = .int .i64 k ∧ q = .int .i64 r ∧ 0 ≤ r ∧ r ≤ 1048576 ∧ Below w.heap.size w wr) (fun i _ _ => n - (intOf i).toNat)
  case atStart => exact ⟨0, _, by omega, rfl, rfl, by omega, by omega, eX⟩
  case round =>
   obtain ⟨k, r, hk, rfl, rfl, hr0, hr1, hbw⟩ := hrel
   by_cases hkn : k < n
   ·obtain ⟨b, off, rfl, hlt, hx⟩ := HC.out.at hbw hkn
    have y0 := hx 0 (by omega); have y1 := hx 1 (by omega); have y2 := hx 2 (by omega); have y3 := hx 3 (by omega)
    simp only [Nat.add_zero] at y0
    clear hx
    go_wp2_with fail
    (go_at_call 183; refine (szPin_any (F k) _ _ _ (HF.out k hkn) hr0 hr1).mono ?_; rintro e w1 ⟨⟨r1, rfl, a1, b1, _⟩, hb⟩; have ⟨hc, hf⟩ := bcell hb; have hz := hb.size; (try simp at hz); (try have hz := Nat.lt_of_succ_le hz); (try have y0 := wy w w1); (try have z0 := wz0 w w1); (try have z1 := wz1 w w1); (try have z2 := wz2 w w1); (try have z3 := wz3 w w1); (try have z4 := wz4 w w1))
    by_cases n1 : r1 < 0
    ·go_wp2
     go_ret
     exact ⟨⟨_, rfl, by omega, by omega, fun h => absurd h (by omega)⟩, eX⟩
    ·go_wp2
     go_roundw
     case rel => exact ⟨k + 1, _, by omega, by go_num, rfl, by omega, by omega, eX⟩
     case measure => simp [intOf]; omega
   ·obtain rfl : k = n := by omega
    go_wp2
    go_ret
    exact ⟨⟨_, rfl, by omega, by omega, fun _ => by omega⟩, hbw⟩
theorem szTabs_any (v : Value) (ts : List TabD) (l : Int) (w : World) (h : TabsS w w.heap.size v ts) (h0 : 0 ≤ l) (h1 : l ≤ 1048576) :
  Calls Tryz.prog 211 #[v, .int .i64 l] w (Left (TabsSm ts) w) := by
 obtain ⟨F, hc, hf⟩ := h
 unfold TabsSm
 obtain ⟨n, hnn⟩ : ∃ n, n = ts.length := ⟨_, rfl⟩
 rw [← hnn] at hc hf ⊢
 have HC := hc
 obtain ⟨hn, a, cap, rfl, _⟩ := hc
 have HC := Lib.hid HC; have HF := Lib.hid hf
 clear hf hnn
 by_cases hd : l - (n : Int) < 0
 ·go_enter Tryz.func211, Tryz.ntmps211
  go_wp2
  go_ret
  exact ⟨⟨_, rfl, by omega, by omega, fun h => absurd h (by omega)⟩, eX⟩
 ·go_enter Tryz.func211, Tryz.ntmps211
  go_wp2
  go_loopw [5, 1] (fun i q wr => ∃ (k : Nat) (r : Int), k ≤ n ∧ i = .int .i64 k ∧ q = .int .i64 r ∧ 0 ≤ r ∧ r ≤ 1048576 ∧ Hid (∀ j, j < k → TabSm (tn ts j)) ∧ Below w.heap.size w wr) (fun i _ _ => n - (intOf i).toNat)
  case atStart => exact ⟨0, _, by omega, rfl, rfl, by omega, by omega, Lib.hid (fun j hj => absurd hj (Nat.not_lt_zero j)), eX⟩
  case round =>
   obtain ⟨k, r, hk, rfl, rfl, hr0, hr1, hall, hbw⟩ := hrel
   by_cases hkn : k < n
   ·obtain ⟨b, off, rfl, hlt, hx⟩ := HC.out.at hbw hkn
    have y0 := hx 0 (by omega); have y1 := hx 1 (by omega); have y2 := hx 2 (by omega)
    simp only [Nat.add_zero] at y0
    clear hx
    go_wp2_with fail
    (go_at_call 231; refine (szTab_any (F k) _ _ _ ((HF.out k hkn).up hbw) hr0 hr1).mono ?_; rintro e w1 ⟨⟨r1, rfl, a1, b1, c1⟩, hb⟩; have ⟨hc, hf⟩ := bcell hb; have hz := hb.size; (try simp at hz); (try have hz := Nat.lt_of_succ_le hz); (try have y0 := wy w w1); (try have z0 := wz0 w w1); (try have z1 := wz1 w w1); (try have z2 := wz2 w w1); (try have z3 := wz3 w w1); (try have z4 := wz4 w w1))
    by_cases n1 : r1 < 0
    ·go_wp2
     go_ret
     exact ⟨⟨_, rfl, by omega, by omega, fun h => absurd h (by omega)⟩, eX⟩
    ·have hok := Lib.hid (all_more hall.out (c1 (by omega)))
     clear c1
     go_wp2
     go_roundw
     case rel => exact ⟨k + 1, _, by omega, by go_num, rfl, by omega, by omega, hok, eX⟩
     case measure => simp [intOf]; omega
   ·obtain rfl : k = n := by omega
    go_wp2
    go_ret
    exact ⟨⟨_, rfl, by omega, by omega, fun _ => ⟨by omega, hall.out⟩⟩, hbw⟩
theorem szArc_any (f : Nat → Value) (t : ArcD) (l : Int) (w : World) (h : ArcF w w.heap.size f t) (h0 : 0 ≤ l) (h1 : l ≤ 1048576) :
  Calls Tryz.prog 184 #[.agg #[f 0, f 1, f 2, f 3, f 4, f 5], .int .i64 l] w (Left (ArcSm t) w) := by
 obtain ⟨e0, e1, e2, e3, x4, x5⟩ := h
 rw [e0, e1, e2, e3]
 obtain ⟨v4, v5, e4, e5⟩ : ∃ v4 v5, f 4 = v4 ∧ f 5 = v5 := ⟨_, _, rfl, rfl⟩
 rw [e4] at x4; rw [e5] at x5
 rw [e4, e5]
 have H4 := Lib.hid x4; have H5 := Lib.hid x5
 clear x4 x5 e0 e1 e2 e3 e4 e5
 go_enter Tryz.func184, Tryz.ntmps184
 go_wp2_with fail
 (go_at_call 211; refine (szTabs_any _ _ _ _ (H4.out.up eX) h0 h1).mono ?_; rintro e w1 ⟨⟨r1, rfl, a1, b1, c1⟩, hb⟩; have ⟨hc, hf⟩ := bcell hb; have hz := hb.size; (try simp at hz); (try have hz := Nat.lt_of_succ_le hz); (try have y0 := wy w w1); (try have z0 := wz0 w w1); (try have z1 := wz1 w w1); (try have z2 := wz2 w w1); (try have z3 := wz3 w w1); (try have z4 := wz4 w w1))
 by_cases n1 : r1 < 0
 ·go_wp2
  go_ret
  exact ⟨⟨_, rfl, by omega, by omega, fun h => absurd h (by omega)⟩, eX⟩
 ·go_wp2_with fail
  (go_at_call 211; refine (szTabs_any _ _ _ _ (H5.out.up eX) (by omega) (by omega)).mono ?_; rintro e w2 ⟨⟨r2, rfl, a2, b2, c2⟩, hb⟩; have ⟨hc, hf⟩ := bcell hb; have hz := hb.size; (try simp at hz); (try have hz := Nat.lt_of_succ_le hz); (try have y0 := wy w w2); (try have z0 := wz0 w w2); (try have z1 := wz1 w w2); (try have z2 := wz2 w w2); (try have z3 := wz3 w w2); (try have z4 := wz4 w w2))
  by_cases n2 : r2 < 0
  ·go_wp2
   go_ret
   exact ⟨⟨_, rfl, by omega, by omega, fun h => absurd h (by omega)⟩, eX⟩
  ·go_wp2
   go_ret
   exact ⟨⟨_, rfl, by omega, by omega, fun h => ⟨c1 (by omega), c2 (by omega)⟩⟩, eX⟩
theorem szArcs_any (v : Value) (ts : List ArcD) (l : Int) (w : World) (h : ArcsS w w.heap.size v ts) (h0 : 0 ≤ l) (h1 : l ≤ 1048576) :
  Calls Tryz.prog 147 #[v, .int .i64 l] w (Left (ArcsSm ts) w) := by
 obtain ⟨F, hc, hf⟩ := h
 unfold ArcsSm
 obtain ⟨n, hnn⟩ : ∃ n, n = ts.length := ⟨_, rfl⟩
 rw [← hnn] at hc hf ⊢
 have HC := hc
 obtain ⟨hn, a, cap, rfl, _⟩ := hc
 have HC := Lib.hid HC; have HF := Lib.hid hf
 clear hf hnn
 by_cases hd : l - (n : Int) < 0
 ·go_enter Tryz.func147, Tryz.ntmps147
  go_wp2
  go_ret
  exact ⟨⟨_, rfl, by omega, by omega, fun h => absurd h (by omega)⟩, eX⟩
 ·go_enter Tryz.func147, Tryz.ntmps147
  go_wp2
  go_loopw [5, 1] (fun i q wr => ∃ (k : Nat) (r : Int), k ≤ n ∧ i = .int .i64 k ∧ q = .int .i64 r ∧ 0 ≤ r ∧ r ≤ 1048576 ∧ Hid (∀ j, j < k → ArcSm (an ts j)) ∧ Below w.heap.size w wr) (fun i _ _ => n - (intOf i).toNat)
  case atStart => exact ⟨0, _, by omega, rfl, rfl, by omega, by omega, Lib.hid (fun j hj => absurd hj (Nat.not_lt_zero j)), eX⟩
  case round =>
   obtain ⟨k, r, hk, rfl, rfl, hr0, hr1, hall, hbw⟩ := hrel
   by_cases hkn : k < n
   ·obtain ⟨b, off, rfl, hlt, hx⟩ := HC.out.at hbw hkn
    have y0 := hx 0 (by omega); have y1 := hx 1 (by omega); have y2 := hx 2 (by omega); have y3 := hx 3 (by omega); have y4 := hx 4 (by omega); have y5 := hx 5 (by omega)
    simp only [Nat.add_zero] at y0
    clear hx
    go_wp2_with fail
    (go_at_call 184; refine (szArc_any (F k) _ _ _ ((HF.out k hkn).up hbw) hr0 hr1).mono ?_; rintro e w1 ⟨⟨r1, rfl, a1, b1, c1⟩, hb⟩; have ⟨hc, hf⟩ := bcell hb; have hz := hb.size; (try simp at hz); (try have hz := Nat.lt_of_succ_le hz); (try have y0 := wy w w1); (try have z0 := wz0 w w1); (try have z1 := wz1 w w1); (try have z2 := wz2 w w1); (try have z3 := wz3 w w1); (try have z4 := wz4 w w1))
    by_cases n1 : r1 < 0
    ·go_wp2
     go_ret
     exact ⟨⟨_, rfl, by omega, by omega, fun h => absurd h (by omega)⟩, eX⟩
    ·have hok := Lib.hid (all_more hall.out (c1 (by omega)))
     clear c1
     go_wp2
     go_roundw
     case rel => exact ⟨k + 1, _, by omega, by go_num, rfl, by omega, by omega, hok, eX⟩
     case measure => simp [intOf]; omega
   ·obtain rfl : k = n := by omega
    go_wp2
    go_ret
    exact ⟨⟨_, rfl, by omega, by omega, fun _ => ⟨by omega, hall.out⟩⟩, hbw⟩
theorem szCell_any (f : Nat → Value) (t : CellD) (l : Int) (w : World) (h : CellF w w.heap.size f t) (h0 : 0 ≤ l) (h1 : l ≤ 1048576) :
  Calls Tryz.prog 113 #[.agg #[f 0, f 1, f 2, f 3, f 4, f 5, f 6], .int .i64 l] w (Left (CellSm t) w) := by
 obtain ⟨e0, e1, x2, x3, x4, e5, e6, hs⟩ := h
 rw [e0, e1, e5, e6]
 obtain ⟨v2, v3, v4, e2, e3, e4⟩ : ∃ v2 v3 v4, f 2 = v2 ∧ f 3 = v3 ∧ f 4 = v4 := ⟨_, _, _, rfl, rfl, rfl⟩
 rw [e2] at x2; rw [e3] at x3; rw [e4] at x4
 rw [e2, e3, e4]
 have H2 := Lib.hid x2; have H3 := Lib.hid x3; have H4 := Lib.hid x4
 clear x2 x3 x4 e0 e1 e2 e3 e4 e5 e6
 by_cases hd : l - (t.name.size : Int) < 0
 ·go_enter Tryz.func113, Tryz.ntmps113
  go_wp2
  go_ret
  exact ⟨⟨_, rfl, by omega, by omega, fun h => absurd h (by omega)⟩, eX⟩
 ·go_enter Tryz.func113, Tryz.ntmps113
  go_wp2_with fail
  (go_at_call 146; refine (szPins_any _ _ _ _ (H2.out.up eX) (by omega) (by omega)).mono ?_; rintro e w1 ⟨⟨r1, rfl, a1, b1, c1⟩, hb⟩; have ⟨hc, hf⟩ := bcell hb; have hz := hb.size; (try simp at hz); (try have hz := Nat.lt_of_succ_le hz); (try have y0 := wy w w1); (try have z0 := wz0 w w1); (try have z1 := wz1 w w1); (try have z2 := wz2 w w1); (try have z3 := wz3 w w1); (try have z4 := wz4 w w1))
  by_cases n1 : r1 < 0
  ·go_wp2
   go_ret
   exact ⟨⟨_, rfl, by omega, by omega, fun h => absurd h (by omega)⟩, eX⟩
  ·go_wp2_with fail
   (go_at_call 147; refine (szArcs_any _ _ _ _ (H3.out.up eX) (by omega) (by omega)).mono ?_; rintro e w2 ⟨⟨r2, rfl, a2, b2, c2⟩, hb⟩; have ⟨hc, hf⟩ := bcell hb; have hz := hb.size; (try simp at hz); (try have hz := Nat.lt_of_succ_le hz); (try have y0 := wy w w2); (try have z0 := wz0 w w2); (try have z1 := wz1 w w2); (try have z2 := wz2 w w2); (try have z3 := wz3 w w2); (try have z4 := wz4 w w2))
   by_cases n2 : r2 < 0
   ·go_wp2
    go_ret
    exact ⟨⟨_, rfl, by omega, by omega, fun h => absurd h (by omega)⟩, eX⟩
   ·go_wp2_with fail
    (go_at_call 116; refine (szInts_any _ _ _ _ (H4.out.up eX) (by omega) (by omega)).mono ?_; rintro e w3 ⟨⟨r3, rfl, a3, b3, c3⟩, hb⟩; have ⟨hc, hf⟩ := bcell hb; have hz := hb.size; (try simp at hz); (try have hz := Nat.lt_of_succ_le hz); (try have y0 := wy w w3); (try have z0 := wz0 w w3); (try have z1 := wz1 w w3); (try have z2 := wz2 w w3); (try have z3 := wz3 w w3); (try have z4 := wz4 w w3))
    by_cases n3 : r3 < 0
    ·go_wp2
     go_ret
     exact ⟨⟨_, rfl, by omega, by omega, fun h => absurd h (by omega)⟩, eX⟩
    ·go_wp2
     go_ret
     exact ⟨⟨_, rfl, by omega, by omega, fun h => ⟨c1 (by omega), c2 (by omega), by have := c3 (by omega); omega⟩⟩, eX⟩
theorem szCells_any (v : Value) (ts : List CellD) (l : Int) (w : World) (h : CellsS w w.heap.size v ts) (h0 : 0 ≤ l) (h1 : l ≤ 1048576) :
  Calls Tryz.prog 71 #[v, .int .i64 l] w (Left (CellsSm ts) w) := by
 obtain ⟨F, hc, hf⟩ := h
 unfold CellsSm
 obtain ⟨n, hnn⟩ : ∃ n, n = ts.length := ⟨_, rfl⟩
 rw [← hnn] at hc hf ⊢
 have HC := hc
 obtain ⟨hn, a, cap, rfl, _⟩ := hc
 have HC := Lib.hid HC; have HF := Lib.hid hf
 clear hf hnn
 by_cases hd : l - (n : Int) < 0
 ·go_enter Tryz.func71, Tryz.ntmps71
  go_wp2
  go_ret
  exact ⟨⟨_, rfl, by omega, by omega, fun h => absurd h (by omega)⟩, eX⟩
 ·go_enter Tryz.func71, Tryz.ntmps71
  go_wp2
  go_loopw [5, 1] (fun i q wr => ∃ (k : Nat) (r : Int), k ≤ n ∧ i = .int .i64 k ∧ q = .int .i64 r ∧ 0 ≤ r ∧ r ≤ 1048576 ∧ Hid (∀ j, j < k → CellSm (cn ts j)) ∧ Below w.heap.size w wr) (fun i _ _ => n - (intOf i).toNat)
  case atStart => exact ⟨0, _, by omega, rfl, rfl, by omega, by omega, Lib.hid (fun j hj => absurd hj (Nat.not_lt_zero j)), eX⟩
  case round =>
   obtain ⟨k, r, hk, rfl, rfl, hr0, hr1, hall, hbw⟩ := hrel
   by_cases hkn : k < n
   ·obtain ⟨b, off, rfl, hlt, hx⟩ := HC.out.at hbw hkn
    have y0 := hx 0 (by omega); have y1 := hx 1 (by omega); have y2 := hx 2 (by omega); have y3 := hx 3 (by omega); have y4 := hx 4 (by omega); have y5 := hx 5 (by omega); have y6 := hx 6 (by omega)
    simp only [Nat.add_zero] at y0
    clear hx
    go_wp2_with fail
    (go_at_call 113; refine (szCell_any (F k) _ _ _ ((HF.out k hkn).up hbw) hr0 hr1).mono ?_; rintro e w1 ⟨⟨r1, rfl, a1, b1, c1⟩, hb⟩; have ⟨hc, hf⟩ := bcell hb; have hz := hb.size; (try simp at hz); (try have hz := Nat.lt_of_succ_le hz); (try have y0 := wy w w1); (try have z0 := wz0 w w1); (try have z1 := wz1 w w1); (try have z2 := wz2 w w1); (try have z3 := wz3 w w1); (try have z4 := wz4 w w1))
    by_cases n1 : r1 < 0
    ·go_wp2
     go_ret
     exact ⟨⟨_, rfl, by omega, by omega, fun h => absurd h (by omega)⟩, eX⟩
    ·have hok := Lib.hid (all_more hall.out (c1 (by omega)))
     clear c1
     go_wp2
     go_roundw
     case rel => exact ⟨k + 1, _, by omega, by go_num, rfl, by omega, by omega, hok, eX⟩
     case measure => simp [intOf]; omega
   ·obtain rfl : k = n := by omega
    go_wp2
    go_ret
    exact ⟨⟨_, rfl, by omega, by omega, fun _ => ⟨by omega, hall.out⟩⟩, hbw⟩
theorem szLibrary_any (v : Value) (ts : List CellD) (l : Int) (w : World) (h : CellsS w w.heap.size v ts) (h0 : 0 ≤ l) (h1 : l ≤ 1048576) :
  Calls Tryz.prog 38 #[.agg #[v], .int .i64 l] w (Left (CellsSm ts) w) := by
 have H := Lib.hid h
 clear h
 go_enter Tryz.func38, Tryz.ntmps38
 go_wp2_with fail
 (go_at_call 71; refine (szCells_any _ _ _ _ (H.out.up eX) h0 h1).mono ?_; rintro e w1 ⟨⟨r1, rfl, a1, b1, c1⟩, hb⟩; have ⟨hc, hf⟩ := bcell hb; have hz := hb.size; (try simp at hz); (try have hz := Nat.lt_of_succ_le hz); (try have y0 := wy w w1); (try have z0 := wz0 w w1); (try have z1 := wz1 w w1); (try have z2 := wz2 w w1); (try have z3 := wz3 w w1); (try have z4 := wz4 w w1))
 by_cases n1 : r1 < 0
 ·go_wp2
  go_ret
  exact ⟨⟨_, rfl, by omega, by omega, fun h => absurd h (by omega)⟩, eX⟩
 ·go_wp2
  go_ret
  exact ⟨⟨_, rfl, by omega, by omega, c1⟩, eX⟩
end Go.Proofs.YtmlbpfbdhhkfkaaGreat
