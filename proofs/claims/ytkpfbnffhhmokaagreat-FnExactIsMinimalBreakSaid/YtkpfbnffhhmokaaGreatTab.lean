/-
Contracts of IsTable (program and model) and of the laws' own helpers for tables, for all tables.
-/
import Derived.Test.YtkpfbnffhhmokaaGreatNum
import Derived.LoopTactic
import Derived.RegionTactic
import Derived.BigRegion
import Derived.WalkLawsBesides
import Derived.ChangeSlices
import Derived.OwnWalk
namespace Go.Proofs.YtkpfbnffhhmokaaGreat
open Go.ChangeShapes Go.WideShapes Go.ChangeAt Go.RowKit
set_option linter.unusedVariables false
def iv (xs : List Int) (i : Nat) : Int := xs.getD i 0
def allB (p : Nat → Bool) (n : Nat) : Bool := (List.range n).all p
theorem allB_yes {p : Nat → Bool} {n : Nat} (h : ∀ i, i < n → p i = true) : allB p n = true := by simpa [allB] using h
theorem allB_get {p : Nat → Bool} {n : Nat} (h : allB p n = true) : ∀ i, i < n → p i = true := by simpa [allB] using h
theorem allB_no {p : Nat → Bool} {n k : Nat} (hk : k < n) (h : p k = false) : allB p n = false := by
 cases e : allB p n
 ·rfl
 ·rw [allB_get e k hk] at h; cases h
def axOk (xs : List Int) (i : Nat) : Bool := inB (iv xs i) 0 100000 && (decide (i = 0) || decide (iv xs (i - 1) < iv xs i))
def axB (xs : List Int) : Bool := decide (0 < xs.length) && decide (xs.length ≤ 4) && allB (axOk xs) xs.length
def valOk (xs : List Int) (i : Nat) : Bool := inB (iv xs i) (-1000000) 1000000
def valB (xs : List Int) : Bool := allB (valOk xs) xs.length
def tabB (ss ls vs : List Int) : Bool := axB ss && axB ls && decide (vs.length = ss.length * ls.length) && valB vs
theorem ax_get {xs : List Int} (h : axB xs = true) : 0 < xs.length ∧ xs.length ≤ 4 ∧ (∀ i, i < xs.length → 0 ≤ iv xs i ∧ iv xs i ≤ 100000) ∧ ∀ i j, i < j → j < xs.length → iv xs i < iv xs j := by
 simp only [axB, Bool.and_eq_true, decide_eq_true_eq] at h
 obtain ⟨⟨h0, h1⟩, h2⟩ := h
 have ok := allB_get h2
 simp only [axOk, Bool.and_eq_true, Bool.or_eq_true, decide_eq_true_eq] at ok
 refine ⟨h0, h1, fun i hi => inB_get (ok i hi).1, ?_⟩
 intro i j hij hj
 induction j with
 | zero => omega
 | succ j ih =>
  have h3 : iv xs j < iv xs (j + 1) := by
   have := (ok (j + 1) hj).2
   simpa using this
  by_cases e : i = j
  ·subst e; exact h3
  ·have := ih (by omega) (by omega)
   omega
theorem tab_get {ss ls vs : List Int} (h : tabB ss ls vs = true) : axB ss = true ∧ axB ls = true ∧ vs.length = ss.length * ls.length ∧ ∀ i, i < vs.length → -1000000 ≤ iv vs i ∧ iv vs i ≤ 1000000 := by
 simp only [tabB, Bool.and_eq_true, decide_eq_true_eq] at h
 obtain ⟨⟨⟨h0, h1⟩, h2⟩, h3⟩ := h
 exact ⟨h0, h1, h2, fun i hi => inB_get (allB_get h3 i hi)⟩
/-- The argument, brought into an axis. -/
def cl (xs : List Int) (x : Int) : Int := min (max x (iv xs 0)) (iv xs (xs.length - 1))
def up (xs : List Int) (c : Int) (i : Nat) : Nat := if c = iv xs i then i else i + 1
/-- v is a list of integers, in a block below B, or empty. -/
def IntS (w : World) (B : Nat) (v : Value) (xs : List Int) : Prop :=
 xs.length ≤ 9223372036854775807 ∧ ∃ a cap, v = .slice a xs.length cap ∧ (0 < xs.length → ∃ b off, a = some ⟨b, off, none⟩ ∧ b < B ∧ ∀ i, i < xs.length → w.cell? ⟨b, off + i, none⟩ = some (.int .i64 (iv xs i)))
theorem IntS.keep {w w' : World} {B C : Nat} {v : Value} {xs : List Int} (h : IntS w B v xs) (hb : Below B w w') (hB : B ≤ C) : IntS w' C v xs := by
 obtain ⟨h0, a, cap, rfl, h⟩ := h
 refine ⟨h0, a, cap, rfl, fun hp => ?_⟩
 obtain ⟨b, off, rfl, hlt, hx⟩ := h hp
 exact ⟨b, off, rfl, by omega, fun i hi => by rw [hb.cell (by show b < B; omega)]; exact hx i hi⟩
theorem IntS.up {w w' : World} {v : Value} {xs : List Int} (h : IntS w w.heap.size v xs) (hb : Below w.heap.size w w') : IntS w' w'.heap.size v xs := h.keep hb hb.size
theorem ax_empty {xs : List Int} (h : xs.length = 0) : axB xs = false := by simp [axB, h]
theorem ax_long {xs : List Int} (h : 4 < xs.length) : axB xs = false := by
 have : ¬ xs.length ≤ 4 := by omega
 simp [axB, this]
theorem ax_bad {xs : List Int} {k : Nat} (hk : k < xs.length) (h : axOk xs k = false) : axB xs = false := by simp [axB, allB_no hk h]
theorem ax_all {xs : List Int} (h0 : 0 < xs.length) (h1 : xs.length ≤ 4) (h : ∀ i, i < xs.length → axOk xs i = true) : axB xs = true := by simp [axB, h0, h1, allB_yes h]
theorem ax_more {xs : List Int} {k : Nat} (h : ∀ j, j < k → axOk xs j = true) (hk : axOk xs k = true) : ∀ j, j < k + 1 → axOk xs j = true := by
 intro j hj
 rcases Nat.lt_or_ge j k with e | e
 ·exact h j e
 ·obtain rfl : j = k := by omega
  exact hk
theorem implAxis_any (v : Value) (xs : List Int) (w : World) (h : IntS w w.heap.size v xs) : Calls Tryz.prog 249 #[v] w fun e w' => e = .returned (.bool (axB xs)) ∧ Below w.heap.size w w' := by
 obtain ⟨hn, a, cap, rfl, hx0⟩ := h
 obtain ⟨n, hnn⟩ : ∃ n, n = xs.length := ⟨_, rfl⟩
 rw [← hnn] at hn hx0 ⊢
 by_cases c0 : n = 0
 ·rw [ax_empty (by omega)]
  subst c0
  clear hx0 hnn
  go_enter Tryz.func249, Tryz.ntmps249
  go_wp2
  go_ret
  exact ⟨rfl, eX⟩
 ·have hz : ((n : Int) == 0) = false := by simp; omega
  by_cases c4 : 4 < n
  ·rw [ax_long (by omega)]
   have hz4 : decide (4 < (n : Int)) = true := by simp; omega
   clear hx0 hnn c0
   go_enter Tryz.func249, Tryz.ntmps249
   go_wp2
   go_ret
   exact ⟨rfl, eX⟩
  ·obtain ⟨b, off, rfl, hlt, hx⟩ := hx0 (by omega)
   have HX := lh hx
   have HN := lh hnn
   have n0 : 0 < n := by omega
   have n4 : n ≤ 4 := by omega
   have hz4 : decide (4 < (n : Int)) = false := by simp; omega
   clear hx hx0 hnn c0 c4
   go_enter Tryz.func249, Tryz.ntmps249
   go_wp2
   go_loopw [15] (fun i wr => ∃ k : Nat, k ≤ n ∧ i = .int .i64 k ∧ Hid (∀ j, j < k → axOk xs j = true) ∧ Below w.heap.size w wr) (fun i _ => n - (intOf i).toNat)
   case atStart => exact ⟨0, by omega, rfl, lh (fun j hj => absurd hj (Nat.not_lt_zero j)), eX⟩
   case round =>
    obtain ⟨k, hk, rfl, hall, hbw⟩ := hrel
    by_cases hkn : k < n
    ·have x0 := HX.out k hkn
     have y0 : wr.cell? ⟨b, off + k, none⟩ = some (.int .i64 (iv xs k)) := by rw [hbw.cell (by show b < _; omega)]; exact x0
     clear x0
     cases hin : inB (iv xs k) 0 100000
     ·have hQ := lh (ax_bad (xs := xs) (k := k) (by have := HN.out; omega) (by simp [axOk, hin]))
      go_wp2_with (go_at_call 106; refine (inRange_any _ _ _ _).mono ?_; rintro e w' ⟨rfl, rfl⟩)
      rw [hQ.out]
      go_ret
      exact ⟨rfl, eX⟩
     ·rcases k with _ | j
      ·have hn0 : (0 : Int) < (n : Int) := by omega
       have y1 : wr.cell? ⟨b, off, none⟩ = some (.int .i64 (iv xs 0)) := by simpa using y0
       have hok := lh (ax_more (k := 0) hall.out (by simp [axOk, hin]))
       go_wp2_with (go_at_call 106; refine (inRange_any _ _ _ _).mono ?_; rintro e w' ⟨rfl, rfl⟩)
       go_roundw
       case rel => exact ⟨1, by omega, by go_num, hok, eX⟩
       case measure => simp [intOf]; omega
      ·have x1 := HX.out j (by omega)
       have y1 : wr.cell? ⟨b, off + j, none⟩ = some (.int .i64 (iv xs j)) := by rw [hbw.cell (by show b < _; omega)]; exact x1
       clear x1
       by_cases hlt2 : iv xs j < iv xs (j + 1)
       ·have hok := lh (ax_more (k := j + 1) hall.out (by simp [axOk, hin, hlt2]))
        go_wp2_with (go_at_call 106; refine (inRange_any _ _ _ _).mono ?_; rintro e w' ⟨rfl, rfl⟩)
        go_roundw
        case rel => exact ⟨j + 1 + 1, by omega, by go_num, hok, eX⟩
        case measure => simp [intOf]; omega
       ·have hQ := lh (ax_bad (xs := xs) (k := j + 1) (by have := HN.out; omega) (by simp [axOk, hin, hlt2]))
        go_wp2_with (go_at_call 106; refine (inRange_any _ _ _ _).mono ?_; rintro e w' ⟨rfl, rfl⟩)
        rw [hQ.out]
        go_ret
        exact ⟨rfl, eX⟩
    ·obtain rfl : k = n := by omega
     have hQ := lh (ax_all (xs := xs) (by have := HN.out; omega) (by have := HN.out; omega) (by rw [← HN.out]; exact hall.out))
     go_wp2
     rw [hQ.out]
     go_ret
     exact ⟨rfl, hbw⟩
theorem specAxis_any (v : Value) (xs : List Int) (w : World) (h : IntS w w.heap.size v xs) : Calls Tryz.prog 248 #[v] w fun e w' => e = .returned (.bool (axB xs)) ∧ Below w.heap.size w w' := by
 obtain ⟨hn, a, cap, rfl, hx0⟩ := h
 obtain ⟨n, hnn⟩ : ∃ n, n = xs.length := ⟨_, rfl⟩
 rw [← hnn] at hn hx0 ⊢
 have HN := lh hnn
 have HX := lh hx0
 clear hx0 hnn
 go_enter Tryz.func248, Tryz.ntmps248
 go_wp2
 go_loopw [3] (fun i wr => ∃ k : Nat, k ≤ n ∧ i = .int .i64 k ∧ Hid (∀ j, j < k → axOk xs j = true) ∧ Below w.heap.size w wr) (fun i _ => n - (intOf i).toNat)
 case atStart => exact ⟨0, by omega, rfl, lh (fun j hj => absurd hj (Nat.not_lt_zero j)), eX⟩
 case round =>
  obtain ⟨k, hk, rfl, hall, hbw⟩ := hrel
  by_cases hkn : k < n
  ·obtain ⟨b, off, rfl, hlt, hx⟩ := HX.out (by omega)
   have x0 := hx k hkn
   have y0 : wr.cell? ⟨b, off + k, none⟩ = some (.int .i64 (iv xs k)) := by rw [hbw.cell (by show b < _; omega)]; exact x0
   clear x0
   cases hin : inB (iv xs k) 0 100000
   ·have hQ := lh (ax_bad (xs := xs) (k := k) (by have := HN.out; omega) (by simp [axOk, hin]))
    clear hx
    go_wp2
    go_quiet ((go_at_call 102; exact Calls.quiet_of_same (l01In_any _ _ _ _)))
    go_wp2
    rw [hQ.out]
    go_ret
    exact ⟨rfl, eX⟩
   ·rcases k with _ | j
    ·have hn0 : (0 : Int) < (n : Int) := by omega
     have y1 : wr.cell? ⟨b, off, none⟩ = some (.int .i64 (iv xs 0)) := by simpa using y0
     have hok := lh (ax_more (k := 0) hall.out (by simp [axOk, hin]))
     clear hx
     go_wp2
     go_quiet ((go_at_call 102; exact Calls.quiet_of_same (l01In_any _ _ _ _)))
     go_wp2
     go_roundw
     case rel => exact ⟨1, by omega, by go_num, hok, eX⟩
     case measure => simp [intOf]; omega
    ·have x1 := hx j (by omega)
     have y1 : wr.cell? ⟨b, off + j, none⟩ = some (.int .i64 (iv xs j)) := by rw [hbw.cell (by show b < _; omega)]; exact x1
     clear x1 hx
     by_cases hlt2 : iv xs j < iv xs (j + 1)
     ·have hok := lh (ax_more (k := j + 1) hall.out (by simp [axOk, hin, hlt2]))
      go_wp2
      go_quiet ((go_at_call 102; exact Calls.quiet_of_same (l01In_any _ _ _ _)))
      go_wp2
      go_roundw
      case rel => exact ⟨j + 1 + 1, by omega, by go_num, hok, eX⟩
      case measure => simp [intOf]; omega
     ·have hQ := lh (ax_bad (xs := xs) (k := j + 1) (by have := HN.out; omega) (by simp [axOk, hin, hlt2]))
      go_wp2
      go_quiet ((go_at_call 102; exact Calls.quiet_of_same (l01In_any _ _ _ _)))
      go_wp2
      rw [hQ.out]
      go_ret
      exact ⟨rfl, eX⟩
  ·obtain rfl : k = n := by omega
   by_cases c0 : k = 0
   ·have hQ := lh (ax_empty (xs := xs) (by have := HN.out; omega))
    have hz0 : decide (1 ≤ (k : Int)) = false := by simp; omega
    go_wp2
    rw [hQ.out]
    go_ret
    exact ⟨rfl, hbw⟩
   ·have hz0 : decide (1 ≤ (k : Int)) = true := by simp; omega
    by_cases c4 : 4 < k
    ·have hQ := lh (ax_long (xs := xs) (by have := HN.out; omega))
     have hz4 : decide ((k : Int) ≤ 4) = false := by simp; omega
     go_wp2
     rw [hQ.out]
     go_ret
     exact ⟨rfl, hbw⟩
    ·have hz4 : decide ((k : Int) ≤ 4) = true := by simp; omega
     have hQ := lh (ax_all (xs := xs) (by have := HN.out; omega) (by have := HN.out; omega) (by rw [← HN.out]; exact hall.out))
     go_wp2
     rw [hQ.out]
     go_ret
     exact ⟨rfl, hbw⟩
theorem tab_no0 {ss ls vs : List Int} (h : axB ss = false) : tabB ss ls vs = false := by simp [tabB, h]
theorem tab_no1 {ss ls vs : List Int} (h : axB ls = false) : tabB ss ls vs = false := by simp [tabB, h]
theorem tab_no2 {ss ls vs : List Int} (h : ¬ vs.length = ss.length * ls.length) : tabB ss ls vs = false := by simp [tabB, h]
theorem tab_no3 {ss ls vs : List Int} {k : Nat} (hk : k < vs.length) (h : inB (iv vs k) (-1000000) 1000000 = false) : tabB ss ls vs = false := by
 have : valB vs = false := allB_no hk (by simpa [valOk] using h)
 simp [tabB, this]
theorem tab_yes {ss ls vs : List Int} (h0 : axB ss = true) (h1 : axB ls = true) (h2 : vs.length = ss.length * ls.length) (h3 : ∀ i, i < vs.length → inB (iv vs i) (-1000000) 1000000 = true) : tabB ss ls vs = true := by
 have : valB vs = true := allB_yes fun i hi => by simpa [valOk] using h3 i hi
 simp [tabB, h0, h1, h2, this]
theorem all_more {p : Nat → Prop} {k : Nat} (h : ∀ j, j < k → p j) (hk : p k) : ∀ j, j < k + 1 → p j := by
 intro j hj
 rcases Nat.lt_or_ge j k with e | e
 ·exact h j e
 ·obtain rfl : j = k := by omega
  exact hk
theorem isTableValue_any (v : Int) (w : World) : Calls Tryz.prog 250 #[.int .i64 v] w fun e w' => e = .returned (.bool (inB v (-1000000) 1000000)) ∧ w' = w := by
 go_enter Tryz.func250, Tryz.ntmps250
 go_wp2_with (go_at_call 106; refine (inRange_any _ _ _ _).mono ?_; rintro e w' ⟨rfl, rfl⟩)
 go_ret
 exact ⟨rfl, rfl⟩
theorem implIsTable_any (v0 v1 v2 : Value) (ss ls vs : List Int) (w : World) (h0 : IntS w w.heap.size v0 ss) (h1 : IntS w w.heap.size v1 ls) (h2 : IntS w w.heap.size v2 vs) :
  Calls Tryz.prog 244 #[.agg #[v0, v1, v2]] w fun e w' => e = .returned (.bool (tabB ss ls vs)) ∧ Below w.heap.size w w' := by
 have H0 := lh h0
 have H1 := lh h1
 obtain ⟨hn0, a0, c0, rfl, _⟩ := h0
 obtain ⟨hn1, a1, c1, rfl, _⟩ := h1
 obtain ⟨hn, a, cap, rfl, hx0⟩ := h2
 have HX := lh hx0
 clear hx0
 cases e0 : axB ss
 ·rw [tab_no0 e0]
  go_enter Tryz.func244, Tryz.ntmps244
  go_wp2_with (go_at_call 249; refine (implAxis_any _ _ _ (by first | exact H0.out.up eX | exact H1.out.up eX)).mono ?_; rintro e w1 ⟨rfl, hb⟩; have ⟨hc, hf⟩ := bcell hb; have hz := hb.size; (try simp at hz); (try have hz := Nat.lt_of_succ_le hz); (try have y0 := wy w w1); (try have z0 := wz0 w w1); (try have z1 := wz1 w w1); (try have z2 := wz2 w w1); (try have z3 := wz3 w w1); (try have z4 := wz4 w w1); (try have x0 := wz0 wc w1); (try have x1 := wy wc w1))
  go_ret
  exact ⟨rfl, eX⟩
 ·cases e1 : axB ls
  ·rw [tab_no1 e1]
   go_enter Tryz.func244, Tryz.ntmps244
   go_wp2_with (go_at_call 249; refine (implAxis_any _ _ _ (by first | exact H0.out.up eX | exact H1.out.up eX)).mono ?_; rintro e w1 ⟨rfl, hb⟩; have ⟨hc, hf⟩ := bcell hb; have hz := hb.size; (try simp at hz); (try have hz := Nat.lt_of_succ_le hz); (try have y0 := wy w w1); (try have z0 := wz0 w w1); (try have z1 := wz1 w w1); (try have z2 := wz2 w w1); (try have z3 := wz3 w w1); (try have z4 := wz4 w w1); (try have x0 := wz0 wc w1); (try have x1 := wy wc w1))
   go_ret
   exact ⟨rfl, eX⟩
  ·have ⟨p0, p1, _, _⟩ := ax_get e0
   have ⟨p2, p3, _, _⟩ := ax_get e1
   have hm : ss.length * ls.length ≤ 4 * 4 := Nat.mul_le_mul p1 p3
   have hm' : (ss.length : Int) * (ls.length : Int) = ((ss.length * ls.length : Nat) : Int) := by simp
   obtain ⟨q, hq⟩ : ∃ q, q = ss.length * ls.length := ⟨_, rfl⟩
   rw [← hq] at hm hm'
   by_cases e2 : vs.length = q
   ·have HQ := lh hq
    have HN := lh e2
    rw [e2] at hn ⊢
    clear hq e2
    go_enter Tryz.func244, Tryz.ntmps244
    go_wp2_with (go_at_call 249; refine (implAxis_any _ _ _ (by first | exact H0.out.up eX | exact H1.out.up eX)).mono ?_; rintro e w1 ⟨rfl, hb⟩; have ⟨hc, hf⟩ := bcell hb; have hz := hb.size; (try simp at hz); (try have hz := Nat.lt_of_succ_le hz); (try have y0 := wy w w1); (try have z0 := wz0 w w1); (try have z1 := wz1 w w1); (try have z2 := wz2 w w1); (try have z3 := wz3 w w1); (try have z4 := wz4 w w1); (try have x0 := wz0 wc w1); (try have x1 := wy wc w1))
    have E0 := lh e0
    have E1 := lh e1
    clear e0 e1
    go_loopw [31] (fun i wr => ∃ k : Nat, k ≤ q ∧ i = .int .i64 k ∧ Hid (∀ j, j < k → inB (iv vs j) (-1000000) 1000000 = true) ∧ Below w.heap.size w wr) (fun i _ => q - (intOf i).toNat)
    case atStart => exact ⟨0, by omega, rfl, lh (fun j hj => absurd hj (Nat.not_lt_zero j)), eX⟩
    case round =>
     obtain ⟨k, hk, rfl, hall, hbw⟩ := hrel
     by_cases hkn : k < q
     ·obtain ⟨b, off, rfl, hlt, hx⟩ := HX.out (by have := HN.out; omega)
      have x0 := hx k (by have := HN.out; omega)
      have y0 : wr.cell? ⟨b, off + k, none⟩ = some (.int .i64 (iv vs k)) := by rw [hbw.cell (by show b < _; omega)]; exact x0
      clear x0 hx
      cases hin : inB (iv vs k) (-1000000) 1000000
      ·have hQ := lh (tab_no3 (ss := ss) (ls := ls) (by have := HN.out; omega : k < vs.length) hin)
       go_wp2_with (go_at_call 250; refine (isTableValue_any _ _).mono ?_; rintro e w' ⟨rfl, rfl⟩)
       rw [hQ.out]
       go_ret
       exact ⟨rfl, eX⟩
      ·have hok := lh (all_more hall.out hin)
       go_wp2_with (go_at_call 250; refine (isTableValue_any _ _).mono ?_; rintro e w' ⟨rfl, rfl⟩)
       go_roundw
       case rel => exact ⟨k + 1, by omega, by go_num, hok, eX⟩
       case measure => simp [intOf]; omega
     ·obtain rfl : k = q := by omega
      have hQ := lh (tab_yes E0.out E1.out (by rw [HN.out, HQ.out]) (by rw [HN.out]; exact hall.out)) 
      go_wp2
      rw [hQ.out]
      go_ret
      exact ⟨rfl, hbw⟩
   ·have e3 : ((vs.length : Int) != (q : Int)) = true := by simp; omega
    have e4 : ¬ (vs.length : Int) = (q : Int) := by omega
    rw [tab_no2 (by rw [← hq]; exact e2)]
    clear hq e2
    go_enter Tryz.func244, Tryz.ntmps244
    go_wp2_with (go_at_call 249; refine (implAxis_any _ _ _ (by first | exact H0.out.up eX | exact H1.out.up eX)).mono ?_; rintro e w1 ⟨rfl, hb⟩; have ⟨hc, hf⟩ := bcell hb; have hz := hb.size; (try simp at hz); (try have hz := Nat.lt_of_succ_le hz); (try have y0 := wy w w1); (try have z0 := wz0 w w1); (try have z1 := wz1 w w1); (try have z2 := wz2 w w1); (try have z3 := wz3 w w1); (try have z4 := wz4 w w1); (try have x0 := wz0 wc w1); (try have x1 := wy wc w1))
    go_ret
    exact ⟨rfl, eX⟩
theorem specIsTable_any (v0 v1 v2 : Value) (ss ls vs : List Int) (w : World) (h0 : IntS w w.heap.size v0 ss) (h1 : IntS w w.heap.size v1 ls) (h2 : IntS w w.heap.size v2 vs) :
  Calls Tryz.prog 240 #[.agg #[v0, v1, v2]] w fun e w' => e = .returned (.bool (tabB ss ls vs)) ∧ Below w.heap.size w w' := by
 have H0 := lh h0
 have H1 := lh h1
 obtain ⟨hn0, a0, c0, rfl, _⟩ := h0
 obtain ⟨hn1, a1, c1, rfl, _⟩ := h1
 obtain ⟨hn, a, cap, rfl, hx0⟩ := h2
 have HX := lh hx0
 clear hx0
 cases e0 : axB ss
 ·rw [tab_no0 e0]
  go_enter Tryz.func240, Tryz.ntmps240
  go_wp2_with (go_at_call 248; refine (specAxis_any _ _ _ (by first | exact H0.out.up eX | exact H1.out.up eX)).mono ?_; rintro e w1 ⟨rfl, hb⟩; have ⟨hc, hf⟩ := bcell hb; have hz := hb.size; (try simp at hz); (try have hz := Nat.lt_of_succ_le hz); (try have y0 := wy w w1); (try have z0 := wz0 w w1); (try have z1 := wz1 w w1); (try have z2 := wz2 w w1); (try have z3 := wz3 w w1); (try have z4 := wz4 w w1); (try have x0 := wz0 wc w1); (try have x1 := wy wc w1))
  go_ret
  exact ⟨rfl, eX⟩
 ·cases e1 : axB ls
  ·rw [tab_no1 e1]
   go_enter Tryz.func240, Tryz.ntmps240
   go_wp2_with (go_at_call 248; refine (specAxis_any _ _ _ (by first | exact H0.out.up eX | exact H1.out.up eX)).mono ?_; rintro e w1 ⟨rfl, hb⟩; have ⟨hc, hf⟩ := bcell hb; have hz := hb.size; (try simp at hz); (try have hz := Nat.lt_of_succ_le hz); (try have y0 := wy w w1); (try have z0 := wz0 w w1); (try have z1 := wz1 w w1); (try have z2 := wz2 w w1); (try have z3 := wz3 w w1); (try have z4 := wz4 w w1); (try have x0 := wz0 wc w1); (try have x1 := wy wc w1))
   go_ret
   exact ⟨rfl, eX⟩
  ·have ⟨p0, p1, _, _⟩ := ax_get e0
   have ⟨p2, p3, _, _⟩ := ax_get e1
   have hm : ss.length * ls.length ≤ 4 * 4 := Nat.mul_le_mul p1 p3
   have hm' : (ss.length : Int) * (ls.length : Int) = ((ss.length * ls.length : Nat) : Int) := by simp
   obtain ⟨q, hq⟩ : ∃ q, q = ss.length * ls.length := ⟨_, rfl⟩
   rw [← hq] at hm hm'
   by_cases e2 : vs.length = q
   ·have HQ := lh hq
    have HN := lh e2
    rw [e2] at hn ⊢
    clear hq e2
    go_enter Tryz.func240, Tryz.ntmps240
    go_wp2_with (go_at_call 248; refine (specAxis_any _ _ _ (by first | exact H0.out.up eX | exact H1.out.up eX)).mono ?_; rintro e w1 ⟨rfl, hb⟩; have ⟨hc, hf⟩ := bcell hb; have hz := hb.size; (try simp at hz); (try have hz := Nat.lt_of_succ_le hz); (try have y0 := wy w w1); (try have z0 := wz0 w w1); (try have z1 := wz1 w w1); (try have z2 := wz2 w w1); (try have z3 := wz3 w w1); (try have z4 := wz4 w w1); (try have x0 := wz0 wc w1); (try have x1 := wy wc w1))
    have E0 := lh e0
    have E1 := lh e1
    clear e0 e1
    go_loopw [3] (fun i wr => ∃ k : Nat, k ≤ q ∧ i = .int .i64 k ∧ Hid (∀ j, j < k → inB (iv vs j) (-1000000) 1000000 = true) ∧ wr.cell? ⟨w.heap.size, 2, none⟩ = some (.slice a q cap) ∧ Below w.heap.size w wr) (fun i _ => q - (intOf i).toNat)
    case atStart => exact ⟨0, by omega, rfl, lh (fun j hj => absurd hj (Nat.not_lt_zero j)), by (first | assumption | (simp [go_sem, *]; done)), eX⟩
    case round =>
     obtain ⟨k, hk, rfl, hall, c2, hbw⟩ := hrel
     by_cases hkn : k < q
     ·obtain ⟨b, off, rfl, hlt, hx⟩ := HX.out (by have := HN.out; omega)
      have x0 := hx k (by have := HN.out; omega)
      have y0 : wr.cell? ⟨b, off + k, none⟩ = some (.int .i64 (iv vs k)) := by rw [hbw.cell (by show b < _; omega)]; exact x0
      clear x0 hx
      cases hin : inB (iv vs k) (-1000000) 1000000
      ·have hQ := lh (tab_no3 (ss := ss) (ls := ls) (by have := HN.out; omega : k < vs.length) hin)
       go_wp2_with (go_at_call 102; refine (l01In_any _ _ _ _).mono ?_; rintro e w' ⟨rfl, rfl⟩)
       rw [hQ.out]
       go_ret
       exact ⟨rfl, eX⟩
      ·have hok := lh (all_more hall.out hin)
       go_wp2_with (go_at_call 102; refine (l01In_any _ _ _ _).mono ?_; rintro e w' ⟨rfl, rfl⟩)
       go_roundw
       case rel => exact ⟨k + 1, by omega, by go_num, hok, by (first | assumption | (simp [go_sem, *]; done)), eX⟩
       case measure => simp [intOf]; omega
     ·obtain rfl : k = q := by omega
      have hQ := lh (tab_yes E0.out E1.out (by rw [HN.out, HQ.out]) (by rw [HN.out]; exact hall.out)) 
      go_wp2
      rw [hQ.out]
      go_ret
      exact ⟨rfl, hbw⟩
   ·have e3 : ((vs.length : Int) != (q : Int)) = true := by simp; omega
    have e4 : ¬ (vs.length : Int) = (q : Int) := by omega
    rw [tab_no2 (by rw [← hq]; exact e2)]
    clear hq e2
    go_enter Tryz.func240, Tryz.ntmps240
    go_wp2_with (go_at_call 248; refine (specAxis_any _ _ _ (by first | exact H0.out.up eX | exact H1.out.up eX)).mono ?_; rintro e w1 ⟨rfl, hb⟩; have ⟨hc, hf⟩ := bcell hb; have hz := hb.size; (try simp at hz); (try have hz := Nat.lt_of_succ_le hz); (try have y0 := wy w w1); (try have z0 := wz0 w w1); (try have z1 := wz1 w w1); (try have z2 := wz2 w w1); (try have z3 := wz3 w w1); (try have z4 := wz4 w w1); (try have x0 := wz0 wc w1); (try have x1 := wy wc w1))
    go_ret
    exact ⟨rfl, eX⟩
/-- A table's box stands as it was made. -/
abbrev K3 (w w1 : World) (v0 v1 v2 : Value) : Prop := w1.cell? ⟨w.heap.size, 0, none⟩ = some v0 ∧ w1.cell? ⟨w.heap.size, 1, none⟩ = some v1 ∧ w1.cell? ⟨w.heap.size, 2, none⟩ = some v2 ∧ Below w.heap.size w w1 ∧ w.heap.size < w1.heap.size
theorem K3.call {w w1 w2 : World} {v0 v1 v2 : Value} (h : K3 w w1 v0 v1 v2) (hb : Below w1.heap.size w1 w2) : K3 w w2 v0 v1 v2 :=
 ⟨cell_keep h.1 hb, cell_keep h.2.1 hb, cell_keep h.2.2.1 hb, ext_trans h.2.2.2.1 hb, Nat.lt_of_lt_of_le h.2.2.2.2 hb.size⟩
theorem K3.alloc {w w1 : World} {v0 v1 v2 : Value} (h : K3 w w1 v0 v1 v2) (o : Obj) : K3 w (w1.alloc o) v0 v1 v2 := h.call ((Below.refl _ _).alloc (Nat.le_refl _) _)
theorem K3.drew {w w1 : World} {v0 v1 v2 : Value} (h : K3 w w1 v0 v1 v2) : K3 w w1.drew v0 v1 v2 := h.call (Below.refl _ _).drew
theorem K3.set {w w1 : World} {v0 v1 v2 : Value} {p : Addr} (h : K3 w w1 v0 v1 v2) (hp : w.heap.size < p.block) (u : Value) : K3 w (w1.setCell p u) v0 v1 v2 :=
 ⟨cell_keep_set h.1 hp, cell_keep_set h.2.1 hp, cell_keep_set h.2.2.1 hp, ext_set h.2.2.2.1 (by omega) _, by simpa [World.setCell] using h.2.2.2.2⟩
end Go.Proofs.YtkpfbnffhhmokaaGreat
