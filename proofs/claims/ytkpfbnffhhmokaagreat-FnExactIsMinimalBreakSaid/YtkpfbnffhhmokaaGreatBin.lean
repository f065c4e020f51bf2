/-
The program's timing graph of a block: its links, and the live ones from and to each node.
-/
import Derived.Test.YtkpfbnffhhmokaaGreatLinkF
import Derived.Deep.LoopGhost
namespace Go.Proofs.YtkpfbnffhhmokaaGreat
open Go.ChangeShapes Go.WideShapes Go.ChangeAt Go.RowKit Go.Deep
set_option linter.unusedVariables false
set_option linter.unusedSimpArgs false
set_option maxRecDepth 100000
theorem hasIxLink_any (a : Option Addr) (n cap : Nat) (x : Int) (w : World) (hn : n ≤ 9223372036854775807) : Calls Tryz.prog 122 #[.slice a n cap, .int .i64 x] w fun e w' => e = .returned (.bool (inB x 0 ((n : Int) - 1))) ∧ w' = w := by
 go_enter Tryz.func122, Tryz.ntmps122
 go_wp2_with (go_at_call 106; refine (inRange_any _ _ _ _).mono ?_; rintro e w' ⟨rfl, hw'⟩; rw [hw']; clear hw' w')
 go_ret
 exact ⟨rfl, rfl⟩
theorem hasIxRow_any (a : Option Addr) (n cap : Nat) (x : Int) (w : World) (hn : n ≤ 9223372036854775807) : Calls Tryz.prog 70 #[.slice a n cap, .int .i64 x] w fun e w' => e = .returned (.bool (inB x 0 ((n : Int) - 1))) ∧ w' = w := by
 go_enter Tryz.func70, Tryz.ntmps70
 go_wp2_with (go_at_call 106; refine (inRange_any _ _ _ _).mono ?_; rintro e w' ⟨rfl, hw'⟩; rw [hw']; clear hw' w')
 go_ret
 exact ⟨rfl, rfl⟩
set_option maxHeartbeats 8000000 in
theorem isIxList_any (la : Option Addr) (ln lc : Nat) (v : Value) (bs : List Int) (w : World) (h : IntS w w.heap.size v bs) (x1 : ln ≤ 1000000) :
  Calls Tryz.prog 93 #[.slice la ln lc, v] w fun e w' => e = .returned (.bool (risB bs (ln : Int))) ∧ Below w.heap.size w w' := by
 have hln := h.1
 obtain ⟨a, c, rfl⟩ := h.slice
 have HB := lh h
 clear h
 obtain ⟨n, hn⟩ : ∃ n, n = bs.length := ⟨_, rfl⟩
 rw [← hn] at hln HB ⊢
 have HN := lh hn
 clear hn
 go_enter Tryz.func93, Tryz.ntmps93
 go_wp2_with fail
 go_loopw [9] (fun i wr => ∃ k : Nat, k ≤ n ∧ i = .int .i64 k ∧ Hid (∀ j, j < k → risOk bs (ln : Int) j = true) ∧ Below w.heap.size w wr) (fun i _ => n - (intOf i).toNat)
 case atStart => exact ⟨0, by omega, rfl, lh (fun j hj => absurd hj (Nat.not_lt_zero j)), Below.refl _ _⟩
 case round =>
  obtain ⟨k, hk, rfl, hall, hbr⟩ := hrel
  by_cases hkn : k < n
  ·obtain ⟨b, off, rfl, hlt, y0⟩ := ints_at HB.out hbr (show k < bs.length by rw [← HN.out]; exact hkn)
   have i0 : (0 : Int) ≤ (k : Int) := by omega
   have i1 : (k : Int) < (n : Int) := by omega
   have lb : b < wr.heap.size := cell_lt y0
   cases hin : inB (iv bs k) 0 ((ln : Int) - 1)
   ·have HI := lh (fun (w1 : World) => (show Calls Tryz.prog 122 #[.slice la ln lc, .int .i64 (iv bs k)] w1 fun e w' => e = .returned (.bool false) ∧ w' = w1 from by have := hasIxLink_any la ln lc (iv bs k) w1 (by omega); rw [hin] at this; exact this))
    have hQ := lh (ris_bad (bs := bs) (n := (ln : Int)) (k := k) (by rw [← HN.out]; exact hkn) (by simp [risOk, hin]))
    clear hin
    go_wp2_with (go_at_call 122; refine (HI.out _).mono ?_; rintro e w' ⟨rfl, hw'⟩; rw [hw']; clear hw' w')
    rw [hQ.out]
    go_ret
    exact ⟨rfl, eX⟩
   ·have HI := lh (fun (w1 : World) => (show Calls Tryz.prog 122 #[.slice la ln lc, .int .i64 (iv bs k)] w1 fun e w' => e = .returned (.bool true) ∧ w' = w1 from by have := hasIxLink_any la ln lc (iv bs k) w1 (by omega); rw [hin] at this; exact this))
    by_cases hk0 : k = 0
    ·have hok := lh (all_more (p := fun j => risOk bs (ln : Int) j = true) hall.out (by simp only [risOk, hin, Bool.true_and]; simp [hk0]))
     have g0 : decide (0 < (k : Int)) = false := by simp; omega
     have g1 : ¬ 0 < k := by omega
     have HK0 := lh hk0
     clear hin hk0
     go_wp2_with (go_at_call 122; refine (HI.out _).mono ?_; rintro e w' ⟨rfl, hw'⟩; rw [hw']; clear hw' w')
     go_roundw
     case rel => exact ⟨k + 1, by omega, by go_num, hok, eX⟩
     case measure => simp [intOf]; omega
    ·obtain ⟨b', off', eb, _, y1⟩ := ints_at HB.out hbr (show k - 1 < bs.length by rw [← HN.out]; omega)
     simp only [Option.some.injEq, Addr.mk.injEq, and_true] at eb
     obtain ⟨rfl, rfl⟩ := eb
     have g1 : 0 < k := by omega
     have w1 : IntKind.i64.wrap ((k : Int) - 1) = (k : Int) - 1 := IntWalk.i64_in _ (by omega)
     have w2 : (0 : Int) ≤ (k : Int) - 1 := by omega
     have w3 : ((k : Int) - 1).toNat = k - 1 := by omega
     have w4 : (k : Int) - 1 < (n : Int) := by omega
     by_cases hlt2 : iv bs (k - 1) < iv bs k
     ·have hok := lh (all_more (p := fun j => risOk bs (ln : Int) j = true) hall.out (by simp [risOk, hin, hlt2]))
      have t0 : decide (iv bs k ≤ iv bs (k - 1)) = false := by simp; omega
      clear hin hk0
      go_wp2_with (go_at_call 122; refine (HI.out _).mono ?_; rintro e w' ⟨rfl, hw'⟩; rw [hw']; clear hw' w')
      go_roundw
      case rel => exact ⟨k + 1, by omega, by go_num, hok, eX⟩
      case measure => simp [intOf]; omega
     ·have hQ := lh (ris_bad (bs := bs) (n := (ln : Int)) (k := k) (by rw [← HN.out]; exact hkn) (by simp [risOk, hin, hk0]; omega))
      have t0 : decide (iv bs k ≤ iv bs (k - 1)) = true := by simp; omega
      clear hin hk0
      go_wp2_with (go_at_call 122; refine (HI.out _).mono ?_; rintro e w' ⟨rfl, hw'⟩; rw [hw']; clear hw' w')
      rw [hQ.out]
      go_ret
      exact ⟨rfl, eX⟩
  ·obtain rfl : k = n := by omega
   have hI : ¬ (k : Int) < (k : Int) := by omega
   have hQ := lh (ris_all (bs := bs) (n := (ln : Int)) (by rw [← HN.out]; exact hall.out))
   go_wp2
   rw [hQ.out]
   go_ret
   exact ⟨rfl, hbr⟩
end Go.Proofs.YtkpfbnffhhmokaaGreat
namespace Go.Proofs.YtkpfbnffhhmokaaGreat
open Go.ChangeShapes Go.WideShapes Go.ChangeAt Go.RowKit Go.Deep
set_option linter.unusedVariables false
set_option linter.unusedSimpArgs false
set_option maxRecDepth 100000
/-- A list increases strictly. -/
def IncI (bs : List Int) : Prop := ∀ a b, a < b → b < bs.length → iv bs a < iv bs b
theorem ris_inc {bs : List Int} {n : Int} (h : risB bs n = true) : IncI bs := by
 have step : ∀ b, b + 1 < bs.length → iv bs b < iv bs (b + 1) := fun b hb => by
  have h1 := allB_get (p := risOk bs n) h (b + 1) hb
  simp only [risOk, Bool.and_eq_true, Bool.or_eq_true, decide_eq_true_eq] at h1
  rcases h1.2 with e | e
  ·omega
  ·simpa using e
 intro a b hab hb
 induction b with
 | zero => omega
 | succ b ih =>
  have := step b hb
  by_cases e : a = b
  ·subst e; exact this
  ·have := ih (by omega) (by omega)
   omega
theorem inc_le {bs : List Int} (h : IncI bs) {a b : Nat} (hab : a ≤ b) (hb : b < bs.length) : iv bs a ≤ iv bs b := by
 by_cases e : a = b
 ·subst e; exact Int.le_refl _
 ·exact Int.le_of_lt (h a b (by omega) hb)
/-- Where a number stands, or would stand. -/
def SplitAt (bs : List Int) (x : Int) (p : Nat) : Prop := p ≤ bs.length ∧ (∀ t, t < p → iv bs t < x) ∧ ∀ t, p ≤ t → t < bs.length → x ≤ iv bs t
theorem split_has {bs : List Int} {x : Int} {p : Nat} (hi : IncI bs) (h : SplitAt bs x p) : hasI bs x = decide (p < bs.length ∧ iv bs p = x) := by
 obtain ⟨h0, h1, h2⟩ := h
 by_cases e : p < bs.length ∧ iv bs p = x
 ·rw [decide_eq_true e]
  exact has_yes e.1 (by simpa using e.2)
 ·rw [decide_eq_false e]
  refine has_no (fun k hk => ?_)
  have : iv bs k ≠ x := fun q => by
   rcases Nat.lt_or_ge k p with hp | hp
   ·have := h1 k hp; omega
   ·have a1 := inc_le hi hp hk
    have a2 := h2 p (Nat.le_refl _) (by omega)
    exact e ⟨by omega, by omega⟩
  simpa using this
theorem cmpNaN_any (x : Int) (w : World) : Calls Tryz.prog 169 #[.int .i64 x] w fun e w' => e = .returned (.bool false) ∧ w' = w := by
 go_enter Tryz.func169, Tryz.ntmps169
 go_wp2
 go_ret
 exact ⟨by simp, rfl⟩
theorem slNaN_any (x : Int) (w : World) : Calls Tryz.prog 157 #[.int .i64 x] w fun e w' => e = .returned (.bool false) ∧ w' = w := by
 go_enter Tryz.func157, Tryz.ntmps157
 go_wp2
 go_ret
 exact ⟨by simp, rfl⟩
theorem cmpLess_any (x y : Int) (w : World) : Calls Tryz.prog 136 #[.int .i64 x, .int .i64 y] w fun e w' => e = .returned (.bool (decide (x < y))) ∧ w' = w := by
 go_enter Tryz.func136, Tryz.ntmps136
 go_wp2_with (go_at_call 169; refine (cmpNaN_any _ _).mono ?_; rintro e w' ⟨rfl, rfl⟩)
 go_ret
 exact ⟨rfl, rfl⟩
set_option maxHeartbeats 4000000 in
theorem binSearch_any (v : Value) (bs : List Int) (x : Int) (w : World) (h : IntS w w.heap.size v bs) (hi : IncI bs) (hl : bs.length ≤ 1048576) :
  Calls Tryz.prog 123 #[v, .int .i64 x] w fun e w' => ∃ p q : Nat, e = .returned (.tuple #[.int .i64 p, .bool (hasI bs x)]) ∧ w' = w.drewN q ∧ SplitAt bs x p := by
 obtain ⟨n, hn⟩ : ∃ n, n = bs.length := ⟨_, rfl⟩
 obtain ⟨a, c, rfl⟩ := h.slice
 have S := lh (fun a b (h1 : a ≤ b) (h2 : b < n) => inc_le hi h1 (by omega : b < bs.length))
 have HI := lh hi
 have HB := lh h
 rw [← hn] at HB hl ⊢
 have HN := lh hn
 clear hi h hn
 go_enter Tryz.func123, Tryz.ntmps123
 go_wp2_with fail
 go_loopg [7, 8] n (fun g s7 s8 wr => ∃ lo hi q : Nat, s7 = .int .i64 lo ∧ s8 = .int .i64 hi ∧ lo ≤ hi ∧ hi ≤ n ∧ hi - lo ≤ g ∧ wr = w.drewN q ∧ Hid ((∀ t, t < lo → iv bs t < x) ∧ (∀ t, hi ≤ t → t < n → x ≤ iv bs t)))
 case atStart => exact ⟨0, n, 0, rfl, rfl, Nat.zero_le _, Nat.le_refl _, by omega, rfl, lh ⟨fun t ht => absurd ht (Nat.not_lt_zero _), fun t h1 h2 => by omega⟩⟩
 case round =>
  obtain ⟨lo, hi, q, rfl, rfl, hlh, hin, hg, rfl, I⟩ := hrel
  by_cases hlt : lo < hi
  ·obtain ⟨b, off, rfl, hbl, cm⟩ := ints_at HB.out (Below.refl _ _) (show (lo + hi) / 2 < bs.length by rw [← HN.out]; omega)
   obtain ⟨y, hy⟩ : ∃ y, y = iv bs ((lo + hi) / 2) := ⟨_, rfl⟩
   rw [← hy] at cm
   have Y := lh hy
   clear hy
   by_cases hyx : y < x
   ·go_wp2_with (first | (go_at_call 136; refine (cmpLess_any _ _ _).mono ?_; rintro e w' ⟨rfl, rfl⟩))
    go_roundg (hi - ((lo + hi) / 2 + 1))
    case measure => omega
    case rel =>
     refine ⟨(lo + hi) / 2 + 1, hi, _, by rw [show ((lo : Int) + (hi : Int)) / 2 + 1 = (((lo + hi) / 2 + 1 : Nat) : Int) by omega], rfl, by omega, hin, Nat.le_refl _, rfl, lh ⟨fun t ht => ?_, I.out.2⟩⟩
     have := S.out t ((lo + hi) / 2) (by omega) (by omega)
     rw [← Y.out] at this
     omega
   ·go_wp2_with (first | (go_at_call 136; refine (cmpLess_any _ _ _).mono ?_; rintro e w' ⟨rfl, rfl⟩))
    go_roundg ((lo + hi) / 2 - lo)
    case measure => omega
    case rel =>
     refine ⟨lo, (lo + hi) / 2, _, rfl, by rw [show ((lo : Int) + (hi : Int)) / 2 = (((lo + hi) / 2 : Nat) : Int) by omega], by omega, by omega, Nat.le_refl _, rfl, lh ⟨I.out.1, fun t ht htn => ?_⟩⟩
     have := S.out ((lo + hi) / 2) t ht htn
     rw [← Y.out] at this
     omega
  ·have : hi = lo := by omega
   subst this
   have SP := lh (show SplitAt bs x hi from ⟨by rw [← HN.out]; exact hin, I.out.1, fun t h1 h2 => I.out.2 t h1 (by rw [HN.out]; exact h2)⟩)
   have E := lh (split_has HI.out SP.out)
   by_cases hn : hi < n
   ·obtain ⟨b, off, rfl, hbl, cl⟩ := ints_at HB.out (Below.refl _ _) (show hi < bs.length by rw [← HN.out]; exact hn)
    obtain ⟨y, hy⟩ : ∃ y, y = iv bs hi := ⟨_, rfl⟩
    rw [← hy] at cl
    have Y := lh hy
    clear hy
    by_cases hyx : y = x
    ·go_wp2_with (first | (go_at_call 157; refine (slNaN_any _ _).mono ?_; rintro e w' ⟨rfl, rfl⟩))
     go_ret2
     refine ⟨hi, _, ?_, rfl, SP.out⟩
     rw [E.out, ← Y.out, decide_eq_true (show hi < bs.length ∧ y = x from ⟨by rw [← HN.out]; exact hn, hyx⟩)]
     first | rfl | simp [*]
    ·go_wp2_with (first | (go_at_call 157; refine (slNaN_any _ _).mono ?_; rintro e w' ⟨rfl, rfl⟩))
     go_ret2
     refine ⟨hi, _, ?_, rfl, SP.out⟩
     rw [E.out, ← Y.out, decide_eq_false (show ¬ (hi < bs.length ∧ y = x) from fun h => hyx h.2)]
     first | rfl | simp [*]
   ·go_wp2_with fail
    go_ret2
    refine ⟨hi, _, ?_, rfl, SP.out⟩
    rw [E.out, decide_eq_false (show ¬ (hi < bs.length ∧ iv bs hi = x) from fun h => hn (by rw [HN.out]; exact h.1))]
    first | rfl | simp [*]
end Go.Proofs.YtkpfbnffhhmokaaGreat
