/-
Contracts of the plain number functions of chapter 1 (program and model), for all arguments within the bounds that each one names.
-/
import Derived.Test.YtocoolafnciniaaRows
import Derived.WalkKit
import Derived.ProofKit
import Derived.OpenShut
import Derived.BigQuiet
import Derived.Deep.QuietTactic
import Derived.IntWalk
import Derived.Lib.Hide
import Derived.Outline
namespace Go.Proofs.Ytocoolafnciniaa
open Go.ChangeShapes Go.WideShapes Go.ChangeAt Go.RowKit

theorem Grown.drewN {W w : World} (h : Grown W w) (n : Nat) : Grown W (w.drewN n) := by
  induction n generalizing w with
  | zero => exact h
  | succ n ih => exact ih h.drew
theorem ret_int {k : IntKind} {a b : Int} (h : a = b) : Ending.returned (.int k a) = .returned (.int k b) := by rw [h]
theorem ret_bool {a b : Bool} (h : a = b) : Ending.returned (.bool a) = .returned (.bool b) := by rw [h]

def inB (v lo hi : Int) : Bool := decide (lo ≤ v) && decide (v ≤ hi)
theorem inB_yes {v lo hi : Int} (h1 : lo ≤ v) (h2 : v ≤ hi) : inB v lo hi = true := by simp [inB, h1, h2]
theorem inB_get {v lo hi : Int} (h : inB v lo hi = true) : lo ≤ v ∧ v ≤ hi := by simpa [inB] using h
theorem inB_no1 {v lo hi : Int} (h1 : ¬ lo ≤ v) : inB v lo hi = false := by simp [inB, h1]
theorem inB_no2 {v lo hi : Int} (h2 : ¬ v ≤ hi) : inB v lo hi = false := by simp [inB, h2]
def isM (m : Int) : Bool := (m == 0) || (m == 1)
def rdOk (a b m : Int) : Bool := inB a (-1000000000000000) 1000000000000000 && inB b 1 1000000000000000 && isM m
def stOk (a b m : Int) : Bool := inB a (-1000000000) 1000000000 && inB b 0 10000 && isM m
/-- The quotient, rounded by a mode: down for 0, up for 1. -/
def qd (a b m : Int) : Int := if a.tmod b < 0 ∧ m = 0 then a.tdiv b - 1 else if 0 < a.tmod b ∧ m = 1 then a.tdiv b + 1 else a.tdiv b
theorem mul_bd (a b : Int) (h1 : -1000000000 ≤ a) (h2 : a ≤ 1000000000) (h3 : 0 ≤ b) (h4 : b ≤ 10000) : -10000000000000 ≤ a * b ∧ a * b ≤ 10000000000000 := by
  have e1 : a * b ≤ 1000000000 * b := Int.mul_le_mul_of_nonneg_right h2 h3
  have e2 : -1000000000 * b ≤ a * b := Int.mul_le_mul_of_nonneg_right h1 h3
  omega
theorem tdiv_bd (a b M : Int) (h1 : -M ≤ a) (h2 : a ≤ M) : -M ≤ a.tdiv b ∧ a.tdiv b ≤ M := by
  have h := Int.natAbs_tdiv_le_natAbs a b
  omega
theorem inRange_any (v lo hi : Int) (w : World) : Calls Try.prog 35 #[.int .i64 v, .int .i64 lo, .int .i64 hi] w fun e w' => e = .returned (.bool (inB v lo hi)) ∧ w' = w := by
  by_cases h1 : lo ≤ v
  · by_cases h2 : v ≤ hi
    · rw [inB_yes h1 h2]
      go_enter Try.func35, Try.ntmps35
      go_wp2
      go_ret
      exact ⟨rfl, rfl⟩
    · rw [inB_no2 h2]
      go_enter Try.func35, Try.ntmps35
      go_wp2
      go_ret
      exact ⟨rfl, rfl⟩
  · rw [inB_no1 h1]
    go_enter Try.func35, Try.ntmps35
    go_wp2
    go_ret
    exact ⟨rfl, rfl⟩
theorem l01In_any (v lo hi : Int) (w : World) : Calls Try.prog 38 #[.int .i64 v, .int .i64 lo, .int .i64 hi] w fun e w' => e = .returned (.bool (inB v lo hi)) ∧ w' = w := by
  by_cases h1 : lo ≤ v
  · by_cases h2 : v ≤ hi
    · rw [inB_yes h1 h2]
      go_enter Try.func38, Try.ntmps38
      go_wp2
      go_ret
      exact ⟨rfl, rfl⟩
    · rw [inB_no2 h2]
      go_enter Try.func38, Try.ntmps38
      go_wp2
      go_ret
      exact ⟨rfl, rfl⟩
  · rw [inB_no1 h1]
    go_enter Try.func38, Try.ntmps38
    go_wp2
    go_ret
    exact ⟨rfl, rfl⟩
theorem isMode_any (m : Int) (w : World) : Calls Try.prog 36 #[.int .i64 m] w fun e w' => e = .returned (.bool (isM m)) ∧ w' = w := by
  by_cases h0 : m = 0
  · subst h0
    go_enter Try.func36, Try.ntmps36
    go_wp2
    go_ret
    exact ⟨rfl, rfl⟩
  · have hb : (m == 0) = false := by simpa using h0
    have hr : isM m = (m == 1) := by simp [isM, hb]
    rw [hr]
    clear hr h0
    go_enter Try.func36, Try.ntmps36
    go_wp2
    go_ret
    exact ⟨rfl, rfl⟩
theorem l01Mode_any (m : Int) (w : World) : Calls Try.prog 39 #[.int .i64 m] w fun e w' => e = .returned (.bool (isM m)) ∧ w' = w := by
  by_cases h0 : m = 0
  · subst h0
    go_enter Try.func39, Try.ntmps39
    go_wp2
    go_ret
    exact ⟨rfl, rfl⟩
  · have hb : (m == 0) = false := by simpa using h0
    have hr : isM m = (m == 1) := by simp [isM, hb]
    rw [hr]
    clear hr h0
    go_enter Try.func39, Try.ntmps39
    go_wp2
    go_ret
    exact ⟨rfl, rfl⟩
theorem quotient_any (a b m : Int) (w : World) (ha : -1000000000000000 ≤ a) (ha2 : a ≤ 1000000000000000) (hb : 0 < b) : Calls Try.prog 37 #[.int .i64 m, .int .i64 a, .int .i64 b] w fun e w' => e = .returned (.int .i64 (qd a b m)) ∧ ∃ n, w' = w.drewN n := by
  obtain ⟨hq1, hq2⟩ := tdiv_bd a b _ ha ha2
  unfold qd
  by_cases hm0 : m = 0
  · subst hm0
    go_enter Try.func37, Try.ntmps37
    go_wp2
    go_quiet (fail)
    go_wp2
    all_goals (go_ret; exact ⟨ret_int (by simp; try omega), nq, rfl⟩)
  · by_cases hm1 : m = 1
    · subst hm1
      go_enter Try.func37, Try.ntmps37
      go_wp2
      go_quiet (fail)
      go_wp2
      all_goals (go_ret; exact ⟨ret_int (by simp; try omega), nq, rfl⟩)
    · go_enter Try.func37, Try.ntmps37
      go_wp2
      go_quiet (fail)
      go_wp2
      all_goals (go_ret; exact ⟨ret_int (by simp), nq, rfl⟩)
theorem l01Div_any (a b m : Int) (w : World) (ha : -1000000000000000 ≤ a) (ha2 : a ≤ 1000000000000000) (hb : 0 < b) : Calls Try.prog 40 #[.int .i64 a, .int .i64 b, .int .i64 m] w fun e w' => e = .returned (.int .i64 (qd a b m)) ∧ w' = w := by
  obtain ⟨hq1, hq2⟩ := tdiv_bd a b _ ha ha2
  unfold qd
  by_cases hm0 : m = 0
  · subst hm0
    go_enter Try.func40, Try.ntmps40
    go_wp2
    all_goals (go_ret; exact ⟨ret_int (by simp; try omega), rfl⟩)
  · by_cases hm1 : m = 1
    · subst hm1
      go_enter Try.func40, Try.ntmps40
      go_wp2
      all_goals (go_ret; exact ⟨ret_int (by simp; try omega), rfl⟩)
    · go_enter Try.func40, Try.ntmps40
      go_wp2
      all_goals (go_ret; exact ⟨ret_int (by simp), rfl⟩)
theorem implRoundDiv_yes (a b m : Int) (w : World) (h1 : inB a (-1000000000000000) 1000000000000000 = true) (h2 : inB b 1 1000000000000000 = true) (h3 : isM m = true) : Calls Try.prog 13 #[.int .i64 a, .int .i64 b, .int .i64 m] w fun e w' => e = .returned (.tuple #[.int .i64 (qd a b m), .int .i64 0]) ∧ ∃ n, w' = w.drewN n := by
  have ⟨b1, b2⟩ := inB_get h1
  have ⟨b3, b4⟩ := inB_get h2
  go_enter Try.func13, Try.ntmps13
  go_wp2_with (first
    | (go_at_call 35; refine (inRange_any _ _ _ _).mono ?_; rintro e w' ⟨rfl, rfl⟩)
    | (go_at_call 36; refine (isMode_any _ _).mono ?_; rintro e w' ⟨rfl, rfl⟩)
    | (go_at_call 37; refine (quotient_any _ _ _ _ b1 b2 (by omega)).mono ?_; rintro e w' ⟨rfl, nq, rfl⟩))
  go_ret2
  exact ⟨rfl, nq, rfl⟩
theorem implRoundDiv_no (a b m : Int) (w : World) (h : rdOk a b m = false) : Calls Try.prog 13 #[.int .i64 a, .int .i64 b, .int .i64 m] w fun e w' => e = .returned (.tuple #[.int .i64 0, .int .i64 2]) ∧ w' = w := by
  unfold rdOk at h
  cases h1 : inB a (-1000000000000000) 1000000000000000
  ·
    clear h
    go_enter Try.func13, Try.ntmps13
    go_wp2_with (first
        | (go_at_call 35; refine (inRange_any _ _ _ _).mono ?_; rintro e w' ⟨rfl, rfl⟩)
        | (go_at_call 36; refine (isMode_any _ _).mono ?_; rintro e w' ⟨rfl, rfl⟩))
    go_ret2
    exact ⟨rfl, rfl⟩
  · cases h2 : inB b 1 1000000000000000
    ·
      clear h
      go_enter Try.func13, Try.ntmps13
      go_wp2_with (first
          | (go_at_call 35; refine (inRange_any _ _ _ _).mono ?_; rintro e w' ⟨rfl, rfl⟩)
          | (go_at_call 36; refine (isMode_any _ _).mono ?_; rintro e w' ⟨rfl, rfl⟩))
      go_ret2
      exact ⟨rfl, rfl⟩
    · have h3 : isM m = false := by simpa [h1, h2] using h
      clear h
      go_enter Try.func13, Try.ntmps13
      go_wp2_with (first
          | (go_at_call 35; refine (inRange_any _ _ _ _).mono ?_; rintro e w' ⟨rfl, rfl⟩)
          | (go_at_call 36; refine (isMode_any _ _).mono ?_; rintro e w' ⟨rfl, rfl⟩))
      go_ret2
      exact ⟨rfl, rfl⟩
theorem specRoundDiv_yes (a b m : Int) (w : World) (h1 : inB a (-1000000000000000) 1000000000000000 = true) (h2 : inB b 1 1000000000000000 = true) (h3 : isM m = true) : Calls Try.prog 14 #[.int .i64 a, .int .i64 b, .int .i64 m] w fun e w' => e = .returned (.tuple #[.int .i64 (qd a b m), .int .i64 0]) ∧ w' = w := by
  have ⟨b1, b2⟩ := inB_get h1
  have ⟨b3, b4⟩ := inB_get h2
  go_enter Try.func14, Try.ntmps14
  go_wp2_with (first
    | (go_at_call 38; refine (l01In_any _ _ _ _).mono ?_; rintro e w' ⟨rfl, rfl⟩)
    | (go_at_call 39; refine (l01Mode_any _ _).mono ?_; rintro e w' ⟨rfl, rfl⟩)
    | (go_at_call 40; refine (l01Div_any _ _ _ _ b1 b2 (by omega)).mono ?_; rintro e w' ⟨rfl, rfl⟩))
  go_ret2
  exact ⟨rfl, rfl⟩
theorem specRoundDiv_no (a b m : Int) (w : World) (h : rdOk a b m = false) : Calls Try.prog 14 #[.int .i64 a, .int .i64 b, .int .i64 m] w fun e w' => e = .returned (.tuple #[.int .i64 0, .int .i64 2]) ∧ w' = w := by
  unfold rdOk at h
  cases h1 : inB a (-1000000000000000) 1000000000000000
  ·
    clear h
    go_enter Try.func14, Try.ntmps14
    go_wp2_with (first
        | (go_at_call 38; refine (l01In_any _ _ _ _).mono ?_; rintro e w' ⟨rfl, rfl⟩)
        | (go_at_call 39; refine (l01Mode_any _ _).mono ?_; rintro e w' ⟨rfl, rfl⟩))
    go_ret2
    exact ⟨rfl, rfl⟩
  · cases h2 : inB b 1 1000000000000000
    ·
      clear h
      go_enter Try.func14, Try.ntmps14
      go_wp2_with (first
          | (go_at_call 38; refine (l01In_any _ _ _ _).mono ?_; rintro e w' ⟨rfl, rfl⟩)
          | (go_at_call 39; refine (l01Mode_any _ _).mono ?_; rintro e w' ⟨rfl, rfl⟩))
      go_ret2
      exact ⟨rfl, rfl⟩
    · have h3 : isM m = false := by simpa [h1, h2] using h
      clear h
      go_enter Try.func14, Try.ntmps14
      go_wp2_with (first
          | (go_at_call 38; refine (l01In_any _ _ _ _).mono ?_; rintro e w' ⟨rfl, rfl⟩)
          | (go_at_call 39; refine (l01Mode_any _ _).mono ?_; rintro e w' ⟨rfl, rfl⟩))
      go_ret2
      exact ⟨rfl, rfl⟩
theorem isTime_any (v : Int) (w : World) : Calls Try.prog 42 #[.int .i64 v] w fun e w' => e = .returned (.bool (inB v (-1000000000) 1000000000)) ∧ w' = w := by
  go_enter Try.func42, Try.ntmps42
  go_wp2_with (go_at_call 35; refine (inRange_any _ _ _ _).mono ?_; rintro e w' ⟨rfl, rfl⟩)
  go_ret
  exact ⟨rfl, rfl⟩
theorem implScaleTime_yes (a b m : Int) (w : World) (h1 : inB a (-1000000000) 1000000000 = true) (h2 : inB b 0 10000 = true) (h3 : isM m = true) : Calls Try.prog 23 #[.int .i64 a, .int .i64 b, .int .i64 m] w fun e w' => e = .returned (.tuple #[.int .i64 (qd (a * b) 1000 m), .int .i64 0]) ∧ ∃ n, w' = w.drewN n := by
  have ⟨b1, b2⟩ := inB_get h1
  have ⟨b3, b4⟩ := inB_get h2
  have ⟨b5, b6⟩ := mul_bd a b b1 b2 b3 b4
  go_enter Try.func23, Try.ntmps23
  go_wp2_with (first
    | (go_at_call 35; refine (inRange_any _ _ _ _).mono ?_; rintro e w' ⟨rfl, rfl⟩)
    | (go_at_call 36; refine (isMode_any _ _).mono ?_; rintro e w' ⟨rfl, rfl⟩)
    | (go_at_call 42; refine (isTime_any _ _).mono ?_; rintro e w' ⟨rfl, rfl⟩)
    | (go_at_call 37; refine (quotient_any _ _ _ _ (by omega) (by omega) (by omega)).mono ?_; rintro e w' ⟨rfl, nq, rfl⟩))
  go_ret2
  exact ⟨rfl, nq, rfl⟩
theorem implScaleTime_no (a b m : Int) (w : World) (h : stOk a b m = false) : Calls Try.prog 23 #[.int .i64 a, .int .i64 b, .int .i64 m] w fun e w' => e = .returned (.tuple #[.int .i64 0, .int .i64 2]) ∧ w' = w := by
  unfold stOk at h
  cases h1 : inB a (-1000000000) 1000000000
  ·
    clear h
    go_enter Try.func23, Try.ntmps23
    go_wp2_with (first
        | (go_at_call 35; refine (inRange_any _ _ _ _).mono ?_; rintro e w' ⟨rfl, rfl⟩)
        | (go_at_call 36; refine (isMode_any _ _).mono ?_; rintro e w' ⟨rfl, rfl⟩)
        | (go_at_call 42; refine (isTime_any _ _).mono ?_; rintro e w' ⟨rfl, rfl⟩))
    go_ret2
    exact ⟨rfl, rfl⟩
  · cases h2 : inB b 0 10000
    ·
      clear h
      go_enter Try.func23, Try.ntmps23
      go_wp2_with (first
          | (go_at_call 35; refine (inRange_any _ _ _ _).mono ?_; rintro e w' ⟨rfl, rfl⟩)
          | (go_at_call 36; refine (isMode_any _ _).mono ?_; rintro e w' ⟨rfl, rfl⟩)
          | (go_at_call 42; refine (isTime_any _ _).mono ?_; rintro e w' ⟨rfl, rfl⟩))
      go_ret2
      exact ⟨rfl, rfl⟩
    · have h3 : isM m = false := by simpa [h1, h2] using h
      clear h
      go_enter Try.func23, Try.ntmps23
      go_wp2_with (first
          | (go_at_call 35; refine (inRange_any _ _ _ _).mono ?_; rintro e w' ⟨rfl, rfl⟩)
          | (go_at_call 36; refine (isMode_any _ _).mono ?_; rintro e w' ⟨rfl, rfl⟩)
          | (go_at_call 42; refine (isTime_any _ _).mono ?_; rintro e w' ⟨rfl, rfl⟩))
      go_ret2
      exact ⟨rfl, rfl⟩
theorem specScaleTime_yes (a b m : Int) (w : World) (h1 : inB a (-1000000000) 1000000000 = true) (h2 : inB b 0 10000 = true) (h3 : isM m = true) : Calls Try.prog 22 #[.int .i64 a, .int .i64 b, .int .i64 m] w fun e w' => e = .returned (.tuple #[.int .i64 (qd (a * b) 1000 m), .int .i64 0]) ∧ w' = w := by
  have ⟨b1, b2⟩ := inB_get h1
  have ⟨b3, b4⟩ := inB_get h2
  have ⟨b5, b6⟩ := mul_bd a b b1 b2 b3 b4
  go_enter Try.func22, Try.ntmps22
  go_wp2_with (first
    | (go_at_call 38; refine (l01In_any _ _ _ _).mono ?_; rintro e w' ⟨rfl, rfl⟩)
    | (go_at_call 39; refine (l01Mode_any _ _).mono ?_; rintro e w' ⟨rfl, rfl⟩)
    | (go_at_call 40; refine (l01Div_any _ _ _ _ (by omega) (by omega) (by omega)).mono ?_; rintro e w' ⟨rfl, rfl⟩))
  go_ret2
  exact ⟨rfl, rfl⟩
theorem specScaleTime_no (a b m : Int) (w : World) (h : stOk a b m = false) : Calls Try.prog 22 #[.int .i64 a, .int .i64 b, .int .i64 m] w fun e w' => e = .returned (.tuple #[.int .i64 0, .int .i64 2]) ∧ w' = w := by
  unfold stOk at h
  cases h1 : inB a (-1000000000) 1000000000
  ·
    clear h
    go_enter Try.func22, Try.ntmps22
    go_wp2_with (first
        | (go_at_call 38; refine (l01In_any _ _ _ _).mono ?_; rintro e w' ⟨rfl, rfl⟩)
        | (go_at_call 39; refine (l01Mode_any _ _).mono ?_; rintro e w' ⟨rfl, rfl⟩))
    go_ret2
    exact ⟨rfl, rfl⟩
  · cases h2 : inB b 0 10000
    ·
      clear h
      go_enter Try.func22, Try.ntmps22
      go_wp2_with (first
          | (go_at_call 38; refine (l01In_any _ _ _ _).mono ?_; rintro e w' ⟨rfl, rfl⟩)
          | (go_at_call 39; refine (l01Mode_any _ _).mono ?_; rintro e w' ⟨rfl, rfl⟩))
      go_ret2
      exact ⟨rfl, rfl⟩
    · have h3 : isM m = false := by simpa [h1, h2] using h
      clear h
      go_enter Try.func22, Try.ntmps22
      go_wp2_with (first
          | (go_at_call 38; refine (l01In_any _ _ _ _).mono ?_; rintro e w' ⟨rfl, rfl⟩)
          | (go_at_call 39; refine (l01Mode_any _ _).mono ?_; rintro e w' ⟨rfl, rfl⟩))
      go_ret2
      exact ⟨rfl, rfl⟩
end Go.Proofs.Ytocoolafnciniaa
