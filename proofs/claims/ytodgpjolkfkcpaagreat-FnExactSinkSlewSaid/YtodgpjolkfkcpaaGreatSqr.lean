/-
Roots rounded by a mode: pure; the program's and the model's roots.
-/
import Derived.Test.YtodgpjolkfkcpaaGreatNum
import Derived.WalkKit
namespace Go.Proofs.YtodgpjolkfkcpaaGreat
open Go.ChangeShapes Go.WideShapes Go.ChangeAt Go.RowKit
set_option linter.unusedVariables false
set_option linter.unusedSimpArgs false
/-- The root of a number, rounded down. -/
def fsq : Nat → Nat
  | 0 => 0
  | n + 1 => if (fsq n + 1) * (fsq n + 1) ≤ n + 1 then fsq n + 1 else fsq n
theorem fsq_is (n : Nat) : fsq n * fsq n ≤ n ∧ n < (fsq n + 1) * (fsq n + 1) := by
  induction n with
  | zero => simp [fsq]
  | succ n ih =>
    simp only [fsq]
    by_cases h : (fsq n + 1) * (fsq n + 1) ≤ n + 1
    · rw [if_pos h]
      refine ⟨h, ?_⟩
      have e : (fsq n + 1 + 1) * (fsq n + 1 + 1) = (fsq n + 1) * (fsq n + 1) + 2 * (fsq n + 1) + 1 := by grind
      omega
    · rw [if_neg h]
      omega
theorem sq_lt {a b : Int} (ha : 0 ≤ a) (hb : 0 ≤ b) (h : a * a < b * b) : a < b := by
  apply Classical.byContradiction
  intro hn
  have h1 : b * b ≤ a * b := Int.mul_le_mul_of_nonneg_right (by omega) hb
  have h2 : a * b ≤ a * a := Int.mul_le_mul_of_nonneg_left (by omega) ha
  omega
theorem sq_le {a b : Int} (ha : 0 ≤ a) (hb : 0 ≤ b) (h : a * a ≤ b * b) : a ≤ b := by
  apply Classical.byContradiction
  intro hn
  have h1 : b * a < a * a := Int.mul_lt_mul_of_pos_right (by omega) (by omega)
  have h2 : b * b ≤ b * a := Int.mul_le_mul_of_nonneg_left (by omega) hb
  omega
theorem sq_mono {a b : Int} (ha : 0 ≤ a) (h : a ≤ b) : a * a ≤ b * b := by
  have h1 : a * a ≤ b * a := Int.mul_le_mul_of_nonneg_right h ha
  have h2 : b * a ≤ b * b := Int.mul_le_mul_of_nonneg_left h (by omega)
  omega
/-- The root of a number that is not negative, rounded by a mode. -/
def rt (n m : Int) : Int := if m = 1 ∧ (fsq n.toNat : Int) * (fsq n.toNat : Int) < n then (fsq n.toNat : Int) + 1 else (fsq n.toNat : Int)
theorem rt_floor {n : Int} (h : 0 ≤ n) : 0 ≤ rt n 0 ∧ rt n 0 * rt n 0 ≤ n ∧ n < (rt n 0 + 1) * (rt n 0 + 1) := by
  have ⟨a, b⟩ := fsq_is n.toNat
  simp only [rt]
  rw [if_neg (by omega)]
  have e1 : ((fsq n.toNat * fsq n.toNat : Nat) : Int) = (fsq n.toNat : Int) * (fsq n.toNat : Int) := by simp
  have e2 : (((fsq n.toNat + 1) * (fsq n.toNat + 1) : Nat) : Int) = ((fsq n.toNat : Int) + 1) * ((fsq n.toNat : Int) + 1) := by simp
  refine ⟨by omega, by omega, by omega⟩
theorem rt_ceil {n : Int} (h : 0 ≤ n) : 0 ≤ rt n 1 ∧ n ≤ rt n 1 * rt n 1 ∧ (rt n 1 = 0 ∨ (rt n 1 - 1) * (rt n 1 - 1) < n) := by
  have ⟨a, b, c⟩ := rt_floor h
  have e0 : rt n 0 = (fsq n.toNat : Int) := by simp [rt]
  rw [e0] at a b c
  simp only [rt]
  by_cases hq : (fsq n.toNat : Int) * (fsq n.toNat : Int) < n
  · rw [if_pos (by first | exact ⟨rfl, hq⟩ | exact ⟨trivial, hq⟩)]
    refine ⟨by omega, by omega, .inr (by rw [Int.add_sub_cancel]; exact hq)⟩
  · rw [if_neg (fun e => hq e.2)]
    refine ⟨a, by omega, ?_⟩
    by_cases z : (fsq n.toNat : Int) = 0
    · exact .inl z
    · refine .inr ?_
      have e : ((fsq n.toNat : Int) - 1) * ((fsq n.toNat : Int) - 1) = (fsq n.toNat : Int) * (fsq n.toNat : Int) - 2 * (fsq n.toNat : Int) + 1 := by grind
      omega
theorem floor_is {n r : Int} (hn : 0 ≤ n) (h0 : 0 ≤ r) (h1 : r * r ≤ n) (h2 : n < (r + 1) * (r + 1)) : rt n 0 = r := by
  have ⟨a, b, c⟩ := rt_floor hn
  have x := sq_lt a (show 0 ≤ r + 1 by omega) (by omega)
  have y := sq_lt h0 (show 0 ≤ rt n 0 + 1 by omega) (by omega)
  omega
theorem ceil_is {n r : Int} (hn : 0 ≤ n) (h0 : 0 ≤ r) (h1 : n ≤ r * r) (h2 : r = 0 ∨ (r - 1) * (r - 1) < n) : rt n 1 = r := by
  have ⟨a, b, c⟩ := rt_ceil hn
  have x : r ≤ rt n 1 := by
    rcases h2 with rfl | h2
    · exact a
    · by_cases hr : r = 0
      · omega
      · have := sq_lt (show 0 ≤ r - 1 by omega) a (by omega)
        omega
  have y : rt n 1 ≤ r := by
    rcases c with c | c
    · omega
    · by_cases hr : rt n 1 = 0
      · omega
      · have := sq_lt (show 0 ≤ rt n 1 - 1 by omega) h0 (by omega)
        omega
  omega
theorem qd_floor {a b : Int} (ha : 0 ≤ a) (hb : 0 < b) : qd a b 0 * b ≤ a ∧ a < (qd a b 0 + 1) * b ∧ 0 ≤ qd a b 0 := by
  have h1 : a.tmod b = a % b := Int.tmod_eq_emod_of_nonneg ha
  have h2 : a.tdiv b = a / b := Int.tdiv_eq_ediv_of_nonneg ha
  have h3 := Int.emod_nonneg a (show b ≠ 0 by omega)
  have h4 := Int.emod_lt_of_pos a hb
  have h5 : b * (a / b) + a % b = a := Int.mul_ediv_add_emod a b
  have h6 : 0 ≤ a / b := Int.ediv_nonneg ha (by omega)
  unfold qd
  rw [h1, h2, if_neg (by omega), if_neg (by omega)]
  have e : (a / b + 1) * b = b * (a / b) + b := by grind
  have e2 : a / b * b = b * (a / b) := Int.mul_comm _ _
  refine ⟨by omega, by omega, h6⟩
theorem qd_ceil {a b : Int} (ha : 0 ≤ a) (hb : 0 < b) : a ≤ qd a b 1 * b ∧ (qd a b 1 - 1) * b < a ∧ 0 ≤ qd a b 1 := by
  have h1 : a.tmod b = a % b := Int.tmod_eq_emod_of_nonneg ha
  have h2 : a.tdiv b = a / b := Int.tdiv_eq_ediv_of_nonneg ha
  have h3 := Int.emod_nonneg a (show b ≠ 0 by omega)
  have h4 := Int.emod_lt_of_pos a hb
  have h5 : b * (a / b) + a % b = a := Int.mul_ediv_add_emod a b
  have h6 : 0 ≤ a / b := Int.ediv_nonneg ha (by omega)
  unfold qd
  rw [h1, h2, if_neg (by omega)]
  have e : (a / b + 1) * b = b * (a / b) + b := by grind
  have e2 : a / b * b = b * (a / b) := Int.mul_comm _ _
  have e3 : (a / b - 1) * b = b * (a / b) - b := by grind
  by_cases q : 0 < a % b
  · rw [if_pos ⟨q, rfl⟩]
    refine ⟨by omega, ?_, by omega⟩
    rw [Int.add_sub_cancel]; omega
  · rw [if_neg (fun e => q e.1)]
    refine ⟨by omega, by omega, h6⟩
theorem sq_nn (s : Int) : 0 ≤ s * s := by
  rcases Int.le_total 0 s with h | h
  · exact Int.mul_nonneg h h
  · exact Int.mul_nonneg_of_nonpos_of_nonpos h h
/-- Rounding a square and then its root is rounding the root. -/
theorem rt_scale {s d m : Int} (hm : m = 0 ∨ m = 1) : rt (s * s + qd (2 * d * (2 * d)) 1000000 m) m = qd (rt (1000000 * s * s + 4 * d * d) m) 1000 m := by
  have hs : 0 ≤ s * s := sq_nn s
  have hd : 0 ≤ d * d := sq_nn d
  have eS : 1000000 * s * s = 1000000 * (s * s) := Int.mul_assoc _ _ _
  have eD : 4 * d * d = 4 * (d * d) := Int.mul_assoc _ _ _
  have eT : 2 * d * (2 * d) = 4 * (d * d) := by grind
  rw [eS, eD, eT]
  generalize s * s = S at hs ⊢
  generalize d * d = D at hd ⊢
  rcases hm with rfl | rfl
  · have ⟨f1, f2, f3⟩ := qd_floor (show 0 ≤ 4 * D by omega) (show (0 : Int) < 1000000 by omega)
    generalize qd (4 * D) 1000000 0 = Q at f1 f2 f3 ⊢
    have ⟨r0, r1, r2⟩ := rt_floor (show 0 ≤ 1000000 * S + 4 * D by omega)
    generalize rt (1000000 * S + 4 * D) 0 = F at r0 r1 r2 ⊢
    have ⟨g1, g2, g3⟩ := qd_floor r0 (show (0 : Int) < 1000 by omega)
    generalize qd F 1000 0 = L at g1 g2 g3 ⊢
    have e1 := sq_mono (show 0 ≤ L * 1000 by omega) g1
    have e2 := sq_mono (show 0 ≤ F + 1 by omega) (show F + 1 ≤ (L + 1) * 1000 by omega)
    have q1 : L * 1000 * (L * 1000) = 1000000 * (L * L) := by grind
    have q2 : (L + 1) * 1000 * ((L + 1) * 1000) = 1000000 * ((L + 1) * (L + 1)) := by grind
    refine floor_is (by omega) g3 ?_ ?_
    · generalize L * L = A at q1 ⊢
      omega
    · generalize (L + 1) * (L + 1) = B at q2 ⊢
      omega
  · have ⟨f1, f2, f3⟩ := qd_ceil (show 0 ≤ 4 * D by omega) (show (0 : Int) < 1000000 by omega)
    generalize qd (4 * D) 1000000 1 = Q at f1 f2 f3 ⊢
    have ⟨r0, r1, r2⟩ := rt_ceil (show 0 ≤ 1000000 * S + 4 * D by omega)
    generalize rt (1000000 * S + 4 * D) 1 = F at r0 r1 r2 ⊢
    have ⟨g1, g2, g3⟩ := qd_ceil r0 (show (0 : Int) < 1000 by omega)
    generalize qd F 1000 1 = L at g1 g2 g3 ⊢
    have e1 := sq_mono r0 g1
    have q1 : L * 1000 * (L * 1000) = 1000000 * (L * L) := by grind
    refine ceil_is (by omega) g3 ?_ ?_
    · generalize L * L = A at q1 ⊢
      omega
    · by_cases hL : L = 0
      · exact .inl hL
      · right
        have q2 : (L - 1) * 1000 * ((L - 1) * 1000) = 1000000 * ((L - 1) * (L - 1)) := by grind
        have hF : F ≠ 0 := by omega
        rcases r2 with r2 | r2
        · exact absurd r2 hF
        · have e2 := sq_mono (show 0 ≤ (L - 1) * 1000 by omega) (show (L - 1) * 1000 ≤ F - 1 by omega)
          generalize (L - 1) * (L - 1) = B at q2 ⊢
          omega
theorem rootF_any (r sq : Int) (b : Nat) (w : World) (hc : w.cell? ⟨b, 0, none⟩ = some (.int .i64 sq)) (h0 : 0 ≤ r) (h1 : r ≤ 1073741824) :
    Calls Tryz.prog 83 #[.int .i64 r, .pointer (some ⟨b, 0, none⟩)] w fun e w' => e = .returned (.bool (decide (sq ≤ r * r))) ∧ w' = w := by
  have m0 := Int.mul_nonneg h0 h0
  have m1 : r * r ≤ 1152921504606846976 := by
    have := sq_mono h0 h1
    omega
  have hw : IntKind.i64.wrap (r * r) = r * r := IntWalk.i64_in _ (by omega)
  have hb := cell_lt hc
  by_cases h : sq ≤ r * r
  · rw [decide_eq_true h]
    go_enter Tryz.func83, Tryz.ntmps83
    go_wp2
    go_ret
    exact ⟨rfl, rfl⟩
  · rw [decide_eq_false h]
    go_enter Tryz.func83, Tryz.ntmps83
    go_wp2
    go_ret
    exact ⟨rfl, rfl⟩
def SrchR (sq : Int) (a b : Nat) : Prop := (a = 0 ∨ ((a : Int) - 1) * ((a : Int) - 1) < sq) ∧ sq ≤ (b : Int) * (b : Int)
set_option maxHeartbeats 4000000 in
theorem search_any (sq : Int) (g : Nat) (w : World) (hc : w.cell? ⟨g, 0, none⟩ = some (.int .i64 sq)) (h0 : 0 ≤ sq) (h1 : sq ≤ 1152921504606846976) :
    Calls Tryz.prog 82 #[.int .i64 1073741824, .func (.func 83) #[] #[.pointer (some ⟨g, 0, none⟩)]] w fun e w' => e = .returned (.int .i64 (rt sq 1)) ∧ w' = w := by
  have HS := Lib.hid (show SrchR sq 0 1073741824 from ⟨.inl rfl, by omega⟩)
  have HC := Lib.hid (fun (r : Int) (r0 : 0 ≤ r) (r1 : r ≤ 1073741824) => rootF_any r sq g w hc r0 r1)
  have H0 := Lib.hid h0
  clear h0 h1
  go_enter Tryz.func82, Tryz.ntmps82
  go_wp2
  go_loop [5, 6, 7] (fun i j _ => ∃ a b : Nat, a ≤ b ∧ b ≤ 1073741824 ∧ i = .int .i64 a ∧ j = .int .i64 b ∧ Hid (SrchR sq a b)) (fun i j _ => (intOf j).toNat - (intOf i).toNat)
  case atStart => exact ⟨0, 1073741824, by omega, by omega, rfl, rfl, HS⟩
  case round =>
    obtain ⟨a, b, hab, hb, rfl, rfl, hR⟩ := hrel
    clear HS
    by_cases hlt : a < b
    · have hI : (a : Int) < (b : Int) := by omega
      have hc0 : (a : Int) ≤ ((a : Int) + b) / 2 := by omega
      have hc1 : ((a : Int) + b) / 2 < (b : Int) := by omega
      obtain ⟨c, hcc⟩ := Int.eq_ofNat_of_zero_le (show 0 ≤ ((a : Int) + b) / 2 by omega)
      have HCC := Lib.hid hcc
      have hac : a ≤ c := by omega
      have hcb : c < b := by omega
      by_cases hq : sq ≤ (((a : Int) + b) / 2) * (((a : Int) + b) / 2)
      · have HC1 := Lib.hid (by have := HC.out (((a : Int) + b) / 2) (by omega) (by omega); rw [decide_eq_true hq] at this; exact this)
        have R2 := Lib.hid (show SrchR sq a c from ⟨hR.out.1, by rw [← hcc]; exact hq⟩)
        clear hcc hR hq HC
        go_wp2_with fail
        (go_at_call 83; refine HC1.out.mono ?_; rintro e w' ⟨rfl, hw'⟩; rw [hw']; clear hw' w')
        go_wp2
        go_round
        case rel => exact ⟨a, c, hac, by omega, rfl, by rw [HCC.out], R2⟩
        case measure => simp [intOf]; omega
      · have HC1 := Lib.hid (by have := HC.out (((a : Int) + b) / 2) (by omega) (by omega); rw [decide_eq_false hq] at this; exact this)
        have R2 := Lib.hid (show SrchR sq (c + 1) b from ⟨.inr (by rw [show ((c + 1 : Nat) : Int) - 1 = (c : Int) by omega, ← hcc]; exact Int.not_le.1 hq), hR.out.2⟩)
        clear hcc hR hq HC
        go_wp2_with fail
        (go_at_call 83; refine HC1.out.mono ?_; rintro e w' ⟨rfl, hw'⟩; rw [hw']; clear hw' w')
        go_wp2
        go_round
        case rel => exact ⟨c + 1, b, hcb, hb, by rw [HCC.out]; go_num, rfl, R2⟩
        case measure => simp [intOf]; omega
    · obtain rfl : a = b := by omega
      have hI : ¬ (a : Int) < (a : Int) := by omega
      have hQ := Lib.hid (ceil_is H0.out (show 0 ≤ (a : Int) by omega) hR.out.2 (hR.out.1.imp (fun e => by omega) id))
      go_wp2
      go_ret
      exact ⟨ret_int hQ.out.symm, rfl⟩
theorem rt_low {n : Int} (h : 0 ≤ n) : rt n 0 = if n < rt n 1 * rt n 1 then rt n 1 - 1 else rt n 1 := by
  have ⟨a, b, c⟩ := rt_ceil h
  by_cases q : n < rt n 1 * rt n 1
  · rw [if_pos q]
    rcases c with c | c
    · rw [c] at q; omega
    · exact floor_is h (by
        apply Classical.byContradiction
        intro hn
        have e : rt n 1 = 0 := by omega
        rw [e] at q
        omega) (by omega) (by rw [Int.sub_add_cancel]; exact q)
  · rw [if_neg q]
    refine floor_is h a (by omega) ?_
    have e : (rt n 1 + 1) * (rt n 1 + 1) = rt n 1 * rt n 1 + 2 * rt n 1 + 1 := by grind
    omega
set_option maxHeartbeats 4000000 in
theorem root_any (sq m : Int) (w : World) (h0 : 0 ≤ sq) (h1 : sq ≤ 1152921504606846976) (hm : m = 0 ∨ m = 1) :
    Calls Tryz.prog 50 #[.int .i64 m, .int .i64 sq] w fun e w' => e = .returned (.int .i64 (rt sq m)) ∧ Below w.heap.size w w' := by
  have HS := Lib.hid (fun (w1 : World) (hc : w1.cell? ⟨w.heap.size, 0, none⟩ = some (.int .i64 sq)) => search_any sq w.heap.size w1 hc h0 h1)
  have ⟨r0, r1, r2⟩ := rt_ceil h0
  have r3 : rt sq 1 ≤ 1073741824 := by
    rcases r2 with r2 | r2
    · omega
    · apply Classical.byContradiction
      intro hn
      have := sq_mono (show (0 : Int) ≤ 1073741824 by omega) (show 1073741824 ≤ rt sq 1 - 1 by omega)
      omega
  have m0 := Int.mul_nonneg r0 r0
  have m1 := sq_mono r0 r3
  have hl := rt_low h0
  clear r2
  rcases hm with rfl | rfl
  · rw [hl]
    obtain ⟨R, hR⟩ : ∃ R, R = rt sq 1 := ⟨_, rfl⟩
    rw [← hR] at HS r0 r1 r3 m0 m1 ⊢
    have hw : IntKind.i64.wrap (R * R) = R * R := IntWalk.i64_in _ (by omega)
    clear hl hR
    by_cases q : sq < R * R
    · rw [if_pos q]
      have q2 : decide (sq < R * R) = true := by simpa using q
      have r4 : 1 ≤ R := by
        apply Classical.byContradiction
        intro hn
        have e : R = 0 := by omega
        rw [e] at q; omega
      go_enter Tryz.func50, Tryz.ntmps50
      go_wp2_with fail
      (go_at_call 82; refine (HS.out _ (by simp [go_sem])).mono ?_; rintro e w' ⟨rfl, hw'⟩; rw [hw']; clear hw' w')
      go_wp2
      go_ret
      exact ⟨rfl, eX⟩
    · rw [if_neg q]
      have q2 : decide (sq < R * R) = false := by simpa using q
      go_enter Tryz.func50, Tryz.ntmps50
      go_wp2_with fail
      (go_at_call 82; refine (HS.out _ (by simp [go_sem])).mono ?_; rintro e w' ⟨rfl, hw'⟩; rw [hw']; clear hw' w')
      go_wp2
      go_ret
      exact ⟨rfl, eX⟩
  · clear hl
    go_enter Tryz.func50, Tryz.ntmps50
    go_wp2_with fail
    (go_at_call 82; refine (HS.out _ (by simp [go_sem])).mono ?_; rintro e w' ⟨rfl, hw'⟩; rw [hw']; clear hw' w')
    go_wp2
    go_ret
    exact ⟨rfl, eX⟩
def RootR (n : Int) (a b : Int) : Prop := a * a ≤ n ∧ n < (b + 1) * (b + 1)
set_option maxHeartbeats 4000000 in
theorem l07Root_any (n m : Int) (w : World) (h0 : 0 ≤ n) (h1 : n < 4000000000000000000) (hm : m = 0 ∨ m = 1) :
    Calls Tryz.prog 81 #[.int .i64 n, .int .i64 m] w fun e w' => e = .returned (.int .i64 (rt n m)) ∧ w' = w := by
  have HS := Lib.hid (show RootR n 0 2000000000 from ⟨by omega, by omega⟩)
  have H0 := Lib.hid h0
  go_enter Tryz.func81, Tryz.ntmps81
  go_wp2
  go_loop [5, 6, 7] (fun i j _ => ∃ a b : Int, 0 ≤ a ∧ a ≤ b ∧ b ≤ 2000000000 ∧ i = .int .i64 a ∧ j = .int .i64 b ∧ Hid (RootR n a b)) (fun i j _ => (intOf j - intOf i).toNat)
  case atStart => exact ⟨0, 2000000000, by omega, by omega, by omega, rfl, rfl, HS⟩
  case round =>
    obtain ⟨a, b, ha, hab, hb, rfl, rfl, hR⟩ := hrel
    clear HS
    by_cases hlt : a < b
    · have hc0 : a < (a + b + 1) / 2 := by omega
      have hc1 : (a + b + 1) / 2 ≤ b := by omega
      have m0 := Int.mul_nonneg (show 0 ≤ (a + b + 1) / 2 by omega) (show 0 ≤ (a + b + 1) / 2 by omega)
      have m1 := sq_mono (show 0 ≤ (a + b + 1) / 2 by omega) (show (a + b + 1) / 2 ≤ 2000000000 by omega)
      have hw : IntKind.i64.wrap ((a + b + 1) / 2 * ((a + b + 1) / 2)) = (a + b + 1) / 2 * ((a + b + 1) / 2) := IntWalk.i64_in _ (by omega)
      by_cases hq : (a + b + 1) / 2 * ((a + b + 1) / 2) ≤ n
      · have R2 := Lib.hid (show RootR n ((a + b + 1) / 2) b from ⟨hq, hR.out.2⟩)
        clear hR
        go_wp2
        go_round
        case rel => exact ⟨_, b, by omega, by omega, hb, rfl, rfl, R2⟩
        case measure => simp [intOf]; omega
      · have R2 := Lib.hid (show RootR n a ((a + b + 1) / 2 - 1) from ⟨hR.out.1, by rw [Int.sub_add_cancel]; omega⟩)
        clear hR
        go_wp2
        go_round
        case rel => exact ⟨a, _, ha, by omega, by omega, rfl, rfl, R2⟩
        case measure => simp [intOf]; omega
    · obtain rfl : a = b := by omega
      have hF := floor_is H0.out ha hR.out.1 hR.out.2
      have m0 := Int.mul_nonneg ha ha
      have m1 := sq_mono ha hb
      have hw : IntKind.i64.wrap (a * a) = a * a := IntWalk.i64_in _ (by omega)
      have hE : rt n 1 = if a * a < n then a + 1 else a := by
        have e0 : rt n 0 = (fsq n.toNat : Int) := by simp [rt]
        rw [← hF, e0]
        simp [rt]
      have HF := Lib.hid hF
      have HE := Lib.hid hE
      clear hF hE hR
      rcases hm with rfl | rfl
      · go_wp2
        go_ret
        exact ⟨ret_int HF.out.symm, rfl⟩
      · by_cases q : a * a < n
        · go_wp2
          go_ret
          exact ⟨ret_int (by rw [HE.out, if_pos q]), rfl⟩
        · go_wp2
          go_ret
          exact ⟨ret_int (by rw [HE.out, if_neg (by omega)]), rfl⟩
end Go.Proofs.YtodgpjolkfkcpaaGreat
