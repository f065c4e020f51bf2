/-
The sense of an input by a truth table: the program's and the model's own.
-/
import Derived.Test.YtnmjfbloedmgeabCellS
namespace Go.Proofs.Ytnmjfbloedmgeab
open Go.ChangeShapes Go.WideShapes Go.ChangeAt Go.RowKit
set_option linter.unusedVariables false
set_option linter.unusedSimpArgs false
/-- Bit p of k. -/
def sbit (k p : Nat) : Bool := k / 2 ^ p % 2 == 1
def anyB (q : Nat → Bool) : Nat → Bool
  | 0 => false
  | n + 1 => anyB q n || q n
def upB (t : List Int) (p i : Nat) : Bool := !sbit i p && decide (iv t i < iv t (i + 2 ^ p))
def dnB (t : List Int) (p i : Nat) : Bool := !sbit i p && decide (iv t (i + 2 ^ p) < iv t i)
def snsV (u d : Bool) : Int := (if u then 1 else 0) + (if d then 2 else 0)
def snsK (t : List Int) (p k : Nat) : Int := snsV (anyB (upB t p) k) (anyB (dnB t p) k)
def sns (t : List Int) (p : Nat) : Int := snsK t p t.length
theorem and_bit : ∀ p, p < 4 → ∀ k, k < 16 → bits .and .i64 ((k : Nat) : Int) ((2 ^ p : Nat) : Int) = if sbit k p then ((2 ^ p : Nat) : Int) else 0 := by decide +kernel
theorem or_bit : ∀ p, p < 4 → ∀ k, k < 16 → sbit k p = false → bits .or .i64 ((k : Nat) : Int) ((2 ^ p : Nat) : Int) = ((k + 2 ^ p : Nat) : Int) := by decide +kernel
theorem pow_in (p : Nat) : ((2 ^ p : Nat) : Int) = (2 : Int) ^ p := by simp
theorem and_bitI {p k : Nat} (hp : p < 4) (hk : k < 16) : bits .and .i64 (k : Int) ((2 : Int) ^ p) = if sbit k p then (2 : Int) ^ p else 0 := by
  have := and_bit p hp k hk
  rw [pow_in] at this
  exact this
theorem or_bitI {p k : Nat} (hp : p < 4) (hk : k < 16) (h : sbit k p = false) : bits .or .i64 (k : Int) ((2 : Int) ^ p) = ((k + 2 ^ p : Nat) : Int) := by
  have := or_bit p hp k hk h
  rw [pow_in] at this
  exact this
theorem pow_wrap {p : Nat} (h : p < 4) : IntKind.i64.wrap ((2 : Int) ^ p) = (2 : Int) ^ p := by
  obtain rfl | rfl | rfl | rfl : p = 0 ∨ p = 1 ∨ p = 2 ∨ p = 3 := by omega
  all_goals exact IntWalk.i64_in _ (by decide)
theorem pow_ne (p : Nat) : (((2 : Int) ^ p) != 0) = true := by
  have : (0 : Int) < (2 : Int) ^ p := Int.pow_pos (by omega)
  simp; omega
theorem bit_lt : ∀ m, m ≤ 4 → ∀ p, p < m → ∀ k, k < 2 ^ m → sbit k p = false → k + 2 ^ p < 2 ^ m := by decide +kernel
theorem or_pos : ∀ u d, bits .or .i64 (snsV u d) 1 = snsV true d := by decide +kernel
theorem or_neg : ∀ u d, bits .or .i64 (snsV u d) 2 = snsV u true := by decide +kernel
theorem sns_set {t : List Int} {p k : Nat} (h : sbit k p = true) : snsK t p (k + 1) = snsK t p k := by simp [snsK, anyB, upB, dnB, h]
theorem sns_up {t : List Int} {p k : Nat} (h : sbit k p = false) (h1 : iv t k < iv t (k + 2 ^ p)) : snsK t p (k + 1) = snsV true (anyB (dnB t p) k) := by
  have : ¬ iv t (k + 2 ^ p) < iv t k := by omega
  simp [snsK, anyB, upB, dnB, h, h1, this]
theorem sns_dn {t : List Int} {p k : Nat} (h : sbit k p = false) (h1 : iv t (k + 2 ^ p) < iv t k) : snsK t p (k + 1) = snsV (anyB (upB t p) k) true := by
  have : ¬ iv t k < iv t (k + 2 ^ p) := by omega
  simp [snsK, anyB, upB, dnB, h, h1, this]
theorem sns_eq {t : List Int} {p k : Nat} (h1 : ¬ iv t k < iv t (k + 2 ^ p)) (h2 : ¬ iv t (k + 2 ^ p) < iv t k) : snsK t p (k + 1) = snsK t p k := by simp [snsK, anyB, upB, dnB, h1, h2]
set_option maxHeartbeats 2000000 in
theorem senseT_any (v : Value) (t : List Int) (m p : Nat) (w : World) (h : IntS w w.heap.size v t) (hm : m ≤ 4) (hl : t.length = 2 ^ m) (hp : p < m) : Calls Try.prog 30 #[v, .int .i64 (p : Int)] w fun e w' => e = .returned (.int .i64 (sns t p)) ∧ Below w.heap.size w w' := by
  have HT := Lib.hid h
  obtain ⟨hn, a, cap, rfl, hx0⟩ := h
  have hn16 : t.length ≤ 16 := by rw [hl]; exact Nat.le_trans (Nat.pow_le_pow_right (by omega) hm) (by decide)
  obtain ⟨n, hnn⟩ : ∃ n, n = t.length := ⟨_, rfl⟩
  rw [← hnn] at hn hx0 hn16 ⊢
  have HN := Lib.hid hnn
  have HX := Lib.hid hx0
  clear hx0 hnn
  have hp4 : p < 4 := by omega
  have w0 := pow_wrap hp4
  go_enter Try.func30, Try.ntmps30
  go_wp2
  go_loopw [6, 14] (fun q i wr => wr = w ∧ ∃ k : Nat, k ≤ n ∧ i = .int .i64 k ∧ q = .int .i64 (snsK t p k)) (fun _ i _ => n - (intOf i).toNat)
  case atStart => exact ⟨rfl, 0, by omega, rfl, rfl⟩
  case round =>
    obtain ⟨rfl, k, hk, rfl, rfl⟩ := hrel
    by_cases hkn : k < n
    · obtain ⟨b, off, rfl, hlt, hx⟩ := HX.out (by omega)
      have y0 := hx k hkn
      have hI : (k : Int) < (n : Int) := by omega
      have i0 : (0 : Int) ≤ (k : Int) := by omega
      have hA := and_bitI (p := p) (k := k) hp4 (by omega)
      cases hs : sbit k p
      · rw [hs, if_neg (by simp)] at hA
        have hlt2 := bit_lt m hm p hp k (by rw [← hl, ← HN.out]; exact hkn) hs
        rw [← hl, ← HN.out] at hlt2
        have hO := or_bitI (p := p) (k := k) hp4 (by omega) hs
        have y1 := hx _ hlt2
        obtain ⟨j, hj⟩ : ∃ j, j = k + 2 ^ p := ⟨_, rfl⟩
        rw [← hj] at hO y1 hlt2
        have hJ := Lib.hid hj
        have hjI : (j : Int) < (n : Int) := by omega
        clear hx hj
        by_cases c1 : iv t k < iv t j
        · have hok := Lib.hid ((sns_up (t := t) hs (by rw [← hJ.out]; exact c1)).trans (or_pos (anyB (upB t p) k) (anyB (dnB t p) k)).symm)
          go_wp2
          go_roundw
          case rel => exact ⟨trivial, k + 1, by omega, by go_num, by rw [hok.out]; rfl⟩
          case measure => simp [intOf]; omega
        · by_cases c2 : iv t j < iv t k
          · have hok := Lib.hid ((sns_dn (t := t) hs (by rw [← hJ.out]; exact c2)).trans (or_neg (anyB (upB t p) k) (anyB (dnB t p) k)).symm)
            go_wp2
            go_roundw
            case rel => exact ⟨trivial, k + 1, by omega, by go_num, by rw [hok.out]; rfl⟩
            case measure => simp [intOf]; omega
          · have hok := Lib.hid (sns_eq (t := t) (p := p) (k := k) (by rw [← hJ.out]; exact c1) (by rw [← hJ.out]; exact c2))
            go_wp2
            go_roundw
            case rel => exact ⟨trivial, k + 1, by omega, by go_num, by rw [hok.out]⟩
            case measure => simp [intOf]; omega
      · rw [hs, if_pos rfl] at hA
        have hok := Lib.hid (sns_set (t := t) hs)
        have hB0 := pow_ne p
        clear hx
        go_wp2
        trace_state
        go_roundw
        case rel => exact ⟨trivial, k + 1, by omega, by go_num, by rw [hok.out]⟩
        case measure => simp [intOf]; omega
    · obtain rfl : k = n := by omega
      have hI : ¬ (k : Int) < (k : Int) := by omega
      go_wp2
      go_ret
      rw [show sns t p = snsK t p k by unfold sns; rw [HN.out]]
      exact ⟨rfl, by (repeat (first | (with_reducible exact Below.refl _ _) | (with_reducible assumption) | (with_reducible refine ext_alloc ?_ _) | (with_reducible refine ext_drew ?_) | (with_reducible refine ext_drewN ?_ _) | (with_reducible refine ext_set ?_ (by first | exact Nat.le_refl _ | (simp; done) | (simp; omega) | omega) _) | (with_reducible refine ext_trans ?_ (by assumption))))⟩
theorem wrap_nat {x : Int} (h0 : 0 ≤ x) (h1 : x ≤ 1000) : IntKind.i64.wrap x = x := IntWalk.i64_in _ (by omega)
theorem any_k {q : Nat → Bool} {k : Nat} (h : q k = false) : anyB q (k + 1) = anyB q k := by simp [anyB, h]
theorem any_y {q : Nat → Bool} {k : Nat} (h : anyB q k = true) : anyB q (k + 1) = true := by simp [anyB, h]
theorem any_n {q : Nat → Bool} {k : Nat} (h : anyB q k = false) : anyB q (k + 1) = q k := by simp [anyB, h]
set_option maxHeartbeats 4000000 in
theorem specSense_any (f : Nat → Value) (c : CellD) (m p : Nat) (w : World) (h : CellF w w.heap.size f c) (hm : m ≤ 4) (hl : c.truth.length = 2 ^ m) (hp : p < m) : Calls Try.prog 28 #[.agg #[f 0, f 1, f 2, f 3, f 4, f 5, f 6], .int .i64 (p : Int)] w fun e w' => e = .returned (.int .i64 (sns c.truth p)) ∧ Below w.heap.size w w' := by
  obtain ⟨t, ht⟩ : ∃ t, t = c.truth := ⟨_, rfl⟩
  obtain ⟨e0, e1, x2, x3, x4, e5, e6, hsz⟩ := h
  obtain ⟨p2, q2, e2⟩ := x2.slice; obtain ⟨p3, q3, e3⟩ := x3.slice
  rw [← ht] at x4 hl ⊢
  obtain ⟨hn, a, cap, e4, hx0⟩ := x4
  have hn16 : t.length ≤ 16 := by rw [hl]; exact Nat.le_trans (Nat.pow_le_pow_right (by omega) hm) (by decide)
  obtain ⟨n, hnn⟩ : ∃ n, n = t.length := ⟨_, rfl⟩
  rw [← hnn] at hn hx0 hn16 e4
  rw [e0, e1, e2, e3, e4, e5, e6]
  have HN := Lib.hid hnn
  have HX := Lib.hid hx0
  clear hx0 hnn e0 e1 e2 e3 e4 e5 e6 x2 x3 ht hsz
  have hp4 : p < 4 := by omega
  have w0 := pow_wrap hp4
  go_enter Try.func28, Try.ntmps28
  go_wp2
  go_loopw [5, 6, 8] (fun u d i wr => ∃ k : Nat, k ≤ n ∧ i = .int .i64 k ∧ u = .bool (anyB (upB t p) k) ∧ d = .bool (anyB (dnB t p) k) ∧ wr.cell? ⟨w.heap.size, 4, none⟩ = some (.slice a n cap) ∧ Below w.heap.size w wr) (fun _ _ i _ => n - (intOf i).toNat)
  case atStart => exact ⟨0, by omega, rfl, rfl, rfl, by simp [go_sem], by (repeat (first | (with_reducible exact Below.refl _ _) | (with_reducible assumption) | (with_reducible refine ext_alloc ?_ _) | (with_reducible refine ext_drew ?_) | (with_reducible refine ext_drewN ?_ _) | (with_reducible refine ext_set ?_ (by first | exact Nat.le_refl _ | (simp; done) | (simp; omega) | omega) _) | (with_reducible refine ext_trans ?_ (by assumption))))⟩
  case round =>
    obtain ⟨k, hk, rfl, rfl, rfl, r4, hbw⟩ := hrel
    by_cases hkn : k < n
    · obtain ⟨b, off, rfl, hlt, hx⟩ := HX.out (by omega)
      have y0 : wr.cell? ⟨b, off + k, none⟩ = some (.int .i64 (iv t k)) := (hbw.cell (by exact hlt)).trans (hx k hkn)
      have hI : (k : Int) < (n : Int) := by omega
      have i0 : (0 : Int) ≤ (k : Int) := by omega
      have hA := and_bitI (p := p) (k := k) hp4 (by omega)
      cases hs : sbit k p
      · rw [hs, if_neg (by simp)] at hA
        have hlt2 := bit_lt m hm p hp k (by rw [← hl, ← HN.out]; exact hkn) hs
        rw [← hl, ← HN.out] at hlt2
        have y1 : wr.cell? ⟨b, off + (k + 2 ^ p), none⟩ = some (.int .i64 (iv t (k + 2 ^ p))) := (hbw.cell (by exact hlt)).trans (hx _ hlt2)
        have hw1 : IntKind.i64.wrap ((k : Int) + (2 : Int) ^ p) = ((k + 2 ^ p : Nat) : Int) := by
          rw [← pow_in]
          exact (show ∀ q : Nat, k + q ≤ 16 → IntKind.i64.wrap ((k : Int) + (q : Int)) = ((k + q : Nat) : Int) from fun q hq => by rw [IntWalk.i64_in _ (by omega)]; omega) (2 ^ p) (by omega)
        obtain ⟨j, hj⟩ : ∃ j, j = k + 2 ^ p := ⟨_, rfl⟩
        have hU := Lib.hid (show upB t p k = decide (iv t k < iv t j) by rw [hj]; simp [upB, hs])
        have hD := Lib.hid (show dnB t p k = decide (iv t j < iv t k) by rw [hj]; simp [dnB, hs])
        rw [← hj] at y1 hlt2 hw1
        have hjI : (j : Int) < (n : Int) := by omega
        clear hx hj
        cases hu : anyB (upB t p) k <;> cases hd : anyB (dnB t p) k
        all_goals
          rcases (show (iv t k < iv t j ∧ ¬ iv t j < iv t k) ∨ (¬ iv t k < iv t j ∧ iv t j < iv t k) ∨ (¬ iv t k < iv t j ∧ ¬ iv t j < iv t k) by omega) with ⟨c1, c2⟩ | ⟨c1, c2⟩ | ⟨c1, c2⟩
          all_goals
            have hk1 : anyB (upB t p) (k + 1) = (anyB (upB t p) k || decide (iv t k < iv t j)) := by rw [← hU.out]; rfl
            have hk2 : anyB (dnB t p) (k + 1) = (anyB (dnB t p) k || decide (iv t j < iv t k)) := by rw [← hD.out]; rfl
            rw [hu] at hk1
            rw [hd] at hk2
            simp [c1, c2] at hk1 hk2
            have hK1 := Lib.hid hk1
            have hK2 := Lib.hid hk2
            clear hk1 hk2 hu hd
            go_wp2
            go_quiet (fail)
            go_wp2
            go_quiet (fail)
            go_wp2
            go_roundw
            case rel => exact ⟨k + 1, by omega, by go_num, by rw [hK1.out]; try simp [c1, c2], by rw [hK2.out]; try simp [c1, c2], r4, by (repeat (first | (with_reducible exact Below.refl _ _) | (with_reducible assumption) | (with_reducible refine ext_alloc ?_ _) | (with_reducible refine ext_drew ?_) | (with_reducible refine ext_drewN ?_ _) | (with_reducible refine ext_set ?_ (by first | exact Nat.le_refl _ | (simp; done) | (simp; omega) | omega) _) | (with_reducible refine ext_trans ?_ (by assumption))))⟩
            case measure => simp [intOf]; omega
      · rw [hs, if_pos rfl] at hA
        have hok1 := Lib.hid (any_k (q := upB t p) (k := k) (by simp [upB, hs]))
        have hok2 := Lib.hid (any_k (q := dnB t p) (k := k) (by simp [dnB, hs]))
        have hB0 := pow_ne p
        clear hx
        go_wp2
        go_roundw
        case rel => exact ⟨k + 1, by omega, by go_num, by rw [hok1.out], by rw [hok2.out], r4, hbw⟩
        case measure => simp [intOf]; omega
    · obtain rfl : k = n := by omega
      have hI : ¬ (k : Int) < (k : Int) := by omega
      have hR := Lib.hid (show sns t p = snsV (anyB (upB t p) k) (anyB (dnB t p) k) by unfold sns snsK; rw [HN.out])
      cases hu : anyB (upB t p) k <;> cases hd : anyB (dnB t p) k
      all_goals
        rw [hu, hd] at hR
        go_wp2
        go_ret
        rw [hR.out]
        exact ⟨rfl, by (repeat (first | (with_reducible exact Below.refl _ _) | (with_reducible assumption) | (with_reducible refine ext_alloc ?_ _) | (with_reducible refine ext_drew ?_) | (with_reducible refine ext_drewN ?_ _) | (with_reducible refine ext_set ?_ (by first | exact Nat.le_refl _ | (simp; done) | (simp; omega) | omega) _) | (with_reducible refine ext_trans ?_ (by assumption))))⟩
end Go.Proofs.Ytnmjfbloedmgeab
