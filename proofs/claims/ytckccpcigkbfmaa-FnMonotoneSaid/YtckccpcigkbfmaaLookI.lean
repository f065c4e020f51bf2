/-
Contracts of the parts of the program's LookUp, for all arguments.
-/
import Derived.Test.YtckccpcigkbfmaaLookS
namespace Go.Proofs.Ytckccpcigkbfmaa
open Go.ChangeShapes Go.WideShapes Go.ChangeAt Go.RowKit
set_option linter.unusedVariables false
/-- The first element that is not less than c is the upper one of the two around it. -/
theorem up_first {xs : List Int} (h : axB xs = true) {x : Int} {p : Nat} (hp : IsLo xs (cl xs x) p) : up xs (cl xs x) p < xs.length ∧ cl xs x ≤ iv xs (up xs (cl xs x) p) ∧ ∀ j, j < up xs (cl xs x) p → iv xs j < cl xs x := by
  have h0 := up_lt h hp
  refine ⟨h0, ?_⟩
  unfold up at h0 ⊢
  by_cases e : cl xs x = iv xs p
  · rw [if_pos e] at h0 ⊢
    refine ⟨by omega, fun j hj => ?_⟩
    have := (ax_get h).2.2.2 j p hj h0
    omega
  · rw [if_neg e] at h0 ⊢
    refine ⟨?_, fun j hj => ?_⟩
    · have := hp.2.2 h0
      omega
    · have h1 := ax_le h (i := j) (j := p) (by omega) (by omega)
      have h2 := hp.2.1
      omega
theorem geq_any (e x : Int) (b : Nat) (w : World) (hx : w.cell? ⟨b, 0, none⟩ = some (.int .i64 x)) : Calls Try.prog 115 #[.int .i64 e, .pointer (some ⟨b, 0, none⟩)] w fun r w' => r = .returned (.bool (decide (x ≤ e))) ∧ w' = w := by
  by_cases h : x ≤ e
  · go_enter Try.func115, Try.ntmps115
    go_wp2
    go_ret
    exact ⟨by simp [h], rfl⟩
  · go_enter Try.func115, Try.ntmps115
    go_wp2
    go_ret
    exact ⟨by simp [h], rfl⟩
set_option maxHeartbeats 2000000 in
theorem indexFunc_any (b off cap g : Nat) (xs : List Int) (x : Int) (k n : Nat) (w : World) (hn : n ≤ 9223372036854775807) (hk : k < n) (hx : ∀ i, i < n → w.cell? ⟨b, off + i, none⟩ = some (.int .i64 (iv xs i)))
    (hg : w.cell? ⟨g, 0, none⟩ = some (.int .i64 x)) (h1 : x ≤ iv xs k) (h2 : ∀ j, j < k → iv xs j < x) :
    Calls Try.prog 114 #[.slice (some ⟨b, off, none⟩) n cap, .func (.func 115) #[] #[.pointer (some ⟨g, 0, none⟩)]] w fun e w' => e = .returned (.int .i64 k) ∧ w' = w := by
  have HX := Lib.hid hx
  have H1 := Lib.hid h1
  have H2 := Lib.hid h2
  clear hx h1 h2
  go_enter Try.func114, Try.ntmps114
  go_wp2
  go_loopw [5, 8] (fun _ i wr => wr = w ∧ ∃ q : Nat, q ≤ k ∧ i = .int .i64 q) (fun _ i _ => k + 1 - (intOf i).toNat)
  case atStart => exact ⟨rfl, 0, by omega, rfl⟩
  case round =>
    obtain ⟨rfl, q, hq, rfl⟩ := hrel
    have hqn : (q : Int) < (n : Int) := by omega
    have yq := HX.out q (by omega)
    by_cases e : q = k
    · subst e
      have hd := H1.out
      go_wp2_with (go_at_call 115; refine (geq_any _ _ _ _ hg).mono ?_; rintro e w' ⟨rfl, rfl⟩)
      go_ret
      exact ⟨rfl, rfl⟩
    · have hd : ¬ x ≤ iv xs q := by have := H2.out q (by omega); omega
      go_wp2_with (go_at_call 115; refine (geq_any _ _ _ _ hg).mono ?_; rintro e w' ⟨rfl, rfl⟩)
      go_roundw
      case rel => exact ⟨trivial, q + 1, by omega, by go_num⟩
      case measure => simp [intOf]; omega
theorem total_any (p q a b : Int) (w : World) (ha : 0 ≤ a) (ha2 : a ≤ 100000) (hb : 0 ≤ b) (hb2 : b ≤ 100000) :
    Calls Try.prog 63 #[.agg #[.int .i64 p, .int .i64 q, .int .i64 a, .int .i64 b]] w fun e w' => e = .returned (.int .i64 (a + b)) ∧ Below w.heap.size w w' := by
  go_enter Try.func63, Try.ntmps63
  go_wp2
  go_ret
  exact ⟨rfl, by (repeat (first | (with_reducible exact Below.refl _ _) | (with_reducible assumption) | (with_reducible refine ext_alloc ?_ _) | (with_reducible refine ext_drew ?_) | (with_reducible refine ext_drewN ?_ _) | (with_reducible refine ext_set ?_ (by first | exact Nat.le_refl _ | (simp; done) | (simp; omega) | omega) _) | (with_reducible refine ext_trans ?_ (by assumption))))⟩
set_option maxHeartbeats 4000000 in
theorem point_c (v : Value) (xs : List Int) (x c : Int) (p q : Nat) (A B : Int) (w : World) (h : IntS w w.heap.size v xs) (ha : axB xs = true) (hc : c = cl xs x) (hA : A = wA xs c p) (hB : B = wB xs c p) (hq : q = up xs c p) (hp : p < xs.length) (hq0 : q < xs.length) (hq1 : c ≤ iv xs q) (hq2 : ∀ j, j < q → iv xs j < c) (hl : p + 1 < xs.length → c < iv xs (p + 1)) :
    Calls Try.prog 60 #[v, .int .i64 x] w fun e w' => e = .returned (.agg #[.int .i64 p, .int .i64 q, .int .i64 A, .int .i64 B]) ∧ Below w.heap.size w w' := by
  obtain ⟨hn, a, cap, rfl, hx0⟩ := h
  have ⟨n0, n4, hr, _⟩ := ax_get ha
  obtain ⟨b, off, rfl, hlt, hx⟩ := hx0 n0
  have y0 : w.cell? ⟨b, off, none⟩ = some (.int .i64 (iv xs 0)) := by simpa using hx 0 n0
  have yl := hx (xs.length - 1) (by omega)
  have yq := hx q hq0
  have yp := hx p hp
  have ⟨q3, q4⟩ := hr q hq0
  have ⟨q5, q6⟩ := hr p hp
  have ⟨q7, q8⟩ := cl_bd ha x
  have HX := Lib.hid hx
  have H1 := Lib.hid hq1
  have H2 := Lib.hid hq2
  have HL := Lib.hid hl
  have hle := ax_le ha (i := 0) (j := xs.length - 1) (by omega) (by omega)
  have lI : ((xs.length : Int) - 1) < (xs.length : Int) := by omega
  have eI : ((xs.length : Int) - 1) = ((xs.length - 1 : Nat) : Int) := by omega
  rw [← hc] at q7 q8
  unfold cl at hc
  clear hx hx0 hr hq1 hq2 hl
  have key : (c = iv xs q ∧ p = q ∧ A = 1 ∧ B = 0) ∨ (c < iv xs q ∧ q = p + 1 ∧ A = iv xs q - c ∧ B = c - iv xs p ∧ iv xs p < c) := by
    unfold up at hq
    unfold wA at hA
    unfold wB at hB
    by_cases e : c = iv xs p
    · rw [if_pos e] at hq hA hB
      subst hq
      exact .inl ⟨e, rfl, hA, hB⟩
    · rw [if_neg e] at hq hA hB
      subst hq
      exact .inr ⟨HL.out hq0, rfl, hA, hB, H2.out p (by omega)⟩
  clear hA hB hq
  rcases key with ⟨e1, rfl, rfl, rfl⟩ | ⟨e1, rfl, rfl, rfl, e2⟩
  · have ecb : ((iv xs p : Int) == c) = true := by simpa using e1.symm
    have E1 := Lib.hid e1
    clear e1
    by_cases cA : x < iv xs 0
    · obtain rfl : c = iv xs 0 := by omega
      clear hc
      go_enter Try.func60, Try.ntmps60
      go_wp2_with fail
      go_region
      go_wp2_with (go_at_call 114; refine (indexFunc_any b off cap _ xs _ _ xs.length _ hn hq0 (fun i hi => (Below.cell (B := w.heap.size) (by (repeat (first | (with_reducible exact Below.refl _ _) | (with_reducible assumption) | (with_reducible refine ext_alloc ?_ _) | (with_reducible refine ext_drew ?_) | (with_reducible refine ext_drewN ?_ _) | (with_reducible refine ext_set ?_ (by first | exact Nat.le_refl _ | (simp; done) | (simp; omega) | omega) _) | (with_reducible refine ext_trans ?_ (by assumption))))) (by exact hlt)).trans (HX.out i hi)) (by simp [go_sem]) H1.out H2.out).mono ?_; rintro e w1 ⟨rfl, rfl⟩)
      go_region
      go_wp2
      exact bodyPost_ret (v := .agg #[.int .i64 p, .int .i64 p, .int .i64 1, .int .i64 0]) (by simp [results, Try.results60, go_sem, *]) rfl ⟨rfl, by (repeat (first | (with_reducible exact Below.refl _ _) | (with_reducible assumption) | (with_reducible refine ext_alloc ?_ _) | (with_reducible refine ext_drew ?_) | (with_reducible refine ext_drewN ?_ _) | (with_reducible refine ext_set ?_ (by first | exact Nat.le_refl _ | (simp; done) | (simp; omega) | omega) _) | (with_reducible refine ext_trans ?_ (by assumption))))⟩
    · by_cases cB : x ≤ iv xs (xs.length - 1)
      · obtain rfl : c = x := by omega
        clear hc
        go_enter Try.func60, Try.ntmps60
        go_wp2_with fail
        go_region
        go_wp2_with (go_at_call 114; refine (indexFunc_any b off cap _ xs _ _ xs.length _ hn hq0 (fun i hi => (Below.cell (B := w.heap.size) (by (repeat (first | (with_reducible exact Below.refl _ _) | (with_reducible assumption) | (with_reducible refine ext_alloc ?_ _) | (with_reducible refine ext_drew ?_) | (with_reducible refine ext_drewN ?_ _) | (with_reducible refine ext_set ?_ (by first | exact Nat.le_refl _ | (simp; done) | (simp; omega) | omega) _) | (with_reducible refine ext_trans ?_ (by assumption))))) (by exact hlt)).trans (HX.out i hi)) (by simp [go_sem]) H1.out H2.out).mono ?_; rintro e w1 ⟨rfl, rfl⟩)
        go_region
        go_wp2
        exact bodyPost_ret (v := .agg #[.int .i64 p, .int .i64 p, .int .i64 1, .int .i64 0]) (by simp [results, Try.results60, go_sem, *]) rfl ⟨rfl, by (repeat (first | (with_reducible exact Below.refl _ _) | (with_reducible assumption) | (with_reducible refine ext_alloc ?_ _) | (with_reducible refine ext_drew ?_) | (with_reducible refine ext_drewN ?_ _) | (with_reducible refine ext_set ?_ (by first | exact Nat.le_refl _ | (simp; done) | (simp; omega) | omega) _) | (with_reducible refine ext_trans ?_ (by assumption))))⟩
      · obtain rfl : c = iv xs (xs.length - 1) := by omega
        clear hc
        go_enter Try.func60, Try.ntmps60
        go_wp2_with fail
        go_region
        go_wp2_with (go_at_call 114; refine (indexFunc_any b off cap _ xs _ _ xs.length _ hn hq0 (fun i hi => (Below.cell (B := w.heap.size) (by (repeat (first | (with_reducible exact Below.refl _ _) | (with_reducible assumption) | (with_reducible refine ext_alloc ?_ _) | (with_reducible refine ext_drew ?_) | (with_reducible refine ext_drewN ?_ _) | (with_reducible refine ext_set ?_ (by first | exact Nat.le_refl _ | (simp; done) | (simp; omega) | omega) _) | (with_reducible refine ext_trans ?_ (by assumption))))) (by exact hlt)).trans (HX.out i hi)) (by simp [go_sem]) H1.out H2.out).mono ?_; rintro e w1 ⟨rfl, rfl⟩)
        go_region
        go_wp2
        exact bodyPost_ret (v := .agg #[.int .i64 p, .int .i64 p, .int .i64 1, .int .i64 0]) (by simp [results, Try.results60, go_sem, *]) rfl ⟨rfl, by (repeat (first | (with_reducible exact Below.refl _ _) | (with_reducible assumption) | (with_reducible refine ext_alloc ?_ _) | (with_reducible refine ext_drew ?_) | (with_reducible refine ext_drewN ?_ _) | (with_reducible refine ext_set ?_ (by first | exact Nat.le_refl _ | (simp; done) | (simp; omega) | omega) _) | (with_reducible refine ext_trans ?_ (by assumption))))⟩
  · have hI : (p : Int) + 1 < (xs.length : Int) := by omega
    have ecb : ((iv xs (p + 1) : Int) == c) = false := by simp; omega
    by_cases cA : x < iv xs 0
    · obtain rfl : c = iv xs 0 := by omega
      clear hc
      go_enter Try.func60, Try.ntmps60
      go_wp2_with fail
      go_region
      go_wp2_with (go_at_call 114; refine (indexFunc_any b off cap _ xs _ _ xs.length _ hn hq0 (fun i hi => (Below.cell (B := w.heap.size) (by (repeat (first | (with_reducible exact Below.refl _ _) | (with_reducible assumption) | (with_reducible refine ext_alloc ?_ _) | (with_reducible refine ext_drew ?_) | (with_reducible refine ext_drewN ?_ _) | (with_reducible refine ext_set ?_ (by first | exact Nat.le_refl _ | (simp; done) | (simp; omega) | omega) _) | (with_reducible refine ext_trans ?_ (by assumption))))) (by exact hlt)).trans (HX.out i hi)) (by simp [go_sem]) H1.out H2.out).mono ?_; rintro e w1 ⟨rfl, rfl⟩)
      go_region
      go_wp2_with fail
      go_region
      go_wp2
      exact bodyPost_ret (v := .agg #[.int .i64 p, .int .i64 ((p + 1 : Nat) : Int), .int .i64 (iv xs (p + 1) - (iv xs 0)), .int .i64 ((iv xs 0) - iv xs p)]) (by simp [results, Try.results60, go_sem, *]) rfl ⟨rfl, by (repeat (first | (with_reducible exact Below.refl _ _) | (with_reducible assumption) | (with_reducible refine ext_alloc ?_ _) | (with_reducible refine ext_drew ?_) | (with_reducible refine ext_drewN ?_ _) | (with_reducible refine ext_set ?_ (by first | exact Nat.le_refl _ | (simp; done) | (simp; omega) | omega) _) | (with_reducible refine ext_trans ?_ (by assumption))))⟩
    · by_cases cB : x ≤ iv xs (xs.length - 1)
      · obtain rfl : c = x := by omega
        clear hc
        go_enter Try.func60, Try.ntmps60
        go_wp2_with fail
        go_region
        go_wp2_with (go_at_call 114; refine (indexFunc_any b off cap _ xs _ _ xs.length _ hn hq0 (fun i hi => (Below.cell (B := w.heap.size) (by (repeat (first | (with_reducible exact Below.refl _ _) | (with_reducible assumption) | (with_reducible refine ext_alloc ?_ _) | (with_reducible refine ext_drew ?_) | (with_reducible refine ext_drewN ?_ _) | (with_reducible refine ext_set ?_ (by first | exact Nat.le_refl _ | (simp; done) | (simp; omega) | omega) _) | (with_reducible refine ext_trans ?_ (by assumption))))) (by exact hlt)).trans (HX.out i hi)) (by simp [go_sem]) H1.out H2.out).mono ?_; rintro e w1 ⟨rfl, rfl⟩)
        go_region
        go_wp2_with fail
        go_region
        go_wp2
        exact bodyPost_ret (v := .agg #[.int .i64 p, .int .i64 ((p + 1 : Nat) : Int), .int .i64 (iv xs (p + 1) - c), .int .i64 (c - iv xs p)]) (by simp [results, Try.results60, go_sem, *]) rfl ⟨rfl, by (repeat (first | (with_reducible exact Below.refl _ _) | (with_reducible assumption) | (with_reducible refine ext_alloc ?_ _) | (with_reducible refine ext_drew ?_) | (with_reducible refine ext_drewN ?_ _) | (with_reducible refine ext_set ?_ (by first | exact Nat.le_refl _ | (simp; done) | (simp; omega) | omega) _) | (with_reducible refine ext_trans ?_ (by assumption))))⟩
      · obtain rfl : c = iv xs (xs.length - 1) := by omega
        clear hc
        go_enter Try.func60, Try.ntmps60
        go_wp2_with fail
        go_region
        go_wp2_with (go_at_call 114; refine (indexFunc_any b off cap _ xs _ _ xs.length _ hn hq0 (fun i hi => (Below.cell (B := w.heap.size) (by (repeat (first | (with_reducible exact Below.refl _ _) | (with_reducible assumption) | (with_reducible refine ext_alloc ?_ _) | (with_reducible refine ext_drew ?_) | (with_reducible refine ext_drewN ?_ _) | (with_reducible refine ext_set ?_ (by first | exact Nat.le_refl _ | (simp; done) | (simp; omega) | omega) _) | (with_reducible refine ext_trans ?_ (by assumption))))) (by exact hlt)).trans (HX.out i hi)) (by simp [go_sem]) H1.out H2.out).mono ?_; rintro e w1 ⟨rfl, rfl⟩)
        go_region
        go_wp2_with fail
        go_region
        go_wp2
        exact bodyPost_ret (v := .agg #[.int .i64 p, .int .i64 ((p + 1 : Nat) : Int), .int .i64 (iv xs (p + 1) - (iv xs (xs.length - 1))), .int .i64 ((iv xs (xs.length - 1)) - iv xs p)]) (by simp [results, Try.results60, go_sem, *]) rfl ⟨rfl, by (repeat (first | (with_reducible exact Below.refl _ _) | (with_reducible assumption) | (with_reducible refine ext_alloc ?_ _) | (with_reducible refine ext_drew ?_) | (with_reducible refine ext_drewN ?_ _) | (with_reducible refine ext_set ?_ (by first | exact Nat.le_refl _ | (simp; done) | (simp; omega) | omega) _) | (with_reducible refine ext_trans ?_ (by assumption))))⟩
theorem point_any (v : Value) (xs : List Int) (x : Int) (p : Nat) (w : World) (h : IntS w w.heap.size v xs) (ha : axB xs = true) (hp : IsLo xs (cl xs x) p) :
    Calls Try.prog 60 #[v, .int .i64 x] w fun e w' => e = .returned (.agg #[.int .i64 p, .int .i64 (up xs (cl xs x) p : Nat), .int .i64 (wA xs (cl xs x) p), .int .i64 (wB xs (cl xs x) p)]) ∧ Below w.heap.size w w' :=
  have ⟨h1, h2, h3⟩ := up_first ha hp
  point_c v xs x _ p _ _ _ w h ha rfl rfl rfl rfl hp.1 h1 h2 h3 hp.2.2
end Go.Proofs.Ytckccpcigkbfmaa
