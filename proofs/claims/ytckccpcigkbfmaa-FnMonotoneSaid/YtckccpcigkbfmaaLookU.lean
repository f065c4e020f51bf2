/-
The contracts of LookUp (program and model), for all arguments: both answer the same value and the same code.
-/
import Derived.Test.YtckccpcigkbfmaaLookP
namespace Go.Proofs.Ytckccpcigkbfmaa
open Go.ChangeShapes Go.WideShapes Go.ChangeAt Go.RowKit
set_option linter.unusedVariables false
set_option linter.unusedSimpArgs false
noncomputable def loI (xs : List Int) (x : Int) : Nat := if h : axB xs = true then Classical.choose (lo_exists h x) else 0
theorem loI_spec {xs : List Int} (h : axB xs = true) (x : Int) : IsLo xs (cl xs x) (loI xs x) := by
  unfold loI
  rw [dif_pos h]
  exact Classical.choose_spec (lo_exists h x)
/-- The value of a valid table at a point, rounded by a mode. -/
noncomputable def lkV (ss ls vs : List Int) (x y m : Int) : Int := qd (lkS ss ls vs x y (loI ss x) (loI ls y)) (lkW ss ls x y (loI ss x) (loI ls y)) m
noncomputable def luV (ss ls vs : List Int) (x y m : Int) : Int := if tabB ss ls vs && isM m then lkV ss ls vs x y m else 0
def luC (ss ls vs : List Int) (m : Int) : Int := if tabB ss ls vs then (if isM m then 0 else 2) else 1
theorem lu_no {ss ls vs : List Int} (h : tabB ss ls vs = false) (x y m : Int) : luV ss ls vs x y m = 0 ∧ luC ss ls vs m = 1 := by simp [luV, luC, h]
theorem lu_bad {ss ls vs : List Int} (h : tabB ss ls vs = true) {m : Int} (hm : isM m = false) (x y : Int) : luV ss ls vs x y m = 0 ∧ luC ss ls vs m = 2 := by simp [luV, luC, h, hm]
theorem lu_yes {ss ls vs : List Int} (h : tabB ss ls vs = true) {m : Int} (hm : isM m = true) (x y : Int) : luV ss ls vs x y m = lkV ss ls vs x y m ∧ luC ss ls vs m = 0 := by simp [luV, luC, h, hm]
/-- The places around a point lie within the table. -/
theorem around_lt {ss ls vs : List Int} (h : tabB ss ls vs = true) {x y : Int} {i k : Nat} (hi : IsLo ss (cl ss x) i) (hk : IsLo ls (cl ls y) k) :
    i * ls.length + k < vs.length ∧ i * ls.length + up ls (cl ls y) k < vs.length ∧ up ss (cl ss x) i * ls.length + k < vs.length ∧ up ss (cl ss x) i * ls.length + up ls (cl ls y) k < vs.length := by
  have ⟨e0, e1, e2, _⟩ := tab_get h
  have u0 := up_lt e0 hi
  have u1 := up_lt e1 hk
  rw [e2]
  exact ⟨idx_lt hi.1 hk.1, idx_lt hi.1 u1, idx_lt u0 hk.1, idx_lt u0 u1⟩
theorem tab_len16 {ss ls vs : List Int} (h : tabB ss ls vs = true) : vs.length ≤ 16 := by
  have ⟨e0, e1, e2, _⟩ := tab_get h
  have ⟨_, n0, _⟩ := ax_get e0
  have ⟨_, n1, _⟩ := ax_get e1
  rw [e2]
  exact Nat.le_trans (Nat.mul_le_mul n0 n1) (by omega)
theorem specLook_any (v0 v1 v2 : Value) (ss ls vs : List Int) (x y m : Int) (i k : Nat) (w : World) (h0 : IntS w w.heap.size v0 ss) (h1 : IntS w w.heap.size v1 ls) (h2 : IntS w w.heap.size v2 vs) (ht : tabB ss ls vs = true) (hi : IsLo ss (cl ss x) i) (hk : IsLo ls (cl ls y) k) :
    Calls Try.prog 65 #[.agg #[v0, v1, v2], .int .i64 x, .int .i64 y, .int .i64 m] w fun e w' => e = .returned (.int .i64 (qd (lkS ss ls vs x y i k) (lkW ss ls x y i k) m)) ∧ Below w.heap.size w w' := by
  have ⟨e0, e1, e2, e3⟩ := tab_get ht
  have ⟨_, n0, _⟩ := ax_get e0
  have ⟨_, n1, _⟩ := ax_get e1
  have n16 := tab_len16 ht
  have ⟨l00, l01, l10, l11⟩ := around_lt ht hi hk
  have ⟨a0, a1, b0, b1, _⟩ := w_bd e0 hi
  have ⟨c0, c1, d0, d1, _⟩ := w_bd e1 hk
  have hi1 := hi.1
  have hk1 := hk.1
  have hW0 := fun (w1 : World) (v : Value) (h : IntS w1 w1.heap.size v ss) => weights_any v ss x i w1 h e0 hi
  have hW1 := fun (w1 : World) (v : Value) (h : IntS w1 w1.heap.size v ls) => weights_any v ls y k w1 h e1 hk
  unfold lkS lkW
  rcases wt_cases e0 hi with ⟨B0, U0⟩ | ⟨B0, U0, N0⟩
  · rcases wt_cases e1 hk with ⟨D0, U1⟩ | ⟨D0, U1, N1⟩
    · rw [B0, D0, U0, U1]
      simp only [Int.mul_zero, Int.zero_mul, Int.add_zero]
      have h := look00 v0 v1 v2 ss ls vs x y m i k _ _ a0 a1 c0 c1 w h0 h1 h2 (by simpa only [B0] using hW0) (by simpa only [D0] using hW1) n16 n1 (by omega) (by omega) e3 l00
      simp only [Int.add_zero] at h
      exact h
    · rw [B0, U0, U1]
      rw [U1] at l01
      simp only [Int.mul_zero, Int.zero_mul, Int.add_zero]
      have h := look01 v0 v1 v2 ss ls vs x y m i k _ _ _ a0 a1 c0 c1 D0 d1 w h0 h1 h2 (by simpa only [B0] using hW0) hW1 n16 n1 (by omega) (by omega) e3 l00 l01
      simp only [Int.add_zero] at h
      exact h
  · rcases wt_cases e1 hk with ⟨D0, U1⟩ | ⟨D0, U1, N1⟩
    · rw [D0, U0, U1]
      rw [U0] at l10
      simp only [Int.mul_zero, Int.zero_mul, Int.add_zero]
      have h := look10 v0 v1 v2 ss ls vs x y m i k _ _ _ a0 a1 c0 c1 B0 b1 w h0 h1 h2 hW0 (by simpa only [D0] using hW1) n16 n1 (by omega) (by omega) e3 l00 l10
      simp only [Int.add_zero] at h
      exact h
    · rw [U0, U1]
      rw [U1] at l01 l11
      rw [U0] at l10 l11
      exact look11 v0 v1 v2 ss ls vs x y m i k _ _ _ _ a0 a1 c0 c1 B0 b1 D0 d1 w h0 h1 h2 hW0 hW1 n16 n1 (by omega) (by omega) e3 l00 l01 l10 l11
theorem specLookUp_any (v0 v1 v2 : Value) (ss ls vs : List Int) (x y m : Int) (w : World) (h0 : IntS w w.heap.size v0 ss) (h1 : IntS w w.heap.size v1 ls) (h2 : IntS w w.heap.size v2 vs) :
    Calls Try.prog 18 #[.agg #[v0, v1, v2], .int .i64 x, .int .i64 y, .int .i64 m] w fun e w' => e = .returned (.tuple #[.int .i64 (luV ss ls vs x y m), .int .i64 (luC ss ls vs m)]) ∧ Below w.heap.size w w' := by
  have H0 := Lib.hid h0; have H1 := Lib.hid h1; have H2 := Lib.hid h2
  obtain ⟨_, a0, c0, rfl, _⟩ := h0; obtain ⟨_, a1, c1, rfl, _⟩ := h1; obtain ⟨_, a2, c2, rfl, _⟩ := h2
  cases ht : tabB ss ls vs
  · have ⟨g1, g2⟩ := lu_no ht x y m
    rw [g1, g2]
    clear g1 g2
    go_enter Try.func18, Try.ntmps18
    go_wp2_with (go_at_call 23; refine (specIsTable_any _ _ _ _ _ _ _ (H0.out.up (by (repeat (first | (with_reducible exact Below.refl _ _) | (with_reducible assumption) | (with_reducible refine ext_alloc ?_ _) | (with_reducible refine ext_drew ?_) | (with_reducible refine ext_drewN ?_ _) | (with_reducible refine ext_set ?_ (by first | exact Nat.le_refl _ | (simp; done) | (simp; omega) | omega) _) | (with_reducible refine ext_trans ?_ (by assumption)))))) (H1.out.up (by (repeat (first | (with_reducible exact Below.refl _ _) | (with_reducible assumption) | (with_reducible refine ext_alloc ?_ _) | (with_reducible refine ext_drew ?_) | (with_reducible refine ext_drewN ?_ _) | (with_reducible refine ext_set ?_ (by first | exact Nat.le_refl _ | (simp; done) | (simp; omega) | omega) _) | (with_reducible refine ext_trans ?_ (by assumption)))))) (H2.out.up (by (repeat (first | (with_reducible exact Below.refl _ _) | (with_reducible assumption) | (with_reducible refine ext_alloc ?_ _) | (with_reducible refine ext_drew ?_) | (with_reducible refine ext_drewN ?_ _) | (with_reducible refine ext_set ?_ (by first | exact Nat.le_refl _ | (simp; done) | (simp; omega) | omega) _) | (with_reducible refine ext_trans ?_ (by assumption))))))).mono ?_; rintro e w1 ⟨rfl, hb⟩; obtain ⟨hc, hf⟩ := bcell hb; have hz := hb.size; (try simp at hz); (try (have hz := Nat.lt_of_succ_le hz)); (try (have y0 : w.heap.size ≤ w1.heap.size := by omega)); (try (have z0 : w.heap.size < w1.heap.size := by omega)); (try (have z1 : w.heap.size + 1 < w1.heap.size := by omega)); (try (have z2 : w.heap.size + 1 + 1 < w1.heap.size := by omega)); (try (have z3 : w.heap.size + 1 + 1 + 1 < w1.heap.size := by omega)); (try (have z4 : w.heap.size + 1 + 1 + 1 + 1 < w1.heap.size := by omega)); (try (have x0 : wc.heap.size < w1.heap.size := by omega)); (try (have x1 : wc.heap.size ≤ w1.heap.size := by omega)))
    go_ret2
    exact ⟨rfl, by (repeat (first | (with_reducible exact Below.refl _ _) | (with_reducible assumption) | (with_reducible refine ext_alloc ?_ _) | (with_reducible refine ext_drew ?_) | (with_reducible refine ext_drewN ?_ _) | (with_reducible refine ext_set ?_ (by first | exact Nat.le_refl _ | (simp; done) | (simp; omega) | omega) _) | (with_reducible refine ext_trans ?_ (by assumption))))⟩
  · cases hm : isM m
    · have ⟨g1, g2⟩ := lu_bad ht hm x y
      rw [g1, g2]
      clear g1 g2
      go_enter Try.func18, Try.ntmps18
      go_wp2_with (first
        | (go_at_call 23; refine (specIsTable_any _ _ _ _ _ _ _ (H0.out.up (by (repeat (first | (with_reducible exact Below.refl _ _) | (with_reducible assumption) | (with_reducible refine ext_alloc ?_ _) | (with_reducible refine ext_drew ?_) | (with_reducible refine ext_drewN ?_ _) | (with_reducible refine ext_set ?_ (by first | exact Nat.le_refl _ | (simp; done) | (simp; omega) | omega) _) | (with_reducible refine ext_trans ?_ (by assumption)))))) (H1.out.up (by (repeat (first | (with_reducible exact Below.refl _ _) | (with_reducible assumption) | (with_reducible refine ext_alloc ?_ _) | (with_reducible refine ext_drew ?_) | (with_reducible refine ext_drewN ?_ _) | (with_reducible refine ext_set ?_ (by first | exact Nat.le_refl _ | (simp; done) | (simp; omega) | omega) _) | (with_reducible refine ext_trans ?_ (by assumption)))))) (H2.out.up (by (repeat (first | (with_reducible exact Below.refl _ _) | (with_reducible assumption) | (with_reducible refine ext_alloc ?_ _) | (with_reducible refine ext_drew ?_) | (with_reducible refine ext_drewN ?_ _) | (with_reducible refine ext_set ?_ (by first | exact Nat.le_refl _ | (simp; done) | (simp; omega) | omega) _) | (with_reducible refine ext_trans ?_ (by assumption))))))).mono ?_; rintro e w1 ⟨rfl, hb⟩; obtain ⟨hc, hf⟩ := bcell hb; have hz := hb.size; (try simp at hz); (try (have hz := Nat.lt_of_succ_le hz)); (try (have y0 : w.heap.size ≤ w1.heap.size := by omega)); (try (have z0 : w.heap.size < w1.heap.size := by omega)); (try (have z1 : w.heap.size + 1 < w1.heap.size := by omega)); (try (have z2 : w.heap.size + 1 + 1 < w1.heap.size := by omega)); (try (have z3 : w.heap.size + 1 + 1 + 1 < w1.heap.size := by omega)); (try (have z4 : w.heap.size + 1 + 1 + 1 + 1 < w1.heap.size := by omega)); (try (have x0 : wc.heap.size < w1.heap.size := by omega)); (try (have x1 : wc.heap.size ≤ w1.heap.size := by omega)))
        | (go_at_call 64; refine (l01Mode_any _ _).mono ?_; rintro e w1 ⟨rfl, rfl⟩))
      go_ret2
      exact ⟨rfl, by (repeat (first | (with_reducible exact Below.refl _ _) | (with_reducible assumption) | (with_reducible refine ext_alloc ?_ _) | (with_reducible refine ext_drew ?_) | (with_reducible refine ext_drewN ?_ _) | (with_reducible refine ext_set ?_ (by first | exact Nat.le_refl _ | (simp; done) | (simp; omega) | omega) _) | (with_reducible refine ext_trans ?_ (by assumption))))⟩
    · have ⟨g1, g2⟩ := lu_yes ht hm x y
      rw [g1, g2]
      clear g1 g2
      have L0 := Lib.hid (loI_spec (tab_get ht).1 x)
      have L1 := Lib.hid (loI_spec (tab_get ht).2.1 y)
      have HT := Lib.hid ht
      go_enter Try.func18, Try.ntmps18
      go_wp2_with (first
        | (go_at_call 23; refine (specIsTable_any _ _ _ _ _ _ _ (H0.out.up (by (repeat (first | (with_reducible exact Below.refl _ _) | (with_reducible assumption) | (with_reducible refine ext_alloc ?_ _) | (with_reducible refine ext_drew ?_) | (with_reducible refine ext_drewN ?_ _) | (with_reducible refine ext_set ?_ (by first | exact Nat.le_refl _ | (simp; done) | (simp; omega) | omega) _) | (with_reducible refine ext_trans ?_ (by assumption)))))) (H1.out.up (by (repeat (first | (with_reducible exact Below.refl _ _) | (with_reducible assumption) | (with_reducible refine ext_alloc ?_ _) | (with_reducible refine ext_drew ?_) | (with_reducible refine ext_drewN ?_ _) | (with_reducible refine ext_set ?_ (by first | exact Nat.le_refl _ | (simp; done) | (simp; omega) | omega) _) | (with_reducible refine ext_trans ?_ (by assumption)))))) (H2.out.up (by (repeat (first | (with_reducible exact Below.refl _ _) | (with_reducible assumption) | (with_reducible refine ext_alloc ?_ _) | (with_reducible refine ext_drew ?_) | (with_reducible refine ext_drewN ?_ _) | (with_reducible refine ext_set ?_ (by first | exact Nat.le_refl _ | (simp; done) | (simp; omega) | omega) _) | (with_reducible refine ext_trans ?_ (by assumption))))))).mono ?_; rintro e w1 ⟨rfl, hb⟩; obtain ⟨hc, hf⟩ := bcell hb; have hz := hb.size; (try simp at hz); (try (have hz := Nat.lt_of_succ_le hz)); (try (have y0 : w.heap.size ≤ w1.heap.size := by omega)); (try (have z0 : w.heap.size < w1.heap.size := by omega)); (try (have z1 : w.heap.size + 1 < w1.heap.size := by omega)); (try (have z2 : w.heap.size + 1 + 1 < w1.heap.size := by omega)); (try (have z3 : w.heap.size + 1 + 1 + 1 < w1.heap.size := by omega)); (try (have z4 : w.heap.size + 1 + 1 + 1 + 1 < w1.heap.size := by omega)); (try (have x0 : wc.heap.size < w1.heap.size := by omega)); (try (have x1 : wc.heap.size ≤ w1.heap.size := by omega)))
        | (go_at_call 64; refine (l01Mode_any _ _).mono ?_; rintro e w1 ⟨rfl, rfl⟩)
        | (go_at_call 65; refine (specLook_any _ _ _ _ _ _ _ _ _ _ _ _ (H0.out.up (by (repeat (first | (with_reducible exact Below.refl _ _) | (with_reducible assumption) | (with_reducible refine ext_alloc ?_ _) | (with_reducible refine ext_drew ?_) | (with_reducible refine ext_drewN ?_ _) | (with_reducible refine ext_set ?_ (by first | exact Nat.le_refl _ | (simp; done) | (simp; omega) | omega) _) | (with_reducible refine ext_trans ?_ (by assumption)))))) (H1.out.up (by (repeat (first | (with_reducible exact Below.refl _ _) | (with_reducible assumption) | (with_reducible refine ext_alloc ?_ _) | (with_reducible refine ext_drew ?_) | (with_reducible refine ext_drewN ?_ _) | (with_reducible refine ext_set ?_ (by first | exact Nat.le_refl _ | (simp; done) | (simp; omega) | omega) _) | (with_reducible refine ext_trans ?_ (by assumption)))))) (H2.out.up (by (repeat (first | (with_reducible exact Below.refl _ _) | (with_reducible assumption) | (with_reducible refine ext_alloc ?_ _) | (with_reducible refine ext_drew ?_) | (with_reducible refine ext_drewN ?_ _) | (with_reducible refine ext_set ?_ (by first | exact Nat.le_refl _ | (simp; done) | (simp; omega) | omega) _) | (with_reducible refine ext_trans ?_ (by assumption)))))) HT.out L0.out L1.out).mono ?_; rintro e w2 ⟨rfl, hb2⟩))
      go_ret2
      exact ⟨rfl, by (repeat (first | (with_reducible exact Below.refl _ _) | (with_reducible assumption) | (with_reducible refine ext_alloc ?_ _) | (with_reducible refine ext_drew ?_) | (with_reducible refine ext_drewN ?_ _) | (with_reducible refine ext_set ?_ (by first | exact Nat.le_refl _ | (simp; done) | (simp; omega) | omega) _) | (with_reducible refine ext_trans ?_ (by assumption))))⟩
theorem implLookUp_any (v0 v1 v2 : Value) (ss ls vs : List Int) (x y m : Int) (w : World) (h0 : IntS w w.heap.size v0 ss) (h1 : IntS w w.heap.size v1 ls) (h2 : IntS w w.heap.size v2 vs) :
    Calls Try.prog 17 #[.agg #[v0, v1, v2], .int .i64 x, .int .i64 y, .int .i64 m] w fun e w' => e = .returned (.tuple #[.int .i64 (luV ss ls vs x y m), .int .i64 (luC ss ls vs m)]) ∧ Below w.heap.size w w' := by
  cases ht : tabB ss ls vs
  · have ⟨g1, g2⟩ := lu_no ht x y m
    rw [g1, g2]
    clear g1 g2
    have H0 := Lib.hid h0; have H1 := Lib.hid h1; have H2 := Lib.hid h2
    obtain ⟨_, a0, c0, rfl, _⟩ := h0; obtain ⟨_, a1, c1, rfl, _⟩ := h1; obtain ⟨_, a2, c2, rfl, _⟩ := h2
    go_enter Try.func17, Try.ntmps17
    go_wp2_with (go_at_call 58; refine (implIsTable_any _ _ _ _ _ _ _ (H0.out.up (by (repeat (first | (with_reducible exact Below.refl _ _) | (with_reducible assumption) | (with_reducible refine ext_alloc ?_ _) | (with_reducible refine ext_drew ?_) | (with_reducible refine ext_drewN ?_ _) | (with_reducible refine ext_set ?_ (by first | exact Nat.le_refl _ | (simp; done) | (simp; omega) | omega) _) | (with_reducible refine ext_trans ?_ (by assumption)))))) (H1.out.up (by (repeat (first | (with_reducible exact Below.refl _ _) | (with_reducible assumption) | (with_reducible refine ext_alloc ?_ _) | (with_reducible refine ext_drew ?_) | (with_reducible refine ext_drewN ?_ _) | (with_reducible refine ext_set ?_ (by first | exact Nat.le_refl _ | (simp; done) | (simp; omega) | omega) _) | (with_reducible refine ext_trans ?_ (by assumption)))))) (H2.out.up (by (repeat (first | (with_reducible exact Below.refl _ _) | (with_reducible assumption) | (with_reducible refine ext_alloc ?_ _) | (with_reducible refine ext_drew ?_) | (with_reducible refine ext_drewN ?_ _) | (with_reducible refine ext_set ?_ (by first | exact Nat.le_refl _ | (simp; done) | (simp; omega) | omega) _) | (with_reducible refine ext_trans ?_ (by assumption))))))).mono ?_; rintro e w1 ⟨rfl, hb⟩; obtain ⟨hc, hf⟩ := bcell hb; have hz := hb.size; (try simp at hz); (try (have hz := Nat.lt_of_succ_le hz)); (try (have y0 : w.heap.size ≤ w1.heap.size := by omega)); (try (have z0 : w.heap.size < w1.heap.size := by omega)); (try (have z1 : w.heap.size + 1 < w1.heap.size := by omega)); (try (have z2 : w.heap.size + 1 + 1 < w1.heap.size := by omega)); (try (have z3 : w.heap.size + 1 + 1 + 1 < w1.heap.size := by omega)); (try (have z4 : w.heap.size + 1 + 1 + 1 + 1 < w1.heap.size := by omega)); (try (have x0 : wc.heap.size < w1.heap.size := by omega)); (try (have x1 : wc.heap.size ≤ w1.heap.size := by omega)))
    go_ret2
    exact ⟨rfl, by (repeat (first | (with_reducible exact Below.refl _ _) | (with_reducible assumption) | (with_reducible refine ext_alloc ?_ _) | (with_reducible refine ext_drew ?_) | (with_reducible refine ext_drewN ?_ _) | (with_reducible refine ext_set ?_ (by first | exact Nat.le_refl _ | (simp; done) | (simp; omega) | omega) _) | (with_reducible refine ext_trans ?_ (by assumption))))⟩
  · cases hm : isM m
    · have ⟨g1, g2⟩ := lu_bad ht hm x y
      rw [g1, g2]
      clear g1 g2
      have H0 := Lib.hid h0; have H1 := Lib.hid h1; have H2 := Lib.hid h2
      obtain ⟨_, a0, c0, rfl, _⟩ := h0; obtain ⟨_, a1, c1, rfl, _⟩ := h1; obtain ⟨_, a2, c2, rfl, _⟩ := h2
      go_enter Try.func17, Try.ntmps17
      go_wp2_with (first
        | (go_at_call 58; refine (implIsTable_any _ _ _ _ _ _ _ (H0.out.up (by (repeat (first | (with_reducible exact Below.refl _ _) | (with_reducible assumption) | (with_reducible refine ext_alloc ?_ _) | (with_reducible refine ext_drew ?_) | (with_reducible refine ext_drewN ?_ _) | (with_reducible refine ext_set ?_ (by first | exact Nat.le_refl _ | (simp; done) | (simp; omega) | omega) _) | (with_reducible refine ext_trans ?_ (by assumption)))))) (H1.out.up (by (repeat (first | (with_reducible exact Below.refl _ _) | (with_reducible assumption) | (with_reducible refine ext_alloc ?_ _) | (with_reducible refine ext_drew ?_) | (with_reducible refine ext_drewN ?_ _) | (with_reducible refine ext_set ?_ (by first | exact Nat.le_refl _ | (simp; done) | (simp; omega) | omega) _) | (with_reducible refine ext_trans ?_ (by assumption)))))) (H2.out.up (by (repeat (first | (with_reducible exact Below.refl _ _) | (with_reducible assumption) | (with_reducible refine ext_alloc ?_ _) | (with_reducible refine ext_drew ?_) | (with_reducible refine ext_drewN ?_ _) | (with_reducible refine ext_set ?_ (by first | exact Nat.le_refl _ | (simp; done) | (simp; omega) | omega) _) | (with_reducible refine ext_trans ?_ (by assumption))))))).mono ?_; rintro e w1 ⟨rfl, hb⟩; obtain ⟨hc, hf⟩ := bcell hb; have hz := hb.size; (try simp at hz); (try (have hz := Nat.lt_of_succ_le hz)); (try (have y0 : w.heap.size ≤ w1.heap.size := by omega)); (try (have z0 : w.heap.size < w1.heap.size := by omega)); (try (have z1 : w.heap.size + 1 < w1.heap.size := by omega)); (try (have z2 : w.heap.size + 1 + 1 < w1.heap.size := by omega)); (try (have z3 : w.heap.size + 1 + 1 + 1 < w1.heap.size := by omega)); (try (have z4 : w.heap.size + 1 + 1 + 1 + 1 < w1.heap.size := by omega)); (try (have x0 : wc.heap.size < w1.heap.size := by omega)); (try (have x1 : wc.heap.size ≤ w1.heap.size := by omega)))
        | (go_at_call 59; refine (isMode_any _ _).mono ?_; rintro e w1 ⟨rfl, rfl⟩))
      go_ret2
      exact ⟨rfl, by (repeat (first | (with_reducible exact Below.refl _ _) | (with_reducible assumption) | (with_reducible refine ext_alloc ?_ _) | (with_reducible refine ext_drew ?_) | (with_reducible refine ext_drewN ?_ _) | (with_reducible refine ext_set ?_ (by first | exact Nat.le_refl _ | (simp; done) | (simp; omega) | omega) _) | (with_reducible refine ext_trans ?_ (by assumption))))⟩
    · have ⟨g1, g2⟩ := lu_yes ht hm x y
      rw [g1, g2]
      have ⟨e0, e1, e2, e3⟩ := tab_get ht
      have hi := loI_spec e0 x
      have hk := loI_spec e1 y
      have ⟨l00, l01, l10, l11⟩ := around_lt ht hi hk
      have ⟨a0, a1, b0, b1, _⟩ := w_bd e0 hi
      have ⟨c0, c1, d0, d1, _⟩ := w_bd e1 hk
      exact implLook_c v0 v1 v2 ss ls vs x y m (loI ss x) (loI ls y) _ _ _ _ _ _ _ _ _ _ w h0 h1 h2 ht hm (fun w1 h => point_any v0 ss x _ w1 h e0 hi) (fun w1 h => point_any v1 ls y _ w1 h e1 hk) l00 l01 l10 l11 rfl rfl rfl rfl a0 a1 b0 b1 c0 c1 d0 d1 (e3 _ l00) (e3 _ l01) (e3 _ l10) (e3 _ l11)
end Go.Proofs.Ytckccpcigkbfmaa
