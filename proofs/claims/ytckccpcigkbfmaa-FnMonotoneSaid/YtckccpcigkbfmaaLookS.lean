/-
The contract of the model's LookUp, for all arguments.
-/
import Derived.Test.YtckccpcigkbfmaaLook
namespace Go.Proofs.Ytckccpcigkbfmaa
open Go.ChangeShapes Go.WideShapes Go.ChangeAt Go.RowKit
set_option linter.unusedVariables false
theorem pr_bd {p q A B : Int} (p0 : 0 ≤ p) (p1 : p ≤ A) (q0 : 0 ≤ q) (q1 : q ≤ B) : 0 ≤ p * q ∧ p * q ≤ A * B := ⟨Int.mul_nonneg p0 q0, Int.mul_le_mul p1 q1 q0 (by omega)⟩
theorem tr_bd {p q v : Int} (p0 : 0 ≤ p) (p1 : p ≤ 100000) (q0 : 0 ≤ q) (q1 : q ≤ 100000) (h : -1000000 ≤ v ∧ v ≤ 1000000) : -10000000000000000 ≤ p * q * v ∧ p * q * v ≤ 10000000000000000 :=
  prod_bd (A := 100000) (B := 100000) (V := 1000000) p0 p1 q0 q1 h.1 h.2 (by omega) (by omega) (by omega)
theorem wt_cases {xs : List Int} (h : axB xs = true) {x : Int} {i : Nat} (hi : IsLo xs (cl xs x) i) :
    (wB xs (cl xs x) i = 0 ∧ up xs (cl xs x) i = i) ∨ (0 < wB xs (cl xs x) i ∧ up xs (cl xs x) i = i + 1 ∧ i + 1 < xs.length) := by
  unfold wB up
  by_cases e : cl xs x = iv xs i
  · exact .inl (by simp [e])
  · rw [if_neg e, if_neg e]
    have := hi.2.1
    exact .inr ⟨by omega, rfl, lo_next h hi e⟩
set_option maxHeartbeats 4000000 in
theorem look00 (v0 v1 v2 : Value) (ss ls vs : List Int) (x y m : Int) (i k : Nat) (a c : Int) (a0 : 0 < a) (a1 : a ≤ 100000) (c0 : 0 < c) (c1 : c ≤ 100000) (w : World) (h0 : IntS w w.heap.size v0 ss) (h1 : IntS w w.heap.size v1 ls) (h2 : IntS w w.heap.size v2 vs)
    (hW0 : (∀ (w : World) (v : Value), IntS w w.heap.size v ss → Calls Try.prog 116 #[v, .int .i64 x] w fun e w' => e = .returned (.tuple #[.int .i64 i, .int .i64 a, .int .i64 0]) ∧ ∃ n, w' = w.drewN n)) (hW1 : (∀ (w : World) (v : Value), IntS w w.heap.size v ls → Calls Try.prog 116 #[v, .int .i64 y] w fun e w' => e = .returned (.tuple #[.int .i64 k, .int .i64 c, .int .i64 0]) ∧ ∃ n, w' = w.drewN n))
    (hn16 : vs.length ≤ 16) (hl4 : ls.length ≤ 4) (i4 : i < 4) (k4 : k < 4) (hv : ∀ j, j < vs.length → -1000000 ≤ iv vs j ∧ iv vs j ≤ 1000000) (l00 : i * ls.length + k < vs.length) :
    Calls Try.prog 65 #[.agg #[v0, v1, v2], .int .i64 x, .int .i64 y, .int .i64 m] w fun e w' => e = .returned (.int .i64 (qd (a * c * iv vs (i * ls.length + k)) ((a + 0) * (c + 0)) m)) ∧ Below w.heap.size w w' := by
  have H0 := Lib.hid h0; have H1 := Lib.hid h1
  obtain ⟨_, s0, t0, rfl, _⟩ := h0; obtain ⟨_, s1, t1, rfl, _⟩ := h1; obtain ⟨hn, s2, t2, rfl, hx0⟩ := h2
  obtain ⟨g, off, rfl, hlt, hx⟩ := hx0 (by omega)
  have y00 := hx _ l00
  have v00 := hv _ l00
  clear hx hx0 hv
  have HW0 := Lib.hid hW0; have HW1 := Lib.hid hW1
  clear hW0 hW1
  have hq0 : (i : Int) * (ls.length : Int) = ((i * ls.length : Nat) : Int) := by simp
  have hq1 : ((i : Int) + 1) * (ls.length : Int) = (((i + 1) * ls.length : Nat) : Int) := by simp
  obtain ⟨q0, hq0'⟩ : ∃ q, q = i * ls.length := ⟨_, rfl⟩
  obtain ⟨q1, hq1'⟩ : ∃ q, q = (i + 1) * ls.length := ⟨_, rfl⟩
  rw [← hq0'] at hq0 l00 y00 v00 ⊢
  rw [← hq1'] at hq1
  clear hq0' hq1'
  obtain ⟨V00, hV00⟩ : ∃ V, V = iv vs (q0 + k) := ⟨_, rfl⟩
  rw [← hV00] at y00 v00 ⊢
  clear hV00
  have lI00 : ((q0 : Int) + (k : Int)) < (vs.length : Int) := by omega
  have ⟨m00, n00⟩ := pr_bd (p := a) (q := c) (A := 100000) (B := 100000) (by omega) (by omega) (by omega) (by omega)
  have z00 : 0 < a * c := Int.mul_pos (by omega) (by omega)
  have ⟨o00, p00⟩ := tr_bd (p := a) (q := c) (by omega) (by omega) (by omega) (by omega) v00
  have W0 : 0 < (a + 0) * (c + 0) := Int.mul_pos (by omega) (by omega)
  have ⟨_, W1⟩ := pr_bd (p := a + 0) (q := c + 0) (A := 200000) (B := 200000) (by omega) (by omega) (by omega) (by omega)
  have W2 : (a + 0) * (c + 0) ≤ 40000000000 := by omega
  rw [Int.add_zero, Int.add_zero] at W0 W2 ⊢
  go_enter Try.func65, Try.ntmps65
  go_wp2_with fail
  go_at_call 116
  refine (HW0.out _ _ (H0.out.keep (by (repeat (first | (with_reducible exact Below.refl _ _) | (with_reducible assumption) | (with_reducible refine ext_alloc ?_ _) | (with_reducible refine ext_drew ?_) | (with_reducible refine ext_drewN ?_ _) | (with_reducible refine ext_set ?_ (by first | exact Nat.le_refl _ | (simp; done) | (simp; omega) | omega) _) | (with_reducible refine ext_trans ?_ (by assumption))))) (by first | omega | (simp; done) | (simp; omega)))).mono ?_
  rintro e w1 ⟨rfl, n1, rfl⟩
  go_wp2_with fail
  go_at_call 116
  refine (HW1.out _ _ (H1.out.keep (by (repeat (first | (with_reducible exact Below.refl _ _) | (with_reducible assumption) | (with_reducible refine ext_alloc ?_ _) | (with_reducible refine ext_drew ?_) | (with_reducible refine ext_drewN ?_ _) | (with_reducible refine ext_set ?_ (by first | exact Nat.le_refl _ | (simp; done) | (simp; omega) | omega) _) | (with_reducible refine ext_trans ?_ (by assumption))))) (by first | omega | (simp; done) | (simp; omega)))).mono ?_
  rintro e w1 ⟨rfl, n2, rfl⟩
  go_wp2_with fail
  go_loop [16, 17] (fun s u => (u = .int .i64 0 ∧ s = .int .i64 (0)) ∨ (u = .int .i64 1 ∧ s = .int .i64 (a * c * V00)) ∨ (u = .int .i64 2 ∧ s = .int .i64 (a * c * V00))) (fun _ u => 2 - (intOf u).toNat)
  case atStart => exact .inl ⟨rfl, rfl⟩
  case round =>
    rcases hrel with ⟨rfl, rfl⟩ | ⟨rfl, rfl⟩ | ⟨rfl, rfl⟩
    · go_wp2_with fail
      go_loop [16, 18] (fun s u => (u = .int .i64 0 ∧ s = .int .i64 (0)) ∨ (u = .int .i64 1 ∧ s = .int .i64 (a * c * V00)) ∨ (u = .int .i64 2 ∧ s = .int .i64 (a * c * V00))) (fun _ u => 2 - (intOf u).toNat)
      case atStart => exact .inl ⟨rfl, rfl⟩
      case round =>
        rcases hrel with ⟨rfl, rfl⟩ | ⟨rfl, rfl⟩ | ⟨rfl, rfl⟩
        · go_wp2
          go_round
          case rel => first | exact .inr (.inl ⟨rfl, rfl⟩) | exact .inr (.inl ⟨rfl, by simp⟩)
          case measure => simp [intOf]
        · go_wp2
          go_round
          case rel => first | exact .inr (.inr ⟨rfl, rfl⟩) | exact .inr (.inr ⟨rfl, by simp⟩)
          case measure => simp [intOf]
        · go_wp2
          go_round
          case rel => exact .inr (.inl ⟨rfl, rfl⟩)
          case measure => simp [intOf]
    · go_wp2_with fail
      go_loop [16, 18] (fun s u => (u = .int .i64 0 ∧ s = .int .i64 (a * c * V00)) ∨ (u = .int .i64 1 ∧ s = .int .i64 (a * c * V00)) ∨ (u = .int .i64 2 ∧ s = .int .i64 (a * c * V00))) (fun _ u => 2 - (intOf u).toNat)
      case atStart => exact .inl ⟨rfl, rfl⟩
      case round =>
        rcases hrel with ⟨rfl, rfl⟩ | ⟨rfl, rfl⟩ | ⟨rfl, rfl⟩
        · go_wp2
          go_round
          case rel => first | exact .inr (.inl ⟨rfl, rfl⟩) | exact .inr (.inl ⟨rfl, by simp⟩)
          case measure => simp [intOf]
        · go_wp2
          go_round
          case rel => first | exact .inr (.inr ⟨rfl, rfl⟩) | exact .inr (.inr ⟨rfl, by simp⟩)
          case measure => simp [intOf]
        · go_wp2
          go_round
          case rel => exact .inr (.inr ⟨rfl, rfl⟩)
          case measure => simp [intOf]
    · go_wp2_with (go_at_call 117; refine (l01Div_any _ _ _ _ (by omega) (by omega) (by omega)).mono ?_; rintro e w' ⟨rfl, rfl⟩)
      go_ret
      exact ⟨rfl, by (repeat (first | (with_reducible exact Below.refl _ _) | (with_reducible assumption) | (with_reducible refine ext_alloc ?_ _) | (with_reducible refine ext_drew ?_) | (with_reducible refine ext_drewN ?_ _) | (with_reducible refine ext_set ?_ (by first | exact Nat.le_refl _ | (simp; done) | (simp; omega) | omega) _) | (with_reducible refine ext_trans ?_ (by assumption))))⟩
set_option maxHeartbeats 4000000 in
theorem look11 (v0 v1 v2 : Value) (ss ls vs : List Int) (x y m : Int) (i k : Nat) (a c b d : Int) (a0 : 0 < a) (a1 : a ≤ 100000) (c0 : 0 < c) (c1 : c ≤ 100000) (b0 : 0 < b) (b1 : b ≤ 100000) (d0 : 0 < d) (d1 : d ≤ 100000) (w : World) (h0 : IntS w w.heap.size v0 ss) (h1 : IntS w w.heap.size v1 ls) (h2 : IntS w w.heap.size v2 vs)
    (hW0 : (∀ (w : World) (v : Value), IntS w w.heap.size v ss → Calls Try.prog 116 #[v, .int .i64 x] w fun e w' => e = .returned (.tuple #[.int .i64 i, .int .i64 a, .int .i64 b]) ∧ ∃ n, w' = w.drewN n)) (hW1 : (∀ (w : World) (v : Value), IntS w w.heap.size v ls → Calls Try.prog 116 #[v, .int .i64 y] w fun e w' => e = .returned (.tuple #[.int .i64 k, .int .i64 c, .int .i64 d]) ∧ ∃ n, w' = w.drewN n))
    (hn16 : vs.length ≤ 16) (hl4 : ls.length ≤ 4) (i4 : i < 4) (k4 : k < 4) (hv : ∀ j, j < vs.length → -1000000 ≤ iv vs j ∧ iv vs j ≤ 1000000) (l00 : i * ls.length + k < vs.length) (l01 : i * ls.length + k + 1 < vs.length) (l10 : (i + 1) * ls.length + k < vs.length) (l11 : (i + 1) * ls.length + k + 1 < vs.length) :
    Calls Try.prog 65 #[.agg #[v0, v1, v2], .int .i64 x, .int .i64 y, .int .i64 m] w fun e w' => e = .returned (.int .i64 (qd (a * c * iv vs (i * ls.length + k) + a * d * iv vs (i * ls.length + k + 1) + b * c * iv vs ((i + 1) * ls.length + k) + b * d * iv vs ((i + 1) * ls.length + k + 1)) ((a + b) * (c + d)) m)) ∧ Below w.heap.size w w' := by
  have H0 := Lib.hid h0; have H1 := Lib.hid h1
  obtain ⟨_, s0, t0, rfl, _⟩ := h0; obtain ⟨_, s1, t1, rfl, _⟩ := h1; obtain ⟨hn, s2, t2, rfl, hx0⟩ := h2
  obtain ⟨g, off, rfl, hlt, hx⟩ := hx0 (by omega)
  have y00 := hx _ l00
  have v00 := hv _ l00
  have y01 := hx _ l01
  have v01 := hv _ l01
  have y10 := hx _ l10
  have v10 := hv _ l10
  have y11 := hx _ l11
  have v11 := hv _ l11
  clear hx hx0 hv
  have HW0 := Lib.hid hW0; have HW1 := Lib.hid hW1
  clear hW0 hW1
  have hq0 : (i : Int) * (ls.length : Int) = ((i * ls.length : Nat) : Int) := by simp
  have hq1 : ((i : Int) + 1) * (ls.length : Int) = (((i + 1) * ls.length : Nat) : Int) := by simp
  obtain ⟨q0, hq0'⟩ : ∃ q, q = i * ls.length := ⟨_, rfl⟩
  obtain ⟨q1, hq1'⟩ : ∃ q, q = (i + 1) * ls.length := ⟨_, rfl⟩
  rw [← hq0'] at hq0 l00 y00 v00 l01 y01 v01 ⊢
  rw [← hq1'] at hq1 l10 y10 v10 l11 y11 v11 ⊢
  clear hq0' hq1'
  obtain ⟨V00, hV00⟩ : ∃ V, V = iv vs (q0 + k) := ⟨_, rfl⟩
  rw [← hV00] at y00 v00 ⊢
  clear hV00
  have lI00 : ((q0 : Int) + (k : Int)) < (vs.length : Int) := by omega
  obtain ⟨V01, hV01⟩ : ∃ V, V = iv vs (q0 + k + 1) := ⟨_, rfl⟩
  rw [← hV01] at y01 v01 ⊢
  clear hV01
  have lI01 : ((q0 : Int) + (k : Int) + 1) < (vs.length : Int) := by omega
  obtain ⟨V10, hV10⟩ : ∃ V, V = iv vs (q1 + k) := ⟨_, rfl⟩
  rw [← hV10] at y10 v10 ⊢
  clear hV10
  have lI10 : ((q1 : Int) + (k : Int)) < (vs.length : Int) := by omega
  obtain ⟨V11, hV11⟩ : ∃ V, V = iv vs (q1 + k + 1) := ⟨_, rfl⟩
  rw [← hV11] at y11 v11 ⊢
  clear hV11
  have lI11 : ((q1 : Int) + (k : Int) + 1) < (vs.length : Int) := by omega
  have ⟨m00, n00⟩ := pr_bd (p := a) (q := c) (A := 100000) (B := 100000) (by omega) (by omega) (by omega) (by omega)
  have z00 : 0 < a * c := Int.mul_pos (by omega) (by omega)
  have ⟨o00, p00⟩ := tr_bd (p := a) (q := c) (by omega) (by omega) (by omega) (by omega) v00
  have ⟨m01, n01⟩ := pr_bd (p := a) (q := d) (A := 100000) (B := 100000) (by omega) (by omega) (by omega) (by omega)
  have z01 : 0 < a * d := Int.mul_pos (by omega) (by omega)
  have ⟨o01, p01⟩ := tr_bd (p := a) (q := d) (by omega) (by omega) (by omega) (by omega) v01
  have ⟨m10, n10⟩ := pr_bd (p := b) (q := c) (A := 100000) (B := 100000) (by omega) (by omega) (by omega) (by omega)
  have z10 : 0 < b * c := Int.mul_pos (by omega) (by omega)
  have ⟨o10, p10⟩ := tr_bd (p := b) (q := c) (by omega) (by omega) (by omega) (by omega) v10
  have ⟨m11, n11⟩ := pr_bd (p := b) (q := d) (A := 100000) (B := 100000) (by omega) (by omega) (by omega) (by omega)
  have z11 : 0 < b * d := Int.mul_pos (by omega) (by omega)
  have ⟨o11, p11⟩ := tr_bd (p := b) (q := d) (by omega) (by omega) (by omega) (by omega) v11
  have W0 : 0 < (a + b) * (c + d) := Int.mul_pos (by omega) (by omega)
  have ⟨_, W1⟩ := pr_bd (p := a + b) (q := c + d) (A := 200000) (B := 200000) (by omega) (by omega) (by omega) (by omega)
  have W2 : (a + b) * (c + d) ≤ 40000000000 := by omega
  go_enter Try.func65, Try.ntmps65
  go_wp2_with fail
  go_at_call 116
  refine (HW0.out _ _ (H0.out.keep (by (repeat (first | (with_reducible exact Below.refl _ _) | (with_reducible assumption) | (with_reducible refine ext_alloc ?_ _) | (with_reducible refine ext_drew ?_) | (with_reducible refine ext_drewN ?_ _) | (with_reducible refine ext_set ?_ (by first | exact Nat.le_refl _ | (simp; done) | (simp; omega) | omega) _) | (with_reducible refine ext_trans ?_ (by assumption))))) (by first | omega | (simp; done) | (simp; omega)))).mono ?_
  rintro e w1 ⟨rfl, n1, rfl⟩
  go_wp2_with fail
  go_at_call 116
  refine (HW1.out _ _ (H1.out.keep (by (repeat (first | (with_reducible exact Below.refl _ _) | (with_reducible assumption) | (with_reducible refine ext_alloc ?_ _) | (with_reducible refine ext_drew ?_) | (with_reducible refine ext_drewN ?_ _) | (with_reducible refine ext_set ?_ (by first | exact Nat.le_refl _ | (simp; done) | (simp; omega) | omega) _) | (with_reducible refine ext_trans ?_ (by assumption))))) (by first | omega | (simp; done) | (simp; omega)))).mono ?_
  rintro e w1 ⟨rfl, n2, rfl⟩
  go_wp2_with fail
  go_loop [16, 17] (fun s u => (u = .int .i64 0 ∧ s = .int .i64 (0)) ∨ (u = .int .i64 1 ∧ s = .int .i64 (a * c * V00 + a * d * V01)) ∨ (u = .int .i64 2 ∧ s = .int .i64 (a * c * V00 + a * d * V01 + b * c * V10 + b * d * V11))) (fun _ u => 2 - (intOf u).toNat)
  case atStart => exact .inl ⟨rfl, rfl⟩
  case round =>
    rcases hrel with ⟨rfl, rfl⟩ | ⟨rfl, rfl⟩ | ⟨rfl, rfl⟩
    · go_wp2_with fail
      go_loop [16, 18] (fun s u => (u = .int .i64 0 ∧ s = .int .i64 (0)) ∨ (u = .int .i64 1 ∧ s = .int .i64 (a * c * V00)) ∨ (u = .int .i64 2 ∧ s = .int .i64 (a * c * V00 + a * d * V01))) (fun _ u => 2 - (intOf u).toNat)
      case atStart => exact .inl ⟨rfl, rfl⟩
      case round =>
        rcases hrel with ⟨rfl, rfl⟩ | ⟨rfl, rfl⟩ | ⟨rfl, rfl⟩
        · go_wp2
          go_round
          case rel => first | exact .inr (.inl ⟨rfl, rfl⟩) | exact .inr (.inl ⟨rfl, by simp⟩)
          case measure => simp [intOf]
        · go_wp2
          go_round
          case rel => first | exact .inr (.inr ⟨rfl, rfl⟩) | exact .inr (.inr ⟨rfl, by simp⟩)
          case measure => simp [intOf]
        · go_wp2
          go_round
          case rel => exact .inr (.inl ⟨rfl, rfl⟩)
          case measure => simp [intOf]
    · go_wp2_with fail
      go_loop [16, 18] (fun s u => (u = .int .i64 0 ∧ s = .int .i64 (a * c * V00 + a * d * V01)) ∨ (u = .int .i64 1 ∧ s = .int .i64 (a * c * V00 + a * d * V01 + b * c * V10)) ∨ (u = .int .i64 2 ∧ s = .int .i64 (a * c * V00 + a * d * V01 + b * c * V10 + b * d * V11))) (fun _ u => 2 - (intOf u).toNat)
      case atStart => exact .inl ⟨rfl, rfl⟩
      case round =>
        rcases hrel with ⟨rfl, rfl⟩ | ⟨rfl, rfl⟩ | ⟨rfl, rfl⟩
        · go_wp2
          go_round
          case rel => first | exact .inr (.inl ⟨rfl, rfl⟩) | exact .inr (.inl ⟨rfl, by simp⟩)
          case measure => simp [intOf]
        · go_wp2
          go_round
          case rel => first | exact .inr (.inr ⟨rfl, rfl⟩) | exact .inr (.inr ⟨rfl, by simp⟩)
          case measure => simp [intOf]
        · go_wp2
          go_round
          case rel => exact .inr (.inr ⟨rfl, rfl⟩)
          case measure => simp [intOf]
    · go_wp2_with (go_at_call 117; refine (l01Div_any _ _ _ _ (by omega) (by omega) (by omega)).mono ?_; rintro e w' ⟨rfl, rfl⟩)
      go_ret
      exact ⟨rfl, by (repeat (first | (with_reducible exact Below.refl _ _) | (with_reducible assumption) | (with_reducible refine ext_alloc ?_ _) | (with_reducible refine ext_drew ?_) | (with_reducible refine ext_drewN ?_ _) | (with_reducible refine ext_set ?_ (by first | exact Nat.le_refl _ | (simp; done) | (simp; omega) | omega) _) | (with_reducible refine ext_trans ?_ (by assumption))))⟩
set_option maxHeartbeats 4000000 in
theorem look01 (v0 v1 v2 : Value) (ss ls vs : List Int) (x y m : Int) (i k : Nat) (a c d : Int) (a0 : 0 < a) (a1 : a ≤ 100000) (c0 : 0 < c) (c1 : c ≤ 100000) (d0 : 0 < d) (d1 : d ≤ 100000) (w : World) (h0 : IntS w w.heap.size v0 ss) (h1 : IntS w w.heap.size v1 ls) (h2 : IntS w w.heap.size v2 vs)
    (hW0 : (∀ (w : World) (v : Value), IntS w w.heap.size v ss → Calls Try.prog 116 #[v, .int .i64 x] w fun e w' => e = .returned (.tuple #[.int .i64 i, .int .i64 a, .int .i64 0]) ∧ ∃ n, w' = w.drewN n)) (hW1 : (∀ (w : World) (v : Value), IntS w w.heap.size v ls → Calls Try.prog 116 #[v, .int .i64 y] w fun e w' => e = .returned (.tuple #[.int .i64 k, .int .i64 c, .int .i64 d]) ∧ ∃ n, w' = w.drewN n))
    (hn16 : vs.length ≤ 16) (hl4 : ls.length ≤ 4) (i4 : i < 4) (k4 : k < 4) (hv : ∀ j, j < vs.length → -1000000 ≤ iv vs j ∧ iv vs j ≤ 1000000) (l00 : i * ls.length + k < vs.length) (l01 : i * ls.length + k + 1 < vs.length) :
    Calls Try.prog 65 #[.agg #[v0, v1, v2], .int .i64 x, .int .i64 y, .int .i64 m] w fun e w' => e = .returned (.int .i64 (qd (a * c * iv vs (i * ls.length + k) + a * d * iv vs (i * ls.length + k + 1)) ((a + 0) * (c + d)) m)) ∧ Below w.heap.size w w' := by
  have H0 := Lib.hid h0; have H1 := Lib.hid h1
  obtain ⟨_, s0, t0, rfl, _⟩ := h0; obtain ⟨_, s1, t1, rfl, _⟩ := h1; obtain ⟨hn, s2, t2, rfl, hx0⟩ := h2
  obtain ⟨g, off, rfl, hlt, hx⟩ := hx0 (by omega)
  have y00 := hx _ l00
  have v00 := hv _ l00
  have y01 := hx _ l01
  have v01 := hv _ l01
  clear hx hx0 hv
  have HW0 := Lib.hid hW0; have HW1 := Lib.hid hW1
  clear hW0 hW1
  have hq0 : (i : Int) * (ls.length : Int) = ((i * ls.length : Nat) : Int) := by simp
  have hq1 : ((i : Int) + 1) * (ls.length : Int) = (((i + 1) * ls.length : Nat) : Int) := by simp
  obtain ⟨q0, hq0'⟩ : ∃ q, q = i * ls.length := ⟨_, rfl⟩
  obtain ⟨q1, hq1'⟩ : ∃ q, q = (i + 1) * ls.length := ⟨_, rfl⟩
  rw [← hq0'] at hq0 l00 y00 v00 l01 y01 v01 ⊢
  rw [← hq1'] at hq1
  clear hq0' hq1'
  obtain ⟨V00, hV00⟩ : ∃ V, V = iv vs (q0 + k) := ⟨_, rfl⟩
  rw [← hV00] at y00 v00 ⊢
  clear hV00
  have lI00 : ((q0 : Int) + (k : Int)) < (vs.length : Int) := by omega
  obtain ⟨V01, hV01⟩ : ∃ V, V = iv vs (q0 + k + 1) := ⟨_, rfl⟩
  rw [← hV01] at y01 v01 ⊢
  clear hV01
  have lI01 : ((q0 : Int) + (k : Int) + 1) < (vs.length : Int) := by omega
  have ⟨m00, n00⟩ := pr_bd (p := a) (q := c) (A := 100000) (B := 100000) (by omega) (by omega) (by omega) (by omega)
  have z00 : 0 < a * c := Int.mul_pos (by omega) (by omega)
  have ⟨o00, p00⟩ := tr_bd (p := a) (q := c) (by omega) (by omega) (by omega) (by omega) v00
  have ⟨m01, n01⟩ := pr_bd (p := a) (q := d) (A := 100000) (B := 100000) (by omega) (by omega) (by omega) (by omega)
  have z01 : 0 < a * d := Int.mul_pos (by omega) (by omega)
  have ⟨o01, p01⟩ := tr_bd (p := a) (q := d) (by omega) (by omega) (by omega) (by omega) v01
  have W0 : 0 < (a + 0) * (c + d) := Int.mul_pos (by omega) (by omega)
  have ⟨_, W1⟩ := pr_bd (p := a + 0) (q := c + d) (A := 200000) (B := 200000) (by omega) (by omega) (by omega) (by omega)
  have W2 : (a + 0) * (c + d) ≤ 40000000000 := by omega
  rw [Int.add_zero] at W0 W2 ⊢
  go_enter Try.func65, Try.ntmps65
  go_wp2_with fail
  go_at_call 116
  refine (HW0.out _ _ (H0.out.keep (by (repeat (first | (with_reducible exact Below.refl _ _) | (with_reducible assumption) | (with_reducible refine ext_alloc ?_ _) | (with_reducible refine ext_drew ?_) | (with_reducible refine ext_drewN ?_ _) | (with_reducible refine ext_set ?_ (by first | exact Nat.le_refl _ | (simp; done) | (simp; omega) | omega) _) | (with_reducible refine ext_trans ?_ (by assumption))))) (by first | omega | (simp; done) | (simp; omega)))).mono ?_
  rintro e w1 ⟨rfl, n1, rfl⟩
  go_wp2_with fail
  go_at_call 116
  refine (HW1.out _ _ (H1.out.keep (by (repeat (first | (with_reducible exact Below.refl _ _) | (with_reducible assumption) | (with_reducible refine ext_alloc ?_ _) | (with_reducible refine ext_drew ?_) | (with_reducible refine ext_drewN ?_ _) | (with_reducible refine ext_set ?_ (by first | exact Nat.le_refl _ | (simp; done) | (simp; omega) | omega) _) | (with_reducible refine ext_trans ?_ (by assumption))))) (by first | omega | (simp; done) | (simp; omega)))).mono ?_
  rintro e w1 ⟨rfl, n2, rfl⟩
  go_wp2_with fail
  go_loop [16, 17] (fun s u => (u = .int .i64 0 ∧ s = .int .i64 (0)) ∨ (u = .int .i64 1 ∧ s = .int .i64 (a * c * V00 + a * d * V01)) ∨ (u = .int .i64 2 ∧ s = .int .i64 (a * c * V00 + a * d * V01))) (fun _ u => 2 - (intOf u).toNat)
  case atStart => exact .inl ⟨rfl, rfl⟩
  case round =>
    rcases hrel with ⟨rfl, rfl⟩ | ⟨rfl, rfl⟩ | ⟨rfl, rfl⟩
    · go_wp2_with fail
      go_loop [16, 18] (fun s u => (u = .int .i64 0 ∧ s = .int .i64 (0)) ∨ (u = .int .i64 1 ∧ s = .int .i64 (a * c * V00)) ∨ (u = .int .i64 2 ∧ s = .int .i64 (a * c * V00 + a * d * V01))) (fun _ u => 2 - (intOf u).toNat)
      case atStart => exact .inl ⟨rfl, rfl⟩
      case round =>
        rcases hrel with ⟨rfl, rfl⟩ | ⟨rfl, rfl⟩ | ⟨rfl, rfl⟩
        · go_wp2
          go_round
          case rel => first | exact .inr (.inl ⟨rfl, rfl⟩) | exact .inr (.inl ⟨rfl, by simp⟩)
          case measure => simp [intOf]
        · go_wp2
          go_round
          case rel => first | exact .inr (.inr ⟨rfl, rfl⟩) | exact .inr (.inr ⟨rfl, by simp⟩)
          case measure => simp [intOf]
        · go_wp2
          go_round
          case rel => exact .inr (.inl ⟨rfl, rfl⟩)
          case measure => simp [intOf]
    · go_wp2_with fail
      go_loop [16, 18] (fun s u => (u = .int .i64 0 ∧ s = .int .i64 (a * c * V00 + a * d * V01)) ∨ (u = .int .i64 1 ∧ s = .int .i64 (a * c * V00 + a * d * V01)) ∨ (u = .int .i64 2 ∧ s = .int .i64 (a * c * V00 + a * d * V01))) (fun _ u => 2 - (intOf u).toNat)
      case atStart => exact .inl ⟨rfl, rfl⟩
      case round =>
        rcases hrel with ⟨rfl, rfl⟩ | ⟨rfl, rfl⟩ | ⟨rfl, rfl⟩
        · go_wp2
          go_round
          case rel => first | exact .inr (.inl ⟨rfl, rfl⟩) | exact .inr (.inl ⟨rfl, by simp⟩)
          case measure => simp [intOf]
        · go_wp2
          go_round
          case rel => first | exact .inr (.inr ⟨rfl, rfl⟩) | exact .inr (.inr ⟨rfl, by simp⟩)
          case measure => simp [intOf]
        · go_wp2
          go_round
          case rel => exact .inr (.inr ⟨rfl, rfl⟩)
          case measure => simp [intOf]
    · go_wp2_with (go_at_call 117; refine (l01Div_any _ _ _ _ (by omega) (by omega) (by omega)).mono ?_; rintro e w' ⟨rfl, rfl⟩)
      go_ret
      exact ⟨rfl, by (repeat (first | (with_reducible exact Below.refl _ _) | (with_reducible assumption) | (with_reducible refine ext_alloc ?_ _) | (with_reducible refine ext_drew ?_) | (with_reducible refine ext_drewN ?_ _) | (with_reducible refine ext_set ?_ (by first | exact Nat.le_refl _ | (simp; done) | (simp; omega) | omega) _) | (with_reducible refine ext_trans ?_ (by assumption))))⟩
set_option maxHeartbeats 4000000 in
theorem look10 (v0 v1 v2 : Value) (ss ls vs : List Int) (x y m : Int) (i k : Nat) (a c b : Int) (a0 : 0 < a) (a1 : a ≤ 100000) (c0 : 0 < c) (c1 : c ≤ 100000) (b0 : 0 < b) (b1 : b ≤ 100000) (w : World) (h0 : IntS w w.heap.size v0 ss) (h1 : IntS w w.heap.size v1 ls) (h2 : IntS w w.heap.size v2 vs)
    (hW0 : (∀ (w : World) (v : Value), IntS w w.heap.size v ss → Calls Try.prog 116 #[v, .int .i64 x] w fun e w' => e = .returned (.tuple #[.int .i64 i, .int .i64 a, .int .i64 b]) ∧ ∃ n, w' = w.drewN n)) (hW1 : (∀ (w : World) (v : Value), IntS w w.heap.size v ls → Calls Try.prog 116 #[v, .int .i64 y] w fun e w' => e = .returned (.tuple #[.int .i64 k, .int .i64 c, .int .i64 0]) ∧ ∃ n, w' = w.drewN n))
    (hn16 : vs.length ≤ 16) (hl4 : ls.length ≤ 4) (i4 : i < 4) (k4 : k < 4) (hv : ∀ j, j < vs.length → -1000000 ≤ iv vs j ∧ iv vs j ≤ 1000000) (l00 : i * ls.length + k < vs.length) (l10 : (i + 1) * ls.length + k < vs.length) :
    Calls Try.prog 65 #[.agg #[v0, v1, v2], .int .i64 x, .int .i64 y, .int .i64 m] w fun e w' => e = .returned (.int .i64 (qd (a * c * iv vs (i * ls.length + k) + b * c * iv vs ((i + 1) * ls.length + k)) ((a + b) * (c + 0)) m)) ∧ Below w.heap.size w w' := by
  have H0 := Lib.hid h0; have H1 := Lib.hid h1
  obtain ⟨_, s0, t0, rfl, _⟩ := h0; obtain ⟨_, s1, t1, rfl, _⟩ := h1; obtain ⟨hn, s2, t2, rfl, hx0⟩ := h2
  obtain ⟨g, off, rfl, hlt, hx⟩ := hx0 (by omega)
  have y00 := hx _ l00
  have v00 := hv _ l00
  have y10 := hx _ l10
  have v10 := hv _ l10
  clear hx hx0 hv
  have HW0 := Lib.hid hW0; have HW1 := Lib.hid hW1
  clear hW0 hW1
  have hq0 : (i : Int) * (ls.length : Int) = ((i * ls.length : Nat) : Int) := by simp
  have hq1 : ((i : Int) + 1) * (ls.length : Int) = (((i + 1) * ls.length : Nat) : Int) := by simp
  obtain ⟨q0, hq0'⟩ : ∃ q, q = i * ls.length := ⟨_, rfl⟩
  obtain ⟨q1, hq1'⟩ : ∃ q, q = (i + 1) * ls.length := ⟨_, rfl⟩
  rw [← hq0'] at hq0 l00 y00 v00 ⊢
  rw [← hq1'] at hq1 l10 y10 v10 ⊢
  clear hq0' hq1'
  obtain ⟨V00, hV00⟩ : ∃ V, V = iv vs (q0 + k) := ⟨_, rfl⟩
  rw [← hV00] at y00 v00 ⊢
  clear hV00
  have lI00 : ((q0 : Int) + (k : Int)) < (vs.length : Int) := by omega
  obtain ⟨V10, hV10⟩ : ∃ V, V = iv vs (q1 + k) := ⟨_, rfl⟩
  rw [← hV10] at y10 v10 ⊢
  clear hV10
  have lI10 : ((q1 : Int) + (k : Int)) < (vs.length : Int) := by omega
  have ⟨m00, n00⟩ := pr_bd (p := a) (q := c) (A := 100000) (B := 100000) (by omega) (by omega) (by omega) (by omega)
  have z00 : 0 < a * c := Int.mul_pos (by omega) (by omega)
  have ⟨o00, p00⟩ := tr_bd (p := a) (q := c) (by omega) (by omega) (by omega) (by omega) v00
  have ⟨m10, n10⟩ := pr_bd (p := b) (q := c) (A := 100000) (B := 100000) (by omega) (by omega) (by omega) (by omega)
  have z10 : 0 < b * c := Int.mul_pos (by omega) (by omega)
  have ⟨o10, p10⟩ := tr_bd (p := b) (q := c) (by omega) (by omega) (by omega) (by omega) v10
  have W0 : 0 < (a + b) * (c + 0) := Int.mul_pos (by omega) (by omega)
  have ⟨_, W1⟩ := pr_bd (p := a + b) (q := c + 0) (A := 200000) (B := 200000) (by omega) (by omega) (by omega) (by omega)
  have W2 : (a + b) * (c + 0) ≤ 40000000000 := by omega
  rw [Int.add_zero] at W0 W2 ⊢
  go_enter Try.func65, Try.ntmps65
  go_wp2_with fail
  go_at_call 116
  refine (HW0.out _ _ (H0.out.keep (by (repeat (first | (with_reducible exact Below.refl _ _) | (with_reducible assumption) | (with_reducible refine ext_alloc ?_ _) | (with_reducible refine ext_drew ?_) | (with_reducible refine ext_drewN ?_ _) | (with_reducible refine ext_set ?_ (by first | exact Nat.le_refl _ | (simp; done) | (simp; omega) | omega) _) | (with_reducible refine ext_trans ?_ (by assumption))))) (by first | omega | (simp; done) | (simp; omega)))).mono ?_
  rintro e w1 ⟨rfl, n1, rfl⟩
  go_wp2_with fail
  go_at_call 116
  refine (HW1.out _ _ (H1.out.keep (by (repeat (first | (with_reducible exact Below.refl _ _) | (with_reducible assumption) | (with_reducible refine ext_alloc ?_ _) | (with_reducible refine ext_drew ?_) | (with_reducible refine ext_drewN ?_ _) | (with_reducible refine ext_set ?_ (by first | exact Nat.le_refl _ | (simp; done) | (simp; omega) | omega) _) | (with_reducible refine ext_trans ?_ (by assumption))))) (by first | omega | (simp; done) | (simp; omega)))).mono ?_
  rintro e w1 ⟨rfl, n2, rfl⟩
  go_wp2_with fail
  go_loop [16, 17] (fun s u => (u = .int .i64 0 ∧ s = .int .i64 (0)) ∨ (u = .int .i64 1 ∧ s = .int .i64 (a * c * V00)) ∨ (u = .int .i64 2 ∧ s = .int .i64 (a * c * V00 + b * c * V10))) (fun _ u => 2 - (intOf u).toNat)
  case atStart => exact .inl ⟨rfl, rfl⟩
  case round =>
    rcases hrel with ⟨rfl, rfl⟩ | ⟨rfl, rfl⟩ | ⟨rfl, rfl⟩
    · go_wp2_with fail
      go_loop [16, 18] (fun s u => (u = .int .i64 0 ∧ s = .int .i64 (0)) ∨ (u = .int .i64 1 ∧ s = .int .i64 (a * c * V00)) ∨ (u = .int .i64 2 ∧ s = .int .i64 (a * c * V00))) (fun _ u => 2 - (intOf u).toNat)
      case atStart => exact .inl ⟨rfl, rfl⟩
      case round =>
        rcases hrel with ⟨rfl, rfl⟩ | ⟨rfl, rfl⟩ | ⟨rfl, rfl⟩
        · go_wp2
          go_round
          case rel => first | exact .inr (.inl ⟨rfl, rfl⟩) | exact .inr (.inl ⟨rfl, by simp⟩)
          case measure => simp [intOf]
        · go_wp2
          go_round
          case rel => first | exact .inr (.inr ⟨rfl, rfl⟩) | exact .inr (.inr ⟨rfl, by simp⟩)
          case measure => simp [intOf]
        · go_wp2
          go_round
          case rel => exact .inr (.inl ⟨rfl, rfl⟩)
          case measure => simp [intOf]
    · go_wp2_with fail
      go_loop [16, 18] (fun s u => (u = .int .i64 0 ∧ s = .int .i64 (a * c * V00)) ∨ (u = .int .i64 1 ∧ s = .int .i64 (a * c * V00 + b * c * V10)) ∨ (u = .int .i64 2 ∧ s = .int .i64 (a * c * V00 + b * c * V10))) (fun _ u => 2 - (intOf u).toNat)
      case atStart => exact .inl ⟨rfl, rfl⟩
      case round =>
        rcases hrel with ⟨rfl, rfl⟩ | ⟨rfl, rfl⟩ | ⟨rfl, rfl⟩
        · go_wp2
          go_round
          case rel => first | exact .inr (.inl ⟨rfl, rfl⟩) | exact .inr (.inl ⟨rfl, by simp⟩)
          case measure => simp [intOf]
        · go_wp2
          go_round
          case rel => first | exact .inr (.inr ⟨rfl, rfl⟩) | exact .inr (.inr ⟨rfl, by simp⟩)
          case measure => simp [intOf]
        · go_wp2
          go_round
          case rel => exact .inr (.inr ⟨rfl, rfl⟩)
          case measure => simp [intOf]
    · go_wp2_with (go_at_call 117; refine (l01Div_any _ _ _ _ (by omega) (by omega) (by omega)).mono ?_; rintro e w' ⟨rfl, rfl⟩)
      go_ret
      exact ⟨rfl, by (repeat (first | (with_reducible exact Below.refl _ _) | (with_reducible assumption) | (with_reducible refine ext_alloc ?_ _) | (with_reducible refine ext_drew ?_) | (with_reducible refine ext_drewN ?_ _) | (with_reducible refine ext_set ?_ (by first | exact Nat.le_refl _ | (simp; done) | (simp; omega) | omega) _) | (with_reducible refine ext_trans ?_ (by assumption))))⟩
end Go.Proofs.Ytckccpcigkbfmaa
