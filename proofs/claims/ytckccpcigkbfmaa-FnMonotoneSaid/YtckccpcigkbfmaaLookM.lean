/-
What the value that LookUp takes obeys: it lies within the table's bounds, and at the elements of the axes it is the table's own value.
-/
import Derived.Test.YtckccpcigkbfmaaLookU
namespace Go.Proofs.Ytckccpcigkbfmaa
set_option linter.unusedVariables false
set_option linter.unusedSimpArgs false
theorem conv4 {p q r s v1 v2 v3 v4 L U : Int} (p0 : 0 ≤ p) (q0 : 0 ≤ q) (r0 : 0 ≤ r) (s0 : 0 ≤ s) (h1 : L ≤ v1 ∧ v1 ≤ U) (h2 : L ≤ v2 ∧ v2 ≤ U) (h3 : L ≤ v3 ∧ v3 ≤ U) (h4 : L ≤ v4 ∧ v4 ≤ U) :
    (p + q + r + s) * L ≤ p * v1 + q * v2 + r * v3 + s * v4 ∧ p * v1 + q * v2 + r * v3 + s * v4 ≤ (p + q + r + s) * U := by
  have a1 := Int.mul_le_mul_of_nonneg_left h1.1 p0
  have a2 := Int.mul_le_mul_of_nonneg_left h2.1 q0
  have a3 := Int.mul_le_mul_of_nonneg_left h3.1 r0
  have a4 := Int.mul_le_mul_of_nonneg_left h4.1 s0
  have b1 := Int.mul_le_mul_of_nonneg_left h1.2 p0
  have b2 := Int.mul_le_mul_of_nonneg_left h2.2 q0
  have b3 := Int.mul_le_mul_of_nonneg_left h3.2 r0
  have b4 := Int.mul_le_mul_of_nonneg_left h4.2 s0
  rw [Int.add_mul, Int.add_mul, Int.add_mul, Int.add_mul, Int.add_mul, Int.add_mul]
  omega
theorem prod4 (a b c d : Int) : (a + b) * (c + d) = a * c + a * d + b * c + b * d := by
  rw [Int.add_mul, Int.mul_add, Int.mul_add]
  omega
theorem isM_or {m : Int} (h : isM m = true) : m = 0 ∨ m = 1 := by simpa [isM] using h
theorem qd_between {S W L U m : Int} (hW : 0 < W) (h1 : W * L ≤ S) (h2 : S ≤ W * U) (hm : m = 0 ∨ m = 1) : L ≤ qd S W m ∧ qd S W m ≤ U := by
  have ⟨q1, q2, q3, q4, _, _, _⟩ := qd_facts S W hW
  rw [Int.mul_comm W L] at h1
  rw [Int.mul_comm W U] at h2
  rcases hm with rfl | rfl
  · constructor
    · have h : (L - 1) * W < qd S W 0 * W := by rw [Int.sub_mul, Int.one_mul]; omega
      have := Int.lt_of_mul_lt_mul_right h (Int.le_of_lt hW)
      omega
    · exact Int.le_of_mul_le_mul_right (Int.le_trans q1 h2) hW
  · constructor
    · exact Int.le_of_mul_le_mul_right (Int.le_trans h1 q3) hW
    · have h : qd S W 1 * W < (U + 1) * W := by rw [Int.add_mul, Int.one_mul]; omega
      have := Int.lt_of_mul_lt_mul_right h (Int.le_of_lt hW)
      omega
theorem mn_le (xs : List Int) : ∀ k i, i < k → mnK xs k ≤ iv xs i := by
  intro k
  induction k with
  | zero => intro i hi; omega
  | succ k ih =>
    intro i hi
    cases k with
    | zero =>
      obtain rfl : i = 0 := by omega
      rw [mnK_one]
      exact Int.le_refl _
    | succ k =>
      have e : mnK xs (k + 1 + 1) = min (mnK xs (k + 1)) (iv xs (k + 1)) := rfl
      rw [e]
      by_cases h : i = k + 1
      · subst h; omega
      · have := ih i (by omega); omega
theorem le_mx (xs : List Int) : ∀ k i, i < k → iv xs i ≤ mxK xs k := by
  intro k
  induction k with
  | zero => intro i hi; omega
  | succ k ih =>
    intro i hi
    cases k with
    | zero =>
      obtain rfl : i = 0 := by omega
      rw [mxK_one]
      exact Int.le_refl _
    | succ k =>
      have e : mxK xs (k + 1 + 1) = max (mxK xs (k + 1)) (iv xs (k + 1)) := rfl
      rw [e]
      by_cases h : i = k + 1
      · subst h; omega
      · have := ih i (by omega); omega
/-- A value that is looked up lies within the bounds of its table. -/
theorem lk_bounds {ss ls vs : List Int} (h : tabB ss ls vs = true) (x y : Int) {m : Int} (hm : isM m = true) : mnK vs vs.length ≤ lkV ss ls vs x y m ∧ lkV ss ls vs x y m ≤ mxK vs vs.length := by
  have ⟨e0, e1, e2, e3⟩ := tab_get h
  have hi := loI_spec e0 x
  have hk := loI_spec e1 y
  have ⟨l00, l01, l10, l11⟩ := around_lt h hi hk
  have ⟨a0, a1, b0, b1, _⟩ := w_bd e0 hi
  have ⟨c0, c1, d0, d1, _⟩ := w_bd e1 hk
  have B : ∀ j, j < vs.length → mnK vs vs.length ≤ iv vs j ∧ iv vs j ≤ mxK vs vs.length := fun j hj => ⟨mn_le vs _ j hj, le_mx vs _ j hj⟩
  have ⟨s1, s2⟩ := conv4 (Int.mul_nonneg (Int.le_of_lt a0) (Int.le_of_lt c0)) (Int.mul_nonneg (Int.le_of_lt a0) d0) (Int.mul_nonneg b0 (Int.le_of_lt c0)) (Int.mul_nonneg b0 d0) (B _ l00) (B _ l01) (B _ l10) (B _ l11)
  rw [← prod4] at s1 s2
  exact qd_between (Int.mul_pos (by omega) (by omega)) s1 s2 (isM_or hm)
theorem qd_one (v m : Int) : qd v 1 m = v := by
  have h : v.tmod 1 = 0 := by simp
  unfold qd
  rw [h]
  simp
theorem cl_at {xs : List Int} (h : axB xs = true) {i : Nat} (hi : i < xs.length) : cl xs (iv xs i) = iv xs i := by
  have h1 := ax_le h (i := 0) (j := i) (by omega) hi
  have h2 := ax_le h (i := i) (j := xs.length - 1) (by omega) (by omega)
  unfold cl
  omega
theorem lo_at {xs : List Int} (h : axB xs = true) {i : Nat} (hi : i < xs.length) : loI xs (iv xs i) = i := by
  have h1 := loI_spec h (iv xs i)
  rw [cl_at h hi] at h1
  exact lo_unique h h1 ⟨hi, Int.le_refl _, fun hn => (ax_get h).2.2.2 i (i + 1) (by omega) hn⟩
/-- At the elements of the axes LookUp returns the values of the table. -/
theorem lk_at {ss ls vs : List Int} (h : tabB ss ls vs = true) {i k : Nat} (hi : i < ss.length) (hk : k < ls.length) (m : Int) : lkV ss ls vs (iv ss i) (iv ls k) m = iv vs (i * ls.length + k) := by
  have ⟨e0, e1, e2, e3⟩ := tab_get h
  unfold lkV lkS lkW
  rw [lo_at e0 hi, lo_at e1 hk, cl_at e0 hi, cl_at e1 hk]
  simp [wA, wB, up]
  exact qd_one _ _
/-- The early value is not greater than the late one, and they differ by at most 1. -/
theorem lk_modes {ss ls vs : List Int} (h : tabB ss ls vs = true) (x y : Int) : lkV ss ls vs x y 0 ≤ lkV ss ls vs x y 1 ∧ lkV ss ls vs x y 1 - lkV ss ls vs x y 0 ≤ 1 := by
  have ⟨e0, e1, _, _⟩ := tab_get h
  have ⟨a0, a1, b0, b1, _⟩ := w_bd e0 (loI_spec e0 x)
  have ⟨c0, c1, d0, d1, _⟩ := w_bd e1 (loI_spec e1 y)
  have ⟨_, _, _, _, q5, q6, _⟩ := qd_facts (lkS ss ls vs x y (loI ss x) (loI ls y)) (lkW ss ls x y (loI ss x) (loI ls y)) (Int.mul_pos (by omega) (by omega))
  exact ⟨q5, q6⟩
end Go.Proofs.Ytckccpcigkbfmaa
