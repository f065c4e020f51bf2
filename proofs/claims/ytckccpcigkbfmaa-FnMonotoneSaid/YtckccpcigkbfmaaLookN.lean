/-
The value that LookUp takes from a monotone table does not decrease with the slew, and not with the load.
-/
import Derived.Test.YtckccpcigkbfmaaLookM
namespace Go.Proofs.Ytckccpcigkbfmaa
set_option linter.unusedVariables false
set_option linter.unusedSimpArgs false
theorem mono_up {n : Nat} {G : Nat → Int} (h : ∀ i, i + 1 < n → G i ≤ G (i + 1)) : ∀ i j, i ≤ j → j < n → G i ≤ G j := by
  intro i j hij hj
  induction j with
  | zero =>
    obtain rfl : i = 0 := by omega
    exact Int.le_refl _
  | succ j ih =>
    by_cases e : i = j + 1
    · subst e; exact Int.le_refl _
    · exact Int.le_trans (ih (by omega) (by omega)) (h j hj)
theorem avg_le {a b g h U : Int} (a0 : 0 ≤ a) (b0 : 0 ≤ b) (h1 : g ≤ U) (h2 : h ≤ U) : a * g + b * h ≤ U * (a + b) := by
  have x1 := Int.mul_le_mul_of_nonneg_left h1 a0
  have x2 := Int.mul_le_mul_of_nonneg_left h2 b0
  rw [Int.mul_add, Int.mul_comm U a, Int.mul_comm U b]
  omega
theorem le_avg {a b g h L : Int} (a0 : 0 ≤ a) (b0 : 0 ≤ b) (h1 : L ≤ g) (h2 : L ≤ h) : L * (a + b) ≤ a * g + b * h := by
  have x1 := Int.mul_le_mul_of_nonneg_left h1 a0
  have x2 := Int.mul_le_mul_of_nonneg_left h2 b0
  rw [Int.mul_add, Int.mul_comm L a, Int.mul_comm L b]
  omega
/-- Two fractions that a number parts. -/
theorem parted {S W S' W' M : Int} (hW : 0 < W) (hW' : 0 < W') (h1 : S ≤ M * W) (h2 : M * W' ≤ S') : S * W' ≤ S' * W := by
  have x1 := Int.mul_le_mul_of_nonneg_right h1 (Int.le_of_lt hW')
  have x2 := Int.mul_le_mul_of_nonneg_right h2 (Int.le_of_lt hW)
  have e : M * W * W' = M * W' * W := by rw [Int.mul_assoc, Int.mul_assoc, Int.mul_comm W W']
  omega
/-- The rounded quotient does not decrease with the quotient. -/
theorem qd_mono {S W S' W' m : Int} (hW : 0 < W) (hW' : 0 < W') (h : S * W' ≤ S' * W) (hm : m = 0 ∨ m = 1) : qd S W m ≤ qd S' W' m := by
  have ⟨q1, q2, q3, q4, _, _, _⟩ := qd_facts S W hW
  have ⟨r1, r2, r3, r4, _, _, _⟩ := qd_facts S' W' hW'
  have hP := Int.mul_pos hW hW'
  rcases hm with rfl | rfl
  · have x1 := Int.mul_le_mul_of_nonneg_right q1 (Int.le_of_lt hW')
    have x2 : S' * W < (qd S' W' 0 * W' + W') * W := Int.mul_lt_mul_of_pos_right (by omega) hW
    have e1 : qd S W 0 * W * W' = qd S W 0 * (W * W') := Int.mul_assoc _ _ _
    have e2 : (qd S' W' 0 * W' + W') * W = (qd S' W' 0 + 1) * (W * W') := by
      rw [show qd S' W' 0 * W' + W' = (qd S' W' 0 + 1) * W' by rw [Int.add_mul, Int.one_mul], Int.mul_assoc, Int.mul_comm W' W]
    have : qd S W 0 * (W * W') < (qd S' W' 0 + 1) * (W * W') := by omega
    have := Int.lt_of_mul_lt_mul_right this (Int.le_of_lt hP)
    omega
  · have x1 := Int.mul_le_mul_of_nonneg_right r3 (Int.le_of_lt hW)
    have x2 : (qd S W 1 * W - W) * W' < S * W' := Int.mul_lt_mul_of_pos_right (by omega) hW'
    have e1 : qd S' W' 1 * W' * W = qd S' W' 1 * (W * W') := by rw [Int.mul_assoc, Int.mul_comm W' W]
    have e2 : (qd S W 1 * W - W) * W' = (qd S W 1 - 1) * (W * W') := by
      rw [show qd S W 1 * W - W = (qd S W 1 - 1) * W by rw [Int.sub_mul, Int.one_mul], Int.mul_assoc]
    have : (qd S W 1 - 1) * (W * W') < qd S' W' 1 * (W * W') := by omega
    have := Int.lt_of_mul_lt_mul_right this (Int.le_of_lt hP)
    omega
/-- The sum along one axis. -/
def avS (xs : List Int) (c : Int) (i : Nat) (G : Nat → Int) : Int := wA xs c i * G i + wB xs c i * G (up xs c i)
theorem cl_mono {xs : List Int} (h : axB xs = true) {x x' : Int} (hx : x ≤ x') : cl xs x ≤ cl xs x' := by
  unfold cl
  omega
theorem lo_mono {xs : List Int} (h : axB xs = true) {c c' : Int} {i j : Nat} (hi : IsLo xs c i) (hj : IsLo xs c' j) (hc : c ≤ c') : i ≤ j := by
  apply Classical.byContradiction
  intro hn
  have h1 := hj.2.2 (by have := hi.1; omega)
  have h2 := ax_le h (i := j + 1) (j := i) (by omega) hi.1
  have := hi.2.1
  omega
theorem av_mono {xs : List Int} (h : axB xs = true) {x x' : Int} (hx : x ≤ x') {i j : Nat} (hi : IsLo xs (cl xs x) i) (hj : IsLo xs (cl xs x') j) {G : Nat → Int} (hG : ∀ a b, a ≤ b → b < xs.length → G a ≤ G b) :
    avS xs (cl xs x) i G * (wA xs (cl xs x') j + wB xs (cl xs x') j) ≤ avS xs (cl xs x') j G * (wA xs (cl xs x) i + wB xs (cl xs x) i) := by
  have hc := cl_mono h hx
  have hij := lo_mono h hi hj hc
  have ⟨a0, _, b0, _, _⟩ := w_bd h hi
  have ⟨a0', _, b0', _, _⟩ := w_bd h hj
  have u0 := up_lt h hi
  have u1 := up_lt h hj
  have uj : j ≤ up xs (cl xs x') j := by unfold up; split <;> omega
  by_cases e : i = j
  · subst e
    by_cases e1 : cl xs x = iv xs i
    · have eA : wA xs (cl xs x) i = 1 := by unfold wA; rw [if_pos e1]
      have eB : wB xs (cl xs x) i = 0 := by unfold wB; rw [if_pos e1]
      have eU : up xs (cl xs x) i = i := by unfold up; rw [if_pos e1]
      have h2 := le_avg (Int.le_of_lt a0') b0' (Int.le_refl (G i)) (hG i _ uj u1)
      unfold avS
      rw [eA, eB]
      simp only [Int.one_mul, Int.zero_mul, Int.add_zero, Int.mul_one]
      exact h2
    · have e2 : ¬ cl xs x' = iv xs i := by have := hi.2.1; omega
      have hn := lo_next h hi e1
      have g1 := hG i (i + 1) (by omega) hn
      have eA : wA xs (cl xs x) i = iv xs (i + 1) - cl xs x := by unfold wA; rw [if_neg e1]
      have eB : wB xs (cl xs x) i = cl xs x - iv xs i := by unfold wB; rw [if_neg e1]
      have eU : up xs (cl xs x) i = i + 1 := by unfold up; rw [if_neg e1]
      have eA' : wA xs (cl xs x') i = iv xs (i + 1) - cl xs x' := by unfold wA; rw [if_neg e2]
      have eB' : wB xs (cl xs x') i = cl xs x' - iv xs i := by unfold wB; rw [if_neg e2]
      have eU' : up xs (cl xs x') i = i + 1 := by unfold up; rw [if_neg e2]
      have hD : 0 ≤ iv xs (i + 1) - iv xs i := by have := hi.2.1; have := hi.2.2 hn; omega
      have key : 0 ≤ (cl xs x' - cl xs x) * (G (i + 1) - G i) := Int.mul_nonneg (by omega) (by omega)
      unfold avS
      rw [eU, eU', eA, eB, eA', eB', show iv xs (i + 1) - cl xs x' + (cl xs x' - iv xs i) = iv xs (i + 1) - iv xs i by omega, show iv xs (i + 1) - cl xs x + (cl xs x - iv xs i) = iv xs (i + 1) - iv xs i by omega]
      refine Int.mul_le_mul_of_nonneg_right ?_ hD
      simp only [Int.sub_mul, Int.mul_sub] at key ⊢
      omega
  · have ui : up xs (cl xs x) i ≤ j := by unfold up; split <;> omega
    have h1 := avg_le (Int.le_of_lt a0) b0 (hG i j hij hj.1) (hG _ j ui hj.1)
    have h2 := le_avg (Int.le_of_lt a0') b0' (Int.le_refl (G j)) (hG j _ uj u1)
    exact parted (by omega) (by omega) h1 h2
theorem mon_get {ss ls vs : List Int} (h : monB ss ls vs = true) : tabB ss ls vs = true ∧ (∀ s l, s < ss.length → l + 1 < ls.length → iv vs (s * ls.length + l) ≤ iv vs (s * ls.length + (l + 1))) ∧
    ∀ s l, s + 1 < ss.length → l < ls.length → iv vs (s * ls.length + l) ≤ iv vs ((s + 1) * ls.length + l) := by
  simp only [monB, Bool.and_eq_true] at h
  obtain ⟨h0, h1⟩ := h
  have hx := allB_get h1
  have hl := (tab_get h0).2.2.1
  refine ⟨h0, fun s l hs hll => ?_, fun s l hs hll => ?_⟩
  · have := hx (s * ls.length + (l + 1)) (by rw [hl]; exact idx_lt hs hll)
    simp only [mnAt, Bool.and_eq_true, Bool.or_eq_true, decide_eq_true_eq] at this
    rcases this.1 with e | e
    · rw [Nat.add_comm, Nat.add_mul_mod_self_right, Nat.mod_eq_of_lt hll] at e
      omega
    · rw [show s * ls.length + (l + 1) - 1 = s * ls.length + l by omega] at e
      exact e
  · have := hx ((s + 1) * ls.length + l) (by rw [hl]; exact idx_lt hs hll)
    simp only [mnAt, Bool.and_eq_true, Bool.or_eq_true, decide_eq_true_eq] at this
    have e2 : (s + 1) * ls.length + l - ls.length = s * ls.length + l := by rw [Nat.add_mul]; omega
    rcases this.2 with e | e
    · rw [Nat.add_mul, Nat.one_mul] at e
      omega
    · rw [e2] at e
      exact e
theorem row_up {ss ls vs : List Int} (h : monB ss ls vs = true) (y : Int) : ∀ a b, a ≤ b → b < ss.length → avS ls (cl ls y) (loI ls y) (fun k => iv vs (a * ls.length + k)) ≤ avS ls (cl ls y) (loI ls y) (fun k => iv vs (b * ls.length + k)) := by
  have ⟨ht, _, hc⟩ := mon_get h
  have e1 := (tab_get ht).2.1
  have hk := loI_spec e1 y
  have ⟨a0, _, b0, _, _⟩ := w_bd e1 hk
  have u1 := up_lt e1 hk
  intro a b hab hb
  have g1 := mono_up (n := ss.length) (G := fun s => iv vs (s * ls.length + loI ls y)) (fun s hs => hc s _ hs hk.1) a b hab hb
  have g2 := mono_up (n := ss.length) (G := fun s => iv vs (s * ls.length + up ls (cl ls y) (loI ls y))) (fun s hs => hc s _ hs u1) a b hab hb
  have x1 := Int.mul_le_mul_of_nonneg_left g1 (Int.le_of_lt a0)
  have x2 := Int.mul_le_mul_of_nonneg_left g2 b0
  unfold avS
  exact Int.add_le_add x1 x2
theorem col_up {ss ls vs : List Int} (h : monB ss ls vs = true) (x : Int) : ∀ a b, a ≤ b → b < ls.length → avS ss (cl ss x) (loI ss x) (fun s => iv vs (s * ls.length + a)) ≤ avS ss (cl ss x) (loI ss x) (fun s => iv vs (s * ls.length + b)) := by
  have ⟨ht, hr, _⟩ := mon_get h
  have e0 := (tab_get ht).1
  have hi := loI_spec e0 x
  have ⟨a0, _, b0, _, _⟩ := w_bd e0 hi
  have u0 := up_lt e0 hi
  intro a b hab hb
  have g1 := mono_up (n := ls.length) (G := fun l => iv vs (loI ss x * ls.length + l)) (fun l hl => hr _ l hi.1 hl) a b hab hb
  have g2 := mono_up (n := ls.length) (G := fun l => iv vs (up ss (cl ss x) (loI ss x) * ls.length + l)) (fun l hl => hr _ l u0 hl) a b hab hb
  have x1 := Int.mul_le_mul_of_nonneg_left g1 (Int.le_of_lt a0)
  have x2 := Int.mul_le_mul_of_nonneg_left g2 b0
  unfold avS
  exact Int.add_le_add x1 x2
theorem lkS_row (ss ls vs : List Int) (x y : Int) (i k : Nat) : lkS ss ls vs x y i k = avS ss (cl ss x) i (fun s => avS ls (cl ls y) k (fun l => iv vs (s * ls.length + l))) := by
  unfold lkS avS
  simp only [Int.mul_add, Int.mul_assoc]
  omega
theorem swap3 (a b c : Int) : a * (b * c) = b * (a * c) := by rw [← Int.mul_assoc, Int.mul_comm a b, Int.mul_assoc]
theorem lkS_col (ss ls vs : List Int) (x y : Int) (i k : Nat) : lkS ss ls vs x y i k = avS ls (cl ls y) k (fun l => avS ss (cl ss x) i (fun s => iv vs (s * ls.length + l))) := by
  unfold lkS avS
  simp only [Int.mul_add, Int.mul_assoc]
  rw [swap3 (wA ls (cl ls y) k) (wA ss (cl ss x) i), swap3 (wA ls (cl ls y) k) (wB ss (cl ss x) i), swap3 (wB ls (cl ls y) k) (wA ss (cl ss x) i), swap3 (wB ls (cl ls y) k) (wB ss (cl ss x) i)]
  omega
theorem lk_slew {ss ls vs : List Int} (h : monB ss ls vs = true) {x x' : Int} (hx : x ≤ x') (y : Int) {m : Int} (hm : isM m = true) : lkV ss ls vs x y m ≤ lkV ss ls vs x' y m := by
  have ⟨ht, _, _⟩ := mon_get h
  have ⟨e0, e1, _, _⟩ := tab_get ht
  have ⟨a0, _, b0, _, _⟩ := w_bd e0 (loI_spec e0 x)
  have ⟨a0', _, b0', _, _⟩ := w_bd e0 (loI_spec e0 x')
  have ⟨c0, _, d0, _, _⟩ := w_bd e1 (loI_spec e1 y)
  have key := av_mono e0 hx (loI_spec e0 x) (loI_spec e0 x') (row_up h y)
  refine qd_mono (Int.mul_pos (by omega) (by omega)) (Int.mul_pos (by omega) (by omega)) ?_ (isM_or hm)
  rw [lkS_row, lkS_row]
  unfold lkW
  rw [← Int.mul_assoc, ← Int.mul_assoc]
  exact Int.mul_le_mul_of_nonneg_right key (by omega)
theorem lk_load {ss ls vs : List Int} (h : monB ss ls vs = true) (x : Int) {y y' : Int} (hy : y ≤ y') {m : Int} (hm : isM m = true) : lkV ss ls vs x y m ≤ lkV ss ls vs x y' m := by
  have ⟨ht, _, _⟩ := mon_get h
  have ⟨e0, e1, _, _⟩ := tab_get ht
  have ⟨a0, _, b0, _, _⟩ := w_bd e0 (loI_spec e0 x)
  have ⟨c0, _, d0, _, _⟩ := w_bd e1 (loI_spec e1 y)
  have ⟨c0', _, d0', _, _⟩ := w_bd e1 (loI_spec e1 y')
  have key := av_mono e1 hy (loI_spec e1 y) (loI_spec e1 y') (col_up h x)
  refine qd_mono (Int.mul_pos (by omega) (by omega)) (Int.mul_pos (by omega) (by omega)) ?_ (isM_or hm)
  rw [lkS_col, lkS_col]
  unfold lkW
  rw [Int.mul_comm (wA ss (cl ss x) (loI ss x) + wB ss (cl ss x) (loI ss x)), Int.mul_comm (wA ss (cl ss x) (loI ss x) + wB ss (cl ss x) (loI ss x)), ← Int.mul_assoc, ← Int.mul_assoc]
  exact Int.mul_le_mul_of_nonneg_right key (by omega)
end Go.Proofs.Ytckccpcigkbfmaa
