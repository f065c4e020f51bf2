/-
Loads and delays of a tree of nodes: pure. What is added at a node goes to all nodes above it; a sweep from the last node to the first does the same for all at once.
-/
import Derived.Test.YtodgpjolkfkcpaaGreatTab
namespace Go.Proofs.YtodgpjolkfkcpaaGreat
def bump (v : Nat → Int) (j : Nat) (c : Int) : Nat → Int := fun k => if k = j then v k + c else v k
def addUp (P : Nat → Nat) (c : Int) (j : Nat) (v : Nat → Int) : Nat → Int := if P j < j then addUp P c (P j) (bump v j c) else bump v j c
  termination_by j
theorem addUp_eq (P : Nat → Nat) (c : Int) (j : Nat) (v : Nat → Int) : addUp P c j v = if P j < j then addUp P c (P j) (bump v j c) else bump v j c := by rw [addUp]
def sweep (P : Nat → Nat) : Nat → (Nat → Int) → Nat → Int
  | 0, v => v
  | m + 1, v => if m = 0 then v else sweep P m (bump v (P m) (v m))
theorem bump_comm (v : Nat → Int) (j k : Nat) (c d : Int) : bump (bump v j c) k d = bump (bump v k d) j c := by
  funext i; simp only [bump]; split <;> split <;> omega
theorem addUp_bump (P : Nat → Nat) (c d : Int) (k : Nat) : ∀ j v, addUp P c j (bump v k d) = bump (addUp P c j v) k d := by
  intro j
  induction j using Nat.strongRecOn with
  | _ j ih =>
    intro v
    rw [addUp_eq, addUp_eq P c j v]
    by_cases h : P j < j
    · rw [if_pos h, if_pos h, bump_comm, ih _ h]
    · rw [if_neg h, if_neg h, bump_comm]
theorem sweep_out (P : Nat → Nat) : ∀ m, (∀ i, 0 < i → i < m → P i < i) → ∀ j v c, m ≤ j → sweep P m (bump v j c) = bump (sweep P m v) j c := by
  intro m
  induction m with
  | zero => intro _ j v c _; rfl
  | succ m ih =>
    intro hP j v c hj
    simp only [sweep]
    by_cases h : m = 0
    · rw [if_pos h, if_pos h]
    · rw [if_neg h, if_neg h]
      have e : bump v j c m = v m := by simp only [bump]; rw [if_neg (by omega)]
      rw [e, bump_comm, ih (fun i h0 h1 => hP i h0 (by omega)) _ _ _ (by omega)]
theorem sweep_addUp (P : Nat → Nat) (h0 : P 0 = 0) : ∀ m, (∀ i, 0 < i → i < m → P i < i) → ∀ j v c, j < m → sweep P m (bump v j c) = addUp P c j (sweep P m v) := by
  intro m
  induction m with
  | zero => intro _ j v c hj; exact absurd hj (Nat.not_lt_zero _)
  | succ m ih =>
    intro hP j v c hj
    have hP' : ∀ i, 0 < i → i < m → P i < i := fun i a b => hP i a (by omega)
    simp only [sweep]
    by_cases h : m = 0
    · rw [if_pos h, if_pos h]
      obtain rfl : j = 0 := by omega
      rw [addUp_eq, if_neg (by omega)]
    · rw [if_neg h, if_neg h]
      by_cases hm : j < m
      · have e : bump v j c m = v m := by simp only [bump]; rw [if_neg (by omega)]
        rw [e, bump_comm, ih hP' _ _ _ hm]
      · obtain rfl : j = m := by omega
        have hp := hP j (by omega) (by omega)
        have e : bump v j c j = v j + c := by simp [bump]
        have e2 : bump (bump v j c) (P j) (v j + c) = bump (bump (bump v (P j) (v j)) j c) (P j) c := by
          funext i; simp only [bump]; split <;> split <;> omega
        rw [e, e2, ih hP' _ _ _ hp, sweep_out P j hP' _ _ _ (Nat.le_refl _)]
        rw [addUp_eq P c j, if_pos hp]
def evB (es : List (Nat × Int)) (v : Nat → Int) : Nat → Int := es.foldl (fun v e => bump v e.1 e.2) v
def evU (P : Nat → Nat) (es : List (Nat × Int)) (v : Nat → Int) : Nat → Int := es.foldl (fun v e => addUp P e.2 e.1 v) v
theorem sweep_ev (P : Nat → Nat) (h0 : P 0 = 0) (n : Nat) (hP : ∀ i, 0 < i → i < n → P i < i) : ∀ es v, (∀ e ∈ es, e.1 < n) → sweep P n (evB es v) = evU P es (sweep P n v) := by
  intro es
  induction es with
  | nil => intro v _; rfl
  | cons e es ih =>
    intro v h
    show sweep P n (evB es (bump v e.1 e.2)) = evU P es (addUp P e.2 e.1 (sweep P n v))
    rw [ih _ (fun x hx => h x (List.mem_cons_of_mem _ hx)), sweep_addUp P h0 n hP _ _ _ (h e (List.mem_cons_self ..))]
theorem sweep_zero (P : Nat → Nat) : ∀ n, sweep P n (fun _ => 0) = fun _ => 0 := by
  intro n
  induction n with
  | zero => rfl
  | succ m ih =>
    simp only [sweep]
    split
    · rfl
    · have e : bump (fun _ => 0) (P m) 0 = fun _ => 0 := by funext i; simp [bump]
      rw [e, ih]
def totE (es : List (Nat × Int)) : Int := (es.map (·.2)).sum
theorem addUp_bd (P : Nat → Nat) (c : Int) (hc : 0 ≤ c) : ∀ j v k, v k ≤ addUp P c j v k ∧ addUp P c j v k ≤ v k + c ∧ (j < k → addUp P c j v k = v k) := by
  intro j
  induction j using Nat.strongRecOn with
  | _ j ih =>
    intro v k
    rw [addUp_eq]
    by_cases h : P j < j
    · rw [if_pos h]
      have ⟨a, b, d⟩ := ih _ h (bump v j c) k
      by_cases e : k = j
      · have d' := d (by omega)
        simp only [bump, if_pos e] at d' ⊢ a b
        omega
      · simp only [bump, if_neg e] at a b d ⊢
        refine ⟨a, b, fun hk => d (by omega)⟩
    · rw [if_neg h]
      simp only [bump]
      split <;> omega
theorem evU_bd (P : Nat → Nat) : ∀ es v, (∀ e ∈ es, 0 ≤ e.2) → ∀ k, v k ≤ evU P es v k ∧ evU P es v k ≤ v k + totE es := by
  intro es
  induction es with
  | nil => intro v _ k; exact ⟨Int.le_refl _, by simp [evU, totE]⟩
  | cons e es ih =>
    intro v h k
    have ⟨a, b⟩ := ih (addUp P e.2 e.1 v) (fun x hx => h x (List.mem_cons_of_mem _ hx)) k
    have ⟨a', b', _⟩ := addUp_bd P e.2 (h e (List.mem_cons_self ..)) e.1 v k
    have t : totE (e :: es) = e.2 + totE es := by simp [totE]
    show v k ≤ evU P es (addUp P e.2 e.1 v) k ∧ evU P es (addUp P e.2 e.1 v) k ≤ v k + totE (e :: es)
    omega
def sumTo : Nat → (Nat → Int) → Int
  | 0, _ => 0
  | m + 1, v => sumTo m v + v m
theorem sumTo_out {j : Nat} {c : Int} : ∀ {m : Nat} {v : Nat → Int}, m ≤ j → sumTo m (bump v j c) = sumTo m v := by
  intro m
  induction m with
  | zero => intros; rfl
  | succ m ih =>
    intro v h
    have e : bump v j c m = v m := by simp only [bump]; rw [if_neg (by omega)]
    simp only [sumTo]
    rw [ih (by omega), e]
theorem sumTo_in {j : Nat} {c : Int} : ∀ {m : Nat} {v : Nat → Int}, j < m → sumTo m (bump v j c) = sumTo m v + c := by
  intro m
  induction m with
  | zero => intro v h; exact absurd h (Nat.not_lt_zero _)
  | succ m ih =>
    intro v h
    simp only [sumTo]
    by_cases e : j = m
    · subst e
      rw [sumTo_out (Nat.le_refl _)]
      simp only [bump, if_true]
      omega
    · have e' : bump v j c m = v m := by simp only [bump]; rw [if_neg (by omega)]
      rw [ih (by omega), e']
      omega
theorem sumTo_nn {v : Nat → Int} (h : ∀ k, 0 ≤ v k) : ∀ m, 0 ≤ sumTo m v := by
  intro m
  induction m with
  | zero => exact Int.le_refl _
  | succ m ih => have := h m; simp only [sumTo]; omega
theorem sumTo_le {v : Nat → Int} (h : ∀ k, 0 ≤ v k) {k : Nat} : ∀ {m : Nat}, k < m → v k ≤ sumTo m v := by
  intro m
  induction m with
  | zero => intro e; exact absurd e (Nat.not_lt_zero _)
  | succ m ih =>
    intro e
    simp only [sumTo]
    by_cases e' : k = m
    · subst e'; have := sumTo_nn h k; omega
    · have := ih (by omega); have := h m; omega
theorem sumTo_two {v : Nat → Int} (h : ∀ k, 0 ≤ v k) {j m : Nat} (hj : j < m) : v j + v m ≤ sumTo (m + 1) v := by
  have := sumTo_le h hj; simp only [sumTo]; omega
theorem bump_nn {v : Nat → Int} (h : ∀ k, 0 ≤ v k) {j : Nat} {c : Int} (hc : 0 ≤ c) : ∀ k, 0 ≤ bump v j c k := by
  intro k; have := h k; simp only [bump]; split <;> omega
theorem evB_sum {n : Nat} : ∀ {es : List (Nat × Int)} {v : Nat → Int}, (∀ e ∈ es, e.1 < n) → sumTo n (evB es v) = sumTo n v + totE es := by
  intro es
  induction es with
  | nil => intro v _; simp [evB, totE]
  | cons e es ih =>
    intro v h
    have t : totE (e :: es) = e.2 + totE es := by simp [totE]
    show sumTo n (evB es (bump v e.1 e.2)) = _
    rw [ih (fun x hx => h x (List.mem_cons_of_mem _ hx)), sumTo_in (h e (List.mem_cons_self ..)), t]
    omega
theorem evB_nn : ∀ {es : List (Nat × Int)} {v : Nat → Int}, (∀ e ∈ es, 0 ≤ e.2) → (∀ k, 0 ≤ v k) → ∀ k, 0 ≤ evB es v k := by
  intro es
  induction es with
  | nil => intro v _ h; exact h
  | cons e es ih => intro v h hv; exact ih (fun x hx => h x (List.mem_cons_of_mem _ hx)) (bump_nn hv (h e (List.mem_cons_self ..)))
theorem evB_snoc (es : List (Nat × Int)) (v : Nat → Int) (j : Nat) (c : Int) : evB (es ++ [(j, c)]) v = bump (evB es v) j c := by simp [evB]
theorem evU_snoc (P : Nat → Nat) (es : List (Nat × Int)) (v : Nat → Int) (j : Nat) (c : Int) : evU P (es ++ [(j, c)]) v = addUp P c j (evU P es v) := by simp [evU]
theorem totE_app (a b : List (Nat × Int)) : totE (a ++ b) = totE a + totE b := by simp [totE]
theorem totE_bd (M : Int) : ∀ (es : List (Nat × Int)), (∀ e ∈ es, 0 ≤ e.2 ∧ e.2 ≤ M) → 0 ≤ totE es ∧ totE es ≤ es.length * M := by
  intro es
  induction es with
  | nil => intro _; simp [totE]
  | cons e es ih =>
    intro h
    have t : totE (e :: es) = e.2 + totE es := by simp [totE]
    have a := h e (List.mem_cons_self ..)
    have b := ih (fun x hx => h x (List.mem_cons_of_mem _ hx))
    rw [t]
    simp only [List.length_cons]
    have : ((es.length + 1 : Nat) : Int) * M = es.length * M + M := by rw [Int.natCast_add, Int.add_mul]; simp
    omega
/-- The first m events of a row. -/
def evF (f : Nat → Nat) (c : Nat → Int) (m : Nat) : List (Nat × Int) := (List.range m).map fun i => (f i, c i)
theorem evF_succ (f : Nat → Nat) (c : Nat → Int) (m : Nat) : evF f c (m + 1) = evF f c m ++ [(f m, c m)] := by simp [evF, List.range_succ]
theorem evF_len (f : Nat → Nat) (c : Nat → Int) (m : Nat) : (evF f c m).length = m := by simp [evF]
theorem evF_mem {f : Nat → Nat} {c : Nat → Int} {m : Nat} {p : Nat × Int → Prop} (h : ∀ i, i < m → p (f i, c i)) : ∀ e ∈ evF f c m, p e := by
  intro e he
  simp only [evF, List.mem_map, List.mem_range] at he
  obtain ⟨i, hi, rfl⟩ := he
  exact h i hi
/-- What the copy of a row of capacitances is. -/
theorem evB_caps (c : Nat → Int) : ∀ m k, evB (evF (fun i => i) c m) (fun _ => 0) k = if k < m then c k else 0 := by
  intro m
  induction m with
  | zero => intro k; rfl
  | succ m ih =>
    intro k
    rw [evF_succ, evB_snoc]
    simp only [bump, ih]
    by_cases e : k = m
    · subst e; simp
    · rw [if_neg e]
      by_cases e' : k < m
      · rw [if_pos e', if_pos (by omega)]
      · rw [if_neg e', if_neg (by omega)]
/-- Rows as lists. -/
def rowOf (n : Nat) (v : Nat → Int) : List Int := (List.range n).map v
theorem rowOf_len (n : Nat) (v : Nat → Int) : (rowOf n v).length = n := by simp [rowOf]
theorem rowOf_at {n : Nat} {v : Nat → Int} {k : Nat} (h : k < n) : iv (rowOf n v) k = v k := by simp [rowOf, iv, List.getD, h]
theorem rowOf_succ (n : Nat) (v : Nat → Int) : rowOf (n + 1) v = rowOf n v ++ [v n] := by simp [rowOf, List.range_succ]
theorem rowOf_ext {n : Nat} {u v : Nat → Int} (h : ∀ k, k < n → u k = v k) : rowOf n u = rowOf n v := List.map_congr_left fun k hk => h k (by simpa using hk)
theorem rowOf_iv (xs : List Int) : rowOf xs.length (iv xs) = xs := by
  apply List.ext_getElem
  · simp [rowOf]
  · intro i h1 h2; simp [rowOf, iv, List.getD, h2]
theorem rowOf_bump (n : Nat) (v : Nat → Int) (j : Nat) (c : Int) : (rowOf n v).set j (v j + c) = rowOf n (bump v j c) := by
  apply List.ext_getElem
  · simp [rowOf]
  · intro i h1 h2
    simp only [rowOf, List.getElem_set, List.getElem_map, List.getElem_range, bump]
    by_cases e : j = i
    · subst e; simp
    · rw [if_neg e, if_neg (by omega)]
/-- The sum along the way to the root. -/
def dly (P : Nat → Nat) (r L : Nat → Int) (j : Nat) : Int := if P j < j then dly P r L (P j) + r j * L j else r j * L j
  termination_by j
theorem dly_eq (P : Nat → Nat) (r L : Nat → Int) (j : Nat) : dly P r L j = if P j < j then dly P r L (P j) + r j * L j else r j * L j := by rw [dly]
theorem resload_bd {a b : Int} (h0 : 0 ≤ a) (h1 : a ≤ 1000) (h2 : 0 ≤ b) (h3 : b ≤ 54000) : 0 ≤ a * b ∧ a * b ≤ 54000000 := by
  have e1 : a * b ≤ 1000 * b := Int.mul_le_mul_of_nonneg_right h1 h2
  have e2 := Int.mul_nonneg h0 h2
  omega
theorem dly_bd (P : Nat → Nat) (r L : Nat → Int) (hr : ∀ k, 0 ≤ r k ∧ r k ≤ 1000) (hL : ∀ k, 0 ≤ L k ∧ L k ≤ 54000) : ∀ j, 0 ≤ dly P r L j ∧ dly P r L j ≤ (j + 1) * 54000000 := by
  intro j
  induction j using Nat.strongRecOn with
  | _ j ih =>
    have p := resload_bd (hr j).1 (hr j).2 (hL j).1 (hL j).2
    rw [dly_eq]
    by_cases h : P j < j
    · rw [if_pos h]
      have q := ih _ h
      omega
    · rw [if_neg h]; omega
end Go.Proofs.YtodgpjolkfkcpaaGreat
