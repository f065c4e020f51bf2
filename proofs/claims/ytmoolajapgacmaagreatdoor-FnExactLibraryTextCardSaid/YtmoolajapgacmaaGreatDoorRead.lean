/-
Plain facts on reading a table's text: cutting at a byte, splitting at a byte, numbers read back.
-/
import Derived.Test.YtmoolajapgacmaaGreatDoorTabT
import Derived.Test.YtmoolajapgacmaaGreatDoorTimeBack
import Derived.Lib.SplitLaws
namespace Go.Proofs.YtmoolajapgacmaaGreatDoor
open Go
set_option linter.unusedVariables false
set_option linter.unusedSimpArgs false
theorem index_c (c : UInt8) : ∀ (p r : List UInt8), (∀ x ∈ p, x ≠ c) → Lib.index (p ++ c :: r) [c] = p.length := by
  intro p
  induction p with
  | nil => intro r _; simp [Lib.index, List.isPrefixOf]
  | cons x p ih =>
    intro r h
    have hc : x ≠ c := h x (by simp)
    have hi := ih r (fun y hy => h y (by simp [hy]))
    have h1 : ([c] : List UInt8).isPrefixOf (x :: (p ++ c :: r)) = false := by
      simp [List.isPrefixOf]
      exact fun e => hc e.symm
    have h2 : (Lib.index (p ++ c :: r) [c] == -1) = false := by rw [hi]; simp
    show (if ([c] : List UInt8).isPrefixOf (x :: (p ++ c :: r)) then (0 : Int) else if Lib.index (p ++ c :: r) [c] == -1 then -1 else Lib.index (p ++ c :: r) [c] + 1) = _
    rw [h1, h2, hi]
    simp
theorem index_no (c : UInt8) : ∀ (p : List UInt8), (∀ x ∈ p, x ≠ c) → Lib.index p [c] = -1 := by
  intro p
  induction p with
  | nil => intro _; rfl
  | cons x p ih =>
    intro h
    have hc : x ≠ c := h x (by simp)
    have hi := ih (fun y hy => h y (by simp [hy]))
    have h1 : ([c] : List UInt8).isPrefixOf (x :: p) = false := by
      simp [List.isPrefixOf]
      exact fun e => hc e.symm
    show (if ([c] : List UInt8).isPrefixOf (x :: p) then (0 : Int) else if Lib.index p [c] == -1 then -1 else Lib.index p [c] + 1) = _
    rw [h1, hi]
    simp
theorem cut_c (c : UInt8) (p r : List UInt8) (h : ∀ x ∈ p, x ≠ c) : Lib.cut (p ++ c :: r) [c] = (p, r, true) := by
  unfold Lib.cut
  rw [index_c c p r h, if_pos (by omega)]
  simp
theorem first_c (c : UInt8) : ∀ l : List UInt8, (∀ x ∈ l, x ≠ c) ∨ ∃ a r, l = a ++ c :: r ∧ ∀ x ∈ a, x ≠ c := by
  intro l
  induction l with
  | nil => exact .inl (by simp)
  | cons x l ih =>
    by_cases e : x = c
    · exact .inr ⟨[], l, by simp [e], by simp⟩
    · rcases ih with h | ⟨a, r, rfl, h⟩
      · refine .inl (fun y hy => ?_)
        rcases List.mem_cons.mp hy with rfl | hy
        · exact e
        · exact h y hy
      · refine .inr ⟨x :: a, r, by simp, fun y hy => ?_⟩
        rcases List.mem_cons.mp hy with rfl | hy
        · exact e
        · exact h y hy
/-- A text cut at every byte c. -/
def spl (c : UInt8) : List UInt8 → List (List UInt8)
  | [] => [[]]
  | x :: l => if x = c then [] :: spl c l else match spl c l with | [] => [[x]] | w :: ws => (x :: w) :: ws
theorem spl_hit (c : UInt8) : ∀ a r : List UInt8, (∀ x ∈ a, x ≠ c) → spl c (a ++ c :: r) = a :: spl c r := by
  intro a
  induction a with
  | nil => intro r _; simp [spl]
  | cons x a ih =>
    intro r h
    have hx : x ≠ c := h x (by simp)
    have := ih r (fun y hy => h y (by simp [hy]))
    rw [List.cons_append, spl, if_neg hx, this]
theorem spl_last (c : UInt8) : ∀ a : List UInt8, (∀ x ∈ a, x ≠ c) → spl c a = [a] := by
  intro a
  induction a with
  | nil => intro _; rfl
  | cons x a ih =>
    intro h
    have hx : x ≠ c := h x (by simp)
    rw [spl, if_neg hx, ih (fun y hy => h y (by simp [hy]))]
theorem spl_join (c : UInt8) : ∀ us : List (List UInt8), us ≠ [] → (∀ u ∈ us, ∀ x ∈ u, x ≠ c) → spl c (Lib.join us [c]) = us := by
  intro us
  induction us with
  | nil => intro h _; exact absurd rfl h
  | cons u us ih =>
    intro _ h
    have hu := h u (by simp)
    cases us with
    | nil => rw [Lib.join_one]; exact spl_last c u hu
    | cons v vs =>
      have e : Lib.join (u :: v :: vs) [c] = u ++ c :: Lib.join (v :: vs) [c] := by
        rw [Lib.join_cons, Lib.join_cons]
        simp [Lib.joinTail]
      rw [e, spl_hit c u _ hu, ih (by simp) (fun w hw => h w (by simp [hw]))]
theorem split_spl (c : UInt8) : ∀ (n : Nat) (l : List UInt8), l.length < n → Lib.splitK [c] 0 (Lib.count l [c]) l = spl c l ∧ Lib.count l [c] + 1 = (spl c l).length := by
  intro n
  induction n with
  | zero => intro l h; omega
  | succ n ih =>
    intro l hl
    rcases first_c c l with h | ⟨a, r, rfl, h⟩
    · rw [Lib.count_miss (index_no c l h), spl_last c l h]
      exact ⟨rfl, rfl⟩
    · have hi := index_c c a r h
      have hd : (a ++ c :: r).drop (a.length + [c].length) = r := by simp
      have hc := Lib.count_hit (s := a ++ c :: r) (sub := [c]) (i := a.length) (by simp) hi
      rw [hd] at hc
      have ⟨h1, h2⟩ := ih r (by simp at hl; omega)
      rw [hc, Nat.add_comm 1, spl_hit c a r h]
      refine ⟨?_, by simp; omega⟩
      rw [Lib.splitK, hi, if_neg (by simp), Int.toNat_natCast, hd, h1]
      simp
/-- What strings.Split gives at one byte. -/
theorem splitB_spl (c : UInt8) (s : ByteArray) : (Lib.splitB ⟨#[c]⟩ 0 (Lib.countB s ⟨#[c]⟩) s).map (·.data.toList) = spl c s.data.toList ∧ Lib.countB s ⟨#[c]⟩ + 1 = (spl c s.data.toList).length := by
  rw [Lib.splitB_data]
  exact split_spl c (s.data.toList.length + 1) _ (Nat.lt_succ_self _)
theorem spl_len (c : UInt8) : ∀ l : List UInt8, (spl c l).length ≤ l.length + 1 := by
  intro l
  induction l with
  | nil => simp [spl]
  | cons x l ih =>
    unfold spl
    split
    · simp; omega
    · cases h : spl c l with
      | nil => simp
      | cons w ws => rw [h] at ih; simp at ih ⊢; omega
theorem spl_sz (c : UInt8) : ∀ (l w : List UInt8), w ∈ spl c l → w.length ≤ l.length := by
  intro l
  induction l with
  | nil => intro w hw; simp [spl] at hw; simp [hw]
  | cons x l ih =>
    intro w hw
    unfold spl at hw
    split at hw
    · rcases List.mem_cons.mp hw with rfl | hw
      · simp
      · have := ih w hw; simp; omega
    · cases h : spl c l with
      | nil => rw [h] at hw; simp at hw; simp [hw]
      | cons u us =>
        rw [h] at hw
        rcases List.mem_cons.mp hw with rfl | hw
        · have := ih u (by rw [h]; simp); simp; omega
        · have := ih w (by rw [h]; simp [hw]); simp; omega
theorem itoa_ch (n : Int) : ∀ x ∈ Lib.itoa n, isD x ∨ x = 45 := by
  intro x hx
  unfold Lib.itoa at hx
  split at hx
  · rcases List.mem_cons.mp (by simpa using hx) with h | h
    · exact .inr h
    · exact .inl (dec_dig _ x h)
  · exact .inl (dec_dig _ x hx)
theorem not_sep {x : UInt8} (h : isD x ∨ x = 45) : x ≠ 44 ∧ x ≠ 124 := by
  rcases h with h | rfl
  · constructor
    · intro e; subst e; exact absurd h.1 (by decide)
    · intro e; subst e; exact absurd h.2 (by decide)
  · decide
theorem lk_ch (xs : List Int) : ∀ k, ∀ x ∈ lk xs k, x ≠ 124 := by
  intro k
  induction k with
  | zero => intro x hx; simp [lk] at hx
  | succ k ih =>
    intro x hx
    unfold lk at hx
    rw [List.mem_append, List.mem_append] at hx
    rcases hx with (hx | hx) | hx
    · exact ih x hx
    · split at hx
      · simp at hx
      · obtain rfl : x = 44 := by simpa using hx
        decide
    · exact (not_sep (itoa_ch _ x hx)).2
theorem listL_ch (xs : List Int) : ∀ x ∈ listL xs, x ≠ 124 := lk_ch xs _
theorem listL_spl (xs : List Int) (h : xs ≠ []) : spl 44 (listL xs) = xs.map Lib.itoa := by
  rw [listL_join]
  refine spl_join 44 _ (by simpa using h) (fun u hu x hx => ?_)
  obtain ⟨n, _, rfl⟩ := List.mem_map.mp hu
  exact (not_sep (itoa_ch n x hx)).1
theorem parse_itoa (n : Int) (h0 : -1000000 ≤ n) (h1 : n ≤ 1000000) : Lib.parseIntB 64 (Lib.itoa n) = .ok n := by
  have ne : ∀ u, Lib.decDigits u ≠ [] := fun u e => by
    have := Lib.nDigits_pos u
    rw [← Lib.decDigits_length, e] at this
    simp at this
  by_cases h : n < 0
  · have e : Lib.itoa n = 45 :: Lib.decDigits n.natAbs := by unfold Lib.itoa; rw [if_pos h]
    rw [e, parse_neg _ (ne _) (dec_dig _) (by rw [dec_val]; omega), dec_val]
    congr 1
    omega
  · rw [itoa_nat n (by omega), parse_pos _ (ne _) (dec_dig _) (by rw [dec_val]; omega), dec_val]
    congr 1
    omega
/-- The number of a word; 0 for what is none. -/
def pv (w : List UInt8) : Int := match Lib.parseIntB 64 w with | .ok v => v | _ => 0
theorem pv_ok {w : List UInt8} {v : Int} (h : Lib.parseIntB 64 w = .ok v) : pv w = v := by unfold pv; rw [h]
def vals (l : List UInt8) : List Int := (spl 44 l).map pv
theorem small_mem {xs : List Int} (h : Small xs) : ∀ x ∈ xs, -1000000 ≤ x ∧ x ≤ 1000000 := by
  intro x hx
  obtain ⟨i, hi, rfl⟩ := List.getElem_of_mem hx
  have := h i hi
  simpa [iv, List.getD, hi] using this
theorem vals_list {xs : List Int} (h : Small xs) (hne : xs ≠ []) : vals (listL xs) = xs := by
  unfold vals
  rw [listL_spl xs hne, List.map_map]
  refine (List.map_congr_left (g := id) (fun x hx => ?_)).trans (List.map_id _)
  have ⟨a, b⟩ := small_mem h x hx
  exact pv_ok (parse_itoa x a b)
theorem words_ok {xs : List Int} (h : Small xs) (hne : xs ≠ []) : ∀ w ∈ spl 44 (listL xs), ∃ v, Lib.parseIntB 64 w = .ok v := by
  rw [listL_spl xs hne]
  intro w hw
  obtain ⟨n, hn, rfl⟩ := List.mem_map.mp hw
  have ⟨a, b⟩ := small_mem h n hn
  exact ⟨n, parse_itoa n a b⟩
end Go.Proofs.YtmoolajapgacmaaGreatDoor
