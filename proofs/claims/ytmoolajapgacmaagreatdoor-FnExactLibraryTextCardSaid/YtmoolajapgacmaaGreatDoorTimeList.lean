/-
Plain facts on the text of a time as a list of bytes: its digits' value, that they are digits, where the point stands. No program in it.
-/
import Derived.Lib.ItoaNum
import Derived.Lib.ItoaLen
namespace Go.Proofs.YtmoolajapgacmaaGreatDoor
open Go

/-- The value of a row of digits. -/
def dval (l : List UInt8) : Nat := l.foldl (fun n c => 10 * n + (c.toNat - 48)) 0
theorem dval_snoc (l : List UInt8) (c : UInt8) : dval (l ++ [c]) = 10 * dval l + (c.toNat - 48) := by simp [dval]
theorem dval_from (b : List UInt8) : ∀ x : Nat, b.foldl (fun n c => 10 * n + (c.toNat - 48)) x = x * 10 ^ b.length + dval b := by
  induction b with
  | nil => intro x; simp [dval]
  | cons c b ih =>
    intro x
    unfold dval
    rw [List.foldl_cons, List.foldl_cons, ih, ih (10 * 0 + (c.toNat - 48)), List.length_cons, Nat.pow_succ, Nat.add_mul]
    have e : 10 * x * 10 ^ b.length = x * (10 ^ b.length * 10) := by rw [Nat.mul_comm 10 x, Nat.mul_assoc, Nat.mul_comm 10]
    rw [e]
    simp
    omega
theorem dval_append (a b : List UInt8) : dval (a ++ b) = dval a * 10 ^ b.length + dval b := by
  conv => lhs; unfold dval
  rw [List.foldl_append, dval_from]
  rfl
def isD (c : UInt8) : Prop := 48 ≤ c.toNat ∧ c.toNat ≤ 57
theorem digit_byte (d : Nat) (h : d < 10) : (UInt8.ofNat (48 + d)).toNat = 48 + d := by simp; omega
theorem dec_val (u : Nat) : dval (Lib.decDigits u) = u := by
  induction u using Nat.strongRecOn with
  | _ u ih =>
    by_cases h : u < 10
    · rw [Lib.decDigits, dif_pos h]
      have := digit_byte u h
      simp [dval]
      omega
    · rw [Lib.decDigits, dif_neg h, dval_snoc, ih (u / 10) (by omega), digit_byte _ (by omega)]
      omega
theorem dec_dig (u : Nat) : ∀ c ∈ Lib.decDigits u, isD c := by
  induction u using Nat.strongRecOn with
  | _ u ih =>
    intro c hc
    by_cases h : u < 10
    · rw [Lib.decDigits, dif_pos h] at hc
      obtain rfl : c = UInt8.ofNat (48 + u) := by simpa using hc
      have := digit_byte u h
      exact ⟨by omega, by omega⟩
    · rw [Lib.decDigits, dif_neg h, List.mem_append] at hc
      rcases hc with hc | hc
      · exact ih (u / 10) (by omega) c hc
      · obtain rfl : c = UInt8.ofNat (48 + u % 10) := by simpa using hc
        have := digit_byte (u % 10) (by omega)
        exact ⟨by omega, by omega⟩
/-- Three digits behind the point. -/
theorem dec_thousand (r : Nat) (h : r < 1000) : ∃ a b c : UInt8, Lib.decDigits (1000 + r) = [49, a, b, c] ∧ isD a ∧ isD b ∧ isD c ∧ dval [a, b, c] = r := by
  have e : Lib.decDigits (1000 + r) = [UInt8.ofNat (48 + 1), UInt8.ofNat (48 + r / 100), UInt8.ofNat (48 + r / 10 % 10), UInt8.ofNat (48 + r % 10)] := by
    rw [Lib.decDigits, dif_neg (by omega), Lib.decDigits, dif_neg (by omega), Lib.decDigits, dif_neg (by omega), Lib.decDigits, dif_pos (by omega)]
    have e1 : (1000 + r) / 10 / 10 / 10 = 1 := by omega
    have e2 : (1000 + r) / 10 / 10 % 10 = r / 100 := by omega
    have e3 : (1000 + r) / 10 % 10 = r / 10 % 10 := by omega
    have e4 : (1000 + r) % 10 = r % 10 := by omega
    rw [e1, e2, e3, e4]
    rfl
  refine ⟨_, _, _, e, ?_, ?_, ?_, ?_⟩
  · have := digit_byte (r / 100) (by omega); exact ⟨by omega, by omega⟩
  · have := digit_byte (r / 10 % 10) (by omega); exact ⟨by omega, by omega⟩
  · have := digit_byte (r % 10) (by omega); exact ⟨by omega, by omega⟩
  · have h1 := digit_byte (r / 100) (by omega)
    have h2 := digit_byte (r / 10 % 10) (by omega)
    have h3 := digit_byte (r % 10) (by omega)
    simp only [dval, List.foldl_cons, List.foldl_nil, h1, h2, h3]
    omega
/-- The text of a time from 0 on: the whole, a point, three digits: the value of all digits is the time. -/
theorem fmt_list (t : Nat) : ∃ a b c : UInt8, (Lib.decDigits (1000 + t % 1000)).drop 1 = [a, b, c] ∧ isD a ∧ isD b ∧ isD c ∧ dval (Lib.decDigits (t / 1000) ++ [a, b, c]) = t := by
  obtain ⟨a, b, c, h, ha, hb, hc, hv⟩ := dec_thousand (t % 1000) (by omega)
  refine ⟨a, b, c, by rw [h]; rfl, ha, hb, hc, ?_⟩
  rw [dval_append, dec_val, hv]
  simp
  omega
def keepC (c : UInt8) : Bool := !(c == 46) && !(c == 45)
def digs (l : List UInt8) : List UInt8 := l.filter keepC
theorem keep_dig {c : UInt8} (h : isD c) : keepC c = true := by
  have h1 : c ≠ 46 := by intro e; subst e; exact absurd h.1 (by decide)
  have h2 : c ≠ 45 := by intro e; subst e; exact absurd h.1 (by decide)
  simp [keepC, h1, h2]
theorem digs_digits (l : List UInt8) (h : ∀ c ∈ l, isD c) : digs l = l := by
  unfold digs
  rw [List.filter_eq_self]
  exact fun c hc => keep_dig (h c hc)
theorem digs_app (a b : List UInt8) : digs (a ++ b) = digs a ++ digs b := by simp [digs]
/-- The digits of the text of a time from 0 on. -/
theorem digs_fmt (u : Nat) (hu : u ≤ 1000000000) : (digs (Lib.decDigits (u / 1000) ++ [46] ++ (Lib.decDigits (1000 + u % 1000)).drop 1)).length ≤ 12 ∧ (∀ c ∈ digs (Lib.decDigits (u / 1000) ++ [46] ++ (Lib.decDigits (1000 + u % 1000)).drop 1), isD c) ∧ dval (digs (Lib.decDigits (u / 1000) ++ [46] ++ (Lib.decDigits (1000 + u % 1000)).drop 1)) = u := by
  obtain ⟨a, b, c, h, ha, hb, hc, hv⟩ := fmt_list u
  have hd : ∀ x ∈ [a, b, c], isD x := by
    intro x hx
    simp at hx
    rcases hx with rfl | rfl | rfl <;> assumption
  have e : digs (Lib.decDigits (u / 1000) ++ [46] ++ (Lib.decDigits (1000 + u % 1000)).drop 1) = Lib.decDigits (u / 1000) ++ [a, b, c] := by
    rw [h, digs_app, digs_app, digs_digits _ (dec_dig _), digs_digits _ hd]
    simp [digs, keepC]
  rw [e]
  refine ⟨?_, ?_, hv⟩
  · have h7 : Lib.nDigits (u / 1000) ≤ 7 := by
      apply Classical.byContradiction
      intro hn
      have h8 : 8 ≤ Lib.nDigits (u / 1000) := by omega
      have : (10 : Nat) ^ 7 ≤ u / 1000 := by
        apply Classical.byContradiction
        intro hlt
        have hk : ∀ k v : Nat, v < 10 ^ (k + 1) → Lib.nDigits v ≤ k + 1 := by
          intro k
          induction k with
          | zero => intro v hv; rw [Lib.nDigits_small (by simpa using hv)]; omega
          | succ k ih =>
            intro v hv
            by_cases hs : v < 10
            · rw [Lib.nDigits_small hs]; omega
            · rw [Lib.nDigits_big hs]
              have := ih (v / 10) (by rw [Nat.pow_succ] at hv; omega)
              omega
        have := hk 6 (u / 1000) (by omega)
        omega
      omega
    rw [List.length_append, Lib.decDigits_length]
    simp
    omega
  · intro x hx
    rw [List.mem_append] at hx
    rcases hx with hx | hx
    · exact dec_dig _ x hx
    · exact hd x hx
theorem dec_head (u : Nat) : ∃ c r, Lib.decDigits u = c :: r ∧ c ≠ 45 := by
  cases h : Lib.decDigits u with
  | nil => have := Lib.decDigits_length u; have := Lib.nDigits_pos u; simp [h] at *; omega
  | cons c r =>
    refine ⟨c, r, rfl, ?_⟩
    intro e
    have := dec_dig u c (by rw [h]; simp)
    subst e
    exact absurd this.1 (by decide)
end Go.Proofs.YtmoolajapgacmaaGreatDoor
