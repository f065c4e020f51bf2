/-
Plain facts: cutting the text of a time at its point and reading the digits of both parts as one number gives the time (by the shelf's words for strings.Cut and strconv.ParseInt).
-/
import Derived.Test.YtmoolajapgacmaaGreatDoorTimeBytes
import Derived.Lib.Index
import Derived.Lib.IndexMore
import Derived.Lib.ParseIntB
namespace Go.Proofs.YtmoolajapgacmaaGreatDoor
open Go
theorem index_point : ∀ (p r : List UInt8), (∀ c ∈ p, c ≠ 46) → Lib.index (p ++ 46 :: r) [46] = p.length := by
  intro p
  induction p with
  | nil => intro r _; simp [Lib.index, List.isPrefixOf]
  | cons c p ih =>
    intro r h
    have hc : c ≠ 46 := h c (by simp)
    have hi := ih r (fun x hx => h x (by simp [hx]))
    have h1 : ([46] : List UInt8).isPrefixOf (c :: (p ++ 46 :: r)) = false := by
      simp [List.isPrefixOf]
      exact fun e => hc e.symm
    have h2 : (Lib.index (p ++ 46 :: r) [46] == -1) = false := by rw [hi]; simp
    show (if ([46] : List UInt8).isPrefixOf (c :: (p ++ 46 :: r)) then (0 : Int) else if Lib.index (p ++ 46 :: r) [46] == -1 then -1 else Lib.index (p ++ 46 :: r) [46] + 1) = _
    rw [h1, h2, hi]
    simp
theorem cut_point (p r : List UInt8) (h : ∀ c ∈ p, c ≠ 46) : Lib.cut (p ++ 46 :: r) [46] = (p, r, true) := by
  unfold Lib.cut
  rw [index_point p r h, if_pos (by omega)]
  simp
theorem uint_digits (M : Nat) (hM : M ≤ 18446744073709551615) : ∀ (l : List UInt8) (acc : Nat), (∀ c ∈ l, isD c) → acc * 10 ^ l.length + dval l ≤ 99999999999999 → 99999999999999 ≤ M → Lib.parseUintM M acc l = .ok (acc * 10 ^ l.length + dval l) := by
  intro l
  induction l with
  | nil => intro acc _ _ _; simp [Lib.parseUintM, dval]
  | cons c l ih =>
    intro acc hd hb hMM
    have hc := hd c (by simp)
    have e : dval (c :: l) = (c.toNat - 48) * 10 ^ l.length + dval l := by
      conv => lhs; unfold dval
      rw [List.foldl_cons, dval_from]
      simp
    have hp : 1 ≤ 10 ^ l.length := Nat.one_le_pow _ _ (by decide)
    have e2 : acc * 10 ^ (c :: l).length + dval (c :: l) = (acc * 10 + (c.toNat - 48)) * 10 ^ l.length + dval l := by
      rw [e, List.length_cons, Nat.pow_succ, Nat.add_mul, Nat.mul_assoc, Nat.mul_comm (10 ^ l.length) 10]
      omega
    rw [e2] at hb ⊢
    have hle : acc * 10 + (c.toNat - 48) ≤ 99999999999999 := by
      have := Nat.le_mul_of_pos_right (acc * 10 + (c.toNat - 48)) hp
      omega
    have := ih (acc * 10 + (c.toNat - 48)) (fun x hx => hd x (by simp [hx])) hb hMM
    unfold Lib.parseUintM
    rw [if_pos ⟨hc.1, hc.2⟩, if_neg (by omega), if_neg (by omega)]
    exact this
theorem parse_digits (l : List UInt8) (hne : l ≠ []) (h : ∀ c ∈ l, isD c) (hb : dval l ≤ 99999999999999) : Lib.parseUintB 64 l = .ok (dval l) := by
  unfold Lib.parseUintB
  rw [if_neg hne, uint_digits (2 ^ 64 - 1) (by decide) l 0 h (by simpa using hb) (by decide)]
  simp
theorem parse_pos (l : List UInt8) (hne : l ≠ []) (h : ∀ c ∈ l, isD c) (hb : dval l ≤ 99999999999999) : Lib.parseIntB 64 l = .ok (dval l : Int) := by
  cases l with
  | nil => exact absurd rfl hne
  | cons c r =>
    have hc := h c (by simp)
    have h1 : ¬ c.toNat = 43 := by have := hc.1; omega
    have h2 : ¬ c.toNat = 45 := by have := hc.1; omega
    unfold Lib.parseIntB
    simp only [h1, h2, or_self, if_false]
    rw [parse_digits (c :: r) hne h hb]
    simp
    omega
theorem parse_neg (l : List UInt8) (hne : l ≠ []) (h : ∀ c ∈ l, isD c) (hb : dval l ≤ 99999999999999) : Lib.parseIntB 64 (45 :: l) = .ok (-(dval l : Int)) := by
  unfold Lib.parseIntB
  have h1 : (45 : UInt8).toNat = 45 := rfl
  simp only [h1, or_true, if_true]
  rw [parse_digits l hne h hb]
  simp
  omega
/-- The text of a valid time, cut at its point, reads as the time. -/
theorem read_back (t : Int) (h : inB t (-1000000000) 1000000000 = true) : Lib.parseIntB 64 ((Lib.cut (fmtS t).data.toList [46]).1 ++ (Lib.cut (fmtS t).data.toList [46]).2.1) = .ok t := by
  have ⟨i0, i1⟩ := inB_get h
  obtain ⟨u, hu⟩ : ∃ u : Nat, u = t.natAbs := ⟨_, rfl⟩
  obtain ⟨a, b, c, hd, ha, hb, hc, hv⟩ := fmt_list u
  have dg := dec_dig (u / 1000)
  have np : ∀ x ∈ Lib.decDigits (u / 1000), x ≠ 46 := by
    intro x hx e
    have := (dg x hx).1
    subst e
    exact absurd this (by decide)
  have all : ∀ x ∈ Lib.decDigits (u / 1000) ++ [a, b, c], isD x := by
    intro x hx
    rw [List.mem_append] at hx
    rcases hx with hx | hx
    · exact dg x hx
    · simp at hx
      rcases hx with rfl | rfl | rfl <;> assumption
  have ne : Lib.decDigits (u / 1000) ++ [a, b, c] ≠ [] := by simp
  have le : dval (Lib.decDigits (u / 1000) ++ [a, b, c]) ≤ 99999999999999 := by rw [hv]; omega
  by_cases h0 : t < 0
  · have e : fmtS t = ByteArray.mk #[45] ++ fmtB (u : Int) := by
      unfold fmtS
      rw [h, if_pos rfl, if_pos h0]
      have : -t = (u : Int) := by omega
      rw [this]
    have e2 : (fmtS t).data.toList = (45 :: Lib.decDigits (u / 1000)) ++ 46 :: [a, b, c] := by
      rw [e]
      have := fmtB_list u
      rw [hd] at this
      simp [ByteArray.data_append, this]
    rw [e2, cut_point _ _ (by
      intro x hx
      simp at hx
      rcases hx with rfl | hx
      · decide
      · exact np x hx)]
    show Lib.parseIntB 64 (45 :: (Lib.decDigits (u / 1000) ++ [a, b, c])) = _
    rw [parse_neg _ ne all le, hv]
    congr 1
    omega
  · have e : fmtS t = fmtB (u : Int) := by
      unfold fmtS
      rw [h, if_pos rfl, if_neg h0]
      have : t = (u : Int) := by omega
      rw [this]
    have e2 : (fmtS t).data.toList = Lib.decDigits (u / 1000) ++ 46 :: [a, b, c] := by
      rw [e]
      have := fmtB_list u
      rw [hd] at this
      simp [this]
    rw [e2, cut_point _ _ np, parse_pos _ ne all le, hv]
    congr 1
    omega
end Go.Proofs.YtmoolajapgacmaaGreatDoor
