/-
Plain facts on the text of a time (fmtS): its digits, their value, its first byte.
-/
import Derived.Test.YtmoolajapgacmaaGreatDoorTime
import Derived.Test.YtmoolajapgacmaaGreatDoorTimeList
namespace Go.Proofs.YtmoolajapgacmaaGreatDoor
open Go
theorem sz (s : ByteArray) : s.data.toList.length = s.size := by rw [Array.length_toList]; rfl
theorem dval_lt (l : List UInt8) (h : ∀ c ∈ l, isD c) : dval l < 10 ^ l.length := by
  induction l with
  | nil => simp [dval]
  | cons c l ih =>
    have e : dval (c :: l) = (c.toNat - 48) * 10 ^ l.length + dval l := by
      conv => lhs; unfold dval
      rw [List.foldl_cons, dval_from]
      simp
    have h1 := h c (by simp)
    have h2 := ih (fun x hx => h x (by simp [hx]))
    have h3 : (c.toNat - 48) * 10 ^ l.length ≤ 9 * 10 ^ l.length := Nat.mul_le_mul_right _ (by have := h1.2; omega)
    rw [e, List.length_cons, Nat.pow_succ]
    omega
theorem fmtB_list (u : Nat) : (fmtB (u : Int)).data.toList = Lib.decDigits (u / 1000) ++ [46] ++ (Lib.decDigits (1000 + u % 1000)).drop 1 := by
  have e1 : ((u : Int) / 1000).toNat = u / 1000 := by omega
  have e2 : (1000 + (u : Int) % 1000).toNat = 1000 + u % 1000 := by omega
  unfold fmtB
  rw [e1, e2]
  simp [ByteArray.data_append, ByteArray.data_extract]
  exact List.take_of_length_le (by simp)
theorem fmtS_facts (t : Int) (h : inB t (-1000000000) 1000000000 = true) : (digs (fmtS t).data.toList).length ≤ 12 ∧ (∀ c ∈ digs (fmtS t).data.toList, isD c) ∧ (dval (digs (fmtS t).data.toList) : Int) = t.natAbs ∧ ((fmtS t).data.toList.head? = some 45 ↔ t < 0) := by
  have ⟨i0, i1⟩ := inB_get h
  obtain ⟨u, hu⟩ : ∃ u : Nat, u = t.natAbs := ⟨_, rfl⟩
  have f := digs_fmt u (by omega)
  obtain ⟨c, r, hd, hc⟩ := dec_head (u / 1000)
  by_cases h0 : t < 0
  · have e : fmtS t = ByteArray.mk #[45] ++ fmtB (u : Int) := by
      unfold fmtS
      rw [h, if_pos rfl, if_pos h0]
      have : -t = (u : Int) := by omega
      rw [this]
    have e2 : (fmtS t).data.toList = 45 :: (Lib.decDigits (u / 1000) ++ [46] ++ (Lib.decDigits (1000 + u % 1000)).drop 1) := by
      rw [e, ← fmtB_list]
      simp [ByteArray.data_append]
    have e3 : digs (fmtS t).data.toList = digs (Lib.decDigits (u / 1000) ++ [46] ++ (Lib.decDigits (1000 + u % 1000)).drop 1) := by
      rw [e2]
      simp [digs, keepC]
    rw [e3, e2]
    exact ⟨f.1, f.2.1, by rw [f.2.2, hu], by simp [h0]⟩
  · have e : fmtS t = fmtB (u : Int) := by
      unfold fmtS
      rw [h, if_pos rfl, if_neg h0]
      have : t = (u : Int) := by omega
      rw [this]
    rw [e, fmtB_list]
    refine ⟨f.1, f.2.1, by rw [f.2.2, hu], ?_⟩
    rw [hd]
    simp [h0, hc]
end Go.Proofs.YtmoolajapgacmaaGreatDoor
