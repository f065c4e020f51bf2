/-
Names: the model's and the program's own check of one, for every string of at most 2^63-1 bytes.
-/
import Derived.Test.YtkpfbnffhhmokaaGreatCellE
namespace Go.Proofs.YtkpfbnffhhmokaaGreat
open Go.ChangeShapes Go.WideShapes Go.ChangeAt Go.RowKit
set_option linter.unusedVariables false
def okC (b : Int) (i : Nat) : Bool := (decide (97 ≤ b) && decide (b ≤ 122)) || ((decide (48 ≤ b) && decide (b ≤ 57)) && decide (0 < i))
def nmOk (s : ByteArray) (i : Nat) : Bool := if h : i < s.size then okC (s[i].toNat : Int) i else false
def nameB (s : ByteArray) : Bool := decide (0 < s.size) && decide (s.size ≤ 8) && allB (nmOk s) s.size
theorem nm_at {s : ByteArray} {k : Nat} (h : k < s.size) : nmOk s k = okC (s[k].toNat : Int) k := by simp [nmOk, h]
theorem name_empty {s : ByteArray} (h : s.size = 0) : nameB s = false := by simp [nameB, h]
theorem name_long {s : ByteArray} (h : 8 < s.size) : nameB s = false := by
 have : ¬ s.size ≤ 8 := by omega
 simp [nameB, this]
theorem name_bad {s : ByteArray} {k : Nat} (hk : k < s.size) (h : okC (s[k].toNat : Int) k = false) : nameB s = false := by simp [nameB, allB_no (p := nmOk s) hk (by rw [nm_at hk]; exact h)]
theorem name_all {s : ByteArray} (h0 : 0 < s.size) (h1 : s.size ≤ 8) (h : ∀ i, i < s.size → nmOk s i = true) : nameB s = true := by simp [nameB, h0, h1, allB_yes h]
theorem okC_cases (b : Int) (i : Nat) : (okC b i = true ∧ 97 ≤ b ∧ b ≤ 122) ∨ (48 ≤ b ∧ b ≤ 57 ∧ ((okC b i = true ∧ 0 < i) ∨ (okC b i = false ∧ i = 0))) ∨ (okC b i = false ∧ (b < 48 ∨ (57 < b ∧ b < 97) ∨ 122 < b)) := by
 by_cases h1 : 97 ≤ b
 ·by_cases h2 : b ≤ 122
  ·exact .inl ⟨by simp [okC, h1, h2], h1, h2⟩
  ·have h3 : ¬ b ≤ 57 := by omega
   exact .inr (.inr ⟨by simp [okC, h2, h3], by omega⟩)
 ·by_cases h3 : 48 ≤ b
  ·by_cases h4 : b ≤ 57
   ·refine .inr (.inl ⟨h3, h4, ?_⟩)
    by_cases h5 : 0 < i
    ·exact .inl ⟨by simp [okC, h3, h4, h5], h5⟩
    ·exact .inr ⟨by simp [okC, h1, h5], by omega⟩
   ·exact .inr (.inr ⟨by simp [okC, h1, h4], by omega⟩)
  ·exact .inr (.inr ⟨by simp [okC, h1, h3], by omega⟩)
set_option maxHeartbeats 1000000 in
theorem specName_any (s : ByteArray) (w : World) (hs : s.size ≤ 9223372036854775807) : Calls Tryz.prog 173 #[.string s] w fun e w' => e = .returned (.bool (nameB s)) ∧ w' = w := by
 go_enter Tryz.func173, Tryz.ntmps173
 go_wp2
 go_loopw [3] (fun i wr => ∃ k : Nat, k ≤ s.size ∧ i = .int .i64 k ∧ Hid (∀ j, j < k → nmOk s j = true) ∧ wr = w) (fun i _ => s.size - (intOf i).toNat)
 case atStart => exact ⟨0, by omega, rfl, lh (fun j hj => absurd hj (Nat.not_lt_zero j)), rfl⟩
 case round =>
  obtain ⟨k, hk, rfl, hall, rfl⟩ := hrel
  by_cases hkn : k < s.size
  ·have hI : (k : Int) < (s.size : Int) := by omega
   have i0 : (0 : Int) ≤ (k : Int) := by omega
   have hat := nm_at hkn
   rcases okC_cases (s[k].toNat : Int) k with ⟨ho, c1, c2⟩ | ⟨c1, c2, ⟨ho, hp⟩ | ⟨ho, hp⟩⟩ | ⟨ho, c | ⟨c1, c2⟩ | c⟩
   ·have hok := lh (all_more hall.out (hat.trans ho))
    have c3 : (48 : Int) ≤ (s[k].toNat : Int) := by omega
    have c4 : ¬ (s[k].toNat : Int) ≤ 57 := by omega
    clear hat ho
    go_wp2
    go_roundw
    case rel => exact ⟨k + 1, by omega, by go_num, hok, by first | rfl | trivial⟩
    case measure => simp [intOf]; omega
   ·have hok := lh (all_more hall.out (hat.trans ho))
    have c3 : ¬ (97 : Int) ≤ (s[k].toNat : Int) := by omega
    have hpI : (0 : Int) < (k : Int) := by omega
    clear hat ho
    go_wp2
    go_roundw
    case rel => exact ⟨k + 1, by omega, by go_num, hok, by first | rfl | trivial⟩
    case measure => simp [intOf]; omega
   ·have hQ := lh (name_bad hkn ho)
    have c3 : ¬ (97 : Int) ≤ (s[k].toNat : Int) := by omega
    clear hat ho
    subst hp
    go_wp2
    rw [hQ.out]
    go_ret
    exact ⟨rfl, rfl⟩
   ·have hQ := lh (name_bad hkn ho)
    have c3 : ¬ (97 : Int) ≤ (s[k].toNat : Int) := by omega
    have c4 : ¬ (48 : Int) ≤ (s[k].toNat : Int) := by omega
    clear hat ho
    go_wp2
    rw [hQ.out]
    go_ret
    exact ⟨rfl, rfl⟩
   ·have hQ := lh (name_bad hkn ho)
    have c3 : ¬ (97 : Int) ≤ (s[k].toNat : Int) := by omega
    have c4 : (48 : Int) ≤ (s[k].toNat : Int) := by omega
    have c5 : ¬ (s[k].toNat : Int) ≤ 57 := by omega
    clear hat ho
    go_wp2
    rw [hQ.out]
    go_ret
    exact ⟨rfl, rfl⟩
   ·have hQ := lh (name_bad hkn ho)
    have c3 : (97 : Int) ≤ (s[k].toNat : Int) := by omega
    have c4 : ¬ (s[k].toNat : Int) ≤ 122 := by omega
    have c5 : (48 : Int) ≤ (s[k].toNat : Int) := by omega
    have c6 : ¬ (s[k].toNat : Int) ≤ 57 := by omega
    clear hat ho
    go_wp2
    rw [hQ.out]
    go_ret
    exact ⟨rfl, rfl⟩
  ·obtain rfl : k = s.size := by omega
   by_cases c0 : s.size = 0
   ·have hQ := lh (name_empty c0)
    have hz : ¬ (1 : Int) ≤ (s.size : Int) := by omega
    go_wp2
    rw [hQ.out]
    go_ret
    exact ⟨rfl, rfl⟩
   ·have hz : (1 : Int) ≤ (s.size : Int) := by omega
    by_cases c8 : s.size ≤ 8
    ·have hQ := lh (name_all (by omega) c8 hall.out)
     have hz8 : (s.size : Int) ≤ 8 := by omega
     go_wp2
     rw [hQ.out]
     go_ret
     exact ⟨rfl, rfl⟩
    ·have hQ := lh (name_long (s := s) (by omega))
     have hz8 : ¬ (s.size : Int) ≤ 8 := by omega
     go_wp2
     rw [hQ.out]
     go_ret
     exact ⟨rfl, rfl⟩
set_option maxHeartbeats 1000000 in
theorem implName_any (s : ByteArray) (w : World) (hs : s.size ≤ 9223372036854775807) : Calls Tryz.prog 197 #[.string s] w fun e w' => e = .returned (.bool (nameB s)) ∧ Below w.heap.size w w' := by
 by_cases c8 : s.size ≤ 8
 ·have hz8 : ¬ (8 : Int) < (s.size : Int) := by omega
  go_enter Tryz.func197, Tryz.ntmps197
  go_wp2
  go_loopw [11] (fun i wr => ∃ k : Nat, k ≤ s.size ∧ i = .int .i64 k ∧ Hid (∀ j, j < k → nmOk s j = true) ∧ Below w.heap.size w wr) (fun i _ => s.size - (intOf i).toNat)
  case atStart => exact ⟨0, by omega, rfl, lh (fun j hj => absurd hj (Nat.not_lt_zero j)), eX⟩
  case round =>
   obtain ⟨k, hk, rfl, hall, hbw⟩ := hrel
   by_cases hkn : k < s.size
   ·have hI : (k : Int) < (s.size : Int) := by omega
    have i0 : (0 : Int) ≤ (k : Int) := by omega
    have hat := nm_at hkn
    rcases okC_cases (s[k].toNat : Int) k with ⟨ho, c1, c2⟩ | ⟨c1, c2, ⟨ho, hp⟩ | ⟨ho, hp⟩⟩ | ⟨ho, c | ⟨c1, c2⟩ | c⟩
    ·have hok := lh (all_more hall.out (hat.trans ho))
     have q0 : decide ((97 : Int) ≤ (s[k].toNat : Int)) = true := decide_eq_true (by omega)
     have q1 : decide ((s[k].toNat : Int) ≤ 122) = true := decide_eq_true (by omega)
     have q2 : decide ((48 : Int) ≤ (s[k].toNat : Int)) = true := decide_eq_true (by omega)
     have q3 : decide ((s[k].toNat : Int) ≤ 57) = false := decide_eq_false (by omega)
     clear hat ho
     go_wp2
     go_region
     go_wp2
     go_roundw
     case rel => exact ⟨k + 1, by omega, by go_num, hok, eX⟩
     case measure => simp [intOf]; omega
    ·have hok := lh (all_more hall.out (hat.trans ho))
     have hp0 : ((k : Int) == 0) = false := by simp; omega
     have q0 : decide ((97 : Int) ≤ (s[k].toNat : Int)) = false := decide_eq_false (by omega)
     have q1 : decide ((s[k].toNat : Int) ≤ 122) = true := decide_eq_true (by omega)
     have q2 : decide ((48 : Int) ≤ (s[k].toNat : Int)) = true := decide_eq_true (by omega)
     have q3 : decide ((s[k].toNat : Int) ≤ 57) = true := decide_eq_true (by omega)
     clear hat ho
     go_wp2
     go_region
     go_wp2
     go_roundw
     case rel => exact ⟨k + 1, by omega, by go_num, hok, eX⟩
     case measure => simp [intOf]; omega
    ·have hQ := lh (name_bad hkn ho)
     have hp0 : ((k : Int) == 0) = true := by simp; omega
     clear hp
     have q0 : decide ((97 : Int) ≤ (s[k].toNat : Int)) = false := decide_eq_false (by omega)
     have q1 : decide ((s[k].toNat : Int) ≤ 122) = true := decide_eq_true (by omega)
     have q2 : decide ((48 : Int) ≤ (s[k].toNat : Int)) = true := decide_eq_true (by omega)
     have q3 : decide ((s[k].toNat : Int) ≤ 57) = true := decide_eq_true (by omega)
     clear hat ho
     go_wp2
     go_region
     all_goals (go_wp2; all_goals (rw [hQ.out]; go_ret; exact ⟨rfl, eX⟩))
    ·have hQ := lh (name_bad hkn ho)
     have q0 : decide ((97 : Int) ≤ (s[k].toNat : Int)) = false := decide_eq_false (by omega)
     have q1 : decide ((s[k].toNat : Int) ≤ 122) = true := decide_eq_true (by omega)
     have q2 : decide ((48 : Int) ≤ (s[k].toNat : Int)) = false := decide_eq_false (by omega)
     have q3 : decide ((s[k].toNat : Int) ≤ 57) = true := decide_eq_true (by omega)
     clear hat ho
     go_wp2
     go_region
     all_goals (go_wp2; all_goals (rw [hQ.out]; go_ret; exact ⟨rfl, eX⟩))
    ·have hQ := lh (name_bad hkn ho)
     have q0 : decide ((97 : Int) ≤ (s[k].toNat : Int)) = false := decide_eq_false (by omega)
     have q1 : decide ((s[k].toNat : Int) ≤ 122) = true := decide_eq_true (by omega)
     have q2 : decide ((48 : Int) ≤ (s[k].toNat : Int)) = true := decide_eq_true (by omega)
     have q3 : decide ((s[k].toNat : Int) ≤ 57) = false := decide_eq_false (by omega)
     clear hat ho
     go_wp2
     go_region
     all_goals (go_wp2; all_goals (rw [hQ.out]; go_ret; exact ⟨rfl, eX⟩))
    ·have hQ := lh (name_bad hkn ho)
     have q0 : decide ((97 : Int) ≤ (s[k].toNat : Int)) = true := decide_eq_true (by omega)
     have q1 : decide ((s[k].toNat : Int) ≤ 122) = false := decide_eq_false (by omega)
     have q2 : decide ((48 : Int) ≤ (s[k].toNat : Int)) = true := decide_eq_true (by omega)
     have q3 : decide ((s[k].toNat : Int) ≤ 57) = false := decide_eq_false (by omega)
     clear hat ho
     go_wp2
     go_region
     all_goals (go_wp2; all_goals (rw [hQ.out]; go_ret; exact ⟨rfl, eX⟩))
   ·obtain rfl : k = s.size := by omega
    have hI : ¬ (s.size : Int) < (s.size : Int) := by omega
    by_cases c0 : s.size = 0
    ·have hQ := lh (name_empty c0)
     obtain rfl : s = ByteArray.empty := by
      cases s with
      | mk d =>
       have : d = #[] := Array.eq_empty_of_size_eq_zero c0
       rw [this]; rfl
     go_wp2
     rw [hQ.out]
     go_ret
     exact ⟨rfl, hbw⟩
    ·have hQ := lh (name_all (by omega) c8 hall.out)
     have hd : ¬ s.data.toList = [] := fun h => by
      have : s.size = 0 := by show s.data.size = 0; rw [← Array.length_toList, h]; rfl
      exact c0 this
     have he : s.toList.isEmpty = false := by
      rw [ByteArray.toList_eq]
      cases hl : s.data.toList with
      | nil => exact absurd hl hd
      | cons _ _ => rfl
     clear hd
     go_wp2
     rw [hQ.out]
     go_ret
     exact ⟨rfl, hbw⟩
 ·have hQ := lh (name_long (s := s) (by omega))
  have hz8 : (8 : Int) < (s.size : Int) := by omega
  go_enter Tryz.func197, Tryz.ntmps197
  go_wp2
  rw [hQ.out]
  go_ret
  exact ⟨rfl, eX⟩
end Go.Proofs.YtkpfbnffhhmokaaGreat
