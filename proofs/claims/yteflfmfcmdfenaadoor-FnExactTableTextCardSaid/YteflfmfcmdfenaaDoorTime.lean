/-
Contracts of FormatTime (program and model): the text of a time, for all int64.
-/
import Derived.Test.YteflfmfcmdfenaaDoorText
import Derived.Test.YteflfmfcmdfenaaDoorShelf
import Derived.Lib.SmallJoins
import Derived.Lib.LaidTab
namespace Go.Proofs.YteflfmfcmdfenaaDoor
open Go.ChangeShapes Go.WideShapes Go.ChangeAt Go.RowKit
set_option linter.unusedVariables false
theorem dec_len (n : Int) (h : n ≤ 9223372036854775807) : (Lib.decDigits n.toNat).length ≤ 20 := by rw [Lib.decDigits_length]; exact Lib.nDigits_le20 _ (by omega)
theorem dec_pos (n : Int) : 1 ≤ (Lib.decDigits n.toNat).length := by rw [Lib.decDigits_length]; exact Lib.nDigits_pos _
/-- The text of a time from 0 on. -/
def fmtB (t : Int) : ByteArray := (ByteArray.mk (Lib.decDigits (t / 1000).toNat).toArray ++ ByteArray.mk #[46]) ++ (ByteArray.mk (Lib.decDigits (1000 + t % 1000).toNat).toArray).extract 1 (Lib.decDigits (1000 + t % 1000).toNat).length
/-- The text of a time; empty out of range. -/
def fmtS (t : Int) : ByteArray := if inB t (-1000000000) 1000000000 then (if t < 0 then ByteArray.mk #[45] ++ fmtB (-t) else fmtB t) else ByteArray.mk #[]
theorem fmtB_size (t : Int) (h : t ≤ 9223372036854775807) (h0 : 0 ≤ t) : (fmtB t).size ≤ 41 := by
  have l1 := dec_len (1000 + t % 1000) (by omega)
  have l3 := dec_len (t / 1000) (by omega)
  simp [fmtB, ByteArray.size]
  omega
theorem specFormat_pos (t : Int) (w : World) (h : inB t (-1000000000) 1000000000 = true) (h0 : 0 ≤ t) : Calls Tryd.prog 44 #[.int .i64 t] w fun e w' => e = .returned (.string (fmtB t)) ∧ Below w.heap.size w w' := by
  have ⟨i0, i1⟩ := inB_get h
  have l1 := dec_len (1000 + t % 1000) (by omega)
  have l2 := dec_pos (1000 + t % 1000)
  have l3 := dec_len (t / 1000) (by omega)
  have e1 : IntKind.i64.wrap (t.tdiv 1000) = t / 1000 := by rw [Int.tdiv_eq_ediv_of_nonneg h0]; exact IntWalk.i64_in _ (by omega)
  go_enter Tryd.func44, Tryd.ntmps44
  go_wp2_with (first
    | (go_at_call 34; refine (l01In_any _ _ _ _).mono ?_; rintro e wz ⟨rfl, hwz⟩; subst wz)
    | (go_at_call 64; refine (number_any _ _ _ (Nat.lt_succ_self _) (by omega) (by omega)).mono ?_; rintro e w1 ⟨rfl, hb⟩; obtain ⟨hc, hf⟩ := bcell hb; have hz := hb.size; (try simp at hz); (try (have hz := Nat.lt_of_succ_le hz)); (try (have y0 : w.heap.size ≤ w1.heap.size := by omega)); (try (have z0 : w.heap.size < w1.heap.size := by omega)); (try (have z1 : w.heap.size + 1 < w1.heap.size := by omega)); (try (have z2 : w.heap.size + 1 + 1 < w1.heap.size := by omega)); (try (have z3 : w.heap.size + 1 + 1 + 1 < w1.heap.size := by omega)); (try (have z4 : w.heap.size + 1 + 1 + 1 + 1 < w1.heap.size := by omega)); (try (have x0 : wc.heap.size < w1.heap.size := by omega)); (try (have x1 : wc.heap.size ≤ w1.heap.size := by omega))))
  go_region_with (first | (go_at_call 64; refine (number_any _ _ _ (Nat.lt_succ_self _) (by omega) (by omega)).mono ?_; rintro e w1 ⟨rfl, hb⟩; obtain ⟨hc, hf⟩ := bcell hb; have hz := hb.size; (try simp at hz); (try (have hz := Nat.lt_of_succ_le hz)); (try (have y0 : w.heap.size ≤ w1.heap.size := by omega)); (try (have z0 : w.heap.size < w1.heap.size := by omega)); (try (have z1 : w.heap.size + 1 < w1.heap.size := by omega)); (try (have z2 : w.heap.size + 1 + 1 < w1.heap.size := by omega)); (try (have z3 : w.heap.size + 1 + 1 + 1 < w1.heap.size := by omega)); (try (have z4 : w.heap.size + 1 + 1 + 1 + 1 < w1.heap.size := by omega)); (try (have x0 : wc.heap.size < w1.heap.size := by omega)); (try (have x1 : wc.heap.size ≤ w1.heap.size := by omega))))
  all_goals go_wp2_with fail
  all_goals (go_ret; refine ⟨?_, by (repeat (first | (with_reducible exact Below.refl _ _) | (with_reducible assumption) | (with_reducible refine ext_alloc ?_ _) | (with_reducible refine ext_drew ?_) | (with_reducible refine ext_drewN ?_ _) | (with_reducible refine ext_set ?_ (by first | exact Nat.le_refl _ | (simp; done) | (simp; omega) | omega) _) | (with_reducible refine ext_trans ?_ (by assumption))))⟩)
  all_goals simp [Act.put, fmtB]
theorem specFormat_any (t : Int) (w : World) : Calls Tryd.prog 44 #[.int .i64 t] w fun e w' => e = .returned (.string (fmtS t)) ∧ Below w.heap.size w w' := by
  cases h : inB t (-1000000000) 1000000000
  · have hv : fmtS t = ByteArray.mk #[] := by simp [fmtS, h]
    rw [hv]
    clear hv
    go_enter Tryd.func44, Tryd.ntmps44
    go_wp2_with (go_at_call 34; refine (l01In_any _ _ _ _).mono ?_; rintro e wz ⟨rfl, hwz⟩; subst wz)
    go_ret
    exact ⟨rfl, by (repeat (first | (with_reducible exact Below.refl _ _) | (with_reducible assumption) | (with_reducible refine ext_alloc ?_ _) | (with_reducible refine ext_drew ?_) | (with_reducible refine ext_drewN ?_ _) | (with_reducible refine ext_set ?_ (by first | exact Nat.le_refl _ | (simp; done) | (simp; omega) | omega) _) | (with_reducible refine ext_trans ?_ (by assumption))))⟩
  · by_cases h0 : 0 ≤ t
    · have hv : fmtS t = fmtB t := by
        have : ¬ t < 0 := by omega
        simp [fmtS, h, this]
      rw [hv]
      exact specFormat_pos t w h h0
    · have ⟨i0, i1⟩ := inB_get h
      have hn : inB (-t) (-1000000000) 1000000000 = true := inB_yes (by omega) (by omega)
      have hv : fmtS t = ByteArray.mk #[45] ++ fmtB (-t) := by
        have : t < 0 := by omega
        simp [fmtS, h, this]
      rw [hv]
      have hs := fmtB_size (-t) (by omega) (by omega)
      clear hv
      go_enter Tryd.func44, Tryd.ntmps44
      go_wp2_with (first
        | (go_at_call 34; refine (l01In_any _ _ _ _).mono ?_; rintro e wz ⟨rfl, hwz⟩; subst wz)
        | (go_at_call 44; refine (specFormat_pos _ _ hn (by omega)).mono ?_; rintro e w1 ⟨rfl, hb⟩; obtain ⟨hc, hf⟩ := bcell hb; have hz := hb.size; (try simp at hz); (try (have hz := Nat.lt_of_succ_le hz)); (try (have y0 : w.heap.size ≤ w1.heap.size := by omega)); (try (have z0 : w.heap.size < w1.heap.size := by omega)); (try (have z1 : w.heap.size + 1 < w1.heap.size := by omega)); (try (have z2 : w.heap.size + 1 + 1 < w1.heap.size := by omega)); (try (have z3 : w.heap.size + 1 + 1 + 1 < w1.heap.size := by omega)); (try (have z4 : w.heap.size + 1 + 1 + 1 + 1 < w1.heap.size := by omega)); (try (have x0 : wc.heap.size < w1.heap.size := by omega)); (try (have x1 : wc.heap.size ≤ w1.heap.size := by omega))))
      go_ret
      exact ⟨rfl, by (repeat (first | (with_reducible exact Below.refl _ _) | (with_reducible assumption) | (with_reducible refine ext_alloc ?_ _) | (with_reducible refine ext_drew ?_) | (with_reducible refine ext_drewN ?_ _) | (with_reducible refine ext_set ?_ (by first | exact Nat.le_refl _ | (simp; done) | (simp; omega) | omega) _) | (with_reducible refine ext_trans ?_ (by assumption))))⟩
theorem below_grow (w : World) (k : Nat) (os : Array Obj) : Below w.heap.size w (Sort.grow (w.drewN k) os) :=
  ⟨rfl, rfl, rfl, by simp [Sort.grow], fun i hi => by simp [Sort.grow, Array.getElem?_append_left hi]⟩
theorem gPow : Tryd.prog.globalNamed "internal/strconv.uint64pow10" = some 1 := by kernel_rfl
/-- The library's table of powers of ten is what its text says. -/
def Tab (w : World) : Prop := Lib.TabIs Tryd.prog w "internal/strconv.uint64pow10" .u64 Lib.pow10Tab
theorem Tab.keep {w w' : World} (h : Tab w) (hb : Below w.heap.size w w') : Tab w' := Joins.tab_stays gPow h hb (Nat.le_refl _)
theorem formatInt_any (n : Int) (w : World) (h0 : 0 ≤ n) (h1 : n ≤ 9223372036854775807) (ht : Tab w) : Calls Tryd.prog 42 #[.int .i64 n, .int .i64 10] w fun e w' => e = .returned (.string ⟨(Lib.decDigits n.toNat).toArray⟩) ∧ Below w.heap.size w w' :=
  (Tryd.strconv_FormatInt_10 n (by omega) h1 w ht).mono fun e w' ⟨he, k, os, hw⟩ => by
    have hi : Lib.itoa n = Lib.decDigits n.toNat := by
      have : ¬ n < 0 := by omega
      simp [Lib.itoa, this]
    rw [hi] at he
    subst hw
    exact ⟨he, below_grow w k os⟩
theorem implFormat_any (t : Int) (w : World) (ht : Tab w) : Calls Tryd.prog 17 #[.int .i64 t] w fun e w' => e = .returned (.string (fmtS t)) ∧ Below w.heap.size w w' := by
  have HT := Lib.hid ht
  clear ht
  cases h : inB t (-1000000000) 1000000000
  · have hv : fmtS t = ByteArray.mk #[] := by simp [fmtS, h]
    rw [hv]
    clear hv
    go_enter Tryd.func17, Tryd.ntmps17
    go_wp2_with (go_at_call 41; refine (isTime_any _ _).mono ?_; rintro e wz ⟨rfl, hwz⟩; subst wz)
    go_ret
    exact ⟨rfl, by (repeat (first | (with_reducible exact Below.refl _ _) | (with_reducible assumption) | (with_reducible refine ext_alloc ?_ _) | (with_reducible refine ext_drew ?_) | (with_reducible refine ext_drewN ?_ _) | (with_reducible refine ext_set ?_ (by first | exact Nat.le_refl _ | (simp; done) | (simp; omega) | omega) _) | (with_reducible refine ext_trans ?_ (by assumption))))⟩
  · have ⟨i0, i1⟩ := inB_get h
    by_cases h0 : 0 ≤ t
    · have hv : fmtS t = fmtB t := by
        have : ¬ t < 0 := by omega
        simp [fmtS, h, this]
      rw [hv]
      clear hv
      have l1 := dec_len (1000 + t % 1000) (by omega)
      have l2 := dec_pos (1000 + t % 1000)
      have l3 := dec_len (t / 1000) (by omega)
      go_enter Tryd.func17, Tryd.ntmps17
      go_wp2_with (first
        | (go_at_call 41; refine (isTime_any _ _).mono ?_; rintro e wz ⟨rfl, hwz⟩; subst wz)
        | (go_at_call 42; refine (formatInt_any _ _ (by omega) (by omega) (HT.out.keep (by (repeat (first | (with_reducible exact Below.refl _ _) | (with_reducible assumption) | (with_reducible refine ext_alloc ?_ _) | (with_reducible refine ext_drew ?_) | (with_reducible refine ext_drewN ?_ _) | (with_reducible refine ext_set ?_ (by first | exact Nat.le_refl _ | (simp; done) | (simp; omega) | omega) _) | (with_reducible refine ext_trans ?_ (by assumption))))))).mono ?_; rintro e w1 ⟨rfl, hb⟩))
      go_ret
      refine ⟨?_, by (repeat (first | (with_reducible exact Below.refl _ _) | (with_reducible assumption) | (with_reducible refine ext_alloc ?_ _) | (with_reducible refine ext_drew ?_) | (with_reducible refine ext_drewN ?_ _) | (with_reducible refine ext_set ?_ (by first | exact Nat.le_refl _ | (simp; done) | (simp; omega) | omega) _) | (with_reducible refine ext_trans ?_ (by assumption))))⟩
      simp [fmtB]
      rw [show ByteArray.mk #[] = ByteArray.empty from rfl, ByteArray.empty_append]
    · obtain ⟨u, rfl⟩ : ∃ u, t = -u := ⟨-t, by omega⟩
      have hv : fmtS (-u) = ByteArray.mk #[45] ++ fmtB u := by
        unfold fmtS
        rw [h, if_pos rfl, if_pos (by omega), Int.neg_neg]
      rw [hv]
      clear hv
      have hp : 0 ≤ u := by omega
      have hq : u ≤ 1000000000 := by omega
      have l1 := dec_len (1000 + u % 1000) (by omega)
      have l2 := dec_pos (1000 + u % 1000)
      have l3 := dec_len (u / 1000) (by omega)
      go_enter Tryd.func17, Tryd.ntmps17
      go_wp2_with (first
        | (go_at_call 41; refine (isTime_any _ _).mono ?_; rintro e wz ⟨rfl, hwz⟩; subst wz)
        | (go_at_call 42; refine (formatInt_any _ _ (by omega) (by omega) (HT.out.keep (by (repeat (first | (with_reducible exact Below.refl _ _) | (with_reducible assumption) | (with_reducible refine ext_alloc ?_ _) | (with_reducible refine ext_drew ?_) | (with_reducible refine ext_drewN ?_ _) | (with_reducible refine ext_set ?_ (by first | exact Nat.le_refl _ | (simp; done) | (simp; omega) | omega) _) | (with_reducible refine ext_trans ?_ (by assumption))))))).mono ?_; rintro e w1 ⟨rfl, hb⟩))
      go_ret
      refine ⟨?_, by (repeat (first | (with_reducible exact Below.refl _ _) | (with_reducible assumption) | (with_reducible refine ext_alloc ?_ _) | (with_reducible refine ext_drew ?_) | (with_reducible refine ext_drewN ?_ _) | (with_reducible refine ext_set ?_ (by first | exact Nat.le_refl _ | (simp; done) | (simp; omega) | omega) _) | (with_reducible refine ext_trans ?_ (by assumption))))⟩
      simp [fmtB, ByteArray.append_assoc]
end Go.Proofs.YteflfmfcmdfenaaDoor
