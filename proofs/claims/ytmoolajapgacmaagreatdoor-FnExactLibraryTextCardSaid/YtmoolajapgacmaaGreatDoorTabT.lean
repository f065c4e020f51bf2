/-
Contracts of TableText (program and model), for all tables.
-/
import Derived.Test.YtmoolajapgacmaaGreatDoorTabL
import Derived.Test.YtmoolajapgacmaaGreatDoorTime
import Derived.Lib.Join
namespace Go.Proofs.YtmoolajapgacmaaGreatDoor
open Go.ChangeShapes Go.WideShapes Go.ChangeAt Go.RowKit
set_option linter.unusedVariables false
set_option maxRecDepth 100000
/-- The first k numbers of a list in decimal, separated by commas. -/
def lk (xs : List Int) : Nat → List UInt8
  | 0 => []
  | k + 1 => lk xs k ++ (if k = 0 then [] else [44]) ++ Lib.itoa (iv xs k)
def listL (xs : List Int) : List UInt8 := lk xs xs.length
theorem itoa_nat (n : Int) (h : 0 ≤ n) : Lib.itoa n = Lib.decDigits n.toNat := by
  have : ¬ n < 0 := by omega
  simp [Lib.itoa, this]
theorem itoa_len (n : Int) (h0 : -1000000 ≤ n) (h1 : n ≤ 1000000) : (Lib.itoa n).length ≤ 21 := by
  unfold Lib.itoa
  by_cases h : n < 0
  · have := dec_len (-n) (by omega)
    have e : n.natAbs = (-n).toNat := by omega
    rw [if_pos h, e]
    simp
    omega
  · have := dec_len n (by omega)
    rw [if_neg h]
    omega
def Small (xs : List Int) : Prop := ∀ i, i < xs.length → -1000000 ≤ iv xs i ∧ iv xs i ≤ 1000000
theorem lk_len {xs : List Int} (h : Small xs) : ∀ k, k ≤ xs.length → (lk xs k).length ≤ 22 * k := by
  intro k
  induction k with
  | zero => intro _; simp [lk]
  | succ k ih =>
    intro hk
    have h1 := ih (by omega)
    have ⟨h2, h3⟩ := h k (by omega)
    have h4 := itoa_len _ h2 h3
    simp only [lk, List.length_append]
    by_cases e : k = 0
    · subst e
      rw [if_pos rfl, List.length_nil]
      omega
    · rw [if_neg e, List.length_singleton]
      omega
theorem join_snoc (l : List (List UInt8)) (x sep : List UInt8) : Lib.join (l ++ [x]) sep = Lib.join l sep ++ (if l = [] then [] else sep) ++ x := by
  cases l with
  | nil => simp [Lib.join_one, Lib.join_nil]
  | cons y r =>
    rw [List.cons_append, Lib.join_cons, Lib.join_cons]
    simp [Lib.joinTail]
theorem lk_join (xs : List Int) : ∀ k, k ≤ xs.length → lk xs k = Lib.join ((xs.take k).map Lib.itoa) [44] := by
  intro k
  induction k with
  | zero => intro _; simp [lk, Lib.join_nil]
  | succ k ih =>
    intro hk
    have e : xs.take (k + 1) = xs.take k ++ [iv xs k] := by
      rw [List.take_succ_eq_append_getElem (by omega)]
      simp [iv, List.getD, show k < xs.length by omega]
    rw [e, List.map_append, List.map_cons, List.map_nil, join_snoc, lk, ih (by omega)]
    congr 2
    by_cases h : k = 0
    · simp [h]
    · have h2 : ¬ xs.take k = [] := by
        intro hc
        have := congrArg List.length hc
        rw [List.length_take, List.length_nil] at this
        omega
      have h3 : ¬ xs = [] := by intro hc; rw [hc] at hk; simp at hk
      simp [h, h3]
theorem listL_join (xs : List Int) : listL xs = Lib.join (xs.map Lib.itoa) [44] := by
  have := lk_join xs xs.length (Nat.le_refl _)
  rwa [List.take_length] at this
def tabS (ss ls vs : List Int) : ByteArray := if tabB ss ls vs then ByteArray.mk (listL ss ++ [124] ++ listL ls ++ [124] ++ listL vs).toArray else ByteArray.mk #[]
theorem tab_small {ss ls vs : List Int} (h : tabB ss ls vs = true) : Small ss ∧ Small ls ∧ Small vs := by
  have ⟨h0, h1, h2, h3⟩ := tab_get h
  have ⟨_, _, a, _⟩ := ax_get h0
  have ⟨_, _, b, _⟩ := ax_get h1
  exact ⟨fun i hi => by have := a i hi; omega, fun i hi => by have := b i hi; omega, h3⟩
theorem ba_app (a b : List UInt8) : ByteArray.mk a.toArray ++ ByteArray.mk b.toArray = ByteArray.mk (a ++ b).toArray := by
  apply ByteArray.ext
  simp
theorem number_itoa (n : Int) (w : World) (h0 : -1000000 ≤ n) (h1 : n ≤ 1000000) : Calls Tryz.prog 106 #[.int .i64 n] w fun e w' => e = .returned (.string ⟨(Lib.itoa n).toArray⟩) ∧ Below w.heap.size w w' := by
  by_cases h : n < 0
  · obtain ⟨u, rfl⟩ : ∃ u : Int, n = -u := ⟨-n, by omega⟩
    have HI := Lib.hid (show Lib.itoa (-u) = [45] ++ Lib.decDigits u.toNat by
      unfold Lib.itoa
      rw [if_pos h, show (-u).natAbs = u.toNat by omega]
      rfl)
    have hl := dec_len u (by omega)
    have hl3 : ¬ 9223372036854775807 < 1 + (Lib.decDigits u.toNat).length := by omega
    have hl4 : ¬ (9223372036854775807 : Int) < 1 + ((Lib.decDigits u.toNat).length : Int) := by omega
    go_enter Tryz.func106, Tryz.ntmps106
    go_wp2_with (go_at_call 106; refine (number_any (u.toNat + 1) u _ (by omega) (by omega) (by omega)).mono ?_; rintro e w1 ⟨rfl, hb⟩)
    go_ret
    rw [HI.out, ← ba_app]
    exact ⟨rfl, by (repeat (first | (with_reducible exact Below.refl _ _) | (with_reducible assumption) | (with_reducible refine ext_alloc ?_ _) | (with_reducible refine ext_drew ?_) | (with_reducible refine ext_drewN ?_ _) | (with_reducible refine ext_set ?_ (by first | exact Nat.le_refl _ | (simp; done) | (simp; omega) | omega) _) | (with_reducible refine ext_trans ?_ (by assumption))))⟩
  · have h2 := number_any (n.toNat + 1) n w (by omega) (by omega) (by omega)
    rwa [itoa_nat n (by omega)]
theorem specList_any (v : Value) (xs : List Int) (w : World) (h : IntS w w.heap.size v xs) (hx : Small xs) (hm : xs.length ≤ 16) : Calls Tryz.prog 175 #[v] w fun e w' => e = .returned (.string ⟨(listL xs).toArray⟩) ∧ Below w.heap.size w w' := by
  obtain ⟨hn, a, cap, rfl, hx0⟩ := h
  have HS := Lib.hid hx
  have HX := Lib.hid hx0
  have HL := Lib.hid (lk_len hx)
  clear hx hx0
  go_enter Tryz.func175, Tryz.ntmps175
  go_wp2_with fail
  go_loopw [3, 4] (fun s i wr => ∃ k : Nat, k ≤ xs.length ∧ i = .int .i64 k ∧ s = .string ⟨(lk xs k).toArray⟩ ∧ Hid (Below w.heap.size w wr)) (fun _ i _ => xs.length - (intOf i).toNat)
  case atStart => exact ⟨0, by omega, rfl, rfl, Lib.hid (Below.refl _ _)⟩
  case round =>
    obtain ⟨k, hk, rfl, rfl, hb0⟩ := hrel
    by_cases hkn : k < xs.length
    · obtain ⟨b, off, rfl, hlt, hx⟩ := HX.out (by omega)
      have y0 : wr.cell? ⟨b, off + k, none⟩ = some (.int .i64 (iv xs k)) := by rw [hb0.out.cell (by show b < _; omega)]; exact hx k hkn
      have ⟨v0, v1⟩ := HS.out k hkn
      have l0 := HL.out k (by omega)
      have l1 := itoa_len _ v0 v1
      have hb1 := hb0.out
      clear hx
      have LK := Lib.hid (show lk xs (k + 1) = lk xs k ++ (if k = 0 then [] else [44]) ++ Lib.itoa (iv xs k) from rfl)
      by_cases e : k = 0
      · subst e
        have y1 : wr.cell? ⟨b, off, none⟩ = some (.int .i64 (iv xs 0)) := by simpa using y0
        go_wp2_with (go_at_call 106; refine (number_itoa _ _ v0 v1).mono ?_; rintro e w1 ⟨rfl, hb⟩)
        go_roundw
        case rel => exact ⟨1, by omega, by go_num, by rw [LK.out]; simp only [if_pos, lk, ← ba_app]; rfl, Lib.hid (by (repeat (first | (with_reducible exact Below.refl _ _) | (with_reducible assumption) | (with_reducible refine ext_alloc ?_ _) | (with_reducible refine ext_drew ?_) | (with_reducible refine ext_drewN ?_ _) | (with_reducible refine ext_set ?_ (by first | exact Nat.le_refl _ | (simp; done) | (simp; omega) | omega) _) | (with_reducible refine ext_trans ?_ (by assumption)))))⟩
        case measure => simp [intOf]; omega
      · have ek : (0 : Int) < (k : Int) := by omega
        go_wp2_with (go_at_call 106; refine (number_itoa _ _ v0 v1).mono ?_; rintro e w1 ⟨rfl, hb⟩)
        go_roundw
        case rel => exact ⟨k + 1, by omega, by go_num, by rw [LK.out]; simp only [if_neg e, ← ba_app], Lib.hid (by (repeat (first | (with_reducible exact Below.refl _ _) | (with_reducible assumption) | (with_reducible refine ext_alloc ?_ _) | (with_reducible refine ext_drew ?_) | (with_reducible refine ext_drewN ?_ _) | (with_reducible refine ext_set ?_ (by first | exact Nat.le_refl _ | (simp; done) | (simp; omega) | omega) _) | (with_reducible refine ext_trans ?_ (by assumption)))))⟩
        case measure => simp [intOf]; omega
    · obtain rfl : k = xs.length := by omega
      go_wp2
      go_ret
      exact ⟨rfl, hb0.out⟩
theorem specTabT_any (v0 v1 v2 : Value) (ss ls vs : List Int) (w : World) (h0 : IntS w w.heap.size v0 ss) (h1 : IntS w w.heap.size v1 ls) (h2 : IntS w w.heap.size v2 vs) :
    Calls Tryz.prog 133 #[.agg #[v0, v1, v2]] w fun e w' => e = .returned (.string (tabS ss ls vs)) ∧ Below w.heap.size w w' := by
  have H0 := Lib.hid h0; have H1 := Lib.hid h1; have H2 := Lib.hid h2
  obtain ⟨_, a0, c0, rfl, _⟩ := h0; obtain ⟨_, a1, c1, rfl, _⟩ := h1; obtain ⟨_, a2, c2, rfl, _⟩ := h2
  cases ht : tabB ss ls vs
  · have HT := Lib.hid (show tabS ss ls vs = ByteArray.mk #[] by simp [tabS, ht])
    go_enter Tryz.func133, Tryz.ntmps133
    go_wp2_with (go_at_call 174; refine (specIsTable_any _ _ _ _ _ _ _ (H0.out.up (by (repeat (first | (with_reducible exact Below.refl _ _) | (with_reducible assumption) | (with_reducible refine ext_alloc ?_ _) | (with_reducible refine ext_drew ?_) | (with_reducible refine ext_drewN ?_ _) | (with_reducible refine ext_set ?_ (by first | exact Nat.le_refl _ | (simp; done) | (simp; omega) | omega) _) | (with_reducible refine ext_trans ?_ (by assumption)))))) (H1.out.up (by (repeat (first | (with_reducible exact Below.refl _ _) | (with_reducible assumption) | (with_reducible refine ext_alloc ?_ _) | (with_reducible refine ext_drew ?_) | (with_reducible refine ext_drewN ?_ _) | (with_reducible refine ext_set ?_ (by first | exact Nat.le_refl _ | (simp; done) | (simp; omega) | omega) _) | (with_reducible refine ext_trans ?_ (by assumption)))))) (H2.out.up (by (repeat (first | (with_reducible exact Below.refl _ _) | (with_reducible assumption) | (with_reducible refine ext_alloc ?_ _) | (with_reducible refine ext_drew ?_) | (with_reducible refine ext_drewN ?_ _) | (with_reducible refine ext_set ?_ (by first | exact Nat.le_refl _ | (simp; done) | (simp; omega) | omega) _) | (with_reducible refine ext_trans ?_ (by assumption))))))).mono ?_; rintro e w1 ⟨rfl, hb⟩; obtain ⟨hc, hf⟩ := bcell hb; have hz := hb.size; (try simp at hz); (try (have hz := Nat.lt_of_succ_le hz)); (try (have y0 : w.heap.size ≤ w1.heap.size := by omega)); (try (have z0 : w.heap.size < w1.heap.size := by omega)); (try (have z1 : w.heap.size + 1 < w1.heap.size := by omega)); (try (have z2 : w.heap.size + 1 + 1 < w1.heap.size := by omega)); (try (have z3 : w.heap.size + 1 + 1 + 1 < w1.heap.size := by omega)); (try (have z4 : w.heap.size + 1 + 1 + 1 + 1 < w1.heap.size := by omega)); (try (have x0 : wc.heap.size < w1.heap.size := by omega)); (try (have x1 : wc.heap.size ≤ w1.heap.size := by omega)))
    go_ret
    rw [HT.out]
    exact ⟨rfl, by (repeat (first | (with_reducible exact Below.refl _ _) | (with_reducible assumption) | (with_reducible refine ext_alloc ?_ _) | (with_reducible refine ext_drew ?_) | (with_reducible refine ext_drewN ?_ _) | (with_reducible refine ext_set ?_ (by first | exact Nat.le_refl _ | (simp; done) | (simp; omega) | omega) _) | (with_reducible refine ext_trans ?_ (by assumption))))⟩
  · have HT := Lib.hid (show tabS ss ls vs = ByteArray.mk (listL ss ++ [124] ++ listL ls ++ [124] ++ listL vs).toArray by simp [tabS, ht])
    have ⟨k0, k1, k2⟩ := tab_small ht
    have ⟨e0, e1, e2, e3⟩ := tab_get ht
    have ⟨_, n0, _⟩ := ax_get e0
    have ⟨_, n1, _⟩ := ax_get e1
    have n2 : vs.length ≤ 16 := by
      rw [e2]
      exact Nat.le_trans (Nat.mul_le_mul n0 n1) (by omega)
    have l0 : (listL ss).length ≤ 400 := by have := lk_len k0 _ (Nat.le_refl _); unfold listL; omega
    have l1 : (listL ls).length ≤ 400 := by have := lk_len k1 _ (Nat.le_refl _); unfold listL; omega
    have l2 : (listL vs).length ≤ 400 := by have := lk_len k2 _ (Nat.le_refl _); unfold listL; omega
    have lb0 : (listL ss).length + 1 ≤ 9223372036854775807 := by omega
    have lc0 : ¬ 9223372036854775807 < (listL ss).length + 1 := by omega
    have ld0 : ¬ (9223372036854775807 : Int) < ((listL ss).length : Int) + 1 := by omega
    have lb1 : (listL ss).length + 1 + (listL ls).length ≤ 9223372036854775807 := by omega
    have lc1 : ¬ 9223372036854775807 < (listL ss).length + 1 + (listL ls).length := by omega
    have ld1 : ¬ (9223372036854775807 : Int) < ((listL ss).length : Int) + 1 + ((listL ls).length : Int) := by omega
    have lb2 : (listL ss).length + 1 + (listL ls).length + 1 ≤ 9223372036854775807 := by omega
    have lc2 : ¬ 9223372036854775807 < (listL ss).length + 1 + (listL ls).length + 1 := by omega
    have ld2 : ¬ (9223372036854775807 : Int) < ((listL ss).length : Int) + 1 + ((listL ls).length : Int) + 1 := by omega
    have lb3 : (listL ss).length + 1 + (listL ls).length + 1 + (listL vs).length ≤ 9223372036854775807 := by omega
    have lc3 : ¬ 9223372036854775807 < (listL ss).length + 1 + (listL ls).length + 1 + (listL vs).length := by omega
    have ld3 : ¬ (9223372036854775807 : Int) < ((listL ss).length : Int) + 1 + ((listL ls).length : Int) + 1 + ((listL vs).length : Int) := by omega
    have HP0 := Lib.hid (fun (w1 : World) (hb : Below w.heap.size w w1) => specList_any _ ss w1 (H0.out.up hb) k0 (by omega))
    have HP1 := Lib.hid (fun (w1 : World) (hb : Below w.heap.size w w1) => specList_any _ ls w1 (H1.out.up hb) k1 (by omega))
    have HP2 := Lib.hid (fun (w1 : World) (hb : Below w.heap.size w w1) => specList_any _ vs w1 (H2.out.up hb) k2 (by omega))
    clear k0 k1 k2 e0 e1 e2 e3
    go_enter Tryz.func133, Tryz.ntmps133
    go_wp2_with (go_at_call 174; refine (specIsTable_any _ _ _ _ _ _ _ (H0.out.up (by (repeat (first | (with_reducible exact Below.refl _ _) | (with_reducible assumption) | (with_reducible refine ext_alloc ?_ _) | (with_reducible refine ext_drew ?_) | (with_reducible refine ext_drewN ?_ _) | (with_reducible refine ext_set ?_ (by first | exact Nat.le_refl _ | (simp; done) | (simp; omega) | omega) _) | (with_reducible refine ext_trans ?_ (by assumption)))))) (H1.out.up (by (repeat (first | (with_reducible exact Below.refl _ _) | (with_reducible assumption) | (with_reducible refine ext_alloc ?_ _) | (with_reducible refine ext_drew ?_) | (with_reducible refine ext_drewN ?_ _) | (with_reducible refine ext_set ?_ (by first | exact Nat.le_refl _ | (simp; done) | (simp; omega) | omega) _) | (with_reducible refine ext_trans ?_ (by assumption)))))) (H2.out.up (by (repeat (first | (with_reducible exact Below.refl _ _) | (with_reducible assumption) | (with_reducible refine ext_alloc ?_ _) | (with_reducible refine ext_drew ?_) | (with_reducible refine ext_drewN ?_ _) | (with_reducible refine ext_set ?_ (by first | exact Nat.le_refl _ | (simp; done) | (simp; omega) | omega) _) | (with_reducible refine ext_trans ?_ (by assumption))))))).mono ?_; rintro e w1 ⟨rfl, hb⟩; obtain ⟨hc, hf⟩ := bcell hb; have hz := hb.size; (try simp at hz); (try (have hz := Nat.lt_of_succ_le hz)); (try (have y0 : w.heap.size ≤ w1.heap.size := by omega)); (try (have z0 : w.heap.size < w1.heap.size := by omega)); (try (have z1 : w.heap.size + 1 < w1.heap.size := by omega)); (try (have z2 : w.heap.size + 1 + 1 < w1.heap.size := by omega)); (try (have z3 : w.heap.size + 1 + 1 + 1 < w1.heap.size := by omega)); (try (have z4 : w.heap.size + 1 + 1 + 1 + 1 < w1.heap.size := by omega)); (try (have x0 : wc.heap.size < w1.heap.size := by omega)); (try (have x1 : wc.heap.size ≤ w1.heap.size := by omega)))
    have q0 : w1.cell? ⟨w.heap.size, 0, none⟩ = some (.slice a0 ss.length c0) := by simp [go_sem, *]
    have q1 : w1.cell? ⟨w.heap.size, 1, none⟩ = some (.slice a1 ls.length c1) := by simp [go_sem, *]
    have q2 : w1.cell? ⟨w.heap.size, 2, none⟩ = some (.slice a2 vs.length c2) := by simp [go_sem, *]
    have z0 : w.heap.size < w1.heap.size := cell_lt q0
    have HK := Lib.hid (show K3 w w1 _ _ _ from ⟨q0, q1, q2, by (repeat (first | (with_reducible exact Below.refl _ _) | (with_reducible assumption) | (with_reducible refine ext_alloc ?_ _) | (with_reducible refine ext_drew ?_) | (with_reducible refine ext_drewN ?_ _) | (with_reducible refine ext_set ?_ (by first | exact Nat.le_refl _ | (simp; done) | (simp; omega) | omega) _) | (with_reducible refine ext_trans ?_ (by assumption)))), z0⟩)
    clear hc hf hz
    go_region_held3 (fun w' => w'.cell? ⟨w.heap.size, 0, none⟩ = some (.slice a0 ss.length c0) ∧ w'.cell? ⟨w.heap.size, 1, none⟩ = some (.slice a1 ls.length c1) ∧ w'.cell? ⟨w.heap.size, 2, none⟩ = some (.slice a2 vs.length c2) ∧ Below w.heap.size w w' ∧ w.heap.size < w'.heap.size) ((show K3 w _ _ _ _; repeat (first | (with_reducible exact (Hid.out (by with_reducible assumption))) | (with_reducible assumption) | (with_reducible refine K3.alloc ?_ _) | (with_reducible refine K3.drew ?_) | (with_reducible refine K3.set ?_ (by first | omega | (simp; omega)) _)))) (first | (go_at_call 175; with_reducible refine (HP0.out _ (by (repeat (first | (with_reducible exact Below.refl _ _) | (with_reducible assumption) | (with_reducible refine ext_alloc ?_ _) | (with_reducible refine ext_drew ?_) | (with_reducible refine ext_drewN ?_ _) | (with_reducible refine ext_set ?_ (by first | exact Nat.le_refl _ | (simp; done) | (simp; omega) | omega) _) | (with_reducible refine ext_trans ?_ (by assumption)))))).mono ?_; rintro e w1 ⟨rfl, hb⟩; obtain ⟨hc, hf⟩ := bcell hb; have hz := hb.size; (try simp at hz); (try (have hz := Nat.lt_of_succ_le hz)); have hS := Lib.hid (K3.call (by with_reducible assumption) hb); have zL := (Hid.out hS).2.2.2.2) | (go_at_call 175; with_reducible refine (HP1.out _ (by (repeat (first | (with_reducible exact Below.refl _ _) | (with_reducible assumption) | (with_reducible refine ext_alloc ?_ _) | (with_reducible refine ext_drew ?_) | (with_reducible refine ext_drewN ?_ _) | (with_reducible refine ext_set ?_ (by first | exact Nat.le_refl _ | (simp; done) | (simp; omega) | omega) _) | (with_reducible refine ext_trans ?_ (by assumption)))))).mono ?_; rintro e w1 ⟨rfl, hb⟩; obtain ⟨hc, hf⟩ := bcell hb; have hz := hb.size; (try simp at hz); (try (have hz := Nat.lt_of_succ_le hz)); have hS := Lib.hid (K3.call (by with_reducible assumption) hb); have zL := (Hid.out hS).2.2.2.2) | (go_at_call 175; with_reducible refine (HP2.out _ (by (repeat (first | (with_reducible exact Below.refl _ _) | (with_reducible assumption) | (with_reducible refine ext_alloc ?_ _) | (with_reducible refine ext_drew ?_) | (with_reducible refine ext_drewN ?_ _) | (with_reducible refine ext_set ?_ (by first | exact Nat.le_refl _ | (simp; done) | (simp; omega) | omega) _) | (with_reducible refine ext_trans ?_ (by assumption)))))).mono ?_; rintro e w1 ⟨rfl, hb⟩; obtain ⟨hc, hf⟩ := bcell hb; have hz := hb.size; (try simp at hz); (try (have hz := Nat.lt_of_succ_le hz)); have hS := Lib.hid (K3.call (by with_reducible assumption) hb); have zL := (Hid.out hS).2.2.2.2))
    all_goals (go_wp2_with fail; go_ret; rw [HT.out, ← ba_app, ← ba_app, ← ba_app, ← ba_app]; exact ⟨rfl, by (repeat (first | (with_reducible exact Below.refl _ _) | (with_reducible assumption) | (with_reducible refine ext_alloc ?_ _) | (with_reducible refine ext_drew ?_) | (with_reducible refine ext_drewN ?_ _) | (with_reducible refine ext_set ?_ (by first | exact Nat.le_refl _ | (simp; done) | (simp; omega) | omega) _) | (with_reducible refine ext_trans ?_ (by assumption))))⟩)
theorem Tryz.infoStr : (Tryz.prog.info? 9).map (fun i => (i.zero, i.size, i.bytes)) = some (some (.string ⟨#[]⟩), 1, 16) := by kernel_rfl
/-- A row of n cells, of which the first k hold the texts of xs. -/
def SRow (w : World) (g n k : Nat) (xs : List Int) : Prop :=
  g < w.heap.size ∧ (∀ j, j < n → w.frozen? ⟨g, j, none⟩ = false ∧ ∃ u, w.cell? ⟨g, j, none⟩ = some u) ∧ ∀ i, i < k → w.cell? ⟨g, i, none⟩ = some (.string ⟨(Lib.itoa (iv xs i)).toArray⟩)
theorem SRow.keep {w w' : World} {g n k : Nat} {xs : List Int} (h : SRow w g n k xs) (hb : Below w.heap.size w w') : SRow w' g n k xs := by
  obtain ⟨h0, h1, h2⟩ := h
  refine ⟨Nat.lt_of_lt_of_le h0 hb.size, fun j hj => ⟨by rw [hb.frozen (by exact h0)]; exact (h1 j hj).1, ?_⟩, fun i hi => cell_keep (h2 i hi) hb⟩
  obtain ⟨u, hu⟩ := (h1 j hj).2
  exact ⟨u, cell_keep hu hb⟩
theorem SRow.store {w : World} {g n k : Nat} {xs : List Int} (h : SRow w g n k xs) (hk : k < n) : SRow (w.setCell ⟨g, k, none⟩ (.string ⟨(Lib.itoa (iv xs k)).toArray⟩)) g n (k + 1) xs := by
  obtain ⟨h0, h1, h2⟩ := h
  obtain ⟨u0, e0⟩ := (h1 k hk).2
  refine ⟨by simpa [World.setCell] using h0, fun j hj => ⟨by simp [(h1 j hj).1], ?_⟩, fun i hi => ?_⟩
  · by_cases a : j = k
    · subst a; exact ⟨_, cs_same e0⟩
    · rw [cs_other (by omega)]; exact (h1 j hj).2
  · by_cases e : i = k
    · subst e; exact cs_same e0
    · rw [cs_other (by omega)]; exact h2 i (by omega)
theorem formatItoa (n : Int) (w : World) (h0 : -9223372036854775808 ≤ n) (h1 : n ≤ 9223372036854775807) (ht : Tab w) : Calls Tryz.prog 110 #[.int .i64 n, .int .i64 10] w fun e w' => e = .returned (.string ⟨(Lib.itoa n).toArray⟩) ∧ Below w.heap.size w w' :=
  (Tryz.strconv_FormatInt_10 n h0 h1 w ht).mono fun e w' ⟨he, k, os, hw⟩ => ⟨he, by subst hw; exact below_grow w k os⟩
set_option maxHeartbeats 1000000 in
theorem numbers_any (v : Value) (xs : List Int) (w : World) (h : IntS w w.heap.size v xs) (hx : Small xs) (hm : xs.length ≤ 16) (hp : 0 < xs.length) (ht : Tab w) : Calls Tryz.prog 167 #[v] w fun e w' => e = .returned (.string ⟨(listL xs).toArray⟩) ∧ Below w.heap.size w w' := by
  obtain ⟨i0, hi, hz0, hz1, hz2⟩ := info_parts Tryz.infoStr
  obtain ⟨hn, a, cap, rfl, hx0⟩ := h
  obtain ⟨b, off, rfl, hlt, hx1⟩ := hx0 hp
  have HT := Lib.hid ht
  have HX := Lib.hid hx1
  have HS := Lib.hid hx
  have HL := Lib.hid (lk_len hx xs.length (Nat.le_refl _))
  clear hx0 hx1 ht hx
  go_enter Tryz.func167, Tryz.ntmps167
  go_wp2_with (at_make; refine wpList_make_full _ rfl _ _ 74 rfl w.heap.size 9 i0 (.string ⟨#[]⟩) 1 Tryz.underlying74 hi hz0 hz1 .i64 .i64 _ _ xs.length rfl rfl rfl rfl (by rw [hz2]; omega) (by unfold maxLen; omega) (Nat.le_refl _) ?_; intro w0 hown0 hgrow0; have hb0 := below_grown hgrow0; clear hgrow0)
  have hr0 : SRow w0 w.heap.size xs.length 0 xs := by
    rcases IRow.made (xs := xs) hown0 with hr | hr
    · exact ⟨hr.1, hr.2.1, fun i hi => absurd hi (Nat.not_lt_zero _)⟩
    · omega
  have B0 := Lib.hid hb0
  clear hown0 hb0
  go_loopw [11] (fun i wr => ∃ k : Nat, k ≤ xs.length ∧ i = .int .i64 k ∧ Hid (SRow wr w.heap.size xs.length k xs) ∧ Hid (Below w.heap.size w wr)) (fun i _ => xs.length - (intOf i).toNat)
  case atStart => exact ⟨0, by omega, rfl, Lib.hid hr0, B0⟩
  case round =>
    clear hr0 B0
    obtain ⟨k, hk, rfl, hr, hbw⟩ := hrel
    have hb1 := hbw.out
    by_cases hkn : k < xs.length
    · have y0 : wr.cell? ⟨b, off + k, none⟩ = some (.int .i64 (iv xs k)) := by rw [hb1.cell (by show b < _; omega)]; exact HX.out k hkn
      have ⟨v0, v1⟩ := HS.out k hkn
      go_wp2_with fail
      go_at_call 110
      refine (formatItoa _ _ (by omega) (by omega) (HT.out.keep hb1)).mono ?_
      rintro e w1 ⟨rfl, hb⟩
      have hr1 := hr.out.keep hb
      obtain ⟨u0, e0⟩ := (hr1.2.1 k (by omega)).2
      have f0 := (hr1.2.1 k (by omega)).1
      have hrs := Lib.hid (hr1.store hkn)
      have hbn := Lib.hid (show Below w.heap.size w w1 from ext_trans hb1 hb)
      clear hr1 hr y0 hb hb1
      go_wp2
      go_roundw
      case rel => exact ⟨k + 1, by omega, by go_num, hrs, Lib.hid (ext_set hbn.out (Nat.le_refl _) _)⟩
      case measure => simp [intOf]; omega
    · obtain rfl : k = xs.length := by omega
      have hcl : (xs.map fun n => (⟨(Lib.itoa n).toArray⟩ : ByteArray)).length = xs.length := by simp
      have hj : ((xs.map fun n => (⟨(Lib.itoa n).toArray⟩ : ByteArray)).map (·.data.toList)) = xs.map Lib.itoa := by simp
      have hcon := Tryz.strings_Join w.heap.size 0 xs.length (xs.map fun n => ⟨(Lib.itoa n).toArray⟩) ⟨#[44]⟩ wr (fun j x hjx => by
        have hj1 : j < xs.length := by
          have := (List.getElem?_eq_some_iff.1 hjx).1
          simpa using this
        have e1 : x = ⟨(Lib.itoa (iv xs j)).toArray⟩ := by
          simp [List.getElem?_eq_getElem hj1] at hjx
          simp [iv, List.getD, hj1, ← hjx]
        rw [e1]
        simpa using hr.out.2.2 j hj1) hr.out.1 (by rw [hcl]; omega) (by rw [hcl]; omega) (by
          rw [hj]
          have := HL.out
          rw [show lk xs xs.length = listL xs from rfl, listL_join] at this
          exact Nat.le_trans this (by omega))
      rw [hcl, hj] at hcon
      have hcon' := Lib.hid hcon
      have HJ := Lib.hid (listL_join xs)
      clear hcon hcl hj hr
      go_wp2_with fail
      go_at_call 66
      refine hcon'.out.mono ?_
      rintro e w1 ⟨rfl, hb⟩
      go_wp2
      go_ret
      rw [HJ.out]
      exact ⟨rfl, ext_trans hb1 hb⟩
theorem tab_pos0 {ss ls vs : List Int} (h : tabB ss ls vs = true) : 0 < vs.length := by
  have ⟨h0, h1, h2, _⟩ := tab_get h
  have ⟨a, _⟩ := ax_get h0
  have ⟨b, _⟩ := ax_get h1
  rw [h2]
  exact Nat.mul_pos a b
theorem implTabT_any (v0 v1 v2 : Value) (ss ls vs : List Int) (w : World) (h0 : IntS w w.heap.size v0 ss) (h1 : IntS w w.heap.size v1 ls) (h2 : IntS w w.heap.size v2 vs) (htab : Tab w) :
    Calls Tryz.prog 114 #[.agg #[v0, v1, v2]] w fun e w' => e = .returned (.string (tabS ss ls vs)) ∧ Below w.heap.size w w' := by
  have HTb := Lib.hid htab
  clear htab
  have H0 := Lib.hid h0; have H1 := Lib.hid h1; have H2 := Lib.hid h2
  obtain ⟨_, a0, c0, rfl, _⟩ := h0; obtain ⟨_, a1, c1, rfl, _⟩ := h1; obtain ⟨_, a2, c2, rfl, _⟩ := h2
  cases ht : tabB ss ls vs
  · have HT := Lib.hid (show tabS ss ls vs = ByteArray.mk #[] by simp [tabS, ht])
    go_enter Tryz.func114, Tryz.ntmps114
    go_wp2_with (go_at_call 166; refine (implIsTable_any _ _ _ _ _ _ _ (H0.out.up (by (repeat (first | (with_reducible exact Below.refl _ _) | (with_reducible assumption) | (with_reducible refine ext_alloc ?_ _) | (with_reducible refine ext_drew ?_) | (with_reducible refine ext_drewN ?_ _) | (with_reducible refine ext_set ?_ (by first | exact Nat.le_refl _ | (simp; done) | (simp; omega) | omega) _) | (with_reducible refine ext_trans ?_ (by assumption)))))) (H1.out.up (by (repeat (first | (with_reducible exact Below.refl _ _) | (with_reducible assumption) | (with_reducible refine ext_alloc ?_ _) | (with_reducible refine ext_drew ?_) | (with_reducible refine ext_drewN ?_ _) | (with_reducible refine ext_set ?_ (by first | exact Nat.le_refl _ | (simp; done) | (simp; omega) | omega) _) | (with_reducible refine ext_trans ?_ (by assumption)))))) (H2.out.up (by (repeat (first | (with_reducible exact Below.refl _ _) | (with_reducible assumption) | (with_reducible refine ext_alloc ?_ _) | (with_reducible refine ext_drew ?_) | (with_reducible refine ext_drewN ?_ _) | (with_reducible refine ext_set ?_ (by first | exact Nat.le_refl _ | (simp; done) | (simp; omega) | omega) _) | (with_reducible refine ext_trans ?_ (by assumption))))))).mono ?_; rintro e w1 ⟨rfl, hb⟩; obtain ⟨hc, hf⟩ := bcell hb; have hz := hb.size; (try simp at hz); (try (have hz := Nat.lt_of_succ_le hz)); (try (have y0 : w.heap.size ≤ w1.heap.size := by omega)); (try (have z0 : w.heap.size < w1.heap.size := by omega)); (try (have z1 : w.heap.size + 1 < w1.heap.size := by omega)); (try (have z2 : w.heap.size + 1 + 1 < w1.heap.size := by omega)); (try (have z3 : w.heap.size + 1 + 1 + 1 < w1.heap.size := by omega)); (try (have z4 : w.heap.size + 1 + 1 + 1 + 1 < w1.heap.size := by omega)); (try (have x0 : wc.heap.size < w1.heap.size := by omega)); (try (have x1 : wc.heap.size ≤ w1.heap.size := by omega)))
    go_ret
    rw [HT.out]
    exact ⟨rfl, by (repeat (first | (with_reducible exact Below.refl _ _) | (with_reducible assumption) | (with_reducible refine ext_alloc ?_ _) | (with_reducible refine ext_drew ?_) | (with_reducible refine ext_drewN ?_ _) | (with_reducible refine ext_set ?_ (by first | exact Nat.le_refl _ | (simp; done) | (simp; omega) | omega) _) | (with_reducible refine ext_trans ?_ (by assumption))))⟩
  · have HT := Lib.hid (show tabS ss ls vs = ByteArray.mk (listL ss ++ [124] ++ listL ls ++ [124] ++ listL vs).toArray by simp [tabS, ht])
    have ⟨k0, k1, k2⟩ := tab_small ht
    have ⟨e0, e1, e2, e3⟩ := tab_get ht
    have ⟨p0, n0, _⟩ := ax_get e0
    have ⟨p1, n1, _⟩ := ax_get e1
    have p2 : 0 < vs.length := (tab_pos0 ht)
    have n2 : vs.length ≤ 16 := by
      rw [e2]
      exact Nat.le_trans (Nat.mul_le_mul n0 n1) (by omega)
    have l0 : (listL ss).length ≤ 400 := by have := lk_len k0 _ (Nat.le_refl _); unfold listL; omega
    have l1 : (listL ls).length ≤ 400 := by have := lk_len k1 _ (Nat.le_refl _); unfold listL; omega
    have l2 : (listL vs).length ≤ 400 := by have := lk_len k2 _ (Nat.le_refl _); unfold listL; omega
    have lb0 : (listL ss).length + 1 ≤ 9223372036854775807 := by omega
    have lc0 : ¬ 9223372036854775807 < (listL ss).length + 1 := by omega
    have ld0 : ¬ (9223372036854775807 : Int) < ((listL ss).length : Int) + 1 := by omega
    have lb1 : (listL ss).length + 1 + (listL ls).length ≤ 9223372036854775807 := by omega
    have lc1 : ¬ 9223372036854775807 < (listL ss).length + 1 + (listL ls).length := by omega
    have ld1 : ¬ (9223372036854775807 : Int) < ((listL ss).length : Int) + 1 + ((listL ls).length : Int) := by omega
    have lb2 : (listL ss).length + 1 + (listL ls).length + 1 ≤ 9223372036854775807 := by omega
    have lc2 : ¬ 9223372036854775807 < (listL ss).length + 1 + (listL ls).length + 1 := by omega
    have ld2 : ¬ (9223372036854775807 : Int) < ((listL ss).length : Int) + 1 + ((listL ls).length : Int) + 1 := by omega
    have lb3 : (listL ss).length + 1 + (listL ls).length + 1 + (listL vs).length ≤ 9223372036854775807 := by omega
    have lc3 : ¬ 9223372036854775807 < (listL ss).length + 1 + (listL ls).length + 1 + (listL vs).length := by omega
    have ld3 : ¬ (9223372036854775807 : Int) < ((listL ss).length : Int) + 1 + ((listL ls).length : Int) + 1 + ((listL vs).length : Int) := by omega
    have HP0 := Lib.hid (fun (w1 : World) (hb : Below w.heap.size w w1) => numbers_any _ ss w1 (H0.out.up hb) k0 (by omega) p0 (HTb.out.keep hb))
    have HP1 := Lib.hid (fun (w1 : World) (hb : Below w.heap.size w w1) => numbers_any _ ls w1 (H1.out.up hb) k1 (by omega) p1 (HTb.out.keep hb))
    have HP2 := Lib.hid (fun (w1 : World) (hb : Below w.heap.size w w1) => numbers_any _ vs w1 (H2.out.up hb) k2 (by omega) p2 (HTb.out.keep hb))
    clear k0 k1 k2 e0 e1 e2 e3
    go_enter Tryz.func114, Tryz.ntmps114
    go_wp2_with (go_at_call 166; refine (implIsTable_any _ _ _ _ _ _ _ (H0.out.up (by (repeat (first | (with_reducible exact Below.refl _ _) | (with_reducible assumption) | (with_reducible refine ext_alloc ?_ _) | (with_reducible refine ext_drew ?_) | (with_reducible refine ext_drewN ?_ _) | (with_reducible refine ext_set ?_ (by first | exact Nat.le_refl _ | (simp; done) | (simp; omega) | omega) _) | (with_reducible refine ext_trans ?_ (by assumption)))))) (H1.out.up (by (repeat (first | (with_reducible exact Below.refl _ _) | (with_reducible assumption) | (with_reducible refine ext_alloc ?_ _) | (with_reducible refine ext_drew ?_) | (with_reducible refine ext_drewN ?_ _) | (with_reducible refine ext_set ?_ (by first | exact Nat.le_refl _ | (simp; done) | (simp; omega) | omega) _) | (with_reducible refine ext_trans ?_ (by assumption)))))) (H2.out.up (by (repeat (first | (with_reducible exact Below.refl _ _) | (with_reducible assumption) | (with_reducible refine ext_alloc ?_ _) | (with_reducible refine ext_drew ?_) | (with_reducible refine ext_drewN ?_ _) | (with_reducible refine ext_set ?_ (by first | exact Nat.le_refl _ | (simp; done) | (simp; omega) | omega) _) | (with_reducible refine ext_trans ?_ (by assumption))))))).mono ?_; rintro e w1 ⟨rfl, hb⟩; obtain ⟨hc, hf⟩ := bcell hb; have hz := hb.size; (try simp at hz); (try (have hz := Nat.lt_of_succ_le hz)); (try (have y0 : w.heap.size ≤ w1.heap.size := by omega)); (try (have z0 : w.heap.size < w1.heap.size := by omega)); (try (have z1 : w.heap.size + 1 < w1.heap.size := by omega)); (try (have z2 : w.heap.size + 1 + 1 < w1.heap.size := by omega)); (try (have z3 : w.heap.size + 1 + 1 + 1 < w1.heap.size := by omega)); (try (have z4 : w.heap.size + 1 + 1 + 1 + 1 < w1.heap.size := by omega)); (try (have x0 : wc.heap.size < w1.heap.size := by omega)); (try (have x1 : wc.heap.size ≤ w1.heap.size := by omega)))
    have q0 : w1.cell? ⟨w.heap.size, 0, none⟩ = some (.slice a0 ss.length c0) := by simp [go_sem, *]
    have q1 : w1.cell? ⟨w.heap.size, 1, none⟩ = some (.slice a1 ls.length c1) := by simp [go_sem, *]
    have q2 : w1.cell? ⟨w.heap.size, 2, none⟩ = some (.slice a2 vs.length c2) := by simp [go_sem, *]
    have z0 : w.heap.size < w1.heap.size := cell_lt q0
    have HK := Lib.hid (show K3 w w1 _ _ _ from ⟨q0, q1, q2, by (repeat (first | (with_reducible exact Below.refl _ _) | (with_reducible assumption) | (with_reducible refine ext_alloc ?_ _) | (with_reducible refine ext_drew ?_) | (with_reducible refine ext_drewN ?_ _) | (with_reducible refine ext_set ?_ (by first | exact Nat.le_refl _ | (simp; done) | (simp; omega) | omega) _) | (with_reducible refine ext_trans ?_ (by assumption)))), z0⟩)
    clear hc hf hz
    go_region_held3 (fun w' => w'.cell? ⟨w.heap.size, 0, none⟩ = some (.slice a0 ss.length c0) ∧ w'.cell? ⟨w.heap.size, 1, none⟩ = some (.slice a1 ls.length c1) ∧ w'.cell? ⟨w.heap.size, 2, none⟩ = some (.slice a2 vs.length c2) ∧ Below w.heap.size w w' ∧ w.heap.size < w'.heap.size) ((show K3 w _ _ _ _; repeat (first | (with_reducible exact (Hid.out (by with_reducible assumption))) | (with_reducible assumption) | (with_reducible refine K3.alloc ?_ _) | (with_reducible refine K3.drew ?_) | (with_reducible refine K3.set ?_ (by first | omega | (simp; omega)) _)))) (first | (go_at_call 167; with_reducible refine (HP0.out _ (by (repeat (first | (with_reducible exact Below.refl _ _) | (with_reducible assumption) | (with_reducible refine ext_alloc ?_ _) | (with_reducible refine ext_drew ?_) | (with_reducible refine ext_drewN ?_ _) | (with_reducible refine ext_set ?_ (by first | exact Nat.le_refl _ | (simp; done) | (simp; omega) | omega) _) | (with_reducible refine ext_trans ?_ (by assumption)))))).mono ?_; rintro e w1 ⟨rfl, hb⟩; obtain ⟨hc, hf⟩ := bcell hb; have hz := hb.size; (try simp at hz); (try (have hz := Nat.lt_of_succ_le hz)); have hS := Lib.hid (K3.call (by with_reducible assumption) hb); have zL := (Hid.out hS).2.2.2.2) | (go_at_call 167; with_reducible refine (HP1.out _ (by (repeat (first | (with_reducible exact Below.refl _ _) | (with_reducible assumption) | (with_reducible refine ext_alloc ?_ _) | (with_reducible refine ext_drew ?_) | (with_reducible refine ext_drewN ?_ _) | (with_reducible refine ext_set ?_ (by first | exact Nat.le_refl _ | (simp; done) | (simp; omega) | omega) _) | (with_reducible refine ext_trans ?_ (by assumption)))))).mono ?_; rintro e w1 ⟨rfl, hb⟩; obtain ⟨hc, hf⟩ := bcell hb; have hz := hb.size; (try simp at hz); (try (have hz := Nat.lt_of_succ_le hz)); have hS := Lib.hid (K3.call (by with_reducible assumption) hb); have zL := (Hid.out hS).2.2.2.2) | (go_at_call 167; with_reducible refine (HP2.out _ (by (repeat (first | (with_reducible exact Below.refl _ _) | (with_reducible assumption) | (with_reducible refine ext_alloc ?_ _) | (with_reducible refine ext_drew ?_) | (with_reducible refine ext_drewN ?_ _) | (with_reducible refine ext_set ?_ (by first | exact Nat.le_refl _ | (simp; done) | (simp; omega) | omega) _) | (with_reducible refine ext_trans ?_ (by assumption)))))).mono ?_; rintro e w1 ⟨rfl, hb⟩; obtain ⟨hc, hf⟩ := bcell hb; have hz := hb.size; (try simp at hz); (try (have hz := Nat.lt_of_succ_le hz)); have hS := Lib.hid (K3.call (by with_reducible assumption) hb); have zL := (Hid.out hS).2.2.2.2))
    all_goals (go_wp2_with fail; go_ret; rw [HT.out, ← ba_app, ← ba_app, ← ba_app, ← ba_app]; exact ⟨rfl, by (repeat (first | (with_reducible exact Below.refl _ _) | (with_reducible assumption) | (with_reducible refine ext_alloc ?_ _) | (with_reducible refine ext_drew ?_) | (with_reducible refine ext_drewN ?_ _) | (with_reducible refine ext_set ?_ (by first | exact Nat.le_refl _ | (simp; done) | (simp; omega) | omega) _) | (with_reducible refine ext_trans ?_ (by assumption))))⟩)
end Go.Proofs.YtmoolajapgacmaaGreatDoor
