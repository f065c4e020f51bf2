/-
Contracts of HullOf (program and model) and of the laws' helpers for lists of spans, for all lists.
-/
import Derived.Test.YtocoolafnciniaaSpan
import Derived.LoopTactic
import Derived.RegionTactic
import Derived.BigRegion
import Derived.WalkLawsBesides
import Derived.Deep.SlicePairs
import Derived.OwnWalk
namespace Go.Proofs.Ytocoolafnciniaa
open Go.ChangeShapes Go.WideShapes Go.ChangeAt Go.RowKit Go.Deep
set_option linter.unusedVariables false

def sE (xs : List (Int × Int)) (i : Nat) : Int := (xs.getD i (0, 0)).1
def sL (xs : List (Int × Int)) (i : Nat) : Int := (xs.getD i (0, 0)).2
/-- v is a list of spans, in a block below B, or empty. -/
def SpanS (w : World) (B : Nat) (v : Value) (xs : List (Int × Int)) : Prop :=
  xs.length ≤ 9223372036854775807 ∧ ((∃ a cap, v = .slice a 0 cap ∧ xs = []) ∨ ∃ b off cap, v = .slice (some ⟨b, off, none⟩) xs.length cap ∧ b < B ∧ 0 < xs.length ∧
    ∀ i, i < xs.length → w.cell? ⟨b, off + i * 2, none⟩ = some (.int .i64 (sE xs i)) ∧ w.cell? ⟨b, off + i * 2 + 1, none⟩ = some (.int .i64 (sL xs i)))
theorem SpanS.keep {w w' : World} {B C : Nat} {v : Value} {xs : List (Int × Int)} (h : SpanS w B v xs) (hb : Below B w w') (hB : B ≤ C) : SpanS w' C v xs := by
  obtain ⟨h0, h⟩ := h
  refine ⟨h0, ?_⟩
  rcases h with h | ⟨b, off, cap, rfl, hlt, hne, hx⟩
  · exact .inl h
  · refine .inr ⟨b, off, cap, rfl, by omega, hne, fun i hi => ?_⟩
    obtain ⟨h1, h2⟩ := hx i hi
    exact ⟨by rw [hb.cell (by show b < B; omega)]; exact h1, by rw [hb.cell (by show b < B; omega)]; exact h2⟩
theorem SpanS.up {w w' : World} {v : Value} {xs : List (Int × Int)} (h : SpanS w w.heap.size v xs) (hb : Below w.heap.size w w') : SpanS w' w'.heap.size v xs := h.keep hb hb.size
def allSp (xs : List (Int × Int)) : Bool := xs.all fun x => spB x.1 x.2
def mn (xs : List (Int × Int)) (k : Nat) : Int := (xs.take k).foldl (fun m x => min m x.1) (sE xs 0)
def mx (xs : List (Int × Int)) (k : Nat) : Int := (xs.take k).foldl (fun m x => max m x.2) (sL xs 0)
def hC (xs : List (Int × Int)) : Int := if allSp xs then (if xs.length = 0 then 4 else 0) else 1
def hE (xs : List (Int × Int)) : Int := if allSp xs && decide (0 < xs.length) then mn xs xs.length else 0
def hL (xs : List (Int × Int)) : Int := if allSp xs && decide (0 < xs.length) then mx xs xs.length else 0
theorem take_snoc (xs : List (Int × Int)) (k : Nat) (h : k < xs.length) : xs.take (k + 1) = xs.take k ++ [xs.getD k (0, 0)] := by
  rw [List.take_succ_eq_append_getElem h]; simp [List.getD, h]
theorem mn_succ (xs : List (Int × Int)) (k : Nat) (h : k < xs.length) : mn xs (k + 1) = min (mn xs k) (sE xs k) := by
  unfold mn; rw [take_snoc xs k h, List.foldl_append]; rfl
theorem mx_succ (xs : List (Int × Int)) (k : Nat) (h : k < xs.length) : mx xs (k + 1) = max (mx xs k) (sL xs k) := by
  unfold mx; rw [take_snoc xs k h, List.foldl_append]; rfl
theorem mn_one (xs : List (Int × Int)) (h : 0 < xs.length) : mn xs 1 = (sE xs 0) := by
  rw [mn_succ xs 0 h]; simp [mn]
theorem mx_one (xs : List (Int × Int)) (h : 0 < xs.length) : mx xs 1 = (sL xs 0) := by
  rw [mx_succ xs 0 h]; simp [mx]
theorem allSp_of (xs : List (Int × Int)) (h : ∀ i, i < xs.length → spB (sE xs i) (sL xs i) = true) : allSp xs = true := by
  unfold allSp
  rw [List.all_eq_true]
  intro x hx
  obtain ⟨i, hi, rfl⟩ := List.mem_iff_getElem.mp hx
  have := h i hi
  simpa [sE, sL, List.getD, hi] using this
theorem allSp_no (xs : List (Int × Int)) (k : Nat) (hk : k < xs.length) (h : spB (sE xs k) (sL xs k) = false) : allSp xs = false := by
  rw [Bool.eq_false_iff]
  intro ha
  unfold allSp at ha
  rw [List.all_eq_true] at ha
  have := ha (xs.getD k (0, 0)) (by simp [List.getD, hk])
  unfold sE sL at h
  rw [h] at this
  cases this
theorem hull_bad {xs : List (Int × Int)} (h : allSp xs = false) : hE xs = 0 ∧ hL xs = 0 ∧ hC xs = 1 := by simp [hE, hL, hC, h]
theorem hull_good {xs : List (Int × Int)} (h : allSp xs = true) (hn : 0 < xs.length) : hE xs = mn xs xs.length ∧ hL xs = mx xs xs.length ∧ hC xs = 0 := by
  have h0 : ¬ xs.length = 0 := by omega
  unfold hE hL hC
  rw [h]
  rw [decide_eq_true hn, if_neg h0]
  exact ⟨rfl, rfl, rfl⟩
theorem implHullOf_any (v : Value) (xs : List (Int × Int)) (w : World) (h : SpanS w w.heap.size v xs) : Calls Try.prog 17 #[v] w fun e w' => e = .returned (.tuple #[.agg #[.int .i64 (hE xs), .int .i64 (hL xs)], .int .i64 (hC xs)]) ∧ Below w.heap.size w w' := by
  obtain ⟨hn, h⟩ := h
  rcases h with ⟨a, cap, rfl, rfl⟩ | ⟨b, off, cap, rfl, hlt, hne, hx⟩
  · go_enter Try.func17, Try.ntmps17
    go_wp2
    exact bodyPost_ret (v := .tuple #[.agg #[.int .i64 0, .int .i64 0], .int .i64 4]) (by simp [results, Try.results17, go_sem]) rfl ⟨rfl, by (repeat (first | (with_reducible exact Below.refl _ _) | (with_reducible assumption) | (with_reducible refine ext_alloc ?_ _) | (with_reducible refine ext_drew ?_) | (with_reducible refine ext_drewN ?_ _) | (with_reducible refine ext_set ?_ (by first | exact Nat.le_refl _ | (simp; done) | (simp; omega) | omega) _) | (with_reducible refine ext_trans ?_ (by assumption))))⟩
  · obtain ⟨n, hnn⟩ : ∃ n, n = xs.length := ⟨_, rfl⟩
    have HN := Lib.hid hnn
    rw [← hnn] at hn hne hx ⊢
    clear hnn
    have ⟨x0, x1⟩ := hx 0 hne
    have y0 : w.cell? ⟨b, off, none⟩ = some (.int .i64 (sE xs 0)) := by simpa using x0
    have y1 : w.cell? ⟨b, off + 1, none⟩ = some (.int .i64 (sL xs 0)) := by simpa using x1
    have HX := Lib.hid hx
    have hz : ((n : Int) == 0) = false := by simp; omega
    clear x0 x1 hx
    go_enter Try.func17, Try.ntmps17
    go_wp2
    go_loopw [16] (fun i wr => ∃ k : Nat, k ≤ n ∧ i = .int .i64 k ∧ Hid (∀ j, j < k → spB (sE xs j) (sL xs j) = true) ∧ wr.cell? ⟨w.heap.size, 0, none⟩ = some (.int .i64 0) ∧ wr.cell? ⟨w.heap.size, 1, none⟩ = some (.int .i64 0) ∧ wr.frozen? ⟨w.heap.size, 0, none⟩ = false ∧ wr.frozen? ⟨w.heap.size, 1, none⟩ = false ∧
      wr.cell? ⟨w.heap.size + 1, 0, none⟩ = some (.int .i64 (mn xs k)) ∧ wr.cell? ⟨w.heap.size + 1, 1, none⟩ = some (.int .i64 (mx xs k)) ∧ wr.frozen? ⟨w.heap.size + 1, 0, none⟩ = false ∧ wr.frozen? ⟨w.heap.size + 1, 1, none⟩ = false ∧ w.heap.size + 1 < wr.heap.size ∧ Below w.heap.size w wr) (fun i _ => n - (intOf i).toNat)
    case atStart => exact ⟨0, by omega, rfl, Lib.hid (fun j hj => absurd hj (Nat.not_lt_zero j)), by simp [go_sem], by simp [go_sem], by simp [go_sem], by simp [go_sem], by simp [go_sem, mn, sE], by simp [go_sem, mx, sL], by simp [go_sem], by simp [go_sem], by simp, by (repeat (first | (with_reducible exact Below.refl _ _) | (with_reducible assumption) | (with_reducible refine ext_alloc ?_ _) | (with_reducible refine ext_drew ?_) | (with_reducible refine ext_drewN ?_ _) | (with_reducible refine ext_set ?_ (by first | exact Nat.le_refl _ | (simp; done) | (simp; omega) | omega) _) | (with_reducible refine ext_trans ?_ (by assumption))))⟩
    case round =>
      obtain ⟨k, hk, rfl, hall, r0, r1, f0, f1, m0, m1, f2, f3, hsz, hbw⟩ := hrel
      by_cases hkn : k < n
      · have ⟨x0, x1⟩ := HX.out k hkn
        have y0 : wr.cell? ⟨b, off + k * 2, none⟩ = some (.int .i64 (sE xs k)) := by rw [hbw.cell (by show b < _; omega)]; exact x0
        have y1 : wr.cell? ⟨b, off + k * 2 + 1, none⟩ = some (.int .i64 (sL xs k)) := by rw [hbw.cell (by show b < _; omega)]; exact x1
        have hs0 : w.heap.size < wr.heap.size := by omega
        have hs1 : w.heap.size ≤ wr.heap.size := by omega
        have hs2 : w.heap.size + 1 ≤ wr.heap.size := by omega
        clear x0 x1
        cases hsp : spB (sE xs k) (sL xs k)
        · go_wp2_with (go_at_call 25; refine (implIsSpan_any _ _ _).mono ?_; rintro e w1 ⟨rfl, hb⟩; obtain ⟨hc, hf⟩ := bcell hb; have hz := hb.size; (try simp at hz); (try (have hz := Nat.lt_of_succ_le hz)); (try (have y0 : w.heap.size ≤ w1.heap.size := by omega)); (try (have z0 : w.heap.size < w1.heap.size := by omega)); (try (have z1 : w.heap.size + 1 < w1.heap.size := by omega)); (try (have z2 : w.heap.size + 1 + 1 < w1.heap.size := by omega)); (try (have z3 : w.heap.size + 1 + 1 + 1 < w1.heap.size := by omega)); (try (have z4 : w.heap.size + 1 + 1 + 1 + 1 < w1.heap.size := by omega)); (try (have x0 : wc.heap.size < w1.heap.size := by omega)); (try (have x1 : wc.heap.size ≤ w1.heap.size := by omega)))
          have k0 := cell_keep (cell_keep r0 ((Below.refl _ _).alloc (Nat.le_refl _) (.cells #[.int .i64 (sE xs k), .int .i64 (sL xs k)] 29))) hb
          have k1 := cell_keep (cell_keep r1 ((Below.refl _ _).alloc (Nat.le_refl _) (.cells #[.int .i64 (sE xs k), .int .i64 (sL xs k)] 29))) hb
          have ⟨g1, g2, g3⟩ := hull_bad (allSp_no xs k (by have := HN.out; omega) hsp)
          rw [g1, g2, g3]
          exact bodyPost_ret (v := .tuple #[.agg #[.int .i64 0, .int .i64 0], .int .i64 1]) (by simp [results, Try.results17, go_sem, k0, k1]) rfl ⟨rfl, by (repeat (first | (with_reducible exact Below.refl _ _) | (with_reducible assumption) | (with_reducible refine ext_alloc ?_ _) | (with_reducible refine ext_drew ?_) | (with_reducible refine ext_drewN ?_ _) | (with_reducible refine ext_set ?_ (by first | exact Nat.le_refl _ | (simp; done) | (simp; omega) | omega) _) | (with_reducible refine ext_trans ?_ (by assumption))))⟩
        · have s0 := mn_succ xs k (by have := HN.out; omega)
          have s1 := mx_succ xs k (by have := HN.out; omega)
          have S0 := Lib.hid s0
          have S1 := Lib.hid s1
          have hall' : Hid (∀ j, j < k + 1 → spB (sE xs j) (sL xs j) = true) := Lib.hid (fun j hj => by
            rcases Nat.lt_or_ge j k with h | h
            · exact hall.out j h
            · obtain rfl : j = k := by omega
              exact hsp)
          clear s0 s1
          go_wp2_with (go_at_call 25; refine (implIsSpan_any _ _ _).mono ?_; rintro e w1 ⟨rfl, hb⟩; obtain ⟨hc, hf⟩ := bcell hb; have hz := hb.size; (try simp at hz); (try (have hz := Nat.lt_of_succ_le hz)); (try (have y0 : w.heap.size ≤ w1.heap.size := by omega)); (try (have z0 : w.heap.size < w1.heap.size := by omega)); (try (have z1 : w.heap.size + 1 < w1.heap.size := by omega)); (try (have z2 : w.heap.size + 1 + 1 < w1.heap.size := by omega)); (try (have z3 : w.heap.size + 1 + 1 + 1 < w1.heap.size := by omega)); (try (have z4 : w.heap.size + 1 + 1 + 1 + 1 < w1.heap.size := by omega)); (try (have x0 : wc.heap.size < w1.heap.size := by omega)); (try (have x1 : wc.heap.size ≤ w1.heap.size := by omega)))
          have k2 := cell_keep (cell_keep m0 ((Below.refl _ _).alloc (Nat.le_refl _) (.cells #[.int .i64 (sE xs k), .int .i64 (sL xs k)] 29))) hb
          have k3 := cell_keep (cell_keep m1 ((Below.refl _ _).alloc (Nat.le_refl _) (.cells #[.int .i64 (sE xs k), .int .i64 (sL xs k)] 29))) hb
          have e0 : (if sE xs k < mn xs k then sE xs k else mn xs k) = mn xs (k + 1) := by rw [S0.out]; omega
          have e1 : (if mx xs k < sL xs k then sL xs k else mx xs k) = mx xs (k + 1) := by rw [S1.out]; omega
          go_roundw
          case rel =>
            refine ⟨k + 1, by omega, by go_num, hall', ?_, ?_, ?_, ?_, ?_, ?_, ?_, ?_, ?_, ?_⟩
            all_goals first | (simp [go_sem, *]; done) | (simp [go_sem, e0]; done) | (simp [go_sem, e1]; done) | ((repeat (first | (with_reducible exact Below.refl _ _) | (with_reducible assumption) | (with_reducible refine ext_alloc ?_ _) | (with_reducible refine ext_drew ?_) | (with_reducible refine ext_drewN ?_ _) | (with_reducible refine ext_set ?_ (by first | exact Nat.le_refl _ | (simp; done) | (simp; omega) | omega) _) | (with_reducible refine ext_trans ?_ (by assumption)))); done) | (simp [World.setCell]; omega)
          case measure => simp [intOf]; omega
      · have hkk : k = n := by omega
        subst hkk
        have ⟨g1, g2, g3⟩ := hull_good (allSp_of xs (by rw [← HN.out]; exact hall.out)) (by rw [← HN.out]; exact hne)
        have G1 := Lib.hid g1
        have G2 := Lib.hid g2
        have G3 := Lib.hid g3
        clear g1 g2 g3 HX
        go_wp2
        rw [G1.out, G2.out, G3.out, ← HN.out]
        clear HN G1 G2 G3
        exact bodyPost_ret (v := .tuple #[.agg #[.int .i64 (mn xs k), .int .i64 (mx xs k)], .int .i64 0]) (by simp [results, Try.results17, go_sem, *]) rfl ⟨rfl, by (repeat (first | (with_reducible exact Below.refl _ _) | (with_reducible assumption) | (with_reducible refine ext_alloc ?_ _) | (with_reducible refine ext_drew ?_) | (with_reducible refine ext_drewN ?_ _) | (with_reducible refine ext_set ?_ (by first | exact Nat.le_refl _ | (simp; done) | (simp; omega) | omega) _) | (with_reducible refine ext_trans ?_ (by assumption))))⟩
theorem specHullOf_any (v : Value) (xs : List (Int × Int)) (w : World) (h : SpanS w w.heap.size v xs) : Calls Try.prog 29 #[v] w fun e w' => e = .returned (.tuple #[.agg #[.int .i64 (hE xs), .int .i64 (hL xs)], .int .i64 (hC xs)]) ∧ Below w.heap.size w w' := by
  obtain ⟨hn, h⟩ := h
  rcases h with ⟨a, cap, rfl, rfl⟩ | ⟨b, off, cap, rfl, hlt, hne, hx⟩
  · go_enter Try.func29, Try.ntmps29
    go_wp2
    go_loopw [4] (fun i wr => i = .int .i64 0 ∧ wr = w.alloc (.cells #[.int .i64 0, .int .i64 0] 29)) (fun i _ => 0)
    case atStart => exact ⟨rfl, rfl⟩
    case round =>
      obtain ⟨rfl, rfl⟩ := hrel
      go_wp2
      exact bodyPost_ret (v := .tuple #[.agg #[.int .i64 0, .int .i64 0], .int .i64 4]) (by simp [results, Try.results29, go_sem]) rfl ⟨rfl, by (repeat (first | (with_reducible exact Below.refl _ _) | (with_reducible assumption) | (with_reducible refine ext_alloc ?_ _) | (with_reducible refine ext_drew ?_) | (with_reducible refine ext_drewN ?_ _) | (with_reducible refine ext_set ?_ (by first | exact Nat.le_refl _ | (simp; done) | (simp; omega) | omega) _) | (with_reducible refine ext_trans ?_ (by assumption))))⟩
  · obtain ⟨n, hnn⟩ : ∃ n, n = xs.length := ⟨_, rfl⟩
    have HN := Lib.hid hnn
    rw [← hnn] at hn hne hx ⊢
    clear hnn
    have HX := Lib.hid hx
    have hz : ((n : Int) == 0) = false := by simp; omega
    clear hx
    go_enter Try.func29, Try.ntmps29
    go_wp2
    go_loopw [4] (fun i wr => ∃ k : Nat, k ≤ n ∧ i = .int .i64 k ∧ Hid (∀ j, j < k → spB (sE xs j) (sL xs j) = true) ∧ wr.cell? ⟨w.heap.size, 0, none⟩ = some (.int .i64 0) ∧ wr.cell? ⟨w.heap.size, 1, none⟩ = some (.int .i64 0) ∧ wr.frozen? ⟨w.heap.size, 0, none⟩ = false ∧ wr.frozen? ⟨w.heap.size, 1, none⟩ = false ∧
      w.heap.size < wr.heap.size ∧ Below w.heap.size w wr) (fun i _ => n - (intOf i).toNat)
    case atStart => exact ⟨0, by omega, rfl, Lib.hid (fun j hj => absurd hj (Nat.not_lt_zero j)), by simp [go_sem], by simp [go_sem], by simp [go_sem], by simp [go_sem], by simp, by (repeat (first | (with_reducible exact Below.refl _ _) | (with_reducible assumption) | (with_reducible refine ext_alloc ?_ _) | (with_reducible refine ext_drew ?_) | (with_reducible refine ext_drewN ?_ _) | (with_reducible refine ext_set ?_ (by first | exact Nat.le_refl _ | (simp; done) | (simp; omega) | omega) _) | (with_reducible refine ext_trans ?_ (by assumption))))⟩
    case round =>
      obtain ⟨k, hk, rfl, hall, r0, r1, f0, f1, hsz, hbw⟩ := hrel
      by_cases hkn : k < n
      · have ⟨x0, x1⟩ := HX.out k hkn
        have y0 : wr.cell? ⟨b, off + k * 2, none⟩ = some (.int .i64 (sE xs k)) := by rw [hbw.cell (by show b < _; omega)]; exact x0
        have y1 : wr.cell? ⟨b, off + k * 2 + 1, none⟩ = some (.int .i64 (sL xs k)) := by rw [hbw.cell (by show b < _; omega)]; exact x1
        have hs1 : w.heap.size ≤ wr.heap.size := by omega
        clear x0 x1
        cases hsp : spB (sE xs k) (sL xs k)
        · go_wp2_with (go_at_call 18; refine (specIsSpan_any _ _ _).mono ?_; rintro e w1 ⟨rfl, hb⟩; obtain ⟨hc, hf⟩ := bcell hb; have hz := hb.size; (try simp at hz); (try (have hz := Nat.lt_of_succ_le hz)); (try (have y0 : w.heap.size ≤ w1.heap.size := by omega)); (try (have z0 : w.heap.size < w1.heap.size := by omega)); (try (have z1 : w.heap.size + 1 < w1.heap.size := by omega)); (try (have z2 : w.heap.size + 1 + 1 < w1.heap.size := by omega)); (try (have z3 : w.heap.size + 1 + 1 + 1 < w1.heap.size := by omega)); (try (have z4 : w.heap.size + 1 + 1 + 1 + 1 < w1.heap.size := by omega)); (try (have x0 : wc.heap.size < w1.heap.size := by omega)); (try (have x1 : wc.heap.size ≤ w1.heap.size := by omega)))
          have k0 := cell_keep r0 hb
          have k1 := cell_keep r1 hb
          have ⟨g1, g2, g3⟩ := hull_bad (allSp_no xs k (by have := HN.out; omega) hsp)
          rw [g1, g2, g3]
          exact bodyPost_ret (v := .tuple #[.agg #[.int .i64 0, .int .i64 0], .int .i64 1]) (by simp [results, Try.results29, go_sem, k0, k1]) rfl ⟨rfl, by (repeat (first | (with_reducible exact Below.refl _ _) | (with_reducible assumption) | (with_reducible refine ext_alloc ?_ _) | (with_reducible refine ext_drew ?_) | (with_reducible refine ext_drewN ?_ _) | (with_reducible refine ext_set ?_ (by first | exact Nat.le_refl _ | (simp; done) | (simp; omega) | omega) _) | (with_reducible refine ext_trans ?_ (by assumption))))⟩
        · have hall' : Hid (∀ j, j < k + 1 → spB (sE xs j) (sL xs j) = true) := Lib.hid (fun j hj => by
            rcases Nat.lt_or_ge j k with h | h
            · exact hall.out j h
            · obtain rfl : j = k := by omega
              exact hsp)
          go_wp2_with (go_at_call 18; refine (specIsSpan_any _ _ _).mono ?_; rintro e w1 ⟨rfl, hb⟩; obtain ⟨hc, hf⟩ := bcell hb; have hz := hb.size; (try simp at hz); (try (have hz := Nat.lt_of_succ_le hz)); (try (have y0 : w.heap.size ≤ w1.heap.size := by omega)); (try (have z0 : w.heap.size < w1.heap.size := by omega)); (try (have z1 : w.heap.size + 1 < w1.heap.size := by omega)); (try (have z2 : w.heap.size + 1 + 1 < w1.heap.size := by omega)); (try (have z3 : w.heap.size + 1 + 1 + 1 < w1.heap.size := by omega)); (try (have z4 : w.heap.size + 1 + 1 + 1 + 1 < w1.heap.size := by omega)); (try (have x0 : wc.heap.size < w1.heap.size := by omega)); (try (have x1 : wc.heap.size ≤ w1.heap.size := by omega)))
          have k0 := cell_keep r0 hb
          have k1 := cell_keep r1 hb
          go_roundw
          case rel =>
            refine ⟨k + 1, by omega, by go_num, hall', ?_, ?_, ?_, ?_, ?_, ?_⟩
            all_goals first | assumption | (simp [go_sem, *]; done) | ((repeat (first | (with_reducible exact Below.refl _ _) | (with_reducible assumption) | (with_reducible refine ext_alloc ?_ _) | (with_reducible refine ext_drew ?_) | (with_reducible refine ext_drewN ?_ _) | (with_reducible refine ext_set ?_ (by first | exact Nat.le_refl _ | (simp; done) | (simp; omega) | omega) _) | (with_reducible refine ext_trans ?_ (by assumption)))); done) | (simp [World.setCell]; omega)
          case measure => simp [intOf]; omega
      · have hkk : k = n := by omega
        subst hkk
        have ⟨g1, g2, g3⟩ := hull_good (allSp_of xs (by rw [← HN.out]; exact hall.out)) (by rw [← HN.out]; exact hne)
        have G1 := Lib.hid g1
        have G2 := Lib.hid g2
        have G3 := Lib.hid g3
        have ⟨x0, x1⟩ := HX.out 0 hne
        have y0 : wr.cell? ⟨b, off, none⟩ = some (.int .i64 (sE xs 0)) := by rw [hbw.cell (by show b < _; omega)]; simpa using x0
        have y1 : wr.cell? ⟨b, off + 1, none⟩ = some (.int .i64 (sL xs 0)) := by rw [hbw.cell (by show b < _; omega)]; simpa using x1
        have n1 := Lib.hid (mn_one xs (by rw [← HN.out]; exact hne))
        have n2 := Lib.hid (mx_one xs (by rw [← HN.out]; exact hne))
        clear g1 g2 g3 x0 x1
        go_wp2
        obtain ⟨wo, hwo⟩ : ∃ wo : World, wo = wr := ⟨_, rfl⟩
        subst hwo
        go_loopw [6] (fun i wr => ∃ j : Nat, 1 ≤ j ∧ j ≤ k ∧ i = .int .i64 j ∧ wr.cell? ⟨w.heap.size, 0, none⟩ = some (.int .i64 0) ∧ wr.cell? ⟨w.heap.size, 1, none⟩ = some (.int .i64 0) ∧ wr.frozen? ⟨w.heap.size, 0, none⟩ = false ∧ wr.frozen? ⟨w.heap.size, 1, none⟩ = false ∧
          wr.cell? ⟨wo.heap.size, 0, none⟩ = some (.int .i64 (mn xs j)) ∧ wr.cell? ⟨wo.heap.size, 1, none⟩ = some (.int .i64 (mx xs j)) ∧ wr.frozen? ⟨wo.heap.size, 0, none⟩ = false ∧ wr.frozen? ⟨wo.heap.size, 1, none⟩ = false ∧ Below w.heap.size w wr) (fun i _ => k - (intOf i).toNat)
        case atStart => exact ⟨1, by omega, by omega, rfl, by simp [go_sem, *], by simp [go_sem, *], by simp [go_sem, *], by simp [go_sem, *], by simp [go_sem, n1.out], by simp [go_sem, n2.out], by simp [go_sem], by simp [go_sem], by (repeat (first | (with_reducible exact Below.refl _ _) | (with_reducible assumption) | (with_reducible refine ext_alloc ?_ _) | (with_reducible refine ext_drew ?_) | (with_reducible refine ext_drewN ?_ _) | (with_reducible refine ext_set ?_ (by first | exact Nat.le_refl _ | (simp; done) | (simp; omega) | omega) _) | (with_reducible refine ext_trans ?_ (by assumption))))⟩
        case round =>
          obtain ⟨j, hj1, hjk, rfl, r0, r1, f0, f1, m0, m1, f2, f3, hbj⟩ := hrel
          clear y0 y1
          by_cases hlt2 : j < k
          · have ⟨x0, x1⟩ := HX.out j hlt2
            have y0 : wr.cell? ⟨b, off + j * 2, none⟩ = some (.int .i64 (sE xs j)) := by rw [hbj.cell (by show b < _; omega)]; exact x0
            have y1 : wr.cell? ⟨b, off + j * 2 + 1, none⟩ = some (.int .i64 (sL xs j)) := by rw [hbj.cell (by show b < _; omega)]; exact x1
            have S0 := Lib.hid (mn_succ xs j (by have := HN.out; omega))
            have S1 := Lib.hid (mx_succ xs j (by have := HN.out; omega))
            have d0 : b ≠ wo.heap.size := by omega
            have d1 : wo.heap.size ≠ b := by omega
            have d2 : w.heap.size ≠ wo.heap.size := by omega
            clear x0 x1
            go_wp2
            go_region
            all_goals go_wp2
            all_goals go_region
            all_goals go_wp2
            all_goals
              go_roundw
              case rel =>
                refine ⟨j + 1, by omega, by omega, by go_num, ?_, ?_, ?_, ?_, ?_, ?_, ?_, ?_, ?_⟩
                all_goals first | (simp [go_sem, *]; done) | (simp [go_sem, m0, m1]; rw [S0.out]; omega) | (simp [go_sem, m1]; rw [S1.out]; omega) | ((repeat (first | (with_reducible exact Below.refl _ _) | (with_reducible assumption) | (with_reducible refine ext_alloc ?_ _) | (with_reducible refine ext_drew ?_) | (with_reducible refine ext_drewN ?_ _) | (with_reducible refine ext_set ?_ (by first | exact Nat.le_refl _ | (simp; done) | (simp; omega) | omega) _) | (with_reducible refine ext_trans ?_ (by assumption)))); done)
              case measure => simp [intOf]; omega
          · have hjj : j = k := by omega
            subst hjj
            go_wp2
            rw [G1.out, G2.out, G3.out, ← HN.out]
            clear HN G1 G2 G3 HX hall
            exact bodyPost_ret (v := .tuple #[.agg #[.int .i64 (mn xs j), .int .i64 (mx xs j)], .int .i64 0]) (by simp [results, Try.results29, go_sem, *]) rfl ⟨rfl, by (repeat (first | (with_reducible exact Below.refl _ _) | (with_reducible assumption) | (with_reducible refine ext_alloc ?_ _) | (with_reducible refine ext_drew ?_) | (with_reducible refine ext_drewN ?_ _) | (with_reducible refine ext_set ?_ (by first | exact Nat.le_refl _ | (simp; done) | (simp; omega) | omega) _) | (with_reducible refine ext_trans ?_ (by assumption))))⟩
theorem szSpanS_yes (v : Value) (xs : List (Int × Int)) (B : Nat) (w : World) (h : SpanS w B v xs) (hn : xs.length ≤ 1048576) : Calls Try.prog 28 #[v, .int .i64 1048576] w fun e w' => ∃ r : Int, 0 ≤ r ∧ e = .returned (.int .i64 r) ∧ w' = w := by
  obtain ⟨_, h⟩ := h
  rcases h with ⟨a, cap, rfl, rfl⟩ | ⟨b, off, cap, rfl, hlt, hne, hx⟩
  · go_enter Try.func28, Try.ntmps28
    go_wp2
    go_ret
    exact ⟨_, by omega, rfl, rfl⟩
  · clear hx
    have hd : ¬ (1048576 - (xs.length : Int) < 0) := by omega
    go_enter Try.func28, Try.ntmps28
    go_wp2
    go_ret
    exact ⟨_, by omega, rfl, rfl⟩
theorem szSpanS_no (v : Value) (xs : List (Int × Int)) (B : Nat) (w : World) (h : SpanS w B v xs) (hn : 1048576 < xs.length) : Calls Try.prog 28 #[v, .int .i64 1048576] w fun e w' => e = .returned (.int .i64 (-1)) ∧ w' = w := by
  obtain ⟨hl, h⟩ := h
  rcases h with ⟨a, cap, rfl, rfl⟩ | ⟨b, off, cap, rfl, hlt, hne, hx⟩
  · simp at hn
  · clear hx
    have hd : (1048576 - (xs.length : Int) < 0) := by omega
    go_enter Try.func28, Try.ntmps28
    go_wp2
    go_ret
    exact ⟨rfl, rfl⟩
theorem cs_other {w : World} {g p q : Nat} {v : Value} (h : p ≠ q) : (w.setCell ⟨g, p, none⟩ v).cell? ⟨g, q, none⟩ = w.cell? ⟨g, q, none⟩ := World.cell?_setCell_other _ _ _ _ (fun hc => h (by injection hc))
theorem cs_same {w : World} {g p : Nat} {u v : Value} (h : w.cell? ⟨g, p, none⟩ = some u) : (w.setCell ⟨g, p, none⟩ v).cell? ⟨g, p, none⟩ = some v := World.cell?_setCell_same _ _ _ h
/-- A row of n pairs of cells, of which the first k hold the spans of xs. -/
def Row (w : World) (g n k : Nat) (xs : List (Int × Int)) : Prop :=
  g < w.heap.size ∧ (∀ j, j < n * 2 → w.frozen? ⟨g, j, none⟩ = false ∧ ∃ u, w.cell? ⟨g, j, none⟩ = some u) ∧
  ∀ i, i < k → w.cell? ⟨g, i * 2, none⟩ = some (.int .i64 (sE xs i)) ∧ w.cell? ⟨g, i * 2 + 1, none⟩ = some (.int .i64 (sL xs i))
theorem Row.below {w w' : World} {g n k : Nat} {xs : List (Int × Int)} (h : Row w g n k xs) (hb : Below w.heap.size w w') : Row w' g n k xs := by
  obtain ⟨h0, h1, h2⟩ := h
  have hs := hb.size
  refine ⟨by omega, fun j hj => ⟨by rw [hb.frozen (by exact h0)]; exact (h1 j hj).1, ?_⟩, fun i hi => ⟨cell_keep (h2 i hi).1 hb, cell_keep (h2 i hi).2 hb⟩⟩
  obtain ⟨u, hu⟩ := (h1 j hj).2
  exact ⟨u, cell_keep hu hb⟩
theorem Row.store {w : World} {g n k : Nat} {xs : List (Int × Int)} (h : Row w g n k xs) (hk : k < n) :
    Row ((w.setCell ⟨g, k * 2, none⟩ (.int .i64 (sE xs k))).setCell ⟨g, k * 2 + 1, none⟩ (.int .i64 (sL xs k))) g n (k + 1) xs := by
  obtain ⟨h0, h1, h2⟩ := h
  obtain ⟨u0, e0⟩ := (h1 (k * 2) (by omega)).2
  obtain ⟨u1, e1⟩ := (h1 (k * 2 + 1) (by omega)).2
  have at0 : ((w.setCell ⟨g, k * 2, none⟩ (.int .i64 (sE xs k))).setCell ⟨g, k * 2 + 1, none⟩ (.int .i64 (sL xs k))).cell? ⟨g, k * 2, none⟩ = some (.int .i64 (sE xs k)) := by
    rw [cs_other (by omega), cs_same e0]
  have at1 : ((w.setCell ⟨g, k * 2, none⟩ (.int .i64 (sE xs k))).setCell ⟨g, k * 2 + 1, none⟩ (.int .i64 (sL xs k))).cell? ⟨g, k * 2 + 1, none⟩ = some (.int .i64 (sL xs k)) := by
    rw [cs_same (u := u1) (by rw [cs_other (by omega)]; exact e1)]
  have far : ∀ j, j ≠ k * 2 → j ≠ k * 2 + 1 → ((w.setCell ⟨g, k * 2, none⟩ (.int .i64 (sE xs k))).setCell ⟨g, k * 2 + 1, none⟩ (.int .i64 (sL xs k))).cell? ⟨g, j, none⟩ = w.cell? ⟨g, j, none⟩ := by
    intro j a b
    rw [cs_other (by omega), cs_other (by omega)]
  refine ⟨by simpa [World.setCell] using h0, fun j hj => ⟨by simp [(h1 j hj).1], ?_⟩, fun i hi => ?_⟩
  · by_cases a : j = k * 2
    · subst a; exact ⟨_, at0⟩
    · by_cases b : j = k * 2 + 1
      · subst b; exact ⟨_, at1⟩
      · rw [far j a b]; exact (h1 j hj).2
  · by_cases e : i = k
    · subst e; exact ⟨at0, at1⟩
    · obtain ⟨c, d⟩ := h2 i (by omega)
      exact ⟨by rw [far _ (by omega) (by omega)]; exact c, by rw [far _ (by omega) (by omega)]; exact d⟩
theorem Row.made {w : World} {base g n cap : Nat} {e : TypeId} {cs : List Value} {xs : List (Int × Int)} (h : w.ownsRow base e 2 (.slice (some ⟨g, 0, none⟩) n cap) n cs) : Row w g n 0 xs ∨ n = 0 := by
  by_cases h0 : n = 0
  · exact .inr h0
  · refine .inl ⟨?_, fun j hj => ⟨h.frozenAt j, ?_⟩, fun i hi => absurd hi (Nat.not_lt_zero i)⟩
    · have hc := h.cellAt 0 (by omega)
      rw [List.getElem?_eq_getElem (by rw [h.1]; omega)] at hc
      exact cell_lt hc
    · have hc := h.cellAt j hj
      rw [List.getElem?_eq_getElem (by rw [h.1]; omega)] at hc
      exact ⟨_, hc⟩
theorem Row.spans {w : World} {g n cap : Nat} {xs : List (Int × Int)} (h : Row w g n n xs) (hn : n = xs.length) (hp : 0 < n) (hm : n ≤ 1048576) : SpanS w w.heap.size (.slice (some ⟨g, 0, none⟩) n cap) xs := by
  subst hn
  exact ⟨by omega, .inr ⟨g, 0, cap, rfl, h.1, hp, fun i hi => by simpa using h.2.2 i hi⟩⟩
theorem below_grown {w w' : World} (h : w.grownBy w' none) : Below w.heap.size w w' := (Below.refl _ _).grown h (Nat.le_refl _) (fun k hk => by cases hk)
theorem Try.infoSpan : (Try.prog.info? 29).map (fun i => (i.zero, i.size, i.bytes)) = some (some (.agg #[.int .i64 0, .int .i64 0]), 2, 16) := by kernel_rfl
def ToSpans (xs : List (Int × Int)) (w : World) (e : Ending) (w' : World) : Prop := ∃ v : Value, e = .returned v ∧ SpanS w' w'.heap.size v xs ∧ Below w.heap.size w w'
theorem toSpanS_any (v : Value) (xs : List (Int × Int)) (w : World) (h : SpanS w w.heap.size v xs) (hm : xs.length ≤ 1048576) : Calls Try.prog 30 #[v] w (ToSpans xs w) := by
  obtain ⟨hn, h⟩ := h
  obtain ⟨i0, hi, hz0, hz1, hz2⟩ := info_parts Try.infoSpan
  rcases h with ⟨a, cap, rfl, rfl⟩ | ⟨b, off, cap, rfl, hlt, hne, hx⟩
  · go_enter Try.func30, Try.ntmps30
    go_wp2_with (at_make; refine wpList_make_full _ rfl _ _ 35 rfl w.heap.size 29 i0 (.agg #[.int .i64 0, .int .i64 0]) 2 Try.underlying35 hi hz0 hz1 .i64 .i64 _ _ 0 rfl rfl rfl rfl (by rw [hz2]; omega) (by unfold maxLen; omega) (Nat.le_refl _) ?_; intro w0 hown0 hgrow0; have hb0 := below_grown hgrow0; clear hgrow0)
    clear hown0
    go_loopw [4] (fun i wr => i = .int .i64 0 ∧ wr = w0) (fun i _ => 0)
    case atStart => exact ⟨rfl, rfl⟩
    case round =>
      obtain ⟨rfl, rfl⟩ := hrel
      go_wp2
      go_ret
      exact ⟨_, rfl, ⟨by simp, .inl ⟨_, _, rfl, rfl⟩⟩, hb0⟩
  · obtain ⟨n, hnn⟩ : ∃ n, n = xs.length := ⟨_, rfl⟩
    have HN := Lib.hid hnn
    rw [← hnn] at hn hne hx hm ⊢
    clear hnn
    have HX := Lib.hid hx
    clear hx
    go_enter Try.func30, Try.ntmps30
    go_wp2_with (at_make; refine wpList_make_full _ rfl _ _ 35 rfl w.heap.size 29 i0 (.agg #[.int .i64 0, .int .i64 0]) 2 Try.underlying35 hi hz0 hz1 .i64 .i64 _ _ n rfl rfl rfl rfl (by rw [hz2]; omega) (by unfold maxLen; omega) (Nat.le_refl _) ?_; intro w0 hown0 hgrow0; have hb0 := below_grown hgrow0; clear hgrow0)
    have hr0 : Row w0 w.heap.size n 0 xs := (Row.made hown0).resolve_right (by omega)
    clear hown0
    go_loopw [4] (fun i wr => ∃ k : Nat, k ≤ n ∧ i = .int .i64 k ∧ Hid (Row wr w.heap.size n k xs) ∧ Below w.heap.size w wr) (fun i _ => n - (intOf i).toNat)
    case atStart => exact ⟨0, by omega, rfl, Lib.hid hr0, hb0⟩
    case round =>
      obtain ⟨k, hk, rfl, hr, hbw⟩ := hrel
      by_cases hkn : k < n
      · have ⟨x0, x1⟩ := HX.out k hkn
        have y0 : wr.cell? ⟨b, off + k * 2, none⟩ = some (.int .i64 (sE xs k)) := by rw [hbw.cell (by show b < _; omega)]; exact x0
        have y1 : wr.cell? ⟨b, off + k * 2 + 1, none⟩ = some (.int .i64 (sL xs k)) := by rw [hbw.cell (by show b < _; omega)]; exact x1
        clear x0 x1 hr0 hb0
        go_wp2_with fail
        go_at_call 24
        refine (toSpan_any _ _ _).mono ?_
        rintro e w1 ⟨rfl, hb⟩
        have hr1 := hr.out.below hb
        obtain ⟨v0, e0⟩ := (hr1.2.1 (k * 2) (by omega)).2
        obtain ⟨v1, e1⟩ := (hr1.2.1 (k * 2 + 1) (by omega)).2
        have f0 := (hr1.2.1 (k * 2) (by omega)).1
        have f1 := (hr1.2.1 (k * 2 + 1) (by omega)).1
        have hrs := Lib.hid (hr1.store hkn)
        clear hr1 hr
        go_wp2
        go_roundw
        case rel => exact ⟨k + 1, by omega, by go_num, hrs, by (repeat (first | (with_reducible exact Below.refl _ _) | (with_reducible assumption) | (with_reducible refine ext_alloc ?_ _) | (with_reducible refine ext_drew ?_) | (with_reducible refine ext_drewN ?_ _) | (with_reducible refine ext_set ?_ (by first | exact Nat.le_refl _ | (simp; done) | (simp; omega) | omega) _) | (with_reducible refine ext_trans ?_ (by assumption))))⟩
        case measure => simp [intOf]; omega
      · have hkk : k = n := by omega
        subst hkk
        go_wp2
        go_ret
        exact ⟨_, rfl, Row.spans hr.out HN.out hne hm, hbw⟩
theorem eqSpanS_same (v u : Value) (xs : List (Int × Int)) (w : World) (h : SpanS w w.heap.size v xs) (h' : SpanS w w.heap.size u xs) : Calls Try.prog 31 #[v, u] w fun e w' => e = .returned (.bool true) ∧ Below w.heap.size w w' := by
  obtain ⟨hn, h⟩ := h
  obtain ⟨_, h'⟩ := h'
  rcases h with ⟨a, cap, rfl, rfl⟩ | ⟨b, off, cap, rfl, hlt, hne, hx⟩
  · rcases h' with ⟨a', cap', rfl, _⟩ | ⟨b', off', cap', _, _, hne', _⟩
    · go_enter Try.func31, Try.ntmps31
      go_wp2
      go_loopw [5] (fun i wr => i = .int .i64 0 ∧ wr = w) (fun i _ => 0)
      case atStart => exact ⟨rfl, rfl⟩
      case round =>
        obtain ⟨rfl, rfl⟩ := hrel
        go_wp2
        go_ret
        exact ⟨rfl, by (repeat (first | (with_reducible exact Below.refl _ _) | (with_reducible assumption) | (with_reducible refine ext_alloc ?_ _) | (with_reducible refine ext_drew ?_) | (with_reducible refine ext_drewN ?_ _) | (with_reducible refine ext_set ?_ (by first | exact Nat.le_refl _ | (simp; done) | (simp; omega) | omega) _) | (with_reducible refine ext_trans ?_ (by assumption))))⟩
    · simp at hne'
  · rcases h' with ⟨a', cap', _, he⟩ | ⟨b', off', cap', rfl, hlt', hne', hx'⟩
    · simp [he] at hne
    · obtain ⟨n, hnn⟩ : ∃ n, n = xs.length := ⟨_, rfl⟩
      rw [← hnn] at hn hne hx hx' ⊢
      clear hnn hne'
      have HX := Lib.hid hx
      have HX' := Lib.hid hx'
      clear hx hx'
      go_enter Try.func31, Try.ntmps31
      go_wp2
      go_loopw [5] (fun i wr => ∃ k : Nat, k ≤ n ∧ i = .int .i64 k ∧ Below w.heap.size w wr) (fun i _ => n - (intOf i).toNat)
      case atStart => exact ⟨0, by omega, rfl, by (repeat (first | (with_reducible exact Below.refl _ _) | (with_reducible assumption) | (with_reducible refine ext_alloc ?_ _) | (with_reducible refine ext_drew ?_) | (with_reducible refine ext_drewN ?_ _) | (with_reducible refine ext_set ?_ (by first | exact Nat.le_refl _ | (simp; done) | (simp; omega) | omega) _) | (with_reducible refine ext_trans ?_ (by assumption))))⟩
      case round =>
        obtain ⟨k, hk, rfl, hbw⟩ := hrel
        by_cases hkn : k < n
        · have ⟨x0, x1⟩ := HX.out k hkn
          have ⟨x2, x3⟩ := HX'.out k hkn
          have y0 : wr.cell? ⟨b, off + k * 2, none⟩ = some (.int .i64 (sE xs k)) := by rw [hbw.cell (by show b < _; omega)]; exact x0
          have y1 : wr.cell? ⟨b, off + k * 2 + 1, none⟩ = some (.int .i64 (sL xs k)) := by rw [hbw.cell (by show b < _; omega)]; exact x1
          have y2 : wr.cell? ⟨b', off' + k * 2, none⟩ = some (.int .i64 (sE xs k)) := by rw [hbw.cell (by show b' < _; omega)]; exact x2
          have y3 : wr.cell? ⟨b', off' + k * 2 + 1, none⟩ = some (.int .i64 (sL xs k)) := by rw [hbw.cell (by show b' < _; omega)]; exact x3
          have i0 : (0 : Int) ≤ (k : Int) := by omega
          have i1 : (k : Int) < (n : Int) := by omega
          have hbs : b < wr.heap.size := by have := hbw.size; omega
          clear x0 x1 x2 x3
          go_wp2
          go_region_held3 (fun w' => w'.cell? ⟨b, off + k * 2, none⟩ = some (.int .i64 (sE xs k)) ∧ w'.cell? ⟨b, off + k * 2 + 1, none⟩ = some (.int .i64 (sL xs k)) ∧ w'.cell? ⟨b', off' + k * 2, none⟩ = some (.int .i64 (sE xs k)) ∧ w'.cell? ⟨b', off' + k * 2 + 1, none⟩ = some (.int .i64 (sL xs k)) ∧ Below w.heap.size w w' ∧ b < w'.heap.size)
      (first | exact (Hid.out (by assumption)) | exact keep4 (Hid.out (by assumption)) ((Below.refl _ _).alloc (Nat.le_refl _) _) | exact keep4s (keep4s (Hid.out (by assumption)) (by first | assumption | (simp; done) | (simp; omega) | omega) (by first | assumption | (simp; done) | (simp; omega) | omega) (by first | assumption | (simp; done) | (simp; omega) | omega) (by first | assumption | (simp; done) | (simp; omega) | omega) (by first | assumption | (simp; done) | (simp; omega) | omega) (by first | assumption | (simp; done) | (simp; omega) | omega)) (by first | assumption | (simp; done) | (simp; omega) | omega) (by first | assumption | (simp; done) | (simp; omega) | omega) (by first | assumption | (simp; done) | (simp; omega) | omega) (by first | assumption | (simp; done) | (simp; omega) | omega) (by first | assumption | (simp; done) | (simp; omega) | omega) (by first | assumption | (simp; done) | (simp; omega) | omega) | exact keep4s (Hid.out (by assumption)) (by first | assumption | (simp; done) | (simp; omega) | omega) (by first | assumption | (simp; done) | (simp; omega) | omega) (by first | assumption | (simp; done) | (simp; omega) | omega) (by first | assumption | (simp; done) | (simp; omega) | omega) (by first | assumption | (simp; done) | (simp; omega) | omega) (by first | assumption | (simp; done) | (simp; omega) | omega) | ((repeat' apply And.intro) <;> first | assumption | ((repeat (first | (with_reducible exact Below.refl _ _) | (with_reducible assumption) | (with_reducible refine ext_alloc ?_ _) | (with_reducible refine ext_drew ?_) | (with_reducible refine ext_drewN ?_ _) | (with_reducible refine ext_set ?_ (by first | exact Nat.le_refl _ | (simp; done) | (simp; omega) | omega) _) | (with_reducible refine ext_trans ?_ (by assumption)))); done) | (simp [go_sem]; done) | (simp [go_sem, *]; done) | (simp; omega) | omega))
      (first
        | ((go_at_call 27; refine (eqSpan_same _ _ _).mono ?_; rintro e w1 ⟨rfl, hb⟩; obtain ⟨hc, hf⟩ := bcell hb; have hz := hb.size; (try simp at hz); (try (have hz := Nat.lt_of_succ_le hz)); (try (have y0 : w.heap.size ≤ w1.heap.size := by omega)); (try (have z0 : w.heap.size < w1.heap.size := by omega)); (try (have z1 : w.heap.size + 1 < w1.heap.size := by omega)); (try (have z2 : w.heap.size + 1 + 1 < w1.heap.size := by omega)); (try (have z3 : w.heap.size + 1 + 1 + 1 < w1.heap.size := by omega)); (try (have z4 : w.heap.size + 1 + 1 + 1 + 1 < w1.heap.size := by omega)); (try (have x0 : wc.heap.size < w1.heap.size := by omega)); (try (have x1 : wc.heap.size ≤ w1.heap.size := by omega))); have hS := Lib.hid (keep4 (by assumption) hb); have zL := (Hid.out hS).2.2.2.2.2))
          all_goals
            go_wp2_with fail
            go_roundw
            case rel => exact ⟨k + 1, by omega, by go_num, by (repeat (first | (with_reducible exact Below.refl _ _) | (with_reducible assumption) | (with_reducible refine ext_alloc ?_ _) | (with_reducible refine ext_drew ?_) | (with_reducible refine ext_drewN ?_ _) | (with_reducible refine ext_set ?_ (by first | exact Nat.le_refl _ | (simp; done) | (simp; omega) | omega) _) | (with_reducible refine ext_trans ?_ (by assumption))))⟩
            case measure => simp [intOf]; omega
        · have hkk : k = n := by omega
          subst hkk
          go_wp2
          go_ret
          exact ⟨rfl, hbw⟩
section
variable {H : Type} {enc : TypeId × Value → H} {P : Program}
/-- A list of spans that came in. -/
theorem open_spans {W : World} {base : Nat} {t e ti : TypeId} {f0 f1 : Field} {v : Value} {d : DataW H} {p : List MemPlace} (ht : P.underlying t = some (.slice e)) (he : P.underlying e = some (.struct #[f0, f1])) (hc : P.cellsOf e = 2)
    (hof : f0.offset = 0 ∧ f1.offset = 1 ∧ P.cellsOf f0.type = 1 ∧ P.cellsOf f1.type = 1) (hty : f0.type = ti ∧ f1.type = ti) (hi : P.underlying ti = some (.int .i64))
    (hv : Value.okWide P W .any base t v) (h : DataW.Trod enc P W 0 (fun _ => true) true t v d p) : ∃ xs, SpanS W W.heap.size v xs := by
  obtain ⟨a0, len, cap, rfl⟩ := okWide_slice ht hv
  obtain ⟨fuel, hf⟩ := h
  obtain ⟨o0, o1, c0, c1⟩ := hof
  obtain ⟨t0, t1⟩ := hty
  rcases open_slice_pairs ht he hc o0 o1 c0 c1 hf with ⟨hcs, hx⟩ | ⟨a, len', cap', m, n, V0, V1, D0, D1, P0, P1, hcs, _, hl, hm, hmm, hx, hcell⟩
  · simp [Value.cells] at hcs
    obtain ⟨rfl, rfl, rfl⟩ := hcs
    exact ⟨[], by simp, .inl ⟨_, _, rfl, rfl⟩⟩
  · simp [Value.cells] at hcs
    obtain ⟨rfl, rfl, rfl⟩ := hcs
    simp only [if_true] at hmm
    subst hmm
    unfold maxLen at hm
    have val : ∀ i, i < m → ∃ x : Int × Int, V0 i = .int .i64 x.1 ∧ V1 i = .int .i64 x.2 := by
      intro i hi'
      obtain ⟨_, _, h0, h1⟩ := hcell i hi'
      rw [t0] at h0
      rw [t1] at h1
      obtain ⟨a1, e1, _, _⟩ := DataW.trod_int hi h0
      obtain ⟨a2, e2, _, _⟩ := DataW.trod_int hi h1
      simp at e1 e2
      exact ⟨(a1, a2), e1, e2⟩
    obtain ⟨q, hq⟩ := choose_lt val
    by_cases h0 : len = 0
    · subst h0
      exact ⟨[], by simp, .inl ⟨_, _, rfl, rfl⟩⟩
    · obtain ⟨b, off, spot⟩ := a
      have hs : spot = none := by simpa [Addr.add] using World.cell?_spot (hcell 0 (by omega)).1
      subst hs
      refine ⟨(List.range len).map q, by simp; omega, .inr ⟨b, off, m, by simp, ?_, by simp; omega, fun i hi' => ?_⟩⟩
      · have hc0 := (hcell 0 (by omega)).1
        rw [add_plain] at hc0
        exact cell_lt hc0
      · have hil : i < len := by simpa using hi'
        obtain ⟨h2, h3, _, _⟩ := hcell i (by omega)
        rw [add_plain] at h2 h3
        have e0 : sE ((List.range len).map q) i = (q i).1 := by simp [sE, List.getD, hil]
        have e1 : sL ((List.range len).map q) i = (q i).2 := by simp [sL, List.getD, hil]
        rw [e0, e1, ← (hq i (by omega)).1, ← (hq i (by omega)).2]
        exact ⟨h2, by simpa [Nat.add_assoc] using h3⟩
end
end Go.Proofs.Ytocoolafnciniaa
