/-
Contracts of TableBounds (program and model), for all tables.
-/
import Derived.Test.YtkpfbnffhhmokaaGreatTabL
import Derived.Test.YtkpfbnffhhmokaaGreatNum
namespace Go.Proofs.YtkpfbnffhhmokaaGreat
open Go.ChangeShapes Go.WideShapes Go.ChangeAt Go.RowKit
set_option linter.unusedVariables false
def mnK (xs : List Int) : Nat → Int
 | 0 => iv xs 0
 | k + 1 => min (mnK xs k) (iv xs k)
def mxK (xs : List Int) : Nat → Int
 | 0 => iv xs 0
 | k + 1 => max (mxK xs k) (iv xs k)
theorem mnK_one (xs : List Int) : mnK xs 1 = iv xs 0 := by simp [mnK]
def tbE (ss ls vs : List Int) : Int := if tabB ss ls vs then mnK vs vs.length else 0
def tbL (ss ls vs : List Int) : Int := if tabB ss ls vs then mxK vs vs.length else 0
def tbC (ss ls vs : List Int) : Int := if tabB ss ls vs then 0 else 1
theorem tab_pos {ss ls vs : List Int} (h : tabB ss ls vs = true) : 0 < vs.length ∧ vs.length ≤ 16 := by
 obtain ⟨h0, h1, h2, _⟩ := tab_get h
 have ⟨a0, a1, _⟩ := ax_get h0
 have ⟨b0, b1, _⟩ := ax_get h1
 rw [h2]
 exact ⟨Nat.mul_pos a0 b0, Nat.mul_le_mul a1 b1⟩
theorem tb_no {ss ls vs : List Int} (h : tabB ss ls vs = false) : tbE ss ls vs = 0 ∧ tbL ss ls vs = 0 ∧ tbC ss ls vs = 1 := by simp [tbE, tbL, tbC, h]
theorem tb_yes {ss ls vs : List Int} (h : tabB ss ls vs = true) : tbE ss ls vs = mnK vs vs.length ∧ tbL ss ls vs = mxK vs vs.length ∧ tbC ss ls vs = 0 := by simp [tbE, tbL, tbC, h]
theorem min_any (v : Value) (xs : List Int) (w : World) (h : IntS w w.heap.size v xs) (hp : 0 < xs.length) : Calls Tryz.prog 245 #[v] w fun e w' => e = .returned (.int .i64 (mnK xs xs.length)) ∧ w' = w := by
 obtain ⟨hn, a, cap, rfl, hx0⟩ := h
 obtain ⟨b, off, rfl, hlt, hx⟩ := hx0 hp
 clear hx0
 obtain ⟨n, hnn⟩ : ∃ n, n = xs.length := ⟨_, rfl⟩
 rw [← hnn] at hn hp hx ⊢
 have HX := lh hx
 have y0 : w.cell? ⟨b, off, none⟩ = some (.int .i64 (iv xs 0)) := by simpa using hx 0 hp
 have hn1 : ¬ (n : Int) < 1 := by omega
 have M1 := lh (mnK_one xs)
 clear hx hnn
 go_enter Tryz.func245, Tryz.ntmps245
 go_wp2
 go_loopw [4, 3] (fun i m wr => wr = w ∧ ∃ k : Nat, 1 ≤ k ∧ k ≤ n ∧ i = .int .i64 k ∧ m = .int .i64 (mnK xs k)) (fun i _ _ => n - (intOf i).toNat)
 case atStart => exact ⟨rfl, 1, by omega, by omega, rfl, by rw [M1.out]⟩
 case round =>
  obtain ⟨rfl, k, hk1, hk, rfl, rfl⟩ := hrel
  by_cases hkn : k < n
  ·have y1 := HX.out k hkn
   have S := lh (show mnK xs (k + 1) = min (mnK xs k) (iv xs k) from rfl)
   clear y0
   go_wp2
   go_roundw
   case rel => exact ⟨trivial, k + 1, by omega, by omega, by go_num, by rw [S.out]; simp [go_sem]; omega⟩
   case measure => simp [intOf]; omega
  ·obtain rfl : k = n := by omega
   go_wp2
   go_ret
   exact ⟨rfl, rfl⟩
theorem min_ext (v : Value) (xs : List Int) (w : World) (h : IntS w w.heap.size v xs) (hp : 0 < xs.length) : Calls Tryz.prog 245 #[v] w fun e w' => e = .returned (.int .i64 (mnK xs xs.length)) ∧ Below w.heap.size w w' :=
 (min_any v xs w h hp).mono fun e w' ⟨he, hw⟩ => ⟨he, hw ▸ Below.refl _ _⟩
set_option maxHeartbeats 2000000 in
theorem specBounds_any (v0 v1 v2 : Value) (ss ls vs : List Int) (w : World) (h0 : IntS w w.heap.size v0 ss) (h1 : IntS w w.heap.size v1 ls) (h2 : IntS w w.heap.size v2 vs) :
  Calls Tryz.prog 228 #[.agg #[v0, v1, v2]] w fun e w' => e = .returned (.tuple #[.agg #[.int .i64 (tbE ss ls vs), .int .i64 (tbL ss ls vs)], .int .i64 (tbC ss ls vs)]) ∧ Below w.heap.size w w' := by
 have H0 := lh h0; have H1 := lh h1; have H2 := lh h2
 obtain ⟨_, a0, c0, rfl, _⟩ := h0; obtain ⟨_, a1, c1, rfl, _⟩ := h1; obtain ⟨hn, a2, c2, rfl, hx0⟩ := h2
 cases ht : tabB ss ls vs
 ·have ⟨g1, g2, g3⟩ := tb_no ht
  rw [g1, g2, g3]
  clear g1 g2 g3 hx0
  go_enter Tryz.func228, Tryz.ntmps228
  go_wp2_with (go_at_call 240; refine (specIsTable_any _ _ _ _ _ _ _ (H0.out.up eX) (H1.out.up eX) (H2.out.up eX)).mono ?_; rintro e w1 ⟨rfl, hb⟩; have ⟨hc, hf⟩ := bcell hb; have hz := hb.size; (try simp at hz); (try have hz := Nat.lt_of_succ_le hz); (try have y0 := wy w w1); (try have z0 := wz0 w w1); (try have z1 := wz1 w w1); (try have z2 := wz2 w w1); (try have z3 := wz3 w w1); (try have z4 := wz4 w w1); (try have x0 := wz0 wc w1); (try have x1 := wy wc w1))
  exact bodyPost_ret (v := .tuple #[.agg #[.int .i64 0, .int .i64 0], .int .i64 1]) (by simp [results, Tryz.results228, go_sem, *]) rfl ⟨rfl, eX⟩
 ·have ⟨g1, g2, g3⟩ := tb_yes ht
  have ⟨hp, hp16⟩ := tab_pos ht
  rw [g1, g2, g3]
  obtain ⟨b, off, rfl, hlt, hx⟩ := hx0 hp
  clear g1 g2 g3 hx0
  obtain ⟨n, hnn⟩ : ∃ n, n = vs.length := ⟨_, rfl⟩
  have HN := lh hnn
  rw [← hnn] at hn hp hx hp16 H2 ⊢
  clear hnn
  have HX := lh hx
  clear hx
  go_enter Tryz.func228, Tryz.ntmps228
  go_wp2_with (go_at_call 240; refine (specIsTable_any _ _ _ _ _ _ _ (H0.out.up eX) (H1.out.up eX) (H2.out.up eX)).mono ?_; rintro e w1 ⟨rfl, hb⟩; have ⟨hc, hf⟩ := bcell hb; have hz := hb.size; (try simp at hz); (try have hz := Nat.lt_of_succ_le hz); (try have y0 := wy w w1); (try have z0 := wz0 w w1); (try have z1 := wz1 w w1); (try have z2 := wz2 w w1); (try have z3 := wz3 w w1); (try have z4 := wz4 w w1); (try have x0 := wz0 wc w1); (try have x1 := wy wc w1))
  have x0 := HX.out 0 hp
  have y0 : w1.cell? ⟨b, off, none⟩ = some (.int .i64 (iv vs 0)) := by rw [(show Below w.heap.size w w1 by exact eX).cell (by show b < _; omega)]; simpa using x0
  have q2 : w1.cell? ⟨w.heap.size, 2, none⟩ = some (.slice (some ⟨b, off, none⟩) n c2) := by simp [go_sem, *]
  have q3 : w1.cell? ⟨w.heap.size + 1, 0, none⟩ = some (.int .i64 0) := by simp [go_sem, *]
  have q4 : w1.cell? ⟨w.heap.size + 1, 1, none⟩ = some (.int .i64 0) := by simp [go_sem, *]
  have f3 : w1.frozen? ⟨w.heap.size + 1, 0, none⟩ = false := by simp [go_sem, *]
  have f4 : w1.frozen? ⟨w.heap.size + 1, 1, none⟩ = false := by simp [go_sem, *]
  have z0 : w.heap.size < w1.heap.size := by omega
  have z1 : w.heap.size + 1 < w1.heap.size := by omega
  have hbw : Below w.heap.size w w1 := eX
  clear hc hf hb x0
  have hb1 : b < w1.heap.size := by omega
  have d0 : b ≠ w1.heap.size := by omega
  have d1 : w1.heap.size ≠ b := by omega
  have d2 : w.heap.size ≠ w1.heap.size := by omega
  have d3 : w.heap.size + 1 ≠ w1.heap.size := by omega
  have d4 : w1.heap.size ≠ w.heap.size := by omega
  have d5 : w1.heap.size ≠ w.heap.size + 1 := by omega
  go_region
  all_goals
   go_wp2
   go_loopw [5] (fun i wr => ∃ j : Nat, 1 ≤ j ∧ j ≤ n ∧ i = .int .i64 j ∧ wr.cell? ⟨w.heap.size, 2, none⟩ = some (.slice (some ⟨b, off, none⟩) n c2) ∧ wr.cell? ⟨w.heap.size + 1, 0, none⟩ = some (.int .i64 0) ∧ wr.cell? ⟨w.heap.size + 1, 1, none⟩ = some (.int .i64 0) ∧ wr.frozen? ⟨w.heap.size + 1, 0, none⟩ = false ∧ wr.frozen? ⟨w.heap.size + 1, 1, none⟩ = false ∧
    wr.cell? ⟨w1.heap.size, 0, none⟩ = some (.int .i64 (mnK vs j)) ∧ wr.cell? ⟨w1.heap.size, 1, none⟩ = some (.int .i64 (mxK vs j)) ∧ wr.frozen? ⟨w1.heap.size, 0, none⟩ = false ∧ wr.frozen? ⟨w1.heap.size, 1, none⟩ = false ∧ Below w.heap.size w wr) (fun i _ => n - (intOf i).toNat)
   case atStart => exact ⟨1, by omega, by omega, rfl, by simp [go_sem, *], by simp [go_sem, *], by simp [go_sem, *], by simp [go_sem, *], by simp [go_sem, *], by simp [go_sem, mnK], by simp [go_sem, mxK], by simp [go_sem], by simp [go_sem], eX⟩
   case round =>
    obtain ⟨j, hj1, hjk, rfl, r2, r0, r1, f0, f1, m0, m1, f2, f3', hbj⟩ := hrel
    clear y0 q2 q3 q4 f3 f4
    by_cases hlt2 : j < n
    ·have y1 : wr.cell? ⟨b, off + j, none⟩ = some (.int .i64 (iv vs j)) := by rw [hbj.cell (by show b < _; omega)]; exact HX.out j hlt2
     have S0 := lh (show mnK vs (j + 1) = min (mnK vs j) (iv vs j) from rfl)
     have S1 := lh (show mxK vs (j + 1) = max (mxK vs j) (iv vs j) from rfl)
     go_wp2
     go_region
     all_goals go_wp2
     all_goals go_region
     all_goals go_wp2
     all_goals
      go_roundw
      case rel =>
       refine ⟨j + 1, by omega, by omega, by go_num, ?_, ?_, ?_, ?_, ?_, ?_, ?_, ?_, ?_, ?_⟩
       all_goals first | (simp [go_sem, *]; done) | (simp [go_sem, m0, m1]; rw [S0.out]; omega) | (simp [go_sem, m1]; rw [S1.out]; omega) | ((exact eX); done)
      case measure => simp [intOf]; omega
    ·obtain rfl : j = n := by omega
     go_wp2
     exact bodyPost_ret (v := .tuple #[.agg #[.int .i64 (mnK vs j), .int .i64 (mxK vs j)], .int .i64 0]) (by simp [results, Tryz.results228, go_sem, *]) rfl ⟨rfl, eX⟩
end Go.Proofs.YtkpfbnffhhmokaaGreat
