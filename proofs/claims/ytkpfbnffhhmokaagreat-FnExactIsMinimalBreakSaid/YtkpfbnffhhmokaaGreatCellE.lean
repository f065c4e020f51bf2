/-
The laws' own comparisons of pins, tables, arcs, cells and libraries answer true for the same data.
-/
import Derived.Test.YtkpfbnffhhmokaaGreatCellT
namespace Go.Proofs.YtkpfbnffhhmokaaGreat
open Go.ChangeShapes Go.WideShapes Go.ChangeAt Go.RowKit
set_option linter.unusedVariables false
theorem keep8 {w w0 w1 : World} {L g0 g1 g2 g3 g4 g5 g6 g7 o0 o1 o2 o3 o4 o5 o6 o7 : Nat} {v0 v1 v2 v3 v4 v5 v6 v7 : Value} (h : w0.cell? ⟨g0, o0, none⟩ = some v0 ∧ w0.cell? ⟨g1, o1, none⟩ = some v1 ∧ w0.cell? ⟨g2, o2, none⟩ = some v2 ∧ w0.cell? ⟨g3, o3, none⟩ = some v3 ∧ w0.cell? ⟨g4, o4, none⟩ = some v4 ∧ w0.cell? ⟨g5, o5, none⟩ = some v5 ∧ w0.cell? ⟨g6, o6, none⟩ = some v6 ∧ w0.cell? ⟨g7, o7, none⟩ = some v7 ∧ Below w.heap.size w w0 ∧ L < w0.heap.size) (hb : Below w0.heap.size w0 w1) : w1.cell? ⟨g0, o0, none⟩ = some v0 ∧ w1.cell? ⟨g1, o1, none⟩ = some v1 ∧ w1.cell? ⟨g2, o2, none⟩ = some v2 ∧ w1.cell? ⟨g3, o3, none⟩ = some v3 ∧ w1.cell? ⟨g4, o4, none⟩ = some v4 ∧ w1.cell? ⟨g5, o5, none⟩ = some v5 ∧ w1.cell? ⟨g6, o6, none⟩ = some v6 ∧ w1.cell? ⟨g7, o7, none⟩ = some v7 ∧ Below w.heap.size w w1 ∧ L < w1.heap.size := by
 obtain ⟨h0, h1, h2, h3, h4, h5, h6, h7, hw, hL⟩ := h
 exact ⟨cell_keep h0 hb, cell_keep h1 hb, cell_keep h2 hb, cell_keep h3 hb, cell_keep h4 hb, cell_keep h5 hb, cell_keep h6 hb, cell_keep h7 hb, ext_trans hw hb, Nat.lt_of_lt_of_le hL hb.size⟩
theorem keep8s {w w0 : World} {L g0 g1 g2 g3 g4 g5 g6 g7 o0 o1 o2 o3 o4 o5 o6 o7 : Nat} {v0 v1 v2 v3 v4 v5 v6 v7 : Value} {p : Addr} {u : Value} (h : w0.cell? ⟨g0, o0, none⟩ = some v0 ∧ w0.cell? ⟨g1, o1, none⟩ = some v1 ∧ w0.cell? ⟨g2, o2, none⟩ = some v2 ∧ w0.cell? ⟨g3, o3, none⟩ = some v3 ∧ w0.cell? ⟨g4, o4, none⟩ = some v4 ∧ w0.cell? ⟨g5, o5, none⟩ = some v5 ∧ w0.cell? ⟨g6, o6, none⟩ = some v6 ∧ w0.cell? ⟨g7, o7, none⟩ = some v7 ∧ Below w.heap.size w w0 ∧ L < w0.heap.size) (hw : w.heap.size ≤ L + 1 := by first | assumption | (simp; done) | (simp; omega) | omega) (hp : L < p.block := by first | assumption | (simp; done) | (simp; omega) | omega) (q0 : g0 ≤ L := by first | assumption | (simp; done) | (simp; omega) | omega) (q1 : g1 ≤ L := by first | assumption | (simp; done) | (simp; omega) | omega) (q2 : g2 ≤ L := by first | assumption | (simp; done) | (simp; omega) | omega) (q3 : g3 ≤ L := by first | assumption | (simp; done) | (simp; omega) | omega) (q4 : g4 ≤ L := by first | assumption | (simp; done) | (simp; omega) | omega) (q5 : g5 ≤ L := by first | assumption | (simp; done) | (simp; omega) | omega) (q6 : g6 ≤ L := by first | assumption | (simp; done) | (simp; omega) | omega) (q7 : g7 ≤ L := by first | assumption | (simp; done) | (simp; omega) | omega) : (w0.setCell p u).cell? ⟨g0, o0, none⟩ = some v0 ∧ (w0.setCell p u).cell? ⟨g1, o1, none⟩ = some v1 ∧ (w0.setCell p u).cell? ⟨g2, o2, none⟩ = some v2 ∧ (w0.setCell p u).cell? ⟨g3, o3, none⟩ = some v3 ∧ (w0.setCell p u).cell? ⟨g4, o4, none⟩ = some v4 ∧ (w0.setCell p u).cell? ⟨g5, o5, none⟩ = some v5 ∧ (w0.setCell p u).cell? ⟨g6, o6, none⟩ = some v6 ∧ (w0.setCell p u).cell? ⟨g7, o7, none⟩ = some v7 ∧ Below w.heap.size w (w0.setCell p u) ∧ L < (w0.setCell p u).heap.size := by
 obtain ⟨h0, h1, h2, h3, h4, h5, h6, h7, hb, hL⟩ := h
 exact ⟨cell_keep_set h0 (by omega), cell_keep_set h1 (by omega), cell_keep_set h2 (by omega), cell_keep_set h3 (by omega), cell_keep_set h4 (by omega), cell_keep_set h5 (by omega), cell_keep_set h6 (by omega), cell_keep_set h7 (by omega), hb.setCell (by omega) u, by simpa [World.setCell] using hL⟩
theorem keep12 {w w0 w1 : World} {L g0 g1 g2 g3 g4 g5 g6 g7 g8 g9 g10 g11 o0 o1 o2 o3 o4 o5 o6 o7 o8 o9 o10 o11 : Nat} {v0 v1 v2 v3 v4 v5 v6 v7 v8 v9 v10 v11 : Value} (h : w0.cell? ⟨g0, o0, none⟩ = some v0 ∧ w0.cell? ⟨g1, o1, none⟩ = some v1 ∧ w0.cell? ⟨g2, o2, none⟩ = some v2 ∧ w0.cell? ⟨g3, o3, none⟩ = some v3 ∧ w0.cell? ⟨g4, o4, none⟩ = some v4 ∧ w0.cell? ⟨g5, o5, none⟩ = some v5 ∧ w0.cell? ⟨g6, o6, none⟩ = some v6 ∧ w0.cell? ⟨g7, o7, none⟩ = some v7 ∧ w0.cell? ⟨g8, o8, none⟩ = some v8 ∧ w0.cell? ⟨g9, o9, none⟩ = some v9 ∧ w0.cell? ⟨g10, o10, none⟩ = some v10 ∧ w0.cell? ⟨g11, o11, none⟩ = some v11 ∧ Below w.heap.size w w0 ∧ L < w0.heap.size) (hb : Below w0.heap.size w0 w1) : w1.cell? ⟨g0, o0, none⟩ = some v0 ∧ w1.cell? ⟨g1, o1, none⟩ = some v1 ∧ w1.cell? ⟨g2, o2, none⟩ = some v2 ∧ w1.cell? ⟨g3, o3, none⟩ = some v3 ∧ w1.cell? ⟨g4, o4, none⟩ = some v4 ∧ w1.cell? ⟨g5, o5, none⟩ = some v5 ∧ w1.cell? ⟨g6, o6, none⟩ = some v6 ∧ w1.cell? ⟨g7, o7, none⟩ = some v7 ∧ w1.cell? ⟨g8, o8, none⟩ = some v8 ∧ w1.cell? ⟨g9, o9, none⟩ = some v9 ∧ w1.cell? ⟨g10, o10, none⟩ = some v10 ∧ w1.cell? ⟨g11, o11, none⟩ = some v11 ∧ Below w.heap.size w w1 ∧ L < w1.heap.size := by
 obtain ⟨h0, h1, h2, h3, h4, h5, h6, h7, h8, h9, h10, h11, hw, hL⟩ := h
 exact ⟨cell_keep h0 hb, cell_keep h1 hb, cell_keep h2 hb, cell_keep h3 hb, cell_keep h4 hb, cell_keep h5 hb, cell_keep h6 hb, cell_keep h7 hb, cell_keep h8 hb, cell_keep h9 hb, cell_keep h10 hb, cell_keep h11 hb, ext_trans hw hb, Nat.lt_of_lt_of_le hL hb.size⟩
theorem keep12s {w w0 : World} {L g0 g1 g2 g3 g4 g5 g6 g7 g8 g9 g10 g11 o0 o1 o2 o3 o4 o5 o6 o7 o8 o9 o10 o11 : Nat} {v0 v1 v2 v3 v4 v5 v6 v7 v8 v9 v10 v11 : Value} {p : Addr} {u : Value} (h : w0.cell? ⟨g0, o0, none⟩ = some v0 ∧ w0.cell? ⟨g1, o1, none⟩ = some v1 ∧ w0.cell? ⟨g2, o2, none⟩ = some v2 ∧ w0.cell? ⟨g3, o3, none⟩ = some v3 ∧ w0.cell? ⟨g4, o4, none⟩ = some v4 ∧ w0.cell? ⟨g5, o5, none⟩ = some v5 ∧ w0.cell? ⟨g6, o6, none⟩ = some v6 ∧ w0.cell? ⟨g7, o7, none⟩ = some v7 ∧ w0.cell? ⟨g8, o8, none⟩ = some v8 ∧ w0.cell? ⟨g9, o9, none⟩ = some v9 ∧ w0.cell? ⟨g10, o10, none⟩ = some v10 ∧ w0.cell? ⟨g11, o11, none⟩ = some v11 ∧ Below w.heap.size w w0 ∧ L < w0.heap.size) (hw : w.heap.size ≤ L + 1 := by first | assumption | (simp; done) | (simp; omega) | omega) (hp : L < p.block := by first | assumption | (simp; done) | (simp; omega) | omega) (q0 : g0 ≤ L := by first | assumption | (simp; done) | (simp; omega) | omega) (q1 : g1 ≤ L := by first | assumption | (simp; done) | (simp; omega) | omega) (q2 : g2 ≤ L := by first | assumption | (simp; done) | (simp; omega) | omega) (q3 : g3 ≤ L := by first | assumption | (simp; done) | (simp; omega) | omega) (q4 : g4 ≤ L := by first | assumption | (simp; done) | (simp; omega) | omega) (q5 : g5 ≤ L := by first | assumption | (simp; done) | (simp; omega) | omega) (q6 : g6 ≤ L := by first | assumption | (simp; done) | (simp; omega) | omega) (q7 : g7 ≤ L := by first | assumption | (simp; done) | (simp; omega) | omega) (q8 : g8 ≤ L := by first | assumption | (simp; done) | (simp; omega) | omega) (q9 : g9 ≤ L := by first | assumption | (simp; done) | (simp; omega) | omega) (q10 : g10 ≤ L := by first | assumption | (simp; done) | (simp; omega) | omega) (q11 : g11 ≤ L := by first | assumption | (simp; done) | (simp; omega) | omega) : (w0.setCell p u).cell? ⟨g0, o0, none⟩ = some v0 ∧ (w0.setCell p u).cell? ⟨g1, o1, none⟩ = some v1 ∧ (w0.setCell p u).cell? ⟨g2, o2, none⟩ = some v2 ∧ (w0.setCell p u).cell? ⟨g3, o3, none⟩ = some v3 ∧ (w0.setCell p u).cell? ⟨g4, o4, none⟩ = some v4 ∧ (w0.setCell p u).cell? ⟨g5, o5, none⟩ = some v5 ∧ (w0.setCell p u).cell? ⟨g6, o6, none⟩ = some v6 ∧ (w0.setCell p u).cell? ⟨g7, o7, none⟩ = some v7 ∧ (w0.setCell p u).cell? ⟨g8, o8, none⟩ = some v8 ∧ (w0.setCell p u).cell? ⟨g9, o9, none⟩ = some v9 ∧ (w0.setCell p u).cell? ⟨g10, o10, none⟩ = some v10 ∧ (w0.setCell p u).cell? ⟨g11, o11, none⟩ = some v11 ∧ Below w.heap.size w (w0.setCell p u) ∧ L < (w0.setCell p u).heap.size := by
 obtain ⟨h0, h1, h2, h3, h4, h5, h6, h7, h8, h9, h10, h11, hb, hL⟩ := h
 exact ⟨cell_keep_set h0 (by omega), cell_keep_set h1 (by omega), cell_keep_set h2 (by omega), cell_keep_set h3 (by omega), cell_keep_set h4 (by omega), cell_keep_set h5 (by omega), cell_keep_set h6 (by omega), cell_keep_set h7 (by omega), cell_keep_set h8 (by omega), cell_keep_set h9 (by omega), cell_keep_set h10 (by omega), cell_keep_set h11 (by omega), hb.setCell (by omega) u, by simpa [World.setCell] using hL⟩
theorem keep14 {w w0 w1 : World} {L g0 g1 g2 g3 g4 g5 g6 g7 g8 g9 g10 g11 g12 g13 o0 o1 o2 o3 o4 o5 o6 o7 o8 o9 o10 o11 o12 o13 : Nat} {v0 v1 v2 v3 v4 v5 v6 v7 v8 v9 v10 v11 v12 v13 : Value} (h : w0.cell? ⟨g0, o0, none⟩ = some v0 ∧ w0.cell? ⟨g1, o1, none⟩ = some v1 ∧ w0.cell? ⟨g2, o2, none⟩ = some v2 ∧ w0.cell? ⟨g3, o3, none⟩ = some v3 ∧ w0.cell? ⟨g4, o4, none⟩ = some v4 ∧ w0.cell? ⟨g5, o5, none⟩ = some v5 ∧ w0.cell? ⟨g6, o6, none⟩ = some v6 ∧ w0.cell? ⟨g7, o7, none⟩ = some v7 ∧ w0.cell? ⟨g8, o8, none⟩ = some v8 ∧ w0.cell? ⟨g9, o9, none⟩ = some v9 ∧ w0.cell? ⟨g10, o10, none⟩ = some v10 ∧ w0.cell? ⟨g11, o11, none⟩ = some v11 ∧ w0.cell? ⟨g12, o12, none⟩ = some v12 ∧ w0.cell? ⟨g13, o13, none⟩ = some v13 ∧ Below w.heap.size w w0 ∧ L < w0.heap.size) (hb : Below w0.heap.size w0 w1) : w1.cell? ⟨g0, o0, none⟩ = some v0 ∧ w1.cell? ⟨g1, o1, none⟩ = some v1 ∧ w1.cell? ⟨g2, o2, none⟩ = some v2 ∧ w1.cell? ⟨g3, o3, none⟩ = some v3 ∧ w1.cell? ⟨g4, o4, none⟩ = some v4 ∧ w1.cell? ⟨g5, o5, none⟩ = some v5 ∧ w1.cell? ⟨g6, o6, none⟩ = some v6 ∧ w1.cell? ⟨g7, o7, none⟩ = some v7 ∧ w1.cell? ⟨g8, o8, none⟩ = some v8 ∧ w1.cell? ⟨g9, o9, none⟩ = some v9 ∧ w1.cell? ⟨g10, o10, none⟩ = some v10 ∧ w1.cell? ⟨g11, o11, none⟩ = some v11 ∧ w1.cell? ⟨g12, o12, none⟩ = some v12 ∧ w1.cell? ⟨g13, o13, none⟩ = some v13 ∧ Below w.heap.size w w1 ∧ L < w1.heap.size := by
 obtain ⟨h0, h1, h2, h3, h4, h5, h6, h7, h8, h9, h10, h11, h12, h13, hw, hL⟩ := h
 exact ⟨cell_keep h0 hb, cell_keep h1 hb, cell_keep h2 hb, cell_keep h3 hb, cell_keep h4 hb, cell_keep h5 hb, cell_keep h6 hb, cell_keep h7 hb, cell_keep h8 hb, cell_keep h9 hb, cell_keep h10 hb, cell_keep h11 hb, cell_keep h12 hb, cell_keep h13 hb, ext_trans hw hb, Nat.lt_of_lt_of_le hL hb.size⟩
theorem keep14s {w w0 : World} {L g0 g1 g2 g3 g4 g5 g6 g7 g8 g9 g10 g11 g12 g13 o0 o1 o2 o3 o4 o5 o6 o7 o8 o9 o10 o11 o12 o13 : Nat} {v0 v1 v2 v3 v4 v5 v6 v7 v8 v9 v10 v11 v12 v13 : Value} {p : Addr} {u : Value} (h : w0.cell? ⟨g0, o0, none⟩ = some v0 ∧ w0.cell? ⟨g1, o1, none⟩ = some v1 ∧ w0.cell? ⟨g2, o2, none⟩ = some v2 ∧ w0.cell? ⟨g3, o3, none⟩ = some v3 ∧ w0.cell? ⟨g4, o4, none⟩ = some v4 ∧ w0.cell? ⟨g5, o5, none⟩ = some v5 ∧ w0.cell? ⟨g6, o6, none⟩ = some v6 ∧ w0.cell? ⟨g7, o7, none⟩ = some v7 ∧ w0.cell? ⟨g8, o8, none⟩ = some v8 ∧ w0.cell? ⟨g9, o9, none⟩ = some v9 ∧ w0.cell? ⟨g10, o10, none⟩ = some v10 ∧ w0.cell? ⟨g11, o11, none⟩ = some v11 ∧ w0.cell? ⟨g12, o12, none⟩ = some v12 ∧ w0.cell? ⟨g13, o13, none⟩ = some v13 ∧ Below w.heap.size w w0 ∧ L < w0.heap.size) (hw : w.heap.size ≤ L + 1 := by first | assumption | (simp; done) | (simp; omega) | omega) (hp : L < p.block := by first | assumption | (simp; done) | (simp; omega) | omega) (q0 : g0 ≤ L := by first | assumption | (simp; done) | (simp; omega) | omega) (q1 : g1 ≤ L := by first | assumption | (simp; done) | (simp; omega) | omega) (q2 : g2 ≤ L := by first | assumption | (simp; done) | (simp; omega) | omega) (q3 : g3 ≤ L := by first | assumption | (simp; done) | (simp; omega) | omega) (q4 : g4 ≤ L := by first | assumption | (simp; done) | (simp; omega) | omega) (q5 : g5 ≤ L := by first | assumption | (simp; done) | (simp; omega) | omega) (q6 : g6 ≤ L := by first | assumption | (simp; done) | (simp; omega) | omega) (q7 : g7 ≤ L := by first | assumption | (simp; done) | (simp; omega) | omega) (q8 : g8 ≤ L := by first | assumption | (simp; done) | (simp; omega) | omega) (q9 : g9 ≤ L := by first | assumption | (simp; done) | (simp; omega) | omega) (q10 : g10 ≤ L := by first | assumption | (simp; done) | (simp; omega) | omega) (q11 : g11 ≤ L := by first | assumption | (simp; done) | (simp; omega) | omega) (q12 : g12 ≤ L := by first | assumption | (simp; done) | (simp; omega) | omega) (q13 : g13 ≤ L := by first | assumption | (simp; done) | (simp; omega) | omega) : (w0.setCell p u).cell? ⟨g0, o0, none⟩ = some v0 ∧ (w0.setCell p u).cell? ⟨g1, o1, none⟩ = some v1 ∧ (w0.setCell p u).cell? ⟨g2, o2, none⟩ = some v2 ∧ (w0.setCell p u).cell? ⟨g3, o3, none⟩ = some v3 ∧ (w0.setCell p u).cell? ⟨g4, o4, none⟩ = some v4 ∧ (w0.setCell p u).cell? ⟨g5, o5, none⟩ = some v5 ∧ (w0.setCell p u).cell? ⟨g6, o6, none⟩ = some v6 ∧ (w0.setCell p u).cell? ⟨g7, o7, none⟩ = some v7 ∧ (w0.setCell p u).cell? ⟨g8, o8, none⟩ = some v8 ∧ (w0.setCell p u).cell? ⟨g9, o9, none⟩ = some v9 ∧ (w0.setCell p u).cell? ⟨g10, o10, none⟩ = some v10 ∧ (w0.setCell p u).cell? ⟨g11, o11, none⟩ = some v11 ∧ (w0.setCell p u).cell? ⟨g12, o12, none⟩ = some v12 ∧ (w0.setCell p u).cell? ⟨g13, o13, none⟩ = some v13 ∧ Below w.heap.size w (w0.setCell p u) ∧ L < (w0.setCell p u).heap.size := by
 obtain ⟨h0, h1, h2, h3, h4, h5, h6, h7, h8, h9, h10, h11, h12, h13, hb, hL⟩ := h
 exact ⟨cell_keep_set h0 (by omega), cell_keep_set h1 (by omega), cell_keep_set h2 (by omega), cell_keep_set h3 (by omega), cell_keep_set h4 (by omega), cell_keep_set h5 (by omega), cell_keep_set h6 (by omega), cell_keep_set h7 (by omega), cell_keep_set h8 (by omega), cell_keep_set h9 (by omega), cell_keep_set h10 (by omega), cell_keep_set h11 (by omega), cell_keep_set h12 (by omega), cell_keep_set h13 (by omega), hb.setCell (by omega) u, by simpa [World.setCell] using hL⟩
theorem TabsS.slice {w : World} {L : Nat} {v : Value} {ts : List TabD} (h : TabsS w L v ts) : ∃ p q, v = .slice p ts.length q := by
 obtain ⟨F, ⟨_, a, cap, rfl, _⟩, _⟩ := h
 exact ⟨_, _, rfl⟩
theorem PinsS.slice {w : World} {L : Nat} {v : Value} {ts : List PinD} (h : PinsS w L v ts) : ∃ p q, v = .slice p ts.length q := by
 obtain ⟨F, ⟨_, a, cap, rfl, _⟩, _⟩ := h
 exact ⟨_, _, rfl⟩
theorem ArcsS.slice {w : World} {L : Nat} {v : Value} {ts : List ArcD} (h : ArcsS w L v ts) : ∃ p q, v = .slice p ts.length q := by
 obtain ⟨F, ⟨_, a, cap, rfl, _⟩, _⟩ := h
 exact ⟨_, _, rfl⟩
theorem IntS.slice {w : World} {L : Nat} {v : Value} {ts : List Int} (h : IntS w L v ts) : ∃ p q, v = .slice p ts.length q := by
 obtain ⟨_, a, cap, rfl, _⟩ := h
 exact ⟨_, _, rfl⟩
theorem eqPin_same (f g : Nat → Value) (p : PinD) (w : World) (h : PinF f p) (h' : PinF g p) : Calls Tryz.prog 170 #[.agg #[f 0, f 1, f 2, f 3], .agg #[g 0, g 1, g 2, g 3]] w fun e w' => e = .returned (.bool true) ∧ Below w.heap.size w w' := by
 obtain ⟨e0, e1, e2, e3, hs⟩ := h
 obtain ⟨g0, g1, g2, g3, _⟩ := h'
 rw [e0, e1, e2, e3, g0, g1, g2, g3]
 clear e0 e1 e2 e3 g0 g1 g2 g3
 go_enter Tryz.func170, Tryz.ntmps170
 go_wp2
 go_ret
 exact ⟨rfl, eX⟩
set_option maxHeartbeats 1000000 in
theorem eqPins_same (v u : Value) (ts : List PinD) (w : World) (h : PinsS w w.heap.size v ts) (h' : PinsS w w.heap.size u ts) : Calls Tryz.prog 141 #[v, u] w fun e w' => e = .returned (.bool true) ∧ Below w.heap.size w w' := by
 obtain ⟨F, hc, hf⟩ := h
 obtain ⟨G, hc', hf'⟩ := h'
 obtain ⟨n, hnn⟩ : ∃ n, n = ts.length := ⟨_, rfl⟩
 rw [← hnn] at hc hf hc' hf'
 have HC := hc; have HC' := hc'
 obtain ⟨hn, a, cap, rfl, _⟩ := hc
 obtain ⟨_, a', cap', rfl, _⟩ := hc'
 have HC := lh HC; have HF := lh hf; have HC' := lh HC'; have HF' := lh hf'
 clear hf hf' hnn
 go_enter Tryz.func141, Tryz.ntmps141
 go_wp2
 go_loopw [5] (fun i wr => ∃ k : Nat, k ≤ n ∧ i = .int .i64 k ∧ Below w.heap.size w wr) (fun i _ => n - (intOf i).toNat)
 case atStart => exact ⟨0, by omega, rfl, eX⟩
 case round =>
  obtain ⟨k, hk, rfl, hbw⟩ := hrel
  by_cases hkn : k < n
  ·obtain ⟨b, off, rfl, hlt, hx⟩ := HC.out.at hbw hkn
   obtain ⟨b', off', rfl, hlt', hx'⟩ := HC'.out.at hbw hkn
   have y0 := hx 0 (by omega)
   have y1 := hx 1 (by omega)
   have y2 := hx 2 (by omega)
   have y3 := hx 3 (by omega)
   have z0 := hx' 0 (by omega)
   have z1 := hx' 1 (by omega)
   have z2 := hx' 2 (by omega)
   have z3 := hx' 3 (by omega)
   simp only [Nat.add_zero] at y0 z0
   have i0 : (0 : Int) ≤ (k : Int) := by omega
   have i1 : (k : Int) < (n : Int) := by omega
   have hbs : b < wr.heap.size := by have := hbw.size; omega
   clear hx hx'
   go_wp2
   go_region_held3 (fun w' => w'.cell? ⟨b, off + k * 4, none⟩ = some (F k 0) ∧ w'.cell? ⟨b, off + k * 4 + 1, none⟩ = some (F k 1) ∧ w'.cell? ⟨b, off + k * 4 + 2, none⟩ = some (F k 2) ∧ w'.cell? ⟨b, off + k * 4 + 3, none⟩ = some (F k 3) ∧ w'.cell? ⟨b', off' + k * 4, none⟩ = some (G k 0) ∧ w'.cell? ⟨b', off' + k * 4 + 1, none⟩ = some (G k 1) ∧ w'.cell? ⟨b', off' + k * 4 + 2, none⟩ = some (G k 2) ∧ w'.cell? ⟨b', off' + k * 4 + 3, none⟩ = some (G k 3) ∧ Below w.heap.size w w' ∧ b < w'.heap.size) (first | exact (Hid.out (by assumption)) | exact keep8 (Hid.out (by assumption)) ((Below.refl _ _).alloc (Nat.le_refl _) _) | exact keep8s (keep8s (Hid.out (by assumption))) | exact keep8s (Hid.out (by assumption)) | ((repeat' apply And.intro) <;> first | assumption | ((exact eX); done) | (simp [go_sem]; done) | (simp [go_sem, *]; done) | (simp; omega) | omega)) (first | ((go_at_call 170; refine (eqPin_same (F k) (G k) _ _ (HF.out k hkn) (HF'.out k hkn)).mono ?_; rintro e w1 ⟨rfl, hb⟩; have ⟨hc, hf⟩ := bcell hb; have hz := hb.size; (try simp at hz); (try have hz := Nat.lt_of_succ_le hz); (try have y0 := wy w w1); (try have z0 := wz0 w w1); (try have z1 := wz1 w w1); (try have z2 := wz2 w w1); (try have z3 := wz3 w w1); (try have z4 := wz4 w w1); (try have x0 := wz0 wc w1); (try have x1 := wy wc w1)); have hS := lh (keep8 (by assumption) hb); have zL := (Hid.out hS).2.2.2.2.2.2.2.2.2))
   all_goals
    go_wp2_with fail
    go_roundw
    case rel => exact ⟨k + 1, by omega, by go_num, eX⟩
    case measure => simp [intOf]; omega
  ·obtain rfl : k = n := by omega
   go_wp2
   go_ret
   exact ⟨rfl, hbw⟩
theorem eqTab_same (f g : Nat → Value) (t : TabD) (w : World) (h : TabF w w.heap.size f t) (h' : TabF w w.heap.size g t) : Calls Tryz.prog 212 #[.agg #[f 0, f 1, f 2], .agg #[g 0, g 1, g 2]] w fun e w' => e = .returned (.bool true) ∧ Below w.heap.size w w' :=
 eqTable_same _ _ _ _ _ _ _ _ _ w h.1 h.2.1 h.2.2 h'.1 h'.2.1 h'.2.2
set_option maxHeartbeats 1000000 in
theorem eqTabs_same (v u : Value) (ts : List TabD) (w : World) (h : TabsS w w.heap.size v ts) (h' : TabsS w w.heap.size u ts) : Calls Tryz.prog 192 #[v, u] w fun e w' => e = .returned (.bool true) ∧ Below w.heap.size w w' := by
 obtain ⟨F, hc, hf⟩ := h
 obtain ⟨G, hc', hf'⟩ := h'
 obtain ⟨n, hnn⟩ : ∃ n, n = ts.length := ⟨_, rfl⟩
 rw [← hnn] at hc hf hc' hf'
 have HC := hc; have HC' := hc'
 obtain ⟨hn, a, cap, rfl, _⟩ := hc
 obtain ⟨_, a', cap', rfl, _⟩ := hc'
 have HC := lh HC; have HF := lh hf; have HC' := lh HC'; have HF' := lh hf'
 clear hf hf' hnn
 go_enter Tryz.func192, Tryz.ntmps192
 go_wp2
 go_loopw [5] (fun i wr => ∃ k : Nat, k ≤ n ∧ i = .int .i64 k ∧ Below w.heap.size w wr) (fun i _ => n - (intOf i).toNat)
 case atStart => exact ⟨0, by omega, rfl, eX⟩
 case round =>
  obtain ⟨k, hk, rfl, hbw⟩ := hrel
  by_cases hkn : k < n
  ·obtain ⟨b, off, rfl, hlt, hx⟩ := HC.out.at hbw hkn
   obtain ⟨b', off', rfl, hlt', hx'⟩ := HC'.out.at hbw hkn
   have y0 := hx 0 (by omega)
   have y1 := hx 1 (by omega)
   have y2 := hx 2 (by omega)
   have z0 := hx' 0 (by omega)
   have z1 := hx' 1 (by omega)
   have z2 := hx' 2 (by omega)
   simp only [Nat.add_zero] at y0 z0
   have i0 : (0 : Int) ≤ (k : Int) := by omega
   have i1 : (k : Int) < (n : Int) := by omega
   have hbs : b < wr.heap.size := by have := hbw.size; omega
   clear hx hx'
   go_wp2
   go_region_held3 (fun w' => w'.cell? ⟨b, off + k * 3, none⟩ = some (F k 0) ∧ w'.cell? ⟨b, off + k * 3 + 1, none⟩ = some (F k 1) ∧ w'.cell? ⟨b, off + k * 3 + 2, none⟩ = some (F k 2) ∧ w'.cell? ⟨b', off' + k * 3, none⟩ = some (G k 0) ∧ w'.cell? ⟨b', off' + k * 3 + 1, none⟩ = some (G k 1) ∧ w'.cell? ⟨b', off' + k * 3 + 2, none⟩ = some (G k 2) ∧ Below w.heap.size w w' ∧ b < w'.heap.size) (first | exact (Hid.out (by assumption)) | exact keep6 (Hid.out (by assumption)) ((Below.refl _ _).alloc (Nat.le_refl _) _) | exact keep6s (keep6s (Hid.out (by assumption))) | exact keep6s (Hid.out (by assumption)) | ((repeat' apply And.intro) <;> first | assumption | ((exact eX); done) | (simp [go_sem]; done) | (simp [go_sem, *]; done) | (simp; omega) | omega)) (first | ((go_at_call 212; refine (eqTab_same (F k) (G k) _ _ ((HF.out k hkn).up eX) ((HF'.out k hkn).up eX)).mono ?_; rintro e w1 ⟨rfl, hb⟩; have ⟨hc, hf⟩ := bcell hb; have hz := hb.size; (try simp at hz); (try have hz := Nat.lt_of_succ_le hz); (try have y0 := wy w w1); (try have z0 := wz0 w w1); (try have z1 := wz1 w w1); (try have z2 := wz2 w w1); (try have z3 := wz3 w w1); (try have z4 := wz4 w w1); (try have x0 := wz0 wc w1); (try have x1 := wy wc w1)); have hS := lh (keep6 (by assumption) hb); have zL := (Hid.out hS).2.2.2.2.2.2.2))
   all_goals
    go_wp2_with fail
    go_roundw
    case rel => exact ⟨k + 1, by omega, by go_num, eX⟩
    case measure => simp [intOf]; omega
  ·obtain rfl : k = n := by omega
   go_wp2
   go_ret
   exact ⟨rfl, hbw⟩
set_option maxHeartbeats 1000000 in
theorem eqArc_same (f g : Nat → Value) (t : ArcD) (w : World) (h : ArcF w w.heap.size f t) (h' : ArcF w w.heap.size g t) : Calls Tryz.prog 171 #[.agg #[f 0, f 1, f 2, f 3, f 4, f 5], .agg #[g 0, g 1, g 2, g 3, g 4, g 5]] w fun e w' => e = .returned (.bool true) ∧ Below w.heap.size w w' := by
 obtain ⟨e0, e1, e2, e3, x4, x5⟩ := h
 obtain ⟨g0, g1, g2, g3, z4, z5⟩ := h'
 rw [e0, e1, e2, e3, g0, g1, g2, g3]
 obtain ⟨p4, q4, e4⟩ := x4.slice; obtain ⟨p5, q5, e5⟩ := x5.slice; obtain ⟨r4, s4, g4⟩ := z4.slice; obtain ⟨r5, s5, g5⟩ := z5.slice
 rw [e4] at x4; rw [e5] at x5; rw [g4] at z4; rw [g5] at z5
 rw [e4, e5, g4, g5]
 have X4 := lh x4; have X5 := lh x5; have Z4 := lh z4; have Z5 := lh z5
 clear e0 e1 e2 e3 e4 e5 g0 g1 g2 g3 g4 g5 x4 x5 z4 z5
 go_enter Tryz.func171, Tryz.ntmps171
 go_wp2_with (go_at_call 192; refine (eqTabs_same _ _ _ _ (by first | exact X4.out.up eX | exact X5.out.up eX) (by first | exact Z4.out.up eX | exact Z5.out.up eX)).mono ?_; rintro e w1 ⟨rfl, hb⟩; have ⟨hc, hf⟩ := bcell hb; have hz := hb.size; (try simp at hz); (try have hz := Nat.lt_of_succ_le hz); (try have y0 := wy w w1); (try have z0 := wz0 w w1); (try have z1 := wz1 w w1); (try have z2 := wz2 w w1); (try have z3 := wz3 w w1); (try have z4 := wz4 w w1); (try have x0 := wz0 wc w1); (try have x1 := wy wc w1))
 go_ret
 exact ⟨rfl, eX⟩
set_option maxHeartbeats 1000000 in
theorem eqArcs_same (v u : Value) (ts : List ArcD) (w : World) (h : ArcsS w w.heap.size v ts) (h' : ArcsS w w.heap.size u ts) : Calls Tryz.prog 142 #[v, u] w fun e w' => e = .returned (.bool true) ∧ Below w.heap.size w w' := by
 obtain ⟨F, hc, hf⟩ := h
 obtain ⟨G, hc', hf'⟩ := h'
 obtain ⟨n, hnn⟩ : ∃ n, n = ts.length := ⟨_, rfl⟩
 rw [← hnn] at hc hf hc' hf'
 have HC := hc; have HC' := hc'
 obtain ⟨hn, a, cap, rfl, _⟩ := hc
 obtain ⟨_, a', cap', rfl, _⟩ := hc'
 have HC := lh HC; have HF := lh hf; have HC' := lh HC'; have HF' := lh hf'
 clear hf hf' hnn
 go_enter Tryz.func142, Tryz.ntmps142
 go_wp2
 go_loopw [5] (fun i wr => ∃ k : Nat, k ≤ n ∧ i = .int .i64 k ∧ Below w.heap.size w wr) (fun i _ => n - (intOf i).toNat)
 case atStart => exact ⟨0, by omega, rfl, eX⟩
 case round =>
  obtain ⟨k, hk, rfl, hbw⟩ := hrel
  by_cases hkn : k < n
  ·obtain ⟨b, off, rfl, hlt, hx⟩ := HC.out.at hbw hkn
   obtain ⟨b', off', rfl, hlt', hx'⟩ := HC'.out.at hbw hkn
   have y0 := hx 0 (by omega)
   have y1 := hx 1 (by omega)
   have y2 := hx 2 (by omega)
   have y3 := hx 3 (by omega)
   have y4 := hx 4 (by omega)
   have y5 := hx 5 (by omega)
   have z0 := hx' 0 (by omega)
   have z1 := hx' 1 (by omega)
   have z2 := hx' 2 (by omega)
   have z3 := hx' 3 (by omega)
   have z4 := hx' 4 (by omega)
   have z5 := hx' 5 (by omega)
   simp only [Nat.add_zero] at y0 z0
   have i0 : (0 : Int) ≤ (k : Int) := by omega
   have i1 : (k : Int) < (n : Int) := by omega
   have hbs : b < wr.heap.size := by have := hbw.size; omega
   clear hx hx'
   go_wp2
   go_region_held3 (fun w' => w'.cell? ⟨b, off + k * 6, none⟩ = some (F k 0) ∧ w'.cell? ⟨b, off + k * 6 + 1, none⟩ = some (F k 1) ∧ w'.cell? ⟨b, off + k * 6 + 2, none⟩ = some (F k 2) ∧ w'.cell? ⟨b, off + k * 6 + 3, none⟩ = some (F k 3) ∧ w'.cell? ⟨b, off + k * 6 + 4, none⟩ = some (F k 4) ∧ w'.cell? ⟨b, off + k * 6 + 5, none⟩ = some (F k 5) ∧ w'.cell? ⟨b', off' + k * 6, none⟩ = some (G k 0) ∧ w'.cell? ⟨b', off' + k * 6 + 1, none⟩ = some (G k 1) ∧ w'.cell? ⟨b', off' + k * 6 + 2, none⟩ = some (G k 2) ∧ w'.cell? ⟨b', off' + k * 6 + 3, none⟩ = some (G k 3) ∧ w'.cell? ⟨b', off' + k * 6 + 4, none⟩ = some (G k 4) ∧ w'.cell? ⟨b', off' + k * 6 + 5, none⟩ = some (G k 5) ∧ Below w.heap.size w w' ∧ b < w'.heap.size) (first | exact (Hid.out (by assumption)) | exact keep12 (Hid.out (by assumption)) ((Below.refl _ _).alloc (Nat.le_refl _) _) | exact keep12s (keep12s (Hid.out (by assumption))) | exact keep12s (Hid.out (by assumption)) | ((repeat' apply And.intro) <;> first | assumption | ((exact eX); done) | (simp [go_sem]; done) | (simp [go_sem, *]; done) | (simp; omega) | omega)) (first | ((go_at_call 171; refine (eqArc_same (F k) (G k) _ _ ((HF.out k hkn).up eX) ((HF'.out k hkn).up eX)).mono ?_; rintro e w1 ⟨rfl, hb⟩; have ⟨hc, hf⟩ := bcell hb; have hz := hb.size; (try simp at hz); (try have hz := Nat.lt_of_succ_le hz); (try have y0 := wy w w1); (try have z0 := wz0 w w1); (try have z1 := wz1 w w1); (try have z2 := wz2 w w1); (try have z3 := wz3 w w1); (try have z4 := wz4 w w1); (try have x0 := wz0 wc w1); (try have x1 := wy wc w1)); have hS := lh (keep12 (by assumption) hb); have zL := (Hid.out hS).2.2.2.2.2.2.2.2.2.2.2.2.2))
   all_goals
    go_wp2_with fail
    go_roundw
    case rel => exact ⟨k + 1, by omega, by go_num, eX⟩
    case measure => simp [intOf]; omega
  ·obtain rfl : k = n := by omega
   go_wp2
   go_ret
   exact ⟨rfl, hbw⟩
set_option maxHeartbeats 1000000 in
theorem eqCell_same (f g : Nat → Value) (t : CellD) (w : World) (h : CellF w w.heap.size f t) (h' : CellF w w.heap.size g t) : Calls Tryz.prog 109 #[.agg #[f 0, f 1, f 2, f 3, f 4, f 5, f 6], .agg #[g 0, g 1, g 2, g 3, g 4, g 5, g 6]] w fun e w' => e = .returned (.bool true) ∧ Below w.heap.size w w' := by
 obtain ⟨e0, e1, x2, x3, x4, e5, e6, _⟩ := h
 obtain ⟨g0, g1, z2, z3, z4, g5, g6, _⟩ := h'
 rw [e0, e1, e5, e6, g0, g1, g5, g6]
 obtain ⟨p2, q2, e2⟩ := x2.slice; obtain ⟨p3, q3, e3⟩ := x3.slice; obtain ⟨p4, q4, e4⟩ := x4.slice; obtain ⟨r2, s2, g2⟩ := z2.slice; obtain ⟨r3, s3, g3⟩ := z3.slice; obtain ⟨r4, s4, g4⟩ := z4.slice
 rw [e2] at x2; rw [e3] at x3; rw [e4] at x4; rw [g2] at z2; rw [g3] at z3; rw [g4] at z4
 rw [e2, e3, e4, g2, g3, g4]
 have X2 := lh x2; have X3 := lh x3; have X4 := lh x4; have Z2 := lh z2; have Z3 := lh z3; have Z4 := lh z4
 clear e0 e1 e2 e3 e4 e5 e6 g0 g1 g2 g3 g4 g5 g6 x2 x3 x4 z2 z3 z4
 go_enter Tryz.func109, Tryz.ntmps109
 go_wp2_with (first | (go_at_call 141; refine (eqPins_same _ _ _ _ (X2.out.up eX) (Z2.out.up eX)).mono ?_; rintro e w1 ⟨rfl, hb⟩; have ⟨hc, hf⟩ := bcell hb; have hz := hb.size; (try simp at hz); (try have hz := Nat.lt_of_succ_le hz); (try have y0 := wy w w1); (try have z0 := wz0 w w1); (try have z1 := wz1 w w1); (try have z2 := wz2 w w1); (try have z3 := wz3 w w1); (try have z4 := wz4 w w1); (try have x0 := wz0 wc w1); (try have x1 := wy wc w1)) | (go_at_call 142; refine (eqArcs_same _ _ _ _ (X3.out.up eX) (Z3.out.up eX)).mono ?_; rintro e w1 ⟨rfl, hb⟩; have ⟨hc, hf⟩ := bcell hb; have hz := hb.size; (try simp at hz); (try have hz := Nat.lt_of_succ_le hz); (try have y0 := wy w w1); (try have z0 := wz0 w w1); (try have z1 := wz1 w w1); (try have z2 := wz2 w w1); (try have z3 := wz3 w w1); (try have z4 := wz4 w w1); (try have x0 := wz0 wc w1); (try have x1 := wy wc w1)) | (go_at_call 14; refine (eqInt64S_same _ _ _ _ (X4.out.up eX) (Z4.out.up eX)).mono ?_; rintro e w1 ⟨rfl, hb⟩; have ⟨hc, hf⟩ := bcell hb; have hz := hb.size; (try simp at hz); (try have hz := Nat.lt_of_succ_le hz); (try have y0 := wy w w1); (try have z0 := wz0 w w1); (try have z1 := wz1 w w1); (try have z2 := wz2 w w1); (try have z3 := wz3 w w1); (try have z4 := wz4 w w1); (try have x0 := wz0 wc w1); (try have x1 := wy wc w1)))
 go_ret
 exact ⟨rfl, eX⟩
set_option maxHeartbeats 1000000 in
theorem eqCells_same (v u : Value) (ts : List CellD) (w : World) (h : CellsS w w.heap.size v ts) (h' : CellsS w w.heap.size u ts) : Calls Tryz.prog 72 #[v, u] w fun e w' => e = .returned (.bool true) ∧ Below w.heap.size w w' := by
 obtain ⟨F, hc, hf⟩ := h
 obtain ⟨G, hc', hf'⟩ := h'
 obtain ⟨n, hnn⟩ : ∃ n, n = ts.length := ⟨_, rfl⟩
 rw [← hnn] at hc hf hc' hf'
 have HC := hc; have HC' := hc'
 obtain ⟨hn, a, cap, rfl, _⟩ := hc
 obtain ⟨_, a', cap', rfl, _⟩ := hc'
 have HC := lh HC; have HF := lh hf; have HC' := lh HC'; have HF' := lh hf'
 clear hf hf' hnn
 go_enter Tryz.func72, Tryz.ntmps72
 go_wp2
 go_loopw [5] (fun i wr => ∃ k : Nat, k ≤ n ∧ i = .int .i64 k ∧ Below w.heap.size w wr) (fun i _ => n - (intOf i).toNat)
 case atStart => exact ⟨0, by omega, rfl, eX⟩
 case round =>
  obtain ⟨k, hk, rfl, hbw⟩ := hrel
  by_cases hkn : k < n
  ·obtain ⟨b, off, rfl, hlt, hx⟩ := HC.out.at hbw hkn
   obtain ⟨b', off', rfl, hlt', hx'⟩ := HC'.out.at hbw hkn
   have y0 := hx 0 (by omega)
   have y1 := hx 1 (by omega)
   have y2 := hx 2 (by omega)
   have y3 := hx 3 (by omega)
   have y4 := hx 4 (by omega)
   have y5 := hx 5 (by omega)
   have y6 := hx 6 (by omega)
   have z0 := hx' 0 (by omega)
   have z1 := hx' 1 (by omega)
   have z2 := hx' 2 (by omega)
   have z3 := hx' 3 (by omega)
   have z4 := hx' 4 (by omega)
   have z5 := hx' 5 (by omega)
   have z6 := hx' 6 (by omega)
   simp only [Nat.add_zero] at y0 z0
   have i0 : (0 : Int) ≤ (k : Int) := by omega
   have i1 : (k : Int) < (n : Int) := by omega
   have hbs : b < wr.heap.size := by have := hbw.size; omega
   clear hx hx'
   go_wp2
   go_region_held3 (fun w' => w'.cell? ⟨b, off + k * 7, none⟩ = some (F k 0) ∧ w'.cell? ⟨b, off + k * 7 + 1, none⟩ = some (F k 1) ∧ w'.cell? ⟨b, off + k * 7 + 2, none⟩ = some (F k 2) ∧ w'.cell? ⟨b, off + k * 7 + 3, none⟩ = some (F k 3) ∧ w'.cell? ⟨b, off + k * 7 + 4, none⟩ = some (F k 4) ∧ w'.cell? ⟨b, off + k * 7 + 5, none⟩ = some (F k 5) ∧ w'.cell? ⟨b, off + k * 7 + 6, none⟩ = some (F k 6) ∧ w'.cell? ⟨b', off' + k * 7, none⟩ = some (G k 0) ∧ w'.cell? ⟨b', off' + k * 7 + 1, none⟩ = some (G k 1) ∧ w'.cell? ⟨b', off' + k * 7 + 2, none⟩ = some (G k 2) ∧ w'.cell? ⟨b', off' + k * 7 + 3, none⟩ = some (G k 3) ∧ w'.cell? ⟨b', off' + k * 7 + 4, none⟩ = some (G k 4) ∧ w'.cell? ⟨b', off' + k * 7 + 5, none⟩ = some (G k 5) ∧ w'.cell? ⟨b', off' + k * 7 + 6, none⟩ = some (G k 6) ∧ Below w.heap.size w w' ∧ b < w'.heap.size) (first | exact (Hid.out (by assumption)) | exact keep14 (Hid.out (by assumption)) ((Below.refl _ _).alloc (Nat.le_refl _) _) | exact keep14s (keep14s (Hid.out (by assumption))) | exact keep14s (Hid.out (by assumption)) | ((repeat' apply And.intro) <;> first | assumption | ((exact eX); done) | (simp [go_sem]; done) | (simp [go_sem, *]; done) | (simp; omega) | omega)) (first | ((go_at_call 109; refine (eqCell_same (F k) (G k) _ _ ((HF.out k hkn).up eX) ((HF'.out k hkn).up eX)).mono ?_; rintro e w1 ⟨rfl, hb⟩; have ⟨hc, hf⟩ := bcell hb; have hz := hb.size; (try simp at hz); (try have hz := Nat.lt_of_succ_le hz); (try have y0 := wy w w1); (try have z0 := wz0 w w1); (try have z1 := wz1 w w1); (try have z2 := wz2 w w1); (try have z3 := wz3 w w1); (try have z4 := wz4 w w1); (try have x0 := wz0 wc w1); (try have x1 := wy wc w1)); have hS := lh (keep14 (by assumption) hb); have zL := (Hid.out hS).2.2.2.2.2.2.2.2.2.2.2.2.2.2.2))
   all_goals
    go_wp2_with fail
    go_roundw
    case rel => exact ⟨k + 1, by omega, by go_num, eX⟩
    case measure => simp [intOf]; omega
  ·obtain rfl : k = n := by omega
   go_wp2
   go_ret
   exact ⟨rfl, hbw⟩
theorem CellsS.slice {w : World} {L : Nat} {v : Value} {ts : List CellD} (h : CellsS w L v ts) : ∃ p q, v = .slice p ts.length q := by
 obtain ⟨F, ⟨_, a, cap, rfl, _⟩, _⟩ := h
 exact ⟨_, _, rfl⟩
theorem eqLibrary_same (v u : Value) (ts : List CellD) (w : World) (h : CellsS w w.heap.size v ts) (h' : CellsS w w.heap.size u ts) : Calls Tryz.prog 39 #[.agg #[v], .agg #[u]] w fun e w' => e = .returned (.bool true) ∧ Below w.heap.size w w' := by
 have X := lh h; have Z := lh h'
 obtain ⟨p, q, rfl⟩ := h.slice; obtain ⟨p', q', rfl⟩ := h'.slice
 clear h h'
 go_enter Tryz.func39, Tryz.ntmps39
 go_wp2_with (go_at_call 72; refine (eqCells_same _ _ _ _ (X.out.up eX) (Z.out.up eX)).mono ?_; rintro e w1 ⟨rfl, hb⟩; have ⟨hc, hf⟩ := bcell hb; have hz := hb.size; (try simp at hz); (try have hz := Nat.lt_of_succ_le hz); (try have y0 := wy w w1); (try have z0 := wz0 w w1); (try have z1 := wz1 w w1); (try have z2 := wz2 w w1); (try have z3 := wz3 w w1); (try have z4 := wz4 w w1); (try have x0 := wz0 wc w1); (try have x1 := wy wc w1))
 go_ret
 exact ⟨rfl, eX⟩
end Go.Proofs.YtkpfbnffhhmokaaGreat
