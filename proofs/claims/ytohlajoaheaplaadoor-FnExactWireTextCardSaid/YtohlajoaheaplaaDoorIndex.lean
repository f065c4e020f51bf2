/-
The program's indexWith and allDiffer over pins, arcs and cells.
-/
import Derived.Test.YtohlajoaheaplaaDoorName
namespace Go.Proofs.YtohlajoaheaplaaDoor
open Go.ChangeShapes Go.WideShapes Go.ChangeAt Go.RowKit
set_option linter.unusedVariables false
theorem keep9 {w w0 w1 : World} {L g0 g1 g2 g3 g4 g5 g6 g7 g8 o0 o1 o2 o3 o4 o5 o6 o7 o8 : Nat} {v0 v1 v2 v3 v4 v5 v6 v7 v8 : Value} (h : w0.cell? ⟨g0, o0, none⟩ = some v0 ∧ w0.cell? ⟨g1, o1, none⟩ = some v1 ∧ w0.cell? ⟨g2, o2, none⟩ = some v2 ∧ w0.cell? ⟨g3, o3, none⟩ = some v3 ∧ w0.cell? ⟨g4, o4, none⟩ = some v4 ∧ w0.cell? ⟨g5, o5, none⟩ = some v5 ∧ w0.cell? ⟨g6, o6, none⟩ = some v6 ∧ w0.cell? ⟨g7, o7, none⟩ = some v7 ∧ w0.cell? ⟨g8, o8, none⟩ = some v8 ∧ Below w.heap.size w w0 ∧ L < w0.heap.size) (hb : Below w0.heap.size w0 w1) : w1.cell? ⟨g0, o0, none⟩ = some v0 ∧ w1.cell? ⟨g1, o1, none⟩ = some v1 ∧ w1.cell? ⟨g2, o2, none⟩ = some v2 ∧ w1.cell? ⟨g3, o3, none⟩ = some v3 ∧ w1.cell? ⟨g4, o4, none⟩ = some v4 ∧ w1.cell? ⟨g5, o5, none⟩ = some v5 ∧ w1.cell? ⟨g6, o6, none⟩ = some v6 ∧ w1.cell? ⟨g7, o7, none⟩ = some v7 ∧ w1.cell? ⟨g8, o8, none⟩ = some v8 ∧ Below w.heap.size w w1 ∧ L < w1.heap.size := by
  obtain ⟨h0, h1, h2, h3, h4, h5, h6, h7, h8, hw, hL⟩ := h
  exact ⟨cell_keep h0 hb, cell_keep h1 hb, cell_keep h2 hb, cell_keep h3 hb, cell_keep h4 hb, cell_keep h5 hb, cell_keep h6 hb, cell_keep h7 hb, cell_keep h8 hb, ext_trans hw hb, Nat.lt_of_lt_of_le hL hb.size⟩
theorem keep9s {w w0 : World} {L g0 g1 g2 g3 g4 g5 g6 g7 g8 o0 o1 o2 o3 o4 o5 o6 o7 o8 : Nat} {v0 v1 v2 v3 v4 v5 v6 v7 v8 : Value} {p : Addr} {u : Value} (h : w0.cell? ⟨g0, o0, none⟩ = some v0 ∧ w0.cell? ⟨g1, o1, none⟩ = some v1 ∧ w0.cell? ⟨g2, o2, none⟩ = some v2 ∧ w0.cell? ⟨g3, o3, none⟩ = some v3 ∧ w0.cell? ⟨g4, o4, none⟩ = some v4 ∧ w0.cell? ⟨g5, o5, none⟩ = some v5 ∧ w0.cell? ⟨g6, o6, none⟩ = some v6 ∧ w0.cell? ⟨g7, o7, none⟩ = some v7 ∧ w0.cell? ⟨g8, o8, none⟩ = some v8 ∧ Below w.heap.size w w0 ∧ L < w0.heap.size) (hw : w.heap.size ≤ L + 1) (hp : L < p.block) (q0 : g0 ≤ L) (q1 : g1 ≤ L) (q2 : g2 ≤ L) (q3 : g3 ≤ L) (q4 : g4 ≤ L) (q5 : g5 ≤ L) (q6 : g6 ≤ L) (q7 : g7 ≤ L) (q8 : g8 ≤ L) : (w0.setCell p u).cell? ⟨g0, o0, none⟩ = some v0 ∧ (w0.setCell p u).cell? ⟨g1, o1, none⟩ = some v1 ∧ (w0.setCell p u).cell? ⟨g2, o2, none⟩ = some v2 ∧ (w0.setCell p u).cell? ⟨g3, o3, none⟩ = some v3 ∧ (w0.setCell p u).cell? ⟨g4, o4, none⟩ = some v4 ∧ (w0.setCell p u).cell? ⟨g5, o5, none⟩ = some v5 ∧ (w0.setCell p u).cell? ⟨g6, o6, none⟩ = some v6 ∧ (w0.setCell p u).cell? ⟨g7, o7, none⟩ = some v7 ∧ (w0.setCell p u).cell? ⟨g8, o8, none⟩ = some v8 ∧ Below w.heap.size w (w0.setCell p u) ∧ L < (w0.setCell p u).heap.size := by
  obtain ⟨h0, h1, h2, h3, h4, h5, h6, h7, h8, hb, hL⟩ := h
  exact ⟨cell_keep_set h0 (by omega), cell_keep_set h1 (by omega), cell_keep_set h2 (by omega), cell_keep_set h3 (by omega), cell_keep_set h4 (by omega), cell_keep_set h5 (by omega), cell_keep_set h6 (by omega), cell_keep_set h7 (by omega), cell_keep_set h8 (by omega), hb.setCell (by omega) u, by simpa [World.setCell] using hL⟩

theorem keep10 {w w0 w1 : World} {L g0 g1 g2 g3 g4 g5 g6 g7 g8 g9 o0 o1 o2 o3 o4 o5 o6 o7 o8 o9 : Nat} {v0 v1 v2 v3 v4 v5 v6 v7 v8 v9 : Value} (h : w0.cell? ⟨g0, o0, none⟩ = some v0 ∧ w0.cell? ⟨g1, o1, none⟩ = some v1 ∧ w0.cell? ⟨g2, o2, none⟩ = some v2 ∧ w0.cell? ⟨g3, o3, none⟩ = some v3 ∧ w0.cell? ⟨g4, o4, none⟩ = some v4 ∧ w0.cell? ⟨g5, o5, none⟩ = some v5 ∧ w0.cell? ⟨g6, o6, none⟩ = some v6 ∧ w0.cell? ⟨g7, o7, none⟩ = some v7 ∧ w0.cell? ⟨g8, o8, none⟩ = some v8 ∧ w0.cell? ⟨g9, o9, none⟩ = some v9 ∧ Below w.heap.size w w0 ∧ L < w0.heap.size) (hb : Below w0.heap.size w0 w1) : w1.cell? ⟨g0, o0, none⟩ = some v0 ∧ w1.cell? ⟨g1, o1, none⟩ = some v1 ∧ w1.cell? ⟨g2, o2, none⟩ = some v2 ∧ w1.cell? ⟨g3, o3, none⟩ = some v3 ∧ w1.cell? ⟨g4, o4, none⟩ = some v4 ∧ w1.cell? ⟨g5, o5, none⟩ = some v5 ∧ w1.cell? ⟨g6, o6, none⟩ = some v6 ∧ w1.cell? ⟨g7, o7, none⟩ = some v7 ∧ w1.cell? ⟨g8, o8, none⟩ = some v8 ∧ w1.cell? ⟨g9, o9, none⟩ = some v9 ∧ Below w.heap.size w w1 ∧ L < w1.heap.size := by
  obtain ⟨h0, h1, h2, h3, h4, h5, h6, h7, h8, h9, hw, hL⟩ := h
  exact ⟨cell_keep h0 hb, cell_keep h1 hb, cell_keep h2 hb, cell_keep h3 hb, cell_keep h4 hb, cell_keep h5 hb, cell_keep h6 hb, cell_keep h7 hb, cell_keep h8 hb, cell_keep h9 hb, ext_trans hw hb, Nat.lt_of_lt_of_le hL hb.size⟩
theorem keep10s {w w0 : World} {L g0 g1 g2 g3 g4 g5 g6 g7 g8 g9 o0 o1 o2 o3 o4 o5 o6 o7 o8 o9 : Nat} {v0 v1 v2 v3 v4 v5 v6 v7 v8 v9 : Value} {p : Addr} {u : Value} (h : w0.cell? ⟨g0, o0, none⟩ = some v0 ∧ w0.cell? ⟨g1, o1, none⟩ = some v1 ∧ w0.cell? ⟨g2, o2, none⟩ = some v2 ∧ w0.cell? ⟨g3, o3, none⟩ = some v3 ∧ w0.cell? ⟨g4, o4, none⟩ = some v4 ∧ w0.cell? ⟨g5, o5, none⟩ = some v5 ∧ w0.cell? ⟨g6, o6, none⟩ = some v6 ∧ w0.cell? ⟨g7, o7, none⟩ = some v7 ∧ w0.cell? ⟨g8, o8, none⟩ = some v8 ∧ w0.cell? ⟨g9, o9, none⟩ = some v9 ∧ Below w.heap.size w w0 ∧ L < w0.heap.size) (hw : w.heap.size ≤ L + 1) (hp : L < p.block) (q0 : g0 ≤ L) (q1 : g1 ≤ L) (q2 : g2 ≤ L) (q3 : g3 ≤ L) (q4 : g4 ≤ L) (q5 : g5 ≤ L) (q6 : g6 ≤ L) (q7 : g7 ≤ L) (q8 : g8 ≤ L) (q9 : g9 ≤ L) : (w0.setCell p u).cell? ⟨g0, o0, none⟩ = some v0 ∧ (w0.setCell p u).cell? ⟨g1, o1, none⟩ = some v1 ∧ (w0.setCell p u).cell? ⟨g2, o2, none⟩ = some v2 ∧ (w0.setCell p u).cell? ⟨g3, o3, none⟩ = some v3 ∧ (w0.setCell p u).cell? ⟨g4, o4, none⟩ = some v4 ∧ (w0.setCell p u).cell? ⟨g5, o5, none⟩ = some v5 ∧ (w0.setCell p u).cell? ⟨g6, o6, none⟩ = some v6 ∧ (w0.setCell p u).cell? ⟨g7, o7, none⟩ = some v7 ∧ (w0.setCell p u).cell? ⟨g8, o8, none⟩ = some v8 ∧ (w0.setCell p u).cell? ⟨g9, o9, none⟩ = some v9 ∧ Below w.heap.size w (w0.setCell p u) ∧ L < (w0.setCell p u).heap.size := by
  obtain ⟨h0, h1, h2, h3, h4, h5, h6, h7, h8, h9, hb, hL⟩ := h
  exact ⟨cell_keep_set h0 (by omega), cell_keep_set h1 (by omega), cell_keep_set h2 (by omega), cell_keep_set h3 (by omega), cell_keep_set h4 (by omega), cell_keep_set h5 (by omega), cell_keep_set h6 (by omega), cell_keep_set h7 (by omega), cell_keep_set h8 (by omega), cell_keep_set h9 (by omega), hb.setCell (by omega) u, by simpa [World.setCell] using hL⟩

/-- The first of n indices that q holds at, or -1. -/
def ixf (q : Nat → Bool) : Nat → Nat → Int
  | _, 0 => -1
  | s, m + 1 => if q s then (s : Int) else ixf q (s + 1) m
def ix (q : Nat → Bool) (n : Nat) : Int := ixf q 0 n
theorem ixf_at (q : Nat → Bool) : ∀ (d s m : Nat), (∀ j, s ≤ j → j < s + d → q j = false) → q (s + d) = true → d < m → ixf q s m = ((s + d : Nat) : Int)
  | 0, s, m + 1, _, h, _ => by
    have h' : q s = true := h
    simp [ixf, h']
  | d + 1, s, m + 1, h0, h, hm => by
    have e := h0 s (Nat.le_refl _) (by omega)
    have := ixf_at q d (s + 1) m (fun j a b => h0 j (by omega) (by omega)) (by rw [show s + 1 + d = s + (d + 1) by omega]; exact h) (by omega)
    unfold ixf
    rw [e, if_neg (by simp), this]
    omega
theorem ixf_none (q : Nat → Bool) : ∀ (m s : Nat), (∀ j, s ≤ j → j < s + m → q j = false) → ixf q s m = -1
  | 0, _, _ => rfl
  | m + 1, s, h => by
    unfold ixf
    rw [h s (Nat.le_refl _) (by omega), if_neg (by simp), ixf_none q m (s + 1) (fun j a b => h j (by omega) (by omega))]
theorem ix_at {q : Nat → Bool} {n k : Nat} (hk : k < n) (h : q k = true) (h0 : ∀ j, j < k → q j = false) : ix q n = (k : Int) := by
  have := ixf_at q k 0 n (fun j _ b => h0 j (by omega)) (by rw [Nat.zero_add]; exact h) hk
  rw [Nat.zero_add] at this
  exact this
theorem ix_none {q : Nat → Bool} {n : Nat} (h : ∀ j, j < n → q j = false) : ix q n = -1 := ixf_none q n 0 (fun j _ b => h j (by omega))
theorem first_or (q : Nat → Bool) (n : Nat) : (∃ k, k < n ∧ q k = true ∧ ∀ j, j < k → q j = false) ∨ ∀ j, j < n → q j = false := by
  induction n with
  | zero => exact .inr (fun j hj => absurd hj (Nat.not_lt_zero j))
  | succ n ih =>
    rcases ih with ⟨k, hk, h1, h2⟩ | h
    · exact .inl ⟨k, by omega, h1, h2⟩
    · cases hq : q n
      · exact .inr (all_more h hq)
      · exact .inl ⟨n, by omega, hq, h⟩
theorem ix_is {q : Nat → Bool} {n k : Nat} (hk : k < n) (h : ix q n = (k : Int)) : ∀ j, j < k → q j = false := by
  rcases first_or q n with ⟨k', h1, h2, h3⟩ | h'
  · rw [ix_at h1 h2 h3] at h
    obtain rfl : k' = k := by omega
    exact h3
  · rw [ix_none h'] at h
    omega
end Go.Proofs.YtohlajoaheaplaaDoor
