/-
The program's indexWith and allDiffer over pins, arcs and cells.
-/
import Derived.Test.YtkpfbnffhhmokaaGreatName
namespace Go.Proofs.YtkpfbnffhhmokaaGreat
open Go.ChangeShapes Go.WideShapes Go.ChangeAt Go.RowKit
set_option linter.unusedVariables false
theorem keep9 {w w0 w1 : World} {L g0 g1 g2 g3 g4 g5 g6 g7 g8 o0 o1 o2 o3 o4 o5 o6 o7 o8 : Nat} {v0 v1 v2 v3 v4 v5 v6 v7 v8 : Value} (h : w0.cell? ⟨g0, o0, none⟩ = some v0 ∧ w0.cell? ⟨g1, o1, none⟩ = some v1 ∧ w0.cell? ⟨g2, o2, none⟩ = some v2 ∧ w0.cell? ⟨g3, o3, none⟩ = some v3 ∧ w0.cell? ⟨g4, o4, none⟩ = some v4 ∧ w0.cell? ⟨g5, o5, none⟩ = some v5 ∧ w0.cell? ⟨g6, o6, none⟩ = some v6 ∧ w0.cell? ⟨g7, o7, none⟩ = some v7 ∧ w0.cell? ⟨g8, o8, none⟩ = some v8 ∧ Below w.heap.size w w0 ∧ L < w0.heap.size) (hb : Below w0.heap.size w0 w1) : w1.cell? ⟨g0, o0, none⟩ = some v0 ∧ w1.cell? ⟨g1, o1, none⟩ = some v1 ∧ w1.cell? ⟨g2, o2, none⟩ = some v2 ∧ w1.cell? ⟨g3, o3, none⟩ = some v3 ∧ w1.cell? ⟨g4, o4, none⟩ = some v4 ∧ w1.cell? ⟨g5, o5, none⟩ = some v5 ∧ w1.cell? ⟨g6, o6, none⟩ = some v6 ∧ w1.cell? ⟨g7, o7, none⟩ = some v7 ∧ w1.cell? ⟨g8, o8, none⟩ = some v8 ∧ Below w.heap.size w w1 ∧ L < w1.heap.size := by
 obtain ⟨h0, h1, h2, h3, h4, h5, h6, h7, h8, hw, hL⟩ := h
 exact ⟨cell_keep h0 hb, cell_keep h1 hb, cell_keep h2 hb, cell_keep h3 hb, cell_keep h4 hb, cell_keep h5 hb, cell_keep h6 hb, cell_keep h7 hb, cell_keep h8 hb, ext_trans hw hb, Nat.lt_of_lt_of_le hL hb.size⟩
theorem keep9s {w w0 : World} {L g0 g1 g2 g3 g4 g5 g6 g7 g8 o0 o1 o2 o3 o4 o5 o6 o7 o8 : Nat} {v0 v1 v2 v3 v4 v5 v6 v7 v8 : Value} {p : Addr} {u : Value} (h : w0.cell? ⟨g0, o0, none⟩ = some v0 ∧ w0.cell? ⟨g1, o1, none⟩ = some v1 ∧ w0.cell? ⟨g2, o2, none⟩ = some v2 ∧ w0.cell? ⟨g3, o3, none⟩ = some v3 ∧ w0.cell? ⟨g4, o4, none⟩ = some v4 ∧ w0.cell? ⟨g5, o5, none⟩ = some v5 ∧ w0.cell? ⟨g6, o6, none⟩ = some v6 ∧ w0.cell? ⟨g7, o7, none⟩ = some v7 ∧ w0.cell? ⟨g8, o8, none⟩ = some v8 ∧ Below w.heap.size w w0 ∧ L < w0.heap.size) (hw : w.heap.size ≤ L + 1 := by first | assumption | (simp; done) | (simp; omega) | omega) (hp : L < p.block := by first | assumption | (simp; done) | (simp; omega) | omega) (q0 : g0 ≤ L := by first | assumption | (simp; done) | (simp; omega) | omega) (q1 : g1 ≤ L := by first | assumption | (simp; done) | (simp; omega) | omega) (q2 : g2 ≤ L := by first | assumption | (simp; done) | (simp; omega) | omega) (q3 : g3 ≤ L := by first | assumption | (simp; done) | (simp; omega) | omega) (q4 : g4 ≤ L := by first | assumption | (simp; done) | (simp; omega) | omega) (q5 : g5 ≤ L := by first | assumption | (simp; done) | (simp; omega) | omega) (q6 : g6 ≤ L := by first | assumption | (simp; done) | (simp; omega) | omega) (q7 : g7 ≤ L := by first | assumption | (simp; done) | (simp; omega) | omega) (q8 : g8 ≤ L := by first | assumption | (simp; done) | (simp; omega) | omega) : (w0.setCell p u).cell? ⟨g0, o0, none⟩ = some v0 ∧ (w0.setCell p u).cell? ⟨g1, o1, none⟩ = some v1 ∧ (w0.setCell p u).cell? ⟨g2, o2, none⟩ = some v2 ∧ (w0.setCell p u).cell? ⟨g3, o3, none⟩ = some v3 ∧ (w0.setCell p u).cell? ⟨g4, o4, none⟩ = some v4 ∧ (w0.setCell p u).cell? ⟨g5, o5, none⟩ = some v5 ∧ (w0.setCell p u).cell? ⟨g6, o6, none⟩ = some v6 ∧ (w0.setCell p u).cell? ⟨g7, o7, none⟩ = some v7 ∧ (w0.setCell p u).cell? ⟨g8, o8, none⟩ = some v8 ∧ Below w.heap.size w (w0.setCell p u) ∧ L < (w0.setCell p u).heap.size := by
 obtain ⟨h0, h1, h2, h3, h4, h5, h6, h7, h8, hb, hL⟩ := h
 exact ⟨cell_keep_set h0 (by omega), cell_keep_set h1 (by omega), cell_keep_set h2 (by omega), cell_keep_set h3 (by omega), cell_keep_set h4 (by omega), cell_keep_set h5 (by omega), cell_keep_set h6 (by omega), cell_keep_set h7 (by omega), cell_keep_set h8 (by omega), hb.setCell (by omega) u, by simpa [World.setCell] using hL⟩
theorem keep10 {w w0 w1 : World} {L g0 g1 g2 g3 g4 g5 g6 g7 g8 g9 o0 o1 o2 o3 o4 o5 o6 o7 o8 o9 : Nat} {v0 v1 v2 v3 v4 v5 v6 v7 v8 v9 : Value} (h : w0.cell? ⟨g0, o0, none⟩ = some v0 ∧ w0.cell? ⟨g1, o1, none⟩ = some v1 ∧ w0.cell? ⟨g2, o2, none⟩ = some v2 ∧ w0.cell? ⟨g3, o3, none⟩ = some v3 ∧ w0.cell? ⟨g4, o4, none⟩ = some v4 ∧ w0.cell? ⟨g5, o5, none⟩ = some v5 ∧ w0.cell? ⟨g6, o6, none⟩ = some v6 ∧ w0.cell? ⟨g7, o7, none⟩ = some v7 ∧ w0.cell? ⟨g8, o8, none⟩ = some v8 ∧ w0.cell? ⟨g9, o9, none⟩ = some v9 ∧ Below w.heap.size w w0 ∧ L < w0.heap.size) (hb : Below w0.heap.size w0 w1) : w1.cell? ⟨g0, o0, none⟩ = some v0 ∧ w1.cell? ⟨g1, o1, none⟩ = some v1 ∧ w1.cell? ⟨g2, o2, none⟩ = some v2 ∧ w1.cell? ⟨g3, o3, none⟩ = some v3 ∧ w1.cell? ⟨g4, o4, none⟩ = some v4 ∧ w1.cell? ⟨g5, o5, none⟩ = some v5 ∧ w1.cell? ⟨g6, o6, none⟩ = some v6 ∧ w1.cell? ⟨g7, o7, none⟩ = some v7 ∧ w1.cell? ⟨g8, o8, none⟩ = some v8 ∧ w1.cell? ⟨g9, o9, none⟩ = some v9 ∧ Below w.heap.size w w1 ∧ L < w1.heap.size := by
 obtain ⟨h0, h1, h2, h3, h4, h5, h6, h7, h8, h9, hw, hL⟩ := h
 exact ⟨cell_keep h0 hb, cell_keep h1 hb, cell_keep h2 hb, cell_keep h3 hb, cell_keep h4 hb, cell_keep h5 hb, cell_keep h6 hb, cell_keep h7 hb, cell_keep h8 hb, cell_keep h9 hb, ext_trans hw hb, Nat.lt_of_lt_of_le hL hb.size⟩
theorem keep10s {w w0 : World} {L g0 g1 g2 g3 g4 g5 g6 g7 g8 g9 o0 o1 o2 o3 o4 o5 o6 o7 o8 o9 : Nat} {v0 v1 v2 v3 v4 v5 v6 v7 v8 v9 : Value} {p : Addr} {u : Value} (h : w0.cell? ⟨g0, o0, none⟩ = some v0 ∧ w0.cell? ⟨g1, o1, none⟩ = some v1 ∧ w0.cell? ⟨g2, o2, none⟩ = some v2 ∧ w0.cell? ⟨g3, o3, none⟩ = some v3 ∧ w0.cell? ⟨g4, o4, none⟩ = some v4 ∧ w0.cell? ⟨g5, o5, none⟩ = some v5 ∧ w0.cell? ⟨g6, o6, none⟩ = some v6 ∧ w0.cell? ⟨g7, o7, none⟩ = some v7 ∧ w0.cell? ⟨g8, o8, none⟩ = some v8 ∧ w0.cell? ⟨g9, o9, none⟩ = some v9 ∧ Below w.heap.size w w0 ∧ L < w0.heap.size) (hw : w.heap.size ≤ L + 1 := by first | assumption | (simp; done) | (simp; omega) | omega) (hp : L < p.block := by first | assumption | (simp; done) | (simp; omega) | omega) (q0 : g0 ≤ L := by first | assumption | (simp; done) | (simp; omega) | omega) (q1 : g1 ≤ L := by first | assumption | (simp; done) | (simp; omega) | omega) (q2 : g2 ≤ L := by first | assumption | (simp; done) | (simp; omega) | omega) (q3 : g3 ≤ L := by first | assumption | (simp; done) | (simp; omega) | omega) (q4 : g4 ≤ L := by first | assumption | (simp; done) | (simp; omega) | omega) (q5 : g5 ≤ L := by first | assumption | (simp; done) | (simp; omega) | omega) (q6 : g6 ≤ L := by first | assumption | (simp; done) | (simp; omega) | omega) (q7 : g7 ≤ L := by first | assumption | (simp; done) | (simp; omega) | omega) (q8 : g8 ≤ L := by first | assumption | (simp; done) | (simp; omega) | omega) (q9 : g9 ≤ L := by first | assumption | (simp; done) | (simp; omega) | omega) : (w0.setCell p u).cell? ⟨g0, o0, none⟩ = some v0 ∧ (w0.setCell p u).cell? ⟨g1, o1, none⟩ = some v1 ∧ (w0.setCell p u).cell? ⟨g2, o2, none⟩ = some v2 ∧ (w0.setCell p u).cell? ⟨g3, o3, none⟩ = some v3 ∧ (w0.setCell p u).cell? ⟨g4, o4, none⟩ = some v4 ∧ (w0.setCell p u).cell? ⟨g5, o5, none⟩ = some v5 ∧ (w0.setCell p u).cell? ⟨g6, o6, none⟩ = some v6 ∧ (w0.setCell p u).cell? ⟨g7, o7, none⟩ = some v7 ∧ (w0.setCell p u).cell? ⟨g8, o8, none⟩ = some v8 ∧ (w0.setCell p u).cell? ⟨g9, o9, none⟩ = some v9 ∧ Below w.heap.size w (w0.setCell p u) ∧ L < (w0.setCell p u).heap.size := by
 obtain ⟨h0, h1, h2, h3, h4, h5, h6, h7, h8, h9, hb, hL⟩ := h
 exact ⟨cell_keep_set h0 (by omega), cell_keep_set h1 (by omega), cell_keep_set h2 (by omega), cell_keep_set h3 (by omega), cell_keep_set h4 (by omega), cell_keep_set h5 (by omega), cell_keep_set h6 (by omega), cell_keep_set h7 (by omega), cell_keep_set h8 (by omega), cell_keep_set h9 (by omega), hb.setCell (by omega) u, by simpa [World.setCell] using hL⟩
/-- The first of n indices that q holds at, or -1. -/
def ixf (q : Nat → Bool) : Nat → Nat → Int
 | _, 0 => -1
 | s, m + 1 => if q s then (s : Int) else ixf q (s + 1) m
def ix (q : Nat → Bool) (n : Nat) : Int := ixf q 0 n
theorem ixf_at (q : Nat → Bool) : ∀ (d s m : Nat), (∀ j, s ≤ j → j < s + d → q j = false) → q (s + d) = true → d < m → ixf q s m = ((s + d : Nat) : Int)
 | 0, s, m + 1, _, h, _ => by
  have h' : q s = true := h
  simp [ixf, h']
 | d + 1, s, m + 1, h0, h, hm => by
  have e := h0 s (Nat.le_refl _) (by omega)
  have := ixf_at q d (s + 1) m (fun j a b => h0 j (by omega) (by omega)) (by rw [show s + 1 + d = s + (d + 1) by omega]; exact h) (by omega)
  unfold ixf
  rw [e, if_neg (by simp), this]
  omega
theorem ixf_none (q : Nat → Bool) : ∀ (m s : Nat), (∀ j, s ≤ j → j < s + m → q j = false) → ixf q s m = -1
 | 0, _, _ => rfl
 | m + 1, s, h => by
  unfold ixf
  rw [h s (Nat.le_refl _) (by omega), if_neg (by simp), ixf_none q m (s + 1) (fun j a b => h j (by omega) (by omega))]
theorem ix_at {q : Nat → Bool} {n k : Nat} (hk : k < n) (h : q k = true) (h0 : ∀ j, j < k → q j = false) : ix q n = (k : Int) := by
 have := ixf_at q k 0 n (fun j _ b => h0 j (by omega)) (by rw [Nat.zero_add]; exact h) hk
 rw [Nat.zero_add] at this
 exact this
theorem ix_none {q : Nat → Bool} {n : Nat} (h : ∀ j, j < n → q j = false) : ix q n = -1 := ixf_none q n 0 (fun j _ b => h j (by omega))
theorem first_or (q : Nat → Bool) (n : Nat) : (∃ k, k < n ∧ q k = true ∧ ∀ j, j < k → q j = false) ∨ ∀ j, j < n → q j = false := by
 induction n with
 | zero => exact .inr (fun j hj => absurd hj (Nat.not_lt_zero j))
 | succ n ih =>
  rcases ih with ⟨k, hk, h1, h2⟩ | h
  ·exact .inl ⟨k, by omega, h1, h2⟩
  ·cases hq : q n
   ·exact .inr (all_more h hq)
   ·exact .inl ⟨n, by omega, hq, h⟩
theorem ix_is {q : Nat → Bool} {n k : Nat} (hk : k < n) (h : ix q n = (k : Int)) : ∀ j, j < k → q j = false := by
 rcases first_or q n with ⟨k', h1, h2, h3⟩ | h'
 ·rw [ix_at h1 h2 h3] at h
  obtain rfl : k' = k := by omega
  exact h3
 ·rw [ix_none h'] at h
  omega
theorem nameOfPin_any (f : Nat → Value) (p : PinD) (w : World) (h : PinF f p) : Calls Tryz.prog 217 #[.agg #[f 0, f 1, f 2, f 3]] w fun e w' => e = .returned (.string p.name) ∧ Below w.heap.size w w' := by
 obtain ⟨e0, e1, e2, e3, hs⟩ := h
 rw [e0, e1, e2, e3]
 clear e0 e1 e2 e3
 go_enter Tryz.func217, Tryz.ntmps217
 go_wp2
 go_ret
 exact ⟨rfl, eX⟩
set_option maxHeartbeats 2000000 in
theorem ixPnC_any (f : Nat → Value) (p : PinD) (g1 g2 : Nat) (s : ByteArray) (w : World) (h : PinF f p) (h1 : w.cell? ⟨g1, 0, none⟩ = some (.func (.func 217) #[] #[])) (h2 : w.cell? ⟨g2, 0, none⟩ = some (.string s)) :
  Calls Tryz.prog 242 #[.agg #[f 0, f 1, f 2, f 3], .pointer (some ⟨g1, 0, none⟩), .pointer (some ⟨g2, 0, none⟩)] w fun e w' => e = .returned (.bool (p.name.toList == s.toList)) ∧ Below w.heap.size w w' := by
 have l1 := cell_lt h1
 have l2 := cell_lt h2
 have HP := lh h
 obtain ⟨e0, e1, e2, e3, hs⟩ := h
 rw [e0, e1, e2, e3]
 clear e0 e1 e2 e3
 go_enter Tryz.func242, Tryz.ntmps242
 go_wp2
 go_region_held3 (fun w' => w'.cell? ⟨w.heap.size, 0, none⟩ = some (.string p.name) ∧ w'.cell? ⟨w.heap.size, 1, none⟩ = some (.int .i64 p.dir) ∧ w'.cell? ⟨w.heap.size, 2, none⟩ = some (.int .i64 p.cap) ∧ w'.cell? ⟨w.heap.size, 3, none⟩ = some (.bool p.clock) ∧ w'.cell? ⟨g1, 0, none⟩ = some (.func (.func 217) #[] #[]) ∧ w'.cell? ⟨g2, 0, none⟩ = some (.string s) ∧ Below w.heap.size w w' ∧ w.heap.size < w'.heap.size) (first | exact (Hid.out (by assumption)) | exact keep6 (Hid.out (by assumption)) ((Below.refl _ _).alloc (Nat.le_refl _) _) | exact keep6s (keep6s (Hid.out (by assumption))) | exact keep6s (Hid.out (by assumption)) | ((repeat' apply And.intro) <;> first | assumption | ((exact eX); done) | (simp [go_sem]; done) | (simp [go_sem, *]; done) | (simp; omega) | omega)) (first | ((go_at_call 217; refine (nameOfPin_any (vec [.string p.name, .int .i64 p.dir, .int .i64 p.cap, .bool p.clock]) p _ ⟨rfl, rfl, rfl, rfl, HP.out.2.2.2.2⟩).mono ?_; rintro e w1 ⟨rfl, hb⟩; have ⟨hc, hf⟩ := bcell hb; have hz := hb.size; (try simp at hz); (try have hz := Nat.lt_of_succ_le hz); (try have y0 := wy w w1); (try have z0 := wz0 w w1); (try have z1 := wz1 w w1); (try have z2 := wz2 w w1); (try have z3 := wz3 w w1); (try have z4 := wz4 w w1); (try have x0 := wz0 wc w1); (try have x1 := wy wc w1)); have hS := lh (keep6 (by assumption) hb); have zL := (Hid.out hS).2.2.2.2.2.2.2))
 all_goals
  go_wp2_with fail
  go_ret
  exact ⟨rfl, eX⟩
set_option maxHeartbeats 2000000 in
theorem ixPnF_any (v : Value) (ps : List PinD) (g1 g2 : Nat) (s : ByteArray) (w : World) (h : PinsS w w.heap.size v ps) (h1 : w.cell? ⟨g1, 0, none⟩ = some (.func (.func 217) #[] #[])) (h2 : w.cell? ⟨g2, 0, none⟩ = some (.string s)) :
  Calls Tryz.prog 241 #[v, .func (.func 242) #[] #[.pointer (some ⟨g1, 0, none⟩), .pointer (some ⟨g2, 0, none⟩)]] w fun e w' => e = .returned (.int .i64 (ix (fun i => (pn ps i).name.toList == s.toList) ps.length)) ∧ Below w.heap.size w w' := by
 obtain ⟨F, hc, hf⟩ := h
 obtain ⟨n, hnn⟩ : ∃ n, n = ps.length := ⟨_, rfl⟩
 rw [← hnn] at hc hf ⊢
 have HC := hc
 obtain ⟨hn, a, cap, rfl, _⟩ := hc
 have HC := lh HC; have HF := lh hf; have HN := lh hnn
 clear hf hnn
 go_enter Tryz.func241, Tryz.ntmps241
 go_wp2
 go_loopw [5, 8] (fun _ i wr => ∃ k : Nat, k ≤ n ∧ i = .int .i64 k ∧ Hid (∀ j, j < k → ((pn ps j).name.toList == s.toList) = false) ∧ Below w.heap.size w wr) (fun _ i _ => n - (intOf i).toNat)
 case atStart => exact ⟨0, by omega, rfl, lh (fun j hj => absurd hj (Nat.not_lt_zero j)), eX⟩
 case round =>
  obtain ⟨k, hk, rfl, hall, hbw⟩ := hrel
  by_cases hkn : k < n
  ·obtain ⟨b, off, rfl, hlt, hx⟩ := HC.out.at hbw hkn
   have y0 := hx 0 (by omega)
   have y1 := hx 1 (by omega)
   have y2 := hx 2 (by omega)
   have y3 := hx 3 (by omega)
   simp only [Nat.add_zero] at y0
   have hI : (k : Int) < (n : Int) := by omega
   have i0 : (0 : Int) ≤ (k : Int) := by omega
   have HQ := lh (ixPnC_any (F k) (pn ps k) g1 g2 s wr (HF.out k hkn) (cell_keep h1 hbw) (cell_keep h2 hbw))
   clear hx h1 h2
   cases hd : ((pn ps k).name.toList == s.toList)
   ·have hok := lh (all_more hall.out hd)
    rw [hd] at HQ
    clear hd
    go_wp2_with (go_at_call 242; refine (HQ.out).mono ?_; rintro e w1 ⟨rfl, hb⟩; have ⟨hc, hf⟩ := bcell hb; have hz := hb.size; (try simp at hz); (try have hz := Nat.lt_of_succ_le hz); (try have y0 := wy w w1); (try have z0 := wz0 w w1); (try have z1 := wz1 w w1); (try have z2 := wz2 w w1); (try have z3 := wz3 w w1); (try have z4 := wz4 w w1); (try have x0 := wz0 wc w1); (try have x1 := wy wc w1))
    go_roundw
    case rel => exact ⟨k + 1, by omega, by go_num, hok, eX⟩
    case measure => simp [intOf]; omega
   ·have hok := lh (ix_at (q := fun i => (pn ps i).name.toList == s.toList) hkn hd hall.out)
    rw [hd] at HQ
    clear hd
    go_wp2_with (go_at_call 242; refine (HQ.out).mono ?_; rintro e w1 ⟨rfl, hb⟩; have ⟨hc, hf⟩ := bcell hb; have hz := hb.size; (try simp at hz); (try have hz := Nat.lt_of_succ_le hz); (try have y0 := wy w w1); (try have z0 := wz0 w w1); (try have z1 := wz1 w w1); (try have z2 := wz2 w w1); (try have z3 := wz3 w w1); (try have z4 := wz4 w w1); (try have x0 := wz0 wc w1); (try have x1 := wy wc w1))
    rw [hok.out]
    go_ret
    exact ⟨rfl, eX⟩
  ·obtain rfl : k = n := by omega
   have hok := lh (ix_none (q := fun i => (pn ps i).name.toList == s.toList) hall.out)
   have hI : ¬ (k : Int) < (k : Int) := by omega
   go_wp2
   rw [hok.out]
   go_ret
   exact ⟨rfl, hbw⟩
theorem ixPn_any (v : Value) (ps : List PinD) (s : ByteArray) (w : World) (h : PinsS w w.heap.size v ps) :
  Calls Tryz.prog 229 #[v, .func (.func 217) #[] #[], .string s] w fun e w' => e = .returned (.int .i64 (ix (fun i => (pn ps i).name.toList == s.toList) ps.length)) ∧ Below w.heap.size w w' := by
 have H := lh h
 obtain ⟨p, q, rfl⟩ := h.slice
 clear h
 go_enter Tryz.func229, Tryz.ntmps229
 go_wp2_with fail
 (go_at_call 241; refine (ixPnF_any _ ps w.heap.size (w.heap.size + 1) s _ (H.out.up eX) (by simp [go_sem]) (by simp [go_sem])).mono ?_; rintro e w1 ⟨rfl, hb⟩; have ⟨hc, hf⟩ := bcell hb; have hz := hb.size; (try simp at hz); (try have hz := Nat.lt_of_succ_le hz); (try have y0 := wy w w1); (try have z0 := wz0 w w1); (try have z1 := wz1 w w1); (try have z2 := wz2 w w1); (try have z3 := wz3 w w1); (try have z4 := wz4 w w1))
 go_wp2_with fail
 go_ret
 exact ⟨rfl, eX⟩
def difPn (ps : List PinD) (k : Nat) : Bool := allB (fun j => !((pn ps j).name.toList == (pn ps k).name.toList)) k
set_option maxHeartbeats 2000000 in
theorem difPn_any (v : Value) (ps : List PinD) (w : World) (h : PinsS w w.heap.size v ps) :
  Calls Tryz.prog 216 #[v, .func (.func 217) #[] #[]] w fun e w' => e = .returned (.bool (allB (difPn ps) ps.length)) ∧ Below w.heap.size w w' := by
 have H := lh h
 obtain ⟨F, hc, hf⟩ := h
 obtain ⟨n, hnn⟩ : ∃ n, n = ps.length := ⟨_, rfl⟩
 rw [← hnn] at hc hf ⊢
 have HC := hc
 obtain ⟨hn, a, cap, rfl, _⟩ := hc
 have HC := lh HC; have HF := lh hf; have HN := lh hnn
 clear hf hnn
 go_enter Tryz.func216, Tryz.ntmps216
 go_wp2
 go_loopw [9] (fun i wr => ∃ k : Nat, k ≤ n ∧ i = .int .i64 k ∧ Hid (∀ j, j < k → difPn ps j = true) ∧ Below w.heap.size w wr) (fun i _ => n - (intOf i).toNat)
 case atStart => exact ⟨0, by omega, rfl, lh (fun j hj => absurd hj (Nat.not_lt_zero j)), eX⟩
 case round =>
  obtain ⟨k, hk, rfl, hall, hbw⟩ := hrel
  by_cases hkn : k < n
  ·obtain ⟨b, off, rfl, hlt, hx⟩ := HC.out.at hbw hkn
   have y0 := hx 0 (by omega)
   have y1 := hx 1 (by omega)
   have y2 := hx 2 (by omega)
   have y3 := hx 3 (by omega)
   simp only [Nat.add_zero] at y0
   have hI : (k : Int) < (n : Int) := by omega
   have i0 : (0 : Int) ≤ (k : Int) := by omega
   clear hx
   have ⟨e0, e1, e2, e3, hsz⟩ := HF.out k hkn
   rw [e0] at y0; rw [e1] at y1; rw [e2] at y2; rw [e3] at y3
   clear e0 e1 e2 e3
   obtain ⟨X, hX⟩ : ∃ X, X = ix (fun i => (pn ps i).name.toList == (pn ps k).name.toList) n := ⟨_, rfl⟩
   have HQ := lh (fun (w1 : World) (hb : Below w.heap.size w w1) => ixPn_any _ ps (pn ps k).name w1 (H.out.up hb))
   rw [← HN.out, ← hX] at HQ
   cases hd : difPn ps k
   ·have hQ := lh (allB_no hkn hd)
    have hne : ¬ X = (k : Int) := by
     intro hc
     rw [hX] at hc
     have := ix_is hkn hc
     unfold difPn at hd
     rw [allB_yes (fun j hj => by rw [this j hj]; rfl)] at hd
     cases hd
    have hne' : (X != (k : Int)) = true := by simpa using hne
    clear hd hX
    go_wp2_with (first | (go_at_call 217; refine (nameOfPin_any (vec [.string (pn ps k).name, .int .i64 (pn ps k).dir, .int .i64 (pn ps k).cap, .bool (pn ps k).clock]) (pn ps k) _ ⟨rfl, rfl, rfl, rfl, hsz⟩).mono ?_; rintro e w1 ⟨rfl, hb⟩; have ⟨hc, hf⟩ := bcell hb; have hz := hb.size; (try simp at hz); (try have hz := Nat.lt_of_succ_le hz); (try have y0 := wy w w1); (try have z0 := wz0 w w1); (try have z1 := wz1 w w1); (try have z2 := wz2 w w1); (try have z3 := wz3 w w1); (try have z4 := wz4 w w1); (try have x0 := wz0 wc w1); (try have x1 := wy wc w1)) | (go_at_call 229; refine (HQ.out _ eX).mono ?_; rintro e w1 ⟨rfl, hb⟩; have ⟨hc, hf⟩ := bcell hb; have hz := hb.size; (try simp at hz); (try have hz := Nat.lt_of_succ_le hz); (try have y0 := wy w w1); (try have z0 := wz0 w w1); (try have z1 := wz1 w w1); (try have z2 := wz2 w w1); (try have z3 := wz3 w w1); (try have z4 := wz4 w w1); (try have x0 := wz0 wc w1); (try have x1 := wy wc w1)))
    rw [hQ.out]
    go_ret
    exact ⟨rfl, eX⟩
   ·have hok := lh (all_more hall.out hd)
    obtain rfl : X = (k : Int) := by
     rw [hX]
     refine ix_at hkn (by simp) (fun j hj => ?_)
     have := allB_get hd j hj
     first | simpa using this | (simp only [Bool.not_eq_true'] at this; exact this)
    clear hd hX
    go_wp2_with (first | (go_at_call 217; refine (nameOfPin_any (vec [.string (pn ps k).name, .int .i64 (pn ps k).dir, .int .i64 (pn ps k).cap, .bool (pn ps k).clock]) (pn ps k) _ ⟨rfl, rfl, rfl, rfl, hsz⟩).mono ?_; rintro e w1 ⟨rfl, hb⟩; have ⟨hc, hf⟩ := bcell hb; have hz := hb.size; (try simp at hz); (try have hz := Nat.lt_of_succ_le hz); (try have y0 := wy w w1); (try have z0 := wz0 w w1); (try have z1 := wz1 w w1); (try have z2 := wz2 w w1); (try have z3 := wz3 w w1); (try have z4 := wz4 w w1); (try have x0 := wz0 wc w1); (try have x1 := wy wc w1)) | (go_at_call 229; refine (HQ.out _ eX).mono ?_; rintro e w1 ⟨rfl, hb⟩; have ⟨hc, hf⟩ := bcell hb; have hz := hb.size; (try simp at hz); (try have hz := Nat.lt_of_succ_le hz); (try have y0 := wy w w1); (try have z0 := wz0 w w1); (try have z1 := wz1 w w1); (try have z2 := wz2 w w1); (try have z3 := wz3 w w1); (try have z4 := wz4 w w1); (try have x0 := wz0 wc w1); (try have x1 := wy wc w1)))
    go_roundw
    case rel => exact ⟨k + 1, by omega, by go_num, hok, eX⟩
    case measure => simp [intOf]; omega
  ·obtain rfl : k = n := by omega
   have hok := lh (allB_yes (p := difPn ps) hall.out)
   have hI : ¬ (k : Int) < (k : Int) := by omega
   go_wp2
   rw [hok.out]
   go_ret
   exact ⟨rfl, hbw⟩
end Go.Proofs.YtkpfbnffhhmokaaGreat
