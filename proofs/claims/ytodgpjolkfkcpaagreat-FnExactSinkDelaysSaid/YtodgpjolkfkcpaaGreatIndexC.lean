/-
The program's indexWith and allDiffer over cells.
-/
import Derived.Test.YtodgpjolkfkcpaaGreatIndex
namespace Go.Proofs.YtodgpjolkfkcpaaGreat
open Go.ChangeShapes Go.WideShapes Go.ChangeAt Go.RowKit
set_option linter.unusedVariables false
theorem nameOfCell_any (f : Nat → Value) (p : CellD) (w : World) (h : CellF w w.heap.size f p) : Calls Tryz.prog 128 #[.agg #[f 0, f 1, f 2, f 3, f 4, f 5, f 6]] w fun e w' => e = .returned (.string p.name) ∧ Below w.heap.size w w' := by
  obtain ⟨e0, e1, x2, x3, x4, e5, e6, hs⟩ := h
  obtain ⟨p2, q2, e2⟩ := x2.slice; obtain ⟨p3, q3, e3⟩ := x3.slice; obtain ⟨p4, q4, e4⟩ := x4.slice
  rw [e0, e1, e2, e3, e4, e5, e6]
  clear e0 e1 e2 e3 e4 e5 e6 x2 x3 x4
  go_enter Tryz.func128, Tryz.ntmps128
  go_wp2
  go_ret
  exact ⟨rfl, eX⟩
set_option maxHeartbeats 2000000 in
theorem ixClC_any (f : Nat → Value) (p : CellD) (g1 g2 : Nat) (s : ByteArray) (w : World) (h : CellF w w.heap.size f p) (h1 : w.cell? ⟨g1, 0, none⟩ = some (.func (.func 128) #[] #[])) (h2 : w.cell? ⟨g2, 0, none⟩ = some (.string s)) :
    Calls Tryz.prog 174 #[.agg #[f 0, f 1, f 2, f 3, f 4, f 5, f 6], .pointer (some ⟨g1, 0, none⟩), .pointer (some ⟨g2, 0, none⟩)] w fun e w' => e = .returned (.bool (p.name.toList == s.toList)) ∧ Below w.heap.size w w' := by
  have l1 := cell_lt h1
  have l2 := cell_lt h2
  have HP := Lib.hid h
  obtain ⟨e0, e1, x2, x3, x4, e5, e6, hs⟩ := h
  obtain ⟨p2, q2, e2⟩ := x2.slice; obtain ⟨p3, q3, e3⟩ := x3.slice; obtain ⟨p4, q4, e4⟩ := x4.slice
  rw [e2] at x2; rw [e3] at x3; rw [e4] at x4
  rw [e0, e1, e2, e3, e4, e5, e6]
  have HP := Lib.hid (show CellF w w.heap.size (vec [.string p.name, .int .i64 p.kind, .slice p2 p.pins.length q2, .slice p3 p.arcs.length q3, .slice p4 p.truth.length q4, .int .i64 p.leak, .int .i64 p.energy]) p from ⟨rfl, rfl, x2, x3, x4, rfl, rfl, hs⟩)
  clear e0 e1 e2 e3 e4 e5 e6 x2 x3 x4
  go_enter Tryz.func174, Tryz.ntmps174
  go_wp2
  go_region_held3 (fun w' => w'.cell? ⟨w.heap.size, 0, none⟩ = some (.string p.name) ∧ w'.cell? ⟨w.heap.size, 1, none⟩ = some (.int .i64 p.kind) ∧ w'.cell? ⟨w.heap.size, 2, none⟩ = some (.slice p2 p.pins.length q2) ∧ w'.cell? ⟨w.heap.size, 3, none⟩ = some (.slice p3 p.arcs.length q3) ∧ w'.cell? ⟨w.heap.size, 4, none⟩ = some (.slice p4 p.truth.length q4) ∧ w'.cell? ⟨w.heap.size, 5, none⟩ = some (.int .i64 p.leak) ∧ w'.cell? ⟨w.heap.size, 6, none⟩ = some (.int .i64 p.energy) ∧ w'.cell? ⟨g1, 0, none⟩ = some (.func (.func 128) #[] #[]) ∧ w'.cell? ⟨g2, 0, none⟩ = some (.string s) ∧ Below w.heap.size w w' ∧ w.heap.size < w'.heap.size) (first | exact (Hid.out (by assumption)) | exact keep9 (Hid.out (by assumption)) ((Below.refl _ _).alloc (Nat.le_refl _) _) | exact keep9s (keep9s (Hid.out (by assumption))) | exact keep9s (Hid.out (by assumption)) | ((repeat' apply And.intro) <;> first | assumption | ((exact eX); done) | (simp [go_sem]; done) | (simp [go_sem, *]; done) | (simp; omega) | omega)) (first | ((go_at_call 128; refine (nameOfCell_any (vec [.string p.name, .int .i64 p.kind, .slice p2 p.pins.length q2, .slice p3 p.arcs.length q3, .slice p4 p.truth.length q4, .int .i64 p.leak, .int .i64 p.energy]) p _ (HP.out.up eX)).mono ?_; rintro e w1 ⟨rfl, hb⟩; obtain ⟨hc, hf⟩ := bcell hb; have hz := hb.size; (try simp at hz); (try (have hz := Nat.lt_of_succ_le hz)); (try (have y0 : w.heap.size ≤ w1.heap.size := by omega)); (try (have z0 : w.heap.size < w1.heap.size := by omega)); (try (have z1 : w.heap.size + 1 < w1.heap.size := by omega)); (try (have z2 : w.heap.size + 1 + 1 < w1.heap.size := by omega)); (try (have z3 : w.heap.size + 1 + 1 + 1 < w1.heap.size := by omega)); (try (have z4 : w.heap.size + 1 + 1 + 1 + 1 < w1.heap.size := by omega)); (try (have x0 : wc.heap.size < w1.heap.size := by omega)); (try (have x1 : wc.heap.size ≤ w1.heap.size := by omega))); have hS := Lib.hid (keep9 (by assumption) hb); have zL := (Hid.out hS).2.2.2.2.2.2.2.2.2.2))
  all_goals
    go_wp2_with fail
    go_ret
    exact ⟨rfl, eX⟩
set_option maxHeartbeats 2000000 in
theorem ixClF_any (v : Value) (ps : List CellD) (g1 g2 : Nat) (s : ByteArray) (w : World) (h : CellsS w w.heap.size v ps) (h1 : w.cell? ⟨g1, 0, none⟩ = some (.func (.func 128) #[] #[])) (h2 : w.cell? ⟨g2, 0, none⟩ = some (.string s)) :
    Calls Tryz.prog 173 #[v, .func (.func 174) #[] #[.pointer (some ⟨g1, 0, none⟩), .pointer (some ⟨g2, 0, none⟩)]] w fun e w' => e = .returned (.int .i64 (ix (fun i => (cn ps i).name.toList == s.toList) ps.length)) ∧ Below w.heap.size w w' := by
  obtain ⟨F, hc, hf⟩ := h
  obtain ⟨n, hnn⟩ : ∃ n, n = ps.length := ⟨_, rfl⟩
  rw [← hnn] at hc hf ⊢
  have HC := hc
  obtain ⟨hn, a, cap, rfl, _⟩ := hc
  have HC := Lib.hid HC; have HF := Lib.hid hf; have HN := Lib.hid hnn
  clear hf hnn
  go_enter Tryz.func173, Tryz.ntmps173
  go_wp2
  go_loopw [5, 8] (fun _ i wr => ∃ k : Nat, k ≤ n ∧ i = .int .i64 k ∧ Hid (∀ j, j < k → ((cn ps j).name.toList == s.toList) = false) ∧ Below w.heap.size w wr) (fun _ i _ => n - (intOf i).toNat)
  case atStart => exact ⟨0, by omega, rfl, Lib.hid (fun j hj => absurd hj (Nat.not_lt_zero j)), eX⟩
  case round =>
    obtain ⟨k, hk, rfl, hall, hbw⟩ := hrel
    by_cases hkn : k < n
    · obtain ⟨b, off, rfl, hlt, hx⟩ := HC.out.at hbw hkn
      have y0 := hx 0 (by omega)
      have y1 := hx 1 (by omega)
      have y2 := hx 2 (by omega)
      have y3 := hx 3 (by omega)
      have y4 := hx 4 (by omega)
      have y5 := hx 5 (by omega)
      have y6 := hx 6 (by omega)
      simp only [Nat.add_zero] at y0
      have hI : (k : Int) < (n : Int) := by omega
      have i0 : (0 : Int) ≤ (k : Int) := by omega
      have HQ := Lib.hid (ixClC_any (F k) (cn ps k) g1 g2 s wr ((HF.out k hkn).up hbw) (cell_keep h1 hbw) (cell_keep h2 hbw))
      clear hx h1 h2
      cases hd : ((cn ps k).name.toList == s.toList)
      · have hok := Lib.hid (all_more hall.out hd)
        rw [hd] at HQ
        clear hd
        go_wp2_with (go_at_call 174; refine (HQ.out).mono ?_; rintro e w1 ⟨rfl, hb⟩; obtain ⟨hc, hf⟩ := bcell hb; have hz := hb.size; (try simp at hz); (try (have hz := Nat.lt_of_succ_le hz)); (try (have y0 : w.heap.size ≤ w1.heap.size := by omega)); (try (have z0 : w.heap.size < w1.heap.size := by omega)); (try (have z1 : w.heap.size + 1 < w1.heap.size := by omega)); (try (have z2 : w.heap.size + 1 + 1 < w1.heap.size := by omega)); (try (have z3 : w.heap.size + 1 + 1 + 1 < w1.heap.size := by omega)); (try (have z4 : w.heap.size + 1 + 1 + 1 + 1 < w1.heap.size := by omega)); (try (have x0 : wc.heap.size < w1.heap.size := by omega)); (try (have x1 : wc.heap.size ≤ w1.heap.size := by omega)))
        go_roundw
        case rel => exact ⟨k + 1, by omega, by go_num, hok, eX⟩
        case measure => simp [intOf]; omega
      · have hok := Lib.hid (ix_at (q := fun i => (cn ps i).name.toList == s.toList) hkn hd hall.out)
        rw [hd] at HQ
        clear hd
        go_wp2_with (go_at_call 174; refine (HQ.out).mono ?_; rintro e w1 ⟨rfl, hb⟩; obtain ⟨hc, hf⟩ := bcell hb; have hz := hb.size; (try simp at hz); (try (have hz := Nat.lt_of_succ_le hz)); (try (have y0 : w.heap.size ≤ w1.heap.size := by omega)); (try (have z0 : w.heap.size < w1.heap.size := by omega)); (try (have z1 : w.heap.size + 1 < w1.heap.size := by omega)); (try (have z2 : w.heap.size + 1 + 1 < w1.heap.size := by omega)); (try (have z3 : w.heap.size + 1 + 1 + 1 < w1.heap.size := by omega)); (try (have z4 : w.heap.size + 1 + 1 + 1 + 1 < w1.heap.size := by omega)); (try (have x0 : wc.heap.size < w1.heap.size := by omega)); (try (have x1 : wc.heap.size ≤ w1.heap.size := by omega)))
        rw [hok.out]
        go_ret
        exact ⟨rfl, eX⟩
    · obtain rfl : k = n := by omega
      have hok := Lib.hid (ix_none (q := fun i => (cn ps i).name.toList == s.toList) hall.out)
      have hI : ¬ (k : Int) < (k : Int) := by omega
      go_wp2
      rw [hok.out]
      go_ret
      exact ⟨rfl, hbw⟩
theorem ixCl_any (v : Value) (ps : List CellD) (s : ByteArray) (w : World) (h : CellsS w w.heap.size v ps) :
    Calls Tryz.prog 156 #[v, .func (.func 128) #[] #[], .string s] w fun e w' => e = .returned (.int .i64 (ix (fun i => (cn ps i).name.toList == s.toList) ps.length)) ∧ Below w.heap.size w w' := by
  have H := Lib.hid h
  obtain ⟨p, q, rfl⟩ := h.slice
  clear h
  go_enter Tryz.func156, Tryz.ntmps156
  go_wp2_with fail
  (go_at_call 173; refine (ixClF_any _ ps w.heap.size (w.heap.size + 1) s _ (H.out.up eX) (by simp [go_sem]) (by simp [go_sem])).mono ?_; rintro e w1 ⟨rfl, hb⟩; obtain ⟨hc, hf⟩ := bcell hb; have hz := hb.size; (try simp at hz); (try (have hz := Nat.lt_of_succ_le hz)); (try (have y0 : w.heap.size ≤ w1.heap.size := by omega)); (try (have z0 : w.heap.size < w1.heap.size := by omega)); (try (have z1 : w.heap.size + 1 < w1.heap.size := by omega)); (try (have z2 : w.heap.size + 1 + 1 < w1.heap.size := by omega)); (try (have z3 : w.heap.size + 1 + 1 + 1 < w1.heap.size := by omega)); (try (have z4 : w.heap.size + 1 + 1 + 1 + 1 < w1.heap.size := by omega)))
  go_wp2_with fail
  go_ret
  exact ⟨rfl, eX⟩
def difCl (ps : List CellD) (k : Nat) : Bool := allB (fun j => !((cn ps j).name.toList == (cn ps k).name.toList)) k
set_option maxHeartbeats 2000000 in
theorem difCl_any (v : Value) (ps : List CellD) (w : World) (h : CellsS w w.heap.size v ps) :
    Calls Tryz.prog 127 #[v, .func (.func 128) #[] #[]] w fun e w' => e = .returned (.bool (allB (difCl ps) ps.length)) ∧ Below w.heap.size w w' := by
  have H := Lib.hid h
  obtain ⟨F, hc, hf⟩ := h
  obtain ⟨n, hnn⟩ : ∃ n, n = ps.length := ⟨_, rfl⟩
  rw [← hnn] at hc hf ⊢
  have HC := hc
  obtain ⟨hn, a, cap, rfl, _⟩ := hc
  have HC := Lib.hid HC; have HF := Lib.hid hf; have HN := Lib.hid hnn
  clear hf hnn
  go_enter Tryz.func127, Tryz.ntmps127
  go_wp2
  go_loopw [9] (fun i wr => ∃ k : Nat, k ≤ n ∧ i = .int .i64 k ∧ Hid (∀ j, j < k → difCl ps j = true) ∧ Below w.heap.size w wr) (fun i _ => n - (intOf i).toNat)
  case atStart => exact ⟨0, by omega, rfl, Lib.hid (fun j hj => absurd hj (Nat.not_lt_zero j)), eX⟩
  case round =>
    obtain ⟨k, hk, rfl, hall, hbw⟩ := hrel
    by_cases hkn : k < n
    · obtain ⟨b, off, rfl, hlt, hx⟩ := HC.out.at hbw hkn
      have y0 := hx 0 (by omega)
      have y1 := hx 1 (by omega)
      have y2 := hx 2 (by omega)
      have y3 := hx 3 (by omega)
      have y4 := hx 4 (by omega)
      have y5 := hx 5 (by omega)
      have y6 := hx 6 (by omega)
      simp only [Nat.add_zero] at y0
      have hI : (k : Int) < (n : Int) := by omega
      have i0 : (0 : Int) ≤ (k : Int) := by omega
      clear hx
      have ⟨e0, e1, x2, x3, x4, e5, e6, hs⟩ := (HF.out k hkn).up hbw
      obtain ⟨p2, q2, e2⟩ := x2.slice; obtain ⟨p3, q3, e3⟩ := x3.slice; obtain ⟨p4, q4, e4⟩ := x4.slice
      rw [e2] at x2; rw [e3] at x3; rw [e4] at x4
      rw [e0] at y0; rw [e1] at y1; rw [e2] at y2; rw [e3] at y3; rw [e4] at y4; rw [e5] at y5; rw [e6] at y6
      have HA := Lib.hid (show CellF wr wr.heap.size (vec [.string (cn ps k).name, .int .i64 (cn ps k).kind, .slice p2 (cn ps k).pins.length q2, .slice p3 (cn ps k).arcs.length q3, .slice p4 (cn ps k).truth.length q4, .int .i64 (cn ps k).leak, .int .i64 (cn ps k).energy]) (cn ps k) from ⟨rfl, rfl, x2, x3, x4, rfl, rfl, hs⟩)
      clear e0 e1 e2 e3 e4 e5 e6 x2 x3 x4
      obtain ⟨X, hX⟩ : ∃ X, X = ix (fun i => (cn ps i).name.toList == (cn ps k).name.toList) n := ⟨_, rfl⟩
      have HQ := Lib.hid (fun (w1 : World) (hb : Below w.heap.size w w1) => ixCl_any _ ps (cn ps k).name w1 (H.out.up hb))
      rw [← HN.out, ← hX] at HQ
      cases hd : difCl ps k
      · have hQ := Lib.hid (allB_no hkn hd)
        have hne : ¬ X = (k : Int) := by
          intro hc
          rw [hX] at hc
          have := ix_is hkn hc
          unfold difCl at hd
          rw [allB_yes (fun j hj => by rw [this j hj]; rfl)] at hd
          cases hd
        have hne' : (X != (k : Int)) = true := by simpa using hne
        clear hd hX
        go_wp2_with (first | (go_at_call 128; refine (nameOfCell_any (vec [.string (cn ps k).name, .int .i64 (cn ps k).kind, .slice p2 (cn ps k).pins.length q2, .slice p3 (cn ps k).arcs.length q3, .slice p4 (cn ps k).truth.length q4, .int .i64 (cn ps k).leak, .int .i64 (cn ps k).energy]) (cn ps k) _ (HA.out.up eX)).mono ?_; rintro e w1 ⟨rfl, hb⟩; obtain ⟨hc, hf⟩ := bcell hb; have hz := hb.size; (try simp at hz); (try (have hz := Nat.lt_of_succ_le hz)); (try (have y0 : w.heap.size ≤ w1.heap.size := by omega)); (try (have z0 : w.heap.size < w1.heap.size := by omega)); (try (have z1 : w.heap.size + 1 < w1.heap.size := by omega)); (try (have z2 : w.heap.size + 1 + 1 < w1.heap.size := by omega)); (try (have z3 : w.heap.size + 1 + 1 + 1 < w1.heap.size := by omega)); (try (have z4 : w.heap.size + 1 + 1 + 1 + 1 < w1.heap.size := by omega)); (try (have x0 : wc.heap.size < w1.heap.size := by omega)); (try (have x1 : wc.heap.size ≤ w1.heap.size := by omega))) | (go_at_call 156; refine (HQ.out _ eX).mono ?_; rintro e w1 ⟨rfl, hb⟩; obtain ⟨hc, hf⟩ := bcell hb; have hz := hb.size; (try simp at hz); (try (have hz := Nat.lt_of_succ_le hz)); (try (have y0 : w.heap.size ≤ w1.heap.size := by omega)); (try (have z0 : w.heap.size < w1.heap.size := by omega)); (try (have z1 : w.heap.size + 1 < w1.heap.size := by omega)); (try (have z2 : w.heap.size + 1 + 1 < w1.heap.size := by omega)); (try (have z3 : w.heap.size + 1 + 1 + 1 < w1.heap.size := by omega)); (try (have z4 : w.heap.size + 1 + 1 + 1 + 1 < w1.heap.size := by omega)); (try (have x0 : wc.heap.size < w1.heap.size := by omega)); (try (have x1 : wc.heap.size ≤ w1.heap.size := by omega))))
        rw [hQ.out]
        go_ret
        exact ⟨rfl, eX⟩
      · have hok := Lib.hid (all_more hall.out hd)
        obtain rfl : X = (k : Int) := by
          rw [hX]
          refine ix_at hkn (by simp) (fun j hj => ?_)
          have := allB_get hd j hj
          first | simpa using this | (simp only [Bool.not_eq_true'] at this; exact this)
        clear hd hX
        go_wp2_with (first | (go_at_call 128; refine (nameOfCell_any (vec [.string (cn ps k).name, .int .i64 (cn ps k).kind, .slice p2 (cn ps k).pins.length q2, .slice p3 (cn ps k).arcs.length q3, .slice p4 (cn ps k).truth.length q4, .int .i64 (cn ps k).leak, .int .i64 (cn ps k).energy]) (cn ps k) _ (HA.out.up eX)).mono ?_; rintro e w1 ⟨rfl, hb⟩; obtain ⟨hc, hf⟩ := bcell hb; have hz := hb.size; (try simp at hz); (try (have hz := Nat.lt_of_succ_le hz)); (try (have y0 : w.heap.size ≤ w1.heap.size := by omega)); (try (have z0 : w.heap.size < w1.heap.size := by omega)); (try (have z1 : w.heap.size + 1 < w1.heap.size := by omega)); (try (have z2 : w.heap.size + 1 + 1 < w1.heap.size := by omega)); (try (have z3 : w.heap.size + 1 + 1 + 1 < w1.heap.size := by omega)); (try (have z4 : w.heap.size + 1 + 1 + 1 + 1 < w1.heap.size := by omega)); (try (have x0 : wc.heap.size < w1.heap.size := by omega)); (try (have x1 : wc.heap.size ≤ w1.heap.size := by omega))) | (go_at_call 156; refine (HQ.out _ eX).mono ?_; rintro e w1 ⟨rfl, hb⟩; obtain ⟨hc, hf⟩ := bcell hb; have hz := hb.size; (try simp at hz); (try (have hz := Nat.lt_of_succ_le hz)); (try (have y0 : w.heap.size ≤ w1.heap.size := by omega)); (try (have z0 : w.heap.size < w1.heap.size := by omega)); (try (have z1 : w.heap.size + 1 < w1.heap.size := by omega)); (try (have z2 : w.heap.size + 1 + 1 < w1.heap.size := by omega)); (try (have z3 : w.heap.size + 1 + 1 + 1 < w1.heap.size := by omega)); (try (have z4 : w.heap.size + 1 + 1 + 1 + 1 < w1.heap.size := by omega)); (try (have x0 : wc.heap.size < w1.heap.size := by omega)); (try (have x1 : wc.heap.size ≤ w1.heap.size := by omega))))
        go_roundw
        case rel => exact ⟨k + 1, by omega, by go_num, hok, eX⟩
        case measure => simp [intOf]; omega
    · obtain rfl : k = n := by omega
      have hok := Lib.hid (allB_yes (p := difCl ps) hall.out)
      have hI : ¬ (k : Int) < (k : Int) := by omega
      go_wp2
      rw [hok.out]
      go_ret
      exact ⟨rfl, hbw⟩
end Go.Proofs.YtodgpjolkfkcpaaGreat
