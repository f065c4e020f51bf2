/-
SenseOf and IsConsistent: the model's and the program's own, for all cells.
-/
import Derived.Test.YtnmjfbloedmgeabSense
namespace Go.Proofs.Ytnmjfbloedmgeab
open Go.ChangeShapes Go.WideShapes Go.ChangeAt Go.RowKit
set_option linter.unusedVariables false
set_option linter.unusedSimpArgs false
theorem clk_none {ps : List PinD} : ∀ n, clk ps n = 0 → ∀ i, i < n → (pn ps i).clock = false
  | 0, _, i, hi => absurd hi (Nat.not_lt_zero i)
  | n + 1, h, i, hi => by
    unfold clk at h
    by_cases e : i = n
    · subst e
      cases hc : (pn ps i).clock
      · rfl
      · rw [hc] at h; simp at h
    · exact clk_none n (by omega) i (by omega)
theorem gate_get {c : CellD} (h : cellB c = true) (hk : c.kind = 1) : ∃ m, 1 ≤ m ∧ m ≤ 4 ∧ c.pins.length = m + 1 ∧ c.truth.length = 2 ^ m ∧ bitsB c.truth = true ∧ clk c.pins c.pins.length = 0 := by
  have ⟨h0, _, _, h3⟩ := cell_get h
  have ⟨l2, l5, _, _⟩ := pins_get h0
  rw [kc_1 hk] at h3
  simp only [Bool.and_eq_true, decide_eq_true_eq] at h3
  obtain ⟨z, e, hb⟩ := h3
  refine ⟨c.pins.length - 1, by omega, by omega, by omega, ?_, hb, z⟩
  have e' : (c.truth.length : Int) = ((2 ^ (c.pins.length - 1) : Nat) : Int) := by simpa using e
  exact Int.ofNat.inj e'
/-- The role of a pin of a gate. -/
theorem rl_gate {c : CellD} (h : cellB c = true) (hk : c.kind = 1) (x : Int) : rl c.pins x = if inB x 0 ((c.pins.length : Int) - 2) then 1 else if x = (c.pins.length : Int) - 1 then 3 else 0 := by
  have ⟨h0, _, _, _⟩ := cell_get h
  obtain ⟨m, m1, m4, hl, _, _, hz⟩ := gate_get h hk
  cases hi : inB x 0 ((c.pins.length : Int) - 1)
  · rw [rl_out hi]
    cases hj : inB x 0 ((c.pins.length : Int) - 2)
    · rw [if_neg (by simp), if_neg ?_]
      intro e
      rw [inB_yes (by omega) (by omega)] at hi
      cases hi
    · have ⟨a, b⟩ := inB_get hj
      rw [inB_yes a (by omega)] at hi
      cases hi
  · have ⟨a, b⟩ := inB_get hi
    obtain ⟨k, rfl⟩ : ∃ k : Nat, x = k := ⟨x.toNat, by omega⟩
    rw [rl_at h0 (by omega)]
    by_cases e : k + 1 = c.pins.length
    · have hj : inB (k : Int) 0 ((c.pins.length : Int) - 2) = false := by
        cases hj : inB (k : Int) 0 ((c.pins.length : Int) - 2)
        · rfl
        · have := inB_get hj; omega
      rw [if_pos e, hj, if_neg (by simp), if_pos (by omega)]
    · rw [if_neg e, clk_none _ hz k (by omega), inB_yes (by omega) (by omega)]
      simp
def senI (c : CellD) (x : Int) : Int := if cellB c && decide (c.kind = 1) && inB x 0 ((c.pins.length : Int) - 2) then sns c.truth x.toNat else -1
theorem senI_no {c : CellD} {x : Int} (h : cellB c = false) : senI c x = -1 := by simp [senI, h]
theorem senI_kind {c : CellD} {x : Int} (h : ¬ c.kind = 1) : senI c x = -1 := by simp [senI, h]
theorem senI_out {c : CellD} {x : Int} (h : inB x 0 ((c.pins.length : Int) - 2) = false) : senI c x = -1 := by simp [senI, h]
theorem senI_yes {c : CellD} {p : Nat} (h : cellB c = true) (hk : c.kind = 1) (hi : inB (p : Int) 0 ((c.pins.length : Int) - 2) = true) : senI c (p : Int) = sns c.truth p := by simp [senI, h, hk, hi]
set_option maxRecDepth 100000 in
set_option maxHeartbeats 4000000 in
theorem implSenseOf_any (f : Nat → Value) (c : CellD) (x : Int) (w : World) (h : CellF w w.heap.size f c) : Calls Try.prog 14 #[.agg #[f 0, f 1, f 2, f 3, f 4, f 5, f 6], .int .i64 x] w fun e w' => e = .returned (.int .i64 (senI c x)) ∧ Below w.heap.size w w' := by
  obtain ⟨e0, e1, x2, x3, x4, e5, e6, hsz⟩ := h
  obtain ⟨p2, q2, e2⟩ := x2.slice; obtain ⟨p3, q3, e3⟩ := x3.slice; obtain ⟨p4, q4, e4⟩ := x4.slice
  rw [e2] at x2; rw [e3] at x3; rw [e4] at x4
  rw [e0, e1, e2, e3, e4, e5, e6]
  have HV := Lib.hid (show CellF w w.heap.size (vec [.string c.name, .int .i64 c.kind, .slice p2 c.pins.length q2, .slice p3 c.arcs.length q3, .slice p4 c.truth.length q4, .int .i64 c.leak, .int .i64 c.energy]) c from ⟨rfl, rfl, x2, x3, x4, rfl, rfl, hsz⟩)
  have X2 := Lib.hid x2; have X3 := Lib.hid x3; have X4 := Lib.hid x4
  have HI := Lib.hid (fun (w1 : World) (hb : Below w.heap.size w w1) => (show Calls Try.prog 24 #[.agg #[.string c.name, .int .i64 c.kind, .slice p2 c.pins.length q2, .slice p3 c.arcs.length q3, .slice p4 c.truth.length q4, .int .i64 c.leak, .int .i64 c.energy]] w1 _ from implIsCell_any (vec [.string c.name, .int .i64 c.kind, .slice p2 c.pins.length q2, .slice p3 c.arcs.length q3, .slice p4 c.truth.length q4, .int .i64 c.leak, .int .i64 c.energy]) c w1 (HV.out.up hb)))
  clear x2 x3 x4 e0 e1 e2 e3 e4 e5 e6 hsz
  cases hcb : cellB c
  · rw [senI_no hcb]
    rw [hcb] at HI
    go_enter Try.func14, Try.ntmps14
    go_wp2_with (go_at_call 24; refine (HI.out _ (by (repeat (first | (with_reducible exact Below.refl _ _) | (with_reducible assumption) | (with_reducible refine ext_alloc ?_ _) | (with_reducible refine ext_drew ?_) | (with_reducible refine ext_drewN ?_ _) | (with_reducible refine ext_set ?_ (by first | exact Nat.le_refl _ | (simp; done) | (simp; omega) | omega) _) | (with_reducible refine ext_trans ?_ (by assumption)))))).mono ?_; rintro e w1 ⟨rfl, hb⟩; obtain ⟨hc, hf⟩ := bcell hb; have hz := hb.size; (try simp at hz); (try (have hz := Nat.lt_of_succ_le hz)); (try (have y0 : w.heap.size ≤ w1.heap.size := by omega)); (try (have z0 : w.heap.size < w1.heap.size := by omega)); (try (have z1 : w.heap.size + 1 < w1.heap.size := by omega)); (try (have z2 : w.heap.size + 1 + 1 < w1.heap.size := by omega)); (try (have z3 : w.heap.size + 1 + 1 + 1 < w1.heap.size := by omega)); (try (have z4 : w.heap.size + 1 + 1 + 1 + 1 < w1.heap.size := by omega)); (try (have x0 : wc.heap.size < w1.heap.size := by omega)); (try (have x1 : wc.heap.size ≤ w1.heap.size := by omega)))
    go_ret
    exact ⟨rfl, by (repeat (first | (with_reducible exact Below.refl _ _) | (with_reducible assumption) | (with_reducible refine ext_alloc ?_ _) | (with_reducible refine ext_drew ?_) | (with_reducible refine ext_drewN ?_ _) | (with_reducible refine ext_set ?_ (by first | exact Nat.le_refl _ | (simp; done) | (simp; omega) | omega) _) | (with_reducible refine ext_trans ?_ (by assumption))))⟩
  · rw [hcb] at HI
    by_cases hk : c.kind = 1
    · have hR := rl_gate hcb hk x
      have HRl := Lib.hid (fun (w1 : World) (hb : Below w.heap.size w w1) => roleOf_any _ c.pins x w1 (X2.out.up hb))
      cases hi : inB x 0 ((c.pins.length : Int) - 2)
      · rw [senI_out hi]
        obtain ⟨R, hRR⟩ : ∃ R, R = rl c.pins x := ⟨_, rfl⟩
        rw [← hRR] at hR HRl
        have hne : (R != 1) = true := by
          rw [hR, hi, if_neg (by simp)]
          split <;> rfl
        clear hR hRR hcb
        rw [hk] at HI ⊢
        go_enter Try.func14, Try.ntmps14
        go_wp2_with (first | (go_at_call 24; refine (HI.out _ (by (repeat (first | (with_reducible exact Below.refl _ _) | (with_reducible assumption) | (with_reducible refine ext_alloc ?_ _) | (with_reducible refine ext_drew ?_) | (with_reducible refine ext_drewN ?_ _) | (with_reducible refine ext_set ?_ (by first | exact Nat.le_refl _ | (simp; done) | (simp; omega) | omega) _) | (with_reducible refine ext_trans ?_ (by assumption)))))).mono ?_; rintro e w1 ⟨rfl, hb⟩; obtain ⟨hc, hf⟩ := bcell hb; have hz := hb.size; (try simp at hz); (try (have hz := Nat.lt_of_succ_le hz)); (try (have y0 : w.heap.size ≤ w1.heap.size := by omega)); (try (have z0 : w.heap.size < w1.heap.size := by omega)); (try (have z1 : w.heap.size + 1 < w1.heap.size := by omega)); (try (have z2 : w.heap.size + 1 + 1 < w1.heap.size := by omega)); (try (have z3 : w.heap.size + 1 + 1 + 1 < w1.heap.size := by omega)); (try (have z4 : w.heap.size + 1 + 1 + 1 + 1 < w1.heap.size := by omega)); (try (have x0 : wc.heap.size < w1.heap.size := by omega)); (try (have x1 : wc.heap.size ≤ w1.heap.size := by omega))) | (go_at_call 29; refine (HRl.out _ (by (repeat (first | (with_reducible exact Below.refl _ _) | (with_reducible assumption) | (with_reducible refine ext_alloc ?_ _) | (with_reducible refine ext_drew ?_) | (with_reducible refine ext_drewN ?_ _) | (with_reducible refine ext_set ?_ (by first | exact Nat.le_refl _ | (simp; done) | (simp; omega) | omega) _) | (with_reducible refine ext_trans ?_ (by assumption)))))).mono ?_; rintro e w2 ⟨rfl, hw2⟩; rw [hw2]; clear hw2 w2))
        go_ret
        exact ⟨rfl, by (repeat (first | (with_reducible exact Below.refl _ _) | (with_reducible assumption) | (with_reducible refine ext_alloc ?_ _) | (with_reducible refine ext_drew ?_) | (with_reducible refine ext_drewN ?_ _) | (with_reducible refine ext_set ?_ (by first | exact Nat.le_refl _ | (simp; done) | (simp; omega) | omega) _) | (with_reducible refine ext_trans ?_ (by assumption))))⟩
      · rw [hi, if_pos rfl] at hR
        rw [hR] at HRl
        obtain ⟨m, m1, m4, hl, ht, _, _⟩ := gate_get hcb hk
        have ⟨i0, i1⟩ := inB_get hi
        obtain ⟨p, rfl⟩ : ∃ p : Nat, x = p := ⟨x.toNat, by omega⟩
        rw [senI_yes hcb hk hi]
        have HS := Lib.hid (fun (w1 : World) (hb : Below w.heap.size w w1) => senseT_any _ c.truth m p w1 (X4.out.up hb) m4 ht (by omega))
        clear hR hcb hi ht hl
        rw [hk] at HI ⊢
        go_enter Try.func14, Try.ntmps14
        go_wp2_with (first | (go_at_call 24; refine (HI.out _ (by (repeat (first | (with_reducible exact Below.refl _ _) | (with_reducible assumption) | (with_reducible refine ext_alloc ?_ _) | (with_reducible refine ext_drew ?_) | (with_reducible refine ext_drewN ?_ _) | (with_reducible refine ext_set ?_ (by first | exact Nat.le_refl _ | (simp; done) | (simp; omega) | omega) _) | (with_reducible refine ext_trans ?_ (by assumption)))))).mono ?_; rintro e w1 ⟨rfl, hb⟩; obtain ⟨hc, hf⟩ := bcell hb; have hz := hb.size; (try simp at hz); (try (have hz := Nat.lt_of_succ_le hz)); (try (have y0 : w.heap.size ≤ w1.heap.size := by omega)); (try (have z0 : w.heap.size < w1.heap.size := by omega)); (try (have z1 : w.heap.size + 1 < w1.heap.size := by omega)); (try (have z2 : w.heap.size + 1 + 1 < w1.heap.size := by omega)); (try (have z3 : w.heap.size + 1 + 1 + 1 < w1.heap.size := by omega)); (try (have z4 : w.heap.size + 1 + 1 + 1 + 1 < w1.heap.size := by omega)); (try (have x0 : wc.heap.size < w1.heap.size := by omega)); (try (have x1 : wc.heap.size ≤ w1.heap.size := by omega))) | (go_at_call 29; refine (HRl.out _ (by (repeat (first | (with_reducible exact Below.refl _ _) | (with_reducible assumption) | (with_reducible refine ext_alloc ?_ _) | (with_reducible refine ext_drew ?_) | (with_reducible refine ext_drewN ?_ _) | (with_reducible refine ext_set ?_ (by first | exact Nat.le_refl _ | (simp; done) | (simp; omega) | omega) _) | (with_reducible refine ext_trans ?_ (by assumption)))))).mono ?_; rintro e w2 ⟨rfl, hw2⟩; rw [hw2]; clear hw2 w2) | (go_at_call 30; refine (HS.out _ (by (repeat (first | (with_reducible exact Below.refl _ _) | (with_reducible assumption) | (with_reducible refine ext_alloc ?_ _) | (with_reducible refine ext_drew ?_) | (with_reducible refine ext_drewN ?_ _) | (with_reducible refine ext_set ?_ (by first | exact Nat.le_refl _ | (simp; done) | (simp; omega) | omega) _) | (with_reducible refine ext_trans ?_ (by assumption)))))).mono ?_; rintro e w1 ⟨rfl, hb⟩; obtain ⟨hc, hf⟩ := bcell hb; have hz := hb.size; (try simp at hz); (try (have hz := Nat.lt_of_succ_le hz)); (try (have y0 : w.heap.size ≤ w1.heap.size := by omega)); (try (have z0 : w.heap.size < w1.heap.size := by omega)); (try (have z1 : w.heap.size + 1 < w1.heap.size := by omega)); (try (have z2 : w.heap.size + 1 + 1 < w1.heap.size := by omega)); (try (have z3 : w.heap.size + 1 + 1 + 1 < w1.heap.size := by omega)); (try (have z4 : w.heap.size + 1 + 1 + 1 + 1 < w1.heap.size := by omega)); (try (have x0 : wc.heap.size < w1.heap.size := by omega)); (try (have x1 : wc.heap.size ≤ w1.heap.size := by omega))))
        go_ret
        exact ⟨rfl, by (repeat (first | (with_reducible exact Below.refl _ _) | (with_reducible assumption) | (with_reducible refine ext_alloc ?_ _) | (with_reducible refine ext_drew ?_) | (with_reducible refine ext_drewN ?_ _) | (with_reducible refine ext_set ?_ (by first | exact Nat.le_refl _ | (simp; done) | (simp; omega) | omega) _) | (with_reducible refine ext_trans ?_ (by assumption))))⟩
    · rw [senI_kind hk]
      have hkb : (c.kind != 1) = true := by simpa using hk
      clear hcb
      go_enter Try.func14, Try.ntmps14
      go_wp2_with (go_at_call 24; refine (HI.out _ (by (repeat (first | (with_reducible exact Below.refl _ _) | (with_reducible assumption) | (with_reducible refine ext_alloc ?_ _) | (with_reducible refine ext_drew ?_) | (with_reducible refine ext_drewN ?_ _) | (with_reducible refine ext_set ?_ (by first | exact Nat.le_refl _ | (simp; done) | (simp; omega) | omega) _) | (with_reducible refine ext_trans ?_ (by assumption)))))).mono ?_; rintro e w1 ⟨rfl, hb⟩; obtain ⟨hc, hf⟩ := bcell hb; have hz := hb.size; (try simp at hz); (try (have hz := Nat.lt_of_succ_le hz)); (try (have y0 : w.heap.size ≤ w1.heap.size := by omega)); (try (have z0 : w.heap.size < w1.heap.size := by omega)); (try (have z1 : w.heap.size + 1 < w1.heap.size := by omega)); (try (have z2 : w.heap.size + 1 + 1 < w1.heap.size := by omega)); (try (have z3 : w.heap.size + 1 + 1 + 1 < w1.heap.size := by omega)); (try (have z4 : w.heap.size + 1 + 1 + 1 + 1 < w1.heap.size := by omega)); (try (have x0 : wc.heap.size < w1.heap.size := by omega)); (try (have x1 : wc.heap.size ≤ w1.heap.size := by omega)))
      go_ret
      exact ⟨rfl, by (repeat (first | (with_reducible exact Below.refl _ _) | (with_reducible assumption) | (with_reducible refine ext_alloc ?_ _) | (with_reducible refine ext_drew ?_) | (with_reducible refine ext_drewN ?_ _) | (with_reducible refine ext_set ?_ (by first | exact Nat.le_refl _ | (simp; done) | (simp; omega) | omega) _) | (with_reducible refine ext_trans ?_ (by assumption))))⟩
set_option maxRecDepth 100000 in
set_option maxHeartbeats 4000000 in
theorem specSenseOf_any (f : Nat → Value) (c : CellD) (x : Int) (w : World) (h : CellF w w.heap.size f c) : Calls Try.prog 13 #[.agg #[f 0, f 1, f 2, f 3, f 4, f 5, f 6], .int .i64 x] w fun e w' => e = .returned (.int .i64 (senI c x)) ∧ Below w.heap.size w w' := by
  obtain ⟨e0, e1, x2, x3, x4, e5, e6, hsz⟩ := h
  obtain ⟨p2, q2, e2⟩ := x2.slice; obtain ⟨p3, q3, e3⟩ := x3.slice; obtain ⟨p4, q4, e4⟩ := x4.slice
  rw [e2] at x2; rw [e3] at x3; rw [e4] at x4
  rw [e0, e1, e2, e3, e4, e5, e6]
  have HV := Lib.hid (show CellF w w.heap.size (vec [.string c.name, .int .i64 c.kind, .slice p2 c.pins.length q2, .slice p3 c.arcs.length q3, .slice p4 c.truth.length q4, .int .i64 c.leak, .int .i64 c.energy]) c from ⟨rfl, rfl, x2, x3, x4, rfl, rfl, hsz⟩)
  have X2 := Lib.hid x2; have X3 := Lib.hid x3; have X4 := Lib.hid x4
  have HI := Lib.hid (fun (w1 : World) (hb : Below w.heap.size w w1) => (show Calls Try.prog 20 #[.agg #[.string c.name, .int .i64 c.kind, .slice p2 c.pins.length q2, .slice p3 c.arcs.length q3, .slice p4 c.truth.length q4, .int .i64 c.leak, .int .i64 c.energy]] w1 _ from specIsCell_any (vec [.string c.name, .int .i64 c.kind, .slice p2 c.pins.length q2, .slice p3 c.arcs.length q3, .slice p4 c.truth.length q4, .int .i64 c.leak, .int .i64 c.energy]) c w1 (HV.out.up hb)))
  clear x2 x3 x4 e0 e1 e2 e3 e4 e5 e6 hsz
  cases hcb : cellB c
  · rw [senI_no hcb]
    rw [hcb] at HI
    go_enter Try.func13, Try.ntmps13
    go_wp2_with (go_at_call 20; refine (HI.out _ (by (repeat (first | (with_reducible exact Below.refl _ _) | (with_reducible assumption) | (with_reducible refine ext_alloc ?_ _) | (with_reducible refine ext_drew ?_) | (with_reducible refine ext_drewN ?_ _) | (with_reducible refine ext_set ?_ (by first | exact Nat.le_refl _ | (simp; done) | (simp; omega) | omega) _) | (with_reducible refine ext_trans ?_ (by assumption)))))).mono ?_; rintro e w1 ⟨rfl, hb⟩; obtain ⟨hc, hf⟩ := bcell hb; have hz := hb.size; (try simp at hz); (try (have hz := Nat.lt_of_succ_le hz)); (try (have y0 : w.heap.size ≤ w1.heap.size := by omega)); (try (have z0 : w.heap.size < w1.heap.size := by omega)); (try (have z1 : w.heap.size + 1 < w1.heap.size := by omega)); (try (have z2 : w.heap.size + 1 + 1 < w1.heap.size := by omega)); (try (have z3 : w.heap.size + 1 + 1 + 1 < w1.heap.size := by omega)); (try (have z4 : w.heap.size + 1 + 1 + 1 + 1 < w1.heap.size := by omega)); (try (have x0 : wc.heap.size < w1.heap.size := by omega)); (try (have x1 : wc.heap.size ≤ w1.heap.size := by omega)))
    go_ret
    exact ⟨rfl, by (repeat (first | (with_reducible exact Below.refl _ _) | (with_reducible assumption) | (with_reducible refine ext_alloc ?_ _) | (with_reducible refine ext_drew ?_) | (with_reducible refine ext_drewN ?_ _) | (with_reducible refine ext_set ?_ (by first | exact Nat.le_refl _ | (simp; done) | (simp; omega) | omega) _) | (with_reducible refine ext_trans ?_ (by assumption))))⟩
  · rw [hcb] at HI
    by_cases hk : c.kind = 1
    · obtain ⟨m, m1, m4, hl, ht, _, _⟩ := gate_get hcb hk
      have HRl := Lib.hid (fun (w1 : World) => l01In_any x 0 ((c.pins.length : Int) - 2) w1)
      cases hi : inB x 0 ((c.pins.length : Int) - 2)
      · rw [senI_out hi]
        rw [hi] at HRl
        have hl2 : 2 ≤ c.pins.length := by omega
        have hl5 : c.pins.length ≤ 5 := by omega
        clear hcb hi ht hl
        rw [hk] at HI ⊢
        go_enter Try.func13, Try.ntmps13
        go_wp2_with (first | (go_at_call 20; refine (HI.out _ (by (repeat (first | (with_reducible exact Below.refl _ _) | (with_reducible assumption) | (with_reducible refine ext_alloc ?_ _) | (with_reducible refine ext_drew ?_) | (with_reducible refine ext_drewN ?_ _) | (with_reducible refine ext_set ?_ (by first | exact Nat.le_refl _ | (simp; done) | (simp; omega) | omega) _) | (with_reducible refine ext_trans ?_ (by assumption)))))).mono ?_; rintro e w1 ⟨rfl, hb⟩; obtain ⟨hc, hf⟩ := bcell hb; have hz := hb.size; (try simp at hz); (try (have hz := Nat.lt_of_succ_le hz)); (try (have y0 : w.heap.size ≤ w1.heap.size := by omega)); (try (have z0 : w.heap.size < w1.heap.size := by omega)); (try (have z1 : w.heap.size + 1 < w1.heap.size := by omega)); (try (have z2 : w.heap.size + 1 + 1 < w1.heap.size := by omega)); (try (have z3 : w.heap.size + 1 + 1 + 1 < w1.heap.size := by omega)); (try (have z4 : w.heap.size + 1 + 1 + 1 + 1 < w1.heap.size := by omega)); (try (have x0 : wc.heap.size < w1.heap.size := by omega)); (try (have x1 : wc.heap.size ≤ w1.heap.size := by omega))) | (go_at_call 21; refine (HRl.out _).mono ?_; rintro e w2 ⟨rfl, hw2⟩; rw [hw2]; clear hw2 w2))
        go_ret
        exact ⟨rfl, by (repeat (first | (with_reducible exact Below.refl _ _) | (with_reducible assumption) | (with_reducible refine ext_alloc ?_ _) | (with_reducible refine ext_drew ?_) | (with_reducible refine ext_drewN ?_ _) | (with_reducible refine ext_set ?_ (by first | exact Nat.le_refl _ | (simp; done) | (simp; omega) | omega) _) | (with_reducible refine ext_trans ?_ (by assumption))))⟩
      · have ⟨i0, i1⟩ := inB_get hi
        obtain ⟨p, rfl⟩ : ∃ p : Nat, x = p := ⟨x.toNat, by omega⟩
        rw [senI_yes hcb hk hi]
        rw [hi] at HRl
        have HS := Lib.hid (fun (w1 : World) (hb : Below w.heap.size w w1) => (show Calls Try.prog 28 #[.agg #[.string c.name, .int .i64 c.kind, .slice p2 c.pins.length q2, .slice p3 c.arcs.length q3, .slice p4 c.truth.length q4, .int .i64 c.leak, .int .i64 c.energy], .int .i64 (p : Int)] w1 _ from specSense_any (vec [.string c.name, .int .i64 c.kind, .slice p2 c.pins.length q2, .slice p3 c.arcs.length q3, .slice p4 c.truth.length q4, .int .i64 c.leak, .int .i64 c.energy]) c m p w1 (HV.out.up hb) m4 ht (by omega)))
        have hl2 : 2 ≤ c.pins.length := by omega
        have hl5 : c.pins.length ≤ 5 := by omega
        clear hcb hi ht hl
        rw [hk] at HI HS ⊢
        go_enter Try.func13, Try.ntmps13
        go_wp2_with (first | (go_at_call 20; refine (HI.out _ (by (repeat (first | (with_reducible exact Below.refl _ _) | (with_reducible assumption) | (with_reducible refine ext_alloc ?_ _) | (with_reducible refine ext_drew ?_) | (with_reducible refine ext_drewN ?_ _) | (with_reducible refine ext_set ?_ (by first | exact Nat.le_refl _ | (simp; done) | (simp; omega) | omega) _) | (with_reducible refine ext_trans ?_ (by assumption)))))).mono ?_; rintro e w1 ⟨rfl, hb⟩; obtain ⟨hc, hf⟩ := bcell hb; have hz := hb.size; (try simp at hz); (try (have hz := Nat.lt_of_succ_le hz)); (try (have y0 : w.heap.size ≤ w1.heap.size := by omega)); (try (have z0 : w.heap.size < w1.heap.size := by omega)); (try (have z1 : w.heap.size + 1 < w1.heap.size := by omega)); (try (have z2 : w.heap.size + 1 + 1 < w1.heap.size := by omega)); (try (have z3 : w.heap.size + 1 + 1 + 1 < w1.heap.size := by omega)); (try (have z4 : w.heap.size + 1 + 1 + 1 + 1 < w1.heap.size := by omega)); (try (have x0 : wc.heap.size < w1.heap.size := by omega)); (try (have x1 : wc.heap.size ≤ w1.heap.size := by omega))) | (go_at_call 21; refine (HRl.out _).mono ?_; rintro e w2 ⟨rfl, hw2⟩; rw [hw2]; clear hw2 w2) | (go_at_call 28; refine (HS.out _ (by (repeat (first | (with_reducible exact Below.refl _ _) | (with_reducible assumption) | (with_reducible refine ext_alloc ?_ _) | (with_reducible refine ext_drew ?_) | (with_reducible refine ext_drewN ?_ _) | (with_reducible refine ext_set ?_ (by first | exact Nat.le_refl _ | (simp; done) | (simp; omega) | omega) _) | (with_reducible refine ext_trans ?_ (by assumption)))))).mono ?_; rintro e w1 ⟨rfl, hb⟩; obtain ⟨hc, hf⟩ := bcell hb; have hz := hb.size; (try simp at hz); (try (have hz := Nat.lt_of_succ_le hz)); (try (have y0 : w.heap.size ≤ w1.heap.size := by omega)); (try (have z0 : w.heap.size < w1.heap.size := by omega)); (try (have z1 : w.heap.size + 1 < w1.heap.size := by omega)); (try (have z2 : w.heap.size + 1 + 1 < w1.heap.size := by omega)); (try (have z3 : w.heap.size + 1 + 1 + 1 < w1.heap.size := by omega)); (try (have z4 : w.heap.size + 1 + 1 + 1 + 1 < w1.heap.size := by omega)); (try (have x0 : wc.heap.size < w1.heap.size := by omega)); (try (have x1 : wc.heap.size ≤ w1.heap.size := by omega))))
        go_ret
        exact ⟨rfl, by (repeat (first | (with_reducible exact Below.refl _ _) | (with_reducible assumption) | (with_reducible refine ext_alloc ?_ _) | (with_reducible refine ext_drew ?_) | (with_reducible refine ext_drewN ?_ _) | (with_reducible refine ext_set ?_ (by first | exact Nat.le_refl _ | (simp; done) | (simp; omega) | omega) _) | (with_reducible refine ext_trans ?_ (by assumption))))⟩
    · rw [senI_kind hk]
      have hkb : (c.kind != 1) = true := by simpa using hk
      clear hcb
      go_enter Try.func13, Try.ntmps13
      go_wp2_with (go_at_call 20; refine (HI.out _ (by (repeat (first | (with_reducible exact Below.refl _ _) | (with_reducible assumption) | (with_reducible refine ext_alloc ?_ _) | (with_reducible refine ext_drew ?_) | (with_reducible refine ext_drewN ?_ _) | (with_reducible refine ext_set ?_ (by first | exact Nat.le_refl _ | (simp; done) | (simp; omega) | omega) _) | (with_reducible refine ext_trans ?_ (by assumption)))))).mono ?_; rintro e w1 ⟨rfl, hb⟩; obtain ⟨hc, hf⟩ := bcell hb; have hz := hb.size; (try simp at hz); (try (have hz := Nat.lt_of_succ_le hz)); (try (have y0 : w.heap.size ≤ w1.heap.size := by omega)); (try (have z0 : w.heap.size < w1.heap.size := by omega)); (try (have z1 : w.heap.size + 1 < w1.heap.size := by omega)); (try (have z2 : w.heap.size + 1 + 1 < w1.heap.size := by omega)); (try (have z3 : w.heap.size + 1 + 1 + 1 < w1.heap.size := by omega)); (try (have z4 : w.heap.size + 1 + 1 + 1 + 1 < w1.heap.size := by omega)); (try (have x0 : wc.heap.size < w1.heap.size := by omega)); (try (have x1 : wc.heap.size ≤ w1.heap.size := by omega)))
      go_ret
      exact ⟨rfl, by (repeat (first | (with_reducible exact Below.refl _ _) | (with_reducible assumption) | (with_reducible refine ext_alloc ?_ _) | (with_reducible refine ext_drew ?_) | (with_reducible refine ext_drewN ?_ _) | (with_reducible refine ext_set ?_ (by first | exact Nat.le_refl _ | (simp; done) | (simp; omega) | omega) _) | (with_reducible refine ext_trans ?_ (by assumption))))⟩
end Go.Proofs.Ytnmjfbloedmgeab
