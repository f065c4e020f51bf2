/-
IsConsistent: the model's and the program's own, for all cells.
-/
import Derived.Test.YtnmjfbloedmgeabSenseC
namespace Go.Proofs.Ytnmjfbloedmgeab
open Go.ChangeShapes Go.WideShapes Go.ChangeAt Go.RowKit
set_option linter.unusedVariables false
set_option linter.unusedSimpArgs false
def admA (p : ArcD) (x s : Int) : Bool := (p.src == x) && ((p.sense == s) || (p.sense == 3))
def admQ (ps : List ArcD) (x s : Int) (i : Nat) : Bool := admA (an ps i) x s
def admB (ps : List ArcD) (x s : Int) : Bool := (s == 0) || anyB (admQ ps x s) ps.length
theorem CellS.atS {w wr : World} {a : Option Addr} {n c k cap : Nat} {F : Nat → Nat → Value} (h : CellS w w.heap.size (.slice a n cap) n c F) (hb : Below w.heap.size w wr) (hk : k < n) :
    ∃ b off, a = some ⟨b, off, none⟩ ∧ b < w.heap.size ∧ ∀ j, j < c → wr.cell? ⟨b, off + k * c + j, none⟩ = some (F k j) := h.at hb hk
theorem any_ix (q : Nat → Bool) (n : Nat) : anyB q n = decide (0 ≤ ix q n) := by
  have none : ∀ n, (∀ i, i < n → q i = false) → anyB q n = false := by
    intro n
    induction n with
    | zero => intro _; rfl
    | succ n ih =>
      intro h
      rw [any_k (h n (by omega))]
      exact ih (fun i hi => h i (by omega))
  have some : ∀ n k, k < n → q k = true → anyB q n = true := by
    intro n
    induction n with
    | zero => intro k hk _; omega
    | succ n ih =>
      intro k hk hq
      by_cases e : k = n
      · subst e; simp [anyB, hq]
      · exact any_y (ih k (by omega) hq)
  rcases first_or q n with ⟨k, h1, h2, h3⟩ | h
  · rw [ix_at h1 h2 h3, some n k h1 h2]
    simp
  · rw [ix_none h, none n h]
    rfl
set_option maxHeartbeats 2000000 in
theorem admC_any (f : Nat → Value) (p : ArcD) (g1 g2 : Nat) (x s : Int) (w : World) (h : ArcF w w.heap.size f p) (h1 : w.cell? ⟨g1, 0, none⟩ = some (.int .i64 x)) (h2 : w.cell? ⟨g2, 0, none⟩ = some (.int .i64 s)) :
    Calls Try.prog 54 #[.agg #[f 0, f 1, f 2, f 3, f 4, f 5], .pointer (some ⟨g1, 0, none⟩), .pointer (some ⟨g2, 0, none⟩)] w fun e w' => e = .returned (.bool (admA p x s)) ∧ Below w.heap.size w w' := by
  have l1 := cell_lt h1
  have l2 := cell_lt h2
  obtain ⟨e0, e1, e2, e3, x4, x5⟩ := h
  obtain ⟨p4, q4, e4⟩ := x4.slice; obtain ⟨p5, q5, e5⟩ := x5.slice
  rw [e0, e1, e2, e3, e4, e5]
  clear e0 e1 e2 e3 e4 e5 x4 x5
  cases c0 : (p.src == x) <;> cases c1 : (p.sense == s) <;> cases c2 : (p.sense == 3)
  all_goals
    have hR := Lib.hid (show admA p x s = _ by unfold admA; rw [c0, c1, c2])
    go_enter Try.func54, Try.ntmps54
    go_wp2
    go_ret
    rw [hR.out]
    exact ⟨rfl, by (repeat (first | (with_reducible exact Below.refl _ _) | (with_reducible assumption) | (with_reducible refine ext_alloc ?_ _) | (with_reducible refine ext_drew ?_) | (with_reducible refine ext_drewN ?_ _) | (with_reducible refine ext_set ?_ (by first | exact Nat.le_refl _ | (simp; done) | (simp; omega) | omega) _) | (with_reducible refine ext_trans ?_ (by assumption))))⟩
set_option maxHeartbeats 2000000 in
theorem admF_any (v : Value) (ps : List ArcD) (g1 g2 : Nat) (x s : Int) (w : World) (h : ArcsS w w.heap.size v ps) (h1 : w.cell? ⟨g1, 0, none⟩ = some (.int .i64 x)) (h2 : w.cell? ⟨g2, 0, none⟩ = some (.int .i64 s)) :
    Calls Try.prog 68 #[v, .func (.func 54) #[] #[.pointer (some ⟨g1, 0, none⟩), .pointer (some ⟨g2, 0, none⟩)]] w fun e w' => e = .returned (.int .i64 (ix (admQ ps x s) ps.length)) ∧ Below w.heap.size w w' := by
  obtain ⟨F, hc, hf⟩ := h
  obtain ⟨n, hnn⟩ : ∃ n, n = ps.length := ⟨_, rfl⟩
  rw [← hnn] at hc hf ⊢
  have HC := hc
  obtain ⟨hn, a, cap, rfl, _⟩ := hc
  have HC := Lib.hid HC; have HF := Lib.hid hf; have HN := Lib.hid hnn
  clear hf hnn
  go_enter Try.func68, Try.ntmps68
  go_wp2
  go_loopw [5, 8] (fun _ i wr => ∃ k : Nat, k ≤ n ∧ i = .int .i64 k ∧ Hid (∀ j, j < k → admQ ps x s j = false) ∧ Below w.heap.size w wr) (fun _ i _ => n - (intOf i).toNat)
  case atStart => exact ⟨0, by omega, rfl, Lib.hid (fun j hj => absurd hj (Nat.not_lt_zero j)), by (repeat (first | (with_reducible exact Below.refl _ _) | (with_reducible assumption) | (with_reducible refine ext_alloc ?_ _) | (with_reducible refine ext_drew ?_) | (with_reducible refine ext_drewN ?_ _) | (with_reducible refine ext_set ?_ (by first | exact Nat.le_refl _ | (simp; done) | (simp; omega) | omega) _) | (with_reducible refine ext_trans ?_ (by assumption))))⟩
  case round =>
    obtain ⟨k, hk, rfl, hall, hbw⟩ := hrel
    by_cases hkn : k < n
    · obtain ⟨b, off, rfl, hlt, hx⟩ := HC.out.at hbw hkn
      have y0 := hx 0 (by omega)
      have y1 := hx 1 (by omega)
      have y2 := hx 2 (by omega)
      have y3 := hx 3 (by omega)
      have y4 := hx 4 (by omega)
      have y5 := hx 5 (by omega)
      simp only [Nat.add_zero] at y0
      have hI : (k : Int) < (n : Int) := by omega
      have i0 : (0 : Int) ≤ (k : Int) := by omega
      have HQ := Lib.hid (show Calls Try.prog 54 #[.agg #[F k 0, F k 1, F k 2, F k 3, F k 4, F k 5], .pointer (some ⟨g1, 0, none⟩), .pointer (some ⟨g2, 0, none⟩)] wr (fun e w' => e = .returned (.bool (admQ ps x s k)) ∧ Below wr.heap.size wr w') from admC_any (F k) (an ps k) g1 g2 x s wr ((HF.out k hkn).up hbw) (cell_keep h1 hbw) (cell_keep h2 hbw))
      clear hx h1 h2
      cases hd : admQ ps x s k
      · have hok := Lib.hid (all_more hall.out hd)
        rw [hd] at HQ
        clear hd
        go_wp2_with (go_at_call 54; refine (HQ.out).mono ?_; rintro e w1 ⟨rfl, hb⟩; obtain ⟨hc, hf⟩ := bcell hb; have hz := hb.size; (try simp at hz); (try (have hz := Nat.lt_of_succ_le hz)); (try (have y0 : w.heap.size ≤ w1.heap.size := by omega)); (try (have z0 : w.heap.size < w1.heap.size := by omega)); (try (have z1 : w.heap.size + 1 < w1.heap.size := by omega)); (try (have z2 : w.heap.size + 1 + 1 < w1.heap.size := by omega)); (try (have z3 : w.heap.size + 1 + 1 + 1 < w1.heap.size := by omega)); (try (have z4 : w.heap.size + 1 + 1 + 1 + 1 < w1.heap.size := by omega)); (try (have x0 : wc.heap.size < w1.heap.size := by omega)); (try (have x1 : wc.heap.size ≤ w1.heap.size := by omega)))
        go_roundw
        case rel => exact ⟨k + 1, by omega, by go_num, hok, by (repeat (first | (with_reducible exact Below.refl _ _) | (with_reducible assumption) | (with_reducible refine ext_alloc ?_ _) | (with_reducible refine ext_drew ?_) | (with_reducible refine ext_drewN ?_ _) | (with_reducible refine ext_set ?_ (by first | exact Nat.le_refl _ | (simp; done) | (simp; omega) | omega) _) | (with_reducible refine ext_trans ?_ (by assumption))))⟩
        case measure => simp [intOf]; omega
      · have hok := Lib.hid (ix_at (q := admQ ps x s) hkn hd hall.out)
        rw [hd] at HQ
        clear hd
        go_wp2_with (go_at_call 54; refine (HQ.out).mono ?_; rintro e w1 ⟨rfl, hb⟩; obtain ⟨hc, hf⟩ := bcell hb; have hz := hb.size; (try simp at hz); (try (have hz := Nat.lt_of_succ_le hz)); (try (have y0 : w.heap.size ≤ w1.heap.size := by omega)); (try (have z0 : w.heap.size < w1.heap.size := by omega)); (try (have z1 : w.heap.size + 1 < w1.heap.size := by omega)); (try (have z2 : w.heap.size + 1 + 1 < w1.heap.size := by omega)); (try (have z3 : w.heap.size + 1 + 1 + 1 < w1.heap.size := by omega)); (try (have z4 : w.heap.size + 1 + 1 + 1 + 1 < w1.heap.size := by omega)); (try (have x0 : wc.heap.size < w1.heap.size := by omega)); (try (have x1 : wc.heap.size ≤ w1.heap.size := by omega)))
        rw [hok.out]
        go_ret
        exact ⟨rfl, by (repeat (first | (with_reducible exact Below.refl _ _) | (with_reducible assumption) | (with_reducible refine ext_alloc ?_ _) | (with_reducible refine ext_drew ?_) | (with_reducible refine ext_drewN ?_ _) | (with_reducible refine ext_set ?_ (by first | exact Nat.le_refl _ | (simp; done) | (simp; omega) | omega) _) | (with_reducible refine ext_trans ?_ (by assumption))))⟩
    · obtain rfl : k = n := by omega
      have hok := Lib.hid (ix_none (q := admQ ps x s) hall.out)
      have hI : ¬ (k : Int) < (k : Int) := by omega
      go_wp2
      rw [hok.out]
      go_ret
      exact ⟨rfl, hbw⟩
theorem admK_any (v : Value) (ps : List ArcD) (g1 g2 : Nat) (x s : Int) (w : World) (h : ArcsS w w.heap.size v ps) (h1 : w.cell? ⟨g1, 0, none⟩ = some (.int .i64 x)) (h2 : w.cell? ⟨g2, 0, none⟩ = some (.int .i64 s)) :
    Calls Try.prog 53 #[v, .func (.func 54) #[] #[.pointer (some ⟨g1, 0, none⟩), .pointer (some ⟨g2, 0, none⟩)]] w fun e w' => e = .returned (.bool (anyB (admQ ps x s) ps.length)) ∧ Below w.heap.size w w' := by
  have H := Lib.hid (fun (w1 : World) (hb : Below w.heap.size w w1) => admF_any v ps g1 g2 x s w1 (h.up hb) (cell_keep h1 hb) (cell_keep h2 hb))
  obtain ⟨p, q, rfl⟩ := h.slice
  have e := any_ix (admQ ps x s) ps.length
  obtain ⟨X, hX⟩ : ∃ X, X = ix (admQ ps x s) ps.length := ⟨_, rfl⟩
  rw [← hX] at H e
  rw [e]
  clear hX e h h1 h2
  go_enter Try.func53, Try.ntmps53
  go_wp2_with (go_at_call 68; refine (H.out _ (by (repeat (first | (with_reducible exact Below.refl _ _) | (with_reducible assumption) | (with_reducible refine ext_alloc ?_ _) | (with_reducible refine ext_drew ?_) | (with_reducible refine ext_drewN ?_ _) | (with_reducible refine ext_set ?_ (by first | exact Nat.le_refl _ | (simp; done) | (simp; omega) | omega) _) | (with_reducible refine ext_trans ?_ (by assumption)))))).mono ?_; rintro e w1 ⟨rfl, hb⟩; obtain ⟨hc, hf⟩ := bcell hb; have hz := hb.size; (try simp at hz); (try (have hz := Nat.lt_of_succ_le hz)); (try (have y0 : w.heap.size ≤ w1.heap.size := by omega)); (try (have z0 : w.heap.size < w1.heap.size := by omega)); (try (have z1 : w.heap.size + 1 < w1.heap.size := by omega)); (try (have z2 : w.heap.size + 1 + 1 < w1.heap.size := by omega)); (try (have z3 : w.heap.size + 1 + 1 + 1 < w1.heap.size := by omega)); (try (have z4 : w.heap.size + 1 + 1 + 1 + 1 < w1.heap.size := by omega)); (try (have x0 : wc.heap.size < w1.heap.size := by omega)); (try (have x1 : wc.heap.size ≤ w1.heap.size := by omega)))
  go_ret
  exact ⟨rfl, by (repeat (first | (with_reducible exact Below.refl _ _) | (with_reducible assumption) | (with_reducible refine ext_alloc ?_ _) | (with_reducible refine ext_drew ?_) | (with_reducible refine ext_drewN ?_ _) | (with_reducible refine ext_set ?_ (by first | exact Nat.le_refl _ | (simp; done) | (simp; omega) | omega) _) | (with_reducible refine ext_trans ?_ (by assumption))))⟩
set_option maxHeartbeats 2000000 in
theorem adm_any (v : Value) (ps : List ArcD) (x s : Int) (w : World) (h : ArcsS w w.heap.size v ps) :
    Calls Try.prog 31 #[v, .int .i64 x, .int .i64 s] w fun e w' => e = .returned (.bool (admB ps x s)) ∧ Below w.heap.size w w' := by
  have H := Lib.hid h
  obtain ⟨p, q, rfl⟩ := h.slice
  clear h
  cases hs : (s == 0)
  · have hR := Lib.hid (show admB ps x s = anyB (admQ ps x s) ps.length by unfold admB; rw [hs, Bool.false_or])
    rw [hR.out]
    obtain ⟨R, hRR⟩ : ∃ R, R = anyB (admQ ps x s) ps.length := ⟨_, rfl⟩
    have HK := Lib.hid (fun (w1 : World) (g1 g2 : Nat) (hb : Below w.heap.size w w1) (h1 : w1.cell? ⟨g1, 0, none⟩ = some (.int .i64 x)) (h2 : w1.cell? ⟨g2, 0, none⟩ = some (.int .i64 s)) => admK_any _ ps g1 g2 x s w1 (H.out.up hb) h1 h2)
    rw [← hRR] at HK ⊢
    clear hRR hR
    go_enter Try.func31, Try.ntmps31
    go_wp2_with fail
    (go_at_call 53; refine (HK.out _ w.heap.size (w.heap.size + 1) (by (repeat (first | (with_reducible exact Below.refl _ _) | (with_reducible assumption) | (with_reducible refine ext_alloc ?_ _) | (with_reducible refine ext_drew ?_) | (with_reducible refine ext_drewN ?_ _) | (with_reducible refine ext_set ?_ (by first | exact Nat.le_refl _ | (simp; done) | (simp; omega) | omega) _) | (with_reducible refine ext_trans ?_ (by assumption))))) (by simp [go_sem]) (by simp [go_sem])).mono ?_; rintro e w1 ⟨rfl, hb⟩; obtain ⟨hc, hf⟩ := bcell hb; have hz := hb.size; (try simp at hz); (try (have hz := Nat.lt_of_succ_le hz)); (try (have y0 : w.heap.size ≤ w1.heap.size := by omega)); (try (have z0 : w.heap.size < w1.heap.size := by omega)); (try (have z1 : w.heap.size + 1 < w1.heap.size := by omega)); (try (have z2 : w.heap.size + 1 + 1 < w1.heap.size := by omega)); (try (have z3 : w.heap.size + 1 + 1 + 1 < w1.heap.size := by omega)); (try (have z4 : w.heap.size + 1 + 1 + 1 + 1 < w1.heap.size := by omega)))
    go_wp2_with fail
    go_ret
    exact ⟨rfl, by (repeat (first | (with_reducible exact Below.refl _ _) | (with_reducible assumption) | (with_reducible refine ext_alloc ?_ _) | (with_reducible refine ext_drew ?_) | (with_reducible refine ext_drewN ?_ _) | (with_reducible refine ext_set ?_ (by first | exact Nat.le_refl _ | (simp; done) | (simp; omega) | omega) _) | (with_reducible refine ext_trans ?_ (by assumption))))⟩
  · have hR := Lib.hid (show admB ps x s = true by unfold admB; rw [hs, Bool.true_or])
    rw [hR.out]
    go_enter Try.func31, Try.ntmps31
    go_wp2
    go_ret
    exact ⟨rfl, by (repeat (first | (with_reducible exact Below.refl _ _) | (with_reducible assumption) | (with_reducible refine ext_alloc ?_ _) | (with_reducible refine ext_drew ?_) | (with_reducible refine ext_drewN ?_ _) | (with_reducible refine ext_set ?_ (by first | exact Nat.le_refl _ | (simp; done) | (simp; omega) | omega) _) | (with_reducible refine ext_trans ?_ (by assumption))))⟩
def cstQ (c : CellD) (p : Nat) : Bool := admB c.arcs (p : Int) (sns c.truth p)
def cstB (c : CellD) : Bool := cellB c && (!decide (c.kind = 1) || allB (cstQ c) (c.pins.length - 1))
theorem cst_no {c : CellD} (h : cellB c = false) : cstB c = false := by simp [cstB, h]
theorem cst_kind {c : CellD} (h : cellB c = true) (hk : ¬ c.kind = 1) : cstB c = true := by simp [cstB, h, hk]
theorem cst_gate {c : CellD} (h : cellB c = true) (hk : c.kind = 1) : cstB c = allB (cstQ c) (c.pins.length - 1) := by simp [cstB, h, hk]
set_option maxRecDepth 100000 in
set_option maxHeartbeats 4000000 in
theorem implConsis_any (f : Nat → Value) (c : CellD) (w : World) (h : CellF w w.heap.size f c) : Calls Try.prog 16 #[.agg #[f 0, f 1, f 2, f 3, f 4, f 5, f 6]] w fun e w' => e = .returned (.bool (cstB c)) ∧ Below w.heap.size w w' := by
  obtain ⟨e0, e1, x2, x3, x4, e5, e6, hsz⟩ := h
  obtain ⟨p2, q2, e2⟩ := x2.slice; obtain ⟨p3, q3, e3⟩ := x3.slice; obtain ⟨p4, q4, e4⟩ := x4.slice
  rw [e2] at x2; rw [e3] at x3; rw [e4] at x4
  rw [e0, e1, e2, e3, e4, e5, e6]
  have HV := Lib.hid (show CellF w w.heap.size (vec [.string c.name, .int .i64 c.kind, .slice p2 c.pins.length q2, .slice p3 c.arcs.length q3, .slice p4 c.truth.length q4, .int .i64 c.leak, .int .i64 c.energy]) c from ⟨rfl, rfl, x2, x3, x4, rfl, rfl, hsz⟩)
  have X2 := Lib.hid x2; have X3 := Lib.hid x3; have X4 := Lib.hid x4
  have HI := Lib.hid (fun (w1 : World) (hb : Below w.heap.size w w1) => (show Calls Try.prog 24 #[.agg #[.string c.name, .int .i64 c.kind, .slice p2 c.pins.length q2, .slice p3 c.arcs.length q3, .slice p4 c.truth.length q4, .int .i64 c.leak, .int .i64 c.energy]] w1 _ from implIsCell_any (vec [.string c.name, .int .i64 c.kind, .slice p2 c.pins.length q2, .slice p3 c.arcs.length q3, .slice p4 c.truth.length q4, .int .i64 c.leak, .int .i64 c.energy]) c w1 (HV.out.up hb)))
  clear x2 x3 x4 e0 e1 e2 e3 e4 e5 e6 hsz
  cases hcb : cellB c
  · rw [cst_no hcb]
    rw [hcb] at HI
    go_enter Try.func16, Try.ntmps16
    go_wp2_with (go_at_call 24; refine (HI.out _ (by (repeat (first | (with_reducible exact Below.refl _ _) | (with_reducible assumption) | (with_reducible refine ext_alloc ?_ _) | (with_reducible refine ext_drew ?_) | (with_reducible refine ext_drewN ?_ _) | (with_reducible refine ext_set ?_ (by first | exact Nat.le_refl _ | (simp; done) | (simp; omega) | omega) _) | (with_reducible refine ext_trans ?_ (by assumption)))))).mono ?_; rintro e w1 ⟨rfl, hb⟩; obtain ⟨hc, hf⟩ := bcell hb; have hz := hb.size; (try simp at hz); (try (have hz := Nat.lt_of_succ_le hz)); (try (have y0 : w.heap.size ≤ w1.heap.size := by omega)); (try (have z0 : w.heap.size < w1.heap.size := by omega)); (try (have z1 : w.heap.size + 1 < w1.heap.size := by omega)); (try (have z2 : w.heap.size + 1 + 1 < w1.heap.size := by omega)); (try (have z3 : w.heap.size + 1 + 1 + 1 < w1.heap.size := by omega)); (try (have z4 : w.heap.size + 1 + 1 + 1 + 1 < w1.heap.size := by omega)); (try (have x0 : wc.heap.size < w1.heap.size := by omega)); (try (have x1 : wc.heap.size ≤ w1.heap.size := by omega)))
    go_ret
    exact ⟨rfl, by (repeat (first | (with_reducible exact Below.refl _ _) | (with_reducible assumption) | (with_reducible refine ext_alloc ?_ _) | (with_reducible refine ext_drew ?_) | (with_reducible refine ext_drewN ?_ _) | (with_reducible refine ext_set ?_ (by first | exact Nat.le_refl _ | (simp; done) | (simp; omega) | omega) _) | (with_reducible refine ext_trans ?_ (by assumption))))⟩
  · rw [hcb] at HI
    by_cases hk : c.kind = 1
    · rw [cst_gate hcb hk]
      obtain ⟨m, m1, m4, hl, ht, _, _⟩ := gate_get hcb hk
      have hl2 : 2 ≤ c.pins.length := by omega
      have hl5 : c.pins.length ≤ 5 := by omega
      have HC := Lib.hid (fun (p : Nat) (hp : p + 1 < c.pins.length) (w1 : World) (hb : Below w.heap.size w w1) => senseT_any _ c.truth m p w1 (X4.out.up hb) m4 ht (by omega))
      have HA := Lib.hid (fun (p : Nat) (w1 : World) (hb : Below w.heap.size w w1) => (show Calls Try.prog 31 #[.slice p3 c.arcs.length q3, .int .i64 (p : Int), .int .i64 (sns c.truth p)] w1 (fun e w' => e = .returned (.bool (cstQ c p)) ∧ Below w1.heap.size w1 w') from adm_any _ c.arcs (p : Int) (sns c.truth p) w1 (X3.out.up hb)))
      clear hcb hl ht m1 m4 m
      rw [hk] at HI ⊢
      clear hk
      go_enter Try.func16, Try.ntmps16
      go_wp2_with fail
      (go_at_call 24; refine (HI.out _ (by (repeat (first | (with_reducible exact Below.refl _ _) | (with_reducible assumption) | (with_reducible refine ext_alloc ?_ _) | (with_reducible refine ext_drew ?_) | (with_reducible refine ext_drewN ?_ _) | (with_reducible refine ext_set ?_ (by first | exact Nat.le_refl _ | (simp; done) | (simp; omega) | omega) _) | (with_reducible refine ext_trans ?_ (by assumption)))))).mono ?_; rintro e w1 ⟨rfl, hb⟩; obtain ⟨hc, hf⟩ := bcell hb; have hz := hb.size; (try simp at hz); (try (have hz := Nat.lt_of_succ_le hz)); (try (have y0 : w.heap.size ≤ w1.heap.size := by omega)); (try (have z0 : w.heap.size < w1.heap.size := by omega)); (try (have z1 : w.heap.size + 1 < w1.heap.size := by omega)); (try (have z2 : w.heap.size + 1 + 1 < w1.heap.size := by omega)); (try (have z3 : w.heap.size + 1 + 1 + 1 < w1.heap.size := by omega)); (try (have z4 : w.heap.size + 1 + 1 + 1 + 1 < w1.heap.size := by omega)))
      have z3 : w1.cell? ⟨w.heap.size, 3, none⟩ = some (.slice p3 c.arcs.length q3) := cell_keep (w0 := w.alloc (Obj.cells #[.string c.name, .int .i64 1, .slice p2 c.pins.length q2, .slice p3 c.arcs.length q3, .slice p4 c.truth.length q4, .int .i64 c.leak, .int .i64 c.energy] 33)) (by simp [go_sem]) (by (repeat (first | (with_reducible exact Below.refl _ _) | (with_reducible assumption) | (with_reducible refine ext_alloc ?_ _) | (with_reducible refine ext_drew ?_) | (with_reducible refine ext_drewN ?_ _) | (with_reducible refine ext_set ?_ (by first | exact Nat.le_refl _ | (simp; done) | (simp; omega) | omega) _) | (with_reducible refine ext_trans ?_ (by assumption)))))
      have z4 : w1.cell? ⟨w.heap.size, 4, none⟩ = some (.slice p4 c.truth.length q4) := cell_keep (w0 := w.alloc (Obj.cells #[.string c.name, .int .i64 1, .slice p2 c.pins.length q2, .slice p3 c.arcs.length q3, .slice p4 c.truth.length q4, .int .i64 c.leak, .int .i64 c.energy] 33)) (by simp [go_sem]) (by (repeat (first | (with_reducible exact Below.refl _ _) | (with_reducible assumption) | (with_reducible refine ext_alloc ?_ _) | (with_reducible refine ext_drew ?_) | (with_reducible refine ext_drewN ?_ _) | (with_reducible refine ext_set ?_ (by first | exact Nat.le_refl _ | (simp; done) | (simp; omega) | omega) _) | (with_reducible refine ext_trans ?_ (by assumption)))))
      have zb : Below w.heap.size w w1 := by (repeat (first | (with_reducible exact Below.refl _ _) | (with_reducible assumption) | (with_reducible refine ext_alloc ?_ _) | (with_reducible refine ext_drew ?_) | (with_reducible refine ext_drewN ?_ _) | (with_reducible refine ext_set ?_ (by first | exact Nat.le_refl _ | (simp; done) | (simp; omega) | omega) _) | (with_reducible refine ext_trans ?_ (by assumption))))
      have zl : w.heap.size < w1.heap.size := cell_lt z3
      go_wp2
      go_loopw [14] (fun i wr => ∃ k : Nat, k + 1 ≤ c.pins.length ∧ i = .int .i64 k ∧ Hid (∀ j, j < k → cstQ c j = true) ∧ wr.cell? ⟨w.heap.size, 3, none⟩ = some (.slice p3 c.arcs.length q3) ∧ wr.cell? ⟨w.heap.size, 4, none⟩ = some (.slice p4 c.truth.length q4) ∧ Below w.heap.size w wr ∧ w.heap.size < wr.heap.size) (fun i _ => c.pins.length - (intOf i).toNat)
      case atStart => exact ⟨0, by omega, rfl, Lib.hid (fun j hj => absurd hj (Nat.not_lt_zero j)), by first | exact z3 | (simp [go_sem, *]; done), by first | exact z4 | (simp [go_sem, *]; done), by first | exact zb | (repeat (first | (with_reducible exact Below.refl _ _) | (with_reducible assumption) | (with_reducible refine ext_alloc ?_ _) | (with_reducible refine ext_drew ?_) | (with_reducible refine ext_drewN ?_ _) | (with_reducible refine ext_set ?_ (by first | exact Nat.le_refl _ | (simp; done) | (simp; omega) | omega) _) | (with_reducible refine ext_trans ?_ (by assumption)))), by first | exact zl | (simp; omega)⟩
      case round =>
        clear z3 z4 zb zl hc hf hz hb
        obtain ⟨k, hk, rfl, hall, r3, r4, hbw, hlt⟩ := hrel
        by_cases hkn : k + 1 < c.pins.length
        · have hI : (k : Int) < (c.pins.length : Int) - 1 := by omega
          have HC1 := Lib.hid (HC.out k hkn)
          have HA1 := Lib.hid (HA.out k)
          obtain ⟨S, hS⟩ : ∃ S, S = sns c.truth k := ⟨_, rfl⟩
          rw [← hS] at HC1 HA1
          clear HC HA hS HI
          cases hd : cstQ c k
          · have hQ := Lib.hid (allB_no (n := c.pins.length - 1) (by omega) hd)
            rw [hd] at HA1
            clear hd
            go_wp2
            go_region_held3 (fun w' => w'.cell? ⟨w.heap.size, 3, none⟩ = some (.slice p3 c.arcs.length q3) ∧ w'.cell? ⟨w.heap.size, 4, none⟩ = some (.slice p4 c.truth.length q4) ∧ Below w.heap.size w w' ∧ w.heap.size < w'.heap.size) (first | exact (Hid.out (by assumption)) | exact keep2 (Hid.out (by assumption)) ((Below.refl _ _).alloc (Nat.le_refl _) _) | exact keep2s (keep2s (Hid.out (by assumption)) (by first | assumption | (simp; done) | (simp; omega) | omega) (by first | assumption | (simp; done) | (simp; omega) | omega) (by first | assumption | (simp; done) | (simp; omega) | omega) (by first | assumption | (simp; done) | (simp; omega) | omega)) (by first | assumption | (simp; done) | (simp; omega) | omega) (by first | assumption | (simp; done) | (simp; omega) | omega) (by first | assumption | (simp; done) | (simp; omega) | omega) (by first | assumption | (simp; done) | (simp; omega) | omega) | exact keep2s (Hid.out (by assumption)) (by first | assumption | (simp; done) | (simp; omega) | omega) (by first | assumption | (simp; done) | (simp; omega) | omega) (by first | assumption | (simp; done) | (simp; omega) | omega) (by first | assumption | (simp; done) | (simp; omega) | omega) | ((repeat' apply And.intro) <;> first | assumption | ((repeat (first | (with_reducible exact Below.refl _ _) | (with_reducible assumption) | (with_reducible refine ext_alloc ?_ _) | (with_reducible refine ext_drew ?_) | (with_reducible refine ext_drewN ?_ _) | (with_reducible refine ext_set ?_ (by first | exact Nat.le_refl _ | (simp; done) | (simp; omega) | omega) _) | (with_reducible refine ext_trans ?_ (by assumption)))); done) | (simp [go_sem]; done) | (simp [go_sem, *]; done) | (simp; omega) | omega)) (first | ((go_at_call 30; refine (HC1.out _ (by (repeat (first | (with_reducible exact Below.refl _ _) | (with_reducible assumption) | (with_reducible refine ext_alloc ?_ _) | (with_reducible refine ext_drew ?_) | (with_reducible refine ext_drewN ?_ _) | (with_reducible refine ext_set ?_ (by first | exact Nat.le_refl _ | (simp; done) | (simp; omega) | omega) _) | (with_reducible refine ext_trans ?_ (by assumption)))))).mono ?_; rintro e w2 ⟨rfl, hb⟩; obtain ⟨hc, hf⟩ := bcell hb; have hz := hb.size; (try simp at hz); (try (have hz := Nat.lt_of_succ_le hz)); (try (have y0 : w.heap.size ≤ w2.heap.size := by omega)); (try (have z0 : w.heap.size < w2.heap.size := by omega)); (try (have z1 : w.heap.size + 1 < w2.heap.size := by omega)); (try (have z2 : w.heap.size + 1 + 1 < w2.heap.size := by omega)); (try (have z3 : w.heap.size + 1 + 1 + 1 < w2.heap.size := by omega)); (try (have z4 : w.heap.size + 1 + 1 + 1 + 1 < w2.heap.size := by omega))); have hS := Lib.hid (keep2 (by assumption) hb); have zL := (Hid.out hS).2.2.2) | ((go_at_call 31; refine (HA1.out _ (by (repeat (first | (with_reducible exact Below.refl _ _) | (with_reducible assumption) | (with_reducible refine ext_alloc ?_ _) | (with_reducible refine ext_drew ?_) | (with_reducible refine ext_drewN ?_ _) | (with_reducible refine ext_set ?_ (by first | exact Nat.le_refl _ | (simp; done) | (simp; omega) | omega) _) | (with_reducible refine ext_trans ?_ (by assumption)))))).mono ?_; rintro e w3 ⟨rfl, hb⟩; obtain ⟨hc, hf⟩ := bcell hb; have hz := hb.size; (try simp at hz); (try (have hz := Nat.lt_of_succ_le hz)); (try (have y0 : w.heap.size ≤ w3.heap.size := by omega)); (try (have z0 : w.heap.size < w3.heap.size := by omega)); (try (have z1 : w.heap.size + 1 < w3.heap.size := by omega)); (try (have z2 : w.heap.size + 1 + 1 < w3.heap.size := by omega)); (try (have z3 : w.heap.size + 1 + 1 + 1 < w3.heap.size := by omega)); (try (have z4 : w.heap.size + 1 + 1 + 1 + 1 < w3.heap.size := by omega))); have hS := Lib.hid (keep2 (by assumption) hb); have zL := (Hid.out hS).2.2.2))
            all_goals
              go_wp2_with fail
              rw [hQ.out]
              go_ret
              exact ⟨rfl, by (repeat (first | (with_reducible exact Below.refl _ _) | (with_reducible assumption) | (with_reducible refine ext_alloc ?_ _) | (with_reducible refine ext_drew ?_) | (with_reducible refine ext_drewN ?_ _) | (with_reducible refine ext_set ?_ (by first | exact Nat.le_refl _ | (simp; done) | (simp; omega) | omega) _) | (with_reducible refine ext_trans ?_ (by assumption))))⟩
          · have hok := Lib.hid (all_more hall.out hd)
            rw [hd] at HA1
            clear hd
            go_wp2
            go_region_held3 (fun w' => w'.cell? ⟨w.heap.size, 3, none⟩ = some (.slice p3 c.arcs.length q3) ∧ w'.cell? ⟨w.heap.size, 4, none⟩ = some (.slice p4 c.truth.length q4) ∧ Below w.heap.size w w' ∧ w.heap.size < w'.heap.size) (first | exact (Hid.out (by assumption)) | exact keep2 (Hid.out (by assumption)) ((Below.refl _ _).alloc (Nat.le_refl _) _) | exact keep2s (keep2s (Hid.out (by assumption)) (by first | assumption | (simp; done) | (simp; omega) | omega) (by first | assumption | (simp; done) | (simp; omega) | omega) (by first | assumption | (simp; done) | (simp; omega) | omega) (by first | assumption | (simp; done) | (simp; omega) | omega)) (by first | assumption | (simp; done) | (simp; omega) | omega) (by first | assumption | (simp; done) | (simp; omega) | omega) (by first | assumption | (simp; done) | (simp; omega) | omega) (by first | assumption | (simp; done) | (simp; omega) | omega) | exact keep2s (Hid.out (by assumption)) (by first | assumption | (simp; done) | (simp; omega) | omega) (by first | assumption | (simp; done) | (simp; omega) | omega) (by first | assumption | (simp; done) | (simp; omega) | omega) (by first | assumption | (simp; done) | (simp; omega) | omega) | ((repeat' apply And.intro) <;> first | assumption | ((repeat (first | (with_reducible exact Below.refl _ _) | (with_reducible assumption) | (with_reducible refine ext_alloc ?_ _) | (with_reducible refine ext_drew ?_) | (with_reducible refine ext_drewN ?_ _) | (with_reducible refine ext_set ?_ (by first | exact Nat.le_refl _ | (simp; done) | (simp; omega) | omega) _) | (with_reducible refine ext_trans ?_ (by assumption)))); done) | (simp [go_sem]; done) | (simp [go_sem, *]; done) | (simp; omega) | omega)) (first | ((go_at_call 30; refine (HC1.out _ (by (repeat (first | (with_reducible exact Below.refl _ _) | (with_reducible assumption) | (with_reducible refine ext_alloc ?_ _) | (with_reducible refine ext_drew ?_) | (with_reducible refine ext_drewN ?_ _) | (with_reducible refine ext_set ?_ (by first | exact Nat.le_refl _ | (simp; done) | (simp; omega) | omega) _) | (with_reducible refine ext_trans ?_ (by assumption)))))).mono ?_; rintro e w2 ⟨rfl, hb⟩; obtain ⟨hc, hf⟩ := bcell hb; have hz := hb.size; (try simp at hz); (try (have hz := Nat.lt_of_succ_le hz)); (try (have y0 : w.heap.size ≤ w2.heap.size := by omega)); (try (have z0 : w.heap.size < w2.heap.size := by omega)); (try (have z1 : w.heap.size + 1 < w2.heap.size := by omega)); (try (have z2 : w.heap.size + 1 + 1 < w2.heap.size := by omega)); (try (have z3 : w.heap.size + 1 + 1 + 1 < w2.heap.size := by omega)); (try (have z4 : w.heap.size + 1 + 1 + 1 + 1 < w2.heap.size := by omega))); have hS := Lib.hid (keep2 (by assumption) hb); have zL := (Hid.out hS).2.2.2) | ((go_at_call 31; refine (HA1.out _ (by (repeat (first | (with_reducible exact Below.refl _ _) | (with_reducible assumption) | (with_reducible refine ext_alloc ?_ _) | (with_reducible refine ext_drew ?_) | (with_reducible refine ext_drewN ?_ _) | (with_reducible refine ext_set ?_ (by first | exact Nat.le_refl _ | (simp; done) | (simp; omega) | omega) _) | (with_reducible refine ext_trans ?_ (by assumption)))))).mono ?_; rintro e w3 ⟨rfl, hb⟩; obtain ⟨hc, hf⟩ := bcell hb; have hz := hb.size; (try simp at hz); (try (have hz := Nat.lt_of_succ_le hz)); (try (have y0 : w.heap.size ≤ w3.heap.size := by omega)); (try (have z0 : w.heap.size < w3.heap.size := by omega)); (try (have z1 : w.heap.size + 1 < w3.heap.size := by omega)); (try (have z2 : w.heap.size + 1 + 1 < w3.heap.size := by omega)); (try (have z3 : w.heap.size + 1 + 1 + 1 < w3.heap.size := by omega)); (try (have z4 : w.heap.size + 1 + 1 + 1 + 1 < w3.heap.size := by omega))); have hS := Lib.hid (keep2 (by assumption) hb); have zL := (Hid.out hS).2.2.2))
            all_goals (go_wp2_with fail)
            all_goals go_roundw
            case rel => exact ⟨k + 1, by omega, by go_num, hok, by first | assumption | exact hS.out.1, by first | assumption | exact hS.out.2.1, by (repeat (first | (with_reducible exact Below.refl _ _) | (with_reducible assumption) | (with_reducible refine ext_alloc ?_ _) | (with_reducible refine ext_drew ?_) | (with_reducible refine ext_drewN ?_ _) | (with_reducible refine ext_set ?_ (by first | exact Nat.le_refl _ | (simp; done) | (simp; omega) | omega) _) | (with_reducible refine ext_trans ?_ (by assumption)))), by assumption⟩
            case measure => simp [intOf]; omega
        · have hI : ¬ (k : Int) < (c.pins.length : Int) - 1 := by omega
          have hQ := Lib.hid (allB_yes (p := cstQ c) (n := c.pins.length - 1) (fun j hj => hall.out j (by omega)))
          go_wp2
          rw [hQ.out]
          go_ret
          exact ⟨rfl, by (repeat (first | (with_reducible exact Below.refl _ _) | (with_reducible assumption) | (with_reducible refine ext_alloc ?_ _) | (with_reducible refine ext_drew ?_) | (with_reducible refine ext_drewN ?_ _) | (with_reducible refine ext_set ?_ (by first | exact Nat.le_refl _ | (simp; done) | (simp; omega) | omega) _) | (with_reducible refine ext_trans ?_ (by assumption))))⟩
    · rw [cst_kind hcb hk]
      have hkb : (c.kind != 1) = true := by simpa using hk
      clear hcb
      go_enter Try.func16, Try.ntmps16
      go_wp2_with (go_at_call 24; refine (HI.out _ (by (repeat (first | (with_reducible exact Below.refl _ _) | (with_reducible assumption) | (with_reducible refine ext_alloc ?_ _) | (with_reducible refine ext_drew ?_) | (with_reducible refine ext_drewN ?_ _) | (with_reducible refine ext_set ?_ (by first | exact Nat.le_refl _ | (simp; done) | (simp; omega) | omega) _) | (with_reducible refine ext_trans ?_ (by assumption)))))).mono ?_; rintro e w1 ⟨rfl, hb⟩; obtain ⟨hc, hf⟩ := bcell hb; have hz := hb.size; (try simp at hz); (try (have hz := Nat.lt_of_succ_le hz)); (try (have y0 : w.heap.size ≤ w1.heap.size := by omega)); (try (have z0 : w.heap.size < w1.heap.size := by omega)); (try (have z1 : w.heap.size + 1 < w1.heap.size := by omega)); (try (have z2 : w.heap.size + 1 + 1 < w1.heap.size := by omega)); (try (have z3 : w.heap.size + 1 + 1 + 1 < w1.heap.size := by omega)); (try (have z4 : w.heap.size + 1 + 1 + 1 + 1 < w1.heap.size := by omega)); (try (have x0 : wc.heap.size < w1.heap.size := by omega)); (try (have x1 : wc.heap.size ≤ w1.heap.size := by omega)))
      go_ret
      exact ⟨rfl, by (repeat (first | (with_reducible exact Below.refl _ _) | (with_reducible assumption) | (with_reducible refine ext_alloc ?_ _) | (with_reducible refine ext_drew ?_) | (with_reducible refine ext_drewN ?_ _) | (with_reducible refine ext_set ?_ (by first | exact Nat.le_refl _ | (simp; done) | (simp; omega) | omega) _) | (with_reducible refine ext_trans ?_ (by assumption))))⟩
set_option maxRecDepth 100000 in
set_option maxHeartbeats 8000000 in
theorem specConsis_any (f : Nat → Value) (c : CellD) (w : World) (h : CellF w w.heap.size f c) : Calls Try.prog 15 #[.agg #[f 0, f 1, f 2, f 3, f 4, f 5, f 6]] w fun e w' => e = .returned (.bool (cstB c)) ∧ Below w.heap.size w w' := by
  obtain ⟨e0, e1, x2, x3, x4, e5, e6, hsz⟩ := h
  obtain ⟨p2, q2, e2⟩ := x2.slice; obtain ⟨p3, q3, e3⟩ := x3.slice; obtain ⟨p4, q4, e4⟩ := x4.slice
  rw [e2] at x2; rw [e3] at x3; rw [e4] at x4
  rw [e0, e1, e2, e3, e4, e5, e6]
  have HV := Lib.hid (show CellF w w.heap.size (vec [.string c.name, .int .i64 c.kind, .slice p2 c.pins.length q2, .slice p3 c.arcs.length q3, .slice p4 c.truth.length q4, .int .i64 c.leak, .int .i64 c.energy]) c from ⟨rfl, rfl, x2, x3, x4, rfl, rfl, hsz⟩)
  have X2 := Lib.hid x2; have X3 := Lib.hid x3; have X4 := Lib.hid x4
  have HI := Lib.hid (fun (w1 : World) (hb : Below w.heap.size w w1) => (show Calls Try.prog 20 #[.agg #[.string c.name, .int .i64 c.kind, .slice p2 c.pins.length q2, .slice p3 c.arcs.length q3, .slice p4 c.truth.length q4, .int .i64 c.leak, .int .i64 c.energy]] w1 _ from specIsCell_any (vec [.string c.name, .int .i64 c.kind, .slice p2 c.pins.length q2, .slice p3 c.arcs.length q3, .slice p4 c.truth.length q4, .int .i64 c.leak, .int .i64 c.energy]) c w1 (HV.out.up hb)))
  clear x2 x3 x4 e0 e1 e2 e3 e4 e5 e6 hsz
  cases hcb : cellB c
  · rw [cst_no hcb]
    rw [hcb] at HI
    go_enter Try.func15, Try.ntmps15
    go_wp2_with (go_at_call 20; refine (HI.out _ (by (repeat (first | (with_reducible exact Below.refl _ _) | (with_reducible assumption) | (with_reducible refine ext_alloc ?_ _) | (with_reducible refine ext_drew ?_) | (with_reducible refine ext_drewN ?_ _) | (with_reducible refine ext_set ?_ (by first | exact Nat.le_refl _ | (simp; done) | (simp; omega) | omega) _) | (with_reducible refine ext_trans ?_ (by assumption)))))).mono ?_; rintro e w1 ⟨rfl, hb⟩; obtain ⟨hc, hf⟩ := bcell hb; have hz := hb.size; (try simp at hz); (try (have hz := Nat.lt_of_succ_le hz)); (try (have y0 : w.heap.size ≤ w1.heap.size := by omega)); (try (have z0 : w.heap.size < w1.heap.size := by omega)); (try (have z1 : w.heap.size + 1 < w1.heap.size := by omega)); (try (have z2 : w.heap.size + 1 + 1 < w1.heap.size := by omega)); (try (have z3 : w.heap.size + 1 + 1 + 1 < w1.heap.size := by omega)); (try (have z4 : w.heap.size + 1 + 1 + 1 + 1 < w1.heap.size := by omega)); (try (have x0 : wc.heap.size < w1.heap.size := by omega)); (try (have x1 : wc.heap.size ≤ w1.heap.size := by omega)))
    go_ret
    exact ⟨rfl, by (repeat (first | (with_reducible exact Below.refl _ _) | (with_reducible assumption) | (with_reducible refine ext_alloc ?_ _) | (with_reducible refine ext_drew ?_) | (with_reducible refine ext_drewN ?_ _) | (with_reducible refine ext_set ?_ (by first | exact Nat.le_refl _ | (simp; done) | (simp; omega) | omega) _) | (with_reducible refine ext_trans ?_ (by assumption))))⟩
  · rw [hcb] at HI
    by_cases hk : c.kind = 1
    · rw [cst_gate hcb hk]
      obtain ⟨m, m1, m4, hl, ht, _, _⟩ := gate_get hcb hk
      have hl2 : 2 ≤ c.pins.length := by omega
      have hl5 : c.pins.length ≤ 5 := by omega
      have HC := Lib.hid (fun (p : Nat) (hp : p + 1 < c.pins.length) (w1 : World) (hb : Below w.heap.size w w1) => (show Calls Try.prog 28 #[.agg #[.string c.name, .int .i64 c.kind, .slice p2 c.pins.length q2, .slice p3 c.arcs.length q3, .slice p4 c.truth.length q4, .int .i64 c.leak, .int .i64 c.energy], .int .i64 (p : Int)] w1 (fun e w' => e = .returned (.int .i64 (sns c.truth p)) ∧ Below w1.heap.size w1 w') from specSense_any (vec [.string c.name, .int .i64 c.kind, .slice p2 c.pins.length q2, .slice p3 c.arcs.length q3, .slice p4 c.truth.length q4, .int .i64 c.leak, .int .i64 c.energy]) c m p w1 (HV.out.up hb) m4 ht (by omega)))
      obtain ⟨aa, haa⟩ : ∃ aa, aa = c.arcs := ⟨_, rfl⟩
      obtain ⟨F, hc, hf⟩ := X3.out
      rw [← haa] at hc hf
      have HCa := Lib.hid hc
      have HF := Lib.hid hf
      have han : aa.length ≤ 9223372036854775807 := hc.1
      have HQ := Lib.hid (fun (p : Nat) => (show cstQ c p = ((sns c.truth p == 0) || anyB (admQ aa (p : Int) (sns c.truth p)) aa.length) by rw [haa]; rfl))
      rw [← haa] at HI HC ⊢
      clear hc hf hcb hl ht m1 m4 m haa HV X2 X3 X4
      rw [hk] at HI HC ⊢
      clear hk
      go_enter Try.func15, Try.ntmps15
      go_wp2_with fail
      (go_at_call 20; refine (HI.out _ (by (repeat (first | (with_reducible exact Below.refl _ _) | (with_reducible assumption) | (with_reducible refine ext_alloc ?_ _) | (with_reducible refine ext_drew ?_) | (with_reducible refine ext_drewN ?_ _) | (with_reducible refine ext_set ?_ (by first | exact Nat.le_refl _ | (simp; done) | (simp; omega) | omega) _) | (with_reducible refine ext_trans ?_ (by assumption)))))).mono ?_; rintro e w1 ⟨rfl, hb⟩; obtain ⟨hc, hf⟩ := bcell hb; have hz := hb.size; (try simp at hz); (try (have hz := Nat.lt_of_succ_le hz)); (try (have y0 : w.heap.size ≤ w1.heap.size := by omega)); (try (have z0 : w.heap.size < w1.heap.size := by omega)); (try (have z1 : w.heap.size + 1 < w1.heap.size := by omega)); (try (have z2 : w.heap.size + 1 + 1 < w1.heap.size := by omega)); (try (have z3 : w.heap.size + 1 + 1 + 1 < w1.heap.size := by omega)); (try (have z4 : w.heap.size + 1 + 1 + 1 + 1 < w1.heap.size := by omega)))
      have K00 : Bx w (w.alloc (Obj.cells #[.string c.name, .int .i64 1, .slice p2 c.pins.length q2, .slice p3 aa.length q3, .slice p4 c.truth.length q4, .int .i64 c.leak, .int .i64 c.energy] 33)) (.string c.name) (.int .i64 1) (.slice p2 c.pins.length q2) (.slice p3 aa.length q3) (.slice p4 c.truth.length q4) (.int .i64 c.leak) (.int .i64 c.energy) := ⟨by simp [go_sem], by simp [go_sem], by simp [go_sem], by simp [go_sem], by simp [go_sem], by simp [go_sem], by simp [go_sem], by (repeat (first | (with_reducible exact Below.refl _ _) | (with_reducible assumption) | (with_reducible refine ext_alloc ?_ _) | (with_reducible refine ext_drew ?_) | (with_reducible refine ext_drewN ?_ _) | (with_reducible refine ext_set ?_ (by first | exact Nat.le_refl _ | (simp; done) | (simp; omega) | omega) _) | (with_reducible refine ext_trans ?_ (by assumption)))), by simp⟩
      have K0 := Lib.hid (K00.call hb)
      clear K00
      clear hb hc hf hz HI
      go_wp2
      go_loopw [3] (fun i wr => ∃ k : Nat, k + 1 ≤ c.pins.length ∧ i = .int .i64 k ∧ Hid (∀ j, j < k → cstQ c j = true) ∧ Hid (Bx w wr (.string c.name) (.int .i64 1) (.slice p2 c.pins.length q2) (.slice p3 aa.length q3) (.slice p4 c.truth.length q4) (.int .i64 c.leak) (.int .i64 c.energy))) (fun i _ => c.pins.length - (intOf i).toNat)
      case atStart => exact ⟨0, by omega, rfl, Lib.hid (fun j hj => absurd hj (Nat.not_lt_zero j)), K0⟩
      case round =>
        clear K0
        obtain ⟨k, hk, rfl, hall, K⟩ := hrel
        obtain ⟨r0, r1, r2, r3, r4, r5, r6, hbw, hlt⟩ := K.out
        by_cases hkn : k + 1 < c.pins.length
        · have hI : (k : Int) < (c.pins.length : Int) - 1 := by omega
          have HC1 := Lib.hid (HC.out k hkn)
          have hQk := HQ.out k
          obtain ⟨S, hS⟩ : ∃ S, S = sns c.truth k := ⟨_, rfl⟩
          rw [← hS] at HC1 hQk
          have HQk := Lib.hid hQk
          clear hQk hS HC HQ
          go_wp2_with fail
          (go_at_call 28; refine (HC1.out _ (by (repeat (first | (with_reducible exact Below.refl _ _) | (with_reducible assumption) | (with_reducible refine ext_alloc ?_ _) | (with_reducible refine ext_drew ?_) | (with_reducible refine ext_drewN ?_ _) | (with_reducible refine ext_set ?_ (by first | exact Nat.le_refl _ | (simp; done) | (simp; omega) | omega) _) | (with_reducible refine ext_trans ?_ (by assumption)))))).mono ?_; rintro e w2 ⟨rfl, hb⟩; obtain ⟨hc, hf⟩ := bcell hb; have hz := hb.size; (try simp at hz); (try (have hz := Nat.lt_of_succ_le hz)); (try (have y0 : w.heap.size ≤ w2.heap.size := by omega)); (try (have z0 : w.heap.size < w2.heap.size := by omega)); (try (have z1 : w.heap.size + 1 < w2.heap.size := by omega)); (try (have z2 : w.heap.size + 1 + 1 < w2.heap.size := by omega)); (try (have z3 : w.heap.size + 1 + 1 + 1 < w2.heap.size := by omega)); (try (have z4 : w.heap.size + 1 + 1 + 1 + 1 < w2.heap.size := by omega)))
          have K2 := Lib.hid (K.out.call hb)
          clear K HC1 r0 r1 r2 r3 r4 r5 r6 hbw hlt hb hc hf hz
          go_wp2
          go_loopw [5, 6] (fun u i wr => ∃ q : Nat, q ≤ aa.length ∧ i = .int .i64 q ∧ u = .bool ((S == 0) || anyB (admQ aa (k : Int) S) q) ∧ Hid (Bx w wr (.string c.name) (.int .i64 1) (.slice p2 c.pins.length q2) (.slice p3 aa.length q3) (.slice p4 c.truth.length q4) (.int .i64 c.leak) (.int .i64 c.energy))) (fun _ i _ => aa.length - (intOf i).toNat)
          case atStart => exact ⟨0, by omega, rfl, by simp [anyB], K2⟩
          case round =>
            clear K2
            obtain ⟨q, hq, rfl, rfl, K⟩ := hrel
            obtain ⟨r0, r1, r2, r3, r4, r5, r6, hbw, hlt⟩ := K.out
            by_cases hqn : q < aa.length
            · have hqI : (q : Int) < (aa.length : Int) := by omega
              have i0 : (0 : Int) ≤ (q : Int) := by omega
              have hst : ∀ u, ((S == 0) || anyB (admQ aa (k : Int) S) q) = u → ((S == 0) || anyB (admQ aa (k : Int) S) (q + 1)) = (u || admQ aa (k : Int) S q) := by
                intro u hu
                rw [← hu, Bool.or_assoc]
                rfl
              cases hu : ((S == 0) || anyB (admQ aa (k : Int) S) q)
              · have HS := Lib.hid ((hst _ hu).trans (Bool.false_or _))
                clear hst hu
                obtain ⟨b, off, rfl, hlb, hx⟩ := CellS.atS HCa.out hbw hqn
                have y1 := hx 1 (by omega)
                have y3 := hx 3 (by omega)
                rw [(HF.out q hqn).2.1] at y1
                rw [(HF.out q hqn).2.2.2.1] at y3
                clear hx
                cases c0 : ((an aa q).src == (k : Int)) <;> cases c1 : ((an aa q).sense == S) <;> cases c2 : ((an aa q).sense == 3)
                all_goals
                  have hR := Lib.hid (show admQ aa (k : Int) S q = _ by unfold admQ admA; rw [c0, c1, c2])
                  go_wp2
                  go_roundw
                  case rel => exact ⟨q + 1, by omega, by go_num, by rw [HS.out, hR.out]; rfl, K⟩
                  case measure => simp [intOf]; omega
              · have HS := Lib.hid ((hst _ hu).trans (Bool.true_or _))
                clear hst hu
                go_wp2
                go_roundw
                case rel => exact ⟨q + 1, by omega, by go_num, by rw [HS.out], K⟩
                case measure => simp [intOf]; omega
            · obtain rfl : q = aa.length := by omega
              have hqI : ¬ (aa.length : Int) < (aa.length : Int) := by omega
              cases hu : ((S == 0) || anyB (admQ aa (k : Int) S) aa.length)
              · have hQ := Lib.hid (allB_no (p := cstQ c) (n := c.pins.length - 1) (k := k) (by omega) (HQk.out.trans hu))
                clear hu
                go_wp2
                rw [hQ.out]
                go_ret
                exact ⟨rfl, by (repeat (first | (with_reducible exact Below.refl _ _) | (with_reducible assumption) | (with_reducible refine ext_alloc ?_ _) | (with_reducible refine ext_drew ?_) | (with_reducible refine ext_drewN ?_ _) | (with_reducible refine ext_set ?_ (by first | exact Nat.le_refl _ | (simp; done) | (simp; omega) | omega) _) | (with_reducible refine ext_trans ?_ (by assumption))))⟩
              · have hok := Lib.hid (all_more hall.out (HQk.out.trans hu))
                clear hu
                go_wp2
                go_roundw
                case rel => exact ⟨k + 1, by omega, by go_num, hok, K⟩
                case measure => simp [intOf]; omega
        · have hI : ¬ (k : Int) < (c.pins.length : Int) - 1 := by omega
          have hQ := Lib.hid (allB_yes (p := cstQ c) (n := c.pins.length - 1) (fun j hj => hall.out j (by omega)))
          go_wp2
          rw [hQ.out]
          go_ret
          exact ⟨rfl, by (repeat (first | (with_reducible exact Below.refl _ _) | (with_reducible assumption) | (with_reducible refine ext_alloc ?_ _) | (with_reducible refine ext_drew ?_) | (with_reducible refine ext_drewN ?_ _) | (with_reducible refine ext_set ?_ (by first | exact Nat.le_refl _ | (simp; done) | (simp; omega) | omega) _) | (with_reducible refine ext_trans ?_ (by assumption))))⟩
    · rw [cst_kind hcb hk]
      have hkb : (c.kind == 1) = false := by simpa using hk
      have hl2 : 2 ≤ c.pins.length := (pins_get (cell_get hcb).1).1
      have hl5 : c.pins.length ≤ 5 := (pins_get (cell_get hcb).1).2.1
      have hI : (0 : Int) < (c.pins.length : Int) - 1 := by omega
      clear hcb
      go_enter Try.func15, Try.ntmps15
      go_wp2_with fail
      (go_at_call 20; refine (HI.out _ (by (repeat (first | (with_reducible exact Below.refl _ _) | (with_reducible assumption) | (with_reducible refine ext_alloc ?_ _) | (with_reducible refine ext_drew ?_) | (with_reducible refine ext_drewN ?_ _) | (with_reducible refine ext_set ?_ (by first | exact Nat.le_refl _ | (simp; done) | (simp; omega) | omega) _) | (with_reducible refine ext_trans ?_ (by assumption)))))).mono ?_; rintro e w1 ⟨rfl, hb⟩; obtain ⟨hc, hf⟩ := bcell hb; have hz := hb.size; (try simp at hz); (try (have hz := Nat.lt_of_succ_le hz)); (try (have y0 : w.heap.size ≤ w1.heap.size := by omega)); (try (have z0 : w.heap.size < w1.heap.size := by omega)); (try (have z1 : w.heap.size + 1 < w1.heap.size := by omega)); (try (have z2 : w.heap.size + 1 + 1 < w1.heap.size := by omega)); (try (have z3 : w.heap.size + 1 + 1 + 1 < w1.heap.size := by omega)); (try (have z4 : w.heap.size + 1 + 1 + 1 + 1 < w1.heap.size := by omega)))
      have K00 : Bx w (w.alloc (Obj.cells #[.string c.name, .int .i64 c.kind, .slice p2 c.pins.length q2, .slice p3 c.arcs.length q3, .slice p4 c.truth.length q4, .int .i64 c.leak, .int .i64 c.energy] 33)) (.string c.name) (.int .i64 c.kind) (.slice p2 c.pins.length q2) (.slice p3 c.arcs.length q3) (.slice p4 c.truth.length q4) (.int .i64 c.leak) (.int .i64 c.energy) := ⟨by simp [go_sem], by simp [go_sem], by simp [go_sem], by simp [go_sem], by simp [go_sem], by simp [go_sem], by simp [go_sem], by (repeat (first | (with_reducible exact Below.refl _ _) | (with_reducible assumption) | (with_reducible refine ext_alloc ?_ _) | (with_reducible refine ext_drew ?_) | (with_reducible refine ext_drewN ?_ _) | (with_reducible refine ext_set ?_ (by first | exact Nat.le_refl _ | (simp; done) | (simp; omega) | omega) _) | (with_reducible refine ext_trans ?_ (by assumption)))), by simp⟩
      have K0 := Lib.hid (K00.call hb)
      clear K00
      clear hb hc hf hz HI
      go_wp2
      go_loopw [3] (fun i wr => i = .int .i64 0 ∧ Hid (Bx w wr (.string c.name) (.int .i64 c.kind) (.slice p2 c.pins.length q2) (.slice p3 c.arcs.length q3) (.slice p4 c.truth.length q4) (.int .i64 c.leak) (.int .i64 c.energy))) (fun i _ => 0)
      case atStart => exact ⟨rfl, K0⟩
      case round =>
        clear K0
        obtain ⟨rfl, K⟩ := hrel
        obtain ⟨r0, r1, r2, r3, r4, r5, r6, hbw, hlt⟩ := K.out
        go_wp2
        go_ret
        exact ⟨rfl, by (repeat (first | (with_reducible exact Below.refl _ _) | (with_reducible assumption) | (with_reducible refine ext_alloc ?_ _) | (with_reducible refine ext_drew ?_) | (with_reducible refine ext_drewN ?_ _) | (with_reducible refine ext_set ?_ (by first | exact Nat.le_refl _ | (simp; done) | (simp; omega) | omega) _) | (with_reducible refine ext_trans ?_ (by assumption))))⟩
end Go.Proofs.Ytnmjfbloedmgeab
