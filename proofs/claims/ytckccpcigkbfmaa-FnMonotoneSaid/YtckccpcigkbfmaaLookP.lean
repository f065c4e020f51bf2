/-
The contract of both LookUp, for all arguments.
-/
import Derived.Test.YtckccpcigkbfmaaLookA
namespace Go.Proofs.Ytckccpcigkbfmaa
open Go.ChangeShapes Go.WideShapes Go.ChangeAt Go.RowKit
set_option linter.unusedVariables false
theorem at_nat (v0 v1 v2 : Value) (ss ls vs : List Int) (i k : Nat) (w : World) (h0 : IntS w w.heap.size v0 ss) (h1 : IntS w w.heap.size v1 ls) (h2 : IntS w w.heap.size v2 vs) (hi : i * ls.length + k < vs.length) :
    Calls Try.prog 68 #[.agg #[v0, v1, v2], .int .i64 (i : Int), .int .i64 (k : Int)] w fun e w' => e = .returned (.int .i64 (iv vs (i * ls.length + k))) ∧ Below w.heap.size w w' := by
  have h := valueAt_any v0 v1 v2 ss ls vs (i : Int) (k : Int) w h0 h1 h2 (by omega) (by omega) (by simpa using hi)
  simpa using h
theorem total_exact (p q a b : Int) (w : World) (ha : 0 ≤ a) (ha2 : a ≤ 100000) (hb : 0 ≤ b) (hb2 : b ≤ 100000) :
    Calls Try.prog 63 #[.agg #[.int .i64 p, .int .i64 q, .int .i64 a, .int .i64 b]] w fun e w' => e = .returned (.int .i64 (a + b)) ∧ w' = w.alloc (Obj.cells #[.int .i64 p, .int .i64 q, .int .i64 a, .int .i64 b] 91) := by
  go_enter Try.func63, Try.ntmps63
  go_wp2
  go_ret
  exact ⟨rfl, rfl⟩
/-- The two points of a call of LookUp are where they were made. -/
def LK (w wr : World) (g1 g2 : Nat) (i I a b k K c d : Int) : Prop := Row4 wr g1 i I a b ∧ Row4 wr g2 k K c d ∧ Below w.heap.size w wr ∧ w.heap.size ≤ wr.heap.size
theorem LK.keep {w wr w1 : World} {g1 g2 : Nat} {i I a b k K c d : Int} (h : LK w wr g1 g2 i I a b k K c d) (hb : Below wr.heap.size wr w1) : LK w w1 g1 g2 i I a b k K c d :=
  ⟨h.1.keep hb, h.2.1.keep hb, ext_trans h.2.2.1 hb, Nat.le_trans h.2.2.2 hb.size⟩
theorem Row4.ne {w : World} {g : Nat} {p : Addr} {x0 x1 x2 x3 : Int} {v : Value} (h : Row4 w g x0 x1 x2 x3) (hg : g ≠ p.block) : Row4 (w.setCell p v) g x0 x1 x2 x3 :=
  ⟨(World.cell?_of_block (w := w) (Below.heap_setCell _ _ _ _ hg)).trans h.1, (World.cell?_of_block (w := w) (Below.heap_setCell _ _ _ _ hg)).trans h.2.1, (World.cell?_of_block (w := w) (Below.heap_setCell _ _ _ _ hg)).trans h.2.2.1, (World.cell?_of_block (w := w) (Below.heap_setCell _ _ _ _ hg)).trans h.2.2.2⟩
def Ex4 (w : World) (g : Nat) : Prop := ∀ j, j < 4 → ∃ u, w.cell? ⟨g, j, none⟩ = some u
theorem Ex4.keep {w w1 : World} {g : Nat} (h : Ex4 w g) (hb : Below w.heap.size w w1) : Ex4 w1 g := fun j hj => by
  obtain ⟨u, hu⟩ := h j hj
  exact ⟨u, cell_keep hu hb⟩
theorem Ex4.alloc {w : World} {g : Nat} (h : Ex4 w g) (o : Obj) : Ex4 (w.alloc o) g := h.keep ((Below.refl _ _).alloc (Nat.le_refl _) _)
theorem Ex4.set {w : World} {g : Nat} (h : Ex4 w g) (p : Addr) (v : Value) : Ex4 (w.setCell p v) g := fun j hj => by
  obtain ⟨u, hu⟩ := h j hj
  by_cases e : p = ⟨g, j, none⟩
  · subst e
    exact ⟨_, World.cell?_setCell_same _ _ _ hu⟩
  · exact ⟨u, by rw [World.cell?_setCell_other _ _ _ _ e]; exact hu⟩
theorem Ex4.drew {w : World} {g : Nat} (h : Ex4 w g) : Ex4 w.drew g := h
theorem Ex4.new (w : World) (a b c d : Value) (t : TypeId) : Ex4 (w.alloc (.cells #[a, b, c, d] t)) w.heap.size := fun j hj => by
  rcases j with _ | _ | _ | _ | j <;> first | omega | exact ⟨_, by simp [go_sem]; rfl⟩
theorem Ex4.new1 (w : World) (o : Obj) (a b c d : Value) (t : TypeId) : Ex4 ((w.alloc o).alloc (.cells #[a, b, c, d] t)) (w.heap.size + 1) := by
  have h := Ex4.new (w.alloc o) a b c d t
  simpa using h
theorem Row4.put {w : World} {g : Nat} {x0 x1 x2 x3 : Int} (h : Ex4 w g) : Row4 ((((w.setCell ⟨g, 0, none⟩ (.int .i64 x0)).setCell ⟨g, 1, none⟩ (.int .i64 x1)).setCell ⟨g, 2, none⟩ (.int .i64 x2)).setCell ⟨g, 3, none⟩ (.int .i64 x3)) g x0 x1 x2 x3 := by
  obtain ⟨u0, h0⟩ := h 0 (by omega)
  obtain ⟨u1, h1⟩ := h 1 (by omega)
  obtain ⟨u2, h2⟩ := h 2 (by omega)
  obtain ⟨u3, h3⟩ := h 3 (by omega)
  exact ⟨by simp [go_sem, *], by simp [go_sem, *], by simp [go_sem, *], by simp [go_sem, *]⟩
theorem K3.fin {w wx : World} {v0 v1 v2 : Value} {g1 g2 : Nat} {i I a b k K c d : Int} (h : K3 w wx v0 v1 v2) (r1 : Row4 wx g1 i I a b) (r2 : Row4 wx g2 k K c d) :
    wx.cell? ⟨w.heap.size, 0, none⟩ = some v0 ∧ wx.cell? ⟨w.heap.size, 1, none⟩ = some v1 ∧ wx.cell? ⟨w.heap.size, 2, none⟩ = some v2 ∧ LK w wx g1 g2 i I a b k K c d := ⟨h.1, h.2.1, h.2.2.1, r1, r2, h.2.2.2.1, Nat.le_of_lt h.2.2.2.2⟩
set_option maxHeartbeats 8000000 in
set_option maxRecDepth 100000 in
theorem implLook_c (v0 v1 v2 : Value) (ss ls vs : List Int) (x y m : Int) (i k I K : Nat) (a b c d V00 V01 V10 V11 : Int) (w : World) (h0 : IntS w w.heap.size v0 ss) (h1 : IntS w w.heap.size v1 ls) (h2 : IntS w w.heap.size v2 vs) (ht : tabB ss ls vs = true) (hm : isM m = true)
    (hP0 : ∀ w1, IntS w1 w1.heap.size v0 ss → Calls Try.prog 60 #[v0, .int .i64 x] w1 fun e w' => e = .returned (.agg #[.int .i64 i, .int .i64 I, .int .i64 a, .int .i64 b]) ∧ Below w1.heap.size w1 w')
    (hP1 : ∀ w1, IntS w1 w1.heap.size v1 ls → Calls Try.prog 60 #[v1, .int .i64 y] w1 fun e w' => e = .returned (.agg #[.int .i64 k, .int .i64 K, .int .i64 c, .int .i64 d]) ∧ Below w1.heap.size w1 w')
    (l00 : i * ls.length + k < vs.length) (l01 : i * ls.length + K < vs.length) (l10 : I * ls.length + k < vs.length) (l11 : I * ls.length + K < vs.length)
    (e00 : V00 = iv vs (i * ls.length + k)) (e01 : V01 = iv vs (i * ls.length + K)) (e10 : V10 = iv vs (I * ls.length + k)) (e11 : V11 = iv vs (I * ls.length + K))
    (a0 : 0 < a) (a1 : a ≤ 100000) (b0 : 0 ≤ b) (b1 : b ≤ 100000) (c0 : 0 < c) (c1 : c ≤ 100000) (d0 : 0 ≤ d) (d1 : d ≤ 100000) (r00 : -1000000 ≤ V00 ∧ V00 ≤ 1000000) (r01 : -1000000 ≤ V01 ∧ V01 ≤ 1000000) (r10 : -1000000 ≤ V10 ∧ V10 ≤ 1000000) (r11 : -1000000 ≤ V11 ∧ V11 ≤ 1000000) :
    Calls Try.prog 17 #[.agg #[v0, v1, v2], .int .i64 x, .int .i64 y, .int .i64 m] w fun e w' => e = .returned (.tuple #[.int .i64 (qd (a * c * V00 + a * d * V01 + b * c * V10 + b * d * V11) ((a + b) * (c + d)) m), .int .i64 0]) ∧ Below w.heap.size w w' := by
  have H0 := Lib.hid h0; have H1 := Lib.hid h1; have H2 := Lib.hid h2
  have HP0 := Lib.hid hP0; have HP1 := Lib.hid hP1
  have A00 := Lib.hid (fun (w1 : World) (hb : Below w.heap.size w w1) => at_nat v0 v1 v2 ss ls vs i k w1 (H0.out.up hb) (H1.out.up hb) (H2.out.up hb) l00)
  have A01 := Lib.hid (fun (w1 : World) (hb : Below w.heap.size w w1) => at_nat v0 v1 v2 ss ls vs i K w1 (H0.out.up hb) (H1.out.up hb) (H2.out.up hb) l01)
  have A10 := Lib.hid (fun (w1 : World) (hb : Below w.heap.size w w1) => at_nat v0 v1 v2 ss ls vs I k w1 (H0.out.up hb) (H1.out.up hb) (H2.out.up hb) l10)
  have A11 := Lib.hid (fun (w1 : World) (hb : Below w.heap.size w w1) => at_nat v0 v1 v2 ss ls vs I K w1 (H0.out.up hb) (H1.out.up hb) (H2.out.up hb) l11)
  rw [← e00] at A00; rw [← e01] at A01; rw [← e10] at A10; rw [← e11] at A11
  have HT := Lib.hid ht
  obtain ⟨_, a0', c0', rfl, _⟩ := h0; obtain ⟨_, a1', c1', rfl, _⟩ := h1; obtain ⟨_, a2', c2', rfl, _⟩ := h2
  clear e00 e01 e10 e11 l00 l01 l10 l11 hP0 hP1
  go_enter Try.func17, Try.ntmps17
  go_upto_region 6 with (first
    | (go_at_call 58; refine (implIsTable_any _ _ _ _ _ _ _ (H0.out.up (by (repeat (first | (with_reducible exact Below.refl _ _) | (with_reducible assumption) | (with_reducible refine ext_alloc ?_ _) | (with_reducible refine ext_drew ?_) | (with_reducible refine ext_drewN ?_ _) | (with_reducible refine ext_set ?_ (by first | exact Nat.le_refl _ | (simp; done) | (simp; omega) | omega) _) | (with_reducible refine ext_trans ?_ (by assumption)))))) (H1.out.up (by (repeat (first | (with_reducible exact Below.refl _ _) | (with_reducible assumption) | (with_reducible refine ext_alloc ?_ _) | (with_reducible refine ext_drew ?_) | (with_reducible refine ext_drewN ?_ _) | (with_reducible refine ext_set ?_ (by first | exact Nat.le_refl _ | (simp; done) | (simp; omega) | omega) _) | (with_reducible refine ext_trans ?_ (by assumption)))))) (H2.out.up (by (repeat (first | (with_reducible exact Below.refl _ _) | (with_reducible assumption) | (with_reducible refine ext_alloc ?_ _) | (with_reducible refine ext_drew ?_) | (with_reducible refine ext_drewN ?_ _) | (with_reducible refine ext_set ?_ (by first | exact Nat.le_refl _ | (simp; done) | (simp; omega) | omega) _) | (with_reducible refine ext_trans ?_ (by assumption))))))).mono ?_; rintro e w1 ⟨rfl, hb⟩; obtain ⟨hc, hf⟩ := bcell hb; have hz := hb.size; (try simp at hz); (try (have hz := Nat.lt_of_succ_le hz)); (try (have y0 : w.heap.size ≤ w1.heap.size := by omega)); (try (have z0 : w.heap.size < w1.heap.size := by omega)); (try (have z1 : w.heap.size + 1 < w1.heap.size := by omega)); (try (have z2 : w.heap.size + 1 + 1 < w1.heap.size := by omega)); (try (have z3 : w.heap.size + 1 + 1 + 1 < w1.heap.size := by omega)); (try (have z4 : w.heap.size + 1 + 1 + 1 + 1 < w1.heap.size := by omega)); (try (have x0 : wc.heap.size < w1.heap.size := by omega)); (try (have x1 : wc.heap.size ≤ w1.heap.size := by omega)))
    | (go_at_call 59; refine (isMode_any _ _).mono ?_; rintro e w1 ⟨rfl, rfl⟩))
  have q0 : w1.cell? ⟨w.heap.size, 0, none⟩ = some (.slice a0' ss.length c0') := by simp [go_sem, *]
  have q1 : w1.cell? ⟨w.heap.size, 1, none⟩ = some (.slice a1' ls.length c1') := by simp [go_sem, *]
  have q2 : w1.cell? ⟨w.heap.size, 2, none⟩ = some (.slice a2' vs.length c2') := by simp [go_sem, *]
  have z0 : w.heap.size < w1.heap.size := cell_lt q0
  clear hc hf hz
  go_cut [11, 12] (fun s11 s12 wx => ∃ g1 g2, s11 = .pointer (some ⟨g1, 0, none⟩) ∧ s12 = .pointer (some ⟨g2, 0, none⟩) ∧ wx.cell? ⟨w.heap.size, 0, none⟩ = some (.slice a0' ss.length c0') ∧ wx.cell? ⟨w.heap.size, 1, none⟩ = some (.slice a1' ls.length c1') ∧ wx.cell? ⟨w.heap.size, 2, none⟩ = some (.slice a2' vs.length c2') ∧ LK w wx g1 g2 i I a b k K c d)
  case first =>
    clear r00 r01 r10 r11 a0 a1 b0 b1 c0 c1 d0 d1 A00 A01 A10 A11 HT hm ht H2
    have HK := Lib.hid (show K3 w w1 _ _ _ from ⟨q0, q1, q2, by (repeat (first | (with_reducible exact Below.refl _ _) | (with_reducible assumption) | (with_reducible refine ext_alloc ?_ _) | (with_reducible refine ext_drew ?_) | (with_reducible refine ext_drewN ?_ _) | (with_reducible refine ext_set ?_ (by first | exact Nat.le_refl _ | (simp; done) | (simp; omega) | omega) _) | (with_reducible refine ext_trans ?_ (by assumption)))), z0⟩)
    go_region_held3 (fun w' => w'.cell? ⟨w.heap.size, 0, none⟩ = some (.slice a0' ss.length c0') ∧ w'.cell? ⟨w.heap.size, 1, none⟩ = some (.slice a1' ls.length c1') ∧ w'.cell? ⟨w.heap.size, 2, none⟩ = some (.slice a2' vs.length c2') ∧ Below w.heap.size w w' ∧ w.heap.size < w'.heap.size) ((show K3 w _ _ _ _; repeat (first | (with_reducible exact (Hid.out (by with_reducible assumption))) | (with_reducible assumption) | (with_reducible refine K3.alloc ?_ _) | (with_reducible refine K3.drew ?_) | (with_reducible refine K3.set ?_ (by first | omega | (simp; omega)) _)))) (first | (go_at_call 60; with_reducible refine (HP0.out _ (H0.out.up (by (repeat (first | (with_reducible exact Below.refl _ _) | (with_reducible assumption) | (with_reducible refine ext_alloc ?_ _) | (with_reducible refine ext_drew ?_) | (with_reducible refine ext_drewN ?_ _) | (with_reducible refine ext_set ?_ (by first | exact Nat.le_refl _ | (simp; done) | (simp; omega) | omega) _) | (with_reducible refine ext_trans ?_ (by assumption))))))).mono ?_; rintro e wA ⟨rfl, hb⟩; obtain ⟨hc, hf⟩ := bcell hb; have hz := hb.size; (try simp at hz); (try (have hz := Nat.lt_of_succ_le hz)); (try (have t0 : w1.heap.size < wA.heap.size := by omega)); (try (have t1 : w1.heap.size + 1 < wA.heap.size := by omega)); have hS := Lib.hid (K3.call (by with_reducible assumption) hb); have zL := (Hid.out hS).2.2.2.2) | (go_at_call 60; with_reducible refine (HP1.out _ (H1.out.up (by (repeat (first | (with_reducible exact Below.refl _ _) | (with_reducible assumption) | (with_reducible refine ext_alloc ?_ _) | (with_reducible refine ext_drew ?_) | (with_reducible refine ext_drewN ?_ _) | (with_reducible refine ext_set ?_ (by first | exact Nat.le_refl _ | (simp; done) | (simp; omega) | omega) _) | (with_reducible refine ext_trans ?_ (by assumption))))))).mono ?_; rintro e wB ⟨rfl, hb⟩; obtain ⟨hc, hf⟩ := bcell hb; have hz := hb.size; (try simp at hz); (try (have hz := Nat.lt_of_succ_le hz)); (try (have t2 : w1.heap.size < wB.heap.size := by omega)); (try (have t3 : w1.heap.size + 1 < wB.heap.size := by omega)); (try (have t4 : wA.heap.size < wB.heap.size := by omega)); (try (have t5 : wA.heap.size + 1 < wB.heap.size := by omega)); have hS := Lib.hid (K3.call (by with_reducible assumption) hb); have zL := (Hid.out hS).2.2.2.2))
    all_goals (go_wp2_with fail; go_meet)
    all_goals
      refine ⟨_, _, rfl, rfl, K3.fin (v0 := .slice a0' ss.length c0') (v1 := .slice a1' ls.length c1') (v2 := .slice a2' vs.length c2') ?_ ?_ ?_⟩
      · (show K3 w _ _ _ _; repeat (first | (with_reducible exact (Hid.out (by with_reducible assumption))) | (with_reducible assumption) | (with_reducible refine K3.alloc ?_ _) | (with_reducible refine K3.drew ?_) | (with_reducible refine K3.set ?_ (by first | omega | (simp; omega)) _)))
      · first | (with_reducible refine Row4.ne ?_ (by first | omega | (simp; done) | (simp; omega)); with_reducible refine Row4.ne ?_ (by first | omega | (simp; done) | (simp; omega)); with_reducible refine Row4.ne ?_ (by first | omega | (simp; done) | (simp; omega)); with_reducible refine Row4.ne ?_ (by first | omega | (simp; done) | (simp; omega)); (with_reducible refine Row4.put ?_); (repeat (first | (with_reducible exact Ex4.new _ _ _ _ _ _) | (with_reducible exact Ex4.new1 _ _ _ _ _ _ _) | (with_reducible refine Ex4.alloc ?_ _) | (with_reducible refine Ex4.drew ?_) | (with_reducible refine Ex4.set ?_ _ _) | (with_reducible refine Ex4.keep ?_ (by with_reducible assumption)))); done) | ((with_reducible refine Row4.put ?_); (repeat (first | (with_reducible exact Ex4.new _ _ _ _ _ _) | (with_reducible exact Ex4.new1 _ _ _ _ _ _ _) | (with_reducible refine Ex4.alloc ?_ _) | (with_reducible refine Ex4.drew ?_) | (with_reducible refine Ex4.set ?_ _ _) | (with_reducible refine Ex4.keep ?_ (by with_reducible assumption)))); done) | exact ⟨by simp [go_sem, *], by simp [go_sem, *], by simp [go_sem, *], by simp [go_sem, *]⟩
      · first | ((with_reducible refine Row4.put ?_); (repeat (first | (with_reducible exact Ex4.new _ _ _ _ _ _) | (with_reducible exact Ex4.new1 _ _ _ _ _ _ _) | (with_reducible refine Ex4.alloc ?_ _) | (with_reducible refine Ex4.drew ?_) | (with_reducible refine Ex4.set ?_ _ _) | (with_reducible refine Ex4.keep ?_ (by with_reducible assumption)))); done) | exact ⟨by simp [go_sem, *], by simp [go_sem, *], by simp [go_sem, *], by simp [go_sem, *]⟩
  case rest =>
    obtain ⟨g1, g2, rfl, rfl, q0, q1, q2, hL⟩ := hcut
    have HL := Lib.hid hL
    obtain ⟨⟨x0, x1, x2, x3⟩, ⟨y0, y1, y2, y3⟩, hB, hS⟩ := hL
    have HB := Lib.hid hB
    go_wp2_with fail
    go_at_call 61
    refine (around_c _ _ _ i I a b k K c d V00 V01 V10 V11 _ (fun w1 hb => A00.out w1 (ext_trans HB.out hb)) (fun w1 hb => A01.out w1 (ext_trans HB.out hb)) (fun w1 hb => A10.out w1 (ext_trans HB.out hb)) (fun w1 hb => A11.out w1 (ext_trans HB.out hb))).mono ?_
    rintro e w5 ⟨rfl, hb5⟩
    have L5 := Lib.hid (HL.out.keep hb5)
    clear HL HB hB hS x0 x1 x2 x3 y0 y1 y2 y3 q0 q1 q2 hb5 A00 A01 A10 A11 HP0 HP1 H0 H1 H2 HT
    have i0 : ∀ w, (Instr.index 93 (.agg #[.int .i64 V00, .int .i64 V01, .int .i64 V10, .int .i64 V11]) (.int .i64 0)).run Try.prog w = .ok (.agg #[.int .i64 V00, .int .i64 V01]) w := fun _ => by kernel_rfl
    have i1 : ∀ w, (Instr.index 93 (.agg #[.int .i64 V00, .int .i64 V01, .int .i64 V10, .int .i64 V11]) (.int .i64 1)).run Try.prog w = .ok (.agg #[.int .i64 V10, .int .i64 V11]) w := fun _ => by kernel_rfl
    have j0 : ∀ (x y : Int) w, (Instr.index 89 (.agg #[.int .i64 x, .int .i64 y]) (.int .i64 0)).run Try.prog w = .ok (.int .i64 x) w := fun _ _ _ => by kernel_rfl
    have j1 : ∀ (x y : Int) w, (Instr.index 89 (.agg #[.int .i64 x, .int .i64 y]) (.int .i64 1)).run Try.prog w = .ok (.int .i64 y) w := fun _ _ _ => by kernel_rfl
    have ⟨m00, n00⟩ := pr_bd (p := a) (q := c) (A := 100000) (B := 100000) (by omega) (by omega) (by omega) (by omega)
    have ⟨m01, n01⟩ := pr_bd (p := a) (q := d) (A := 100000) (B := 100000) (by omega) (by omega) (by omega) (by omega)
    have ⟨m10, n10⟩ := pr_bd (p := b) (q := c) (A := 100000) (B := 100000) (by omega) (by omega) (by omega) (by omega)
    have ⟨m11, n11⟩ := pr_bd (p := b) (q := d) (A := 100000) (B := 100000) (by omega) (by omega) (by omega) (by omega)
    have ⟨o00, p00⟩ := tr_bd (p := a) (q := c) (by omega) (by omega) (by omega) (by omega) r00
    have ⟨o01, p01⟩ := tr_bd (p := a) (q := d) (by omega) (by omega) (by omega) (by omega) r01
    have ⟨o10, p10⟩ := tr_bd (p := b) (q := c) (by omega) (by omega) (by omega) (by omega) r10
    have ⟨o11, p11⟩ := tr_bd (p := b) (q := d) (by omega) (by omega) (by omega) (by omega) r11
    have W0 : 0 < (a + b) * (c + d) := Int.mul_pos (by omega) (by omega)
    have ⟨_, W1⟩ := pr_bd (p := a + b) (q := c + d) (A := 200000) (B := 200000) (by omega) (by omega) (by omega) (by omega)
    have W2 : (a + b) * (c + d) ≤ 40000000000 := W1
    have e5 : IntKind.i64.wrap ((a + b) * (c + d)) = (a + b) * (c + d) := IntWalk.i64_in _ (by omega)
    go_wp2_with fail
    go_loopw [13, 37] (fun s u wr => ((u = .int .i64 0 ∧ s = .int .i64 0) ∨ (u = .int .i64 1 ∧ s = .int .i64 (a * c * V00 + a * d * V01)) ∨ (u = .int .i64 2 ∧ s = .int .i64 (a * c * V00 + a * d * V01 + b * c * V10 + b * d * V11))) ∧ Hid (LK w wr g1 g2 i I a b k K c d)) (fun _ u _ => 2 - (intOf u).toNat)
    case atStart => exact ⟨.inl ⟨rfl, rfl⟩, L5⟩
    case round =>
      clear L5
      obtain ⟨⟨rfl, rfl⟩ | ⟨rfl, rfl⟩ | ⟨rfl, rfl⟩, LL⟩ := hrel
      · go_wp2_with fail
        go_loopw [13, 42] (fun s u wr => ((u = .int .i64 0 ∧ s = .int .i64 0) ∨ (u = .int .i64 1 ∧ s = .int .i64 (a * c * V00)) ∨ (u = .int .i64 2 ∧ s = .int .i64 (a * c * V00 + a * d * V01))) ∧ Hid (LK w wr g1 g2 i I a b k K c d)) (fun _ u _ => 2 - (intOf u).toNat)
        case atStart => exact ⟨.inl ⟨rfl, rfl⟩, Lib.hid (LL.out.keep (by (repeat (first | (with_reducible exact Below.refl _ _) | (with_reducible assumption) | (with_reducible refine ext_alloc ?_ _) | (with_reducible refine ext_drew ?_) | (with_reducible refine ext_drewN ?_ _) | (with_reducible refine ext_set ?_ (by first | exact Nat.le_refl _ | (simp; done) | (simp; omega) | omega) _) | (with_reducible refine ext_trans ?_ (by assumption))))))⟩
        case round =>
          clear LL
          obtain ⟨⟨rfl, rfl⟩ | ⟨rfl, rfl⟩ | ⟨rfl, rfl⟩, LL⟩ := hrel
          · obtain ⟨⟨x0, x1, x2, x3⟩, ⟨y0, y1, y2, y3⟩, hB, hS⟩ := LL.out
            go_wp2_with fail
            go_quiet (fail)
            go_wp2_with fail
            go_roundw
            case rel => exact ⟨by first | exact .inr (.inl ⟨rfl, rfl⟩) | exact .inr (.inl ⟨rfl, by simp⟩), Lib.hid (LL.out.keep (by (repeat (first | (with_reducible exact Below.refl _ _) | (with_reducible assumption) | (with_reducible refine ext_alloc ?_ _) | (with_reducible refine ext_drew ?_) | (with_reducible refine ext_drewN ?_ _) | (with_reducible refine ext_set ?_ (by first | exact Nat.le_refl _ | (simp; done) | (simp; omega) | omega) _) | (with_reducible refine ext_trans ?_ (by assumption))))))⟩
            case measure => simp [intOf]
          · obtain ⟨⟨x0, x1, x2, x3⟩, ⟨y0, y1, y2, y3⟩, hB, hS⟩ := LL.out
            go_wp2_with fail
            go_quiet (fail)
            go_wp2_with fail
            go_roundw
            case rel => exact ⟨by first | exact .inr (.inr ⟨rfl, rfl⟩) | exact .inr (.inr ⟨rfl, by simp⟩), Lib.hid (LL.out.keep (by (repeat (first | (with_reducible exact Below.refl _ _) | (with_reducible assumption) | (with_reducible refine ext_alloc ?_ _) | (with_reducible refine ext_drew ?_) | (with_reducible refine ext_drewN ?_ _) | (with_reducible refine ext_set ?_ (by first | exact Nat.le_refl _ | (simp; done) | (simp; omega) | omega) _) | (with_reducible refine ext_trans ?_ (by assumption))))))⟩
            case measure => simp [intOf]
          · go_wp2_with fail
            go_roundw
            case rel => exact ⟨.inr (.inl ⟨rfl, rfl⟩), LL⟩
            case measure => simp [intOf]
      · go_wp2_with fail
        go_loopw [13, 42] (fun s u wr => ((u = .int .i64 0 ∧ s = .int .i64 (a * c * V00 + a * d * V01)) ∨ (u = .int .i64 1 ∧ s = .int .i64 (a * c * V00 + a * d * V01 + b * c * V10)) ∨ (u = .int .i64 2 ∧ s = .int .i64 (a * c * V00 + a * d * V01 + b * c * V10 + b * d * V11))) ∧ Hid (LK w wr g1 g2 i I a b k K c d)) (fun _ u _ => 2 - (intOf u).toNat)
        case atStart => exact ⟨.inl ⟨rfl, rfl⟩, Lib.hid (LL.out.keep (by (repeat (first | (with_reducible exact Below.refl _ _) | (with_reducible assumption) | (with_reducible refine ext_alloc ?_ _) | (with_reducible refine ext_drew ?_) | (with_reducible refine ext_drewN ?_ _) | (with_reducible refine ext_set ?_ (by first | exact Nat.le_refl _ | (simp; done) | (simp; omega) | omega) _) | (with_reducible refine ext_trans ?_ (by assumption))))))⟩
        case round =>
          clear LL
          obtain ⟨⟨rfl, rfl⟩ | ⟨rfl, rfl⟩ | ⟨rfl, rfl⟩, LL⟩ := hrel
          · obtain ⟨⟨x0, x1, x2, x3⟩, ⟨y0, y1, y2, y3⟩, hB, hS⟩ := LL.out
            go_wp2_with fail
            go_quiet (fail)
            go_wp2_with fail
            go_roundw
            case rel => exact ⟨by first | exact .inr (.inl ⟨rfl, rfl⟩) | exact .inr (.inl ⟨rfl, by simp⟩), Lib.hid (LL.out.keep (by (repeat (first | (with_reducible exact Below.refl _ _) | (with_reducible assumption) | (with_reducible refine ext_alloc ?_ _) | (with_reducible refine ext_drew ?_) | (with_reducible refine ext_drewN ?_ _) | (with_reducible refine ext_set ?_ (by first | exact Nat.le_refl _ | (simp; done) | (simp; omega) | omega) _) | (with_reducible refine ext_trans ?_ (by assumption))))))⟩
            case measure => simp [intOf]
          · obtain ⟨⟨x0, x1, x2, x3⟩, ⟨y0, y1, y2, y3⟩, hB, hS⟩ := LL.out
            go_wp2_with fail
            go_quiet (fail)
            go_wp2_with fail
            go_roundw
            case rel => exact ⟨by first | exact .inr (.inr ⟨rfl, rfl⟩) | exact .inr (.inr ⟨rfl, by simp⟩), Lib.hid (LL.out.keep (by (repeat (first | (with_reducible exact Below.refl _ _) | (with_reducible assumption) | (with_reducible refine ext_alloc ?_ _) | (with_reducible refine ext_drew ?_) | (with_reducible refine ext_drewN ?_ _) | (with_reducible refine ext_set ?_ (by first | exact Nat.le_refl _ | (simp; done) | (simp; omega) | omega) _) | (with_reducible refine ext_trans ?_ (by assumption))))))⟩
            case measure => simp [intOf]
          · go_wp2_with fail
            go_roundw
            case rel => exact ⟨.inr (.inr ⟨rfl, rfl⟩), LL⟩
            case measure => simp [intOf]
      · obtain ⟨⟨x0, x1, x2, x3⟩, ⟨y0, y1, y2, y3⟩, hB, hS⟩ := LL.out
        have z1 := cell_lt x0
        have z2 := cell_lt y0
        go_wp2_with fail
        go_region_with (first
          | (go_at_call 63; with_reducible refine (total_exact _ _ a b _ (by omega) (by omega) (by omega) (by omega)).mono ?_; rintro e w5 ⟨rfl, rfl⟩)
          | (go_at_call 63; with_reducible refine (total_exact _ _ c d _ (by omega) (by omega) (by omega) (by omega)).mono ?_; rintro e w5 ⟨rfl, rfl⟩)
          | (go_at_call 62; refine (quotient_any _ _ _ _ (by omega) (by omega) (by omega)).mono ?_; rintro e w5 ⟨rfl, nq, rfl⟩))
        all_goals (go_wp2_with fail)
        all_goals go_ret2
        all_goals exact ⟨rfl, by (repeat (first | (with_reducible exact Below.refl _ _) | (with_reducible assumption) | (with_reducible refine ext_alloc ?_ _) | (with_reducible refine ext_drew ?_) | (with_reducible refine ext_drewN ?_ _) | (with_reducible refine ext_set ?_ (by first | exact Nat.le_refl _ | (simp; done) | (simp; omega) | omega) _) | (with_reducible refine ext_trans ?_ (by assumption))))⟩
end Go.Proofs.Ytckccpcigkbfmaa
