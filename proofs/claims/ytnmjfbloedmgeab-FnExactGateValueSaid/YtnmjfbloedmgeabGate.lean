/-
GateValue: the model's and the program's own, for all cells and inputs.
-/
import Derived.Test.YtnmjfbloedmgeabSenseC
namespace Go.Proofs.Ytnmjfbloedmgeab
open Go.ChangeShapes Go.WideShapes Go.ChangeAt Go.RowKit
set_option linter.unusedVariables false
set_option linter.unusedSimpArgs false
/-- The row of a truth table for the first k inputs. -/
def rowK (xs : List Int) : Nat → Nat
  | 0 => 0
  | k + 1 => rowK xs k + (iv xs k).toNat * 2 ^ k
theorem row_lt {xs : List Int} : ∀ k, (∀ i, i < k → inB (iv xs i) 0 1 = true) → rowK xs k < 2 ^ k
  | 0, _ => by simp [rowK]
  | k + 1, h => by
    have ih := row_lt k (fun i hi => h i (by omega))
    have ⟨a, b⟩ := inB_get (h k (by omega))
    have : (iv xs k).toNat * 2 ^ k ≤ 1 * 2 ^ k := Nat.mul_le_mul_right _ (by omega)
    unfold rowK
    rw [Nat.pow_succ]
    omega
theorem row_0 {xs : List Int} {k : Nat} (h : iv xs k = 0) : rowK xs (k + 1) = rowK xs k := by simp [rowK, h]
theorem row_1 {xs : List Int} {k : Nat} (h : iv xs k = 1) : rowK xs (k + 1) = rowK xs k + 2 ^ k := by simp [rowK, h]
theorem or_zero : ∀ r, r < 16 → bits .or .i64 ((r : Nat) : Int) 0 = (r : Int) := by decide +kernel
theorem sbit_row {r k : Nat} (h : r < 2 ^ k) : sbit r k = false := by simp [sbit, Nat.div_eq_of_lt h]
def gvOk (c : CellD) (xs : List Int) : Bool := ((xs.length : Int) == (c.pins.length : Int) - 1) && bitsB xs
def gvV (c : CellD) (xs : List Int) : Int := if cellB c && decide (c.kind = 1) && gvOk c xs then iv c.truth (rowK xs xs.length) else 0
def gvC (c : CellD) (xs : List Int) : Int := if cellB c then (if c.kind = 1 then (if gvOk c xs then 0 else 2) else 5) else 1
theorem gv_no {c : CellD} {xs : List Int} (h : cellB c = false) : gvV c xs = 0 ∧ gvC c xs = 1 := by simp [gvV, gvC, h]
theorem gv_kind {c : CellD} {xs : List Int} (h : cellB c = true) (hk : ¬ c.kind = 1) : gvV c xs = 0 ∧ gvC c xs = 5 := by simp [gvV, gvC, h, hk]
theorem gv_bad {c : CellD} {xs : List Int} (h : cellB c = true) (hk : c.kind = 1) (ho : gvOk c xs = false) : gvV c xs = 0 ∧ gvC c xs = 2 := by simp [gvV, gvC, h, hk, ho]
theorem gv_yes {c : CellD} {xs : List Int} (h : cellB c = true) (hk : c.kind = 1) (ho : gvOk c xs = true) : gvV c xs = iv c.truth (rowK xs xs.length) ∧ gvC c xs = 0 := by simp [gvV, gvC, h, hk, ho]
theorem gvOk_get {c : CellD} {xs : List Int} (h : gvOk c xs = true) : (xs.length : Int) = (c.pins.length : Int) - 1 ∧ ∀ i, i < xs.length → inB (iv xs i) 0 1 = true := by
  simp only [gvOk, Bool.and_eq_true] at h
  exact ⟨by simpa using h.1, allB_get h.2⟩
theorem row_in (r k : Nat) (h : r < 2 ^ k) (hk : k < 4) : IntKind.i64.wrap ((r : Int) + (2 : Int) ^ k) = ((r + 2 ^ k : Nat) : Int) := by
  have hp : 2 ^ k ≤ 8 := by
    obtain rfl | rfl | rfl | rfl : k = 0 ∨ k = 1 ∨ k = 2 ∨ k = 3 := by omega
    all_goals decide
  rw [← pow_in]
  exact (show ∀ q : Nat, r + q ≤ 16 → IntKind.i64.wrap ((r : Int) + (q : Int)) = ((r + q : Nat) : Int) from fun q hq => by rw [IntWalk.i64_in _ (by omega)]; omega) (2 ^ k) (by omega)
theorem IntS.cells {w : World} {B : Nat} {a : Option Addr} {cap : Nat} {xs : List Int} (h : IntS w B (.slice a xs.length cap) xs) (hp : 0 < xs.length) : ∃ b off, a = some ⟨b, off, none⟩ ∧ b < B ∧ ∀ i, i < xs.length → w.cell? ⟨b, off + i, none⟩ = some (.int .i64 (iv xs i)) := by
  obtain ⟨_, a', cap', e, h⟩ := h
  injection e with e1 e2 e3
  subst e1 e3
  exact h hp
theorem pow_16 {k : Nat} (hk : k ≤ 4) : 2 ^ k ≤ 16 := Nat.le_trans (Nat.pow_le_pow_right (by omega) hk) (by decide)
set_option maxRecDepth 100000 in
set_option maxHeartbeats 4000000 in
theorem implGate_any (f : Nat → Value) (c : CellD) (v : Value) (xs : List Int) (w : World) (h : CellF w w.heap.size f c) (hv : IntS w w.heap.size v xs) : Calls Try.prog 10 #[.agg #[f 0, f 1, f 2, f 3, f 4, f 5, f 6], v] w fun e w' => e = .returned (.tuple #[.int .i64 (gvV c xs), .int .i64 (gvC c xs)]) ∧ Below w.heap.size w w' := by
  obtain ⟨e0, e1, x2, x3, x4, e5, e6, hsz⟩ := h
  obtain ⟨p2, q2, e2⟩ := x2.slice; obtain ⟨p3, q3, e3⟩ := x3.slice; obtain ⟨p4, q4, e4⟩ := x4.slice
  rw [e2] at x2; rw [e3] at x3; rw [e4] at x4
  rw [e0, e1, e2, e3, e4, e5, e6]
  have HV := Lib.hid (show CellF w w.heap.size (vec [.string c.name, .int .i64 c.kind, .slice p2 c.pins.length q2, .slice p3 c.arcs.length q3, .slice p4 c.truth.length q4, .int .i64 c.leak, .int .i64 c.energy]) c from ⟨rfl, rfl, x2, x3, x4, rfl, rfl, hsz⟩)
  have X4 := Lib.hid x4
  have XV := Lib.hid hv
  obtain ⟨hn, pa, qa, rfl, hxv⟩ := hv
  have HI := Lib.hid (fun (w1 : World) (hb : Below w.heap.size w w1) => (show Calls Try.prog 24 #[.agg #[.string c.name, .int .i64 c.kind, .slice p2 c.pins.length q2, .slice p3 c.arcs.length q3, .slice p4 c.truth.length q4, .int .i64 c.leak, .int .i64 c.energy]] w1 _ from implIsCell_any (vec [.string c.name, .int .i64 c.kind, .slice p2 c.pins.length q2, .slice p3 c.arcs.length q3, .slice p4 c.truth.length q4, .int .i64 c.leak, .int .i64 c.energy]) c w1 (HV.out.up hb)))
  clear x2 x3 x4 e0 e1 e2 e3 e4 e5 e6 hsz HV
  cases hcb : cellB c
  · rw [(gv_no hcb).1, (gv_no hcb).2]
    rw [hcb] at HI
    clear hxv
    go_enter Try.func10, Try.ntmps10
    go_wp2_with (go_at_call 24; refine (HI.out _ (by (repeat (first | (with_reducible exact Below.refl _ _) | (with_reducible assumption) | (with_reducible refine ext_alloc ?_ _) | (with_reducible refine ext_drew ?_) | (with_reducible refine ext_drewN ?_ _) | (with_reducible refine ext_set ?_ (by first | exact Nat.le_refl _ | (simp; done) | (simp; omega) | omega) _) | (with_reducible refine ext_trans ?_ (by assumption)))))).mono ?_; rintro e w1 ⟨rfl, hb⟩; obtain ⟨hc, hf⟩ := bcell hb; have hz := hb.size; (try simp at hz); (try (have hz := Nat.lt_of_succ_le hz)); (try (have y0 : w.heap.size ≤ w1.heap.size := by omega)); (try (have z0 : w.heap.size < w1.heap.size := by omega)); (try (have z1 : w.heap.size + 1 < w1.heap.size := by omega)); (try (have z2 : w.heap.size + 1 + 1 < w1.heap.size := by omega)); (try (have z3 : w.heap.size + 1 + 1 + 1 < w1.heap.size := by omega)); (try (have z4 : w.heap.size + 1 + 1 + 1 + 1 < w1.heap.size := by omega)); (try (have x0 : wc.heap.size < w1.heap.size := by omega)); (try (have x1 : wc.heap.size ≤ w1.heap.size := by omega)))
    exact bodyPost_ret (v := .tuple #[.int .i64 0, .int .i64 1]) (by simp [results, Try.results10, go_sem]) rfl ⟨rfl, by (repeat (first | (with_reducible exact Below.refl _ _) | (with_reducible assumption) | (with_reducible refine ext_alloc ?_ _) | (with_reducible refine ext_drew ?_) | (with_reducible refine ext_drewN ?_ _) | (with_reducible refine ext_set ?_ (by first | exact Nat.le_refl _ | (simp; done) | (simp; omega) | omega) _) | (with_reducible refine ext_trans ?_ (by assumption))))⟩
  · rw [hcb] at HI
    by_cases hk : c.kind = 1
    · obtain ⟨m, m1, m4, hl, ht, _, _⟩ := gate_get hcb hk
      have hl2 : 2 ≤ c.pins.length := by omega
      have hl5 : c.pins.length ≤ 5 := by omega
      have HB := Lib.hid (fun (w1 : World) (hb : Below w.heap.size w w1) => (show Calls Try.prog 25 #[.slice pa xs.length qa, .int .i64 ((c.pins.length : Int) - 1)] w1 (fun e w' => e = .returned (.bool (gvOk c xs)) ∧ Below w1.heap.size w1 w') from areBits_ext _ xs ((c.pins.length : Int) - 1) w1 (XV.out.up hb)))
      cases ho : gvOk c xs
      · rw [(gv_bad hcb hk ho).1, (gv_bad hcb hk ho).2]
        rw [ho] at HB
        clear hxv hcb ho hl ht m1 m4 m
        rw [hk] at HI ⊢
        clear hk
        go_enter Try.func10, Try.ntmps10
        go_wp2_with (first | (go_at_call 24; refine (HI.out _ (by (repeat (first | (with_reducible exact Below.refl _ _) | (with_reducible assumption) | (with_reducible refine ext_alloc ?_ _) | (with_reducible refine ext_drew ?_) | (with_reducible refine ext_drewN ?_ _) | (with_reducible refine ext_set ?_ (by first | exact Nat.le_refl _ | (simp; done) | (simp; omega) | omega) _) | (with_reducible refine ext_trans ?_ (by assumption)))))).mono ?_; rintro e w1 ⟨rfl, hb⟩; obtain ⟨hc, hf⟩ := bcell hb; have hz := hb.size; (try simp at hz); (try (have hz := Nat.lt_of_succ_le hz)); (try (have y0 : w.heap.size ≤ w1.heap.size := by omega)); (try (have z0 : w.heap.size < w1.heap.size := by omega)); (try (have z1 : w.heap.size + 1 < w1.heap.size := by omega)); (try (have z2 : w.heap.size + 1 + 1 < w1.heap.size := by omega)); (try (have z3 : w.heap.size + 1 + 1 + 1 < w1.heap.size := by omega)); (try (have z4 : w.heap.size + 1 + 1 + 1 + 1 < w1.heap.size := by omega)); (try (have x0 : wc.heap.size < w1.heap.size := by omega)); (try (have x1 : wc.heap.size ≤ w1.heap.size := by omega))) | (go_at_call 25; refine (HB.out _ (by (repeat (first | (with_reducible exact Below.refl _ _) | (with_reducible assumption) | (with_reducible refine ext_alloc ?_ _) | (with_reducible refine ext_drew ?_) | (with_reducible refine ext_drewN ?_ _) | (with_reducible refine ext_set ?_ (by first | exact Nat.le_refl _ | (simp; done) | (simp; omega) | omega) _) | (with_reducible refine ext_trans ?_ (by assumption)))))).mono ?_; rintro e w1 ⟨rfl, hb⟩; obtain ⟨hc, hf⟩ := bcell hb; have hz := hb.size; (try simp at hz); (try (have hz := Nat.lt_of_succ_le hz)); (try (have y0 : w.heap.size ≤ w1.heap.size := by omega)); (try (have z0 : w.heap.size < w1.heap.size := by omega)); (try (have z1 : w.heap.size + 1 < w1.heap.size := by omega)); (try (have z2 : w.heap.size + 1 + 1 < w1.heap.size := by omega)); (try (have z3 : w.heap.size + 1 + 1 + 1 < w1.heap.size := by omega)); (try (have z4 : w.heap.size + 1 + 1 + 1 + 1 < w1.heap.size := by omega)); (try (have x0 : wc.heap.size < w1.heap.size := by omega)); (try (have x1 : wc.heap.size ≤ w1.heap.size := by omega))))
        exact bodyPost_ret (v := .tuple #[.int .i64 0, .int .i64 2]) (by simp [results, Try.results10, go_sem]) rfl ⟨rfl, by (repeat (first | (with_reducible exact Below.refl _ _) | (with_reducible assumption) | (with_reducible refine ext_alloc ?_ _) | (with_reducible refine ext_drew ?_) | (with_reducible refine ext_drewN ?_ _) | (with_reducible refine ext_set ?_ (by first | exact Nat.le_refl _ | (simp; done) | (simp; omega) | omega) _) | (with_reducible refine ext_trans ?_ (by assumption))))⟩
      · have ⟨h1, h2⟩ := gvOk_get ho
        have hnm : xs.length = m := by omega
        rw [(gv_yes hcb hk ho).1, (gv_yes hcb hk ho).2]
        rw [ho] at HB
        obtain ⟨b4, o4, rfl, hb4, hx4⟩ := X4.out.cells (by rw [ht]; exact Nat.two_pow_pos m)
        obtain ⟨bi, oi, rfl, hbi, hxi⟩ := hxv (by omega)
        have hr := row_lt xs.length h2
        have hy4 := hx4 (rowK xs xs.length) (by rw [ht, ← hnm]; exact hr)
        have hr4 : rowK xs xs.length < c.truth.length := by rw [ht, ← hnm]; exact hr
        have HR := Lib.hid (fun k (hk : k ≤ xs.length) => row_lt k (fun i hi => h2 i (by omega)))
        have H2 := Lib.hid h2
        have HX := Lib.hid hxi
        have hn4 : xs.length ≤ 4 := by omega
        have HY := Lib.hid hy4
        clear hxi hx4 hxv hcb ho hl ht m1 m4 h1 h2 hnm hr hy4
        clear m
        rw [hk] at HI ⊢
        clear hk
        obtain ⟨n, hnn⟩ : ∃ n, n = xs.length := ⟨_, rfl⟩
        rw [← hnn] at HR HX hn4 HB hn hr4 HY H2 ⊢
        clear hnn XV X4
        go_enter Try.func10, Try.ntmps10
        go_wp2_with fail
        (go_at_call 24; refine (HI.out _ (by (repeat (first | (with_reducible exact Below.refl _ _) | (with_reducible assumption) | (with_reducible refine ext_alloc ?_ _) | (with_reducible refine ext_drew ?_) | (with_reducible refine ext_drewN ?_ _) | (with_reducible refine ext_set ?_ (by first | exact Nat.le_refl _ | (simp; done) | (simp; omega) | omega) _) | (with_reducible refine ext_trans ?_ (by assumption)))))).mono ?_; rintro e w1 ⟨rfl, hb⟩; obtain ⟨hc, hf⟩ := bcell hb; have hz := hb.size; (try simp at hz); (try (have hz := Nat.lt_of_succ_le hz)); (try (have y0 : w.heap.size ≤ w1.heap.size := by omega)); (try (have z0 : w.heap.size < w1.heap.size := by omega)); (try (have z1 : w.heap.size + 1 < w1.heap.size := by omega)); (try (have z2 : w.heap.size + 1 + 1 < w1.heap.size := by omega)); (try (have z3 : w.heap.size + 1 + 1 + 1 < w1.heap.size := by omega)); (try (have z4 : w.heap.size + 1 + 1 + 1 + 1 < w1.heap.size := by omega)))
        have K0 : Bx w (w.alloc (Obj.cells #[.string c.name, .int .i64 1, .slice p2 c.pins.length q2, .slice p3 c.arcs.length q3, .slice (some ⟨b4, o4, none⟩) c.truth.length q4, .int .i64 c.leak, .int .i64 c.energy] 33)) (.string c.name) (.int .i64 1) (.slice p2 c.pins.length q2) (.slice p3 c.arcs.length q3) (.slice (some ⟨b4, o4, none⟩) c.truth.length q4) (.int .i64 c.leak) (.int .i64 c.energy) := ⟨by simp [go_sem], by simp [go_sem], by simp [go_sem], by simp [go_sem], by simp [go_sem], by simp [go_sem], by simp [go_sem], by (repeat (first | (with_reducible exact Below.refl _ _) | (with_reducible assumption) | (with_reducible refine ext_alloc ?_ _) | (with_reducible refine ext_drew ?_) | (with_reducible refine ext_drewN ?_ _) | (with_reducible refine ext_set ?_ (by first | exact Nat.le_refl _ | (simp; done) | (simp; omega) | omega) _) | (with_reducible refine ext_trans ?_ (by assumption)))), by simp⟩
        have K1 := Lib.hid (K0.call hb)
        obtain ⟨r0, r1, r2, r3, r4, r5, r6, hbw, hlt⟩ := K1.out
        clear hb hc hf hz HI K0
        go_wp2_with fail
        (go_at_call 25; refine (HB.out _ (by (repeat (first | (with_reducible exact Below.refl _ _) | (with_reducible assumption) | (with_reducible refine ext_alloc ?_ _) | (with_reducible refine ext_drew ?_) | (with_reducible refine ext_drewN ?_ _) | (with_reducible refine ext_set ?_ (by first | exact Nat.le_refl _ | (simp; done) | (simp; omega) | omega) _) | (with_reducible refine ext_trans ?_ (by assumption)))))).mono ?_; rintro e w2 ⟨rfl, hb⟩; obtain ⟨hc, hf⟩ := bcell hb; have hz := hb.size; (try simp at hz); (try (have hz := Nat.lt_of_succ_le hz)); (try (have y0 : w.heap.size ≤ w2.heap.size := by omega)); (try (have z0 : w.heap.size < w2.heap.size := by omega)); (try (have z1 : w.heap.size + 1 < w2.heap.size := by omega)); (try (have z2 : w.heap.size + 1 + 1 < w2.heap.size := by omega)); (try (have z3 : w.heap.size + 1 + 1 + 1 < w2.heap.size := by omega)); (try (have z4 : w.heap.size + 1 + 1 + 1 + 1 < w2.heap.size := by omega)))
        have K2 := Lib.hid (K1.out.call hb)
        obtain ⟨r0, r1, r2, r3, r4, r5, r6, hbw, hlt⟩ := K2.out
        clear hb hc hf hz HB K1
        go_wp2
        go_loopw [6, 27] (fun u i wr => ∃ k : Nat, k ≤ n ∧ i = .int .i64 k ∧ u = .int .i64 (rowK xs k) ∧ wr = w2) (fun _ i _ => n - (intOf i).toNat)
        case atStart => exact ⟨0, by omega, rfl, rfl, rfl⟩
        case round =>
          obtain ⟨k, hk, rfl, rfl, hwr⟩ := hrel
          subst hwr
          by_cases hkn : k < n
          · have y0 := (hbw.cell (by exact hbi)).trans (HX.out k hkn)
            have hI : (k : Int) < (n : Int) := by omega
            have i0 : (0 : Int) ≤ (k : Int) := by omega
            have ⟨b0, b1⟩ := inB_get (H2.out k hkn)
            have hrk := HR.out k hk
            have hp16 := pow_16 (k := k) (by omega)
            have w0 := pow_wrap (p := k) (by omega)
            rcases (show iv xs k = 0 ∨ iv xs k = 1 by omega) with e | e
            · have hok := Lib.hid (row_0 e)
              have hO := or_zero (rowK xs k) (by omega)
              rw [e] at y0
              clear e b0 b1
              go_wp2
              go_roundw
              case rel => exact ⟨k + 1, by omega, by go_num, by rw [hok.out], by first | rfl | trivial⟩
              case measure => simp [intOf]; omega
            · have hok := Lib.hid (row_1 e)
              have hO := or_bitI (p := k) (k := rowK xs k) (by omega) (by omega) (sbit_row hrk)
              rw [e] at y0
              clear e b0 b1
              go_wp2
              go_roundw
              case rel => exact ⟨k + 1, by omega, by go_num, by rw [hok.out, Int.natCast_add, pow_in], by first | rfl | trivial⟩
              case measure => simp [intOf]; omega
          · obtain rfl : k = n := by omega
            have hI : ¬ (k : Int) < (k : Int) := by omega
            have yr := (hbw.cell (p := ⟨b4, o4 + rowK xs k, none⟩) (by exact hb4)).trans HY.out
            have hrI : ((rowK xs k : Nat) : Int) < (c.truth.length : Int) := by omega
            have r00 : (0 : Int) ≤ ((rowK xs k : Nat) : Int) := by omega
            go_wp2
            exact bodyPost_ret (v := .tuple #[.int .i64 (iv c.truth (rowK xs k)), .int .i64 0]) (by simp [results, Try.results10, go_sem]) rfl ⟨rfl, by (repeat (first | (with_reducible exact Below.refl _ _) | (with_reducible assumption) | (with_reducible refine ext_alloc ?_ _) | (with_reducible refine ext_drew ?_) | (with_reducible refine ext_drewN ?_ _) | (with_reducible refine ext_set ?_ (by first | exact Nat.le_refl _ | (simp; done) | (simp; omega) | omega) _) | (with_reducible refine ext_trans ?_ (by assumption))))⟩
    · rw [(gv_kind hcb hk).1, (gv_kind hcb hk).2]
      have hkb : (c.kind != 1) = true := by simpa using hk
      clear hcb hxv
      go_enter Try.func10, Try.ntmps10
      go_wp2_with (go_at_call 24; refine (HI.out _ (by (repeat (first | (with_reducible exact Below.refl _ _) | (with_reducible assumption) | (with_reducible refine ext_alloc ?_ _) | (with_reducible refine ext_drew ?_) | (with_reducible refine ext_drewN ?_ _) | (with_reducible refine ext_set ?_ (by first | exact Nat.le_refl _ | (simp; done) | (simp; omega) | omega) _) | (with_reducible refine ext_trans ?_ (by assumption)))))).mono ?_; rintro e w1 ⟨rfl, hb⟩; obtain ⟨hc, hf⟩ := bcell hb; have hz := hb.size; (try simp at hz); (try (have hz := Nat.lt_of_succ_le hz)); (try (have y0 : w.heap.size ≤ w1.heap.size := by omega)); (try (have z0 : w.heap.size < w1.heap.size := by omega)); (try (have z1 : w.heap.size + 1 < w1.heap.size := by omega)); (try (have z2 : w.heap.size + 1 + 1 < w1.heap.size := by omega)); (try (have z3 : w.heap.size + 1 + 1 + 1 < w1.heap.size := by omega)); (try (have z4 : w.heap.size + 1 + 1 + 1 + 1 < w1.heap.size := by omega)); (try (have x0 : wc.heap.size < w1.heap.size := by omega)); (try (have x1 : wc.heap.size ≤ w1.heap.size := by omega)))
      exact bodyPost_ret (v := .tuple #[.int .i64 0, .int .i64 5]) (by simp [results, Try.results10, go_sem]) rfl ⟨rfl, by (repeat (first | (with_reducible exact Below.refl _ _) | (with_reducible assumption) | (with_reducible refine ext_alloc ?_ _) | (with_reducible refine ext_drew ?_) | (with_reducible refine ext_drewN ?_ _) | (with_reducible refine ext_set ?_ (by first | exact Nat.le_refl _ | (simp; done) | (simp; omega) | omega) _) | (with_reducible refine ext_trans ?_ (by assumption))))⟩
set_option maxRecDepth 100000 in
set_option maxHeartbeats 4000000 in
theorem specGate_any (f : Nat → Value) (c : CellD) (v : Value) (xs : List Int) (w : World) (h : CellF w w.heap.size f c) (hv : IntS w w.heap.size v xs) : Calls Try.prog 7 #[.agg #[f 0, f 1, f 2, f 3, f 4, f 5, f 6], v] w fun e w' => e = .returned (.tuple #[.int .i64 (gvV c xs), .int .i64 (gvC c xs)]) ∧ Below w.heap.size w w' := by
  obtain ⟨e0, e1, x2, x3, x4, e5, e6, hsz⟩ := h
  obtain ⟨p2, q2, e2⟩ := x2.slice; obtain ⟨p3, q3, e3⟩ := x3.slice; obtain ⟨p4, q4, e4⟩ := x4.slice
  rw [e2] at x2; rw [e3] at x3; rw [e4] at x4
  rw [e0, e1, e2, e3, e4, e5, e6]
  have HV := Lib.hid (show CellF w w.heap.size (vec [.string c.name, .int .i64 c.kind, .slice p2 c.pins.length q2, .slice p3 c.arcs.length q3, .slice p4 c.truth.length q4, .int .i64 c.leak, .int .i64 c.energy]) c from ⟨rfl, rfl, x2, x3, x4, rfl, rfl, hsz⟩)
  have X4 := Lib.hid x4
  have XV := Lib.hid hv
  obtain ⟨hn, pa, qa, rfl, hxv⟩ := hv
  have HI := Lib.hid (fun (w1 : World) (hb : Below w.heap.size w w1) => (show Calls Try.prog 20 #[.agg #[.string c.name, .int .i64 c.kind, .slice p2 c.pins.length q2, .slice p3 c.arcs.length q3, .slice p4 c.truth.length q4, .int .i64 c.leak, .int .i64 c.energy]] w1 _ from specIsCell_any (vec [.string c.name, .int .i64 c.kind, .slice p2 c.pins.length q2, .slice p3 c.arcs.length q3, .slice p4 c.truth.length q4, .int .i64 c.leak, .int .i64 c.energy]) c w1 (HV.out.up hb)))
  clear x2 x3 x4 e0 e1 e2 e3 e4 e5 e6 hsz HV
  cases hcb : cellB c
  · rw [(gv_no hcb).1, (gv_no hcb).2]
    rw [hcb] at HI
    clear hxv
    go_enter Try.func7, Try.ntmps7
    go_wp2_with (go_at_call 20; refine (HI.out _ (by (repeat (first | (with_reducible exact Below.refl _ _) | (with_reducible assumption) | (with_reducible refine ext_alloc ?_ _) | (with_reducible refine ext_drew ?_) | (with_reducible refine ext_drewN ?_ _) | (with_reducible refine ext_set ?_ (by first | exact Nat.le_refl _ | (simp; done) | (simp; omega) | omega) _) | (with_reducible refine ext_trans ?_ (by assumption)))))).mono ?_; rintro e w1 ⟨rfl, hb⟩; obtain ⟨hc, hf⟩ := bcell hb; have hz := hb.size; (try simp at hz); (try (have hz := Nat.lt_of_succ_le hz)); (try (have y0 : w.heap.size ≤ w1.heap.size := by omega)); (try (have z0 : w.heap.size < w1.heap.size := by omega)); (try (have z1 : w.heap.size + 1 < w1.heap.size := by omega)); (try (have z2 : w.heap.size + 1 + 1 < w1.heap.size := by omega)); (try (have z3 : w.heap.size + 1 + 1 + 1 < w1.heap.size := by omega)); (try (have z4 : w.heap.size + 1 + 1 + 1 + 1 < w1.heap.size := by omega)); (try (have x0 : wc.heap.size < w1.heap.size := by omega)); (try (have x1 : wc.heap.size ≤ w1.heap.size := by omega)))
    exact bodyPost_ret (v := .tuple #[.int .i64 0, .int .i64 1]) (by simp [results, Try.results7, go_sem]) rfl ⟨rfl, by (repeat (first | (with_reducible exact Below.refl _ _) | (with_reducible assumption) | (with_reducible refine ext_alloc ?_ _) | (with_reducible refine ext_drew ?_) | (with_reducible refine ext_drewN ?_ _) | (with_reducible refine ext_set ?_ (by first | exact Nat.le_refl _ | (simp; done) | (simp; omega) | omega) _) | (with_reducible refine ext_trans ?_ (by assumption))))⟩
  · rw [hcb] at HI
    by_cases hk : c.kind = 1
    · obtain ⟨m, m1, m4, hl, ht, _, _⟩ := gate_get hcb hk
      have hl2 : 2 ≤ c.pins.length := by omega
      have hl5 : c.pins.length ≤ 5 := by omega
      by_cases hlen : (xs.length : Int) = (c.pins.length : Int) - 1
      · obtain ⟨b4, o4, rfl, hb4, hx4⟩ := X4.out.cells (by rw [ht]; exact Nat.two_pow_pos m)
        obtain ⟨bi, oi, rfl, hbi, hxi⟩ := hxv (by omega)
        have hnm : xs.length = m := by omega
        have HY := Lib.hid (fun (hr : rowK xs xs.length < 2 ^ xs.length) => (show w.cell? ⟨b4, o4 + rowK xs xs.length, none⟩ = some (.int .i64 (iv c.truth (rowK xs xs.length))) ∧ rowK xs xs.length < c.truth.length from ⟨hx4 (rowK xs xs.length) (by rw [ht, ← hnm]; exact hr), by rw [ht, ← hnm]; exact hr⟩))
        have HX := Lib.hid hxi
        have hn4 : xs.length ≤ 4 := by omega
        have HG := Lib.hid (fun ho => (show gvV c xs = 0 ∧ gvC c xs = 2 from gv_bad hcb hk ho))
        have HGy := Lib.hid (fun ho => (show gvV c xs = iv c.truth (rowK xs xs.length) ∧ gvC c xs = 0 from gv_yes hcb hk ho))
        have hgo : gvOk c xs = bitsB xs := by
          unfold gvOk
          rw [show ((xs.length : Int) == (c.pins.length : Int) - 1) = true by simpa using hlen, Bool.true_and]
        rw [hgo] at HG HGy
        have HBt := Lib.hid (show ∀ i, i < xs.length → inB (iv xs i) 0 1 = false → bitsB xs = false from fun i hi h => by unfold bitsB; exact allB_no hi h)
        have HBy := Lib.hid (show (∀ i, i < xs.length → inB (iv xs i) 0 1 = true) → bitsB xs = true from fun h => by unfold bitsB; exact allB_yes h)
        obtain ⟨V, hV⟩ : ∃ V, V = gvV c xs := ⟨_, rfl⟩
        obtain ⟨E, hE⟩ : ∃ E, E = gvC c xs := ⟨_, rfl⟩
        rw [← hV, ← hE] at HG HGy ⊢
        have hlb : ((xs.length : Int) != (c.pins.length : Int) - 1) = false := by simpa using hlen
        clear hxi hx4 hxv hcb ht hl m1 m4 hnm hgo hlen hV hE
        clear m
        rw [hk] at HI
        rw [hk]
        clear hk
        obtain ⟨n, hnn⟩ : ∃ n, n = xs.length := ⟨_, rfl⟩
        rw [← hnn] at HX hn4 hn HY hlb HBt HBy HGy ⊢
        clear hnn XV X4
        go_enter Try.func7, Try.ntmps7
        go_wp2_with fail
        (go_at_call 20; refine (HI.out _ (by (repeat (first | (with_reducible exact Below.refl _ _) | (with_reducible assumption) | (with_reducible refine ext_alloc ?_ _) | (with_reducible refine ext_drew ?_) | (with_reducible refine ext_drewN ?_ _) | (with_reducible refine ext_set ?_ (by first | exact Nat.le_refl _ | (simp; done) | (simp; omega) | omega) _) | (with_reducible refine ext_trans ?_ (by assumption)))))).mono ?_; rintro e w1 ⟨rfl, hb⟩; obtain ⟨hc, hf⟩ := bcell hb; have hz := hb.size; (try simp at hz); (try (have hz := Nat.lt_of_succ_le hz)); (try (have y0 : w.heap.size ≤ w1.heap.size := by omega)); (try (have z0 : w.heap.size < w1.heap.size := by omega)); (try (have z1 : w.heap.size + 1 < w1.heap.size := by omega)); (try (have z2 : w.heap.size + 1 + 1 < w1.heap.size := by omega)); (try (have z3 : w.heap.size + 1 + 1 + 1 < w1.heap.size := by omega)); (try (have z4 : w.heap.size + 1 + 1 + 1 + 1 < w1.heap.size := by omega)))
        have K0 : Bx w (w.alloc (Obj.cells #[.string c.name, .int .i64 1, .slice p2 c.pins.length q2, .slice p3 c.arcs.length q3, .slice (some ⟨b4, o4, none⟩) c.truth.length q4, .int .i64 c.leak, .int .i64 c.energy] 33)) (.string c.name) (.int .i64 1) (.slice p2 c.pins.length q2) (.slice p3 c.arcs.length q3) (.slice (some ⟨b4, o4, none⟩) c.truth.length q4) (.int .i64 c.leak) (.int .i64 c.energy) := ⟨by simp [go_sem], by simp [go_sem], by simp [go_sem], by simp [go_sem], by simp [go_sem], by simp [go_sem], by simp [go_sem], by (repeat (first | (with_reducible exact Below.refl _ _) | (with_reducible assumption) | (with_reducible refine ext_alloc ?_ _) | (with_reducible refine ext_drew ?_) | (with_reducible refine ext_drewN ?_ _) | (with_reducible refine ext_set ?_ (by first | exact Nat.le_refl _ | (simp; done) | (simp; omega) | omega) _) | (with_reducible refine ext_trans ?_ (by assumption)))), by simp⟩
        have K1 := Lib.hid (K0.call hb)
        obtain ⟨r0, r1, r2, r3, r4, r5, r6, hbw, hlt⟩ := K1.out
        clear hb hc hf hz HI K0
        go_wp2
        go_loopw [6, 7] (fun u i wr => ∃ k : Nat, k ≤ n ∧ i = .int .i64 k ∧ u = .int .i64 (rowK xs k) ∧ Hid (∀ j, j < k → inB (iv xs j) 0 1 = true) ∧ wr = w1) (fun _ i _ => n - (intOf i).toNat)
        case atStart => exact ⟨0, by omega, rfl, rfl, Lib.hid (fun j hj => absurd hj (Nat.not_lt_zero j)), rfl⟩
        case round =>
          obtain ⟨k, hk, rfl, rfl, hall, hwr⟩ := hrel
          subst hwr
          by_cases hkn : k < n
          · have y0 := (hbw.cell (by exact hbi)).trans (HX.out k hkn)
            have hI : (k : Int) < (n : Int) := by omega
            have i0 : (0 : Int) ≤ (k : Int) := by omega
            have HRl := Lib.hid (fun (w1 : World) => l01In_any (iv xs k) 0 1 w1)
            cases hin : inB (iv xs k) 0 1
            · have hQ := Lib.hid (HG.out (HBt.out k hkn hin))
              rw [hin] at HRl
              clear hin
              go_wp2_with (go_at_call 21; refine (HRl.out _).mono ?_; rintro e w2 ⟨rfl, hw2⟩; rw [hw2]; clear hw2 w2)
              exact bodyPost_ret (v := .tuple #[.int .i64 0, .int .i64 2]) (by simp [results, Try.results7, go_sem]) rfl ⟨by rw [hQ.out.1, hQ.out.2], by (repeat (first | (with_reducible exact Below.refl _ _) | (with_reducible assumption) | (with_reducible refine ext_alloc ?_ _) | (with_reducible refine ext_drew ?_) | (with_reducible refine ext_drewN ?_ _) | (with_reducible refine ext_set ?_ (by first | exact Nat.le_refl _ | (simp; done) | (simp; omega) | omega) _) | (with_reducible refine ext_trans ?_ (by assumption))))⟩
            · have ⟨b0, b1⟩ := inB_get hin
              have hok2 := Lib.hid (all_more hall.out hin)
              have hrk := row_lt k hall.out
              have hp16 := pow_16 (k := k) (by omega)
              have w0 := pow_wrap (p := k) (by omega)
              rw [hin] at HRl
              clear hin
              rcases (show iv xs k = 0 ∨ iv xs k = 1 by omega) with e | e
              · have hok := Lib.hid (row_0 e)
                rw [e] at y0 HRl
                clear e b0 b1
                go_wp2_with (go_at_call 21; refine (HRl.out _).mono ?_; rintro e w2 ⟨rfl, hw2⟩; rw [hw2]; clear hw2 w2)
                go_roundw
                case rel => exact ⟨k + 1, by omega, by go_num, by rw [hok.out], hok2, by first | rfl | trivial⟩
                case measure => simp [intOf]; omega
              · have hok := Lib.hid (row_1 e)
                have hO := row_in (rowK xs k) k hrk (by omega)
                rw [e] at y0 HRl
                clear e b0 b1
                go_wp2_with (go_at_call 21; refine (HRl.out _).mono ?_; rintro e w2 ⟨rfl, hw2⟩; rw [hw2]; clear hw2 w2)
                go_roundw
                case rel => exact ⟨k + 1, by omega, by go_num, by rw [hok.out, Int.natCast_add, pow_in], hok2, by first | rfl | trivial⟩
                case measure => simp [intOf]; omega
          · obtain rfl : k = n := by omega
            have hI : ¬ (k : Int) < (k : Int) := by omega
            have ⟨hy, hr⟩ := HY.out (row_lt k hall.out)
            have yr := (hbw.cell (p := ⟨b4, o4 + rowK xs k, none⟩) (by exact hb4)).trans hy
            have hrI : ((rowK xs k : Nat) : Int) < (c.truth.length : Int) := by omega
            have r00 : (0 : Int) ≤ ((rowK xs k : Nat) : Int) := by omega
            have hQ := Lib.hid (HGy.out (HBy.out hall.out))
            clear hy hr
            go_wp2
            exact bodyPost_ret (v := .tuple #[.int .i64 (iv c.truth (rowK xs k)), .int .i64 0]) (by simp [results, Try.results7, go_sem]) rfl ⟨by rw [hQ.out.1, hQ.out.2], by (repeat (first | (with_reducible exact Below.refl _ _) | (with_reducible assumption) | (with_reducible refine ext_alloc ?_ _) | (with_reducible refine ext_drew ?_) | (with_reducible refine ext_drewN ?_ _) | (with_reducible refine ext_set ?_ (by first | exact Nat.le_refl _ | (simp; done) | (simp; omega) | omega) _) | (with_reducible refine ext_trans ?_ (by assumption))))⟩
      · have hlb : ((xs.length : Int) != (c.pins.length : Int) - 1) = true := by simpa using hlen
        have ho : gvOk c xs = false := by
          unfold gvOk
          rw [show ((xs.length : Int) == (c.pins.length : Int) - 1) = false by simpa using hlen, Bool.false_and]
        rw [(gv_bad hcb hk ho).1, (gv_bad hcb hk ho).2]
        have HX := Lib.hid hxv
        clear hxv hcb ht hl m1 m4 hlen ho
        clear m
        rw [hk] at HI ⊢
        clear hk
        obtain ⟨n, hnn⟩ : ∃ n, n = xs.length := ⟨_, rfl⟩
        rw [← hnn] at HX hn hlb ⊢
        clear hnn XV X4
        go_enter Try.func7, Try.ntmps7
        go_wp2_with fail
        (go_at_call 20; refine (HI.out _ (by (repeat (first | (with_reducible exact Below.refl _ _) | (with_reducible assumption) | (with_reducible refine ext_alloc ?_ _) | (with_reducible refine ext_drew ?_) | (with_reducible refine ext_drewN ?_ _) | (with_reducible refine ext_set ?_ (by first | exact Nat.le_refl _ | (simp; done) | (simp; omega) | omega) _) | (with_reducible refine ext_trans ?_ (by assumption)))))).mono ?_; rintro e w1 ⟨rfl, hb⟩; obtain ⟨hc, hf⟩ := bcell hb; have hz := hb.size; (try simp at hz); (try (have hz := Nat.lt_of_succ_le hz)); (try (have y0 : w.heap.size ≤ w1.heap.size := by omega)); (try (have z0 : w.heap.size < w1.heap.size := by omega)); (try (have z1 : w.heap.size + 1 < w1.heap.size := by omega)); (try (have z2 : w.heap.size + 1 + 1 < w1.heap.size := by omega)); (try (have z3 : w.heap.size + 1 + 1 + 1 < w1.heap.size := by omega)); (try (have z4 : w.heap.size + 1 + 1 + 1 + 1 < w1.heap.size := by omega)))
        have K0 : Bx w (w.alloc (Obj.cells #[.string c.name, .int .i64 1, .slice p2 c.pins.length q2, .slice p3 c.arcs.length q3, .slice p4 c.truth.length q4, .int .i64 c.leak, .int .i64 c.energy] 33)) (.string c.name) (.int .i64 1) (.slice p2 c.pins.length q2) (.slice p3 c.arcs.length q3) (.slice p4 c.truth.length q4) (.int .i64 c.leak) (.int .i64 c.energy) := ⟨by simp [go_sem], by simp [go_sem], by simp [go_sem], by simp [go_sem], by simp [go_sem], by simp [go_sem], by simp [go_sem], by (repeat (first | (with_reducible exact Below.refl _ _) | (with_reducible assumption) | (with_reducible refine ext_alloc ?_ _) | (with_reducible refine ext_drew ?_) | (with_reducible refine ext_drewN ?_ _) | (with_reducible refine ext_set ?_ (by first | exact Nat.le_refl _ | (simp; done) | (simp; omega) | omega) _) | (with_reducible refine ext_trans ?_ (by assumption)))), by simp⟩
        have K1 := Lib.hid (K0.call hb)
        obtain ⟨r0, r1, r2, r3, r4, r5, r6, hbw, hlt⟩ := K1.out
        clear hb hc hf hz HI K0
        go_wp2
        go_loopw [6, 7] (fun u i wr => i = .int .i64 0 ∧ u = .int .i64 0 ∧ wr = w1) (fun _ i _ => 0)
        case atStart => exact ⟨rfl, rfl, rfl⟩
        case round =>
          obtain ⟨rfl, rfl, hwr⟩ := hrel
          subst hwr
          by_cases h0 : 0 < n
          · obtain ⟨bi, oi, rfl, hbi, hxi⟩ := HX.out h0
            have y0 := (hbw.cell (by exact hbi)).trans (hxi 0 h0)
            rw [Nat.add_zero] at y0
            have hI : (0 : Int) < (n : Int) := by omega
            have HRl := Lib.hid (fun (w1 : World) => l01In_any (iv xs 0) 0 1 w1)
            clear hxi
            cases hin : inB (iv xs 0) 0 1
            all_goals
              rw [hin] at HRl
              clear hin
              go_wp2_with (go_at_call 21; refine (HRl.out _).mono ?_; rintro e w2 ⟨rfl, hw2⟩; rw [hw2]; clear hw2 w2)
              exact bodyPost_ret (v := .tuple #[.int .i64 0, .int .i64 2]) (by simp [results, Try.results7, go_sem]) rfl ⟨rfl, by (repeat (first | (with_reducible exact Below.refl _ _) | (with_reducible assumption) | (with_reducible refine ext_alloc ?_ _) | (with_reducible refine ext_drew ?_) | (with_reducible refine ext_drewN ?_ _) | (with_reducible refine ext_set ?_ (by first | exact Nat.le_refl _ | (simp; done) | (simp; omega) | omega) _) | (with_reducible refine ext_trans ?_ (by assumption))))⟩
          · obtain rfl : n = 0 := by omega
            go_wp2
            exact bodyPost_ret (v := .tuple #[.int .i64 0, .int .i64 2]) (by simp [results, Try.results7, go_sem]) rfl ⟨rfl, by (repeat (first | (with_reducible exact Below.refl _ _) | (with_reducible assumption) | (with_reducible refine ext_alloc ?_ _) | (with_reducible refine ext_drew ?_) | (with_reducible refine ext_drewN ?_ _) | (with_reducible refine ext_set ?_ (by first | exact Nat.le_refl _ | (simp; done) | (simp; omega) | omega) _) | (with_reducible refine ext_trans ?_ (by assumption))))⟩
    · rw [(gv_kind hcb hk).1, (gv_kind hcb hk).2]
      have hkb : (c.kind != 1) = true := by simpa using hk
      clear hcb hxv
      go_enter Try.func7, Try.ntmps7
      go_wp2_with (go_at_call 20; refine (HI.out _ (by (repeat (first | (with_reducible exact Below.refl _ _) | (with_reducible assumption) | (with_reducible refine ext_alloc ?_ _) | (with_reducible refine ext_drew ?_) | (with_reducible refine ext_drewN ?_ _) | (with_reducible refine ext_set ?_ (by first | exact Nat.le_refl _ | (simp; done) | (simp; omega) | omega) _) | (with_reducible refine ext_trans ?_ (by assumption)))))).mono ?_; rintro e w1 ⟨rfl, hb⟩; obtain ⟨hc, hf⟩ := bcell hb; have hz := hb.size; (try simp at hz); (try (have hz := Nat.lt_of_succ_le hz)); (try (have y0 : w.heap.size ≤ w1.heap.size := by omega)); (try (have z0 : w.heap.size < w1.heap.size := by omega)); (try (have z1 : w.heap.size + 1 < w1.heap.size := by omega)); (try (have z2 : w.heap.size + 1 + 1 < w1.heap.size := by omega)); (try (have z3 : w.heap.size + 1 + 1 + 1 < w1.heap.size := by omega)); (try (have z4 : w.heap.size + 1 + 1 + 1 + 1 < w1.heap.size := by omega)); (try (have x0 : wc.heap.size < w1.heap.size := by omega)); (try (have x1 : wc.heap.size ≤ w1.heap.size := by omega)))
      exact bodyPost_ret (v := .tuple #[.int .i64 0, .int .i64 5]) (by simp [results, Try.results7, go_sem]) rfl ⟨rfl, by (repeat (first | (with_reducible exact Below.refl _ _) | (with_reducible assumption) | (with_reducible refine ext_alloc ?_ _) | (with_reducible refine ext_drew ?_) | (with_reducible refine ext_drewN ?_ _) | (with_reducible refine ext_set ?_ (by first | exact Nat.le_refl _ | (simp; done) | (simp; omega) | omega) _) | (with_reducible refine ext_trans ?_ (by assumption))))⟩
end Go.Proofs.Ytnmjfbloedmgeab
