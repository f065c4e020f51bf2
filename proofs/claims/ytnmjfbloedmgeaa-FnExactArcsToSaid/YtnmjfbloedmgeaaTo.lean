/-
ArcsTo: the model's and the program's own, for all cells, pins and kinds.
-/
import Derived.Test.YtnmjfbloedmgeaaCellS
import Derived.Test.YtnmjfbloedmgeaaCell
import Derived.Test.YtnmjfbloedmgeaaGrow
namespace Go.Proofs.Ytnmjfbloedmgeaa
open Go.ChangeShapes Go.WideShapes Go.ChangeAt Go.RowKit
set_option linter.unusedVariables false
set_option linter.unusedSimpArgs false
/-- The arcs of a kind with this end among the first k. -/
def arcL (aa : List ArcD) (p q : Int) : Nat → List Int
  | 0 => []
  | k + 1 => if ((an aa k).dst == p) && ((an aa k).kind == q) then arcL aa p q k ++ [(k : Int)] else arcL aa p q k
theorem arcL_len (aa : List ArcD) (p q : Int) : ∀ k, (arcL aa p q k).length ≤ k
  | 0 => by simp [arcL]
  | k + 1 => by
    have := arcL_len aa p q k
    unfold arcL
    split
    · simp; omega
    · omega
theorem arcL_yes {aa : List ArcD} {p q : Int} {k : Nat} (h : ((an aa k).dst == p) = true) (h' : ((an aa k).kind == q) = true) : arcL aa p q (k + 1) = arcL aa p q k ++ [(k : Int)] := by simp [arcL, h, h']
theorem arcL_no1 {aa : List ArcD} {p q : Int} {k : Nat} (h : ((an aa k).dst == p) = false) : arcL aa p q (k + 1) = arcL aa p q k := by simp [arcL, h]
theorem arcL_no2 {aa : List ArcD} {p q : Int} {k : Nat} (h : ((an aa k).kind == q) = false) : arcL aa p q (k + 1) = arcL aa p q k := by simp [arcL, h]
def toV (c : CellD) (p q : Int) : List Int := if cellB c then arcL c.arcs p q c.arcs.length else []
theorem to_no {c : CellD} {p q : Int} (h : cellB c = false) : toV c p q = [] := by simp [toV, h]
theorem to_yes {c : CellD} {p q : Int} (h : cellB c = true) : toV c p q = arcL c.arcs p q c.arcs.length := by simp [toV, h]
theorem cell_arcs8 {c : CellD} (h : cellB c = true) : c.arcs.length ≤ 8 := (arcs_get (cell_get h).2.2.1).1
theorem Bx.low {w w1 w2 : World} {v0 v1 v2 v3 v4 v5 v6 : Value} (h : Bx w w1 v0 v1 v2 v3 v4 v5 v6) (hb : Below (w.heap.size + 1) w1 w2) : Bx w w2 v0 v1 v2 v3 v4 v5 v6 := by
  obtain ⟨r0, r1, r2, r3, r4, r5, r6, hbw, hs⟩ := h
  have hc : ∀ o, w2.cell? ⟨w.heap.size, o, none⟩ = w1.cell? ⟨w.heap.size, o, none⟩ := fun o => hb.cell (by show w.heap.size < _; omega)
  exact ⟨by rw [hc]; exact r0, by rw [hc]; exact r1, by rw [hc]; exact r2, by rw [hc]; exact r3, by rw [hc]; exact r4, by rw [hc]; exact r5, by rw [hc]; exact r6, hbw.trans (hb.mono (Nat.le_succ _)), Nat.lt_of_lt_of_le hs hb.size⟩
/-- A list of its own. -/
def NewI (xs : List Int) (w : World) (e : Ending) (w' : World) : Prop := ∃ v : Value, e = .returned v ∧ OwnS w' w.heap.size v xs ∧ Below w.heap.size w w'
set_option maxRecDepth 100000 in
set_option maxHeartbeats 2000000 in
theorem implArcsTo_any (f : Nat → Value) (c : CellD) (p q : Int) (w : World) (h : CellF w w.heap.size f c) : Calls Try.prog 26 #[.agg #[f 0, f 1, f 2, f 3, f 4, f 5, f 6], .int .i64 p, .int .i64 q] w (NewI (toV c p q) w) := by
  obtain ⟨i0, hi, hz0, hz1, hz2⟩ := info_parts Try.infoG
  obtain ⟨e0, e1, x2, x3, x4, e5, e6, hsz⟩ := h
  obtain ⟨p2, q2, e2⟩ := x2.slice; obtain ⟨p3, q3, e3⟩ := x3.slice; obtain ⟨p4, q4, e4⟩ := x4.slice
  rw [e2] at x2; rw [e3] at x3; rw [e4] at x4
  rw [e0, e1, e2, e3, e4, e5, e6]
  have HV := Lib.hid (show CellF w w.heap.size (vec [.string c.name, .int .i64 c.kind, .slice p2 c.pins.length q2, .slice p3 c.arcs.length q3, .slice p4 c.truth.length q4, .int .i64 c.leak, .int .i64 c.energy]) c from ⟨rfl, rfl, x2, x3, x4, rfl, rfl, hsz⟩)
  have X3 := Lib.hid x3
  have HI := Lib.hid (fun (w1 : World) (hb : Below w.heap.size w w1) => (show Calls Try.prog 12 #[.agg #[.string c.name, .int .i64 c.kind, .slice p2 c.pins.length q2, .slice p3 c.arcs.length q3, .slice p4 c.truth.length q4, .int .i64 c.leak, .int .i64 c.energy]] w1 _ from implIsCell_any (vec [.string c.name, .int .i64 c.kind, .slice p2 c.pins.length q2, .slice p3 c.arcs.length q3, .slice p4 c.truth.length q4, .int .i64 c.leak, .int .i64 c.energy]) c w1 (HV.out.up hb)))
  clear x2 x3 x4 e0 e1 e2 e3 e4 e5 e6 hsz HV
  cases hcb : cellB c
  · rw [to_no hcb]
    rw [hcb] at HI
    go_enter Try.func26, Try.ntmps26
    go_wp2_with (go_at_call 12; refine (HI.out _ (by (repeat (first | (with_reducible exact Below.refl _ _) | (with_reducible assumption) | (with_reducible refine ext_alloc ?_ _) | (with_reducible refine ext_drew ?_) | (with_reducible refine ext_drewN ?_ _) | (with_reducible refine ext_set ?_ (by first | exact Nat.le_refl _ | (simp; done) | (simp; omega) | omega) _) | (with_reducible refine ext_trans ?_ (by assumption)))))).mono ?_; rintro e w1 ⟨rfl, hb⟩; obtain ⟨hc, hf⟩ := bcell hb; have hz := hb.size; (try simp at hz); (try (have hz := Nat.lt_of_succ_le hz)); (try (have y0 : w.heap.size ≤ w1.heap.size := by omega)); (try (have z0 : w.heap.size < w1.heap.size := by omega)); (try (have z1 : w.heap.size + 1 < w1.heap.size := by omega)); (try (have z2 : w.heap.size + 1 + 1 < w1.heap.size := by omega)); (try (have z3 : w.heap.size + 1 + 1 + 1 < w1.heap.size := by omega)); (try (have z4 : w.heap.size + 1 + 1 + 1 + 1 < w1.heap.size := by omega)); (try (have x0 : wc.heap.size < w1.heap.size := by omega)); (try (have x1 : wc.heap.size ≤ w1.heap.size := by omega)))
    exact bodyPost_ret (v := .slice none 0 0) (by simp [results, Try.results26, go_sem]) rfl ⟨_, rfl, own_empty _ _ _ _, by (repeat (first | (with_reducible exact Below.refl _ _) | (with_reducible assumption) | (with_reducible refine ext_alloc ?_ _) | (with_reducible refine ext_drew ?_) | (with_reducible refine ext_drewN ?_ _) | (with_reducible refine ext_set ?_ (by first | exact Nat.le_refl _ | (simp; done) | (simp; omega) | omega) _) | (with_reducible refine ext_trans ?_ (by assumption))))⟩
  · rw [to_yes hcb]
    rw [hcb] at HI
    have a8 := cell_arcs8 hcb
    obtain ⟨F, hc, hf⟩ := X3.out
    obtain ⟨n, hnn⟩ : ∃ n, n = c.arcs.length := ⟨_, rfl⟩
    rw [← hnn] at hc hf a8 HI ⊢
    have HC := Lib.hid hc; have HF := Lib.hid hf
    clear hc hf hcb hnn X3
    go_enter Try.func26, Try.ntmps26
    go_wp2_with (go_at_call 12; refine (HI.out _ (by (repeat (first | (with_reducible exact Below.refl _ _) | (with_reducible assumption) | (with_reducible refine ext_alloc ?_ _) | (with_reducible refine ext_drew ?_) | (with_reducible refine ext_drewN ?_ _) | (with_reducible refine ext_set ?_ (by first | exact Nat.le_refl _ | (simp; done) | (simp; omega) | omega) _) | (with_reducible refine ext_trans ?_ (by assumption)))))).mono ?_; rintro e w1 ⟨rfl, hb⟩; obtain ⟨hc, hf⟩ := bcell hb; have hz := hb.size; (try simp at hz); (try (have hz := Nat.lt_of_succ_le hz)); (try (have y0 : w.heap.size ≤ w1.heap.size := by omega)); (try (have z0 : w.heap.size < w1.heap.size := by omega)); (try (have z1 : w.heap.size + 1 < w1.heap.size := by omega)); (try (have z2 : w.heap.size + 1 + 1 < w1.heap.size := by omega)); (try (have z3 : w.heap.size + 1 + 1 + 1 < w1.heap.size := by omega)); (try (have z4 : w.heap.size + 1 + 1 + 1 + 1 < w1.heap.size := by omega)); (try (have x0 : wc.heap.size < w1.heap.size := by omega)); (try (have x1 : wc.heap.size ≤ w1.heap.size := by omega)))
    go_loopw [16, 7] (fun i v wr => ∃ k : Nat, k ≤ n ∧ i = .int .i64 k ∧ Hid (GI wr w.heap.size v (arcL c.arcs p q k)) ∧ Below w.heap.size w wr) (fun i _ _ => n - (intOf i).toNat)
    case atStart => exact ⟨0, by omega, rfl, Lib.hid (GI.nil _ _), by (repeat (first | (with_reducible exact Below.refl _ _) | (with_reducible assumption) | (with_reducible refine ext_alloc ?_ _) | (with_reducible refine ext_drew ?_) | (with_reducible refine ext_drewN ?_ _) | (with_reducible refine ext_set ?_ (by first | exact Nat.le_refl _ | (simp; done) | (simp; omega) | omega) _) | (with_reducible refine ext_trans ?_ (by assumption))))⟩
    case round =>
      obtain ⟨k, hk, rfl, O, hbw⟩ := hrel
      by_cases hkn : k < n
      · obtain ⟨b, off, rfl, hlt, hx⟩ := HC.out.at hbw hkn
        have y0 := hx 0 (by omega); have y1 := hx 1 (by omega); have y2 := hx 2 (by omega); have y3 := hx 3 (by omega); have y4 := hx 4 (by omega); have y5 := hx 5 (by omega)
        simp only [Nat.add_zero] at y0
        have ⟨e0, e1, e2, e3, x4, x5⟩ := (HF.out k hkn).up hbw
        obtain ⟨p4', q4', e4⟩ := x4.slice; obtain ⟨p5', q5', e5⟩ := x5.slice
        rw [e0] at y0; rw [e1] at y1; rw [e2] at y2; rw [e3] at y3; rw [e4] at y4; rw [e5] at y5
        have hI : (k : Int) < (n : Int) := by omega
        have i0' : (0 : Int) ≤ (k : Int) := by omega
        have hsz := hbw.size
        have hll := arcL_len c.arcs p q k
        clear hx e0 e1 e2 e3 e4 e5 x4 x5
        cases hd : ((an c.arcs k).dst == p)
        · have O1 := Lib.hid (show ∀ wx, Below wr.heap.size wr wx → GI wx w.heap.size _ (arcL c.arcs p q (k + 1)) by rw [arcL_no1 hd]; exact fun wx hb => O.out.below hb)
          clear O
          go_wp2
          go_roundw
          case rel => exact ⟨k + 1, by omega, by go_num, Lib.hid (O1.out _ (by (repeat (first | (with_reducible exact Below.refl _ _) | (with_reducible assumption) | (with_reducible refine ext_alloc ?_ _) | (with_reducible refine ext_drew ?_) | (with_reducible refine ext_drewN ?_ _) | (with_reducible refine ext_set ?_ (by first | exact Nat.le_refl _ | (simp; done) | (simp; omega) | omega) _) | (with_reducible refine ext_trans ?_ (by assumption)))))), by (repeat (first | (with_reducible exact Below.refl _ _) | (with_reducible assumption) | (with_reducible refine ext_alloc ?_ _) | (with_reducible refine ext_drew ?_) | (with_reducible refine ext_drewN ?_ _) | (with_reducible refine ext_set ?_ (by first | exact Nat.le_refl _ | (simp; done) | (simp; omega) | omega) _) | (with_reducible refine ext_trans ?_ (by assumption))))⟩
          case measure => simp [intOf]; omega
        · cases hq : ((an c.arcs k).kind == q)
          · have O1 := Lib.hid (show ∀ wx, Below wr.heap.size wr wx → GI wx w.heap.size _ (arcL c.arcs p q (k + 1)) by rw [arcL_no2 hq]; exact fun wx hb => O.out.below hb)
            clear O
            go_wp2
            go_roundw
            case rel => exact ⟨k + 1, by omega, by go_num, Lib.hid (O1.out _ (by (repeat (first | (with_reducible exact Below.refl _ _) | (with_reducible assumption) | (with_reducible refine ext_alloc ?_ _) | (with_reducible refine ext_drew ?_) | (with_reducible refine ext_drewN ?_ _) | (with_reducible refine ext_set ?_ (by first | exact Nat.le_refl _ | (simp; done) | (simp; omega) | omega) _) | (with_reducible refine ext_trans ?_ (by assumption)))))), by (repeat (first | (with_reducible exact Below.refl _ _) | (with_reducible assumption) | (with_reducible refine ext_alloc ?_ _) | (with_reducible refine ext_drew ?_) | (with_reducible refine ext_drewN ?_ _) | (with_reducible refine ext_set ?_ (by first | exact Nat.le_refl _ | (simp; done) | (simp; omega) | omega) _) | (with_reducible refine ext_trans ?_ (by assumption))))⟩
            case measure => simp [intOf]; omega
          · have hblk := O.out.blk
            go_wp2_with (at_builtin; refine wpList_append_own _ rfl _ _ 24 rfl w.heap.size 2 i0 (.int .i64 0) 1 8 Try.underlying24 hi hz0 hz1 hz2 rfl (by decide) _ _ _ rfl (GI.below O.out (by (repeat (first | (with_reducible exact Below.refl _ _) | (with_reducible assumption) | (with_reducible refine ext_alloc ?_ _) | (with_reducible refine ext_drew ?_) | (with_reducible refine ext_drewN ?_ _) | (with_reducible refine ext_set ?_ (by first | exact Nat.le_refl _ | (simp; done) | (simp; omega) | omega) _) | (with_reducible refine ext_trans ?_ (by assumption)))))) ⟨_, 0, none⟩ 1 1 [.int .i64 k] rfl rfl (one_cellG2 _ _ _ _ (by simp)) (fun u hu => by simp at hu; subst hu; rfl) (by unfold maxLen; omega) (by omega) (by simp; omega) ?_; intro v' w1 hown' hgrow hnil)
            have O1 := Lib.hid (show GI w1 w.heap.size v' (arcL c.arcs p q (k + 1)) by rw [arcL_yes hd hq]; simpa [GI] using hown')
            have B1 : Below w.heap.size w w1 := grown_in (by (repeat (first | (with_reducible exact Below.refl _ _) | (with_reducible assumption) | (with_reducible refine ext_alloc ?_ _) | (with_reducible refine ext_drew ?_) | (with_reducible refine ext_drewN ?_ _) | (with_reducible refine ext_set ?_ (by first | exact Nat.le_refl _ | (simp; done) | (simp; omega) | omega) _) | (with_reducible refine ext_trans ?_ (by assumption))))) (by simp; omega) hgrow hblk
            clear hown' hgrow hnil hblk O
            go_wp2
            go_roundw
            case rel => exact ⟨k + 1, by omega, by go_num, O1, B1⟩
            case measure => simp [intOf]; omega
      · obtain rfl : k = n := by omega
        have hI : ¬ (k : Int) < (k : Int) := by omega
        go_wp2
        go_ret
        exact ⟨_, rfl, O.out.own (by have := arcL_len c.arcs p q k; omega), hbw⟩
set_option maxRecDepth 100000 in
set_option maxHeartbeats 2000000 in
theorem specArcsTo_any (f : Nat → Value) (c : CellD) (p q : Int) (w : World) (h : CellF w w.heap.size f c) : Calls Try.prog 25 #[.agg #[f 0, f 1, f 2, f 3, f 4, f 5, f 6], .int .i64 p, .int .i64 q] w (NewI (toV c p q) w) := by
  obtain ⟨i0, hi, hz0, hz1, hz2⟩ := info_parts Try.infoG
  obtain ⟨e0, e1, x2, x3, x4, e5, e6, hsz⟩ := h
  obtain ⟨p2, q2, e2⟩ := x2.slice; obtain ⟨p3, q3, e3⟩ := x3.slice; obtain ⟨p4, q4, e4⟩ := x4.slice
  rw [e2] at x2; rw [e3] at x3; rw [e4] at x4
  rw [e0, e1, e2, e3, e4, e5, e6]
  have HV := Lib.hid (show CellF w w.heap.size (vec [.string c.name, .int .i64 c.kind, .slice p2 c.pins.length q2, .slice p3 c.arcs.length q3, .slice p4 c.truth.length q4, .int .i64 c.leak, .int .i64 c.energy]) c from ⟨rfl, rfl, x2, x3, x4, rfl, rfl, hsz⟩)
  have X3 := Lib.hid x3
  have HI := Lib.hid (fun (w1 : World) (hb : Below w.heap.size w w1) => (show Calls Try.prog 10 #[.agg #[.string c.name, .int .i64 c.kind, .slice p2 c.pins.length q2, .slice p3 c.arcs.length q3, .slice p4 c.truth.length q4, .int .i64 c.leak, .int .i64 c.energy]] w1 _ from specIsCell_any (vec [.string c.name, .int .i64 c.kind, .slice p2 c.pins.length q2, .slice p3 c.arcs.length q3, .slice p4 c.truth.length q4, .int .i64 c.leak, .int .i64 c.energy]) c w1 (HV.out.up hb)))
  clear x2 x3 x4 e0 e1 e2 e3 e4 e5 e6 hsz HV
  have HB0 := Lib.hid (show Bx w (w.alloc (Obj.cells #[.string c.name, .int .i64 c.kind, .slice p2 c.pins.length q2, .slice p3 c.arcs.length q3, .slice p4 c.truth.length q4, .int .i64 c.leak, .int .i64 c.energy] 32)) (.string c.name) (.int .i64 c.kind) (.slice p2 c.pins.length q2) (.slice p3 c.arcs.length q3) (.slice p4 c.truth.length q4) (.int .i64 c.leak) (.int .i64 c.energy) from ⟨by simp [go_sem], by simp [go_sem], by simp [go_sem], by simp [go_sem], by simp [go_sem], by simp [go_sem], by simp [go_sem], by (repeat (first | (with_reducible exact Below.refl _ _) | (with_reducible assumption) | (with_reducible refine ext_alloc ?_ _) | (with_reducible refine ext_drew ?_) | (with_reducible refine ext_drewN ?_ _) | (with_reducible refine ext_set ?_ (by first | exact Nat.le_refl _ | (simp; done) | (simp; omega) | omega) _) | (with_reducible refine ext_trans ?_ (by assumption)))), by simp⟩)
  cases hcb : cellB c
  · rw [to_no hcb]
    rw [hcb] at HI
    have hn0 : c.arcs.length = 0 ∨ 0 < c.arcs.length := by omega
    obtain ⟨n, hnn⟩ : ∃ n, n = c.arcs.length := ⟨_, rfl⟩
    rw [← hnn] at HI HB0 hn0 ⊢
    have G0 := Lib.hid (GI.lit (w.alloc (Obj.cells #[.string c.name, .int .i64 c.kind, .slice p2 c.pins.length q2, .slice p3 n q3, .slice p4 c.truth.length q4, .int .i64 c.leak, .int .i64 c.energy] 32)) (w.heap.size + 1) (w.heap.size + 1) (by simp) (by simp) 2 rfl)
    clear hnn X3
    go_enter Try.func25, Try.ntmps25
    go_wp2
    go_loopw [8, 7] (fun i v wr => i = .int .i64 0 ∧ Hid (GI wr (w.heap.size + 1) v []) ∧ Hid (Bx w wr (.string c.name) (.int .i64 c.kind) (.slice p2 c.pins.length q2) (.slice p3 n q3) (.slice p4 c.truth.length q4) (.int .i64 c.leak) (.int .i64 c.energy))) (fun i _ _ => 0)
    case atStart => exact ⟨rfl, G0, Lib.hid (Bx.alloc HB0.out _)⟩
    case round =>
      clear HB0 G0
      obtain ⟨rfl, O, HB⟩ := hrel
      have ⟨r0, r1, r2, r3, r4, r5, r6, hbw, hsw⟩ := HB.out
      rcases hn0 with rfl | hn0
      · go_wp2
        go_ret
        exact ⟨_, rfl, (O.out.own (by simp)).mono (Nat.le_succ _), hbw⟩
      · have hnI : (0 : Int) < (n : Int) := by omega
        go_wp2_with (go_at_call 10; refine (HI.out _ (by (repeat (first | (with_reducible exact Below.refl _ _) | (with_reducible assumption) | (with_reducible refine ext_alloc ?_ _) | (with_reducible refine ext_drew ?_) | (with_reducible refine ext_drewN ?_ _) | (with_reducible refine ext_set ?_ (by first | exact Nat.le_refl _ | (simp; done) | (simp; omega) | omega) _) | (with_reducible refine ext_trans ?_ (by assumption)))))).mono ?_; rintro e w1 ⟨rfl, hb⟩; obtain ⟨hc, hf⟩ := bcell hb; have hz := hb.size; (try simp at hz); (try (have hz := Nat.lt_of_succ_le hz)); (try (have y0 : w.heap.size ≤ w1.heap.size := by omega)); (try (have z0 : w.heap.size < w1.heap.size := by omega)); (try (have z1 : w.heap.size + 1 < w1.heap.size := by omega)); (try (have z2 : w.heap.size + 1 + 1 < w1.heap.size := by omega)); (try (have z3 : w.heap.size + 1 + 1 + 1 < w1.heap.size := by omega)); (try (have z4 : w.heap.size + 1 + 1 + 1 + 1 < w1.heap.size := by omega)); (try (have x0 : wc.heap.size < w1.heap.size := by omega)); (try (have x1 : wc.heap.size ≤ w1.heap.size := by omega)))
        go_ret
        exact ⟨_, rfl, ((GI.below O.out hb).own (by simp)).mono (Nat.le_succ _), by (repeat (first | (with_reducible exact Below.refl _ _) | (with_reducible assumption) | (with_reducible refine ext_alloc ?_ _) | (with_reducible refine ext_drew ?_) | (with_reducible refine ext_drewN ?_ _) | (with_reducible refine ext_set ?_ (by first | exact Nat.le_refl _ | (simp; done) | (simp; omega) | omega) _) | (with_reducible refine ext_trans ?_ (by assumption))))⟩
  · rw [to_yes hcb]
    rw [hcb] at HI
    have a8 := cell_arcs8 hcb
    obtain ⟨F, hc, hf⟩ := X3.out
    obtain ⟨n, hnn⟩ : ∃ n, n = c.arcs.length := ⟨_, rfl⟩
    rw [← hnn] at hc hf a8 HI HB0 ⊢
    have HC := Lib.hid hc; have HF := Lib.hid hf
    clear hc hf hcb hnn X3
    have G0 := Lib.hid (GI.lit (w.alloc (Obj.cells #[.string c.name, .int .i64 c.kind, .slice p2 c.pins.length q2, .slice p3 n q3, .slice p4 c.truth.length q4, .int .i64 c.leak, .int .i64 c.energy] 32)) (w.heap.size + 1) (w.heap.size + 1) (by simp) (by simp) 2 rfl)
    go_enter Try.func25, Try.ntmps25
    go_wp2
    go_loopw [8, 7] (fun i v wr => ∃ k : Nat, k ≤ n ∧ i = .int .i64 k ∧ Hid (GI wr (w.heap.size + 1) v (arcL c.arcs p q k)) ∧ Hid (Bx w wr (.string c.name) (.int .i64 c.kind) (.slice p2 c.pins.length q2) (.slice p3 n q3) (.slice p4 c.truth.length q4) (.int .i64 c.leak) (.int .i64 c.energy))) (fun i _ _ => n - (intOf i).toNat)
    case atStart => exact ⟨0, by omega, rfl, G0, Lib.hid (Bx.alloc HB0.out _)⟩
    case round =>
      clear HB0 G0
      obtain ⟨k, hk, rfl, O, HB⟩ := hrel
      have ⟨r0, r1, r2, r3, r4, r5, r6, hbw, hsw⟩ := HB.out
      by_cases hkn : k < n
      · have hI : (k : Int) < (n : Int) := by omega
        have i0' : (0 : Int) ≤ (k : Int) := by omega
        go_upto_region 5 with (go_at_call 10; refine (HI.out _ (by (repeat (first | (with_reducible exact Below.refl _ _) | (with_reducible assumption) | (with_reducible refine ext_alloc ?_ _) | (with_reducible refine ext_drew ?_) | (with_reducible refine ext_drewN ?_ _) | (with_reducible refine ext_set ?_ (by first | exact Nat.le_refl _ | (simp; done) | (simp; omega) | omega) _) | (with_reducible refine ext_trans ?_ (by assumption)))))).mono ?_; rintro e w1 ⟨rfl, hb⟩)
        have HB1 := Lib.hid (Bx.call HB.out hb)
        have O1 := Lib.hid (GI.below O.out hb)
        clear r0 r1 r2 r3 r4 r5 r6 hbw hsw HB O hb
        have ⟨r0, r1, r2, r3, r4, r5, r6, hbw, hsw⟩ := HB1.out
        obtain ⟨b, off, rfl, hlt, hx⟩ := HC.out.at hbw hkn
        have y0 := hx 0 (by omega); have y1 := hx 1 (by omega); have y2 := hx 2 (by omega); have y3 := hx 3 (by omega); have y4 := hx 4 (by omega); have y5 := hx 5 (by omega)
        simp only [Nat.add_zero] at y0
        have ⟨e0, e1, e2, e3, x4, x5⟩ := (HF.out k hkn).up hbw
        obtain ⟨p4', q4', e4⟩ := x4.slice; obtain ⟨p5', q5', e5⟩ := x5.slice
        rw [e0] at y0; rw [e1] at y1; rw [e2] at y2; rw [e3] at y3; rw [e4] at y4; rw [e5] at y5
        have hsz := hbw.size
        have hll := arcL_len c.arcs p q k
        clear hx e0 e1 e2 e3 e4 e5 x4 x5
        cases hd : ((an c.arcs k).dst == p)
        · have O2 := Lib.hid (show GI w1 (w.heap.size + 1) _ (arcL c.arcs p q (k + 1)) by rw [arcL_no1 hd]; exact O1.out)
          clear O1
          go_wp2
          go_roundw
          case rel => exact ⟨k + 1, by omega, by go_num, O2, HB1⟩
          case measure => simp [intOf]; omega
        · cases hq : ((an c.arcs k).kind == q)
          · have O2 := Lib.hid (show GI w1 (w.heap.size + 1) _ (arcL c.arcs p q (k + 1)) by rw [arcL_no2 hq]; exact O1.out)
            clear O1
            go_wp2
            go_roundw
            case rel => exact ⟨k + 1, by omega, by go_num, O2, HB1⟩
            case measure => simp [intOf]; omega
          · have hblk := O1.out.blk
            go_wp2_with (at_builtin; refine wpList_append_own _ rfl _ _ 24 rfl (w.heap.size + 1) 2 i0 (.int .i64 0) 1 8 Try.underlying24 hi hz0 hz1 hz2 rfl (by decide) _ _ _ rfl (GI.below O1.out (by (repeat (first | (with_reducible exact Below.refl _ _) | (with_reducible assumption) | (with_reducible refine ext_alloc ?_ _) | (with_reducible refine ext_drew ?_) | (with_reducible refine ext_drewN ?_ _) | (with_reducible refine ext_set ?_ (by first | exact Nat.le_refl _ | (simp; done) | (simp; omega) | omega) _) | (with_reducible refine ext_trans ?_ (by assumption)))))) ⟨_, 0, none⟩ 1 1 [.int .i64 k] rfl rfl (one_cellG2 _ _ _ _ (by simp)) (fun u hu => by simp at hu; subst hu; rfl) (by unfold maxLen; omega) (by omega) (by simp; omega) ?_; intro v' w2 hown' hgrow hnil)
            have O2 := Lib.hid (show GI w2 (w.heap.size + 1) v' (arcL c.arcs p q (k + 1)) by rw [arcL_yes hd hq]; simpa [GI] using hown')
            have HB2 := Lib.hid (Bx.low HB1.out (grown_in (by (exact (Below.refl _ _).alloc (by omega) _)) (by simp; omega) hgrow hblk))
            clear hown' hgrow hnil hblk O1 HB1
            go_wp2
            go_roundw
            case rel => exact ⟨k + 1, by omega, by go_num, O2, HB2⟩
            case measure => simp [intOf]; omega
      · obtain rfl : k = n := by omega
        have hI : ¬ (k : Int) < (k : Int) := by omega
        go_wp2
        go_ret
        exact ⟨_, rfl, (O.out.own (by have := arcL_len c.arcs p q k; omega)).mono (Nat.le_succ _), hbw⟩
end Go.Proofs.Ytnmjfbloedmgeaa
