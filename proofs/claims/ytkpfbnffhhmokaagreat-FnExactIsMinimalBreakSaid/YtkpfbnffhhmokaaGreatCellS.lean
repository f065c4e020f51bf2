/-
The model's IsCell, for all cells.
-/
import Derived.Test.YtkpfbnffhhmokaaGreatCell
namespace Go.Proofs.YtkpfbnffhhmokaaGreat
open Go.ChangeShapes Go.WideShapes Go.ChangeAt Go.RowKit
set_option linter.unusedVariables false
set_option linter.unusedSimpArgs false
theorem Bx.drewN {w w1 : World} {v0 v1 v2 v3 v4 v5 v6 : Value} (h : Bx w w1 v0 v1 v2 v3 v4 v5 v6) (n : Nat) : Bx w (w1.drewN n) v0 v1 v2 v3 v4 v5 v6 := h.call (ext_drewN (Below.refl _ _) n)
theorem specName_ext (s : ByteArray) (w : World) (hs : s.size ≤ 9223372036854775807) : Calls Tryz.prog 173 #[.string s] w fun e w' => e = .returned (.bool (nameB s)) ∧ Below w.heap.size w w' := by
 refine (specName_any s w hs).mono ?_
 rintro e w' ⟨he, hw'⟩
 rw [hw']
 exact ⟨he, Below.refl _ _⟩
theorem l01In_ext (v lo hi : Int) (w : World) : Calls Tryz.prog 102 #[.int .i64 v, .int .i64 lo, .int .i64 hi] w fun e w' => e = .returned (.bool (inB v lo hi)) ∧ Below w.heap.size w w' := by
 refine (l01In_any v lo hi w).mono ?_
 rintro e w' ⟨he, hw'⟩
 rw [hw']
 exact ⟨he, Below.refl _ _⟩
theorem dif_hit {ts : List ArcD} {q k : Nat} (hq : q < k) (h : ((an ts q).kind == (an ts k).kind && ((an ts q).src == (an ts k).src && (an ts q).dst == (an ts k).dst)) = true) : difAr ts k = false := by
 unfold difAr
 refine allB_no hq ?_
 show (!((an ts q).kind == (an ts k).kind && ((an ts q).src == (an ts k).src && (an ts q).dst == (an ts k).dst))) = false
 rw [h]
 rfl
theorem dif_miss {ts : List ArcD} {k : Nat} (h : ∀ q, q < k → ((an ts q).kind == (an ts k).kind && ((an ts q).src == (an ts k).src && (an ts q).dst == (an ts k).dst)) = false) : difAr ts k = true := by
 unfold difAr
 refine allB_yes (fun j hj => ?_)
 show (!((an ts j).kind == (an ts k).kind && ((an ts j).src == (an ts k).src && (an ts j).dst == (an ts k).dst))) = true
 rw [h j hj]
 rfl
theorem IntS.at {w wr : World} {a : Option Addr} {cap k : Nat} {xs : List Int} (h : IntS w w.heap.size (.slice a xs.length cap) xs) (hb : Below w.heap.size w wr) (hk : k < xs.length) :
  ∃ b off, a = some ⟨b, off, none⟩ ∧ b < w.heap.size ∧ wr.cell? ⟨b, off + k, none⟩ = some (.int .i64 (iv xs k)) := by
 obtain ⟨h0, a', cap', e, h⟩ := h
 injection e with e1 e2 e3
 subst e1 e3
 obtain ⟨b, off, rfl, hlt, hx⟩ := h (by omega)
 exact ⟨b, off, rfl, hlt, by rw [hb.cell (by show b < _; omega)]; exact hx k hk⟩
set_option maxRecDepth 100000 in
set_option maxHeartbeats 16000000 in
theorem specIsCell_any (f : Nat → Value) (c : CellD) (w : World) (h : CellF w w.heap.size f c) : Calls Tryz.prog 172 #[.agg #[f 0, f 1, f 2, f 3, f 4, f 5, f 6]] w fun e w' => e = .returned (.bool (cellB c)) ∧ Below w.heap.size w w' := by
 obtain ⟨e0, e1, x2, x3, x4, e5, e6, hsz⟩ := h
 obtain ⟨p2, q2, e2⟩ := x2.slice; obtain ⟨p3, q3, e3⟩ := x3.slice; obtain ⟨p4, q4, e4⟩ := x4.slice
 rw [e2] at x2; rw [e3] at x3; rw [e4] at x4
 rw [e0, e1, e2, e3, e4, e5, e6]
 have HV := lh (show CellF w w.heap.size (vec [.string c.name, .int .i64 c.kind, .slice p2 c.pins.length q2, .slice p3 c.arcs.length q3, .slice p4 c.truth.length q4, .int .i64 c.leak, .int .i64 c.energy]) c from ⟨rfl, rfl, x2, x3, x4, rfl, rfl, hsz⟩)
 have X3 := lh x3; have X4 := lh x4; have HS := lh hsz
 clear x2 x3 x4 e0 e1 e2 e3 e4 e5 e6 hsz
 have HB0 := lh (show Bx w (w.alloc (Obj.cells #[.string c.name, .int .i64 c.kind, .slice p2 c.pins.length q2, .slice p3 c.arcs.length q3, .slice p4 c.truth.length q4, .int .i64 c.leak, .int .i64 c.energy] 124)) (.string c.name) (.int .i64 c.kind) (.slice p2 c.pins.length q2) (.slice p3 c.arcs.length q3) (.slice p4 c.truth.length q4) (.int .i64 c.leak) (.int .i64 c.energy) from ⟨by simp [go_sem], by simp [go_sem], by simp [go_sem], by simp [go_sem], by simp [go_sem], by simp [go_sem], by simp [go_sem], eX, by simp⟩)
 have HPn := lh (fun (w1 : World) (hb : Below w.heap.size w w1) => (show Calls Tryz.prog 193 #[.agg #[.string c.name, .int .i64 c.kind, .slice p2 c.pins.length q2, .slice p3 c.arcs.length q3, .slice p4 c.truth.length q4, .int .i64 c.leak, .int .i64 c.energy]] w1 _ from specPins_any (vec [.string c.name, .int .i64 c.kind, .slice p2 c.pins.length q2, .slice p3 c.arcs.length q3, .slice p4 c.truth.length q4, .int .i64 c.leak, .int .i64 c.energy]) c w1 (HV.out.up hb)))
 have HNm := lh (fun (w1 : World) => specName_ext c.name w1 HS.out)
 have HLk := lh (fun (w1 : World) => l01In_ext c.leak 0 100000 w1)
 have HEn := lh (fun (w1 : World) => l01In_ext c.energy 0 100000 w1)
 cases hpn : pinsB c.pins
 ·have hQ := lh (cell_pins hpn)
  rw [pinsR_no hpn] at HPn
  clear hpn
  have hB := HB0
  have ⟨r0, r1, r2, r3, r4, r5, r6, _, _⟩ := hB.out
  go_enter Tryz.func172, Tryz.ntmps172
  go_wp2_with (first | (go_at_call 193; with_reducible refine (HPn.out _ hB.out.2.2.2.2.2.2.2.1).mono ?_; rintro e wn ⟨rfl, hb⟩; have hB' := lh (Bx.call hB.out hb); clear hB r0 r1 r2 r3 r4 r5 r6 hb; have hB := hB'; clear hB'; have ⟨r0, r1, r2, r3, r4, r5, r6, _, _⟩ := hB.out) | (go_at_call 173; with_reducible refine (HNm.out _).mono ?_; rintro e wn ⟨rfl, hb⟩; have hB' := lh (Bx.call hB.out hb); clear hB r0 r1 r2 r3 r4 r5 r6 hb; have hB := hB'; clear hB'; have ⟨r0, r1, r2, r3, r4, r5, r6, _, _⟩ := hB.out) | (go_at_call 102; with_reducible refine (HLk.out _).mono ?_; rintro e wn ⟨rfl, hb⟩; have hB' := lh (Bx.call hB.out hb); clear hB r0 r1 r2 r3 r4 r5 r6 hb; have hB := hB'; clear hB'; have ⟨r0, r1, r2, r3, r4, r5, r6, _, _⟩ := hB.out) | (go_at_call 102; with_reducible refine (HEn.out _).mono ?_; rintro e wn ⟨rfl, hb⟩; have hB' := lh (Bx.call hB.out hb); clear hB r0 r1 r2 r3 r4 r5 r6 hb; have hB := hB'; clear hB'; have ⟨r0, r1, r2, r3, r4, r5, r6, _, _⟩ := hB.out))
  rw [hQ.out]
  go_ret
  exact ⟨rfl, hB.out.2.2.2.2.2.2.2.1⟩
 ·rw [pinsR_yes hpn] at HPn
  have HPT := lh hpn
  obtain ⟨X, hX⟩ : ∃ X, X = clk c.pins c.pins.length := ⟨_, rfl⟩
  rw [← hX] at HPn
  have HX := lh hX
  have ⟨n2, n5, _, _⟩ := pins_get hpn
  have hxb : X ≤ 5 := by have := clk_le c.pins c.pins.length; omega
  clear hX
  cases hnm : nameB c.name
  ·have hQ := lh (cell_name hnm)
   rw [hnm] at HNm
   clear hpn hnm
   have hB := HB0
   have ⟨r0, r1, r2, r3, r4, r5, r6, _, _⟩ := hB.out
   go_enter Tryz.func172, Tryz.ntmps172
   go_wp2_with (first | (go_at_call 193; with_reducible refine (HPn.out _ hB.out.2.2.2.2.2.2.2.1).mono ?_; rintro e wn ⟨rfl, hb⟩; have hB' := lh (Bx.call hB.out hb); clear hB r0 r1 r2 r3 r4 r5 r6 hb; have hB := hB'; clear hB'; have ⟨r0, r1, r2, r3, r4, r5, r6, _, _⟩ := hB.out) | (go_at_call 173; with_reducible refine (HNm.out _).mono ?_; rintro e wn ⟨rfl, hb⟩; have hB' := lh (Bx.call hB.out hb); clear hB r0 r1 r2 r3 r4 r5 r6 hb; have hB := hB'; clear hB'; have ⟨r0, r1, r2, r3, r4, r5, r6, _, _⟩ := hB.out) | (go_at_call 102; with_reducible refine (HLk.out _).mono ?_; rintro e wn ⟨rfl, hb⟩; have hB' := lh (Bx.call hB.out hb); clear hB r0 r1 r2 r3 r4 r5 r6 hb; have hB := hB'; clear hB'; have ⟨r0, r1, r2, r3, r4, r5, r6, _, _⟩ := hB.out) | (go_at_call 102; with_reducible refine (HEn.out _).mono ?_; rintro e wn ⟨rfl, hb⟩; have hB' := lh (Bx.call hB.out hb); clear hB r0 r1 r2 r3 r4 r5 r6 hb; have hB := hB'; clear hB'; have ⟨r0, r1, r2, r3, r4, r5, r6, _, _⟩ := hB.out))
   rw [hQ.out]
   go_ret
   exact ⟨rfl, hB.out.2.2.2.2.2.2.2.1⟩
  ·rw [hnm] at HNm
   by_cases c8 : 8 < c.arcs.length
   ·have hQ := lh (cell_arcs (arcs_long (ps := c.pins) c8))
    have c8' : (8 : Int) < (c.arcs.length : Int) := by omega
    clear hpn hnm
    have hB := HB0
    have ⟨r0, r1, r2, r3, r4, r5, r6, _, _⟩ := hB.out
    go_enter Tryz.func172, Tryz.ntmps172
    go_wp2_with (first | (go_at_call 193; with_reducible refine (HPn.out _ hB.out.2.2.2.2.2.2.2.1).mono ?_; rintro e wn ⟨rfl, hb⟩; have hB' := lh (Bx.call hB.out hb); clear hB r0 r1 r2 r3 r4 r5 r6 hb; have hB := hB'; clear hB'; have ⟨r0, r1, r2, r3, r4, r5, r6, _, _⟩ := hB.out) | (go_at_call 173; with_reducible refine (HNm.out _).mono ?_; rintro e wn ⟨rfl, hb⟩; have hB' := lh (Bx.call hB.out hb); clear hB r0 r1 r2 r3 r4 r5 r6 hb; have hB := hB'; clear hB'; have ⟨r0, r1, r2, r3, r4, r5, r6, _, _⟩ := hB.out) | (go_at_call 102; with_reducible refine (HLk.out _).mono ?_; rintro e wn ⟨rfl, hb⟩; have hB' := lh (Bx.call hB.out hb); clear hB r0 r1 r2 r3 r4 r5 r6 hb; have hB := hB'; clear hB'; have ⟨r0, r1, r2, r3, r4, r5, r6, _, _⟩ := hB.out) | (go_at_call 102; with_reducible refine (HEn.out _).mono ?_; rintro e wn ⟨rfl, hb⟩; have hB' := lh (Bx.call hB.out hb); clear hB r0 r1 r2 r3 r4 r5 r6 hb; have hB := hB'; clear hB'; have ⟨r0, r1, r2, r3, r4, r5, r6, _, _⟩ := hB.out))
    rw [hQ.out]
    go_ret
    exact ⟨rfl, hB.out.2.2.2.2.2.2.2.1⟩
   ·have c8' : ¬ (8 : Int) < (c.arcs.length : Int) := by omega
    cases hlk : inB c.leak 0 100000
    ·have hQ := lh (cell_leak hlk)
     rw [hlk] at HLk
     clear hpn hnm hlk
     have hB := HB0
     have ⟨r0, r1, r2, r3, r4, r5, r6, _, _⟩ := hB.out
     go_enter Tryz.func172, Tryz.ntmps172
     go_wp2_with (first | (go_at_call 193; with_reducible refine (HPn.out _ hB.out.2.2.2.2.2.2.2.1).mono ?_; rintro e wn ⟨rfl, hb⟩; have hB' := lh (Bx.call hB.out hb); clear hB r0 r1 r2 r3 r4 r5 r6 hb; have hB := hB'; clear hB'; have ⟨r0, r1, r2, r3, r4, r5, r6, _, _⟩ := hB.out) | (go_at_call 173; with_reducible refine (HNm.out _).mono ?_; rintro e wn ⟨rfl, hb⟩; have hB' := lh (Bx.call hB.out hb); clear hB r0 r1 r2 r3 r4 r5 r6 hb; have hB := hB'; clear hB'; have ⟨r0, r1, r2, r3, r4, r5, r6, _, _⟩ := hB.out) | (go_at_call 102; with_reducible refine (HLk.out _).mono ?_; rintro e wn ⟨rfl, hb⟩; have hB' := lh (Bx.call hB.out hb); clear hB r0 r1 r2 r3 r4 r5 r6 hb; have hB := hB'; clear hB'; have ⟨r0, r1, r2, r3, r4, r5, r6, _, _⟩ := hB.out) | (go_at_call 102; with_reducible refine (HEn.out _).mono ?_; rintro e wn ⟨rfl, hb⟩; have hB' := lh (Bx.call hB.out hb); clear hB r0 r1 r2 r3 r4 r5 r6 hb; have hB := hB'; clear hB'; have ⟨r0, r1, r2, r3, r4, r5, r6, _, _⟩ := hB.out))
     rw [hQ.out]
     go_ret
     exact ⟨rfl, hB.out.2.2.2.2.2.2.2.1⟩
    ·rw [hlk] at HLk
     cases hen : inB c.energy 0 100000
     ·have hQ := lh (cell_energy hen)
      rw [hen] at HEn
      clear hpn hnm hlk hen
      have hB := HB0
      have ⟨r0, r1, r2, r3, r4, r5, r6, _, _⟩ := hB.out
      go_enter Tryz.func172, Tryz.ntmps172
      go_wp2_with (first | (go_at_call 193; with_reducible refine (HPn.out _ hB.out.2.2.2.2.2.2.2.1).mono ?_; rintro e wn ⟨rfl, hb⟩; have hB' := lh (Bx.call hB.out hb); clear hB r0 r1 r2 r3 r4 r5 r6 hb; have hB := hB'; clear hB'; have ⟨r0, r1, r2, r3, r4, r5, r6, _, _⟩ := hB.out) | (go_at_call 173; with_reducible refine (HNm.out _).mono ?_; rintro e wn ⟨rfl, hb⟩; have hB' := lh (Bx.call hB.out hb); clear hB r0 r1 r2 r3 r4 r5 r6 hb; have hB := hB'; clear hB'; have ⟨r0, r1, r2, r3, r4, r5, r6, _, _⟩ := hB.out) | (go_at_call 102; with_reducible refine (HLk.out _).mono ?_; rintro e wn ⟨rfl, hb⟩; have hB' := lh (Bx.call hB.out hb); clear hB r0 r1 r2 r3 r4 r5 r6 hb; have hB := hB'; clear hB'; have ⟨r0, r1, r2, r3, r4, r5, r6, _, _⟩ := hB.out) | (go_at_call 102; with_reducible refine (HEn.out _).mono ?_; rintro e wn ⟨rfl, hb⟩; have hB' := lh (Bx.call hB.out hb); clear hB r0 r1 r2 r3 r4 r5 r6 hb; have hB := hB'; clear hB'; have ⟨r0, r1, r2, r3, r4, r5, r6, _, _⟩ := hB.out))
      rw [hQ.out]
      go_ret
      exact ⟨rfl, hB.out.2.2.2.2.2.2.2.1⟩
     ·rw [hen] at HEn
      have HALL := lh (fun (h4 : arcsB c.pins c.arcs = true) => cell_all hpn hnm hlk hen h4)
      clear hpn hnm hlk hen
      have hB := HB0
      have ⟨r0, r1, r2, r3, r4, r5, r6, _, _⟩ := hB.out
      go_enter Tryz.func172, Tryz.ntmps172
      go_wp2_with (first | (go_at_call 193; with_reducible refine (HPn.out _ hB.out.2.2.2.2.2.2.2.1).mono ?_; rintro e wn ⟨rfl, hb⟩; have hB' := lh (Bx.call hB.out hb); clear hB r0 r1 r2 r3 r4 r5 r6 hb; have hB := hB'; clear hB'; have ⟨r0, r1, r2, r3, r4, r5, r6, _, _⟩ := hB.out) | (go_at_call 173; with_reducible refine (HNm.out _).mono ?_; rintro e wn ⟨rfl, hb⟩; have hB' := lh (Bx.call hB.out hb); clear hB r0 r1 r2 r3 r4 r5 r6 hb; have hB := hB'; clear hB'; have ⟨r0, r1, r2, r3, r4, r5, r6, _, _⟩ := hB.out) | (go_at_call 102; with_reducible refine (HLk.out _).mono ?_; rintro e wn ⟨rfl, hb⟩; have hB' := lh (Bx.call hB.out hb); clear hB r0 r1 r2 r3 r4 r5 r6 hb; have hB := hB'; clear hB'; have ⟨r0, r1, r2, r3, r4, r5, r6, _, _⟩ := hB.out) | (go_at_call 102; with_reducible refine (HEn.out _).mono ?_; rintro e wn ⟨rfl, hb⟩; have hB' := lh (Bx.call hB.out hb); clear hB r0 r1 r2 r3 r4 r5 r6 hb; have hB := hB'; clear hB'; have ⟨r0, r1, r2, r3, r4, r5, r6, _, _⟩ := hB.out))
      clear HPn HNm HLk HEn HB0
      obtain ⟨ts, hts⟩ : ∃ ts, ts = c.arcs := ⟨_, rfl⟩
      obtain ⟨F, hc, hf⟩ := X3.out
      rw [← hts] at hc hf
      have HTS := lh hts
      obtain ⟨n, hnn⟩ : ∃ n, n = ts.length := ⟨_, rfl⟩
      have hnl : c.arcs.length = n := by rw [hnn, hts]
      rw [← hnn] at hc hf
      rw [hnl] at r3 c8 c8'
      have HC := lh (show CellS w w.heap.size (.slice p3 n q3) n 6 F from hnl ▸ hc); have HF := lh hf; have HN := lh hnn
      have HNL := lh hnl
      have hBn := lh (show Bx w wn (.string c.name) (.int .i64 c.kind) (.slice p2 c.pins.length q2) (.slice p3 n q3) (.slice p4 c.truth.length q4) (.int .i64 c.leak) (.int .i64 c.energy) from hnl ▸ hB.out)
      clear hf hc hnn hts hnl hB r0 r1 r2 r3 r4 r5 r6
      go_loopw [5] (fun i wr => ∃ k : Nat, k ≤ n ∧ i = .int .i64 k ∧ Hid (∀ j, j < k → sArc c.pins (an ts j) = true) ∧ Hid (∀ j, j < k → difAr ts j = true) ∧ Hid (Bx w wr (.string c.name) (.int .i64 c.kind) (.slice p2 c.pins.length q2) (.slice p3 n q3) (.slice p4 c.truth.length q4) (.int .i64 c.leak) (.int .i64 c.energy))) (fun i _ => n - (intOf i).toNat)
      case atStart => exact ⟨0, by omega, rfl, lh (fun j hj => absurd hj (Nat.not_lt_zero j)), lh (fun j hj => absurd hj (Nat.not_lt_zero j)), hBn⟩
      case round =>
       clear hBn
       obtain ⟨k, hk, rfl, hall, hdif, hB⟩ := hrel
       have ⟨r0, r1, r2, r3, r4, r5, r6, hbw, hsw⟩ := hB.out
       by_cases hkn : k < n
       ·obtain ⟨b, off, rfl, hlt, hx⟩ := HC.out.at hbw hkn
        have y0 := hx 0 (by omega); have y1 := hx 1 (by omega); have y2 := hx 2 (by omega); have y3 := hx 3 (by omega); have y4 := hx 4 (by omega); have y5 := hx 5 (by omega)
        simp only [Nat.add_zero] at y0
        have ⟨e0, e1, e2, e3, x4, x5⟩ := (HF.out k hkn).up hbw
        obtain ⟨p4', q4', e4⟩ := x4.slice; obtain ⟨p5', q5', e5⟩ := x5.slice
        rw [e4] at x4; rw [e5] at x5
        rw [e0] at y0; rw [e1] at y1; rw [e2] at y2; rw [e3] at y3; rw [e4] at y4; rw [e5] at y5
        have HA := lh (show ArcF wr wr.heap.size (vec [.int .i64 (an ts k).kind, .int .i64 (an ts k).src, .int .i64 (an ts k).dst, .int .i64 (an ts k).sense, .slice p4' (an ts k).delay.length q4', .slice p5' (an ts k).slew.length q5']) (an ts k) from ⟨rfl, rfl, rfl, rfl, x4, x5⟩)
        have HAr := lh (fun (w1 : World) (hb : Below wr.heap.size wr w1) => (show Calls Tryz.prog 194 #[.agg #[.string c.name, .int .i64 c.kind, .slice p2 c.pins.length q2, .slice (some ⟨b, off, none⟩) n q3, .slice p4 c.truth.length q4, .int .i64 c.leak, .int .i64 c.energy], .agg #[.int .i64 (an ts k).kind, .int .i64 (an ts k).src, .int .i64 (an ts k).dst, .int .i64 (an ts k).sense, .slice p4' (an ts k).delay.length q4', .slice p5' (an ts k).slew.length q5']] w1 _ from HNL.out ▸ specArc_any (vec [.string c.name, .int .i64 c.kind, .slice p2 c.pins.length q2, .slice (some ⟨b, off, none⟩) c.arcs.length q3, .slice p4 c.truth.length q4, .int .i64 c.leak, .int .i64 c.energy]) (vec [.int .i64 (an ts k).kind, .int .i64 (an ts k).src, .int .i64 (an ts k).dst, .int .i64 (an ts k).sense, .slice p4' (an ts k).delay.length q4', .slice p5' (an ts k).slew.length q5']) c (an ts k) w1 (HV.out.up (ext_trans hbw hb)) (HA.out.up hb) HPT.out))
        have hI : (k : Int) < (n : Int) := by omega
        have i0 : (0 : Int) ≤ (k : Int) := by omega
        have hBx := lh (fun (w1 : World) (hb : Below (wr.alloc (Obj.cells #[.int .i64 (an ts k).kind, .int .i64 (an ts k).src, .int .i64 (an ts k).dst, .int .i64 (an ts k).sense, .slice p4' (an ts k).delay.length q4', .slice p5' (an ts k).slew.length q5'] 129)).heap.size (wr.alloc (Obj.cells #[.int .i64 (an ts k).kind, .int .i64 (an ts k).src, .int .i64 (an ts k).dst, .int .i64 (an ts k).sense, .slice p4' (an ts k).delay.length q4', .slice p5' (an ts k).slew.length q5'] 129)) w1) => And.intro (Bx.call (Bx.alloc hB.out (Obj.cells #[.int .i64 (an ts k).kind, .int .i64 (an ts k).src, .int .i64 (an ts k).dst, .int .i64 (an ts k).sense, .slice p4' (an ts k).delay.length q4', .slice p5' (an ts k).slew.length q5'] 129)) hb) (And.intro (cell_keep (w0 := wr.alloc (Obj.cells #[.int .i64 (an ts k).kind, .int .i64 (an ts k).src, .int .i64 (an ts k).dst, .int .i64 (an ts k).sense, .slice p4' (an ts k).delay.length q4', .slice p5' (an ts k).slew.length q5'] 129)) (g := wr.heap.size) (o := 0) (v := .int .i64 (an ts k).kind) (by simp [go_sem]) hb) (And.intro (cell_keep (w0 := wr.alloc (Obj.cells #[.int .i64 (an ts k).kind, .int .i64 (an ts k).src, .int .i64 (an ts k).dst, .int .i64 (an ts k).sense, .slice p4' (an ts k).delay.length q4', .slice p5' (an ts k).slew.length q5'] 129)) (g := wr.heap.size) (o := 1) (v := .int .i64 (an ts k).src) (by simp [go_sem]) hb) (cell_keep (w0 := wr.alloc (Obj.cells #[.int .i64 (an ts k).kind, .int .i64 (an ts k).src, .int .i64 (an ts k).dst, .int .i64 (an ts k).sense, .slice p4' (an ts k).delay.length q4', .slice p5' (an ts k).slew.length q5'] 129)) (g := wr.heap.size) (o := 2) (v := .int .i64 (an ts k).dst) (by simp [go_sem]) hb))))
        clear hx e0 e1 e2 e3 e4 e5 x4 x5
        go_wp2_with fail
        go_at_call 194
        refine (HAr.out _ eX).mono ?_
        rintro e w1 ⟨rfl, hb⟩
        obtain ⟨hB1, z0, z1, z2⟩ := hBx.out w1 hb
        have hB1 := lh hB1
        clear r0 r1 r2 r3 r4 r5 r6 y0 y1 y2 y3 y4 y5 hBx HAr HA hb hsw
        have ⟨r0, r1, r2, r3, r4, r5, r6, hbw1, hsw⟩ := hB1.out
        cases hsa : sArc c.pins (an ts k)
        ·have hQ := lh (cell_arcs (arcs_bad (ps := c.pins) (ts := c.arcs) (k := k) (by have := HNL.out; omega) (by rw [← HTS.out]; exact hsa)))
         clear hsa
         go_wp2_with fail
         rw [hQ.out]
         go_ret
         exact ⟨rfl, hbw1⟩
        ·have hok := lh (all_more (p := fun j => sArc c.pins (an ts j) = true) hall.out hsa)
         clear hsa
         have hlw : wr.heap.size < w1.heap.size := cell_lt z0
         go_wp2_with fail
         go_loopw [7] (fun j wi => ∃ q : Nat, q ≤ k ∧ j = .int .i64 q ∧ Hid (∀ r, r < q → ((an ts r).kind == (an ts k).kind && ((an ts r).src == (an ts k).src && (an ts r).dst == (an ts k).dst)) = false) ∧ Hid (Bx w wi (.string c.name) (.int .i64 c.kind) (.slice p2 c.pins.length q2) (.slice (some ⟨b, off, none⟩) n q3) (.slice p4 c.truth.length q4) (.int .i64 c.leak) (.int .i64 c.energy)) ∧
          wi.cell? ⟨wr.heap.size, 0, none⟩ = some (.int .i64 (an ts k).kind) ∧ wi.cell? ⟨wr.heap.size, 1, none⟩ = some (.int .i64 (an ts k).src) ∧ wi.cell? ⟨wr.heap.size, 2, none⟩ = some (.int .i64 (an ts k).dst)) (fun j _ => k - (intOf j).toNat)
         case atStart => exact ⟨0, by omega, rfl, lh (fun j hj => absurd hj (Nat.not_lt_zero j)), hB1, z0, z1, z2⟩
         case round =>
          clear z0 z1 z2 r0 r1 r2 r3 r4 r5 r6 hbw1 hsw hB1
          obtain ⟨q, hq, rfl, hne, hB2, z0, z1, z2⟩ := hrel
          have ⟨r0, r1, r2, r3, r4, r5, r6, hbi, hsi⟩ := hB2.out
          by_cases hqk : q < k
          ·obtain ⟨b', off', e', hlt', hx⟩ := HC.out.at hbi (show q < n by omega)
           obtain ⟨rfl, rfl⟩ : b' = b ∧ off' = off := by simpa using e'.symm
           have u0 := hx 0 (by omega); have u1 := hx 1 (by omega); have u2 := hx 2 (by omega)
           simp only [Nat.add_zero] at u0
           have ⟨d0, d1, d2, _⟩ := HF.out q (by omega)
           rw [d0] at u0; rw [d1] at u1; rw [d2] at u2
           have hqI : (q : Int) < (n : Int) := by omega
           have hqkI : (q : Int) < (k : Int) := by omega
           have q0 : (0 : Int) ≤ (q : Int) := by omega
           clear hx e' d0 d1 d2
           cases h1 : ((an ts q).kind == (an ts k).kind)
           ·have hn' := lh (all_more (p := fun r => ((an ts r).kind == (an ts k).kind && ((an ts r).src == (an ts k).src && (an ts r).dst == (an ts k).dst)) = false) hne.out (by rw [h1]; rfl))
            go_wp2_with fail
            go_quiet (fail)
            go_wp2_with fail
            go_roundw
            case rel => exact ⟨q + 1, by omega, by go_num, hn', lh (Bx.drewN hB2.out _), z0, z1, z2⟩
            case measure => simp [intOf]; omega
           ·cases h2 : ((an ts q).src == (an ts k).src)
            ·have hn' := lh (all_more (p := fun r => ((an ts r).kind == (an ts k).kind && ((an ts r).src == (an ts k).src && (an ts r).dst == (an ts k).dst)) = false) hne.out (by rw [h1, h2]; rfl))
             go_wp2_with fail
             go_quiet (fail)
             go_wp2_with fail
             go_roundw
             case rel => exact ⟨q + 1, by omega, by go_num, hn', lh (Bx.drewN hB2.out _), z0, z1, z2⟩
             case measure => simp [intOf]; omega
            ·cases h3 : ((an ts q).dst == (an ts k).dst)
             ·have hn' := lh (all_more (p := fun r => ((an ts r).kind == (an ts k).kind && ((an ts r).src == (an ts k).src && (an ts r).dst == (an ts k).dst)) = false) hne.out (by rw [h1, h2, h3]; rfl))
              go_wp2_with fail
              go_quiet (fail)
              go_wp2_with fail
              go_roundw
              case rel => exact ⟨q + 1, by omega, by go_num, hn', lh (Bx.drewN hB2.out _), z0, z1, z2⟩
              case measure => simp [intOf]; omega
             ·have hQ := lh (cell_arcs (arcs_dup (ps := c.pins) (ts := c.arcs) (k := k) (by have := HNL.out; omega) (by rw [← HTS.out]; exact dif_hit hqk (by rw [h1, h2, h3]; rfl))))
              go_wp2_with fail
              go_quiet (fail)
              go_wp2_with fail
              rw [hQ.out]
              go_ret
              exact ⟨rfl, eX⟩
          ·obtain rfl : q = k := by omega
           have hdd := lh (all_more hdif.out (dif_miss hne.out))
           go_wp2_with fail
           go_roundw
           case rel => exact ⟨q + 1, by omega, by go_num, hok, hdd, hB2⟩
           case measure => simp [intOf]; omega
       ·obtain rfl : k = n := by omega
        have ha : arcsB c.pins c.arcs = true := by
         rw [← HTS.out, arcs_all (by have := HN.out; omega) (by rw [← HN.out]; exact hall.out)]
         exact allB_yes (by rw [← HN.out]; exact hdif.out)
        have ⟨a8, hks, _⟩ := arcs_get ha
        have HKd := lh (fun (w1 : World) (hb : Below w.heap.size w w1) => (show Calls Tryz.prog 195 #[.agg #[.string c.name, .int .i64 c.kind, .slice p2 c.pins.length q2, .slice p3 k q3, .slice p4 c.truth.length q4, .int .i64 c.leak, .int .i64 c.energy]] w1 (KindsP c.arcs w1) from
         HNL.out ▸ specKinds_any (vec [.string c.name, .int .i64 c.kind, .slice p2 c.pins.length q2, .slice p3 c.arcs.length q3, .slice p4 c.truth.length q4, .int .i64 c.leak, .int .i64 c.energy]) c w1 (HV.out.up hb) a8 (fun i hi => sArc_kind (hks i hi))))
        have HQ := lh (HALL.out ha)
        clear hall hdif ha a8 hks HALL
        go_wp2_with fail
        go_at_call 195
        refine (HKd.out _ hbw).mono ?_
        rintro e w1 ⟨g, cap', rfl, hcn, hb⟩
        have hB1 := lh (Bx.call hB.out hb)
        have m1 := (hcn 1 (by omega)).1; have m2 := (hcn 2 (by omega)).1; have m3 := (hcn 3 (by omega)).1
        have HKQ := lh (show (cellB c = kcB c) from HQ.out)
        obtain ⟨C1, hC1⟩ : ∃ C, C = cnt c.arcs 1 c.arcs.length := ⟨_, rfl⟩
        obtain ⟨C2, hC2⟩ : ∃ C, C = cnt c.arcs 2 c.arcs.length := ⟨_, rfl⟩
        obtain ⟨C3, hC3⟩ : ∃ C, C = cnt c.arcs 3 c.arcs.length := ⟨_, rfl⟩
        rw [← hC1] at m1; rw [← hC2] at m2; rw [← hC3] at m3
        have HF2 := lh (fun (h : c.kind = 2) => (show cellB c = (decide (X = 1) && (((c.truth.length : Int) == 0) && flopB C1 C2 C3)) by rw [HKQ.out, kc_2 h, hC1, hC2, hC3, HX.out]))
        have HF3 := lh (fun (h : c.kind = 3) => (show cellB c = (decide (X = 1) && (((c.truth.length : Int) == 0) && latchB C1 C2 C3)) by rw [HKQ.out, kc_3 h, hC1, hC2, hC3, HX.out]))
        have HF1 := lh (fun (h : c.kind = 1) => (show cellB c = (decide (X = 0) && (((c.truth.length : Int) == ((2 ^ (c.pins.length - 1) : Nat) : Int)) && bitsB c.truth)) by rw [HKQ.out, kc_1 h, HX.out]))
        clear HKd HQ hcn hb hB r0 r1 r2 r3 r4 r5 r6 hbw hsw hC1 hC2 hC3
        have ⟨r0, r1, r2, r3, r4, r5, r6, hbw, hsw⟩ := hB1.out
        by_cases k1 : c.kind = 1
        ·have hQ := lh (HF1.out k1)
         have hBk := lh (show Bx w w1 (.string c.name) (.int .i64 1) (.slice p2 c.pins.length q2) (.slice p3 k q3) (.slice p4 c.truth.length q4) (.int .i64 c.leak) (.int .i64 c.energy) from k1 ▸ hB1.out)
         rw [k1] at r1
         clear HF1 HF2 HF3 HKQ m1 m2 m3
         go_wp2_with fail
         clear r0 r1 r2 r3 r4 r5 r6 hB1 hbw hsw
         go_loopw [9] (fun i wi => ∃ q : Nat, q ≤ c.truth.length ∧ i = .int .i64 q ∧ Hid (∀ j, j < q → inB (iv c.truth j) 0 1 = true) ∧ Hid (Bx w wi (.string c.name) (.int .i64 1) (.slice p2 c.pins.length q2) (.slice p3 k q3) (.slice p4 c.truth.length q4) (.int .i64 c.leak) (.int .i64 c.energy))) (fun i _ => c.truth.length - (intOf i).toNat)
         case atStart => exact ⟨0, by omega, rfl, lh (fun j hj => absurd hj (Nat.not_lt_zero j)), hBk⟩
         case round =>
          clear hBk
          obtain ⟨q, hq, rfl, hbits, hB2⟩ := hrel
          have ⟨r0, r1, r2, r3, r4, r5, r6, hbw, hsw⟩ := hB2.out
          have hml : c.truth.length ≤ 9223372036854775807 := X4.out.1
          by_cases hqm : q < c.truth.length
          ·obtain ⟨b, off, rfl, hlt, y0⟩ := X4.out.at hbw hqm
           have hI : (q : Int) < (c.truth.length : Int) := by omega
           have i0 : (0 : Int) ≤ (q : Int) := by omega
           cases hin : inB (iv c.truth q) 0 1
           ·have hbf : bitsB c.truth = false := allB_no (p := fun i => inB (iv c.truth i) 0 1) hqm hin
            rw [hbf, Bool.and_false, Bool.and_false] at hQ
            clear hbf
            go_wp2_with (go_at_call 102; refine (l01In_any _ _ _ _).mono ?_; rintro e w' ⟨rfl, hw'⟩; rw [hw']; clear hw' w')
            rw [hQ.out]
            go_ret
            exact ⟨rfl, eX⟩
           ·have hok := lh (all_more hbits.out hin)
            go_wp2_with (go_at_call 102; refine (l01In_any _ _ _ _).mono ?_; rintro e w' ⟨rfl, hw'⟩; rw [hw']; clear hw' w')
            go_roundw
            case rel => exact ⟨q + 1, by omega, by go_num, hok, hB2⟩
            case measure => simp [intOf]; omega
          ·obtain rfl : q = c.truth.length := by omega
           have hbt : bitsB c.truth = true := allB_yes (p := fun i => inB (iv c.truth i) 0 1) hbits.out
           rw [hbt, Bool.and_true] at hQ
           clear hbt hqm
           have hI : ¬ (c.truth.length : Int) < (c.truth.length : Int) := by omega
           by_cases hX0 : X = 0
           ·subst hX0
            obtain hp | hp | hp | hp : c.pins.length = 2 ∨ c.pins.length = 3 ∨ c.pins.length = 4 ∨ c.pins.length = 5 := by omega
            all_goals
             rw [hp] at r2
             rw [hp] at hQ
             go_wp2_with fail
             rw [hQ.out]
             go_ret
             exact ⟨by first | rfl | (simp; done), eX⟩
           ·rw [decide_eq_false hX0] at hQ
            have hx1 : ((X : Int) == 0) = false := by simp; omega
            go_wp2_with fail
            rw [hQ.out]
            go_ret
            exact ⟨rfl, eX⟩
        ·have k1' : (c.kind == 1) = false := by simpa using k1
         by_cases k2 : c.kind = 2
         ·have hQ := lh (HF2.out k2)
          rw [k2] at r1
          clear HF1 HF2 HF3 HKQ hB1
          by_cases hX1 : X = 1
          ·subst hX1
           by_cases hc1 : C1 = 0
           ·subst hc1
            cases h2 : decide (0 < C2) <;> cases h3 : decide (0 < C3) <;> cases h4 : ((c.truth.length : Int) == 0)
            all_goals
             go_wp2_with fail
             go_quiet (fail)
             go_wp2_with fail
             rw [hQ.out]
             go_ret
             exact ⟨by first | rfl | (simp [flopB, *]; done), eX⟩
           ·have hc1' : ((C1 : Int) == 0) = false := by simp; omega
            go_wp2_with fail
            go_quiet (fail)
            go_wp2_with fail
            rw [hQ.out]
            go_ret
            exact ⟨by first | rfl | (simp [flopB, *]; done), eX⟩
          ·have hx1 : ((X : Int) == 1) = false := by simp; omega
           go_wp2_with fail
           go_quiet (fail)
           go_wp2_with fail
           rw [hQ.out]
           go_ret
           exact ⟨by first | rfl | (simp [flopB, *]; done), eX⟩
         ·have k2' : (c.kind == 2) = false := by simpa using k2
          by_cases k3 : c.kind = 3
          ·have hQ := lh (HF3.out k3)
           rw [k3] at r1
           clear HF1 HF2 HF3 HKQ hB1
           by_cases hX1 : X = 1
           ·subst hX1
            cases h1 : decide (0 < C1)
            ·go_wp2_with fail
             rw [hQ.out]
             go_ret
             exact ⟨by first | rfl | (simp [latchB, *]; done), eX⟩
            ·cases h2 : decide (0 < C2)
             ·go_wp2_with fail
              rw [hQ.out]
              go_ret
              exact ⟨by first | rfl | (simp [latchB, *]; done), eX⟩
             ·cases h3 : ((C3 : Int) == 0) <;> cases h4 : ((c.truth.length : Int) == 0)
              all_goals
               go_wp2_with fail
               rw [hQ.out]
               go_ret
               exact ⟨by first | rfl | (simp [latchB, *]; done), eX⟩
           ·have hx1 : ((X : Int) == 1) = false := by simp; omega
            go_wp2_with fail
            rw [hQ.out]
            go_ret
            exact ⟨by first | rfl | (simp [latchB, *]; done), eX⟩
          ·have k3' : (c.kind == 3) = false := by simpa using k3
           have hQ := lh (HKQ.out.trans (kc_no k1 k2 k3))
           clear HF1 HF2 HF3 HKQ hB1
           go_wp2_with fail
           rw [hQ.out]
           go_ret
           exact ⟨rfl, eX⟩
end Go.Proofs.YtkpfbnffhhmokaaGreat
