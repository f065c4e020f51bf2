/-
IsCell: the model's and the program's own, for all cells.
-/
import Derived.Test.YtkpfbnffhhmokaaGreatKinds
namespace Go.Proofs.YtkpfbnffhhmokaaGreat
open Go.ChangeShapes Go.WideShapes Go.ChangeAt Go.RowKit
set_option linter.unusedVariables false
set_option linter.unusedSimpArgs false
def kcB (c : CellD) : Bool :=
 if c.kind = 1 then decide (clk c.pins c.pins.length = 0) && (((c.truth.length : Int) == ((2 ^ (c.pins.length - 1) : Nat) : Int)) && bitsB c.truth)
 else if c.kind = 2 then decide (clk c.pins c.pins.length = 1) && (((c.truth.length : Int) == 0) && flopB (cnt c.arcs 1 c.arcs.length) (cnt c.arcs 2 c.arcs.length) (cnt c.arcs 3 c.arcs.length))
 else if c.kind = 3 then decide (clk c.pins c.pins.length = 1) && (((c.truth.length : Int) == 0) && latchB (cnt c.arcs 1 c.arcs.length) (cnt c.arcs 2 c.arcs.length) (cnt c.arcs 3 c.arcs.length))
 else false
def cellB (c : CellD) : Bool := pinsB c.pins && nameB c.name && inB c.leak 0 100000 && inB c.energy 0 100000 && arcsB c.pins c.arcs && kcB c
theorem cell_pins {c : CellD} (h : pinsB c.pins = false) : cellB c = false := by simp [cellB, h]
theorem cell_name {c : CellD} (h : nameB c.name = false) : cellB c = false := by simp [cellB, h]
theorem cell_leak {c : CellD} (h : inB c.leak 0 100000 = false) : cellB c = false := by simp [cellB, h]
theorem cell_energy {c : CellD} (h : inB c.energy 0 100000 = false) : cellB c = false := by simp [cellB, h]
theorem cell_arcs {c : CellD} (h : arcsB c.pins c.arcs = false) : cellB c = false := by simp [cellB, h]
theorem cell_kind {c : CellD} (h : kcB c = false) : cellB c = false := by simp [cellB, h]
theorem cell_all {c : CellD} (h0 : pinsB c.pins = true) (h1 : nameB c.name = true) (h2 : inB c.leak 0 100000 = true) (h3 : inB c.energy 0 100000 = true) (h4 : arcsB c.pins c.arcs = true) : cellB c = kcB c := by simp [cellB, h0, h1, h2, h3, h4]
theorem cell_get {c : CellD} (h : cellB c = true) : pinsB c.pins = true ∧ nameB c.name = true ∧ arcsB c.pins c.arcs = true ∧ kcB c = true := by
 simp only [cellB, Bool.and_eq_true] at h
 exact ⟨h.1.1.1.1.1, h.1.1.1.1.2, h.1.2, h.2⟩
theorem kc_1 {c : CellD} (h : c.kind = 1) : kcB c = (decide (clk c.pins c.pins.length = 0) && (((c.truth.length : Int) == ((2 ^ (c.pins.length - 1) : Nat) : Int)) && bitsB c.truth)) := by unfold kcB; rw [if_pos h]
theorem kc_2 {c : CellD} (h : c.kind = 2) : kcB c = (decide (clk c.pins c.pins.length = 1) && (((c.truth.length : Int) == 0) && flopB (cnt c.arcs 1 c.arcs.length) (cnt c.arcs 2 c.arcs.length) (cnt c.arcs 3 c.arcs.length))) := by
 unfold kcB; rw [if_neg (by omega), if_pos h]
theorem kc_3 {c : CellD} (h : c.kind = 3) : kcB c = (decide (clk c.pins c.pins.length = 1) && (((c.truth.length : Int) == 0) && latchB (cnt c.arcs 1 c.arcs.length) (cnt c.arcs 2 c.arcs.length) (cnt c.arcs 3 c.arcs.length))) := by
 unfold kcB; rw [if_neg (by omega), if_neg (by omega), if_pos h]
theorem kc_no {c : CellD} (h1 : ¬ c.kind = 1) (h2 : ¬ c.kind = 2) (h3 : ¬ c.kind = 3) : kcB c = false := by unfold kcB; rw [if_neg h1, if_neg h2, if_neg h3]
/-- Without a clock pin every arc is of the first kind. -/
theorem plain_arcs {ps : List PinD} {ts : List ArcD} (h0 : clk ps ps.length = 0) (h : ∀ i, i < ts.length → sArc ps (an ts i) = true) : ∀ q, ¬ q = 1 → cnt ts q ts.length = 0 := by
 have noc : ∀ n, clk ps n = 0 → ∀ i, i < n → (pn ps i).clock = false := by
  intro n
  induction n with
  | zero => intro _ i hi; exact absurd hi (Nat.not_lt_zero i)
  | succ n ih =>
   intro hn i hi
   have hn' : clk ps n + (if (pn ps n).clock then 1 else 0) = 0 := hn
   rcases Nat.lt_or_ge i n with e | e
   ·exact ih (by omega) i e
   ·obtain rfl : i = n := by omega
    cases hc : (pn ps i).clock
    ·rfl
    ·rw [hc] at hn'; simp at hn'
 have hk : ∀ i, i < ts.length → (an ts i).kind = 1 := by
  intro i hi
  have hs := h i hi
  unfold sArc at hs
  simp only [Bool.and_eq_true] at hs
  obtain ⟨⟨h1, h2⟩, h3⟩ := hs
  have ⟨b0, b1⟩ := inB_get h1
  have hck : ckI ps (an ts i).src = false := noc _ h0 _ (by omega)
  rw [hck] at h3
  by_cases k1 : (an ts i).kind = 1
  ·exact k1
  ·unfold kB at h3
   rw [if_neg k1] at h3
   simp at h3
 intro q hq
 have key : ∀ n, n ≤ ts.length → cnt ts q n = 0 := by
  intro n
  induction n with
  | zero => intro _; rfl
  | succ n ih =>
   intro hn
   rw [cnt_miss (by rw [hk n (by omega)]; omega)]
   exact ih (by omega)
 exact key _ (Nat.le_refl _)
theorem areBits_ext (v : Value) (xs : List Int) (m : Int) (w : World) (h : IntS w w.heap.size v xs) :
  Calls Tryz.prog 201 #[v, .int .i64 m] w fun e w' => e = .returned (.bool (((xs.length : Int) == m) && bitsB xs)) ∧ Below w.heap.size w w' := by
 refine (areBits_any v xs m w h).mono ?_
 rintro e w' ⟨he, hw'⟩
 rw [hw']
 exact ⟨he, Below.refl _ _⟩
theorem isPower_any (x : Int) (w : World) : Calls Tryz.prog 198 #[.int .i64 x] w fun e w' => e = .returned (.bool (inB x 0 100000)) ∧ Below w.heap.size w w' := by
 go_enter Tryz.func198, Tryz.ntmps198
 go_wp2_with (go_at_call 106; refine (inRange_any _ _ _ _).mono ?_; rintro e w' ⟨rfl, hw'⟩; rw [hw']; clear hw' w')
 go_ret
 exact ⟨rfl, eX⟩
/-- A cell's box stands as it was made. -/
abbrev Bx (w w1 : World) (v0 v1 v2 v3 v4 v5 v6 : Value) : Prop := w1.cell? ⟨w.heap.size, 0, none⟩ = some v0 ∧ w1.cell? ⟨w.heap.size, 1, none⟩ = some v1 ∧ w1.cell? ⟨w.heap.size, 2, none⟩ = some v2 ∧ w1.cell? ⟨w.heap.size, 3, none⟩ = some v3 ∧ w1.cell? ⟨w.heap.size, 4, none⟩ = some v4 ∧ w1.cell? ⟨w.heap.size, 5, none⟩ = some v5 ∧ w1.cell? ⟨w.heap.size, 6, none⟩ = some v6 ∧ Below w.heap.size w w1 ∧ w.heap.size < w1.heap.size
theorem Bx.call {w w1 w2 : World} {v0 v1 v2 v3 v4 v5 v6 : Value} (h : Bx w w1 v0 v1 v2 v3 v4 v5 v6) (hb : Below w1.heap.size w1 w2) : Bx w w2 v0 v1 v2 v3 v4 v5 v6 :=
 ⟨cell_keep h.1 hb, cell_keep h.2.1 hb, cell_keep h.2.2.1 hb, cell_keep h.2.2.2.1 hb, cell_keep h.2.2.2.2.1 hb, cell_keep h.2.2.2.2.2.1 hb, cell_keep h.2.2.2.2.2.2.1 hb, ext_trans h.2.2.2.2.2.2.2.1 hb, Nat.lt_of_lt_of_le h.2.2.2.2.2.2.2.2 hb.size⟩
theorem Bx.self {w w1 : World} {v0 v1 v2 v3 v4 v5 v6 : Value} (h : Bx w w1 v0 v1 v2 v3 v4 v5 v6) : Bx w w1 v0 v1 v2 v3 v4 v5 v6 := h
theorem Bx.alloc {w w1 : World} {v0 v1 v2 v3 v4 v5 v6 : Value} (h : Bx w w1 v0 v1 v2 v3 v4 v5 v6) (o : Obj) : Bx w (w1.alloc o) v0 v1 v2 v3 v4 v5 v6 := h.call ((Below.refl _ _).alloc (Nat.le_refl _) _)
theorem Bx.drew {w w1 : World} {v0 v1 v2 v3 v4 v5 v6 : Value} (h : Bx w w1 v0 v1 v2 v3 v4 v5 v6) : Bx w w1.drew v0 v1 v2 v3 v4 v5 v6 := h.call (Below.refl _ _).drew
theorem kindOfCell_ext (q : Int) (w : World) : Calls Tryz.prog 196 #[.int .i64 q] w fun e w' => e = .returned (.tuple #[kindI q, .bool (kindK q)]) ∧ Below w.heap.size w w' := by
 refine (kindOfCell_any q w).mono ?_
 rintro e w' ⟨he, hw'⟩
 rw [hw']
 exact ⟨he, Below.refl _ _⟩
theorem gateSizeI_any (y : Int) (x : Nat) (w : World) (hy : y = (x : Int)) (h0 : 1 ≤ x) (h1 : x ≤ 4) : Calls Tryz.prog 268 #[.agg #[], .int .i64 y] w fun e w' => e = .returned (.int .i64 ((2 ^ x : Nat) : Int)) ∧ Below w.heap.size w w' := by
 rw [hy]
 exact gateSize_any x w h0 h1
theorem no_bits {xs : List Int} (h : (((xs.length : Int) == 0) && bitsB xs) = false) : ((xs.length : Int) == 0) = false := by
 cases hz : ((xs.length : Int) == 0)
 ·rfl
 ·rw [hz] at h
  have : xs.length = 0 := by simpa using hz
  have hb : bitsB xs = true := allB_yes (p := fun i => inB (iv xs i) 0 1) (fun i hi => by omega)
  rw [hb] at h
  cases h
theorem yes_bits {xs : List Int} (h : (((xs.length : Int) == 0) && bitsB xs) = true) : ((xs.length : Int) == 0) = true := by
 simp only [Bool.and_eq_true] at h
 exact h.1
set_option maxRecDepth 100000 in
set_option maxHeartbeats 16000000 in
theorem implIsCell_any (f : Nat → Value) (c : CellD) (w : World) (h : CellF w w.heap.size f c) : Calls Tryz.prog 174 #[.agg #[f 0, f 1, f 2, f 3, f 4, f 5, f 6]] w fun e w' => e = .returned (.bool (cellB c)) ∧ Below w.heap.size w w' := by
 obtain ⟨e0, e1, x2, x3, x4, e5, e6, hsz⟩ := h
 obtain ⟨p2, q2, e2⟩ := x2.slice; obtain ⟨p3, q3, e3⟩ := x3.slice; obtain ⟨p4, q4, e4⟩ := x4.slice
 rw [e2] at x2; rw [e3] at x3; rw [e4] at x4
 rw [e0, e1, e2, e3, e4, e5, e6]
 have X2 := lh x2; have X3 := lh x3; have X4 := lh x4; have HS := lh hsz
 clear x2 x3 x4 e0 e1 e2 e3 e4 e5 e6 hsz
 have HK := lh (fun (w1 : World) => kindOfCell_ext c.kind w1)
 have HB0 := lh (show Bx w (w.alloc (Obj.cells #[.string c.name, .int .i64 c.kind, .slice p2 c.pins.length q2, .slice p3 c.arcs.length q3, .slice p4 c.truth.length q4, .int .i64 c.leak, .int .i64 c.energy] 124)) (.string c.name) (.int .i64 c.kind) (.slice p2 c.pins.length q2) (.slice p3 c.arcs.length q3) (.slice p4 c.truth.length q4) (.int .i64 c.leak) (.int .i64 c.energy) from ⟨by simp [go_sem], by simp [go_sem], by simp [go_sem], by simp [go_sem], by simp [go_sem], by simp [go_sem], by simp [go_sem], eX, by simp⟩)
 have HNm := lh (fun (w1 : World) => implName_any c.name w1 HS.out)
 have HLk := lh (fun (w1 : World) => isPower_any c.leak w1)
 have HEn := lh (fun (w1 : World) => isPower_any c.energy w1)
 have HPn := lh (fun (w1 : World) (hb : Below w.heap.size w w1) => arePins_any _ c.pins w1 (X2.out.up hb))
 cases kk : kindK c.kind
 ·have hQ := lh (show cellB c = false by
   refine cell_kind (kc_no ?_ ?_ ?_)
   all_goals
    intro h
    rw [h] at kk
    revert kk
    decide)
  have ek : kindI c.kind = .nilIface := by
   unfold kindK at kk
   simp only [Bool.or_eq_false_iff, decide_eq_false_iff_not] at kk
   unfold kindI
   rw [if_neg kk.1.1, if_neg kk.1.2, if_neg kk.2]
  rw [kk, ek] at HK
  clear kk ek
  have hB := HB0
  have ⟨r0, r1, r2, r3, r4, r5, r6, _, _⟩ := hB.out
  go_enter Tryz.func174, Tryz.ntmps174
  go_wp2_with (first | (go_at_call 196; with_reducible refine (HK.out _).mono ?_; rintro e wn ⟨rfl, hb⟩; have hB' := lh (Bx.call hB.out hb); clear hB r0 r1 r2 r3 r4 r5 r6 hb; have hB := hB'; clear hB'; have ⟨r0, r1, r2, r3, r4, r5, r6, _, _⟩ := hB.out))
  rw [hQ.out]
  go_ret
  exact ⟨rfl, by first | exact hB6.2.2.2.2.2.2.2.1 | exact hB.out.2.2.2.2.2.2.2.1 | (exact eX)⟩
 ·obtain ⟨I, hI⟩ : ∃ I, I = kindI c.kind := ⟨_, rfl⟩
  rw [kk, ← hI] at HK
  have HI := lh hI
  clear hI
  cases hnm : nameB c.name
  ·have hQ := lh (cell_name hnm)
   rw [hnm] at HNm
   clear kk
   have hB := HB0
   have ⟨r0, r1, r2, r3, r4, r5, r6, _, _⟩ := hB.out
   go_enter Tryz.func174, Tryz.ntmps174
   go_wp2_with (first | (go_at_call 196; with_reducible refine (HK.out _).mono ?_; rintro e wn ⟨rfl, hb⟩; have hB' := lh (Bx.call hB.out hb); clear hB r0 r1 r2 r3 r4 r5 r6 hb; have hB := hB'; clear hB'; have ⟨r0, r1, r2, r3, r4, r5, r6, _, _⟩ := hB.out) | (go_at_call 197; with_reducible refine (HNm.out _).mono ?_; rintro e wn ⟨rfl, hb⟩; have hB' := lh (Bx.call hB.out hb); clear hB r0 r1 r2 r3 r4 r5 r6 hb; have hB := hB'; clear hB'; have ⟨r0, r1, r2, r3, r4, r5, r6, _, _⟩ := hB.out))
   rw [hQ.out]
   go_ret
   exact ⟨rfl, by first | exact hB6.2.2.2.2.2.2.2.1 | exact hB.out.2.2.2.2.2.2.2.1 | (exact eX)⟩
  ·rw [hnm] at HNm
   cases hlk : inB c.leak 0 100000
   ·have hQ := lh (cell_leak hlk)
    rw [hlk] at HLk
    clear kk
    have hB := HB0
    have ⟨r0, r1, r2, r3, r4, r5, r6, _, _⟩ := hB.out
    go_enter Tryz.func174, Tryz.ntmps174
    go_wp2_with (first | (go_at_call 196; with_reducible refine (HK.out _).mono ?_; rintro e wn ⟨rfl, hb⟩; have hB' := lh (Bx.call hB.out hb); clear hB r0 r1 r2 r3 r4 r5 r6 hb; have hB := hB'; clear hB'; have ⟨r0, r1, r2, r3, r4, r5, r6, _, _⟩ := hB.out) | (go_at_call 197; with_reducible refine (HNm.out _).mono ?_; rintro e wn ⟨rfl, hb⟩; have hB' := lh (Bx.call hB.out hb); clear hB r0 r1 r2 r3 r4 r5 r6 hb; have hB := hB'; clear hB'; have ⟨r0, r1, r2, r3, r4, r5, r6, _, _⟩ := hB.out) | (go_at_call 198; with_reducible refine (HLk.out _).mono ?_; rintro e wn ⟨rfl, hb⟩; have hB' := lh (Bx.call hB.out hb); clear hB r0 r1 r2 r3 r4 r5 r6 hb; have hB := hB'; clear hB'; have ⟨r0, r1, r2, r3, r4, r5, r6, _, _⟩ := hB.out))
    rw [hQ.out]
    go_ret
    exact ⟨rfl, by first | exact hB6.2.2.2.2.2.2.2.1 | exact hB.out.2.2.2.2.2.2.2.1 | (exact eX)⟩
   ·rw [hlk] at HLk
    cases hen : inB c.energy 0 100000
    ·have hQ := lh (cell_energy hen)
     rw [hen] at HEn
     clear kk
     have hB := HB0
     have ⟨r0, r1, r2, r3, r4, r5, r6, _, _⟩ := hB.out
     go_enter Tryz.func174, Tryz.ntmps174
     go_wp2_with (first | (go_at_call 196; with_reducible refine (HK.out _).mono ?_; rintro e wn ⟨rfl, hb⟩; have hB' := lh (Bx.call hB.out hb); clear hB r0 r1 r2 r3 r4 r5 r6 hb; have hB := hB'; clear hB'; have ⟨r0, r1, r2, r3, r4, r5, r6, _, _⟩ := hB.out) | (go_at_call 197; with_reducible refine (HNm.out _).mono ?_; rintro e wn ⟨rfl, hb⟩; have hB' := lh (Bx.call hB.out hb); clear hB r0 r1 r2 r3 r4 r5 r6 hb; have hB := hB'; clear hB'; have ⟨r0, r1, r2, r3, r4, r5, r6, _, _⟩ := hB.out) | (go_at_call 198; with_reducible refine (HLk.out _).mono ?_; rintro e wn ⟨rfl, hb⟩; have hB' := lh (Bx.call hB.out hb); clear hB r0 r1 r2 r3 r4 r5 r6 hb; have hB := hB'; clear hB'; have ⟨r0, r1, r2, r3, r4, r5, r6, _, _⟩ := hB.out) | (go_at_call 198; with_reducible refine (HEn.out _).mono ?_; rintro e wn ⟨rfl, hb⟩; have hB' := lh (Bx.call hB.out hb); clear hB r0 r1 r2 r3 r4 r5 r6 hb; have hB := hB'; clear hB'; have ⟨r0, r1, r2, r3, r4, r5, r6, _, _⟩ := hB.out))
     rw [hQ.out]
     go_ret
     exact ⟨rfl, by first | exact hB6.2.2.2.2.2.2.2.1 | exact hB.out.2.2.2.2.2.2.2.1 | (exact eX)⟩
    ·rw [hen] at HEn
     cases hpn : pinsB c.pins
     ·have hQ := lh (cell_pins hpn)
      rw [hpn] at HPn
      clear kk
      have hB := HB0
      have ⟨r0, r1, r2, r3, r4, r5, r6, _, _⟩ := hB.out
      go_enter Tryz.func174, Tryz.ntmps174
      go_wp2_with (first | (go_at_call 196; with_reducible refine (HK.out _).mono ?_; rintro e wn ⟨rfl, hb⟩; have hB' := lh (Bx.call hB.out hb); clear hB r0 r1 r2 r3 r4 r5 r6 hb; have hB := hB'; clear hB'; have ⟨r0, r1, r2, r3, r4, r5, r6, _, _⟩ := hB.out) | (go_at_call 197; with_reducible refine (HNm.out _).mono ?_; rintro e wn ⟨rfl, hb⟩; have hB' := lh (Bx.call hB.out hb); clear hB r0 r1 r2 r3 r4 r5 r6 hb; have hB := hB'; clear hB'; have ⟨r0, r1, r2, r3, r4, r5, r6, _, _⟩ := hB.out) | (go_at_call 198; with_reducible refine (HLk.out _).mono ?_; rintro e wn ⟨rfl, hb⟩; have hB' := lh (Bx.call hB.out hb); clear hB r0 r1 r2 r3 r4 r5 r6 hb; have hB := hB'; clear hB'; have ⟨r0, r1, r2, r3, r4, r5, r6, _, _⟩ := hB.out) | (go_at_call 198; with_reducible refine (HEn.out _).mono ?_; rintro e wn ⟨rfl, hb⟩; have hB' := lh (Bx.call hB.out hb); clear hB r0 r1 r2 r3 r4 r5 r6 hb; have hB := hB'; clear hB'; have ⟨r0, r1, r2, r3, r4, r5, r6, _, _⟩ := hB.out) | (go_at_call 199; with_reducible refine (HPn.out _ hB.out.2.2.2.2.2.2.2.1).mono ?_; rintro e wn ⟨rfl, hb⟩; have hB' := lh (Bx.call hB.out hb); clear hB r0 r1 r2 r3 r4 r5 r6 hb; have hB := hB'; clear hB'; have ⟨r0, r1, r2, r3, r4, r5, r6, _, _⟩ := hB.out))
      rw [hQ.out]
      go_ret
      exact ⟨rfl, by first | exact hB6.2.2.2.2.2.2.2.1 | exact hB.out.2.2.2.2.2.2.2.1 | (exact eX)⟩
     ·rw [hpn] at HPn
      have ⟨n2, n5, _, _⟩ := pins_get hpn
      have HALL := lh (fun (h4 : arcsB c.pins c.arcs = true) => cell_all hpn hnm hlk hen h4)
      have HAr := lh (fun (w1 : World) (hb : Below w.heap.size w w1) => areArcs_any _ _ c.arcs c.pins w1 (X3.out.up hb) (X2.out.up hb) hpn)
      have HCl := lh (fun (w1 : World) (hb : Below w.heap.size w w1) => countClocks_any _ c.pins w1 (X2.out.up hb) n5)
      obtain ⟨X, hX⟩ : ∃ X, X = clk c.pins c.pins.length := ⟨_, rfl⟩
      rw [← hX] at HCl
      have HX := lh hX
      have HPT := lh hpn
      clear hX hnm hlk hen hpn
      have hB := HB0
      have ⟨r0, r1, r2, r3, r4, r5, r6, _, _⟩ := hB.out
      go_enter Tryz.func174, Tryz.ntmps174
      go_wp2_with (first | (go_at_call 196; with_reducible refine (HK.out _).mono ?_; rintro e wn ⟨rfl, hb⟩; have hB' := lh (Bx.call hB.out hb); clear hB r0 r1 r2 r3 r4 r5 r6 hb; have hB := hB'; clear hB'; have ⟨r0, r1, r2, r3, r4, r5, r6, _, _⟩ := hB.out) | (go_at_call 197; with_reducible refine (HNm.out _).mono ?_; rintro e wn ⟨rfl, hb⟩; have hB' := lh (Bx.call hB.out hb); clear hB r0 r1 r2 r3 r4 r5 r6 hb; have hB := hB'; clear hB'; have ⟨r0, r1, r2, r3, r4, r5, r6, _, _⟩ := hB.out) | (go_at_call 198; with_reducible refine (HLk.out _).mono ?_; rintro e wn ⟨rfl, hb⟩; have hB' := lh (Bx.call hB.out hb); clear hB r0 r1 r2 r3 r4 r5 r6 hb; have hB := hB'; clear hB'; have ⟨r0, r1, r2, r3, r4, r5, r6, _, _⟩ := hB.out) | (go_at_call 198; with_reducible refine (HEn.out _).mono ?_; rintro e wn ⟨rfl, hb⟩; have hB' := lh (Bx.call hB.out hb); clear hB r0 r1 r2 r3 r4 r5 r6 hb; have hB := hB'; clear hB'; have ⟨r0, r1, r2, r3, r4, r5, r6, _, _⟩ := hB.out) | (go_at_call 199; with_reducible refine (HPn.out _ hB.out.2.2.2.2.2.2.2.1).mono ?_; rintro e wn ⟨rfl, hb⟩; have hB' := lh (Bx.call hB.out hb); clear hB r0 r1 r2 r3 r4 r5 r6 hb; have hB := hB'; clear hB'; have ⟨r0, r1, r2, r3, r4, r5, r6, _, _⟩ := hB.out))
      have HB5 := hB
      clear r0 r1 r2 r3 r4 r5 r6 HB0
      by_cases k1 : c.kind = 1
      ·obtain rfl : I = .iface 290 (.agg #[]) := by rw [HI.out, k1]; rfl
       have im1 : ∀ W : World, (method 442 290 (.agg #[]) "loop.example/g00861/impl.clockPins").run Tryz.prog W = .ok (267, .agg #[]) W := fun _ => by kernel_rfl
       have im2 : ∀ W : World, (method 442 290 (.agg #[]) "loop.example/g00861/impl.truthSize").run Tryz.prog W = .ok (268, .agg #[]) W := fun _ => by kernel_rfl
       have kd := k1
       clear k1 kk
       by_cases hX : X = 0
       ·subst hX
        obtain ⟨T, hT⟩ : ∃ T : Int, T = ((2 ^ (c.pins.length - 1) : Nat) : Int) := ⟨_, rfl⟩
        have wr1 : IntKind.i64.wrap ((c.pins.length : Int) - 1) = (c.pins.length : Int) - 1 := IntWalk.i64_in _ (by omega)
        have HT := lh (fun (w1 : World) => gateSizeI_any ((c.pins.length : Int) - 1) (c.pins.length - 1) w1 (by omega) (by omega) (by omega))
        rw [← hT] at HT
        have HB := lh (fun (w1 : World) (hb : Below w.heap.size w w1) => areBits_ext _ c.truth T w1 (X4.out.up hb))
        cases hb : (((c.truth.length : Int) == T) && bitsB c.truth)
        ·have hQ := lh (cell_kind (c := c) (by rw [kc_1 kd, ← hT, hb]; simp))
         rw [hb] at HB
         clear hb hT
         go_region_held3 (fun w' => w'.cell? ⟨w.heap.size, 0, none⟩ = some (.string c.name) ∧ w'.cell? ⟨w.heap.size, 1, none⟩ = some (.int .i64 c.kind) ∧ w'.cell? ⟨w.heap.size, 2, none⟩ = some (.slice p2 c.pins.length q2) ∧ w'.cell? ⟨w.heap.size, 3, none⟩ = some (.slice p3 c.arcs.length q3) ∧ w'.cell? ⟨w.heap.size, 4, none⟩ = some (.slice p4 c.truth.length q4) ∧ w'.cell? ⟨w.heap.size, 5, none⟩ = some (.int .i64 c.leak) ∧ w'.cell? ⟨w.heap.size, 6, none⟩ = some (.int .i64 c.energy) ∧ Below w.heap.size w w' ∧ w.heap.size < w'.heap.size) ((show Bx w _ _ _ _ _ _ _ _; repeat (first | (with_reducible exact (Hid.out (by with_reducible assumption))) | (with_reducible assumption) | (with_reducible refine Bx.alloc ?_ _) | (with_reducible refine Bx.drew ?_)))) (first | (go_at_call 200; with_reducible refine (HCl.out _ eX).mono ?_; rintro e wn ⟨rfl, hb⟩; have hS := lh (Bx.call (by with_reducible assumption) hb); have zL := (Hid.out hS).2.2.2.2.2.2.2.2) | (go_at_call 267; with_reducible refine (gatePins_any _).mono ?_; rintro e wn ⟨rfl, hb⟩; have hS := lh (Bx.call (by with_reducible assumption) hb); have zL := (Hid.out hS).2.2.2.2.2.2.2.2) | (go_at_call 268; refine (HT.out _).mono ?_; rintro e wn ⟨rfl, hb⟩; have hS := lh (Bx.call (by with_reducible assumption) hb); have zL := (Hid.out hS).2.2.2.2.2.2.2.2) | (go_at_call 201; with_reducible refine (HB.out _ eX).mono ?_; rintro e wn ⟨rfl, hb⟩; have hS := lh (Bx.call (by with_reducible assumption) hb); have zL := (Hid.out hS).2.2.2.2.2.2.2.2))
         all_goals
          have hB6 := Bx.self (w := w) (Hid.out (by with_reducible assumption))
          go_wp2_with fail
          rw [hQ.out]
          go_ret
          exact ⟨rfl, by first | exact hB6.2.2.2.2.2.2.2.1 | exact hB.out.2.2.2.2.2.2.2.1 | (exact eX)⟩
        ·rw [hb] at HB
         cases ha : arcsB c.pins c.arcs
         ·have hQ := lh (cell_arcs (c := c) ha)
          rw [ha] at HAr
          clear hb hT ha
          go_region_held3 (fun w' => w'.cell? ⟨w.heap.size, 0, none⟩ = some (.string c.name) ∧ w'.cell? ⟨w.heap.size, 1, none⟩ = some (.int .i64 c.kind) ∧ w'.cell? ⟨w.heap.size, 2, none⟩ = some (.slice p2 c.pins.length q2) ∧ w'.cell? ⟨w.heap.size, 3, none⟩ = some (.slice p3 c.arcs.length q3) ∧ w'.cell? ⟨w.heap.size, 4, none⟩ = some (.slice p4 c.truth.length q4) ∧ w'.cell? ⟨w.heap.size, 5, none⟩ = some (.int .i64 c.leak) ∧ w'.cell? ⟨w.heap.size, 6, none⟩ = some (.int .i64 c.energy) ∧ Below w.heap.size w w' ∧ w.heap.size < w'.heap.size) ((show Bx w _ _ _ _ _ _ _ _; repeat (first | (with_reducible exact (Hid.out (by with_reducible assumption))) | (with_reducible assumption) | (with_reducible refine Bx.alloc ?_ _) | (with_reducible refine Bx.drew ?_)))) (first | (go_at_call 200; with_reducible refine (HCl.out _ eX).mono ?_; rintro e wn ⟨rfl, hb⟩; have hS := lh (Bx.call (by with_reducible assumption) hb); have zL := (Hid.out hS).2.2.2.2.2.2.2.2) | (go_at_call 267; with_reducible refine (gatePins_any _).mono ?_; rintro e wn ⟨rfl, hb⟩; have hS := lh (Bx.call (by with_reducible assumption) hb); have zL := (Hid.out hS).2.2.2.2.2.2.2.2) | (go_at_call 268; refine (HT.out _).mono ?_; rintro e wn ⟨rfl, hb⟩; have hS := lh (Bx.call (by with_reducible assumption) hb); have zL := (Hid.out hS).2.2.2.2.2.2.2.2) | (go_at_call 201; with_reducible refine (HB.out _ eX).mono ?_; rintro e wn ⟨rfl, hb⟩; have hS := lh (Bx.call (by with_reducible assumption) hb); have zL := (Hid.out hS).2.2.2.2.2.2.2.2))
          all_goals
           have hB6 := Bx.self (w := w) (Hid.out (by with_reducible assumption))
           have ⟨r0, r1, r2, r3, r4, r5, r6, _, _⟩ := hB6
           go_wp2_with (go_at_call 202; with_reducible refine (HAr.out _ hB6.2.2.2.2.2.2.2.1).mono ?_; rintro e wn ⟨rfl, hb⟩; have hS := lh (Bx.call hB6 hb); clear r0 r1 r2 r3 r4 r5 r6 hB6 hb; have hB6 := hS.out; have ⟨r0, r1, r2, r3, r4, r5, r6, _, _⟩ := hB6)
           rw [hQ.out]
           go_ret
           exact ⟨rfl, by first | exact hB6.2.2.2.2.2.2.2.1 | exact hB.out.2.2.2.2.2.2.2.1 | (exact eX)⟩
         ·rw [ha] at HAr
          have ⟨a8, hks, _⟩ := arcs_get ha
          have HCt := lh (fun (w1 : World) (hb : Below w.heap.size w w1) => countArcs_any _ c.arcs w1 (X3.out.up hb) a8 (fun i hi => sArc_kind (hks i hi)))
          have pl := plain_arcs HX.out.symm hks
          rw [pl 0 (by decide), pl 2 (by decide), pl 3 (by decide), pl 4 (by decide), pl 5 (by decide)] at HCt
          have hQ := lh ((HALL.out ha).trans (show kcB c = true by rw [kc_1 kd, ← hT, hb, ← HX.out]; rfl))
          clear hb hT ha hks pl
          go_region_held3 (fun w' => w'.cell? ⟨w.heap.size, 0, none⟩ = some (.string c.name) ∧ w'.cell? ⟨w.heap.size, 1, none⟩ = some (.int .i64 c.kind) ∧ w'.cell? ⟨w.heap.size, 2, none⟩ = some (.slice p2 c.pins.length q2) ∧ w'.cell? ⟨w.heap.size, 3, none⟩ = some (.slice p3 c.arcs.length q3) ∧ w'.cell? ⟨w.heap.size, 4, none⟩ = some (.slice p4 c.truth.length q4) ∧ w'.cell? ⟨w.heap.size, 5, none⟩ = some (.int .i64 c.leak) ∧ w'.cell? ⟨w.heap.size, 6, none⟩ = some (.int .i64 c.energy) ∧ Below w.heap.size w w' ∧ w.heap.size < w'.heap.size) ((show Bx w _ _ _ _ _ _ _ _; repeat (first | (with_reducible exact (Hid.out (by with_reducible assumption))) | (with_reducible assumption) | (with_reducible refine Bx.alloc ?_ _) | (with_reducible refine Bx.drew ?_)))) (first | (go_at_call 200; with_reducible refine (HCl.out _ eX).mono ?_; rintro e wn ⟨rfl, hb⟩; have hS := lh (Bx.call (by with_reducible assumption) hb); have zL := (Hid.out hS).2.2.2.2.2.2.2.2) | (go_at_call 267; with_reducible refine (gatePins_any _).mono ?_; rintro e wn ⟨rfl, hb⟩; have hS := lh (Bx.call (by with_reducible assumption) hb); have zL := (Hid.out hS).2.2.2.2.2.2.2.2) | (go_at_call 268; refine (HT.out _).mono ?_; rintro e wn ⟨rfl, hb⟩; have hS := lh (Bx.call (by with_reducible assumption) hb); have zL := (Hid.out hS).2.2.2.2.2.2.2.2) | (go_at_call 201; with_reducible refine (HB.out _ eX).mono ?_; rintro e wn ⟨rfl, hb⟩; have hS := lh (Bx.call (by with_reducible assumption) hb); have zL := (Hid.out hS).2.2.2.2.2.2.2.2))
          all_goals
           have hB6 := Bx.self (w := w) (Hid.out (by with_reducible assumption))
           have ⟨r0, r1, r2, r3, r4, r5, r6, _, _⟩ := hB6
           go_wp2_with (first | (go_at_call 202; with_reducible refine (HAr.out _ hB6.2.2.2.2.2.2.2.1).mono ?_; rintro e wn ⟨rfl, hb⟩; have hS := lh (Bx.call hB6 hb); clear r0 r1 r2 r3 r4 r5 r6 hB6 hb; have hB6 := hS.out; have ⟨r0, r1, r2, r3, r4, r5, r6, _, _⟩ := hB6) | (go_at_call 204; with_reducible refine (HCt.out _ hB6.2.2.2.2.2.2.2.1).mono ?_; rintro e wn ⟨rfl, hb⟩; have hS := lh (Bx.call hB6 hb); clear r0 r1 r2 r3 r4 r5 r6 hB6 hb; have hB6 := hS.out; have ⟨r0, r1, r2, r3, r4, r5, r6, _, _⟩ := hB6) | (go_at_call 203; with_reducible refine (suitGate_any _ _).mono ?_; rintro e wn ⟨rfl, hb⟩; have hS := lh (Bx.call hB6 hb); clear r0 r1 r2 r3 r4 r5 r6 hB6 hb; have hB6 := hS.out; have ⟨r0, r1, r2, r3, r4, r5, r6, _, _⟩ := hB6))
           rw [hQ.out]
           go_ret
           exact ⟨rfl, by first | exact hB6.2.2.2.2.2.2.2.1 | exact hB.out.2.2.2.2.2.2.2.1 | (exact eX)⟩
       ·have hQ := lh (cell_kind (c := c) (by rw [kc_1 kd, ← HX.out, decide_eq_false hX]; simp))
        have hX' : ((X : Int) != 0) = true := by simp; omega
        have hX2 : ((X : Int) == 0) = false := by simp; omega
        refine wp_region_held_drew (S := (fun w' => w'.cell? ⟨w.heap.size, 0, none⟩ = some (.string c.name) ∧ w'.cell? ⟨w.heap.size, 1, none⟩ = some (.int .i64 c.kind) ∧ w'.cell? ⟨w.heap.size, 2, none⟩ = some (.slice p2 c.pins.length q2) ∧ w'.cell? ⟨w.heap.size, 3, none⟩ = some (.slice p3 c.arcs.length q3) ∧ w'.cell? ⟨w.heap.size, 4, none⟩ = some (.slice p4 c.truth.length q4) ∧ w'.cell? ⟨w.heap.size, 5, none⟩ = some (.int .i64 c.leak) ∧ w'.cell? ⟨w.heap.size, 6, none⟩ = some (.int .i64 c.energy) ∧ Below w.heap.size w w' ∧ w.heap.size < w'.heap.size)) (by kernel_rfl) ?_ (fun hHeld => ?_)
        ·exact Bx.drew hB.out
        (try dsimp only at hHeld)
        refine takeH 0 (v := ?_) rfl ?_ ?_; rotate_left; focus (intro w' hSw; (try dsimp only at hSw); go_simp; try (with_reducible rfl))
        (try simp only [actP])
        refine takeH 1 (v := ?_) rfl ?_ ?_; rotate_left; focus (intro w' hSw; (try dsimp only at hSw); go_simp; try (with_reducible rfl))
        (try simp only [actP])
        refine takeH 3 (v := ?_) rfl ?_ ?_; rotate_left; focus (intro w' hSw; (try dsimp only at hSw); go_simp; try (with_reducible rfl))
        (try simp only [actP])
        refine wpAnyH_ready (rs := [2]) (by kernel_rfl) (by simp) ?_
        refine AllReadyH.cons rfl (fun K hK => ?_) AllReadyH.nil
        go_simp
        (go_at_call 200; refine (HCl.out _ hHeld.2.2.2.2.2.2.2.1).mono ?_; rintro e wn ⟨rfl, hb⟩)
        refine hK.out _ _ (Bx.call hHeld hb) (fun hHeld' => ?_)
        clear hK K hHeld hb
        have hHeld := hHeld'
        clear hHeld'
        (try simp only [actP])
        refine wpAnyH_ready (rs := [4]) (by kernel_rfl) (by simp) ?_
        refine AllReadyH.cons rfl (fun K hK => ?_) AllReadyH.nil
        go_simp
        (go_at_call 267; refine (gatePins_any _).mono ?_; rintro e wn ⟨rfl, hb⟩)
        refine hK.out _ _ (Bx.call hHeld hb) (fun hHeld' => ?_)
        clear hK K hHeld hb
        have hHeld := hHeld'
        clear hHeld'
        (try simp only [actP])
        refine takeH 5 (v := ?_) rfl ?_ ?_; rotate_left; focus (intro w' hSw; (try dsimp only at hSw); go_simp; try (with_reducible rfl))
        (try simp only [actP])
        refine takeH 6 (v := ?_) rfl ?_ ?_; rotate_left; focus (intro w' hSw; (try dsimp only at hSw); go_simp; try (with_reducible rfl))
        (try simp only [actP])
        refine wpAnyH_take (i := 7) (oi := _) (v := undef) rfl (by kernel_rfl) (by kernel_rfl) (by kernel_rfl) (fun _ _ _ h => h) (Or.inr ⟨by kernel_rfl, rfl⟩) (by with_reducible assumption) ?_
        (try simp only [actP])
        refine wpAnyH_take (i := 8) (oi := _) (v := undef) rfl (by kernel_rfl) (by kernel_rfl) (by kernel_rfl) (fun _ _ _ h => h) (Or.inr ⟨by kernel_rfl, rfl⟩) (by with_reducible assumption) ?_
        (try simp only [actP])
        refine wpAnyH_take (i := 9) (oi := _) (v := undef) rfl (by kernel_rfl) (by kernel_rfl) (by kernel_rfl) (fun _ _ _ h => h) (Or.inr ⟨by kernel_rfl, rfl⟩) (by with_reducible assumption) ?_
        (try simp only [actP])
        refine wpAnyH_take (i := 10) (oi := _) (v := undef) rfl (by kernel_rfl) (by kernel_rfl) (by kernel_rfl) (fun _ _ _ h => h) (Or.inr ⟨by kernel_rfl, rfl⟩) (by with_reducible assumption) ?_
        (try simp only [actP])
        refine wpAnyH_take (i := 11) (oi := _) (v := undef) rfl (by kernel_rfl) (by kernel_rfl) (by kernel_rfl) (fun _ _ _ h => h) (Or.inr ⟨by kernel_rfl, rfl⟩) (by with_reducible assumption) ?_
        (try simp only [actP])
        refine wpAnyH_take (i := 12) (oi := _) (v := undef) rfl (by kernel_rfl) (by kernel_rfl) (by kernel_rfl) (fun _ _ _ h => h) (Or.inr ⟨by kernel_rfl, rfl⟩) (by with_reducible assumption) ?_
        (try simp only [actP])
        refine wpAnyH_take (i := 13) (oi := _) (v := undef) rfl (by kernel_rfl) (by kernel_rfl) (by kernel_rfl) (fun _ _ _ h => h) (Or.inr ⟨by kernel_rfl, rfl⟩) (by with_reducible assumption) ?_
        (try simp only [actP])
        refine wpAnyH_take (i := 14) (oi := _) (v := undef) rfl (by kernel_rfl) (by kernel_rfl) (by kernel_rfl) (fun _ _ _ h => h) (Or.inr ⟨by kernel_rfl, rfl⟩) (by with_reducible assumption) ?_
        (try simp only [actP])
        refine wpAnyH_take (i := 15) (oi := _) (v := undef) rfl (by kernel_rfl) (by kernel_rfl) (by kernel_rfl) (fun _ _ _ h => h) (Or.inr ⟨by kernel_rfl, rfl⟩) (by with_reducible assumption) ?_
        (try simp only [actP])
        refine wpAnyH_take (i := 16) (oi := _) (v := undef) rfl (by kernel_rfl) (by kernel_rfl) (by kernel_rfl) (fun _ _ _ h => h) (Or.inr ⟨by kernel_rfl, rfl⟩) (by with_reducible assumption) ?_
        (try simp only [actP])
        refine takeH 17 (v := ?_) rfl ?_ ?_; rotate_left; focus (intro w' hSw; (try dsimp only at hSw); go_simp; try (with_reducible rfl))
        (try simp only [actP])
        refine wpAnyH_done (by kernel_rfl) ?_ _
        have hB6 := Bx.self (w := w) hHeld
        go_wp2_with fail
        rw [hQ.out]
        go_ret
        exact ⟨rfl, by first | exact hB6.2.2.2.2.2.2.2.1 | exact hB.out.2.2.2.2.2.2.2.1 | (exact eX)⟩
      ·skip
       by_cases k2 : c.kind = 2
       ·obtain rfl : I = .iface 291 (.agg #[]) := by rw [HI.out, k2]; rfl
        have im1 : ∀ W : World, (method 442 291 (.agg #[]) "loop.example/g00861/impl.clockPins").run Tryz.prog W = .ok (269, .agg #[]) W := fun _ => by kernel_rfl
        have im2 : ∀ W : World, (method 442 291 (.agg #[]) "loop.example/g00861/impl.truthSize").run Tryz.prog W = .ok (270, .agg #[]) W := fun _ => by kernel_rfl
        have kd := k2
        clear k1 k2 kk
        by_cases hX : X = 1
        ·subst hX
         obtain ⟨T, hT⟩ : ∃ T : Int, T = 0 := ⟨_, rfl⟩
         have wr1 : IntKind.i64.wrap ((c.pins.length : Int) - 1) = (c.pins.length : Int) - 1 := IntWalk.i64_in _ (by omega)
         have HB := lh (fun (w1 : World) (hb : Below w.heap.size w w1) => areBits_ext _ c.truth 0 w1 (X4.out.up hb))
         cases hb : (((c.truth.length : Int) == 0) && bitsB c.truth)
         ·have hQ := lh (cell_kind (c := c) (by rw [kc_2 kd, no_bits hb]; simp))
          rw [hb] at HB
          clear hb hT
          go_region_held3 (fun w' => w'.cell? ⟨w.heap.size, 0, none⟩ = some (.string c.name) ∧ w'.cell? ⟨w.heap.size, 1, none⟩ = some (.int .i64 c.kind) ∧ w'.cell? ⟨w.heap.size, 2, none⟩ = some (.slice p2 c.pins.length q2) ∧ w'.cell? ⟨w.heap.size, 3, none⟩ = some (.slice p3 c.arcs.length q3) ∧ w'.cell? ⟨w.heap.size, 4, none⟩ = some (.slice p4 c.truth.length q4) ∧ w'.cell? ⟨w.heap.size, 5, none⟩ = some (.int .i64 c.leak) ∧ w'.cell? ⟨w.heap.size, 6, none⟩ = some (.int .i64 c.energy) ∧ Below w.heap.size w w' ∧ w.heap.size < w'.heap.size) ((show Bx w _ _ _ _ _ _ _ _; repeat (first | (with_reducible exact (Hid.out (by with_reducible assumption))) | (with_reducible assumption) | (with_reducible refine Bx.alloc ?_ _) | (with_reducible refine Bx.drew ?_)))) (first | (go_at_call 200; with_reducible refine (HCl.out _ eX).mono ?_; rintro e wn ⟨rfl, hb⟩; have hS := lh (Bx.call (by with_reducible assumption) hb); have zL := (Hid.out hS).2.2.2.2.2.2.2.2) | (go_at_call 269; with_reducible refine (flopPins_any _).mono ?_; rintro e wn ⟨rfl, hb⟩; have hS := lh (Bx.call (by with_reducible assumption) hb); have zL := (Hid.out hS).2.2.2.2.2.2.2.2) | (go_at_call 270; refine (flopSize_any _ _).mono ?_; rintro e wn ⟨rfl, hb⟩; have hS := lh (Bx.call (by with_reducible assumption) hb); have zL := (Hid.out hS).2.2.2.2.2.2.2.2) | (go_at_call 201; with_reducible refine (HB.out _ eX).mono ?_; rintro e wn ⟨rfl, hb⟩; have hS := lh (Bx.call (by with_reducible assumption) hb); have zL := (Hid.out hS).2.2.2.2.2.2.2.2))
          all_goals
           have hB6 := Bx.self (w := w) (Hid.out (by with_reducible assumption))
           go_wp2_with fail
           rw [hQ.out]
           go_ret
           exact ⟨rfl, by first | exact hB6.2.2.2.2.2.2.2.1 | exact hB.out.2.2.2.2.2.2.2.1 | (exact eX)⟩
         ·rw [hb] at HB
          cases ha : arcsB c.pins c.arcs
          ·have hQ := lh (cell_arcs (c := c) ha)
           rw [ha] at HAr
           clear hb hT ha
           go_region_held3 (fun w' => w'.cell? ⟨w.heap.size, 0, none⟩ = some (.string c.name) ∧ w'.cell? ⟨w.heap.size, 1, none⟩ = some (.int .i64 c.kind) ∧ w'.cell? ⟨w.heap.size, 2, none⟩ = some (.slice p2 c.pins.length q2) ∧ w'.cell? ⟨w.heap.size, 3, none⟩ = some (.slice p3 c.arcs.length q3) ∧ w'.cell? ⟨w.heap.size, 4, none⟩ = some (.slice p4 c.truth.length q4) ∧ w'.cell? ⟨w.heap.size, 5, none⟩ = some (.int .i64 c.leak) ∧ w'.cell? ⟨w.heap.size, 6, none⟩ = some (.int .i64 c.energy) ∧ Below w.heap.size w w' ∧ w.heap.size < w'.heap.size) ((show Bx w _ _ _ _ _ _ _ _; repeat (first | (with_reducible exact (Hid.out (by with_reducible assumption))) | (with_reducible assumption) | (with_reducible refine Bx.alloc ?_ _) | (with_reducible refine Bx.drew ?_)))) (first | (go_at_call 200; with_reducible refine (HCl.out _ eX).mono ?_; rintro e wn ⟨rfl, hb⟩; have hS := lh (Bx.call (by with_reducible assumption) hb); have zL := (Hid.out hS).2.2.2.2.2.2.2.2) | (go_at_call 269; with_reducible refine (flopPins_any _).mono ?_; rintro e wn ⟨rfl, hb⟩; have hS := lh (Bx.call (by with_reducible assumption) hb); have zL := (Hid.out hS).2.2.2.2.2.2.2.2) | (go_at_call 270; refine (flopSize_any _ _).mono ?_; rintro e wn ⟨rfl, hb⟩; have hS := lh (Bx.call (by with_reducible assumption) hb); have zL := (Hid.out hS).2.2.2.2.2.2.2.2) | (go_at_call 201; with_reducible refine (HB.out _ eX).mono ?_; rintro e wn ⟨rfl, hb⟩; have hS := lh (Bx.call (by with_reducible assumption) hb); have zL := (Hid.out hS).2.2.2.2.2.2.2.2))
           all_goals
            have hB6 := Bx.self (w := w) (Hid.out (by with_reducible assumption))
            have ⟨r0, r1, r2, r3, r4, r5, r6, _, _⟩ := hB6
            go_wp2_with (go_at_call 202; with_reducible refine (HAr.out _ hB6.2.2.2.2.2.2.2.1).mono ?_; rintro e wn ⟨rfl, hb⟩; have hS := lh (Bx.call hB6 hb); clear r0 r1 r2 r3 r4 r5 r6 hB6 hb; have hB6 := hS.out; have ⟨r0, r1, r2, r3, r4, r5, r6, _, _⟩ := hB6)
            rw [hQ.out]
            go_ret
            exact ⟨rfl, by first | exact hB6.2.2.2.2.2.2.2.1 | exact hB.out.2.2.2.2.2.2.2.1 | (exact eX)⟩
          ·rw [ha] at HAr
           have ⟨a8, hks, _⟩ := arcs_get ha
           have HCt := lh (fun (w1 : World) (hb : Below w.heap.size w w1) => countArcs_any _ c.arcs w1 (X3.out.up hb) a8 (fun i hi => sArc_kind (hks i hi)))
           obtain ⟨S, hS⟩ : ∃ S, S = flopB (cnt c.arcs 1 c.arcs.length) (cnt c.arcs 2 c.arcs.length) (cnt c.arcs 3 c.arcs.length) := ⟨_, rfl⟩
           have HSt := lh (fun (w1 : World) => suitFlop_any (cnt c.arcs 0 c.arcs.length) (cnt c.arcs 1 c.arcs.length) (cnt c.arcs 2 c.arcs.length) (cnt c.arcs 3 c.arcs.length) (cnt c.arcs 4 c.arcs.length) (cnt c.arcs 5 c.arcs.length) w1)
           rw [← hS] at HSt
           have hQ := lh ((HALL.out ha).trans (show kcB c = S by rw [kc_2 kd, ← hS, ← HX.out, (yes_bits hb)]; simp))
           clear hb hT ha hks hS
           go_region_held3 (fun w' => w'.cell? ⟨w.heap.size, 0, none⟩ = some (.string c.name) ∧ w'.cell? ⟨w.heap.size, 1, none⟩ = some (.int .i64 c.kind) ∧ w'.cell? ⟨w.heap.size, 2, none⟩ = some (.slice p2 c.pins.length q2) ∧ w'.cell? ⟨w.heap.size, 3, none⟩ = some (.slice p3 c.arcs.length q3) ∧ w'.cell? ⟨w.heap.size, 4, none⟩ = some (.slice p4 c.truth.length q4) ∧ w'.cell? ⟨w.heap.size, 5, none⟩ = some (.int .i64 c.leak) ∧ w'.cell? ⟨w.heap.size, 6, none⟩ = some (.int .i64 c.energy) ∧ Below w.heap.size w w' ∧ w.heap.size < w'.heap.size) ((show Bx w _ _ _ _ _ _ _ _; repeat (first | (with_reducible exact (Hid.out (by with_reducible assumption))) | (with_reducible assumption) | (with_reducible refine Bx.alloc ?_ _) | (with_reducible refine Bx.drew ?_)))) (first | (go_at_call 200; with_reducible refine (HCl.out _ eX).mono ?_; rintro e wn ⟨rfl, hb⟩; have hS := lh (Bx.call (by with_reducible assumption) hb); have zL := (Hid.out hS).2.2.2.2.2.2.2.2) | (go_at_call 269; with_reducible refine (flopPins_any _).mono ?_; rintro e wn ⟨rfl, hb⟩; have hS := lh (Bx.call (by with_reducible assumption) hb); have zL := (Hid.out hS).2.2.2.2.2.2.2.2) | (go_at_call 270; refine (flopSize_any _ _).mono ?_; rintro e wn ⟨rfl, hb⟩; have hS := lh (Bx.call (by with_reducible assumption) hb); have zL := (Hid.out hS).2.2.2.2.2.2.2.2) | (go_at_call 201; with_reducible refine (HB.out _ eX).mono ?_; rintro e wn ⟨rfl, hb⟩; have hS := lh (Bx.call (by with_reducible assumption) hb); have zL := (Hid.out hS).2.2.2.2.2.2.2.2))
           all_goals
            have hB6 := Bx.self (w := w) (Hid.out (by with_reducible assumption))
            have ⟨r0, r1, r2, r3, r4, r5, r6, _, _⟩ := hB6
            go_wp2_with (first | (go_at_call 202; with_reducible refine (HAr.out _ hB6.2.2.2.2.2.2.2.1).mono ?_; rintro e wn ⟨rfl, hb⟩; have hS := lh (Bx.call hB6 hb); clear r0 r1 r2 r3 r4 r5 r6 hB6 hb; have hB6 := hS.out; have ⟨r0, r1, r2, r3, r4, r5, r6, _, _⟩ := hB6) | (go_at_call 204; with_reducible refine (HCt.out _ hB6.2.2.2.2.2.2.2.1).mono ?_; rintro e wn ⟨rfl, hb⟩; have hS := lh (Bx.call hB6 hb); clear r0 r1 r2 r3 r4 r5 r6 hB6 hb; have hB6 := hS.out; have ⟨r0, r1, r2, r3, r4, r5, r6, _, _⟩ := hB6) | (go_at_call 203; with_reducible refine (HSt.out _).mono ?_; rintro e wn ⟨rfl, hb⟩; have hS := lh (Bx.call hB6 hb); clear r0 r1 r2 r3 r4 r5 r6 hB6 hb; have hB6 := hS.out; have ⟨r0, r1, r2, r3, r4, r5, r6, _, _⟩ := hB6))
            rw [hQ.out]
            go_ret
            exact ⟨rfl, by first | exact hB6.2.2.2.2.2.2.2.1 | exact hB.out.2.2.2.2.2.2.2.1 | (exact eX)⟩
        ·have hQ := lh (cell_kind (c := c) (by rw [kc_2 kd, ← HX.out, decide_eq_false hX]; simp))
         have hX' : ((X : Int) != 1) = true := by simp; omega
         have hX2 : ((X : Int) == 1) = false := by simp; omega
         refine wp_region_held_drew (S := (fun w' => w'.cell? ⟨w.heap.size, 0, none⟩ = some (.string c.name) ∧ w'.cell? ⟨w.heap.size, 1, none⟩ = some (.int .i64 c.kind) ∧ w'.cell? ⟨w.heap.size, 2, none⟩ = some (.slice p2 c.pins.length q2) ∧ w'.cell? ⟨w.heap.size, 3, none⟩ = some (.slice p3 c.arcs.length q3) ∧ w'.cell? ⟨w.heap.size, 4, none⟩ = some (.slice p4 c.truth.length q4) ∧ w'.cell? ⟨w.heap.size, 5, none⟩ = some (.int .i64 c.leak) ∧ w'.cell? ⟨w.heap.size, 6, none⟩ = some (.int .i64 c.energy) ∧ Below w.heap.size w w' ∧ w.heap.size < w'.heap.size)) (by kernel_rfl) ?_ (fun hHeld => ?_)
         ·exact Bx.drew hB.out
         (try dsimp only at hHeld)
         refine takeH 0 (v := ?_) rfl ?_ ?_; rotate_left; focus (intro w' hSw; (try dsimp only at hSw); go_simp; try (with_reducible rfl))
         (try simp only [actP])
         refine takeH 1 (v := ?_) rfl ?_ ?_; rotate_left; focus (intro w' hSw; (try dsimp only at hSw); go_simp; try (with_reducible rfl))
         (try simp only [actP])
         refine takeH 3 (v := ?_) rfl ?_ ?_; rotate_left; focus (intro w' hSw; (try dsimp only at hSw); go_simp; try (with_reducible rfl))
         (try simp only [actP])
         refine wpAnyH_ready (rs := [2]) (by kernel_rfl) (by simp) ?_
         refine AllReadyH.cons rfl (fun K hK => ?_) AllReadyH.nil
         go_simp
         (go_at_call 200; refine (HCl.out _ hHeld.2.2.2.2.2.2.2.1).mono ?_; rintro e wn ⟨rfl, hb⟩)
         refine hK.out _ _ (Bx.call hHeld hb) (fun hHeld' => ?_)
         clear hK K hHeld hb
         have hHeld := hHeld'
         clear hHeld'
         (try simp only [actP])
         refine wpAnyH_ready (rs := [4]) (by kernel_rfl) (by simp) ?_
         refine AllReadyH.cons rfl (fun K hK => ?_) AllReadyH.nil
         go_simp
         (go_at_call 269; refine (flopPins_any _).mono ?_; rintro e wn ⟨rfl, hb⟩)
         refine hK.out _ _ (Bx.call hHeld hb) (fun hHeld' => ?_)
         clear hK K hHeld hb
         have hHeld := hHeld'
         clear hHeld'
         (try simp only [actP])
         refine takeH 5 (v := ?_) rfl ?_ ?_; rotate_left; focus (intro w' hSw; (try dsimp only at hSw); go_simp; try (with_reducible rfl))
         (try simp only [actP])
         refine takeH 6 (v := ?_) rfl ?_ ?_; rotate_left; focus (intro w' hSw; (try dsimp only at hSw); go_simp; try (with_reducible rfl))
         (try simp only [actP])
         refine wpAnyH_take (i := 7) (oi := _) (v := undef) rfl (by kernel_rfl) (by kernel_rfl) (by kernel_rfl) (fun _ _ _ h => h) (Or.inr ⟨by kernel_rfl, rfl⟩) (by with_reducible assumption) ?_
         (try simp only [actP])
         refine wpAnyH_take (i := 8) (oi := _) (v := undef) rfl (by kernel_rfl) (by kernel_rfl) (by kernel_rfl) (fun _ _ _ h => h) (Or.inr ⟨by kernel_rfl, rfl⟩) (by with_reducible assumption) ?_
         (try simp only [actP])
         refine wpAnyH_take (i := 9) (oi := _) (v := undef) rfl (by kernel_rfl) (by kernel_rfl) (by kernel_rfl) (fun _ _ _ h => h) (Or.inr ⟨by kernel_rfl, rfl⟩) (by with_reducible assumption) ?_
         (try simp only [actP])
         refine wpAnyH_take (i := 10) (oi := _) (v := undef) rfl (by kernel_rfl) (by kernel_rfl) (by kernel_rfl) (fun _ _ _ h => h) (Or.inr ⟨by kernel_rfl, rfl⟩) (by with_reducible assumption) ?_
         (try simp only [actP])
         refine wpAnyH_take (i := 11) (oi := _) (v := undef) rfl (by kernel_rfl) (by kernel_rfl) (by kernel_rfl) (fun _ _ _ h => h) (Or.inr ⟨by kernel_rfl, rfl⟩) (by with_reducible assumption) ?_
         (try simp only [actP])
         refine wpAnyH_take (i := 12) (oi := _) (v := undef) rfl (by kernel_rfl) (by kernel_rfl) (by kernel_rfl) (fun _ _ _ h => h) (Or.inr ⟨by kernel_rfl, rfl⟩) (by with_reducible assumption) ?_
         (try simp only [actP])
         refine wpAnyH_take (i := 13) (oi := _) (v := undef) rfl (by kernel_rfl) (by kernel_rfl) (by kernel_rfl) (fun _ _ _ h => h) (Or.inr ⟨by kernel_rfl, rfl⟩) (by with_reducible assumption) ?_
         (try simp only [actP])
         refine wpAnyH_take (i := 14) (oi := _) (v := undef) rfl (by kernel_rfl) (by kernel_rfl) (by kernel_rfl) (fun _ _ _ h => h) (Or.inr ⟨by kernel_rfl, rfl⟩) (by with_reducible assumption) ?_
         (try simp only [actP])
         refine wpAnyH_take (i := 15) (oi := _) (v := undef) rfl (by kernel_rfl) (by kernel_rfl) (by kernel_rfl) (fun _ _ _ h => h) (Or.inr ⟨by kernel_rfl, rfl⟩) (by with_reducible assumption) ?_
         (try simp only [actP])
         refine wpAnyH_take (i := 16) (oi := _) (v := undef) rfl (by kernel_rfl) (by kernel_rfl) (by kernel_rfl) (fun _ _ _ h => h) (Or.inr ⟨by kernel_rfl, rfl⟩) (by with_reducible assumption) ?_
         (try simp only [actP])
         refine takeH 17 (v := ?_) rfl ?_ ?_; rotate_left; focus (intro w' hSw; (try dsimp only at hSw); go_simp; try (with_reducible rfl))
         (try simp only [actP])
         refine wpAnyH_done (by kernel_rfl) ?_ _
         have hB6 := Bx.self (w := w) hHeld
         go_wp2_with fail
         rw [hQ.out]
         go_ret
         exact ⟨rfl, by first | exact hB6.2.2.2.2.2.2.2.1 | exact hB.out.2.2.2.2.2.2.2.1 | (exact eX)⟩
       ·skip
        by_cases k3 : c.kind = 3
        ·obtain rfl : I = .iface 292 (.agg #[]) := by rw [HI.out, k3]; rfl
         have im1 : ∀ W : World, (method 442 292 (.agg #[]) "loop.example/g00861/impl.clockPins").run Tryz.prog W = .ok (271, .agg #[]) W := fun _ => by kernel_rfl
         have im2 : ∀ W : World, (method 442 292 (.agg #[]) "loop.example/g00861/impl.truthSize").run Tryz.prog W = .ok (272, .agg #[]) W := fun _ => by kernel_rfl
         have kd := k3
         clear k1 k2 k3 kk
         by_cases hX : X = 1
         ·subst hX
          obtain ⟨T, hT⟩ : ∃ T : Int, T = 0 := ⟨_, rfl⟩
          have wr1 : IntKind.i64.wrap ((c.pins.length : Int) - 1) = (c.pins.length : Int) - 1 := IntWalk.i64_in _ (by omega)
          have HB := lh (fun (w1 : World) (hb : Below w.heap.size w w1) => areBits_ext _ c.truth 0 w1 (X4.out.up hb))
          cases hb : (((c.truth.length : Int) == 0) && bitsB c.truth)
          ·have hQ := lh (cell_kind (c := c) (by rw [kc_3 kd, no_bits hb]; simp))
           rw [hb] at HB
           clear hb hT
           go_region_held3 (fun w' => w'.cell? ⟨w.heap.size, 0, none⟩ = some (.string c.name) ∧ w'.cell? ⟨w.heap.size, 1, none⟩ = some (.int .i64 c.kind) ∧ w'.cell? ⟨w.heap.size, 2, none⟩ = some (.slice p2 c.pins.length q2) ∧ w'.cell? ⟨w.heap.size, 3, none⟩ = some (.slice p3 c.arcs.length q3) ∧ w'.cell? ⟨w.heap.size, 4, none⟩ = some (.slice p4 c.truth.length q4) ∧ w'.cell? ⟨w.heap.size, 5, none⟩ = some (.int .i64 c.leak) ∧ w'.cell? ⟨w.heap.size, 6, none⟩ = some (.int .i64 c.energy) ∧ Below w.heap.size w w' ∧ w.heap.size < w'.heap.size) ((show Bx w _ _ _ _ _ _ _ _; repeat (first | (with_reducible exact (Hid.out (by with_reducible assumption))) | (with_reducible assumption) | (with_reducible refine Bx.alloc ?_ _) | (with_reducible refine Bx.drew ?_)))) (first | (go_at_call 200; with_reducible refine (HCl.out _ eX).mono ?_; rintro e wn ⟨rfl, hb⟩; have hS := lh (Bx.call (by with_reducible assumption) hb); have zL := (Hid.out hS).2.2.2.2.2.2.2.2) | (go_at_call 271; with_reducible refine (latchPins_any _).mono ?_; rintro e wn ⟨rfl, hb⟩; have hS := lh (Bx.call (by with_reducible assumption) hb); have zL := (Hid.out hS).2.2.2.2.2.2.2.2) | (go_at_call 272; refine (latchSize_any _ _).mono ?_; rintro e wn ⟨rfl, hb⟩; have hS := lh (Bx.call (by with_reducible assumption) hb); have zL := (Hid.out hS).2.2.2.2.2.2.2.2) | (go_at_call 201; with_reducible refine (HB.out _ eX).mono ?_; rintro e wn ⟨rfl, hb⟩; have hS := lh (Bx.call (by with_reducible assumption) hb); have zL := (Hid.out hS).2.2.2.2.2.2.2.2))
           all_goals
            have hB6 := Bx.self (w := w) (Hid.out (by with_reducible assumption))
            go_wp2_with fail
            rw [hQ.out]
            go_ret
            exact ⟨rfl, by first | exact hB6.2.2.2.2.2.2.2.1 | exact hB.out.2.2.2.2.2.2.2.1 | (exact eX)⟩
          ·rw [hb] at HB
           cases ha : arcsB c.pins c.arcs
           ·have hQ := lh (cell_arcs (c := c) ha)
            rw [ha] at HAr
            clear hb hT ha
            go_region_held3 (fun w' => w'.cell? ⟨w.heap.size, 0, none⟩ = some (.string c.name) ∧ w'.cell? ⟨w.heap.size, 1, none⟩ = some (.int .i64 c.kind) ∧ w'.cell? ⟨w.heap.size, 2, none⟩ = some (.slice p2 c.pins.length q2) ∧ w'.cell? ⟨w.heap.size, 3, none⟩ = some (.slice p3 c.arcs.length q3) ∧ w'.cell? ⟨w.heap.size, 4, none⟩ = some (.slice p4 c.truth.length q4) ∧ w'.cell? ⟨w.heap.size, 5, none⟩ = some (.int .i64 c.leak) ∧ w'.cell? ⟨w.heap.size, 6, none⟩ = some (.int .i64 c.energy) ∧ Below w.heap.size w w' ∧ w.heap.size < w'.heap.size) ((show Bx w _ _ _ _ _ _ _ _; repeat (first | (with_reducible exact (Hid.out (by with_reducible assumption))) | (with_reducible assumption) | (with_reducible refine Bx.alloc ?_ _) | (with_reducible refine Bx.drew ?_)))) (first | (go_at_call 200; with_reducible refine (HCl.out _ eX).mono ?_; rintro e wn ⟨rfl, hb⟩; have hS := lh (Bx.call (by with_reducible assumption) hb); have zL := (Hid.out hS).2.2.2.2.2.2.2.2) | (go_at_call 271; with_reducible refine (latchPins_any _).mono ?_; rintro e wn ⟨rfl, hb⟩; have hS := lh (Bx.call (by with_reducible assumption) hb); have zL := (Hid.out hS).2.2.2.2.2.2.2.2) | (go_at_call 272; refine (latchSize_any _ _).mono ?_; rintro e wn ⟨rfl, hb⟩; have hS := lh (Bx.call (by with_reducible assumption) hb); have zL := (Hid.out hS).2.2.2.2.2.2.2.2) | (go_at_call 201; with_reducible refine (HB.out _ eX).mono ?_; rintro e wn ⟨rfl, hb⟩; have hS := lh (Bx.call (by with_reducible assumption) hb); have zL := (Hid.out hS).2.2.2.2.2.2.2.2))
            all_goals
             have hB6 := Bx.self (w := w) (Hid.out (by with_reducible assumption))
             have ⟨r0, r1, r2, r3, r4, r5, r6, _, _⟩ := hB6
             go_wp2_with (go_at_call 202; with_reducible refine (HAr.out _ hB6.2.2.2.2.2.2.2.1).mono ?_; rintro e wn ⟨rfl, hb⟩; have hS := lh (Bx.call hB6 hb); clear r0 r1 r2 r3 r4 r5 r6 hB6 hb; have hB6 := hS.out; have ⟨r0, r1, r2, r3, r4, r5, r6, _, _⟩ := hB6)
             rw [hQ.out]
             go_ret
             exact ⟨rfl, by first | exact hB6.2.2.2.2.2.2.2.1 | exact hB.out.2.2.2.2.2.2.2.1 | (exact eX)⟩
           ·rw [ha] at HAr
            have ⟨a8, hks, _⟩ := arcs_get ha
            have HCt := lh (fun (w1 : World) (hb : Below w.heap.size w w1) => countArcs_any _ c.arcs w1 (X3.out.up hb) a8 (fun i hi => sArc_kind (hks i hi)))
            obtain ⟨S, hS⟩ : ∃ S, S = latchB (cnt c.arcs 1 c.arcs.length) (cnt c.arcs 2 c.arcs.length) (cnt c.arcs 3 c.arcs.length) := ⟨_, rfl⟩
            have HSt := lh (fun (w1 : World) => suitLatch_any (cnt c.arcs 0 c.arcs.length) (cnt c.arcs 1 c.arcs.length) (cnt c.arcs 2 c.arcs.length) (cnt c.arcs 3 c.arcs.length) (cnt c.arcs 4 c.arcs.length) (cnt c.arcs 5 c.arcs.length) w1)
            rw [← hS] at HSt
            have hQ := lh ((HALL.out ha).trans (show kcB c = S by rw [kc_3 kd, ← hS, ← HX.out, (yes_bits hb)]; simp))
            clear hb hT ha hks hS
            go_region_held3 (fun w' => w'.cell? ⟨w.heap.size, 0, none⟩ = some (.string c.name) ∧ w'.cell? ⟨w.heap.size, 1, none⟩ = some (.int .i64 c.kind) ∧ w'.cell? ⟨w.heap.size, 2, none⟩ = some (.slice p2 c.pins.length q2) ∧ w'.cell? ⟨w.heap.size, 3, none⟩ = some (.slice p3 c.arcs.length q3) ∧ w'.cell? ⟨w.heap.size, 4, none⟩ = some (.slice p4 c.truth.length q4) ∧ w'.cell? ⟨w.heap.size, 5, none⟩ = some (.int .i64 c.leak) ∧ w'.cell? ⟨w.heap.size, 6, none⟩ = some (.int .i64 c.energy) ∧ Below w.heap.size w w' ∧ w.heap.size < w'.heap.size) ((show Bx w _ _ _ _ _ _ _ _; repeat (first | (with_reducible exact (Hid.out (by with_reducible assumption))) | (with_reducible assumption) | (with_reducible refine Bx.alloc ?_ _) | (with_reducible refine Bx.drew ?_)))) (first | (go_at_call 200; with_reducible refine (HCl.out _ eX).mono ?_; rintro e wn ⟨rfl, hb⟩; have hS := lh (Bx.call (by with_reducible assumption) hb); have zL := (Hid.out hS).2.2.2.2.2.2.2.2) | (go_at_call 271; with_reducible refine (latchPins_any _).mono ?_; rintro e wn ⟨rfl, hb⟩; have hS := lh (Bx.call (by with_reducible assumption) hb); have zL := (Hid.out hS).2.2.2.2.2.2.2.2) | (go_at_call 272; refine (latchSize_any _ _).mono ?_; rintro e wn ⟨rfl, hb⟩; have hS := lh (Bx.call (by with_reducible assumption) hb); have zL := (Hid.out hS).2.2.2.2.2.2.2.2) | (go_at_call 201; with_reducible refine (HB.out _ eX).mono ?_; rintro e wn ⟨rfl, hb⟩; have hS := lh (Bx.call (by with_reducible assumption) hb); have zL := (Hid.out hS).2.2.2.2.2.2.2.2))
            all_goals
             have hB6 := Bx.self (w := w) (Hid.out (by with_reducible assumption))
             have ⟨r0, r1, r2, r3, r4, r5, r6, _, _⟩ := hB6
             go_wp2_with (first | (go_at_call 202; with_reducible refine (HAr.out _ hB6.2.2.2.2.2.2.2.1).mono ?_; rintro e wn ⟨rfl, hb⟩; have hS := lh (Bx.call hB6 hb); clear r0 r1 r2 r3 r4 r5 r6 hB6 hb; have hB6 := hS.out; have ⟨r0, r1, r2, r3, r4, r5, r6, _, _⟩ := hB6) | (go_at_call 204; with_reducible refine (HCt.out _ hB6.2.2.2.2.2.2.2.1).mono ?_; rintro e wn ⟨rfl, hb⟩; have hS := lh (Bx.call hB6 hb); clear r0 r1 r2 r3 r4 r5 r6 hB6 hb; have hB6 := hS.out; have ⟨r0, r1, r2, r3, r4, r5, r6, _, _⟩ := hB6) | (go_at_call 203; with_reducible refine (HSt.out _).mono ?_; rintro e wn ⟨rfl, hb⟩; have hS := lh (Bx.call hB6 hb); clear r0 r1 r2 r3 r4 r5 r6 hB6 hb; have hB6 := hS.out; have ⟨r0, r1, r2, r3, r4, r5, r6, _, _⟩ := hB6))
             rw [hQ.out]
             go_ret
             exact ⟨rfl, by first | exact hB6.2.2.2.2.2.2.2.1 | exact hB.out.2.2.2.2.2.2.2.1 | (exact eX)⟩
         ·have hQ := lh (cell_kind (c := c) (by rw [kc_3 kd, ← HX.out, decide_eq_false hX]; simp))
          have hX' : ((X : Int) != 1) = true := by simp; omega
          have hX2 : ((X : Int) == 1) = false := by simp; omega
          refine wp_region_held_drew (S := (fun w' => w'.cell? ⟨w.heap.size, 0, none⟩ = some (.string c.name) ∧ w'.cell? ⟨w.heap.size, 1, none⟩ = some (.int .i64 c.kind) ∧ w'.cell? ⟨w.heap.size, 2, none⟩ = some (.slice p2 c.pins.length q2) ∧ w'.cell? ⟨w.heap.size, 3, none⟩ = some (.slice p3 c.arcs.length q3) ∧ w'.cell? ⟨w.heap.size, 4, none⟩ = some (.slice p4 c.truth.length q4) ∧ w'.cell? ⟨w.heap.size, 5, none⟩ = some (.int .i64 c.leak) ∧ w'.cell? ⟨w.heap.size, 6, none⟩ = some (.int .i64 c.energy) ∧ Below w.heap.size w w' ∧ w.heap.size < w'.heap.size)) (by kernel_rfl) ?_ (fun hHeld => ?_)
          ·exact Bx.drew hB.out
          (try dsimp only at hHeld)
          refine takeH 0 (v := ?_) rfl ?_ ?_; rotate_left; focus (intro w' hSw; (try dsimp only at hSw); go_simp; try (with_reducible rfl))
          (try simp only [actP])
          refine takeH 1 (v := ?_) rfl ?_ ?_; rotate_left; focus (intro w' hSw; (try dsimp only at hSw); go_simp; try (with_reducible rfl))
          (try simp only [actP])
          refine takeH 3 (v := ?_) rfl ?_ ?_; rotate_left; focus (intro w' hSw; (try dsimp only at hSw); go_simp; try (with_reducible rfl))
          (try simp only [actP])
          refine wpAnyH_ready (rs := [2]) (by kernel_rfl) (by simp) ?_
          refine AllReadyH.cons rfl (fun K hK => ?_) AllReadyH.nil
          go_simp
          (go_at_call 200; refine (HCl.out _ hHeld.2.2.2.2.2.2.2.1).mono ?_; rintro e wn ⟨rfl, hb⟩)
          refine hK.out _ _ (Bx.call hHeld hb) (fun hHeld' => ?_)
          clear hK K hHeld hb
          have hHeld := hHeld'
          clear hHeld'
          (try simp only [actP])
          refine wpAnyH_ready (rs := [4]) (by kernel_rfl) (by simp) ?_
          refine AllReadyH.cons rfl (fun K hK => ?_) AllReadyH.nil
          go_simp
          (go_at_call 271; refine (latchPins_any _).mono ?_; rintro e wn ⟨rfl, hb⟩)
          refine hK.out _ _ (Bx.call hHeld hb) (fun hHeld' => ?_)
          clear hK K hHeld hb
          have hHeld := hHeld'
          clear hHeld'
          (try simp only [actP])
          refine takeH 5 (v := ?_) rfl ?_ ?_; rotate_left; focus (intro w' hSw; (try dsimp only at hSw); go_simp; try (with_reducible rfl))
          (try simp only [actP])
          refine takeH 6 (v := ?_) rfl ?_ ?_; rotate_left; focus (intro w' hSw; (try dsimp only at hSw); go_simp; try (with_reducible rfl))
          (try simp only [actP])
          refine wpAnyH_take (i := 7) (oi := _) (v := undef) rfl (by kernel_rfl) (by kernel_rfl) (by kernel_rfl) (fun _ _ _ h => h) (Or.inr ⟨by kernel_rfl, rfl⟩) (by with_reducible assumption) ?_
          (try simp only [actP])
          refine wpAnyH_take (i := 8) (oi := _) (v := undef) rfl (by kernel_rfl) (by kernel_rfl) (by kernel_rfl) (fun _ _ _ h => h) (Or.inr ⟨by kernel_rfl, rfl⟩) (by with_reducible assumption) ?_
          (try simp only [actP])
          refine wpAnyH_take (i := 9) (oi := _) (v := undef) rfl (by kernel_rfl) (by kernel_rfl) (by kernel_rfl) (fun _ _ _ h => h) (Or.inr ⟨by kernel_rfl, rfl⟩) (by with_reducible assumption) ?_
          (try simp only [actP])
          refine wpAnyH_take (i := 10) (oi := _) (v := undef) rfl (by kernel_rfl) (by kernel_rfl) (by kernel_rfl) (fun _ _ _ h => h) (Or.inr ⟨by kernel_rfl, rfl⟩) (by with_reducible assumption) ?_
          (try simp only [actP])
          refine wpAnyH_take (i := 11) (oi := _) (v := undef) rfl (by kernel_rfl) (by kernel_rfl) (by kernel_rfl) (fun _ _ _ h => h) (Or.inr ⟨by kernel_rfl, rfl⟩) (by with_reducible assumption) ?_
          (try simp only [actP])
          refine wpAnyH_take (i := 12) (oi := _) (v := undef) rfl (by kernel_rfl) (by kernel_rfl) (by kernel_rfl) (fun _ _ _ h => h) (Or.inr ⟨by kernel_rfl, rfl⟩) (by with_reducible assumption) ?_
          (try simp only [actP])
          refine wpAnyH_take (i := 13) (oi := _) (v := undef) rfl (by kernel_rfl) (by kernel_rfl) (by kernel_rfl) (fun _ _ _ h => h) (Or.inr ⟨by kernel_rfl, rfl⟩) (by with_reducible assumption) ?_
          (try simp only [actP])
          refine wpAnyH_take (i := 14) (oi := _) (v := undef) rfl (by kernel_rfl) (by kernel_rfl) (by kernel_rfl) (fun _ _ _ h => h) (Or.inr ⟨by kernel_rfl, rfl⟩) (by with_reducible assumption) ?_
          (try simp only [actP])
          refine wpAnyH_take (i := 15) (oi := _) (v := undef) rfl (by kernel_rfl) (by kernel_rfl) (by kernel_rfl) (fun _ _ _ h => h) (Or.inr ⟨by kernel_rfl, rfl⟩) (by with_reducible assumption) ?_
          (try simp only [actP])
          refine wpAnyH_take (i := 16) (oi := _) (v := undef) rfl (by kernel_rfl) (by kernel_rfl) (by kernel_rfl) (fun _ _ _ h => h) (Or.inr ⟨by kernel_rfl, rfl⟩) (by with_reducible assumption) ?_
          (try simp only [actP])
          refine takeH 17 (v := ?_) rfl ?_ ?_; rotate_left; focus (intro w' hSw; (try dsimp only at hSw); go_simp; try (with_reducible rfl))
          (try simp only [actP])
          refine wpAnyH_done (by kernel_rfl) ?_ _
          have hB6 := Bx.self (w := w) hHeld
          go_wp2_with fail
          rw [hQ.out]
          go_ret
          exact ⟨rfl, by first | exact hB6.2.2.2.2.2.2.2.1 | exact hB.out.2.2.2.2.2.2.2.1 | (exact eX)⟩
        ·skip
         exfalso
         unfold kindK at kk
         simp only [Bool.or_eq_true, decide_eq_true_eq] at kk
         rcases kk with (kk | kk) | kk
         ·exact k1 kk
         ·exact k2 kk
         ·exact k3 kk
end Go.Proofs.YtkpfbnffhhmokaaGreat
