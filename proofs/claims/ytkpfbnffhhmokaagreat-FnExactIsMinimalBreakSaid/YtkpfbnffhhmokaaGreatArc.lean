/-
The tables and the arcs of a cell: the model's and the program's own check of them, for valid pins.
-/
import Derived.Test.YtkpfbnffhhmokaaGreatPins
import Derived.Test.YtkpfbnffhhmokaaGreatBound
namespace Go.Proofs.YtkpfbnffhhmokaaGreat
open Go.ChangeShapes Go.WideShapes Go.ChangeAt Go.RowKit
set_option linter.unusedVariables false
set_option linter.unusedSimpArgs false
def tabOk (t : TabD) (pos : Bool) : Bool := tabB t.ss t.ls t.vs && (!pos || decide (0 ≤ mnK t.vs t.vs.length))
def tabsOk (ts : List TabD) (pos : Bool) : Bool := decide (ts.length = 2) && allB (fun i => tabOk (tn ts i) pos) ts.length
theorem tabs_len {ts : List TabD} {pos : Bool} (h : ¬ ts.length = 2) : tabsOk ts pos = false := by simp [tabsOk, h]
theorem tabs_bad {ts : List TabD} {pos : Bool} {k : Nat} (hk : k < ts.length) (h : tabOk (tn ts k) pos = false) : tabsOk ts pos = false := by
 unfold tabsOk
 rw [allB_no (p := fun i => tabOk (tn ts i) pos) hk h]
 simp
theorem tabs_all {ts : List TabD} {pos : Bool} (h : ts.length = 2) (h1 : ∀ i, i < ts.length → tabOk (tn ts i) pos = true) : tabsOk ts pos = true := by
 unfold tabsOk
 rw [allB_yes (p := fun i => tabOk (tn ts i) pos) h1]
 simp [h]
theorem mn_bd {ss ls vs : List Int} (h : tabB ss ls vs = true) : -1000000 ≤ mnK vs vs.length := by
 have ⟨p0, p1⟩ := tab_pos h
 have key : ∀ k, 0 < k → k ≤ vs.length → -1000000 ≤ mnK vs k := by
  intro k hk
  induction k with
  | zero => omega
  | succ k ih =>
   intro hk'
   have hb := ((tab_get h).2.2.2 k (by omega)).1
   rcases Nat.eq_zero_or_pos k with e | e
   ·subst e
    rw [mnK_one]
    exact hb
   ·have := ih e (by omega)
    simp only [mnK]
    try split
    all_goals omega
 exact key _ p0 (Nat.le_refl _)
set_option maxHeartbeats 1000000 in
theorem specTables_any (v : Value) (ts : List TabD) (pos : Bool) (w : World) (h : TabsS w w.heap.size v ts) : Calls Tryz.prog 213 #[v, .bool pos] w fun e w' => e = .returned (.bool (tabsOk ts pos)) ∧ Below w.heap.size w w' := by
 obtain ⟨F, hc, hf⟩ := h
 obtain ⟨n, hnn⟩ : ∃ n, n = ts.length := ⟨_, rfl⟩
 rw [← hnn] at hc hf
 have HC := hc
 obtain ⟨hn, a, cap, rfl, _⟩ := hc
 have HC := lh HC; have HF := lh hf; have HN := lh hnn
 clear hf hnn
 by_cases h2 : n = 2
 ·subst h2
  go_enter Tryz.func213, Tryz.ntmps213
  go_wp2
  go_loopw [5] (fun i wr => ∃ k : Nat, k ≤ 2 ∧ i = .int .i64 k ∧ Hid (∀ j, j < k → tabOk (tn ts j) pos = true) ∧ Below w.heap.size w wr) (fun i _ => 2 - (intOf i).toNat)
  case atStart => exact ⟨0, by omega, rfl, lh (fun j hj => absurd hj (Nat.not_lt_zero j)), eX⟩
  case round =>
   obtain ⟨k, hk, rfl, hall, hbw⟩ := hrel
   by_cases hkn : k < 2
   ·obtain ⟨b, off, rfl, hlt, hx⟩ := HC.out.at hbw hkn
    have y0 := hx 0 (by omega); have y1 := hx 1 (by omega); have y2 := hx 2 (by omega)
    simp only [Nat.add_zero] at y0
    have hT := (HF.out k hkn).up hbw
    have hI : (k : Int) < 2 := by omega
    have i0 : (0 : Int) ≤ (k : Int) := by omega
    have HB := lh (specBounds_any _ _ _ (tn ts k).ss (tn ts k).ls (tn ts k).vs wr hT.1 hT.2.1 hT.2.2)
    clear hx hT
    cases ht : tabB (tn ts k).ss (tn ts k).ls (tn ts k).vs
    ·have hQ := lh (tabs_bad (pos := pos) (ts := ts) (k := k) (by have := HN.out; omega) (by simp [tabOk, ht]))
     have ⟨z0, z1, z2⟩ := tb_no ht
     rw [z0, z1, z2] at HB
     clear z0 z1 z2
     go_wp2_with (go_at_call 228; refine (HB.out).mono ?_; rintro e w1 ⟨rfl, hb⟩; have ⟨hc, hf⟩ := bcell hb; have hz := hb.size; (try simp at hz); (try have hz := Nat.lt_of_succ_le hz); (try have y0 := wy w w1); (try have z0 := wz0 w w1); (try have z1 := wz1 w w1); (try have z2 := wz2 w w1); (try have z3 := wz3 w w1); (try have z4 := wz4 w w1); (try have x0 := wz0 wc w1); (try have x1 := wy wc w1))
     rw [hQ.out]
     go_ret
     exact ⟨rfl, eX⟩
    ·have ⟨z0, z1, z2⟩ := tb_yes ht
     obtain ⟨m, hm⟩ : ∃ m, m = mnK (tn ts k).vs (tn ts k).vs.length := ⟨_, rfl⟩
     obtain ⟨m', hm'⟩ : ∃ m, m = mxK (tn ts k).vs (tn ts k).vs.length := ⟨_, rfl⟩
     rw [z0, z1, z2, ← hm, ← hm'] at HB
     clear z0 z1 z2 hm'
     cases pos
     ·have hok := lh (all_more hall.out (show tabOk (tn ts k) false = true by simp [tabOk, ht]))
      clear hm
      go_wp2_with (go_at_call 228; refine (HB.out).mono ?_; rintro e w1 ⟨rfl, hb⟩; have ⟨hc, hf⟩ := bcell hb; have hz := hb.size; (try simp at hz); (try have hz := Nat.lt_of_succ_le hz); (try have y0 := wy w w1); (try have z0 := wz0 w w1); (try have z1 := wz1 w w1); (try have z2 := wz2 w w1); (try have z3 := wz3 w w1); (try have z4 := wz4 w w1); (try have x0 := wz0 wc w1); (try have x1 := wy wc w1))
      go_roundw
      case rel => exact ⟨k + 1, by omega, by go_num, hok, eX⟩
      case measure => simp [intOf]; omega
     ·by_cases hneg : m < 0
      ·have hQ := lh (tabs_bad (pos := true) (ts := ts) (k := k) (by have := HN.out; omega) (by have : ¬ 0 ≤ mnK (tn ts k).vs (tn ts k).vs.length := (by omega); simp [tabOk, ht, this]))
       clear hm
       go_wp2_with (go_at_call 228; refine (HB.out).mono ?_; rintro e w1 ⟨rfl, hb⟩; have ⟨hc, hf⟩ := bcell hb; have hz := hb.size; (try simp at hz); (try have hz := Nat.lt_of_succ_le hz); (try have y0 := wy w w1); (try have z0 := wz0 w w1); (try have z1 := wz1 w w1); (try have z2 := wz2 w w1); (try have z3 := wz3 w w1); (try have z4 := wz4 w w1); (try have x0 := wz0 wc w1); (try have x1 := wy wc w1))
       rw [hQ.out]
       go_ret
       exact ⟨rfl, eX⟩
      ·have hok := lh (all_more hall.out (show tabOk (tn ts k) true = true by
        have : 0 ≤ mnK (tn ts k).vs (tn ts k).vs.length := by omega
        simp [tabOk, ht, this]))
       clear hm
       go_wp2_with (go_at_call 228; refine (HB.out).mono ?_; rintro e w1 ⟨rfl, hb⟩; have ⟨hc, hf⟩ := bcell hb; have hz := hb.size; (try simp at hz); (try have hz := Nat.lt_of_succ_le hz); (try have y0 := wy w w1); (try have z0 := wz0 w w1); (try have z1 := wz1 w w1); (try have z2 := wz2 w w1); (try have z3 := wz3 w w1); (try have z4 := wz4 w w1); (try have x0 := wz0 wc w1); (try have x1 := wy wc w1))
       go_roundw
       case rel => exact ⟨k + 1, by omega, by go_num, hok, eX⟩
       case measure => simp [intOf]; omega
   ·obtain rfl : k = 2 := by omega
    have hQ := lh (tabs_all (ts := ts) (pos := pos) (by have := HN.out; omega) (by rw [← HN.out]; exact hall.out))
    go_wp2
    rw [hQ.out]
    go_ret
    exact ⟨rfl, hbw⟩
 ·have hQ := lh (tabs_len (ts := ts) (pos := pos) (by have := HN.out; omega))
  have h2' : ((n : Int) != 2) = true := by simp; omega
  go_enter Tryz.func213, Tryz.ntmps213
  go_wp2
  rw [hQ.out]
  go_ret
  exact ⟨rfl, eX⟩
def leastI (pos : Bool) : Int := if pos then 0 else -1000000
set_option maxHeartbeats 1000000 in
theorem areTables_any (v : Value) (ts : List TabD) (pos : Bool) (w : World) (h : TabsS w w.heap.size v ts) : Calls Tryz.prog 232 #[v, .int .i64 (leastI pos)] w fun e w' => e = .returned (.bool (tabsOk ts pos)) ∧ Below w.heap.size w w' := by
 obtain ⟨F, hc, hf⟩ := h
 obtain ⟨n, hnn⟩ : ∃ n, n = ts.length := ⟨_, rfl⟩
 rw [← hnn] at hc hf
 have HC := hc
 obtain ⟨hn, a, cap, rfl, _⟩ := hc
 have HC := lh HC; have HF := lh hf; have HN := lh hnn
 obtain ⟨L, hL⟩ : ∃ L, L = leastI pos := ⟨_, rfl⟩
 rw [← hL]
 have HL := lh hL
 clear hf hnn hL
 by_cases h2 : n = 2
 ·subst h2
  go_enter Tryz.func232, Tryz.ntmps232
  go_wp2
  go_loopw [12] (fun i wr => ∃ k : Nat, k ≤ 2 ∧ i = .int .i64 k ∧ Hid (∀ j, j < k → tabOk (tn ts j) pos = true) ∧ Below w.heap.size w wr) (fun i _ => 2 - (intOf i).toNat)
  case atStart => exact ⟨0, by omega, rfl, lh (fun j hj => absurd hj (Nat.not_lt_zero j)), eX⟩
  case round =>
   obtain ⟨k, hk, rfl, hall, hbw⟩ := hrel
   by_cases hkn : k < 2
   ·obtain ⟨b, off, rfl, hlt, hx⟩ := HC.out.at hbw hkn
    have y0 := hx 0 (by omega); have y1 := hx 1 (by omega); have y2 := hx 2 (by omega)
    simp only [Nat.add_zero] at y0
    have hT := (HF.out k hkn).up hbw
    obtain ⟨p0, q0, e0⟩ := hT.1.slice; obtain ⟨p1, q1, e1⟩ := hT.2.1.slice; obtain ⟨p2, q2, e2⟩ := hT.2.2.slice
    rw [e0] at y0; rw [e1] at y1; rw [e2] at y2
    unfold TabF at hT
    rw [e0, e1, e2] at hT
    clear e0 e1 e2
    have hI : (k : Int) < 2 := by omega
    have i0 : (0 : Int) ≤ (k : Int) := by omega
    have HT := lh hT
    have HB := lh (fun (w1 : World) (hb : Below wr.heap.size wr w1) => implIsTable_any _ _ _ (tn ts k).ss (tn ts k).ls (tn ts k).vs w1 (hT.1.up hb) (hT.2.1.up hb) (hT.2.2.up hb))
    clear hx hT
    cases ht : tabB (tn ts k).ss (tn ts k).ls (tn ts k).vs
    ·have hQ := lh (tabs_bad (pos := pos) (ts := ts) (k := k) (by have := HN.out; omega) (by simp [tabOk, ht]))
     rw [ht] at HB
     go_wp2_with (go_at_call 244; refine (HB.out _ eX).mono ?_; rintro e w1 ⟨rfl, hb⟩; have ⟨hc, hf⟩ := bcell hb; have hz := hb.size; (try simp at hz); (try have hz := Nat.lt_of_succ_le hz); (try have y0 := wy w w1); (try have z0 := wz0 w w1); (try have z1 := wz1 w w1); (try have z2 := wz2 w w1); (try have z3 := wz3 w w1); (try have z4 := wz4 w w1); (try have x0 := wz0 wc w1); (try have x1 := wy wc w1))
     rw [hQ.out]
     go_ret
     exact ⟨rfl, eX⟩
    ·obtain ⟨m, hm⟩ : ∃ m, m = mnK (tn ts k).vs (tn ts k).vs.length := ⟨_, rfl⟩
     have HM := lh (fun (w1 : World) (hb : Below wr.heap.size wr w1) => min_ext _ (tn ts k).vs w1 (HT.out.2.2.up hb) (tab_pos ht).1)
     rw [← hm] at HM
     rw [ht] at HB
     have hmb := mn_bd ht
     by_cases hneg : m < L
     ·have hQ := lh (tabs_bad (pos := pos) (ts := ts) (k := k) (by have := HN.out; omega) (by
       have hL := HL.out
       cases pos
       ·simp [leastI] at hL; omega
       ·simp [leastI] at hL
        have : ¬ 0 ≤ mnK (tn ts k).vs (tn ts k).vs.length := by omega
        simp [tabOk, ht, this]))
      clear hm hmb
      go_wp2_with (first | (go_at_call 244; refine (HB.out _ eX).mono ?_; rintro e w1 ⟨rfl, hb⟩; have ⟨hc, hf⟩ := bcell hb; have hz := hb.size; (try simp at hz); (try have hz := Nat.lt_of_succ_le hz); (try have y0 := wy w w1); (try have z0 := wz0 w w1); (try have z1 := wz1 w w1); (try have z2 := wz2 w w1); (try have z3 := wz3 w w1); (try have z4 := wz4 w w1); (try have x0 := wz0 wc w1); (try have x1 := wy wc w1)) | (go_at_call 245; refine (HM.out _ eX).mono ?_; rintro e w1 ⟨rfl, hb⟩; have ⟨hc, hf⟩ := bcell hb; have hz := hb.size; (try simp at hz); (try have hz := Nat.lt_of_succ_le hz); (try have y0 := wy w w1); (try have z0 := wz0 w w1); (try have z1 := wz1 w w1); (try have z2 := wz2 w w1); (try have z3 := wz3 w w1); (try have z4 := wz4 w w1); (try have x0 := wz0 wc w1); (try have x1 := wy wc w1)))
      rw [hQ.out]
      go_ret
      exact ⟨rfl, eX⟩
     ·have hok := lh (all_more hall.out (show tabOk (tn ts k) pos = true by
       have hL := HL.out
       cases pos
       ·simp [tabOk, ht]
       ·simp [leastI] at hL
        have : 0 ≤ mnK (tn ts k).vs (tn ts k).vs.length := by omega
        simp [tabOk, ht, this]))
      clear hm hmb
      go_wp2_with (first | (go_at_call 244; refine (HB.out _ eX).mono ?_; rintro e w1 ⟨rfl, hb⟩; have ⟨hc, hf⟩ := bcell hb; have hz := hb.size; (try simp at hz); (try have hz := Nat.lt_of_succ_le hz); (try have y0 := wy w w1); (try have z0 := wz0 w w1); (try have z1 := wz1 w w1); (try have z2 := wz2 w w1); (try have z3 := wz3 w w1); (try have z4 := wz4 w w1); (try have x0 := wz0 wc w1); (try have x1 := wy wc w1)) | (go_at_call 245; refine (HM.out _ eX).mono ?_; rintro e w1 ⟨rfl, hb⟩; have ⟨hc, hf⟩ := bcell hb; have hz := hb.size; (try simp at hz); (try have hz := Nat.lt_of_succ_le hz); (try have y0 := wy w w1); (try have z0 := wz0 w w1); (try have z1 := wz1 w w1); (try have z2 := wz2 w w1); (try have z3 := wz3 w w1); (try have z4 := wz4 w w1); (try have x0 := wz0 wc w1); (try have x1 := wy wc w1)))
      go_roundw
      case rel => exact ⟨k + 1, by omega, by go_num, hok, eX⟩
      case measure => simp [intOf]; omega
   ·obtain rfl : k = 2 := by omega
    have hQ := lh (tabs_all (ts := ts) (pos := pos) (by have := HN.out; omega) (by rw [← HN.out]; exact hall.out))
    go_wp2
    rw [hQ.out]
    go_ret
    exact ⟨rfl, hbw⟩
 ·have hQ := lh (tabs_len (ts := ts) (pos := pos) (by have := HN.out; omega))
  have h2' : ((n : Int) != 2) = true := by simp; omega
  go_enter Tryz.func232, Tryz.ntmps232
  go_wp2
  rw [hQ.out]
  go_ret
  exact ⟨rfl, eX⟩
/-- What the kind of an arc asks of its pins, its sense and its tables. -/
def kB (kd : Int) (ck ckd eqL ltL : Bool) (sn0 sn13 Tdp Tsp Tdn sl0 : Bool) : Bool :=
 if kd = 1 then !ck && eqL && sn13 && Tdp && Tsp else if kd = 2 then ck && eqL && sn0 && Tdp && Tsp else if kd = 3 then ck && eqL && sn0 && Tdp && Tsp
 else if kd = 4 then ck && ltL && !ckd && sn0 && Tdn && sl0 else if kd = 5 then ck && ltL && !ckd && sn0 && Tdn && sl0 else false
def ckI (ps : List PinD) (x : Int) : Bool := (pn ps x.toNat).clock
def sArc (ps : List PinD) (a : ArcD) : Bool :=
 inB a.src 0 ((ps.length : Int) - 1 - 1) && inB a.dst 0 ((ps.length : Int) - 1) &&
  kB a.kind (ckI ps a.src) (ckI ps a.dst) (a.dst == (ps.length : Int) - 1) (decide (a.dst < (ps.length : Int) - 1)) (a.sense == 0) (inB a.sense 1 3) (tabsOk a.delay true) (tabsOk a.slew true) (tabsOk a.delay false) ((a.slew.length : Int) == 0)
theorem kB_1 (ck ckd eqL ltL sn0 sn13 a b c d : Bool) : kB 1 ck ckd eqL ltL sn0 sn13 a b c d = (!ck && eqL && sn13 && a && b) := rfl
theorem kB_2 (ck ckd eqL ltL sn0 sn13 a b c d : Bool) : kB 2 ck ckd eqL ltL sn0 sn13 a b c d = (ck && eqL && sn0 && a && b) := rfl
theorem kB_3 (ck ckd eqL ltL sn0 sn13 a b c d : Bool) : kB 3 ck ckd eqL ltL sn0 sn13 a b c d = (ck && eqL && sn0 && a && b) := rfl
theorem kB_4 (ck ckd eqL ltL sn0 sn13 a b c d : Bool) : kB 4 ck ckd eqL ltL sn0 sn13 a b c d = (ck && ltL && !ckd && sn0 && c && d) := rfl
theorem kB_5 (ck ckd eqL ltL sn0 sn13 a b c d : Bool) : kB 5 ck ckd eqL ltL sn0 sn13 a b c d = (ck && ltL && !ckd && sn0 && c && d) := rfl
theorem kB_no {kd : Int} (h1 : ¬ kd = 1) (h2 : ¬ kd = 2) (h3 : ¬ kd = 3) (h4 : ¬ kd = 4) (h5 : ¬ kd = 5) (ck ckd eqL ltL sn0 sn13 a b c d : Bool) : kB kd ck ckd eqL ltL sn0 sn13 a b c d = false := by simp [kB, h1, h2, h3, h4, h5]
set_option maxRecDepth 100000 in
set_option maxHeartbeats 8000000 in
theorem specArc_any (f g : Nat → Value) (c : CellD) (a : ArcD) (w : World) (h : CellF w w.heap.size f c) (h' : ArcF w w.heap.size g a) (hp : pinsB c.pins = true) :
  Calls Tryz.prog 194 #[.agg #[f 0, f 1, f 2, f 3, f 4, f 5, f 6], .agg #[g 0, g 1, g 2, g 3, g 4, g 5]] w fun e w' => e = .returned (.bool (sArc c.pins a)) ∧ Below w.heap.size w w' := by
 obtain ⟨ps, hps⟩ : ∃ ps, ps = c.pins := ⟨_, rfl⟩
 obtain ⟨e0, e1, x2, x3, x4, e5, e6, hsz⟩ := h
 obtain ⟨p3, q3, e3⟩ := x3.slice; obtain ⟨p4, q4, e4⟩ := x4.slice
 rw [← hps] at x2 hp ⊢
 obtain ⟨F, hc, hf⟩ := x2
 obtain ⟨n, hnn⟩ : ∃ n, n = ps.length := ⟨_, rfl⟩
 rw [← hnn] at hc hf
 have HC := hc
 obtain ⟨hn, ap, cap, e2, _⟩ := hc
 rw [e2] at HC
 rw [e0, e1, e2, e3, e4, e5, e6]
 obtain ⟨kd, src, dst, sn, dl, sl⟩ := a
 obtain ⟨g0, g1, g2, g3, z4, z5⟩ := h'
 simp only at g0 g1 g2 g3 z4 z5
 obtain ⟨r4, s4, g4⟩ := z4.slice; obtain ⟨r5, s5, g5⟩ := z5.slice
 rw [g4] at z4; rw [g5] at z5
 rw [g0, g1, g2, g3, g4, g5]
 have ⟨p2, p5, _, _⟩ := pins_get hp
 rw [← hnn] at p2 p5
 have HC := lh HC; have HF := lh hf; have X4 := lh z4; have X5 := lh z5
 unfold sArc
 simp only
 rw [← hnn]
 clear hf e0 e1 e2 e3 e4 e5 e6 x3 x4 hps z4 z5 g0 g1 g2 g3 g4 g5 hp hnn
 cases hi : inB src 0 ((n : Int) - 1 - 1)
 ·go_enter Tryz.func194, Tryz.ntmps194
  go_wp2_with (go_at_call 102; refine (l01In_any _ _ _ _).mono ?_; rintro e w' ⟨rfl, rfl⟩)
  go_ret
  exact ⟨rfl, eX⟩
 ·cases hj : inB dst 0 ((n : Int) - 1)
  ·go_enter Tryz.func194, Tryz.ntmps194
   go_wp2_with (go_at_call 102; refine (l01In_any _ _ _ _).mono ?_; rintro e w' ⟨rfl, rfl⟩)
   go_ret
   exact ⟨rfl, eX⟩
  ·have ⟨i1, i2⟩ := inB_get hi
   have ⟨j1, j2⟩ := inB_get hj
   obtain ⟨s, rfl⟩ := Int.eq_ofNat_of_zero_le i1
   obtain ⟨d, rfl⟩ := Int.eq_ofNat_of_zero_le j1
   unfold ckI
   simp only [Int.toNat_natCast, Bool.true_and]
   obtain ⟨b, off, rfl, hlt, hxs⟩ := HC.out.at (Below.refl _ _) (show s < n by omega)
   obtain ⟨b', off', e', _, hxd⟩ := HC.out.at (Below.refl _ _) (show d < n by omega)
   obtain ⟨rfl, rfl⟩ : b' = b ∧ off' = off := by simpa using e'.symm
   have ys := hxs 3 (by omega)
   rw [(HF.out s (by omega)).2.2.2.1] at ys
   have yd := hxd 3 (by omega)
   rw [(HF.out d (by omega)).2.2.2.1] at yd
   have sI : (s : Int) < (n : Int) := by omega
   have dI : (d : Int) < (n : Int) := by omega
   clear hxs hxd e'
   by_cases k1 : kd = 1
   ·subst k1
    cases hck : (pn ps s).clock
    ·cases hel : ((d : Int) == (n : Int) - 1)
     ·rw [kB_1]
      simp only [Bool.not_false, Bool.not_true, Bool.true_and, Bool.false_and, Bool.and_true, Bool.and_false]
      rw [hck] at ys
      go_enter Tryz.func194, Tryz.ntmps194
      go_wp2_with (first | (go_at_call 102; refine (l01In_any _ _ _ _).mono ?_; rintro e w' ⟨rfl, rfl⟩))
      go_ret
      exact ⟨rfl, eX⟩
     ·cases hsn : inB sn 1 3
      ·rw [kB_1]
       simp only [Bool.not_false, Bool.not_true, Bool.true_and, Bool.false_and, Bool.and_true, Bool.and_false]
       rw [hck] at ys
       go_enter Tryz.func194, Tryz.ntmps194
       go_wp2_with (first | (go_at_call 102; refine (l01In_any _ _ _ _).mono ?_; rintro e w' ⟨rfl, rfl⟩))
       go_ret
       exact ⟨rfl, eX⟩
      ·cases htd : tabsOk dl true
       ·rw [kB_1]
        simp only [Bool.not_false, Bool.not_true, Bool.true_and, Bool.false_and, Bool.and_true, Bool.and_false]
        rw [hck] at ys
        have HD := lh (fun (w1 : World) (hb : Below w.heap.size w w1) => specTables_any _ dl true w1 (X4.out.up hb)); rw [htd] at HD
        go_enter Tryz.func194, Tryz.ntmps194
        go_wp2_with (first | (go_at_call 102; refine (l01In_any _ _ _ _).mono ?_; rintro e w' ⟨rfl, rfl⟩) | (go_at_call 213; with_reducible refine (HD.out _ eX).mono ?_; rintro e w1 ⟨rfl, hb⟩; have ⟨hc, hf⟩ := bcell hb; have hz := hb.size; (try simp at hz); (try have hz := Nat.lt_of_succ_le hz); (try have y0 := wy w w1); (try have z0 := wz0 w w1); (try have z1 := wz1 w w1); (try have z2 := wz2 w w1); (try have z3 := wz3 w w1); (try have z4 := wz4 w w1); (try have x0 := wz0 wc w1); (try have x1 := wy wc w1)))
        go_ret
        exact ⟨rfl, eX⟩
       ·cases hts : tabsOk sl true
        ·rw [kB_1]
         simp only [Bool.not_false, Bool.not_true, Bool.true_and, Bool.false_and, Bool.and_true, Bool.and_false]
         rw [hck] at ys
         have HD := lh (fun (w1 : World) (hb : Below w.heap.size w w1) => specTables_any _ dl true w1 (X4.out.up hb)); rw [htd] at HD
         have HL := lh (fun (w1 : World) (hb : Below w.heap.size w w1) => specTables_any _ sl true w1 (X5.out.up hb)); rw [hts] at HL
         go_enter Tryz.func194, Tryz.ntmps194
         go_wp2_with (first | (go_at_call 102; refine (l01In_any _ _ _ _).mono ?_; rintro e w' ⟨rfl, rfl⟩) | (go_at_call 213; with_reducible refine (HD.out _ eX).mono ?_; rintro e w1 ⟨rfl, hb⟩; have ⟨hc, hf⟩ := bcell hb; have hz := hb.size; (try simp at hz); (try have hz := Nat.lt_of_succ_le hz); (try have y0 := wy w w1); (try have z0 := wz0 w w1); (try have z1 := wz1 w w1); (try have z2 := wz2 w w1); (try have z3 := wz3 w w1); (try have z4 := wz4 w w1); (try have x0 := wz0 wc w1); (try have x1 := wy wc w1)) | (go_at_call 213; with_reducible refine (HL.out _ eX).mono ?_; rintro e w1 ⟨rfl, hb⟩; have ⟨hc, hf⟩ := bcell hb; have hz := hb.size; (try simp at hz); (try have hz := Nat.lt_of_succ_le hz); (try have y0 := wy w w1); (try have z0 := wz0 w w1); (try have z1 := wz1 w w1); (try have z2 := wz2 w w1); (try have z3 := wz3 w w1); (try have z4 := wz4 w w1); (try have x0 := wz0 wc w1); (try have x1 := wy wc w1)))
         go_ret
         exact ⟨rfl, eX⟩
        ·rw [kB_1]
         simp only [Bool.not_false, Bool.not_true, Bool.true_and, Bool.false_and, Bool.and_true, Bool.and_false]
         rw [hck] at ys
         have HD := lh (fun (w1 : World) (hb : Below w.heap.size w w1) => specTables_any _ dl true w1 (X4.out.up hb)); rw [htd] at HD
         have HL := lh (fun (w1 : World) (hb : Below w.heap.size w w1) => specTables_any _ sl true w1 (X5.out.up hb)); rw [hts] at HL
         go_enter Tryz.func194, Tryz.ntmps194
         go_wp2_with (first | (go_at_call 102; refine (l01In_any _ _ _ _).mono ?_; rintro e w' ⟨rfl, rfl⟩) | (go_at_call 213; with_reducible refine (HD.out _ eX).mono ?_; rintro e w1 ⟨rfl, hb⟩; have ⟨hc, hf⟩ := bcell hb; have hz := hb.size; (try simp at hz); (try have hz := Nat.lt_of_succ_le hz); (try have y0 := wy w w1); (try have z0 := wz0 w w1); (try have z1 := wz1 w w1); (try have z2 := wz2 w w1); (try have z3 := wz3 w w1); (try have z4 := wz4 w w1); (try have x0 := wz0 wc w1); (try have x1 := wy wc w1)) | (go_at_call 213; with_reducible refine (HL.out _ eX).mono ?_; rintro e w1 ⟨rfl, hb⟩; have ⟨hc, hf⟩ := bcell hb; have hz := hb.size; (try simp at hz); (try have hz := Nat.lt_of_succ_le hz); (try have y0 := wy w w1); (try have z0 := wz0 w w1); (try have z1 := wz1 w w1); (try have z2 := wz2 w w1); (try have z3 := wz3 w w1); (try have z4 := wz4 w w1); (try have x0 := wz0 wc w1); (try have x1 := wy wc w1)))
         go_ret
         exact ⟨rfl, eX⟩
    ·rw [kB_1]
     simp only [Bool.not_false, Bool.not_true, Bool.true_and, Bool.false_and, Bool.and_true, Bool.and_false]
     rw [hck] at ys
     go_enter Tryz.func194, Tryz.ntmps194
     go_wp2_with (first | (go_at_call 102; refine (l01In_any _ _ _ _).mono ?_; rintro e w' ⟨rfl, rfl⟩))
     go_ret
     exact ⟨rfl, eX⟩
   ·have m1 : (kd == 1) = false := by simpa using k1
    by_cases k2 : kd = 2
    ·subst k2
     cases hck : (pn ps s).clock
     ·rw [kB_2]
      simp only [Bool.not_false, Bool.not_true, Bool.true_and, Bool.false_and, Bool.and_true, Bool.and_false]
      rw [hck] at ys
      go_enter Tryz.func194, Tryz.ntmps194
      go_wp2_with (first | (go_at_call 102; refine (l01In_any _ _ _ _).mono ?_; rintro e w' ⟨rfl, rfl⟩))
      go_ret
      exact ⟨rfl, eX⟩
     ·cases hel : ((d : Int) == (n : Int) - 1)
      ·rw [kB_2]
       simp only [Bool.not_false, Bool.not_true, Bool.true_and, Bool.false_and, Bool.and_true, Bool.and_false]
       rw [hck] at ys
       go_enter Tryz.func194, Tryz.ntmps194
       go_wp2_with (first | (go_at_call 102; refine (l01In_any _ _ _ _).mono ?_; rintro e w' ⟨rfl, rfl⟩))
       go_ret
       exact ⟨rfl, eX⟩
      ·cases hsn : (sn == 0)
       ·rw [kB_2]
        simp only [Bool.not_false, Bool.not_true, Bool.true_and, Bool.false_and, Bool.and_true, Bool.and_false]
        rw [hck] at ys
        go_enter Tryz.func194, Tryz.ntmps194
        go_wp2_with (first | (go_at_call 102; refine (l01In_any _ _ _ _).mono ?_; rintro e w' ⟨rfl, rfl⟩))
        go_ret
        exact ⟨rfl, eX⟩
       ·cases htd : tabsOk dl true
        ·rw [kB_2]
         simp only [Bool.not_false, Bool.not_true, Bool.true_and, Bool.false_and, Bool.and_true, Bool.and_false]
         rw [hck] at ys
         obtain rfl : sn = 0 := by simpa using hsn
         have HD := lh (fun (w1 : World) (hb : Below w.heap.size w w1) => specTables_any _ dl true w1 (X4.out.up hb)); rw [htd] at HD
         go_enter Tryz.func194, Tryz.ntmps194
         go_wp2_with (first | (go_at_call 102; refine (l01In_any _ _ _ _).mono ?_; rintro e w' ⟨rfl, rfl⟩) | (go_at_call 213; with_reducible refine (HD.out _ eX).mono ?_; rintro e w1 ⟨rfl, hb⟩; have ⟨hc, hf⟩ := bcell hb; have hz := hb.size; (try simp at hz); (try have hz := Nat.lt_of_succ_le hz); (try have y0 := wy w w1); (try have z0 := wz0 w w1); (try have z1 := wz1 w w1); (try have z2 := wz2 w w1); (try have z3 := wz3 w w1); (try have z4 := wz4 w w1); (try have x0 := wz0 wc w1); (try have x1 := wy wc w1)))
         go_ret
         exact ⟨rfl, eX⟩
        ·cases hts : tabsOk sl true
         ·rw [kB_2]
          simp only [Bool.not_false, Bool.not_true, Bool.true_and, Bool.false_and, Bool.and_true, Bool.and_false]
          rw [hck] at ys
          obtain rfl : sn = 0 := by simpa using hsn
          have HD := lh (fun (w1 : World) (hb : Below w.heap.size w w1) => specTables_any _ dl true w1 (X4.out.up hb)); rw [htd] at HD
          have HL := lh (fun (w1 : World) (hb : Below w.heap.size w w1) => specTables_any _ sl true w1 (X5.out.up hb)); rw [hts] at HL
          go_enter Tryz.func194, Tryz.ntmps194
          go_wp2_with (first | (go_at_call 102; refine (l01In_any _ _ _ _).mono ?_; rintro e w' ⟨rfl, rfl⟩) | (go_at_call 213; with_reducible refine (HD.out _ eX).mono ?_; rintro e w1 ⟨rfl, hb⟩; have ⟨hc, hf⟩ := bcell hb; have hz := hb.size; (try simp at hz); (try have hz := Nat.lt_of_succ_le hz); (try have y0 := wy w w1); (try have z0 := wz0 w w1); (try have z1 := wz1 w w1); (try have z2 := wz2 w w1); (try have z3 := wz3 w w1); (try have z4 := wz4 w w1); (try have x0 := wz0 wc w1); (try have x1 := wy wc w1)) | (go_at_call 213; with_reducible refine (HL.out _ eX).mono ?_; rintro e w1 ⟨rfl, hb⟩; have ⟨hc, hf⟩ := bcell hb; have hz := hb.size; (try simp at hz); (try have hz := Nat.lt_of_succ_le hz); (try have y0 := wy w w1); (try have z0 := wz0 w w1); (try have z1 := wz1 w w1); (try have z2 := wz2 w w1); (try have z3 := wz3 w w1); (try have z4 := wz4 w w1); (try have x0 := wz0 wc w1); (try have x1 := wy wc w1)))
          go_ret
          exact ⟨rfl, eX⟩
         ·rw [kB_2]
          simp only [Bool.not_false, Bool.not_true, Bool.true_and, Bool.false_and, Bool.and_true, Bool.and_false]
          rw [hck] at ys
          obtain rfl : sn = 0 := by simpa using hsn
          have HD := lh (fun (w1 : World) (hb : Below w.heap.size w w1) => specTables_any _ dl true w1 (X4.out.up hb)); rw [htd] at HD
          have HL := lh (fun (w1 : World) (hb : Below w.heap.size w w1) => specTables_any _ sl true w1 (X5.out.up hb)); rw [hts] at HL
          go_enter Tryz.func194, Tryz.ntmps194
          go_wp2_with (first | (go_at_call 102; refine (l01In_any _ _ _ _).mono ?_; rintro e w' ⟨rfl, rfl⟩) | (go_at_call 213; with_reducible refine (HD.out _ eX).mono ?_; rintro e w1 ⟨rfl, hb⟩; have ⟨hc, hf⟩ := bcell hb; have hz := hb.size; (try simp at hz); (try have hz := Nat.lt_of_succ_le hz); (try have y0 := wy w w1); (try have z0 := wz0 w w1); (try have z1 := wz1 w w1); (try have z2 := wz2 w w1); (try have z3 := wz3 w w1); (try have z4 := wz4 w w1); (try have x0 := wz0 wc w1); (try have x1 := wy wc w1)) | (go_at_call 213; with_reducible refine (HL.out _ eX).mono ?_; rintro e w1 ⟨rfl, hb⟩; have ⟨hc, hf⟩ := bcell hb; have hz := hb.size; (try simp at hz); (try have hz := Nat.lt_of_succ_le hz); (try have y0 := wy w w1); (try have z0 := wz0 w w1); (try have z1 := wz1 w w1); (try have z2 := wz2 w w1); (try have z3 := wz3 w w1); (try have z4 := wz4 w w1); (try have x0 := wz0 wc w1); (try have x1 := wy wc w1)))
          go_ret
          exact ⟨rfl, eX⟩
    ·have m2 : (kd == 2) = false := by simpa using k2
     by_cases k3 : kd = 3
     ·subst k3
      cases hck : (pn ps s).clock
      ·rw [kB_3]
       simp only [Bool.not_false, Bool.not_true, Bool.true_and, Bool.false_and, Bool.and_true, Bool.and_false]
       rw [hck] at ys
       go_enter Tryz.func194, Tryz.ntmps194
       go_wp2_with (first | (go_at_call 102; refine (l01In_any _ _ _ _).mono ?_; rintro e w' ⟨rfl, rfl⟩))
       go_ret
       exact ⟨rfl, eX⟩
      ·cases hel : ((d : Int) == (n : Int) - 1)
       ·rw [kB_3]
        simp only [Bool.not_false, Bool.not_true, Bool.true_and, Bool.false_and, Bool.and_true, Bool.and_false]
        rw [hck] at ys
        go_enter Tryz.func194, Tryz.ntmps194
        go_wp2_with (first | (go_at_call 102; refine (l01In_any _ _ _ _).mono ?_; rintro e w' ⟨rfl, rfl⟩))
        go_ret
        exact ⟨rfl, eX⟩
       ·cases hsn : (sn == 0)
        ·rw [kB_3]
         simp only [Bool.not_false, Bool.not_true, Bool.true_and, Bool.false_and, Bool.and_true, Bool.and_false]
         rw [hck] at ys
         go_enter Tryz.func194, Tryz.ntmps194
         go_wp2_with (first | (go_at_call 102; refine (l01In_any _ _ _ _).mono ?_; rintro e w' ⟨rfl, rfl⟩))
         go_ret
         exact ⟨rfl, eX⟩
        ·cases htd : tabsOk dl true
         ·rw [kB_3]
          simp only [Bool.not_false, Bool.not_true, Bool.true_and, Bool.false_and, Bool.and_true, Bool.and_false]
          rw [hck] at ys
          obtain rfl : sn = 0 := by simpa using hsn
          have HD := lh (fun (w1 : World) (hb : Below w.heap.size w w1) => specTables_any _ dl true w1 (X4.out.up hb)); rw [htd] at HD
          go_enter Tryz.func194, Tryz.ntmps194
          go_wp2_with (first | (go_at_call 102; refine (l01In_any _ _ _ _).mono ?_; rintro e w' ⟨rfl, rfl⟩) | (go_at_call 213; with_reducible refine (HD.out _ eX).mono ?_; rintro e w1 ⟨rfl, hb⟩; have ⟨hc, hf⟩ := bcell hb; have hz := hb.size; (try simp at hz); (try have hz := Nat.lt_of_succ_le hz); (try have y0 := wy w w1); (try have z0 := wz0 w w1); (try have z1 := wz1 w w1); (try have z2 := wz2 w w1); (try have z3 := wz3 w w1); (try have z4 := wz4 w w1); (try have x0 := wz0 wc w1); (try have x1 := wy wc w1)))
          go_ret
          exact ⟨rfl, eX⟩
         ·cases hts : tabsOk sl true
          ·rw [kB_3]
           simp only [Bool.not_false, Bool.not_true, Bool.true_and, Bool.false_and, Bool.and_true, Bool.and_false]
           rw [hck] at ys
           obtain rfl : sn = 0 := by simpa using hsn
           have HD := lh (fun (w1 : World) (hb : Below w.heap.size w w1) => specTables_any _ dl true w1 (X4.out.up hb)); rw [htd] at HD
           have HL := lh (fun (w1 : World) (hb : Below w.heap.size w w1) => specTables_any _ sl true w1 (X5.out.up hb)); rw [hts] at HL
           go_enter Tryz.func194, Tryz.ntmps194
           go_wp2_with (first | (go_at_call 102; refine (l01In_any _ _ _ _).mono ?_; rintro e w' ⟨rfl, rfl⟩) | (go_at_call 213; with_reducible refine (HD.out _ eX).mono ?_; rintro e w1 ⟨rfl, hb⟩; have ⟨hc, hf⟩ := bcell hb; have hz := hb.size; (try simp at hz); (try have hz := Nat.lt_of_succ_le hz); (try have y0 := wy w w1); (try have z0 := wz0 w w1); (try have z1 := wz1 w w1); (try have z2 := wz2 w w1); (try have z3 := wz3 w w1); (try have z4 := wz4 w w1); (try have x0 := wz0 wc w1); (try have x1 := wy wc w1)) | (go_at_call 213; with_reducible refine (HL.out _ eX).mono ?_; rintro e w1 ⟨rfl, hb⟩; have ⟨hc, hf⟩ := bcell hb; have hz := hb.size; (try simp at hz); (try have hz := Nat.lt_of_succ_le hz); (try have y0 := wy w w1); (try have z0 := wz0 w w1); (try have z1 := wz1 w w1); (try have z2 := wz2 w w1); (try have z3 := wz3 w w1); (try have z4 := wz4 w w1); (try have x0 := wz0 wc w1); (try have x1 := wy wc w1)))
           go_ret
           exact ⟨rfl, eX⟩
          ·rw [kB_3]
           simp only [Bool.not_false, Bool.not_true, Bool.true_and, Bool.false_and, Bool.and_true, Bool.and_false]
           rw [hck] at ys
           obtain rfl : sn = 0 := by simpa using hsn
           have HD := lh (fun (w1 : World) (hb : Below w.heap.size w w1) => specTables_any _ dl true w1 (X4.out.up hb)); rw [htd] at HD
           have HL := lh (fun (w1 : World) (hb : Below w.heap.size w w1) => specTables_any _ sl true w1 (X5.out.up hb)); rw [hts] at HL
           go_enter Tryz.func194, Tryz.ntmps194
           go_wp2_with (first | (go_at_call 102; refine (l01In_any _ _ _ _).mono ?_; rintro e w' ⟨rfl, rfl⟩) | (go_at_call 213; with_reducible refine (HD.out _ eX).mono ?_; rintro e w1 ⟨rfl, hb⟩; have ⟨hc, hf⟩ := bcell hb; have hz := hb.size; (try simp at hz); (try have hz := Nat.lt_of_succ_le hz); (try have y0 := wy w w1); (try have z0 := wz0 w w1); (try have z1 := wz1 w w1); (try have z2 := wz2 w w1); (try have z3 := wz3 w w1); (try have z4 := wz4 w w1); (try have x0 := wz0 wc w1); (try have x1 := wy wc w1)) | (go_at_call 213; with_reducible refine (HL.out _ eX).mono ?_; rintro e w1 ⟨rfl, hb⟩; have ⟨hc, hf⟩ := bcell hb; have hz := hb.size; (try simp at hz); (try have hz := Nat.lt_of_succ_le hz); (try have y0 := wy w w1); (try have z0 := wz0 w w1); (try have z1 := wz1 w w1); (try have z2 := wz2 w w1); (try have z3 := wz3 w w1); (try have z4 := wz4 w w1); (try have x0 := wz0 wc w1); (try have x1 := wy wc w1)))
           go_ret
           exact ⟨rfl, eX⟩
     ·have m3 : (kd == 3) = false := by simpa using k3
      by_cases k4 : kd = 4
      ·subst k4
       cases hck : (pn ps s).clock
       ·rw [kB_4]
        simp only [Bool.not_false, Bool.not_true, Bool.true_and, Bool.false_and, Bool.and_true, Bool.and_false]
        rw [hck] at ys
        go_enter Tryz.func194, Tryz.ntmps194
        go_wp2_with (first | (go_at_call 102; refine (l01In_any _ _ _ _).mono ?_; rintro e w' ⟨rfl, rfl⟩))
        go_ret
        exact ⟨rfl, eX⟩
       ·cases hel : decide ((d : Int) < (n : Int) - 1)
        ·rw [kB_4]
         simp only [Bool.not_false, Bool.not_true, Bool.true_and, Bool.false_and, Bool.and_true, Bool.and_false]
         rw [hck] at ys
         go_enter Tryz.func194, Tryz.ntmps194
         go_wp2_with (first | (go_at_call 102; refine (l01In_any _ _ _ _).mono ?_; rintro e w' ⟨rfl, rfl⟩))
         go_ret
         exact ⟨rfl, eX⟩
        ·cases hcd : (pn ps d).clock
         ·cases hsn : (sn == 0)
          ·rw [kB_4]
           simp only [Bool.not_false, Bool.not_true, Bool.true_and, Bool.false_and, Bool.and_true, Bool.and_false]
           rw [hck] at ys
           rw [hcd] at yd
           go_enter Tryz.func194, Tryz.ntmps194
           go_wp2_with (first | (go_at_call 102; refine (l01In_any _ _ _ _).mono ?_; rintro e w' ⟨rfl, rfl⟩))
           go_ret
           exact ⟨rfl, eX⟩
          ·cases htd : tabsOk dl false
           ·rw [kB_4]
            simp only [Bool.not_false, Bool.not_true, Bool.true_and, Bool.false_and, Bool.and_true, Bool.and_false]
            rw [hck] at ys
            rw [hcd] at yd
            obtain rfl : sn = 0 := by simpa using hsn
            have HD := lh (fun (w1 : World) (hb : Below w.heap.size w w1) => specTables_any _ dl false w1 (X4.out.up hb)); rw [htd] at HD
            go_enter Tryz.func194, Tryz.ntmps194
            go_wp2_with (first | (go_at_call 102; refine (l01In_any _ _ _ _).mono ?_; rintro e w' ⟨rfl, rfl⟩) | (go_at_call 213; with_reducible refine (HD.out _ eX).mono ?_; rintro e w1 ⟨rfl, hb⟩; have ⟨hc, hf⟩ := bcell hb; have hz := hb.size; (try simp at hz); (try have hz := Nat.lt_of_succ_le hz); (try have y0 := wy w w1); (try have z0 := wz0 w w1); (try have z1 := wz1 w w1); (try have z2 := wz2 w w1); (try have z3 := wz3 w w1); (try have z4 := wz4 w w1); (try have x0 := wz0 wc w1); (try have x1 := wy wc w1)))
            go_ret
            exact ⟨rfl, eX⟩
           ·cases hts : ((sl.length : Int) == 0)
            ·rw [kB_4]
             simp only [Bool.not_false, Bool.not_true, Bool.true_and, Bool.false_and, Bool.and_true, Bool.and_false]
             rw [hck] at ys
             rw [hcd] at yd
             obtain rfl : sn = 0 := by simpa using hsn
             have HD := lh (fun (w1 : World) (hb : Below w.heap.size w w1) => specTables_any _ dl false w1 (X4.out.up hb)); rw [htd] at HD
             go_enter Tryz.func194, Tryz.ntmps194
             go_wp2_with (first | (go_at_call 102; refine (l01In_any _ _ _ _).mono ?_; rintro e w' ⟨rfl, rfl⟩) | (go_at_call 213; with_reducible refine (HD.out _ eX).mono ?_; rintro e w1 ⟨rfl, hb⟩; have ⟨hc, hf⟩ := bcell hb; have hz := hb.size; (try simp at hz); (try have hz := Nat.lt_of_succ_le hz); (try have y0 := wy w w1); (try have z0 := wz0 w w1); (try have z1 := wz1 w w1); (try have z2 := wz2 w w1); (try have z3 := wz3 w w1); (try have z4 := wz4 w w1); (try have x0 := wz0 wc w1); (try have x1 := wy wc w1)))
             go_ret
             exact ⟨rfl, eX⟩
            ·rw [kB_4]
             simp only [Bool.not_false, Bool.not_true, Bool.true_and, Bool.false_and, Bool.and_true, Bool.and_false]
             rw [hck] at ys
             rw [hcd] at yd
             obtain rfl : sn = 0 := by simpa using hsn
             have HD := lh (fun (w1 : World) (hb : Below w.heap.size w w1) => specTables_any _ dl false w1 (X4.out.up hb)); rw [htd] at HD
             go_enter Tryz.func194, Tryz.ntmps194
             go_wp2_with (first | (go_at_call 102; refine (l01In_any _ _ _ _).mono ?_; rintro e w' ⟨rfl, rfl⟩) | (go_at_call 213; with_reducible refine (HD.out _ eX).mono ?_; rintro e w1 ⟨rfl, hb⟩; have ⟨hc, hf⟩ := bcell hb; have hz := hb.size; (try simp at hz); (try have hz := Nat.lt_of_succ_le hz); (try have y0 := wy w w1); (try have z0 := wz0 w w1); (try have z1 := wz1 w w1); (try have z2 := wz2 w w1); (try have z3 := wz3 w w1); (try have z4 := wz4 w w1); (try have x0 := wz0 wc w1); (try have x1 := wy wc w1)))
             go_ret
             exact ⟨rfl, eX⟩
         ·rw [kB_4]
          simp only [Bool.not_false, Bool.not_true, Bool.true_and, Bool.false_and, Bool.and_true, Bool.and_false]
          rw [hck] at ys
          rw [hcd] at yd
          go_enter Tryz.func194, Tryz.ntmps194
          go_wp2_with (first | (go_at_call 102; refine (l01In_any _ _ _ _).mono ?_; rintro e w' ⟨rfl, rfl⟩))
          go_ret
          exact ⟨rfl, eX⟩
      ·have m4 : (kd == 4) = false := by simpa using k4
       by_cases k5 : kd = 5
       ·subst k5
        cases hck : (pn ps s).clock
        ·rw [kB_5]
         simp only [Bool.not_false, Bool.not_true, Bool.true_and, Bool.false_and, Bool.and_true, Bool.and_false]
         rw [hck] at ys
         go_enter Tryz.func194, Tryz.ntmps194
         go_wp2_with (first | (go_at_call 102; refine (l01In_any _ _ _ _).mono ?_; rintro e w' ⟨rfl, rfl⟩))
         go_ret
         exact ⟨rfl, eX⟩
        ·cases hel : decide ((d : Int) < (n : Int) - 1)
         ·rw [kB_5]
          simp only [Bool.not_false, Bool.not_true, Bool.true_and, Bool.false_and, Bool.and_true, Bool.and_false]
          rw [hck] at ys
          go_enter Tryz.func194, Tryz.ntmps194
          go_wp2_with (first | (go_at_call 102; refine (l01In_any _ _ _ _).mono ?_; rintro e w' ⟨rfl, rfl⟩))
          go_ret
          exact ⟨rfl, eX⟩
         ·cases hcd : (pn ps d).clock
          ·cases hsn : (sn == 0)
           ·rw [kB_5]
            simp only [Bool.not_false, Bool.not_true, Bool.true_and, Bool.false_and, Bool.and_true, Bool.and_false]
            rw [hck] at ys
            rw [hcd] at yd
            go_enter Tryz.func194, Tryz.ntmps194
            go_wp2_with (first | (go_at_call 102; refine (l01In_any _ _ _ _).mono ?_; rintro e w' ⟨rfl, rfl⟩))
            go_ret
            exact ⟨rfl, eX⟩
           ·cases htd : tabsOk dl false
            ·rw [kB_5]
             simp only [Bool.not_false, Bool.not_true, Bool.true_and, Bool.false_and, Bool.and_true, Bool.and_false]
             rw [hck] at ys
             rw [hcd] at yd
             obtain rfl : sn = 0 := by simpa using hsn
             have HD := lh (fun (w1 : World) (hb : Below w.heap.size w w1) => specTables_any _ dl false w1 (X4.out.up hb)); rw [htd] at HD
             go_enter Tryz.func194, Tryz.ntmps194
             go_wp2_with (first | (go_at_call 102; refine (l01In_any _ _ _ _).mono ?_; rintro e w' ⟨rfl, rfl⟩) | (go_at_call 213; with_reducible refine (HD.out _ eX).mono ?_; rintro e w1 ⟨rfl, hb⟩; have ⟨hc, hf⟩ := bcell hb; have hz := hb.size; (try simp at hz); (try have hz := Nat.lt_of_succ_le hz); (try have y0 := wy w w1); (try have z0 := wz0 w w1); (try have z1 := wz1 w w1); (try have z2 := wz2 w w1); (try have z3 := wz3 w w1); (try have z4 := wz4 w w1); (try have x0 := wz0 wc w1); (try have x1 := wy wc w1)))
             go_ret
             exact ⟨rfl, eX⟩
            ·cases hts : ((sl.length : Int) == 0)
             ·rw [kB_5]
              simp only [Bool.not_false, Bool.not_true, Bool.true_and, Bool.false_and, Bool.and_true, Bool.and_false]
              rw [hck] at ys
              rw [hcd] at yd
              obtain rfl : sn = 0 := by simpa using hsn
              have HD := lh (fun (w1 : World) (hb : Below w.heap.size w w1) => specTables_any _ dl false w1 (X4.out.up hb)); rw [htd] at HD
              go_enter Tryz.func194, Tryz.ntmps194
              go_wp2_with (first | (go_at_call 102; refine (l01In_any _ _ _ _).mono ?_; rintro e w' ⟨rfl, rfl⟩) | (go_at_call 213; with_reducible refine (HD.out _ eX).mono ?_; rintro e w1 ⟨rfl, hb⟩; have ⟨hc, hf⟩ := bcell hb; have hz := hb.size; (try simp at hz); (try have hz := Nat.lt_of_succ_le hz); (try have y0 := wy w w1); (try have z0 := wz0 w w1); (try have z1 := wz1 w w1); (try have z2 := wz2 w w1); (try have z3 := wz3 w w1); (try have z4 := wz4 w w1); (try have x0 := wz0 wc w1); (try have x1 := wy wc w1)))
              go_ret
              exact ⟨rfl, eX⟩
             ·rw [kB_5]
              simp only [Bool.not_false, Bool.not_true, Bool.true_and, Bool.false_and, Bool.and_true, Bool.and_false]
              rw [hck] at ys
              rw [hcd] at yd
              obtain rfl : sn = 0 := by simpa using hsn
              have HD := lh (fun (w1 : World) (hb : Below w.heap.size w w1) => specTables_any _ dl false w1 (X4.out.up hb)); rw [htd] at HD
              go_enter Tryz.func194, Tryz.ntmps194
              go_wp2_with (first | (go_at_call 102; refine (l01In_any _ _ _ _).mono ?_; rintro e w' ⟨rfl, rfl⟩) | (go_at_call 213; with_reducible refine (HD.out _ eX).mono ?_; rintro e w1 ⟨rfl, hb⟩; have ⟨hc, hf⟩ := bcell hb; have hz := hb.size; (try simp at hz); (try have hz := Nat.lt_of_succ_le hz); (try have y0 := wy w w1); (try have z0 := wz0 w w1); (try have z1 := wz1 w w1); (try have z2 := wz2 w w1); (try have z3 := wz3 w w1); (try have z4 := wz4 w w1); (try have x0 := wz0 wc w1); (try have x1 := wy wc w1)))
              go_ret
              exact ⟨rfl, eX⟩
          ·rw [kB_5]
           simp only [Bool.not_false, Bool.not_true, Bool.true_and, Bool.false_and, Bool.and_true, Bool.and_false]
           rw [hck] at ys
           rw [hcd] at yd
           go_enter Tryz.func194, Tryz.ntmps194
           go_wp2_with (first | (go_at_call 102; refine (l01In_any _ _ _ _).mono ?_; rintro e w' ⟨rfl, rfl⟩))
           go_ret
           exact ⟨rfl, eX⟩
       ·have m5 : (kd == 5) = false := by simpa using k5
        rw [kB_no k1 k2 k3 k4 k5]
        go_enter Tryz.func194, Tryz.ntmps194
        go_wp2_with (go_at_call 102; refine (l01In_any _ _ _ _).mono ?_; rintro e w' ⟨rfl, rfl⟩)
        go_ret
        exact ⟨rfl, eX⟩
end Go.Proofs.YtkpfbnffhhmokaaGreat
