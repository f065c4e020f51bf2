/-
The laws' own sizes of all that comes in, counted whole: the lengths of all lists inside and what is left over are together at most what there was.
-/
import Derived.Test.YtkpfbnffhhmokaaGreatBlk
namespace Go.Proofs.YtkpfbnffhhmokaaGreat
open Go.ChangeShapes Go.WideShapes Go.ChangeAt Go.RowKit
set_option linter.unusedVariables false
set_option linter.unusedSimpArgs false
set_option maxRecDepth 100000
def sumN (f : Nat → Nat) : Nat → Nat
 | 0 => 0
 | k + 1 => sumN f k + f k
theorem sumN_succ (f : Nat → Nat) (k : Nat) : sumN f (k + 1) = sumN f k + f k := rfl
theorem sumN_zero (f : Nat → Nat) : sumN f 0 = 0 := rfl
theorem sumN_mono (f : Nat → Nat) {j n : Nat} (h : j ≤ n) : sumN f j ≤ sumN f n := by
 induction n with
 | zero => obtain rfl : j = 0 := (by omega); exact Nat.le_refl _
 | succ n ih =>
  rcases Nat.lt_or_ge j (n + 1) with e | e
  ·exact Nat.le_trans (ih (by omega)) (by rw [sumN_succ]; omega)
  ·obtain rfl : j = n + 1 := by omega
   exact Nat.le_refl _
/-- A size is left over, or -1; one that is left over tells that P, and how heavy. -/
def LeftW (P : Prop) (wt : Nat) (l : Int) (w : World) (e : Ending) (w' : World) : Prop := (∃ r : Int, e = .returned (.int .i64 r) ∧ -1 ≤ r ∧ r ≤ l ∧ (0 ≤ r → P ∧ (wt : Int) + r ≤ l)) ∧ Below w.heap.size w w'
theorem LeftW.left {P : Prop} {wt : Nat} {l : Int} {w w' : World} {e : Ending} (h : LeftW P wt l w e w') (hl : l ≤ 1048576) : Left P w e w' := by
 obtain ⟨⟨r, h0, h1, h2, h3⟩, hb⟩ := h
 exact ⟨⟨r, h0, h1, by omega, fun h => (h3 h).1⟩, hb⟩
def wtTab (p : TabD) : Nat := p.ss.length + p.ls.length + p.vs.length
def wtTabs (ps : List TabD) : Nat := ps.length + sumN (fun i => wtTab (tn ps i)) ps.length
def wtPin (p : PinD) : Nat := 0
def wtPins (ps : List PinD) : Nat := ps.length + sumN (fun i => wtPin (pn ps i)) ps.length
def wtArc (p : ArcD) : Nat := wtTabs p.delay + wtTabs p.slew
def wtArcs (ps : List ArcD) : Nat := ps.length + sumN (fun i => wtArc (an ps i)) ps.length
def wtCell (p : CellD) : Nat := wtPins p.pins + wtArcs p.arcs + p.truth.length
def wtCells (ps : List CellD) : Nat := ps.length + sumN (fun i => wtCell (cn ps i)) ps.length
def wtInst (p : InstD) : Nat := p.nets.length
def wtInsts (ps : List InstD) : Nat := ps.length + sumN (fun i => wtInst (inn ps i)) ps.length
def wtPort (p : PortD) : Nat := 0
def wtPorts (ps : List PortD) : Nat := ps.length + sumN (fun i => wtPort (ptn ps i)) ps.length
def wtDes (p : DesD) : Nat := wtInsts p.insts + p.nets.length + wtPorts p.ports
def wtWire (p : WireD) : Nat := p.parent.length + p.res.length + p.cap.length + p.sink.length
def wtWires (ps : List WireD) : Nat := ps.length + sumN (fun i => wtWire (wrn ps i)) ps.length
def wtBlk (z : BlkD) : Nat := wtCells z.lib + wtDes z.des + wtWires z.wires
theorem szInts_w (v : Value) (xs : List Int) (l : Int) (w : World) (h : IntS w w.heap.size v xs) (h0 : 0 ≤ l) (h1 : l ≤ 1048576) : Calls Tryz.prog 101 #[v, .int .i64 l] w (LeftW (xs.length ≤ 1048576) xs.length l w) :=
 (szInts_any v xs l w h h0 h1).mono fun e w' ⟨⟨r, a, b, c, d⟩, hb⟩ => ⟨⟨r, a, b, c, fun h => by have := d h; exact ⟨by omega, by omega⟩⟩, hb⟩
set_option maxHeartbeats 1000000 in
theorem szTab_w (f : Nat → Value) (p : TabD) (l : Int) (w : World) (h : TabF w w.heap.size f p) (h0 : 0 ≤ l) (h1 : l ≤ 1048576) :
  Calls Tryz.prog 210 #[.agg #[f 0, f 1, f 2], .int .i64 l] w (LeftW (TabSm p) (wtTab p) l w) := by
 obtain ⟨x0, x1, x2⟩ := h
 obtain ⟨v0, v1, v2, e0, e1, e2⟩ : ∃ v0 v1 v2, f 0 = v0 ∧ f 1 = v1 ∧ f 2 = v2 := ⟨_, _, _, rfl, rfl, rfl⟩
 rw [e0] at x0; rw [e1] at x1; rw [e2] at x2
 rw [e0, e1, e2]
 have H0 := lh x0; have H1 := lh x1; have H2 := lh x2
 clear x0 x1 x2 e0 e1 e2
 go_enter Tryz.func210, Tryz.ntmps210
 go_wp2_with fail
 (go_at_call 101; refine (szInts_w _ _ _ _ (H0.out.up eX) (by omega) (by omega)).mono ?_; rintro e w0 ⟨⟨r0, rfl, a0, b0, c0⟩, hb⟩; have ⟨hc, hf⟩ := bcell hb; have hz := hb.size; (try simp at hz); (try have hz := Nat.lt_of_succ_le hz); (try have y0 := wy w w0); (try have z0 := wz0 w w0); (try have z1 := wz1 w w0); (try have z2 := wz2 w w0); (try have z3 := wz3 w w0); (try have z4 := wz4 w w0))
 by_cases n0 : r0 < 0
 ·go_wp2
  go_ret
  exact ⟨⟨_, rfl, by omega, by omega, fun h => absurd h (by omega)⟩, eX⟩
 ·go_wp2_with fail
  (go_at_call 101; refine (szInts_w _ _ _ _ (H1.out.up eX) (by omega) (by omega)).mono ?_; rintro e w1 ⟨⟨r1, rfl, a1, b1, c1⟩, hb⟩; have ⟨hc, hf⟩ := bcell hb; have hz := hb.size; (try simp at hz); (try have hz := Nat.lt_of_succ_le hz); (try have y0 := wy w w1); (try have z0 := wz0 w w1); (try have z1 := wz1 w w1); (try have z2 := wz2 w w1); (try have z3 := wz3 w w1); (try have z4 := wz4 w w1))
  by_cases n1 : r1 < 0
  ·go_wp2
   go_ret
   exact ⟨⟨_, rfl, by omega, by omega, fun h => absurd h (by omega)⟩, eX⟩
  ·go_wp2_with fail
   (go_at_call 101; refine (szInts_w _ _ _ _ (H2.out.up eX) (by omega) (by omega)).mono ?_; rintro e w2 ⟨⟨r2, rfl, a2, b2, c2⟩, hb⟩; have ⟨hc, hf⟩ := bcell hb; have hz := hb.size; (try simp at hz); (try have hz := Nat.lt_of_succ_le hz); (try have y0 := wy w w2); (try have z0 := wz0 w w2); (try have z1 := wz1 w w2); (try have z2 := wz2 w w2); (try have z3 := wz3 w w2); (try have z4 := wz4 w w2))
   by_cases n2 : r2 < 0
   ·go_wp2
    go_ret
    exact ⟨⟨_, rfl, by omega, by omega, fun h => absurd h (by omega)⟩, eX⟩
   ·go_wp2
    go_ret
    exact ⟨⟨_, rfl, by omega, by omega, fun h => (by have ⟨s0, t0⟩ := c0 (by omega); have ⟨s1, t1⟩ := c1 (by omega); have ⟨s2, t2⟩ := c2 (by omega); exact ⟨(by unfold TabSm; omega), by unfold wtTab; push_cast; omega⟩)⟩, eX⟩
set_option maxHeartbeats 1000000 in
theorem szTabs_w (v : Value) (ts : List TabD) (l : Int) (w : World) (h : TabsS w w.heap.size v ts) (h0 : 0 ≤ l) (h1 : l ≤ 1048576) :
  Calls Tryz.prog 189 #[v, .int .i64 l] w (LeftW (TabsSm ts) (wtTabs ts) l w) := by
 obtain ⟨F, hc, hf⟩ := h
 unfold TabsSm wtTabs
 obtain ⟨n, hnn⟩ : ∃ n, n = ts.length := ⟨_, rfl⟩
 rw [← hnn] at hc hf ⊢
 have HC := hc
 obtain ⟨hn, a, cap, rfl, _⟩ := hc
 have HC := lh HC; have HF := lh hf
 clear hf hnn
 obtain ⟨g, hg⟩ : ∃ g : Nat → Nat, g = fun i => wtTab (tn ts i) := ⟨_, rfl⟩
 rw [← hg]
 have HG := lh hg
 clear hg
 by_cases hd : l - (n : Int) < 0
 ·go_enter Tryz.func189, Tryz.ntmps189
  go_wp2
  go_ret
  exact ⟨⟨_, rfl, by omega, by omega, fun h => absurd h (by omega)⟩, eX⟩
 ·go_enter Tryz.func189, Tryz.ntmps189
  go_wp2
  go_loopw [5, 1] (fun i q wr => ∃ (k : Nat) (r : Int), k ≤ n ∧ i = .int .i64 k ∧ q = .int .i64 r ∧ 0 ≤ r ∧ (n : Int) + (sumN g k : Nat) + r ≤ l ∧ Hid (∀ j, j < k → TabSm (tn ts j)) ∧ Below w.heap.size w wr) (fun i _ _ => n - (intOf i).toNat)
  case atStart => exact ⟨0, _, by omega, rfl, rfl, by omega, by rw [sumN_zero]; omega, lh (fun j hj => absurd hj (Nat.not_lt_zero j)), eX⟩
  case round =>
   obtain ⟨k, r, hk, rfl, rfl, hr0, hr1, hall, hbw⟩ := hrel
   by_cases hkn : k < n
   ·obtain ⟨b, off, rfl, hlt, hx⟩ := HC.out.at hbw hkn
    have y0 := hx 0 (by omega); have y1 := hx 1 (by omega); have y2 := hx 2 (by omega)
    simp only [Nat.add_zero] at y0
    clear hx
    have hss := sumN_succ g k
    have hgk := lh (show g k = wtTab (tn ts k) by rw [HG.out])
    go_wp2_with fail
    (go_at_call 210; refine (szTab_w (F k) (tn ts k) _ _ ((HF.out k hkn).up eX) hr0 (by omega)).mono ?_; rintro e w1 ⟨⟨r1, rfl, a1, b1, c1⟩, hb⟩; have ⟨hc, hf⟩ := bcell hb; have hz := hb.size; (try simp at hz); (try have hz := Nat.lt_of_succ_le hz); (try have y0 := wy w w1); (try have z0 := wz0 w w1); (try have z1 := wz1 w w1); (try have z2 := wz2 w w1); (try have z3 := wz3 w w1); (try have z4 := wz4 w w1))
    by_cases n1 : r1 < 0
    ·go_wp2
     go_ret
     exact ⟨⟨_, rfl, by omega, by omega, fun h => absurd h (by omega)⟩, eX⟩
    ·have ⟨c2, c3⟩ := c1 (by omega)
     have hq := hgk.out
     have hle : (n : Int) + (sumN g (k + 1) : Nat) + r1 ≤ l := by rw [hss, hq]; push_cast; omega
     clear hss hq c1 c3
     have ha1 := lh (all_next (P := fun j => TabSm (tn ts j)) hall.out c2)
     go_wp2
     go_roundw
     case rel => exact ⟨k + 1, _, by omega, by go_num, rfl, by omega, hle, ha1, eX⟩
     case measure => simp [intOf]; omega
   ·obtain rfl : k = n := by omega
    go_wp2
    go_ret
    exact ⟨⟨_, rfl, by omega, by omega, fun _ => ⟨⟨by omega, hall.out⟩, by push_cast; omega⟩⟩, hbw⟩
set_option maxHeartbeats 1000000 in
theorem szPin_w (f : Nat → Value) (p : PinD) (l : Int) (w : World) (h : PinF f p) (h0 : 0 ≤ l) (h1 : l ≤ 1048576) :
  Calls Tryz.prog 160 #[.agg #[f 0, f 1, f 2, f 3], .int .i64 l] w (LeftW (True) 0 l w) := by
 obtain ⟨e0, e1, e2, e3, hs0⟩ := h
 rw [e0, e1, e2, e3]
 clear e0 e1 e2 e3
 by_cases hd0 : l - (p.name.size : Int) < 0
 ·go_enter Tryz.func160, Tryz.ntmps160
  go_wp2
  go_ret
  exact ⟨⟨_, rfl, by omega, by omega, fun h => absurd h (by omega)⟩, eX⟩
 ·go_enter Tryz.func160, Tryz.ntmps160
  go_wp2
  go_ret
  exact ⟨⟨_, rfl, by omega, by omega, fun h => (by exact ⟨trivial, by omega⟩)⟩, eX⟩
set_option maxHeartbeats 1000000 in
theorem szPins_w (v : Value) (ts : List PinD) (l : Int) (w : World) (h : PinsS w w.heap.size v ts) (h0 : 0 ≤ l) (h1 : l ≤ 1048576) :
  Calls Tryz.prog 126 #[v, .int .i64 l] w (LeftW (PinsSm ts) (wtPins ts) l w) := by
 obtain ⟨F, hc, hf⟩ := h
 unfold PinsSm wtPins
 obtain ⟨n, hnn⟩ : ∃ n, n = ts.length := ⟨_, rfl⟩
 rw [← hnn] at hc hf ⊢
 have HC := hc
 obtain ⟨hn, a, cap, rfl, _⟩ := hc
 have HC := lh HC; have HF := lh hf
 clear hf hnn
 obtain ⟨g, hg⟩ : ∃ g : Nat → Nat, g = fun i => wtPin (pn ts i) := ⟨_, rfl⟩
 rw [← hg]
 have HG := lh hg
 clear hg
 by_cases hd : l - (n : Int) < 0
 ·go_enter Tryz.func126, Tryz.ntmps126
  go_wp2
  go_ret
  exact ⟨⟨_, rfl, by omega, by omega, fun h => absurd h (by omega)⟩, eX⟩
 ·go_enter Tryz.func126, Tryz.ntmps126
  go_wp2
  go_loopw [5, 1] (fun i q wr => ∃ (k : Nat) (r : Int), k ≤ n ∧ i = .int .i64 k ∧ q = .int .i64 r ∧ 0 ≤ r ∧ (n : Int) + (sumN g k : Nat) + r ≤ l ∧ Below w.heap.size w wr) (fun i _ _ => n - (intOf i).toNat)
  case atStart => exact ⟨0, _, by omega, rfl, rfl, by omega, by rw [sumN_zero]; omega, eX⟩
  case round =>
   obtain ⟨k, r, hk, rfl, rfl, hr0, hr1, hbw⟩ := hrel
   by_cases hkn : k < n
   ·obtain ⟨b, off, rfl, hlt, hx⟩ := HC.out.at hbw hkn
    have y0 := hx 0 (by omega); have y1 := hx 1 (by omega); have y2 := hx 2 (by omega); have y3 := hx 3 (by omega)
    simp only [Nat.add_zero] at y0
    clear hx
    have hss := sumN_succ g k
    have hgk := lh (show g k = wtPin (pn ts k) by rw [HG.out])
    go_wp2_with fail
    (go_at_call 160; refine (szPin_w (F k) (pn ts k) _ _ (HF.out k hkn) hr0 (by omega)).mono ?_; rintro e w1 ⟨⟨r1, rfl, a1, b1, c1⟩, hb⟩; have ⟨hc, hf⟩ := bcell hb; have hz := hb.size; (try simp at hz); (try have hz := Nat.lt_of_succ_le hz); (try have y0 := wy w w1); (try have z0 := wz0 w w1); (try have z1 := wz1 w w1); (try have z2 := wz2 w w1); (try have z3 := wz3 w w1); (try have z4 := wz4 w w1))
    by_cases n1 : r1 < 0
    ·go_wp2
     go_ret
     exact ⟨⟨_, rfl, by omega, by omega, fun h => absurd h (by omega)⟩, eX⟩
    ·have ⟨c2, c3⟩ := c1 (by omega)
     have hq := hgk.out
     have hle : (n : Int) + (sumN g (k + 1) : Nat) + r1 ≤ l := by rw [hss, hq]; push_cast; unfold wtPin; omega
     clear hss hq c1 c3
     go_wp2
     go_roundw
     case rel => exact ⟨k + 1, _, by omega, by go_num, rfl, by omega, hle, eX⟩
     case measure => simp [intOf]; omega
   ·obtain rfl : k = n := by omega
    go_wp2
    go_ret
    exact ⟨⟨_, rfl, by omega, by omega, fun _ => ⟨by omega, by push_cast; omega⟩⟩, hbw⟩
set_option maxHeartbeats 1000000 in
theorem szArc_w (f : Nat → Value) (p : ArcD) (l : Int) (w : World) (h : ArcF w w.heap.size f p) (h0 : 0 ≤ l) (h1 : l ≤ 1048576) :
  Calls Tryz.prog 161 #[.agg #[f 0, f 1, f 2, f 3, f 4, f 5], .int .i64 l] w (LeftW (ArcSm p) (wtArc p) l w) := by
 obtain ⟨e0, e1, e2, e3, x4, x5⟩ := h
 rw [e0, e1, e2, e3]
 obtain ⟨v4, v5, e4, e5⟩ : ∃ v4 v5, f 4 = v4 ∧ f 5 = v5 := ⟨_, _, rfl, rfl⟩
 rw [e4] at x4; rw [e5] at x5
 rw [e4, e5]
 have H4 := lh x4; have H5 := lh x5
 clear x4 x5 e0 e1 e2 e3 e4 e5
 go_enter Tryz.func161, Tryz.ntmps161
 go_wp2_with fail
 (go_at_call 189; refine (szTabs_w _ _ _ _ (H4.out.up eX) (by omega) (by omega)).mono ?_; rintro e w4 ⟨⟨r4, rfl, a4, b4, c4⟩, hb⟩; have ⟨hc, hf⟩ := bcell hb; have hz := hb.size; (try simp at hz); (try have hz := Nat.lt_of_succ_le hz); (try have y0 := wy w w4); (try have z0 := wz0 w w4); (try have z1 := wz1 w w4); (try have z2 := wz2 w w4); (try have z3 := wz3 w w4); (try have z4 := wz4 w w4))
 by_cases n4 : r4 < 0
 ·go_wp2
  go_ret
  exact ⟨⟨_, rfl, by omega, by omega, fun h => absurd h (by omega)⟩, eX⟩
 ·go_wp2_with fail
  (go_at_call 189; refine (szTabs_w _ _ _ _ (H5.out.up eX) (by omega) (by omega)).mono ?_; rintro e w5 ⟨⟨r5, rfl, a5, b5, c5⟩, hb⟩; have ⟨hc, hf⟩ := bcell hb; have hz := hb.size; (try simp at hz); (try have hz := Nat.lt_of_succ_le hz); (try have y0 := wy w w5); (try have z0 := wz0 w w5); (try have z1 := wz1 w w5); (try have z2 := wz2 w w5); (try have z3 := wz3 w w5); (try have z4 := wz4 w w5))
  by_cases n5 : r5 < 0
  ·go_wp2
   go_ret
   exact ⟨⟨_, rfl, by omega, by omega, fun h => absurd h (by omega)⟩, eX⟩
  ·go_wp2
   go_ret
   exact ⟨⟨_, rfl, by omega, by omega, fun h => (by have ⟨s4, t4⟩ := c4 (by omega); have ⟨s5, t5⟩ := c5 (by omega); exact ⟨⟨s4, s5⟩, by unfold wtArc; push_cast; omega⟩)⟩, eX⟩
set_option maxHeartbeats 1000000 in
theorem szArcs_w (v : Value) (ts : List ArcD) (l : Int) (w : World) (h : ArcsS w w.heap.size v ts) (h0 : 0 ≤ l) (h1 : l ≤ 1048576) :
  Calls Tryz.prog 127 #[v, .int .i64 l] w (LeftW (ArcsSm ts) (wtArcs ts) l w) := by
 obtain ⟨F, hc, hf⟩ := h
 unfold ArcsSm wtArcs
 obtain ⟨n, hnn⟩ : ∃ n, n = ts.length := ⟨_, rfl⟩
 rw [← hnn] at hc hf ⊢
 have HC := hc
 obtain ⟨hn, a, cap, rfl, _⟩ := hc
 have HC := lh HC; have HF := lh hf
 clear hf hnn
 obtain ⟨g, hg⟩ : ∃ g : Nat → Nat, g = fun i => wtArc (an ts i) := ⟨_, rfl⟩
 rw [← hg]
 have HG := lh hg
 clear hg
 by_cases hd : l - (n : Int) < 0
 ·go_enter Tryz.func127, Tryz.ntmps127
  go_wp2
  go_ret
  exact ⟨⟨_, rfl, by omega, by omega, fun h => absurd h (by omega)⟩, eX⟩
 ·go_enter Tryz.func127, Tryz.ntmps127
  go_wp2
  go_loopw [5, 1] (fun i q wr => ∃ (k : Nat) (r : Int), k ≤ n ∧ i = .int .i64 k ∧ q = .int .i64 r ∧ 0 ≤ r ∧ (n : Int) + (sumN g k : Nat) + r ≤ l ∧ Hid (∀ j, j < k → ArcSm (an ts j)) ∧ Below w.heap.size w wr) (fun i _ _ => n - (intOf i).toNat)
  case atStart => exact ⟨0, _, by omega, rfl, rfl, by omega, by rw [sumN_zero]; omega, lh (fun j hj => absurd hj (Nat.not_lt_zero j)), eX⟩
  case round =>
   obtain ⟨k, r, hk, rfl, rfl, hr0, hr1, hall, hbw⟩ := hrel
   by_cases hkn : k < n
   ·obtain ⟨b, off, rfl, hlt, hx⟩ := HC.out.at hbw hkn
    have y0 := hx 0 (by omega); have y1 := hx 1 (by omega); have y2 := hx 2 (by omega); have y3 := hx 3 (by omega); have y4 := hx 4 (by omega); have y5 := hx 5 (by omega)
    simp only [Nat.add_zero] at y0
    clear hx
    have hss := sumN_succ g k
    have hgk := lh (show g k = wtArc (an ts k) by rw [HG.out])
    go_wp2_with fail
    (go_at_call 161; refine (szArc_w (F k) (an ts k) _ _ ((HF.out k hkn).up eX) hr0 (by omega)).mono ?_; rintro e w1 ⟨⟨r1, rfl, a1, b1, c1⟩, hb⟩; have ⟨hc, hf⟩ := bcell hb; have hz := hb.size; (try simp at hz); (try have hz := Nat.lt_of_succ_le hz); (try have y0 := wy w w1); (try have z0 := wz0 w w1); (try have z1 := wz1 w w1); (try have z2 := wz2 w w1); (try have z3 := wz3 w w1); (try have z4 := wz4 w w1))
    by_cases n1 : r1 < 0
    ·go_wp2
     go_ret
     exact ⟨⟨_, rfl, by omega, by omega, fun h => absurd h (by omega)⟩, eX⟩
    ·have ⟨c2, c3⟩ := c1 (by omega)
     have hq := hgk.out
     have hle : (n : Int) + (sumN g (k + 1) : Nat) + r1 ≤ l := by rw [hss, hq]; push_cast; omega
     clear hss hq c1 c3
     have ha1 := lh (all_next (P := fun j => ArcSm (an ts j)) hall.out c2)
     go_wp2
     go_roundw
     case rel => exact ⟨k + 1, _, by omega, by go_num, rfl, by omega, hle, ha1, eX⟩
     case measure => simp [intOf]; omega
   ·obtain rfl : k = n := by omega
    go_wp2
    go_ret
    exact ⟨⟨_, rfl, by omega, by omega, fun _ => ⟨⟨by omega, hall.out⟩, by push_cast; omega⟩⟩, hbw⟩
set_option maxHeartbeats 1000000 in
theorem szCell_w (f : Nat → Value) (p : CellD) (l : Int) (w : World) (h : CellF w w.heap.size f p) (h0 : 0 ≤ l) (h1 : l ≤ 1048576) :
  Calls Tryz.prog 98 #[.agg #[f 0, f 1, f 2, f 3, f 4, f 5, f 6], .int .i64 l] w (LeftW (CellSm p) (wtCell p) l w) := by
 obtain ⟨e0, e1, x2, x3, x4, e5, e6, hs0⟩ := h
 rw [e0, e1, e5, e6]
 obtain ⟨v2, v3, v4, e2, e3, e4⟩ : ∃ v2 v3 v4, f 2 = v2 ∧ f 3 = v3 ∧ f 4 = v4 := ⟨_, _, _, rfl, rfl, rfl⟩
 rw [e2] at x2; rw [e3] at x3; rw [e4] at x4
 rw [e2, e3, e4]
 have H2 := lh x2; have H3 := lh x3; have H4 := lh x4
 clear x2 x3 x4 e0 e1 e2 e3 e4 e5 e6
 by_cases hd0 : l - (p.name.size : Int) < 0
 ·go_enter Tryz.func98, Tryz.ntmps98
  go_wp2
  go_ret
  exact ⟨⟨_, rfl, by omega, by omega, fun h => absurd h (by omega)⟩, eX⟩
 ·go_enter Tryz.func98, Tryz.ntmps98
  go_wp2_with fail
  (go_at_call 126; refine (szPins_w _ _ _ _ (H2.out.up eX) (by omega) (by omega)).mono ?_; rintro e w2 ⟨⟨r2, rfl, a2, b2, c2⟩, hb⟩; have ⟨hc, hf⟩ := bcell hb; have hz := hb.size; (try simp at hz); (try have hz := Nat.lt_of_succ_le hz); (try have y0 := wy w w2); (try have z0 := wz0 w w2); (try have z1 := wz1 w w2); (try have z2 := wz2 w w2); (try have z3 := wz3 w w2); (try have z4 := wz4 w w2))
  by_cases n2 : r2 < 0
  ·go_wp2
   go_ret
   exact ⟨⟨_, rfl, by omega, by omega, fun h => absurd h (by omega)⟩, eX⟩
  ·go_wp2_with fail
   (go_at_call 127; refine (szArcs_w _ _ _ _ (H3.out.up eX) (by omega) (by omega)).mono ?_; rintro e w3 ⟨⟨r3, rfl, a3, b3, c3⟩, hb⟩; have ⟨hc, hf⟩ := bcell hb; have hz := hb.size; (try simp at hz); (try have hz := Nat.lt_of_succ_le hz); (try have y0 := wy w w3); (try have z0 := wz0 w w3); (try have z1 := wz1 w w3); (try have z2 := wz2 w w3); (try have z3 := wz3 w w3); (try have z4 := wz4 w w3))
   by_cases n3 : r3 < 0
   ·go_wp2
    go_ret
    exact ⟨⟨_, rfl, by omega, by omega, fun h => absurd h (by omega)⟩, eX⟩
   ·go_wp2_with fail
    (go_at_call 101; refine (szInts_w _ _ _ _ (H4.out.up eX) (by omega) (by omega)).mono ?_; rintro e w4 ⟨⟨r4, rfl, a4, b4, c4⟩, hb⟩; have ⟨hc, hf⟩ := bcell hb; have hz := hb.size; (try simp at hz); (try have hz := Nat.lt_of_succ_le hz); (try have y0 := wy w w4); (try have z0 := wz0 w w4); (try have z1 := wz1 w w4); (try have z2 := wz2 w w4); (try have z3 := wz3 w w4); (try have z4 := wz4 w w4))
    by_cases n4 : r4 < 0
    ·go_wp2
     go_ret
     exact ⟨⟨_, rfl, by omega, by omega, fun h => absurd h (by omega)⟩, eX⟩
    ·go_wp2
     go_ret
     exact ⟨⟨_, rfl, by omega, by omega, fun h => (by have ⟨s2, t2⟩ := c2 (by omega); have ⟨s3, t3⟩ := c3 (by omega); have ⟨s4, t4⟩ := c4 (by omega); exact ⟨⟨s2, s3, s4⟩, by unfold wtCell; push_cast; omega⟩)⟩, eX⟩
set_option maxHeartbeats 1000000 in
theorem szCells_w (v : Value) (ts : List CellD) (l : Int) (w : World) (h : CellsS w w.heap.size v ts) (h0 : 0 ≤ l) (h1 : l ≤ 1048576) :
  Calls Tryz.prog 57 #[v, .int .i64 l] w (LeftW (CellsSm ts) (wtCells ts) l w) := by
 obtain ⟨F, hc, hf⟩ := h
 unfold CellsSm wtCells
 obtain ⟨n, hnn⟩ : ∃ n, n = ts.length := ⟨_, rfl⟩
 rw [← hnn] at hc hf ⊢
 have HC := hc
 obtain ⟨hn, a, cap, rfl, _⟩ := hc
 have HC := lh HC; have HF := lh hf
 clear hf hnn
 obtain ⟨g, hg⟩ : ∃ g : Nat → Nat, g = fun i => wtCell (cn ts i) := ⟨_, rfl⟩
 rw [← hg]
 have HG := lh hg
 clear hg
 by_cases hd : l - (n : Int) < 0
 ·go_enter Tryz.func57, Tryz.ntmps57
  go_wp2
  go_ret
  exact ⟨⟨_, rfl, by omega, by omega, fun h => absurd h (by omega)⟩, eX⟩
 ·go_enter Tryz.func57, Tryz.ntmps57
  go_wp2
  go_loopw [5, 1] (fun i q wr => ∃ (k : Nat) (r : Int), k ≤ n ∧ i = .int .i64 k ∧ q = .int .i64 r ∧ 0 ≤ r ∧ (n : Int) + (sumN g k : Nat) + r ≤ l ∧ Hid (∀ j, j < k → CellSm (cn ts j)) ∧ Below w.heap.size w wr) (fun i _ _ => n - (intOf i).toNat)
  case atStart => exact ⟨0, _, by omega, rfl, rfl, by omega, by rw [sumN_zero]; omega, lh (fun j hj => absurd hj (Nat.not_lt_zero j)), eX⟩
  case round =>
   obtain ⟨k, r, hk, rfl, rfl, hr0, hr1, hall, hbw⟩ := hrel
   by_cases hkn : k < n
   ·obtain ⟨b, off, rfl, hlt, hx⟩ := HC.out.at hbw hkn
    have y0 := hx 0 (by omega); have y1 := hx 1 (by omega); have y2 := hx 2 (by omega); have y3 := hx 3 (by omega); have y4 := hx 4 (by omega); have y5 := hx 5 (by omega); have y6 := hx 6 (by omega)
    simp only [Nat.add_zero] at y0
    clear hx
    have hss := sumN_succ g k
    have hgk := lh (show g k = wtCell (cn ts k) by rw [HG.out])
    go_wp2_with fail
    (go_at_call 98; refine (szCell_w (F k) (cn ts k) _ _ ((HF.out k hkn).up eX) hr0 (by omega)).mono ?_; rintro e w1 ⟨⟨r1, rfl, a1, b1, c1⟩, hb⟩; have ⟨hc, hf⟩ := bcell hb; have hz := hb.size; (try simp at hz); (try have hz := Nat.lt_of_succ_le hz); (try have y0 := wy w w1); (try have z0 := wz0 w w1); (try have z1 := wz1 w w1); (try have z2 := wz2 w w1); (try have z3 := wz3 w w1); (try have z4 := wz4 w w1))
    by_cases n1 : r1 < 0
    ·go_wp2
     go_ret
     exact ⟨⟨_, rfl, by omega, by omega, fun h => absurd h (by omega)⟩, eX⟩
    ·have ⟨c2, c3⟩ := c1 (by omega)
     have hq := hgk.out
     have hle : (n : Int) + (sumN g (k + 1) : Nat) + r1 ≤ l := by rw [hss, hq]; push_cast; omega
     clear hss hq c1 c3
     have ha1 := lh (all_next (P := fun j => CellSm (cn ts j)) hall.out c2)
     go_wp2
     go_roundw
     case rel => exact ⟨k + 1, _, by omega, by go_num, rfl, by omega, hle, ha1, eX⟩
     case measure => simp [intOf]; omega
   ·obtain rfl : k = n := by omega
    go_wp2
    go_ret
    exact ⟨⟨_, rfl, by omega, by omega, fun _ => ⟨⟨by omega, hall.out⟩, by push_cast; omega⟩⟩, hbw⟩
theorem szLibrary_w (v : Value) (ts : List CellD) (l : Int) (w : World) (h : CellsS w w.heap.size v ts) (h0 : 0 ≤ l) (h1 : l ≤ 1048576) :
  Calls Tryz.prog 29 #[.agg #[v], .int .i64 l] w (LeftW (CellsSm ts) (wtCells ts) l w) := by
 have H := lh h
 clear h
 go_enter Tryz.func29, Tryz.ntmps29
 go_wp2_with fail
 (go_at_call 57; refine (szCells_w _ _ _ _ (H.out.up eX) h0 h1).mono ?_; rintro e w1 ⟨⟨r1, rfl, a1, b1, c1⟩, hb⟩; have ⟨hc, hf⟩ := bcell hb; have hz := hb.size; (try simp at hz); (try have hz := Nat.lt_of_succ_le hz); (try have y0 := wy w w1); (try have z0 := wz0 w w1); (try have z1 := wz1 w w1); (try have z2 := wz2 w w1); (try have z3 := wz3 w w1); (try have z4 := wz4 w w1))
 by_cases n1 : r1 < 0
 ·go_wp2
  go_ret
  exact ⟨⟨_, rfl, by omega, by omega, fun h => absurd h (by omega)⟩, eX⟩
 ·go_wp2
  go_ret
  exact ⟨⟨_, rfl, by omega, by omega, fun h => c1 (by omega)⟩, eX⟩
theorem szTx_w (v : Value) (us : List ByteArray) (l : Int) (w : World) (h : TxS w w.heap.size v us) (h0 : 0 ≤ l) (h1 : l ≤ 1048576) :
  Calls Tryz.prog 59 #[v, .int .i64 l] w (LeftW (TxSm us) us.length l w) := by
 unfold TxSm
 have hn := h.len
 obtain ⟨a, cap, rfl⟩ := h.slice
 have H := lh h
 have HS := lh h.2
 clear h
 by_cases hd : l - (us.length : Int) < 0
 ·go_enter Tryz.func59, Tryz.ntmps59
  go_wp2
  go_ret
  exact ⟨⟨_, rfl, by omega, by omega, fun h => absurd h (by omega)⟩, eX⟩
 ·go_enter Tryz.func59, Tryz.ntmps59
  go_wp2
  go_loopw [5, 1] (fun i q wr => ∃ (k : Nat) (r : Int), k ≤ us.length ∧ i = .int .i64 k ∧ q = .int .i64 r ∧ 0 ≤ r ∧ us.length + r ≤ l ∧ Below w.heap.size w wr) (fun i _ _ => us.length - (intOf i).toNat)
  case atStart => exact ⟨0, _, by omega, rfl, rfl, by omega, by omega, eX⟩
  case round =>
   obtain ⟨k, r, hk, rfl, rfl, hr0, hr1, hbw⟩ := hrel
   by_cases hkn : k < us.length
   ·obtain ⟨b, off, rfl, hlt, y0⟩ := H.out.at hbw hkn
    have hI : (k : Int) < (us.length : Int) := by omega
    have i00 : (0 : Int) ≤ (k : Int) := by omega
    have hs := HS.out k hkn
    by_cases n1 : r - ((sn us k).size : Int) < 0
    ·go_wp2
     go_ret
     exact ⟨⟨_, rfl, by omega, by omega, fun h => absurd h (by omega)⟩, eX⟩
    ·go_wp2
     go_roundw
     case rel => exact ⟨k + 1, _, by omega, by go_num, rfl, by omega, by omega, eX⟩
     case measure => simp [intOf]; omega
   ·obtain rfl : k = us.length := by omega
    go_wp2
    go_ret
    exact ⟨⟨_, rfl, by omega, by omega, fun _ => ⟨by omega, by omega⟩⟩, hbw⟩
set_option maxHeartbeats 1000000 in
theorem szInst_w (f : Nat → Value) (p : InstD) (l : Int) (w : World) (h : InstF w w.heap.size f p) (h0 : 0 ≤ l) (h1 : l ≤ 1048576) :
  Calls Tryz.prog 99 #[.agg #[f 0, f 1, f 2], .int .i64 l] w (LeftW (InstSm p) (wtInst p) l w) := by
 obtain ⟨e0, e1, x2, hs0⟩ := h
 rw [e0, e1]
 obtain ⟨v2, e2⟩ : ∃ v2, f 2 = v2 := ⟨_, rfl⟩
 rw [e2] at x2
 rw [e2]
 have H2 := lh x2
 clear x2 e0 e1 e2
 by_cases hd0 : l - (p.name.size : Int) < 0
 ·go_enter Tryz.func99, Tryz.ntmps99
  go_wp2
  go_ret
  exact ⟨⟨_, rfl, by omega, by omega, fun h => absurd h (by omega)⟩, eX⟩
 ·go_enter Tryz.func99, Tryz.ntmps99
  go_wp2_with fail
  (go_at_call 101; refine (szInts_w _ _ _ _ (H2.out.up eX) (by omega) (by omega)).mono ?_; rintro e w2 ⟨⟨r2, rfl, a2, b2, c2⟩, hb⟩; have ⟨hc, hf⟩ := bcell hb; have hz := hb.size; (try simp at hz); (try have hz := Nat.lt_of_succ_le hz); (try have y0 := wy w w2); (try have z0 := wz0 w w2); (try have z1 := wz1 w w2); (try have z2 := wz2 w w2); (try have z3 := wz3 w w2); (try have z4 := wz4 w w2))
  by_cases n2 : r2 < 0
  ·go_wp2
   go_ret
   exact ⟨⟨_, rfl, by omega, by omega, fun h => absurd h (by omega)⟩, eX⟩
  ·go_wp2
   go_ret
   exact ⟨⟨_, rfl, by omega, by omega, fun h => (by have ⟨s2, t2⟩ := c2 (by omega); exact ⟨s2, by unfold wtInst; push_cast; omega⟩)⟩, eX⟩
set_option maxHeartbeats 1000000 in
theorem szInsts_w (v : Value) (ts : List InstD) (l : Int) (w : World) (h : InstsS w w.heap.size v ts) (h0 : 0 ≤ l) (h1 : l ≤ 1048576) :
  Calls Tryz.prog 58 #[v, .int .i64 l] w (LeftW (InstsSm ts) (wtInsts ts) l w) := by
 obtain ⟨F, hc, hf⟩ := h
 unfold InstsSm wtInsts
 obtain ⟨n, hnn⟩ : ∃ n, n = ts.length := ⟨_, rfl⟩
 rw [← hnn] at hc hf ⊢
 have HC := hc
 obtain ⟨hn, a, cap, rfl, _⟩ := hc
 have HC := lh HC; have HF := lh hf
 clear hf hnn
 obtain ⟨g, hg⟩ : ∃ g : Nat → Nat, g = fun i => wtInst (inn ts i) := ⟨_, rfl⟩
 rw [← hg]
 have HG := lh hg
 clear hg
 by_cases hd : l - (n : Int) < 0
 ·go_enter Tryz.func58, Tryz.ntmps58
  go_wp2
  go_ret
  exact ⟨⟨_, rfl, by omega, by omega, fun h => absurd h (by omega)⟩, eX⟩
 ·go_enter Tryz.func58, Tryz.ntmps58
  go_wp2
  go_loopw [5, 1] (fun i q wr => ∃ (k : Nat) (r : Int), k ≤ n ∧ i = .int .i64 k ∧ q = .int .i64 r ∧ 0 ≤ r ∧ (n : Int) + (sumN g k : Nat) + r ≤ l ∧ Hid (∀ j, j < k → InstSm (inn ts j)) ∧ Below w.heap.size w wr) (fun i _ _ => n - (intOf i).toNat)
  case atStart => exact ⟨0, _, by omega, rfl, rfl, by omega, by rw [sumN_zero]; omega, lh (fun j hj => absurd hj (Nat.not_lt_zero j)), eX⟩
  case round =>
   obtain ⟨k, r, hk, rfl, rfl, hr0, hr1, hall, hbw⟩ := hrel
   by_cases hkn : k < n
   ·obtain ⟨b, off, rfl, hlt, hx⟩ := HC.out.at hbw hkn
    have y0 := hx 0 (by omega); have y1 := hx 1 (by omega); have y2 := hx 2 (by omega)
    simp only [Nat.add_zero] at y0
    clear hx
    have hss := sumN_succ g k
    have hgk := lh (show g k = wtInst (inn ts k) by rw [HG.out])
    go_wp2_with fail
    (go_at_call 99; refine (szInst_w (F k) (inn ts k) _ _ ((HF.out k hkn).up eX) hr0 (by omega)).mono ?_; rintro e w1 ⟨⟨r1, rfl, a1, b1, c1⟩, hb⟩; have ⟨hc, hf⟩ := bcell hb; have hz := hb.size; (try simp at hz); (try have hz := Nat.lt_of_succ_le hz); (try have y0 := wy w w1); (try have z0 := wz0 w w1); (try have z1 := wz1 w w1); (try have z2 := wz2 w w1); (try have z3 := wz3 w w1); (try have z4 := wz4 w w1))
    by_cases n1 : r1 < 0
    ·go_wp2
     go_ret
     exact ⟨⟨_, rfl, by omega, by omega, fun h => absurd h (by omega)⟩, eX⟩
    ·have ⟨c2, c3⟩ := c1 (by omega)
     have hq := hgk.out
     have hle : (n : Int) + (sumN g (k + 1) : Nat) + r1 ≤ l := by rw [hss, hq]; push_cast; omega
     clear hss hq c1 c3
     have ha1 := lh (all_next (P := fun j => InstSm (inn ts j)) hall.out c2)
     go_wp2
     go_roundw
     case rel => exact ⟨k + 1, _, by omega, by go_num, rfl, by omega, hle, ha1, eX⟩
     case measure => simp [intOf]; omega
   ·obtain rfl : k = n := by omega
    go_wp2
    go_ret
    exact ⟨⟨_, rfl, by omega, by omega, fun _ => ⟨⟨by omega, hall.out⟩, by push_cast; omega⟩⟩, hbw⟩
set_option maxHeartbeats 1000000 in
theorem szPort_w (f : Nat → Value) (p : PortD) (l : Int) (w : World) (h : PortF f p) (h0 : 0 ≤ l) (h1 : l ≤ 1048576) :
  Calls Tryz.prog 100 #[.agg #[f 0, f 1, f 2], .int .i64 l] w (LeftW (True) 0 l w) := by
 obtain ⟨e0, e1, e2, hs0⟩ := h
 rw [e0, e1, e2]
 clear e0 e1 e2
 by_cases hd0 : l - (p.name.size : Int) < 0
 ·go_enter Tryz.func100, Tryz.ntmps100
  go_wp2
  go_ret
  exact ⟨⟨_, rfl, by omega, by omega, fun h => absurd h (by omega)⟩, eX⟩
 ·go_enter Tryz.func100, Tryz.ntmps100
  go_wp2
  go_ret
  exact ⟨⟨_, rfl, by omega, by omega, fun h => (by exact ⟨trivial, by omega⟩)⟩, eX⟩
set_option maxHeartbeats 1000000 in
theorem szPorts_w (v : Value) (ts : List PortD) (l : Int) (w : World) (h : PortsS w w.heap.size v ts) (h0 : 0 ≤ l) (h1 : l ≤ 1048576) :
  Calls Tryz.prog 60 #[v, .int .i64 l] w (LeftW (PortsSm ts) (wtPorts ts) l w) := by
 obtain ⟨F, hc, hf⟩ := h
 unfold PortsSm wtPorts
 obtain ⟨n, hnn⟩ : ∃ n, n = ts.length := ⟨_, rfl⟩
 rw [← hnn] at hc hf ⊢
 have HC := hc
 obtain ⟨hn, a, cap, rfl, _⟩ := hc
 have HC := lh HC; have HF := lh hf
 clear hf hnn
 obtain ⟨g, hg⟩ : ∃ g : Nat → Nat, g = fun i => wtPort (ptn ts i) := ⟨_, rfl⟩
 rw [← hg]
 have HG := lh hg
 clear hg
 by_cases hd : l - (n : Int) < 0
 ·go_enter Tryz.func60, Tryz.ntmps60
  go_wp2
  go_ret
  exact ⟨⟨_, rfl, by omega, by omega, fun h => absurd h (by omega)⟩, eX⟩
 ·go_enter Tryz.func60, Tryz.ntmps60
  go_wp2
  go_loopw [5, 1] (fun i q wr => ∃ (k : Nat) (r : Int), k ≤ n ∧ i = .int .i64 k ∧ q = .int .i64 r ∧ 0 ≤ r ∧ (n : Int) + (sumN g k : Nat) + r ≤ l ∧ Below w.heap.size w wr) (fun i _ _ => n - (intOf i).toNat)
  case atStart => exact ⟨0, _, by omega, rfl, rfl, by omega, by rw [sumN_zero]; omega, eX⟩
  case round =>
   obtain ⟨k, r, hk, rfl, rfl, hr0, hr1, hbw⟩ := hrel
   by_cases hkn : k < n
   ·obtain ⟨b, off, rfl, hlt, hx⟩ := HC.out.at hbw hkn
    have y0 := hx 0 (by omega); have y1 := hx 1 (by omega); have y2 := hx 2 (by omega)
    simp only [Nat.add_zero] at y0
    clear hx
    have hss := sumN_succ g k
    have hgk := lh (show g k = wtPort (ptn ts k) by rw [HG.out])
    go_wp2_with fail
    (go_at_call 100; refine (szPort_w (F k) (ptn ts k) _ _ (HF.out k hkn) hr0 (by omega)).mono ?_; rintro e w1 ⟨⟨r1, rfl, a1, b1, c1⟩, hb⟩; have ⟨hc, hf⟩ := bcell hb; have hz := hb.size; (try simp at hz); (try have hz := Nat.lt_of_succ_le hz); (try have y0 := wy w w1); (try have z0 := wz0 w w1); (try have z1 := wz1 w w1); (try have z2 := wz2 w w1); (try have z3 := wz3 w w1); (try have z4 := wz4 w w1))
    by_cases n1 : r1 < 0
    ·go_wp2
     go_ret
     exact ⟨⟨_, rfl, by omega, by omega, fun h => absurd h (by omega)⟩, eX⟩
    ·have ⟨c2, c3⟩ := c1 (by omega)
     have hq := hgk.out
     have hle : (n : Int) + (sumN g (k + 1) : Nat) + r1 ≤ l := by rw [hss, hq]; push_cast; unfold wtPort; omega
     clear hss hq c1 c3
     go_wp2
     go_roundw
     case rel => exact ⟨k + 1, _, by omega, by go_num, rfl, by omega, hle, eX⟩
     case measure => simp [intOf]; omega
   ·obtain rfl : k = n := by omega
    go_wp2
    go_ret
    exact ⟨⟨_, rfl, by omega, by omega, fun _ => ⟨by omega, by push_cast; omega⟩⟩, hbw⟩
set_option maxHeartbeats 1000000 in
theorem szDes_w (f : Nat → Value) (p : DesD) (l : Int) (w : World) (h : DesF w w.heap.size f p) (h0 : 0 ≤ l) (h1 : l ≤ 1048576) :
  Calls Tryz.prog 30 #[.agg #[f 0, f 1, f 2], .int .i64 l] w (LeftW (DesSm p) (wtDes p) l w) := by
 obtain ⟨x0, x1, x2⟩ := h
 obtain ⟨v0, v1, v2, e0, e1, e2⟩ : ∃ v0 v1 v2, f 0 = v0 ∧ f 1 = v1 ∧ f 2 = v2 := ⟨_, _, _, rfl, rfl, rfl⟩
 rw [e0] at x0; rw [e1] at x1; rw [e2] at x2
 rw [e0, e1, e2]
 have H0 := lh x0; have H1 := lh x1; have H2 := lh x2
 clear x0 x1 x2 e0 e1 e2
 go_enter Tryz.func30, Tryz.ntmps30
 go_wp2_with fail
 (go_at_call 58; refine (szInsts_w _ _ _ _ (H0.out.up eX) (by omega) (by omega)).mono ?_; rintro e w0 ⟨⟨r0, rfl, a0, b0, c0⟩, hb⟩; have ⟨hc, hf⟩ := bcell hb; have hz := hb.size; (try simp at hz); (try have hz := Nat.lt_of_succ_le hz); (try have y0 := wy w w0); (try have z0 := wz0 w w0); (try have z1 := wz1 w w0); (try have z2 := wz2 w w0); (try have z3 := wz3 w w0); (try have z4 := wz4 w w0))
 by_cases n0 : r0 < 0
 ·go_wp2
  go_ret
  exact ⟨⟨_, rfl, by omega, by omega, fun h => absurd h (by omega)⟩, eX⟩
 ·go_wp2_with fail
  (go_at_call 59; refine (szTx_w _ _ _ _ (H1.out.up eX) (by omega) (by omega)).mono ?_; rintro e w1 ⟨⟨r1, rfl, a1, b1, c1⟩, hb⟩; have ⟨hc, hf⟩ := bcell hb; have hz := hb.size; (try simp at hz); (try have hz := Nat.lt_of_succ_le hz); (try have y0 := wy w w1); (try have z0 := wz0 w w1); (try have z1 := wz1 w w1); (try have z2 := wz2 w w1); (try have z3 := wz3 w w1); (try have z4 := wz4 w w1))
  by_cases n1 : r1 < 0
  ·go_wp2
   go_ret
   exact ⟨⟨_, rfl, by omega, by omega, fun h => absurd h (by omega)⟩, eX⟩
  ·go_wp2_with fail
   (go_at_call 60; refine (szPorts_w _ _ _ _ (H2.out.up eX) (by omega) (by omega)).mono ?_; rintro e w2 ⟨⟨r2, rfl, a2, b2, c2⟩, hb⟩; have ⟨hc, hf⟩ := bcell hb; have hz := hb.size; (try simp at hz); (try have hz := Nat.lt_of_succ_le hz); (try have y0 := wy w w2); (try have z0 := wz0 w w2); (try have z1 := wz1 w w2); (try have z2 := wz2 w w2); (try have z3 := wz3 w w2); (try have z4 := wz4 w w2))
   by_cases n2 : r2 < 0
   ·go_wp2
    go_ret
    exact ⟨⟨_, rfl, by omega, by omega, fun h => absurd h (by omega)⟩, eX⟩
   ·go_wp2
    go_ret
    exact ⟨⟨_, rfl, by omega, by omega, fun h => (by have ⟨s0, t0⟩ := c0 (by omega); have ⟨s1, t1⟩ := c1 (by omega); have ⟨s2, t2⟩ := c2 (by omega); exact ⟨⟨s0, s1, s2⟩, by unfold wtDes; push_cast; omega⟩)⟩, eX⟩
set_option maxHeartbeats 1000000 in
theorem szWire_w (f : Nat → Value) (p : WireD) (l : Int) (w : World) (h : WireF w w.heap.size f p) (h0 : 0 ≤ l) (h1 : l ≤ 1048576) :
  Calls Tryz.prog 61 #[.agg #[f 0, f 1, f 2, f 3], .int .i64 l] w (LeftW (WireSm p) (wtWire p) l w) := by
 obtain ⟨x0, x1, x2, x3⟩ := h
 obtain ⟨v0, v1, v2, v3, e0, e1, e2, e3⟩ : ∃ v0 v1 v2 v3, f 0 = v0 ∧ f 1 = v1 ∧ f 2 = v2 ∧ f 3 = v3 := ⟨_, _, _, _, rfl, rfl, rfl, rfl⟩
 rw [e0] at x0; rw [e1] at x1; rw [e2] at x2; rw [e3] at x3
 rw [e0, e1, e2, e3]
 have H0 := lh x0; have H1 := lh x1; have H2 := lh x2; have H3 := lh x3
 clear x0 x1 x2 x3 e0 e1 e2 e3
 go_enter Tryz.func61, Tryz.ntmps61
 go_wp2_with fail
 (go_at_call 101; refine (szInts_w _ _ _ _ (H0.out.up eX) (by omega) (by omega)).mono ?_; rintro e w0 ⟨⟨r0, rfl, a0, b0, c0⟩, hb⟩; have ⟨hc, hf⟩ := bcell hb; have hz := hb.size; (try simp at hz); (try have hz := Nat.lt_of_succ_le hz); (try have y0 := wy w w0); (try have z0 := wz0 w w0); (try have z1 := wz1 w w0); (try have z2 := wz2 w w0); (try have z3 := wz3 w w0); (try have z4 := wz4 w w0))
 by_cases n0 : r0 < 0
 ·go_wp2
  go_ret
  exact ⟨⟨_, rfl, by omega, by omega, fun h => absurd h (by omega)⟩, eX⟩
 ·go_wp2_with fail
  (go_at_call 101; refine (szInts_w _ _ _ _ (H1.out.up eX) (by omega) (by omega)).mono ?_; rintro e w1 ⟨⟨r1, rfl, a1, b1, c1⟩, hb⟩; have ⟨hc, hf⟩ := bcell hb; have hz := hb.size; (try simp at hz); (try have hz := Nat.lt_of_succ_le hz); (try have y0 := wy w w1); (try have z0 := wz0 w w1); (try have z1 := wz1 w w1); (try have z2 := wz2 w w1); (try have z3 := wz3 w w1); (try have z4 := wz4 w w1))
  by_cases n1 : r1 < 0
  ·go_wp2
   go_ret
   exact ⟨⟨_, rfl, by omega, by omega, fun h => absurd h (by omega)⟩, eX⟩
  ·go_wp2_with fail
   (go_at_call 101; refine (szInts_w _ _ _ _ (H2.out.up eX) (by omega) (by omega)).mono ?_; rintro e w2 ⟨⟨r2, rfl, a2, b2, c2⟩, hb⟩; have ⟨hc, hf⟩ := bcell hb; have hz := hb.size; (try simp at hz); (try have hz := Nat.lt_of_succ_le hz); (try have y0 := wy w w2); (try have z0 := wz0 w w2); (try have z1 := wz1 w w2); (try have z2 := wz2 w w2); (try have z3 := wz3 w w2); (try have z4 := wz4 w w2))
   by_cases n2 : r2 < 0
   ·go_wp2
    go_ret
    exact ⟨⟨_, rfl, by omega, by omega, fun h => absurd h (by omega)⟩, eX⟩
   ·go_wp2_with fail
    (go_at_call 101; refine (szInts_w _ _ _ _ (H3.out.up eX) (by omega) (by omega)).mono ?_; rintro e w3 ⟨⟨r3, rfl, a3, b3, c3⟩, hb⟩; have ⟨hc, hf⟩ := bcell hb; have hz := hb.size; (try simp at hz); (try have hz := Nat.lt_of_succ_le hz); (try have y0 := wy w w3); (try have z0 := wz0 w w3); (try have z1 := wz1 w w3); (try have z2 := wz2 w w3); (try have z3 := wz3 w w3); (try have z4 := wz4 w w3))
    by_cases n3 : r3 < 0
    ·go_wp2
     go_ret
     exact ⟨⟨_, rfl, by omega, by omega, fun h => absurd h (by omega)⟩, eX⟩
    ·go_wp2
     go_ret
     exact ⟨⟨_, rfl, by omega, by omega, fun h => (by have ⟨s0, t0⟩ := c0 (by omega); have ⟨s1, t1⟩ := c1 (by omega); have ⟨s2, t2⟩ := c2 (by omega); have ⟨s3, t3⟩ := c3 (by omega); exact ⟨⟨s0, s1, s2, s3⟩, by unfold wtWire; push_cast; omega⟩)⟩, eX⟩
set_option maxHeartbeats 1000000 in
theorem szWires_w (v : Value) (ts : List WireD) (l : Int) (w : World) (h : WiresS w w.heap.size v ts) (h0 : 0 ≤ l) (h1 : l ≤ 1048576) :
  Calls Tryz.prog 31 #[v, .int .i64 l] w (LeftW (WiresSm ts) (wtWires ts) l w) := by
 obtain ⟨F, hc, hf⟩ := h
 unfold WiresSm wtWires
 obtain ⟨n, hnn⟩ : ∃ n, n = ts.length := ⟨_, rfl⟩
 rw [← hnn] at hc hf ⊢
 have HC := hc
 obtain ⟨hn, a, cap, rfl, _⟩ := hc
 have HC := lh HC; have HF := lh hf
 clear hf hnn
 obtain ⟨g, hg⟩ : ∃ g : Nat → Nat, g = fun i => wtWire (wrn ts i) := ⟨_, rfl⟩
 rw [← hg]
 have HG := lh hg
 clear hg
 by_cases hd : l - (n : Int) < 0
 ·go_enter Tryz.func31, Tryz.ntmps31
  go_wp2
  go_ret
  exact ⟨⟨_, rfl, by omega, by omega, fun h => absurd h (by omega)⟩, eX⟩
 ·go_enter Tryz.func31, Tryz.ntmps31
  go_wp2
  go_loopw [5, 1] (fun i q wr => ∃ (k : Nat) (r : Int), k ≤ n ∧ i = .int .i64 k ∧ q = .int .i64 r ∧ 0 ≤ r ∧ (n : Int) + (sumN g k : Nat) + r ≤ l ∧ Hid (∀ j, j < k → WireSm (wrn ts j)) ∧ Below w.heap.size w wr) (fun i _ _ => n - (intOf i).toNat)
  case atStart => exact ⟨0, _, by omega, rfl, rfl, by omega, by rw [sumN_zero]; omega, lh (fun j hj => absurd hj (Nat.not_lt_zero j)), eX⟩
  case round =>
   obtain ⟨k, r, hk, rfl, rfl, hr0, hr1, hall, hbw⟩ := hrel
   by_cases hkn : k < n
   ·obtain ⟨b, off, rfl, hlt, hx⟩ := HC.out.at hbw hkn
    have y0 := hx 0 (by omega); have y1 := hx 1 (by omega); have y2 := hx 2 (by omega); have y3 := hx 3 (by omega)
    simp only [Nat.add_zero] at y0
    clear hx
    have hss := sumN_succ g k
    have hgk := lh (show g k = wtWire (wrn ts k) by rw [HG.out])
    go_wp2_with fail
    (go_at_call 61; refine (szWire_w (F k) (wrn ts k) _ _ ((HF.out k hkn).up eX) hr0 (by omega)).mono ?_; rintro e w1 ⟨⟨r1, rfl, a1, b1, c1⟩, hb⟩; have ⟨hc, hf⟩ := bcell hb; have hz := hb.size; (try simp at hz); (try have hz := Nat.lt_of_succ_le hz); (try have y0 := wy w w1); (try have z0 := wz0 w w1); (try have z1 := wz1 w w1); (try have z2 := wz2 w w1); (try have z3 := wz3 w w1); (try have z4 := wz4 w w1))
    by_cases n1 : r1 < 0
    ·go_wp2
     go_ret
     exact ⟨⟨_, rfl, by omega, by omega, fun h => absurd h (by omega)⟩, eX⟩
    ·have ⟨c2, c3⟩ := c1 (by omega)
     have hq := hgk.out
     have hle : (n : Int) + (sumN g (k + 1) : Nat) + r1 ≤ l := by rw [hss, hq]; push_cast; omega
     clear hss hq c1 c3
     have ha1 := lh (all_next (P := fun j => WireSm (wrn ts j)) hall.out c2)
     go_wp2
     go_roundw
     case rel => exact ⟨k + 1, _, by omega, by go_num, rfl, by omega, hle, ha1, eX⟩
     case measure => simp [intOf]; omega
   ·obtain rfl : k = n := by omega
    go_wp2
    go_ret
    exact ⟨⟨_, rfl, by omega, by omega, fun _ => ⟨⟨by omega, hall.out⟩, by push_cast; omega⟩⟩, hbw⟩
set_option maxHeartbeats 1000000 in
theorem szBlk_w (f : Nat → Value) (z : BlkD) (l : Int) (w : World) (h : BlkF w w.heap.size f z) (h0 : 0 ≤ l) (h1 : l ≤ 1048576) :
  Calls Tryz.prog 9 #[.agg #[f 0, f 1, f 2, f 3, f 4], .int .i64 l] w (LeftW (BlkSm z) (wtBlk z) l w) := by
 obtain ⟨x0, x1, x2⟩ := h
 obtain ⟨v0, v1, v2, v3, v4, e0, e1, e2, e3, e4⟩ : ∃ v0 v1 v2 v3 v4, f 0 = v0 ∧ f 1 = v1 ∧ f 2 = v2 ∧ f 3 = v3 ∧ f 4 = v4 := ⟨_, _, _, _, _, rfl, rfl, rfl, rfl, rfl⟩
 rw [e0] at x0; rw [e1, e2, e3] at x1; rw [e4] at x2
 rw [e0, e1, e2, e3, e4]
 have H0 := lh x0; have H1 := lh x1; have H2 := lh x2
 clear x0 x1 x2 e0 e1 e2 e3 e4
 go_enter Tryz.func9, Tryz.ntmps9
 go_wp2_with fail
 (go_at_call 29; refine (szLibrary_w _ z.lib _ _ (H0.out.up eX) (by omega) (by omega)).mono ?_; rintro e w0 ⟨⟨r0, rfl, a0, b0, c0⟩, hb⟩; have ⟨hc, hf⟩ := bcell hb; have hz := hb.size; (try simp at hz); (try have hz := Nat.lt_of_succ_le hz); (try have y0 := wy w w0); (try have z0 := wz0 w w0); (try have z1 := wz1 w w0); (try have z2 := wz2 w w0); (try have z3 := wz3 w w0); (try have z4 := wz4 w w0))
 by_cases n0 : r0 < 0
 ·go_wp2
  go_ret
  exact ⟨⟨_, rfl, by omega, by omega, fun h => absurd h (by omega)⟩, eX⟩
 ·go_wp2_with fail
  (go_at_call 30; refine (szDes_w (vec [v1, v2, v3]) z.des _ _ (H1.out.up eX) (by omega) (by omega)).mono ?_; rintro e w1 ⟨⟨r1, rfl, a1, b1, c1⟩, hb⟩; have ⟨hc, hf⟩ := bcell hb; have hz := hb.size; (try simp at hz); (try have hz := Nat.lt_of_succ_le hz); (try have y0 := wy w w1); (try have z0 := wz0 w w1); (try have z1 := wz1 w w1); (try have z2 := wz2 w w1); (try have z3 := wz3 w w1); (try have z4 := wz4 w w1))
  by_cases n1 : r1 < 0
  ·go_wp2
   go_ret
   exact ⟨⟨_, rfl, by omega, by omega, fun h => absurd h (by omega)⟩, eX⟩
  ·go_wp2_with fail
   (go_at_call 31; refine (szWires_w _ z.wires _ _ (H2.out.up eX) (by omega) (by omega)).mono ?_; rintro e w2 ⟨⟨r2, rfl, a2, b2, c2⟩, hb⟩; have ⟨hc, hf⟩ := bcell hb; have hz := hb.size; (try simp at hz); (try have hz := Nat.lt_of_succ_le hz); (try have y0 := wy w w2); (try have z0 := wz0 w w2); (try have z1 := wz1 w w2); (try have z2 := wz2 w w2); (try have z3 := wz3 w w2); (try have z4 := wz4 w w2))
   by_cases n2 : r2 < 0
   ·go_wp2
    go_ret
    exact ⟨⟨_, rfl, by omega, by omega, fun h => absurd h (by omega)⟩, eX⟩
   ·go_wp2
    go_ret
    exact ⟨⟨_, rfl, by omega, by omega, fun h => (by have ⟨s0, t0⟩ := c0 (by omega); have ⟨s1, t1⟩ := c1 (by omega); have ⟨s2, t2⟩ := c2 (by omega); exact ⟨⟨s0, s1, s2⟩, by unfold wtBlk; push_cast; omega⟩)⟩, eX⟩
end Go.Proofs.YtkpfbnffhhmokaaGreat
