/-
What Wire are in memory; the laws' own sizes, copies and comparisons of them.
-/
import Derived.Test.YtkpfbnffhhmokaaGreatDes
namespace Go.Proofs.YtkpfbnffhhmokaaGreat
open Go.ChangeShapes Go.WideShapes Go.ChangeAt Go.RowKit Go.Deep
set_option linter.unusedVariables false
set_option linter.unusedSimpArgs false
set_option maxRecDepth 100000
/-! Wire. -/
structure WireD where
 parent : List Int
 res : List Int
 cap : List Int
 sink : List Int
def wrn (xs : List WireD) (i : Nat) : WireD := xs.getD i ⟨[], [], [], []⟩
def WireF (w : World) (B : Nat) (f : Nat → Value) (p : WireD) : Prop := IntS w B (f 0) p.parent ∧ IntS w B (f 1) p.res ∧ IntS w B (f 2) p.cap ∧ IntS w B (f 3) p.sink
theorem WireF.keep {w w' : World} {B C : Nat} {f : Nat → Value} {p : WireD} (h : WireF w B f p) (hb : Below B w w') (hB : B ≤ C) : WireF w' C f p :=
 ⟨h.1.keep hb hB, h.2.1.keep hb hB, h.2.2.1.keep hb hB, h.2.2.2.keep hb hB⟩
theorem WireF.up {w w' : World} {f : Nat → Value} {p : WireD} (h : WireF w w.heap.size f p) (hb : Below w.heap.size w w') : WireF w' w'.heap.size f p := h.keep hb hb.size
def WireSm (p : WireD) : Prop := p.parent.length ≤ 1048576 ∧ p.res.length ≤ 1048576 ∧ p.cap.length ≤ 1048576 ∧ p.sink.length ≤ 1048576
def OwnWire (w : World) (L : Nat) (f : Nat → Value) (p : WireD) : Prop := OwnS w L (f 0) p.parent ∧ OwnS w L (f 1) p.res ∧ OwnS w L (f 2) p.cap ∧ OwnS w L (f 3) p.sink
theorem OwnWire.kept {L : Nat} {w w' : World} {f : Nat → Value} {p : WireD} (h : OwnWire w L f p) (k : Kept L w w') : OwnWire w' L f p :=
 ⟨h.1.kept k, h.2.1.kept k, h.2.2.1.kept k, h.2.2.2.kept k⟩
theorem OwnWire.mono {L M : Nat} {w : World} {f : Nat → Value} {p : WireD} (h : OwnWire w L f p) (k : M ≤ L) : OwnWire w M f p :=
 ⟨h.1.mono k, h.2.1.mono k, h.2.2.1.mono k, h.2.2.2.mono k⟩
theorem OwnWire.out {L : Nat} {w : World} {f : Nat → Value} {p : WireD} (h : OwnWire w L f p) : WireF w w.heap.size f p :=
 ⟨h.1.ints, h.2.1.ints, h.2.2.1.ints, h.2.2.2.ints⟩
def WiresS (w : World) (B : Nat) (v : Value) (ps : List WireD) : Prop := ∃ F, CellS w B v ps.length 4 F ∧ ∀ i, i < ps.length → WireF w B (F i) (wrn ps i)
theorem WiresS.keep {w w' : World} {B C : Nat} {v : Value} {ps : List WireD} (h : WiresS w B v ps) (hb : Below B w w') (hB : B ≤ C) : WiresS w' C v ps := by
 obtain ⟨F, h0, h1⟩ := h
 exact ⟨F, h0.keep hb hB, fun i hi => (h1 i hi).keep hb hB⟩
theorem WiresS.up {w w' : World} {v : Value} {ps : List WireD} (h : WiresS w w.heap.size v ps) (hb : Below w.heap.size w w') : WiresS w' w'.heap.size v ps := h.keep hb hb.size
theorem WiresS.slice {w : World} {L : Nat} {v : Value} {ps : List WireD} (h : WiresS w L v ps) : ∃ p q, v = .slice p ps.length q := by
 obtain ⟨F, ⟨_, a, cap, rfl, _⟩, _⟩ := h
 exact ⟨_, _, rfl⟩
def WiresSm (ps : List WireD) : Prop := ps.length ≤ 1048576 ∧ ∀ i, i < ps.length → WireSm (wrn ps i)
def OwnWires (w : World) (L : Nat) (v : Value) (ps : List WireD) : Prop := ∃ F, OwnC w L v ps.length 4 F ∧ ∀ i, i < ps.length → OwnWire w L (F i) (wrn ps i)
theorem OwnWires.kept {L : Nat} {w w' : World} {v : Value} {ps : List WireD} (h : OwnWires w L v ps) (k : Kept L w w') : OwnWires w' L v ps := by
 obtain ⟨F, h0, h1⟩ := h
 exact ⟨F, h0.kept k, fun i hi => (h1 i hi).kept k⟩
theorem OwnWires.mono {L M : Nat} {w : World} {v : Value} {ps : List WireD} (h : OwnWires w L v ps) (k : M ≤ L) : OwnWires w M v ps := by
 obtain ⟨F, h0, h1⟩ := h
 exact ⟨F, h0.mono k, fun i hi => (h1 i hi).mono k⟩
theorem OwnWires.out {L : Nat} {w : World} {v : Value} {ps : List WireD} (h : OwnWires w L v ps) : WiresS w w.heap.size v ps := by
 obtain ⟨F, h0, h1⟩ := h
 exact ⟨F, h0.cells, fun i hi => (h1 i hi).out⟩
theorem OwnWires.slice {w : World} {L : Nat} {v : Value} {ps : List WireD} (h : OwnWires w L v ps) : ∃ p q, v = .slice p ps.length q := h.out.slice
def ToWire (p : WireD) (w : World) (e : Ending) (w' : World) : Prop := ∃ u0 u1 u2 u3 : Value, e = .returned (.agg #[u0, u1, u2, u3]) ∧ (OwnS w' w.heap.size u0 p.parent ∧ OwnS w' w.heap.size u1 p.res ∧ OwnS w' w.heap.size u2 p.cap ∧ OwnS w' w.heap.size u3 p.sink) ∧ Below w.heap.size w w'
set_option maxHeartbeats 2000000 in
theorem toWire_any (f : Nat → Value) (p : WireD) (w : World) (h : WireF w w.heap.size f p) (hm : WireSm p) : Calls Tryz.prog 69 #[.agg #[f 0, f 1, f 2, f 3]] w (ToWire p w) := by
 obtain ⟨x0, x1, x2, x3⟩ := h
 obtain ⟨v0, v1, v2, v3, e0, e1, e2, e3⟩ : ∃ v0 v1 v2 v3, f 0 = v0 ∧ f 1 = v1 ∧ f 2 = v2 ∧ f 3 = v3 := ⟨_, _, _, _, rfl, rfl, rfl, rfl⟩
 rw [e0] at x0; rw [e1] at x1; rw [e2] at x2; rw [e3] at x3
 rw [e0, e1, e2, e3]
 have H0 := lh x0; have H1 := lh x1; have H2 := lh x2; have H3 := lh x3
 have HM := lh hm
 clear x0 x1 x2 x3 e0 e1 e2 e3 hm
 go_enter Tryz.func69, Tryz.ntmps69
 go_wp2_with fail
 (go_at_call 12; refine (toInt64S_any v0 _ _ (H0.out.up eX) HM.out.1).mono ?_; rintro e w0 ⟨u0, rfl, hu0, hb⟩; have ⟨hc, hf⟩ := bcell hb; have hz := hb.size; (try simp at hz); (try have hz := Nat.lt_of_succ_le hz); (try have y0 := wy w w0); (try have z0 := wz0 w w0); (try have z1 := wz1 w w0); (try have z2 := wz2 w w0); (try have z3 := wz3 w w0); (try have z4 := wz4 w w0))
 have hb0 := hb
 have U0 := lh hu0
 obtain ⟨p0, q0, rfl⟩ := hu0.slice
 clear hu0
 go_wp2_with fail
 (go_at_call 12; refine (toInt64S_any v1 _ _ (H1.out.up eX) HM.out.2.1).mono ?_; rintro e w1 ⟨u1, rfl, hu1, hb⟩; have ⟨hc, hf⟩ := bcell hb; have hz := hb.size; (try simp at hz); (try have hz := Nat.lt_of_succ_le hz); (try have y0 := wy w w1); (try have z0 := wz0 w w1); (try have z1 := wz1 w w1); (try have z2 := wz2 w w1); (try have z3 := wz3 w w1); (try have z4 := wz4 w w1))
 have hb1 := hb
 have U1 := lh hu1
 obtain ⟨p1, q1, rfl⟩ := hu1.slice
 clear hu1
 go_wp2_with fail
 (go_at_call 12; refine (toInt64S_any v2 _ _ (H2.out.up eX) HM.out.2.2.1).mono ?_; rintro e w2 ⟨u2, rfl, hu2, hb⟩; have ⟨hc, hf⟩ := bcell hb; have hz := hb.size; (try simp at hz); (try have hz := Nat.lt_of_succ_le hz); (try have y0 := wy w w2); (try have z0 := wz0 w w2); (try have z1 := wz1 w w2); (try have z2 := wz2 w w2); (try have z3 := wz3 w w2); (try have z4 := wz4 w w2))
 have hb2 := hb
 have U2 := lh hu2
 obtain ⟨p2, q2, rfl⟩ := hu2.slice
 clear hu2
 go_wp2_with fail
 (go_at_call 12; refine (toInt64S_any v3 _ _ (H3.out.up eX) HM.out.2.2.2).mono ?_; rintro e w3 ⟨u3, rfl, hu3, hb⟩; have ⟨hc, hf⟩ := bcell hb; have hz := hb.size; (try simp at hz); (try have hz := Nat.lt_of_succ_le hz); (try have y0 := wy w w3); (try have z0 := wz0 w w3); (try have z1 := wz1 w w3); (try have z2 := wz2 w w3); (try have z3 := wz3 w w3); (try have z4 := wz4 w w3))
 have hb3 := hb
 have U3 := lh hu3
 obtain ⟨p3, q3, rfl⟩ := hu3.slice
 clear hu3
 go_wp2_with fail
 have q0' := U0.out.mono (C := w.heap.size + 1 + 1 + 1) (by first | (simp; done) | (simp; omega) | (simp [World.setCell]; omega))
 have q1' := U1.out.mono (C := w.heap.size + 1 + 1 + 1) (by first | (simp; done) | (simp; omega) | (simp [World.setCell]; omega))
 have q2' := U2.out.mono (C := w.heap.size + 1 + 1 + 1) (by first | (simp; done) | (simp; omega) | (simp [World.setCell]; omega))
 have q3' := U3.out.mono (C := w.heap.size + 1 + 1 + 1) (by first | (simp; done) | (simp; omega) | (simp [World.setCell]; omega))
 exact bodyPost_ret (v := .agg #[.slice p0 p.parent.length q0, .slice p1 p.res.length q1, .slice p2 p.cap.length q2, .slice p3 p.sink.length q3]) (by simp [results, Tryz.results69, go_sem, *]) rfl
  ⟨_, _, _, _, rfl, ⟨OwnS.mono (B := w.heap.size + 1 + 1 + 1) (q0'.kept (by (repeat (first | (with_reducible exact Kept.refl _ _) | (with_reducible assumption) | (with_reducible refine Kept.alloc ?_ _) | (with_reducible refine Kept.drew ?_) | (with_reducible refine Kept.drewN ?_ _) | (with_reducible refine Kept.set ?_ (by first | omega | (simp; omega) | simp) _) | (with_reducible refine Kept.call ?_ (by assumption)))))) (by omega), OwnS.mono (B := w.heap.size + 1 + 1 + 1) (q1'.kept (by (repeat (first | (with_reducible exact Kept.refl _ _) | (with_reducible assumption) | (with_reducible refine Kept.alloc ?_ _) | (with_reducible refine Kept.drew ?_) | (with_reducible refine Kept.drewN ?_ _) | (with_reducible refine Kept.set ?_ (by first | omega | (simp; omega) | simp) _) | (with_reducible refine Kept.call ?_ (by assumption)))))) (by omega), OwnS.mono (B := w.heap.size + 1 + 1 + 1) (q2'.kept (by (repeat (first | (with_reducible exact Kept.refl _ _) | (with_reducible assumption) | (with_reducible refine Kept.alloc ?_ _) | (with_reducible refine Kept.drew ?_) | (with_reducible refine Kept.drewN ?_ _) | (with_reducible refine Kept.set ?_ (by first | omega | (simp; omega) | simp) _) | (with_reducible refine Kept.call ?_ (by assumption)))))) (by omega), OwnS.mono (B := w.heap.size + 1 + 1 + 1) (q3'.kept (by (repeat (first | (with_reducible exact Kept.refl _ _) | (with_reducible assumption) | (with_reducible refine Kept.alloc ?_ _) | (with_reducible refine Kept.drew ?_) | (with_reducible refine Kept.drewN ?_ _) | (with_reducible refine Kept.set ?_ (by first | omega | (simp; omega) | simp) _) | (with_reducible refine Kept.call ?_ (by assumption)))))) (by omega)⟩, eX⟩
theorem Tryz.infoWire : (Tryz.prog.info? 105).map (fun i => (i.zero, i.size, i.bytes)) = some (some (.agg #[.slice none 0 0, .slice none 0 0, .slice none 0 0, .slice none 0 0]), 4, 96) := by kernel_rfl
def ToWiresS (ts : List WireD) (w : World) (e : Ending) (w' : World) : Prop := ∃ v : Value, e = .returned v ∧ OwnWires w' w.heap.size v ts ∧ Below w.heap.size w w'
set_option maxHeartbeats 1000000 in
theorem toWires_any (v : Value) (ts : List WireD) (w : World) (h : WiresS w w.heap.size v ts) (hm : WiresSm ts) : Calls Tryz.prog 35 #[v] w (ToWiresS ts w) := by
 obtain ⟨i0, hi, hz0, hz1, hz2⟩ := info_parts Tryz.infoWire
 obtain ⟨F, hc, hf⟩ := h
 obtain ⟨hm, hms⟩ := hm
 obtain ⟨n, hnn⟩ : ∃ n, n = ts.length := ⟨_, rfl⟩
 have HN := lh hnn
 rw [← hnn] at hc hf hm hms
 have HC := hc
 obtain ⟨hn, a, cap, rfl, _⟩ := hc
 have HC := lh HC; have HF := lh hf; have HM := lh hms
 clear hf hnn hms
 go_enter Tryz.func35, Tryz.ntmps35
 go_wp2_with (at_make; refine wpList_make_full _ rfl _ _ 44 rfl w.heap.size 105 i0 (.agg #[.slice none 0 0, .slice none 0 0, .slice none 0 0, .slice none 0 0]) 4 Tryz.underlying44 hi hz0 hz1 .i64 .i64 _ _ n rfl rfl rfl rfl (by rw [hz2]; omega) (by unfold maxLen; omega) (Nat.le_refl _) ?_; intro w0 hown0 hgrow0; have hb0 := below_grown hgrow0; clear hgrow0)
 have hr0 : 0 < n → RowF w0 w.heap.size n 4 0 (fun _ _ => .bool false) := fun hp => (RowF.made hown0 (by omega)).resolve_right (by omega)
 clear hown0
 go_loopw [4] (fun i wr => ∃ (k : Nat) (G : Nat → Nat → Value), k ≤ n ∧ i = .int .i64 k ∧ Hid (0 < n → RowF wr w.heap.size n 4 k G) ∧ Hid (∀ j, j < k → OwnWire wr (w.heap.size + 1) (G j) (wrn ts j)) ∧ Below w.heap.size w wr) (fun i _ => n - (intOf i).toNat)
 case atStart => exact ⟨0, _, by omega, rfl, lh hr0, lh (fun j hj => absurd hj (Nat.not_lt_zero j)), hb0⟩
 case round =>
  obtain ⟨k, G, hk, rfl, hr, hg, hbw⟩ := hrel
  by_cases hkn : k < n
  ·obtain ⟨b, off, rfl, hlt, hx⟩ := HC.out.at hbw hkn
   have y0 := hx 0 (by omega); have y1 := hx 1 (by omega); have y2 := hx 2 (by omega); have y3 := hx 3 (by omega)
   simp only [Nat.add_zero] at y0
   clear hx hr0 hb0
   go_wp2_with fail
   go_at_call 69
   refine (toWire_any (F k) _ _ ((HF.out k hkn).up hbw) (HM.out k hkn)).mono ?_
   rintro e w1 ⟨u0, u1, u2, u3, rfl, ht, hb⟩
   obtain ⟨p0, q0, rfl⟩ := ht.1.slice; obtain ⟨p1, q1, rfl⟩ := ht.2.1.slice; obtain ⟨p2, q2, rfl⟩ := ht.2.2.1.slice; obtain ⟨p3, q3, rfl⟩ := ht.2.2.2.slice
   have hl0 := (hr.out (by omega)).1
   have hr1 := (hr.out (by omega)).below hb
   obtain ⟨v0, e0⟩ := (hr1.2.1 (k * 4) (by omega)).2
   have f0 := (hr1.2.1 (k * 4) (by omega)).1
   obtain ⟨v1, e1⟩ := (hr1.2.1 (k * 4 + 1) (by omega)).2
   have f1 := (hr1.2.1 (k * 4 + 1) (by omega)).1
   obtain ⟨v2, e2⟩ := (hr1.2.1 (k * 4 + 2) (by omega)).2
   have f2 := (hr1.2.1 (k * 4 + 2) (by omega)).1
   obtain ⟨v3, e3⟩ := (hr1.2.1 (k * 4 + 3) (by omega)).2
   have f3 := (hr1.2.1 (k * 4 + 3) (by omega)).1
   have hrs := lh (fun (_ : 0 < n) => hr1.store (vs := [.slice p0 (wrn ts k).parent.length q0, .slice p1 (wrn ts k).res.length q1, .slice p2 (wrn ts k).cap.length q2, .slice p3 (wrn ts k).sink.length q3]) hkn rfl)
   have hgs := lh (rows_more (Q := fun w' f j => OwnWire w' (w.heap.size + 1) f (wrn ts j)) (L := w.heap.size + 1) (w1 := w1) (g := w.heap.size) (o := k * 4) (fun _ _ _ _ h k => h.kept k) (by omega) (fun j hj => (hg.out j hj).kept (Kept.below hb))
    (show OwnWire w1 (w.heap.size + 1) (vec [.slice p0 (wrn ts k).parent.length q0, .slice p1 (wrn ts k).res.length q1, .slice p2 (wrn ts k).cap.length q2, .slice p3 (wrn ts k).sink.length q3]) _ from OwnWire.mono (L := wr.heap.size) ⟨ht.1, ht.2.1, ht.2.2.1, ht.2.2.2⟩ (by omega)))
   clear hr1 hr hg ht
   go_wp2
   go_roundw
   case rel => exact ⟨k + 1, _, by omega, by go_num, hrs, hgs, eX⟩
   case measure => simp [intOf]; omega
  ·obtain rfl : k = n := by omega
   go_wp2
   go_ret
   exact ⟨_, rfl, ⟨G, by rw [← HN.out]; exact RowF.own hr.out (by omega) (Nat.le_refl _), by rw [← HN.out]; exact fun i hi => (hg.out i hi).mono (by omega)⟩, hbw⟩
set_option maxHeartbeats 1000000 in
theorem eqWire_same (f g : Nat → Value) (p : WireD) (w : World) (h : WireF w w.heap.size f p) (h' : WireF w w.heap.size g p) : Calls Tryz.prog 76 #[.agg #[f 0, f 1, f 2, f 3], .agg #[g 0, g 1, g 2, g 3]] w fun e w' => e = .returned (.bool true) ∧ Below w.heap.size w w' := by
 obtain ⟨x0, x1, x2, x3⟩ := h
 obtain ⟨z0, z1, z2, z3⟩ := h'
 obtain ⟨p0, q0, e0⟩ := x0.slice; obtain ⟨r0, s0, g0⟩ := z0.slice; obtain ⟨p1, q1, e1⟩ := x1.slice; obtain ⟨r1, s1, g1⟩ := z1.slice; obtain ⟨p2, q2, e2⟩ := x2.slice; obtain ⟨r2, s2, g2⟩ := z2.slice; obtain ⟨p3, q3, e3⟩ := x3.slice; obtain ⟨r3, s3, g3⟩ := z3.slice
 rw [e0] at x0; rw [g0] at z0; rw [e1] at x1; rw [g1] at z1; rw [e2] at x2; rw [g2] at z2; rw [e3] at x3; rw [g3] at z3
 rw [e0, g0, e1, g1, e2, g2, e3, g3]
 have X0 := lh x0; have Z0 := lh z0; have X1 := lh x1; have Z1 := lh z1; have X2 := lh x2; have Z2 := lh z2; have X3 := lh x3; have Z3 := lh z3
 clear e0 g0 e1 g1 e2 g2 e3 g3 x0 z0 x1 z1 x2 z2 x3 z3
 go_enter Tryz.func76, Tryz.ntmps76
 go_wp2_with (first | (go_at_call 14; refine (eqInt64S_same _ _ _ _ (by first | exact X0.out.up eX | exact X1.out.up eX | exact X2.out.up eX | exact X3.out.up eX ) (by first | exact Z0.out.up eX | exact Z1.out.up eX | exact Z2.out.up eX | exact Z3.out.up eX )).mono ?_; rintro e w1 ⟨rfl, hb⟩; have ⟨hc, hf⟩ := bcell hb; have hz := hb.size; (try simp at hz); (try have hz := Nat.lt_of_succ_le hz); (try have y0 := wy w w1); (try have z0 := wz0 w w1); (try have z1 := wz1 w w1); (try have z2 := wz2 w w1); (try have z3 := wz3 w w1); (try have z4 := wz4 w w1); (try have x0 := wz0 wc w1); (try have x1 := wy wc w1)))
 go_ret
 exact ⟨rfl, eX⟩
set_option maxHeartbeats 1000000 in
theorem eqWires_same (v u : Value) (ts : List WireD) (w : World) (h : WiresS w w.heap.size v ts) (h' : WiresS w w.heap.size u ts) : Calls Tryz.prog 41 #[v, u] w fun e w' => e = .returned (.bool true) ∧ Below w.heap.size w w' := by
 obtain ⟨F, hc, hf⟩ := h
 obtain ⟨G, hc', hf'⟩ := h'
 obtain ⟨n, hnn⟩ : ∃ n, n = ts.length := ⟨_, rfl⟩
 rw [← hnn] at hc hf hc' hf'
 have HC := hc; have HC' := hc'
 obtain ⟨hn, a, cap, rfl, _⟩ := hc
 obtain ⟨_, a', cap', rfl, _⟩ := hc'
 have HC := lh HC; have HF := lh hf; have HC' := lh HC'; have HF' := lh hf'
 clear hf hf' hnn
 go_enter Tryz.func41, Tryz.ntmps41
 go_wp2
 go_loopw [5] (fun i wr => ∃ k : Nat, k ≤ n ∧ i = .int .i64 k ∧ Below w.heap.size w wr) (fun i _ => n - (intOf i).toNat)
 case atStart => exact ⟨0, by omega, rfl, eX⟩
 case round =>
  obtain ⟨k, hk, rfl, hbw⟩ := hrel
  by_cases hkn : k < n
  ·obtain ⟨b, off, rfl, hlt, hx⟩ := HC.out.at hbw hkn
   obtain ⟨b', off', rfl, hlt', hx'⟩ := HC'.out.at hbw hkn
   have y0 := hx 0 (by omega)
   have z0 := hx' 0 (by omega)
   have y1 := hx 1 (by omega)
   have z1 := hx' 1 (by omega)
   have y2 := hx 2 (by omega)
   have z2 := hx' 2 (by omega)
   have y3 := hx 3 (by omega)
   have z3 := hx' 3 (by omega)
   simp only [Nat.add_zero] at y0 z0
   have i0 : (0 : Int) ≤ (k : Int) := by omega
   have i1 : (k : Int) < (n : Int) := by omega
   have hbs : b < wr.heap.size := by have := hbw.size; omega
   clear hx hx'
   go_wp2
   go_region_held3 (fun w' => w'.cell? ⟨b, off + k * 4, none⟩ = some (F k 0) ∧ w'.cell? ⟨b, off + k * 4 + 1, none⟩ = some (F k 1) ∧ w'.cell? ⟨b, off + k * 4 + 2, none⟩ = some (F k 2) ∧ w'.cell? ⟨b, off + k * 4 + 3, none⟩ = some (F k 3) ∧ w'.cell? ⟨b', off' + k * 4, none⟩ = some (G k 0) ∧ w'.cell? ⟨b', off' + k * 4 + 1, none⟩ = some (G k 1) ∧ w'.cell? ⟨b', off' + k * 4 + 2, none⟩ = some (G k 2) ∧ w'.cell? ⟨b', off' + k * 4 + 3, none⟩ = some (G k 3) ∧ Below w.heap.size w w' ∧ b < w'.heap.size) (first | exact (Hid.out (by assumption)) | exact keep8 (Hid.out (by assumption)) ((Below.refl _ _).alloc (Nat.le_refl _) _) | exact keep8s (keep8s (Hid.out (by assumption))) | exact keep8s (Hid.out (by assumption)) | ((repeat' apply And.intro) <;> first | assumption | ((exact eX); done) | (simp [go_sem]; done) | (simp [go_sem, *]; done) | (simp; omega) | omega)) (first | ((go_at_call 76; refine (eqWire_same (F k) (G k) _ _ ((HF.out k hkn).up eX) ((HF'.out k hkn).up eX)).mono ?_; rintro e w1 ⟨rfl, hb⟩; have ⟨hc, hf⟩ := bcell hb; have hz := hb.size; (try simp at hz); (try have hz := Nat.lt_of_succ_le hz); (try have y0 := wy w w1); (try have z0 := wz0 w w1); (try have z1 := wz1 w w1); (try have z2 := wz2 w w1); (try have z3 := wz3 w w1); (try have z4 := wz4 w w1); (try have x0 := wz0 wc w1); (try have x1 := wy wc w1)); have hS := lh (keep8 (by assumption) hb); have zL := (Hid.out hS).2.2.2.2.2.2.2.2.2))
   all_goals
    go_wp2_with fail
    go_roundw
    case rel => exact ⟨k + 1, by omega, by go_num, eX⟩
    case measure => simp [intOf]; omega
  ·obtain rfl : k = n := by omega
   go_wp2
   go_ret
   exact ⟨rfl, hbw⟩
end Go.Proofs.YtkpfbnffhhmokaaGreat
