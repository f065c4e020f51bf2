/-
The laws' own copies of pins, tables, arcs, cells and libraries: the same data, in memory of its own.
-/
import Derived.Test.YtkpfbnffhhmokaaGreatCellZ
namespace Go.Proofs.YtkpfbnffhhmokaaGreat
open Go.ChangeShapes Go.WideShapes Go.ChangeAt Go.RowKit
set_option linter.unusedVariables false
def vec (vs : List Value) (j : Nat) : Value := vs.getD j (.bool false)
theorem rows_more {Q : World → (Nat → Value) → Nat → Prop} {L g k o : Nat} {w1 : World} {G : Nat → Nat → Value} {vs : List Value} (hQ : ∀ w w' f j, Q w f j → Kept L w w' → Q w' f j) (hg : g < L)
  (h : ∀ j, j < k → Q w1 (G j) j) (hk : Q w1 (vec vs) k) : ∀ j, j < k + 1 → Q (stores w1 g o vs) (upd G k vs j) j := by
 intro j hj
 rcases Nat.lt_or_ge j k with e | e
 ·have e' : upd G k vs j = G j := by funext i; simp [upd, show ¬ j = k by omega]
  rw [e']
  exact hQ _ _ _ _ (h j e) (Kept.stores hg _ _ _)
 ·obtain rfl : j = k := by omega
  have e' : upd G j vs j = vec vs := by funext i; simp [upd, vec]
  rw [e']
  exact hQ _ _ _ _ hk (Kept.stores hg _ _ _)
theorem OwnTabs.slice {w : World} {L : Nat} {v : Value} {ts : List TabD} (h : OwnTabs w L v ts) : ∃ p q, v = .slice p ts.length q := by
 obtain ⟨F, ⟨_, a, cap, rfl, _⟩, _⟩ := h
 exact ⟨_, _, rfl⟩
theorem OwnPins.slice {w : World} {L : Nat} {v : Value} {ts : List PinD} (h : OwnPins w L v ts) : ∃ p q, v = .slice p ts.length q := by
 obtain ⟨F, ⟨_, a, cap, rfl, _⟩, _⟩ := h
 exact ⟨_, _, rfl⟩
theorem OwnArcs.slice {w : World} {L : Nat} {v : Value} {ts : List ArcD} (h : OwnArcs w L v ts) : ∃ p q, v = .slice p ts.length q := by
 obtain ⟨F, ⟨_, a, cap, rfl, _⟩, _⟩ := h
 exact ⟨_, _, rfl⟩
theorem OwnS.slice {w : World} {L : Nat} {v : Value} {ts : List Int} (h : OwnS w L v ts) : ∃ p q, v = .slice p ts.length q := by
 obtain ⟨_, a, cap, rfl, _⟩ := h
 exact ⟨_, _, rfl⟩
theorem toPin_any (f : Nat → Value) (p : PinD) (w : World) (h : PinF f p) : Calls Tryz.prog 162 #[.agg #[f 0, f 1, f 2, f 3]] w fun e w' => e = .returned (.agg #[.string p.name, .int .i64 p.dir, .int .i64 p.cap, .bool p.clock]) ∧ Below w.heap.size w w' := by
 obtain ⟨e0, e1, e2, e3, hs⟩ := h
 rw [e0, e1, e2, e3]
 clear e0 e1 e2 e3
 go_enter Tryz.func162, Tryz.ntmps162
 go_wp2
 exact bodyPost_ret (v := .agg #[.string p.name, .int .i64 p.dir, .int .i64 p.cap, .bool p.clock]) (by simp [results, Tryz.results162, go_sem, *]) rfl ⟨rfl, eX⟩
theorem Tryz.infoPin : (Tryz.prog.info? 211).map (fun i => (i.zero, i.size, i.bytes)) = some (some (.agg #[.string .empty, .int .i64 0, .int .i64 0, .bool false]), 4, 40) := by kernel_rfl
def ToPins (ps : List PinD) (w : World) (e : Ending) (w' : World) : Prop := ∃ v : Value, e = .returned v ∧ OwnPins w' w.heap.size v ps ∧ Below w.heap.size w w'
theorem toPins_any (v : Value) (ps : List PinD) (w : World) (h : PinsS w w.heap.size v ps) (hm : PinsSm ps) : Calls Tryz.prog 128 #[v] w (ToPins ps w) := by
 obtain ⟨i0, hi, hz0, hz1, hz2⟩ := info_parts Tryz.infoPin
 obtain ⟨F, hc, hf⟩ := h
 unfold PinsSm at hm
 obtain ⟨n, hnn⟩ : ∃ n, n = ps.length := ⟨_, rfl⟩
 have HN := lh hnn
 rw [← hnn] at hc hf hm
 have HC := hc
 obtain ⟨hn, a, cap, rfl, _⟩ := hc
 have HC := lh HC; have HF := lh hf
 clear hf hnn
 go_enter Tryz.func128, Tryz.ntmps128
 go_wp2_with (at_make; refine wpList_make_full _ rfl _ _ 121 rfl w.heap.size 211 i0 (.agg #[.string .empty, .int .i64 0, .int .i64 0, .bool false]) 4 Tryz.underlying121 hi hz0 hz1 .i64 .i64 _ _ n rfl rfl rfl rfl (by rw [hz2]; omega) (by unfold maxLen; omega) (Nat.le_refl _) ?_; intro w0 hown0 hgrow0; have hb0 := below_grown hgrow0; clear hgrow0)
 have hr0 : 0 < n → RowF w0 w.heap.size n 4 0 (fun _ _ => .bool false) := fun hp => (RowF.made hown0 (by omega)).resolve_right (by omega)
 clear hown0
 go_loopw [4] (fun i wr => ∃ (k : Nat) (G : Nat → Nat → Value), k ≤ n ∧ i = .int .i64 k ∧ Hid (0 < n → RowF wr w.heap.size n 4 k G) ∧ Hid (∀ j, j < k → PinF (G j) (pn ps j)) ∧ Below w.heap.size w wr) (fun i _ => n - (intOf i).toNat)
 case atStart => exact ⟨0, _, by omega, rfl, lh hr0, lh (fun j hj => absurd hj (Nat.not_lt_zero j)), hb0⟩
 case round =>
  obtain ⟨k, G, hk, rfl, hr, hg, hbw⟩ := hrel
  by_cases hkn : k < n
  ·obtain ⟨b, off, rfl, hlt, hx⟩ := HC.out.at hbw hkn
   have y0 := hx 0 (by omega); have y1 := hx 1 (by omega); have y2 := hx 2 (by omega); have y3 := hx 3 (by omega)
   simp only [Nat.add_zero] at y0
   clear hx hr0 hb0
   go_wp2_with fail
   go_at_call 162
   refine (toPin_any (F k) _ _ (HF.out k hkn)).mono ?_
   rintro e w1 ⟨rfl, hb⟩
   have hr1 := (hr.out (by omega)).below hb
   obtain ⟨v0, e0⟩ := (hr1.2.1 (k * 4) (by omega)).2
   obtain ⟨v1, e1⟩ := (hr1.2.1 (k * 4 + 1) (by omega)).2
   obtain ⟨v2, e2⟩ := (hr1.2.1 (k * 4 + 2) (by omega)).2
   obtain ⟨v3, e3⟩ := (hr1.2.1 (k * 4 + 3) (by omega)).2
   have f0 := (hr1.2.1 (k * 4) (by omega)).1
   have f1 := (hr1.2.1 (k * 4 + 1) (by omega)).1
   have f2 := (hr1.2.1 (k * 4 + 2) (by omega)).1
   have f3 := (hr1.2.1 (k * 4 + 3) (by omega)).1
   have hrs := lh (fun (_ : 0 < n) => hr1.store (vs := [.string (pn ps k).name, .int .i64 (pn ps k).dir, .int .i64 (pn ps k).cap, .bool (pn ps k).clock]) hkn rfl)
   have hgs := lh (rows_more (Q := fun _ f j => PinF f (pn ps j)) (L := w.heap.size + 1) (w1 := w1) (g := w.heap.size) (o := k * 4) (fun _ _ _ _ h _ => h) (by omega) hg.out (show PinF (vec [.string (pn ps k).name, .int .i64 (pn ps k).dir, .int .i64 (pn ps k).cap, .bool (pn ps k).clock]) _ from ⟨rfl, rfl, rfl, rfl, (HF.out k hkn).2.2.2.2⟩))
   clear hr1 hr hg
   go_wp2
   go_roundw
   case rel => exact ⟨k + 1, _, by omega, by go_num, hrs, hgs, eX⟩
   case measure => simp [intOf]; omega
  ·obtain rfl : k = n := by omega
   go_wp2
   go_ret
   exact ⟨_, rfl, ⟨G, by rw [← HN.out]; exact RowF.own hr.out (by omega) (Nat.le_refl _), by rw [← HN.out]; exact hg.out⟩, hbw⟩
theorem Tryz.infoTable : (Tryz.prog.info? 240).map (fun i => (i.zero, i.size, i.bytes)) = some (some (.agg #[.slice none 0 0, .slice none 0 0, .slice none 0 0]), 3, 72) := by kernel_rfl
def ToTabs (ts : List TabD) (w : World) (e : Ending) (w' : World) : Prop := ∃ v : Value, e = .returned v ∧ OwnTabs w' w.heap.size v ts ∧ Below w.heap.size w w'
theorem toTabs_any (v : Value) (ts : List TabD) (w : World) (h : TabsS w w.heap.size v ts) (hm : TabsSm ts) : Calls Tryz.prog 190 #[v] w (ToTabs ts w) := by
 obtain ⟨i0, hi, hz0, hz1, hz2⟩ := info_parts Tryz.infoTable
 obtain ⟨F, hc, hf⟩ := h
 obtain ⟨hm, hms⟩ := hm
 obtain ⟨n, hnn⟩ : ∃ n, n = ts.length := ⟨_, rfl⟩
 have HN := lh hnn
 rw [← hnn] at hc hf hm hms
 have HC := hc
 obtain ⟨hn, a, cap, rfl, _⟩ := hc
 have HC := lh HC; have HF := lh hf; have HM := lh hms
 clear hf hnn hms
 go_enter Tryz.func190, Tryz.ntmps190
 go_wp2_with (at_make; refine wpList_make_full _ rfl _ _ 127 rfl w.heap.size 240 i0 (.agg #[.slice none 0 0, .slice none 0 0, .slice none 0 0]) 3 Tryz.underlying127 hi hz0 hz1 .i64 .i64 _ _ n rfl rfl rfl rfl (by rw [hz2]; omega) (by unfold maxLen; omega) (Nat.le_refl _) ?_; intro w0 hown0 hgrow0; have hb0 := below_grown hgrow0; clear hgrow0)
 have hr0 : 0 < n → RowF w0 w.heap.size n 3 0 (fun _ _ => .bool false) := fun hp => (RowF.made hown0 (by omega)).resolve_right (by omega)
 clear hown0
 go_loopw [4] (fun i wr => ∃ (k : Nat) (G : Nat → Nat → Value), k ≤ n ∧ i = .int .i64 k ∧ Hid (0 < n → RowF wr w.heap.size n 3 k G) ∧ Hid (∀ j, j < k → OwnTab wr (w.heap.size + 1) (G j) (tn ts j)) ∧ Below w.heap.size w wr) (fun i _ => n - (intOf i).toNat)
 case atStart => exact ⟨0, _, by omega, rfl, lh hr0, lh (fun j hj => absurd hj (Nat.not_lt_zero j)), hb0⟩
 case round =>
  obtain ⟨k, G, hk, rfl, hr, hg, hbw⟩ := hrel
  by_cases hkn : k < n
  ·obtain ⟨b, off, rfl, hlt, hx⟩ := HC.out.at hbw hkn
   have y0 := hx 0 (by omega); have y1 := hx 1 (by omega); have y2 := hx 2 (by omega)
   simp only [Nat.add_zero] at y0
   clear hx hr0 hb0
   go_wp2_with fail
   go_at_call 211
   refine (toTable_any _ _ _ _ _ _ _ ((HF.out k hkn).up hbw).1 ((HF.out k hkn).up hbw).2.1 ((HF.out k hkn).up hbw).2.2 (HM.out k hkn)).mono ?_
   rintro e w1 ⟨u0, u1, u2, rfl, ht, hb⟩
   obtain ⟨p0, q0, rfl⟩ := ht.1.slice; obtain ⟨p1, q1, rfl⟩ := ht.2.1.slice; obtain ⟨p2, q2, rfl⟩ := ht.2.2.1.slice
   have hl0 := (hr.out (by omega)).1
   have hr1 := (hr.out (by omega)).below hb
   obtain ⟨v0, e0⟩ := (hr1.2.1 (k * 3) (by omega)).2
   obtain ⟨v1, e1⟩ := (hr1.2.1 (k * 3 + 1) (by omega)).2
   obtain ⟨v2, e2⟩ := (hr1.2.1 (k * 3 + 2) (by omega)).2
   have f0 := (hr1.2.1 (k * 3) (by omega)).1
   have f1 := (hr1.2.1 (k * 3 + 1) (by omega)).1
   have f2 := (hr1.2.1 (k * 3 + 2) (by omega)).1
   have hrs := lh (fun (_ : 0 < n) => hr1.store (vs := [.slice p0 (tn ts k).ss.length q0, .slice p1 (tn ts k).ls.length q1, .slice p2 (tn ts k).vs.length q2]) hkn rfl)
   have hgs := lh (rows_more (Q := fun w' f j => OwnTab w' (w.heap.size + 1) f (tn ts j)) (L := w.heap.size + 1) (w1 := w1) (g := w.heap.size) (o := k * 3) (fun _ _ _ _ h k => h.kept k) (by omega) (fun j hj => (hg.out j hj).kept (Kept.below hb))
    (show OwnTab w1 (w.heap.size + 1) (vec [.slice p0 (tn ts k).ss.length q0, .slice p1 (tn ts k).ls.length q1, .slice p2 (tn ts k).vs.length q2]) _ from OwnTab.mono (L := wr.heap.size) ⟨ht.1, ht.2.1, ht.2.2.1⟩ (by omega)))
   clear hr1 hr hg ht
   go_wp2
   go_roundw
   case rel => exact ⟨k + 1, _, by omega, by go_num, hrs, hgs, eX⟩
   case measure => simp [intOf]; omega
  ·obtain rfl : k = n := by omega
   go_wp2
   go_ret
   exact ⟨_, rfl, ⟨G, by rw [← HN.out]; exact RowF.own hr.out (by omega) (Nat.le_refl _), by rw [← HN.out]; exact fun i hi => (hg.out i hi).mono (by omega)⟩, hbw⟩
def ToArc (a : ArcD) (w : World) (e : Ending) (w' : World) : Prop := ∃ u4 u5 : Value, e = .returned (.agg #[.int .i64 a.kind, .int .i64 a.src, .int .i64 a.dst, .int .i64 a.sense, u4, u5]) ∧ (OwnTabs w' w.heap.size u4 a.delay ∧ OwnTabs w' w.heap.size u5 a.slew) ∧ Below w.heap.size w w'
set_option maxHeartbeats 1000000 in
theorem toArc_any (f : Nat → Value) (a : ArcD) (w : World) (h : ArcF w w.heap.size f a) (hm : ArcSm a) : Calls Tryz.prog 163 #[.agg #[f 0, f 1, f 2, f 3, f 4, f 5]] w (ToArc a w) := by
 obtain ⟨e0, e1, e2, e3, x4, x5⟩ := h
 rw [e0, e1, e2, e3]
 obtain ⟨v4, v5, e4, e5⟩ : ∃ v4 v5, f 4 = v4 ∧ f 5 = v5 := ⟨_, _, rfl, rfl⟩
 rw [e4] at x4; rw [e5] at x5
 rw [e4, e5]
 have H4 := lh x4; have H5 := lh x5; have HM := lh hm
 clear x4 x5 e0 e1 e2 e3 e4 e5 hm
 go_enter Tryz.func163, Tryz.ntmps163
 go_wp2_with fail
 (go_at_call 190; refine (toTabs_any v4 _ _ (H4.out.up eX) HM.out.1).mono ?_; rintro e w1 ⟨u4, rfl, hu4, hb⟩; have ⟨hc, hf⟩ := bcell hb; have hz := hb.size; (try simp at hz); (try have hz := Nat.lt_of_succ_le hz); (try have y0 := wy w w1); (try have z0 := wz0 w w1); (try have z1 := wz1 w w1); (try have z2 := wz2 w w1); (try have z3 := wz3 w w1); (try have z4 := wz4 w w1))
 have hb1 := hb
 have U4 := lh hu4
 obtain ⟨p4, q4, rfl⟩ := hu4.slice
 clear hu4
 go_wp2_with fail
 (go_at_call 190; refine (toTabs_any v5 _ _ (H5.out.up eX) HM.out.2).mono ?_; rintro e w2 ⟨u5, rfl, hu5, hb⟩; have ⟨hc, hf⟩ := bcell hb; have hz := hb.size; (try simp at hz); (try have hz := Nat.lt_of_succ_le hz); (try have y0 := wy w w2); (try have z0 := wz0 w w2); (try have z1 := wz1 w w2); (try have z2 := wz2 w w2); (try have z3 := wz3 w w2); (try have z4 := wz4 w w2))
 have hb2 := hb
 have U5 := lh hu5
 obtain ⟨p5, q5, rfl⟩ := hu5.slice
 clear hu5
 go_wp2_with fail
 have q4' := U4.out.mono (M := w.heap.size + 1 + 1 + 1) (by simp)
 have q5' := U5.out.mono (M := w.heap.size + 1 + 1 + 1) (by simp [World.setCell]; omega)
 exact bodyPost_ret (v := .agg #[.int .i64 a.kind, .int .i64 a.src, .int .i64 a.dst, .int .i64 a.sense, .slice p4 a.delay.length q4, .slice p5 a.slew.length q5]) (by simp [results, Tryz.results163, go_sem, *]) rfl
  ⟨_, _, rfl, ⟨OwnTabs.mono (L := w.heap.size + 1 + 1 + 1) (q4'.kept (by (repeat (first | (with_reducible exact Kept.refl _ _) | (with_reducible assumption) | (with_reducible refine Kept.alloc ?_ _) | (with_reducible refine Kept.drew ?_) | (with_reducible refine Kept.drewN ?_ _) | (with_reducible refine Kept.set ?_ (by first | omega | (simp; omega) | simp) _) | (with_reducible refine Kept.call ?_ (by assumption)))))) (by omega), OwnTabs.mono (L := w.heap.size + 1 + 1 + 1) (q5'.kept (by (repeat (first | (with_reducible exact Kept.refl _ _) | (with_reducible assumption) | (with_reducible refine Kept.alloc ?_ _) | (with_reducible refine Kept.drew ?_) | (with_reducible refine Kept.drewN ?_ _) | (with_reducible refine Kept.set ?_ (by first | omega | (simp; omega) | simp) _) | (with_reducible refine Kept.call ?_ (by assumption)))))) (by omega)⟩, eX⟩
theorem Tryz.infoArc : (Tryz.prog.info? 129).map (fun i => (i.zero, i.size, i.bytes)) = some (some (.agg #[.int .i64 0, .int .i64 0, .int .i64 0, .int .i64 0, .slice none 0 0, .slice none 0 0]), 6, 80) := by kernel_rfl
def ToArcs (ts : List ArcD) (w : World) (e : Ending) (w' : World) : Prop := ∃ v : Value, e = .returned v ∧ OwnArcs w' w.heap.size v ts ∧ Below w.heap.size w w'
set_option maxHeartbeats 1000000 in
theorem toArcs_any (v : Value) (ts : List ArcD) (w : World) (h : ArcsS w w.heap.size v ts) (hm : ArcsSm ts) : Calls Tryz.prog 129 #[v] w (ToArcs ts w) := by
 obtain ⟨i0, hi, hz0, hz1, hz2⟩ := info_parts Tryz.infoArc
 obtain ⟨F, hc, hf⟩ := h
 obtain ⟨hm, hms⟩ := hm
 obtain ⟨n, hnn⟩ : ∃ n, n = ts.length := ⟨_, rfl⟩
 have HN := lh hnn
 rw [← hnn] at hc hf hm hms
 have HC := hc
 obtain ⟨hn, a, cap, rfl, _⟩ := hc
 have HC := lh HC; have HF := lh hf; have HM := lh hms
 clear hf hnn hms
 go_enter Tryz.func129, Tryz.ntmps129
 go_wp2_with (at_make; refine wpList_make_full _ rfl _ _ 122 rfl w.heap.size 129 i0 (.agg #[.int .i64 0, .int .i64 0, .int .i64 0, .int .i64 0, .slice none 0 0, .slice none 0 0]) 6 Tryz.underlying122 hi hz0 hz1 .i64 .i64 _ _ n rfl rfl rfl rfl (by rw [hz2]; omega) (by unfold maxLen; omega) (Nat.le_refl _) ?_; intro w0 hown0 hgrow0; have hb0 := below_grown hgrow0; clear hgrow0)
 have hr0 : 0 < n → RowF w0 w.heap.size n 6 0 (fun _ _ => .bool false) := fun hp => (RowF.made hown0 (by omega)).resolve_right (by omega)
 clear hown0
 go_loopw [4] (fun i wr => ∃ (k : Nat) (G : Nat → Nat → Value), k ≤ n ∧ i = .int .i64 k ∧ Hid (0 < n → RowF wr w.heap.size n 6 k G) ∧ Hid (∀ j, j < k → OwnArc wr (w.heap.size + 1) (G j) (an ts j)) ∧ Below w.heap.size w wr) (fun i _ => n - (intOf i).toNat)
 case atStart => exact ⟨0, _, by omega, rfl, lh hr0, lh (fun j hj => absurd hj (Nat.not_lt_zero j)), hb0⟩
 case round =>
  obtain ⟨k, G, hk, rfl, hr, hg, hbw⟩ := hrel
  by_cases hkn : k < n
  ·obtain ⟨b, off, rfl, hlt, hx⟩ := HC.out.at hbw hkn
   have y0 := hx 0 (by omega); have y1 := hx 1 (by omega); have y2 := hx 2 (by omega); have y3 := hx 3 (by omega); have y4 := hx 4 (by omega); have y5 := hx 5 (by omega)
   simp only [Nat.add_zero] at y0
   clear hx hr0 hb0
   go_wp2_with fail
   go_at_call 163
   refine (toArc_any (F k) _ _ ((HF.out k hkn).up hbw) (HM.out k hkn)).mono ?_
   rintro e w1 ⟨u4, u5, rfl, ht, hb⟩
   obtain ⟨p4, q4, rfl⟩ := ht.1.slice; obtain ⟨p5, q5, rfl⟩ := ht.2.slice
   have hl0 := (hr.out (by omega)).1
   have hr1 := (hr.out (by omega)).below hb
   obtain ⟨v0, e0⟩ := (hr1.2.1 (k * 6) (by omega)).2
   obtain ⟨v1, e1⟩ := (hr1.2.1 (k * 6 + 1) (by omega)).2
   obtain ⟨v2, e2⟩ := (hr1.2.1 (k * 6 + 2) (by omega)).2
   obtain ⟨v3, e3⟩ := (hr1.2.1 (k * 6 + 3) (by omega)).2
   obtain ⟨v4, e4⟩ := (hr1.2.1 (k * 6 + 4) (by omega)).2
   obtain ⟨v5, e5⟩ := (hr1.2.1 (k * 6 + 5) (by omega)).2
   have f0 := (hr1.2.1 (k * 6) (by omega)).1
   have f1 := (hr1.2.1 (k * 6 + 1) (by omega)).1
   have f2 := (hr1.2.1 (k * 6 + 2) (by omega)).1
   have f3 := (hr1.2.1 (k * 6 + 3) (by omega)).1
   have f4 := (hr1.2.1 (k * 6 + 4) (by omega)).1
   have f5 := (hr1.2.1 (k * 6 + 5) (by omega)).1
   have hrs := lh (fun (_ : 0 < n) => hr1.store (vs := [.int .i64 (an ts k).kind, .int .i64 (an ts k).src, .int .i64 (an ts k).dst, .int .i64 (an ts k).sense, .slice p4 (an ts k).delay.length q4, .slice p5 (an ts k).slew.length q5]) hkn rfl)
   have hgs := lh (rows_more (Q := fun w' f j => OwnArc w' (w.heap.size + 1) f (an ts j)) (L := w.heap.size + 1) (w1 := w1) (g := w.heap.size) (o := k * 6) (fun _ _ _ _ h k => h.kept k) (by omega) (fun j hj => (hg.out j hj).kept (Kept.below hb))
    (show OwnArc w1 (w.heap.size + 1) (vec [.int .i64 (an ts k).kind, .int .i64 (an ts k).src, .int .i64 (an ts k).dst, .int .i64 (an ts k).sense, .slice p4 (an ts k).delay.length q4, .slice p5 (an ts k).slew.length q5]) _ from OwnArc.mono (L := wr.heap.size) ⟨rfl, rfl, rfl, rfl, ht.1, ht.2⟩ (by omega)))
   clear hr1 hr hg ht
   go_wp2
   go_roundw
   case rel => exact ⟨k + 1, _, by omega, by go_num, hrs, hgs, eX⟩
   case measure => simp [intOf]; omega
  ·obtain rfl : k = n := by omega
   go_wp2
   go_ret
   exact ⟨_, rfl, ⟨G, by rw [← HN.out]; exact RowF.own hr.out (by omega) (Nat.le_refl _), by rw [← HN.out]; exact fun i hi => (hg.out i hi).mono (by omega)⟩, hbw⟩
def ToCell (c : CellD) (w : World) (e : Ending) (w' : World) : Prop := ∃ u2 u3 u4 : Value, e = .returned (.agg #[.string c.name, .int .i64 c.kind, u2, u3, u4, .int .i64 c.leak, .int .i64 c.energy]) ∧ (OwnPins w' w.heap.size u2 c.pins ∧ OwnArcs w' w.heap.size u3 c.arcs ∧ OwnS w' w.heap.size u4 c.truth) ∧ Below w.heap.size w w'
set_option maxHeartbeats 2000000 in
theorem toCell_any (f : Nat → Value) (c : CellD) (w : World) (h : CellF w w.heap.size f c) (hm : CellSm c) : Calls Tryz.prog 103 #[.agg #[f 0, f 1, f 2, f 3, f 4, f 5, f 6]] w (ToCell c w) := by
 obtain ⟨e0, e1, x2, x3, x4, e5, e6, _⟩ := h
 rw [e0, e1, e5, e6]
 obtain ⟨v2, v3, v4, e2, e3, e4⟩ : ∃ v2 v3 v4, f 2 = v2 ∧ f 3 = v3 ∧ f 4 = v4 := ⟨_, _, _, rfl, rfl, rfl⟩
 rw [e2] at x2; rw [e3] at x3; rw [e4] at x4
 rw [e2, e3, e4]
 have H2 := lh x2; have H3 := lh x3; have H4 := lh x4; have HM := lh hm
 clear x2 x3 x4 e0 e1 e2 e3 e4 e5 e6 hm
 go_enter Tryz.func103, Tryz.ntmps103
 go_wp2_with fail
 (go_at_call 128; refine (toPins_any v2 _ _ (H2.out.up eX) HM.out.1).mono ?_; rintro e w1 ⟨u2, rfl, hu2, hb⟩; have ⟨hc, hf⟩ := bcell hb; have hz := hb.size; (try simp at hz); (try have hz := Nat.lt_of_succ_le hz); (try have y0 := wy w w1); (try have z0 := wz0 w w1); (try have z1 := wz1 w w1); (try have z2 := wz2 w w1); (try have z3 := wz3 w w1); (try have z4 := wz4 w w1))
 have hb1 := hb
 have U2 := lh hu2
 obtain ⟨p2, q2, rfl⟩ := hu2.slice
 clear hu2
 go_wp2_with fail
 (go_at_call 129; refine (toArcs_any v3 _ _ (H3.out.up eX) HM.out.2.1).mono ?_; rintro e w2 ⟨u3, rfl, hu3, hb⟩; have ⟨hc, hf⟩ := bcell hb; have hz := hb.size; (try simp at hz); (try have hz := Nat.lt_of_succ_le hz); (try have y0 := wy w w2); (try have z0 := wz0 w w2); (try have z1 := wz1 w w2); (try have z2 := wz2 w w2); (try have z3 := wz3 w w2); (try have z4 := wz4 w w2))
 have hb2 := hb
 have U3 := lh hu3
 obtain ⟨p3, q3, rfl⟩ := hu3.slice
 clear hu3
 go_wp2_with fail
 (go_at_call 12; refine (toInt64S_any v4 _ _ (H4.out.up eX) HM.out.2.2).mono ?_; rintro e w3 ⟨u4, rfl, hu4, hb⟩; have ⟨hc, hf⟩ := bcell hb; have hz := hb.size; (try simp at hz); (try have hz := Nat.lt_of_succ_le hz); (try have y0 := wy w w3); (try have z0 := wz0 w w3); (try have z1 := wz1 w w3); (try have z2 := wz2 w w3); (try have z3 := wz3 w w3); (try have z4 := wz4 w w3))
 have hb3 := hb
 have U4 := lh hu4
 obtain ⟨p4, q4, rfl⟩ := hu4.slice
 clear hu4
 go_wp2_with fail
 have q2' := U2.out.mono (M := w.heap.size + 1 + 1 + 1) (by simp)
 have q3' := U3.out.mono (M := w.heap.size + 1 + 1 + 1) (by simp [World.setCell]; omega)
 have q4' := U4.out.mono (C := w.heap.size + 1 + 1 + 1) (by simp [World.setCell]; omega)
 exact bodyPost_ret (v := .agg #[.string c.name, .int .i64 c.kind, .slice p2 c.pins.length q2, .slice p3 c.arcs.length q3, .slice p4 c.truth.length q4, .int .i64 c.leak, .int .i64 c.energy]) (by simp [results, Tryz.results103, go_sem, *]) rfl
  ⟨_, _, _, rfl, ⟨OwnPins.mono (L := w.heap.size + 1 + 1 + 1) (q2'.kept (by (repeat (first | (with_reducible exact Kept.refl _ _) | (with_reducible assumption) | (with_reducible refine Kept.alloc ?_ _) | (with_reducible refine Kept.drew ?_) | (with_reducible refine Kept.drewN ?_ _) | (with_reducible refine Kept.set ?_ (by first | omega | (simp; omega) | simp) _) | (with_reducible refine Kept.call ?_ (by assumption)))))) (by omega), OwnArcs.mono (L := w.heap.size + 1 + 1 + 1) (q3'.kept (by (repeat (first | (with_reducible exact Kept.refl _ _) | (with_reducible assumption) | (with_reducible refine Kept.alloc ?_ _) | (with_reducible refine Kept.drew ?_) | (with_reducible refine Kept.drewN ?_ _) | (with_reducible refine Kept.set ?_ (by first | omega | (simp; omega) | simp) _) | (with_reducible refine Kept.call ?_ (by assumption)))))) (by omega), OwnS.mono (B := w.heap.size + 1 + 1 + 1) (q4'.kept (by (repeat (first | (with_reducible exact Kept.refl _ _) | (with_reducible assumption) | (with_reducible refine Kept.alloc ?_ _) | (with_reducible refine Kept.drew ?_) | (with_reducible refine Kept.drewN ?_ _) | (with_reducible refine Kept.set ?_ (by first | omega | (simp; omega) | simp) _) | (with_reducible refine Kept.call ?_ (by assumption)))))) (by omega)⟩, eX⟩
end Go.Proofs.YtkpfbnffhhmokaaGreat
