/-
What Instance, Port, Design are in memory; the laws' own sizes, copies and comparisons of them.
-/
import Derived.Test.YtkpfbnffhhmokaaGreatCellE
namespace Go.Proofs.YtkpfbnffhhmokaaGreat
open Go.ChangeShapes Go.WideShapes Go.ChangeAt Go.RowKit Go.Deep
set_option linter.unusedVariables false
set_option linter.unusedSimpArgs false
set_option maxRecDepth 100000
theorem all_next {P : Nat → Prop} {k : Nat} (h : ∀ j, j < k → P j) (hk : P k) : ∀ j, j < k + 1 → P j := fun j hj => by
 rcases Nat.lt_or_ge j k with e | e
 ·exact h j e
 ·obtain rfl : j = k := by omega
  exact hk
/-! Lists of strings. -/
def sn (us : List ByteArray) (i : Nat) : ByteArray := us.getD i .empty
def TxS (w : World) (B : Nat) (v : Value) (us : List ByteArray) : Prop := (∃ F, CellS w B v us.length 1 F ∧ ∀ i, i < us.length → F i 0 = .string (sn us i)) ∧ ∀ i, i < us.length → (sn us i).size ≤ 9223372036854775807
theorem TxS.keep {w w' : World} {B C : Nat} {v : Value} {us : List ByteArray} (h : TxS w B v us) (hb : Below B w w') (hB : B ≤ C) : TxS w' C v us := by
 obtain ⟨⟨F, h0, h1⟩, h2⟩ := h
 exact ⟨⟨F, h0.keep hb hB, h1⟩, h2⟩
theorem TxS.up {w w' : World} {v : Value} {us : List ByteArray} (h : TxS w w.heap.size v us) (hb : Below w.heap.size w w') : TxS w' w'.heap.size v us := h.keep hb hb.size
theorem TxS.len {w : World} {L : Nat} {v : Value} {us : List ByteArray} (h : TxS w L v us) : us.length ≤ 9223372036854775807 := by
 obtain ⟨⟨F, ⟨h0, _⟩, _⟩, _⟩ := h
 exact h0
theorem TxS.slice {w : World} {L : Nat} {v : Value} {us : List ByteArray} (h : TxS w L v us) : ∃ p q, v = .slice p us.length q := by
 obtain ⟨⟨F, ⟨_, a, cap, rfl, _⟩, _⟩, _⟩ := h
 exact ⟨_, _, rfl⟩
/-- One string of a list that stands as it was. -/
theorem TxS.at {w wr : World} {a : Option Addr} {cap k : Nat} {us : List ByteArray} (h : TxS w w.heap.size (.slice a us.length cap) us) (hb : Below w.heap.size w wr) (hk : k < us.length) :
  ∃ b off, a = some ⟨b, off, none⟩ ∧ b < w.heap.size ∧ wr.cell? ⟨b, off + k, none⟩ = some (.string (sn us k)) := by
 obtain ⟨⟨F, hc, hf⟩, _⟩ := h
 obtain ⟨b, off, rfl, hlt, hx⟩ := hc.at hb hk
 have h1 := hx 0 (by omega)
 rw [hf k hk] at h1
 exact ⟨b, off, rfl, hlt, by simpa using h1⟩
def TxSm (us : List ByteArray) : Prop := us.length ≤ 1048576
def OwnTx (w : World) (L : Nat) (v : Value) (us : List ByteArray) : Prop := (∃ F, OwnC w L v us.length 1 F ∧ ∀ i, i < us.length → F i 0 = .string (sn us i)) ∧ ∀ i, i < us.length → (sn us i).size ≤ 9223372036854775807
theorem OwnTx.kept {L : Nat} {w w' : World} {v : Value} {us : List ByteArray} (h : OwnTx w L v us) (k : Kept L w w') : OwnTx w' L v us := by
 obtain ⟨⟨F, h0, h1⟩, h2⟩ := h
 exact ⟨⟨F, h0.kept k, h1⟩, h2⟩
theorem OwnTx.mono {L M : Nat} {w : World} {v : Value} {us : List ByteArray} (h : OwnTx w L v us) (k : M ≤ L) : OwnTx w M v us := by
 obtain ⟨⟨F, h0, h1⟩, h2⟩ := h
 exact ⟨⟨F, h0.mono k, h1⟩, h2⟩
theorem OwnTx.out {L : Nat} {w : World} {v : Value} {us : List ByteArray} (h : OwnTx w L v us) : TxS w w.heap.size v us := by
 obtain ⟨⟨F, h0, h1⟩, h2⟩ := h
 exact ⟨⟨F, h0.cells, h1⟩, h2⟩
theorem OwnTx.slice {w : World} {L : Nat} {v : Value} {us : List ByteArray} (h : OwnTx w L v us) : ∃ p q, v = .slice p us.length q := h.out.slice
theorem Tryz.infoTx : (Tryz.prog.info? 9).map (fun i => (i.zero, i.size, i.bytes)) = some (some (.string .empty), 1, 16) := by kernel_rfl
def ToTx (us : List ByteArray) (w : World) (e : Ending) (w' : World) : Prop := ∃ v : Value, e = .returned v ∧ OwnTx w' w.heap.size v us ∧ Below w.heap.size w w'
theorem toTx_any (v : Value) (us : List ByteArray) (w : World) (h : TxS w w.heap.size v us) (hm : TxSm us) : Calls Tryz.prog 67 #[v] w (ToTx us w) := by
 obtain ⟨i0, hi, hz0, hz1, hz2⟩ := info_parts Tryz.infoTx
 unfold TxSm at hm
 have hn := h.len
 obtain ⟨a, cap, rfl⟩ := h.slice
 have H := lh h
 clear h
 go_enter Tryz.func67, Tryz.ntmps67
 go_wp2_with (at_make; refine wpList_make_full _ rfl _ _ 26 rfl w.heap.size 9 i0 (.string .empty) 1 Tryz.underlying26 hi hz0 hz1 .i64 .i64 _ _ us.length rfl rfl rfl rfl (by rw [hz2]; omega) (by unfold maxLen; omega) (Nat.le_refl _) ?_; intro w0 hown0 hgrow0; have hb0 := below_grown hgrow0; clear hgrow0)
 have hr0 : 0 < us.length → RowF w0 w.heap.size us.length 1 0 (fun _ _ => .bool false) := fun hp => (RowF.made hown0 (by omega)).resolve_right (by omega)
 clear hown0
 go_loopw [4] (fun i wr => ∃ (k : Nat) (G : Nat → Nat → Value), k ≤ us.length ∧ i = .int .i64 k ∧ Hid (0 < us.length → RowF wr w.heap.size us.length 1 k G) ∧ Hid (∀ j, j < k → G j 0 = .string (sn us j)) ∧ Below w.heap.size w wr) (fun i _ => us.length - (intOf i).toNat)
 case atStart => exact ⟨0, _, by omega, rfl, lh hr0, lh (fun j hj => absurd hj (Nat.not_lt_zero j)), hb0⟩
 case round =>
  obtain ⟨k, G, hk, rfl, hr, hg, hbw⟩ := hrel
  by_cases hkn : k < us.length
  ·obtain ⟨b, off, rfl, hlt, y0⟩ := H.out.at hbw hkn
   have hr1 := hr.out (by omega)
   obtain ⟨v0, e0⟩ := (hr1.2.1 (k * 1) (by omega)).2
   have f0 := (hr1.2.1 (k * 1) (by omega)).1
   have hI : (k : Int) < (us.length : Int) := by omega
   have i00 : (0 : Int) ≤ (k : Int) := by omega
   have hrs := lh (fun (_ : 0 < us.length) => hr1.store (vs := [.string (sn us k)]) hkn rfl)
   have hgs := lh (rows_more (Q := fun _ f j => f 0 = .string (sn us j)) (L := w.heap.size + 1) (w1 := wr) (g := w.heap.size) (o := k * 1) (fun _ _ _ _ h _ => h) (by omega) hg.out (show vec [.string (sn us k)] 0 = .string (sn us k) from rfl))
   simp only [Nat.mul_one] at e0 f0 hrs
   simp only [stores] at hrs
   clear hr1 hr hg hr0 hb0
   go_wp2
   go_roundw
   case rel => exact ⟨k + 1, _, by omega, by go_num, hrs, hgs, eX⟩
   case measure => simp [intOf]; omega
  ·obtain rfl : k = us.length := by omega
   go_wp2
   go_ret
   exact ⟨_, rfl, ⟨⟨G, RowF.own hr.out (by omega) (Nat.le_refl _), hg.out⟩, H.out.2⟩, hbw⟩
theorem eqTx_same (v u : Value) (us : List ByteArray) (w : World) (h : TxS w w.heap.size v us) (h' : TxS w w.heap.size u us) : Calls Tryz.prog 74 #[v, u] w fun e w' => e = .returned (.bool true) ∧ Below w.heap.size w w' := by
 have hn := h.len
 obtain ⟨a, cap, rfl⟩ := h.slice
 obtain ⟨a', cap', rfl⟩ := h'.slice
 have H := lh h; have H' := lh h'
 clear h h'
 go_enter Tryz.func74, Tryz.ntmps74
 go_wp2
 go_loopw [5] (fun i wr => ∃ k : Nat, k ≤ us.length ∧ i = .int .i64 k ∧ ∃ m, wr = w.drewN m) (fun i _ => us.length - (intOf i).toNat)
 case atStart => exact ⟨0, by omega, rfl, 0, rfl⟩
 case round =>
  obtain ⟨k, hk, rfl, m, rfl⟩ := hrel
  by_cases hkn : k < us.length
  ·obtain ⟨b, off, rfl, hlt, y0⟩ := H.out.at (Below.refl _ _) hkn
   obtain ⟨b', off', rfl, hlt', y1⟩ := H'.out.at (Below.refl _ _) hkn
   have hI : (k : Int) < (us.length : Int) := by omega
   have i00 : (0 : Int) ≤ (k : Int) := by omega
   go_wp2
   go_quiet (fail)
   go_wp2
   go_roundw
   case rel => exact ⟨k + 1, by omega, by go_num, m + nq, by first | rfl | (simp [World.drewN_drewN]; done) | simp⟩
   case measure => simp [intOf]; omega
  ·obtain rfl : k = us.length := by omega
   go_wp2
   go_ret
   exact ⟨rfl, eX⟩
/-! Instance. -/
structure InstD where
 name : ByteArray
 cell : Int
 nets : List Int
def inn (xs : List InstD) (i : Nat) : InstD := xs.getD i ⟨.empty, 0, []⟩
def InstF (w : World) (B : Nat) (f : Nat → Value) (p : InstD) : Prop := f 0 = .string p.name ∧ f 1 = .int .i64 p.cell ∧ IntS w B (f 2) p.nets ∧ p.name.size ≤ 9223372036854775807
theorem InstF.keep {w w' : World} {B C : Nat} {f : Nat → Value} {p : InstD} (h : InstF w B f p) (hb : Below B w w') (hB : B ≤ C) : InstF w' C f p :=
 ⟨h.1, h.2.1, h.2.2.1.keep hb hB, h.2.2.2⟩
theorem InstF.up {w w' : World} {f : Nat → Value} {p : InstD} (h : InstF w w.heap.size f p) (hb : Below w.heap.size w w') : InstF w' w'.heap.size f p := h.keep hb hb.size
def InstSm (p : InstD) : Prop := p.nets.length ≤ 1048576
def OwnInst (w : World) (L : Nat) (f : Nat → Value) (p : InstD) : Prop := f 0 = .string p.name ∧ f 1 = .int .i64 p.cell ∧ OwnS w L (f 2) p.nets ∧ p.name.size ≤ 9223372036854775807
theorem OwnInst.kept {L : Nat} {w w' : World} {f : Nat → Value} {p : InstD} (h : OwnInst w L f p) (k : Kept L w w') : OwnInst w' L f p :=
 ⟨h.1, h.2.1, h.2.2.1.kept k, h.2.2.2⟩
theorem OwnInst.mono {L M : Nat} {w : World} {f : Nat → Value} {p : InstD} (h : OwnInst w L f p) (k : M ≤ L) : OwnInst w M f p :=
 ⟨h.1, h.2.1, h.2.2.1.mono k, h.2.2.2⟩
theorem OwnInst.out {L : Nat} {w : World} {f : Nat → Value} {p : InstD} (h : OwnInst w L f p) : InstF w w.heap.size f p :=
 ⟨h.1, h.2.1, h.2.2.1.ints, h.2.2.2⟩
def InstsS (w : World) (B : Nat) (v : Value) (ps : List InstD) : Prop := ∃ F, CellS w B v ps.length 3 F ∧ ∀ i, i < ps.length → InstF w B (F i) (inn ps i)
theorem InstsS.keep {w w' : World} {B C : Nat} {v : Value} {ps : List InstD} (h : InstsS w B v ps) (hb : Below B w w') (hB : B ≤ C) : InstsS w' C v ps := by
 obtain ⟨F, h0, h1⟩ := h
 exact ⟨F, h0.keep hb hB, fun i hi => (h1 i hi).keep hb hB⟩
theorem InstsS.up {w w' : World} {v : Value} {ps : List InstD} (h : InstsS w w.heap.size v ps) (hb : Below w.heap.size w w') : InstsS w' w'.heap.size v ps := h.keep hb hb.size
theorem InstsS.slice {w : World} {L : Nat} {v : Value} {ps : List InstD} (h : InstsS w L v ps) : ∃ p q, v = .slice p ps.length q := by
 obtain ⟨F, ⟨_, a, cap, rfl, _⟩, _⟩ := h
 exact ⟨_, _, rfl⟩
def InstsSm (ps : List InstD) : Prop := ps.length ≤ 1048576 ∧ ∀ i, i < ps.length → InstSm (inn ps i)
def OwnInsts (w : World) (L : Nat) (v : Value) (ps : List InstD) : Prop := ∃ F, OwnC w L v ps.length 3 F ∧ ∀ i, i < ps.length → OwnInst w L (F i) (inn ps i)
theorem OwnInsts.kept {L : Nat} {w w' : World} {v : Value} {ps : List InstD} (h : OwnInsts w L v ps) (k : Kept L w w') : OwnInsts w' L v ps := by
 obtain ⟨F, h0, h1⟩ := h
 exact ⟨F, h0.kept k, fun i hi => (h1 i hi).kept k⟩
theorem OwnInsts.mono {L M : Nat} {w : World} {v : Value} {ps : List InstD} (h : OwnInsts w L v ps) (k : M ≤ L) : OwnInsts w M v ps := by
 obtain ⟨F, h0, h1⟩ := h
 exact ⟨F, h0.mono k, fun i hi => (h1 i hi).mono k⟩
theorem OwnInsts.out {L : Nat} {w : World} {v : Value} {ps : List InstD} (h : OwnInsts w L v ps) : InstsS w w.heap.size v ps := by
 obtain ⟨F, h0, h1⟩ := h
 exact ⟨F, h0.cells, fun i hi => (h1 i hi).out⟩
theorem OwnInsts.slice {w : World} {L : Nat} {v : Value} {ps : List InstD} (h : OwnInsts w L v ps) : ∃ p q, v = .slice p ps.length q := h.out.slice
def ToInst (p : InstD) (w : World) (e : Ending) (w' : World) : Prop := ∃ u2 : Value, e = .returned (.agg #[.string p.name, .int .i64 p.cell, u2]) ∧ (OwnS w' w.heap.size u2 p.nets) ∧ Below w.heap.size w w'
set_option maxHeartbeats 2000000 in
theorem toInst_any (f : Nat → Value) (p : InstD) (w : World) (h : InstF w w.heap.size f p) (hm : InstSm p) : Calls Tryz.prog 104 #[.agg #[f 0, f 1, f 2]] w (ToInst p w) := by
 obtain ⟨e0, e1, x2, hs0⟩ := h
 rw [e0, e1]
 obtain ⟨v2, e2⟩ : ∃ v2, f 2 = v2 := ⟨_, rfl⟩
 rw [e2] at x2
 rw [e2]
 have H2 := lh x2
 have HM := lh hm
 clear x2 e0 e1 e2 hm
 go_enter Tryz.func104, Tryz.ntmps104
 go_wp2_with fail
 (go_at_call 12; refine (toInt64S_any v2 _ _ (H2.out.up eX) HM.out).mono ?_; rintro e w2 ⟨u2, rfl, hu2, hb⟩; have ⟨hc, hf⟩ := bcell hb; have hz := hb.size; (try simp at hz); (try have hz := Nat.lt_of_succ_le hz); (try have y0 := wy w w2); (try have z0 := wz0 w w2); (try have z1 := wz1 w w2); (try have z2 := wz2 w w2); (try have z3 := wz3 w w2); (try have z4 := wz4 w w2))
 have hb2 := hb
 have U2 := lh hu2
 obtain ⟨p2, q2, rfl⟩ := hu2.slice
 clear hu2
 go_wp2_with fail
 have q2' := U2.out.mono (C := w.heap.size + 1 + 1 + 1) (by first | (simp; done) | (simp; omega) | (simp [World.setCell]; omega))
 exact bodyPost_ret (v := .agg #[.string p.name, .int .i64 p.cell, .slice p2 p.nets.length q2]) (by simp [results, Tryz.results104, go_sem, *]) rfl
  ⟨_, rfl, OwnS.mono (B := w.heap.size + 1 + 1 + 1) (q2'.kept (by (repeat (first | (with_reducible exact Kept.refl _ _) | (with_reducible assumption) | (with_reducible refine Kept.alloc ?_ _) | (with_reducible refine Kept.drew ?_) | (with_reducible refine Kept.drewN ?_ _) | (with_reducible refine Kept.set ?_ (by first | omega | (simp; omega) | simp) _) | (with_reducible refine Kept.call ?_ (by assumption)))))) (by omega), eX⟩
theorem Tryz.infoInst : (Tryz.prog.info? 126).map (fun i => (i.zero, i.size, i.bytes)) = some (some (.agg #[.string .empty, .int .i64 0, .slice none 0 0]), 3, 48) := by kernel_rfl
def ToInstsS (ts : List InstD) (w : World) (e : Ending) (w' : World) : Prop := ∃ v : Value, e = .returned v ∧ OwnInsts w' w.heap.size v ts ∧ Below w.heap.size w w'
set_option maxHeartbeats 1000000 in
theorem toInsts_any (v : Value) (ts : List InstD) (w : World) (h : InstsS w w.heap.size v ts) (hm : InstsSm ts) : Calls Tryz.prog 66 #[v] w (ToInstsS ts w) := by
 obtain ⟨i0, hi, hz0, hz1, hz2⟩ := info_parts Tryz.infoInst
 obtain ⟨F, hc, hf⟩ := h
 obtain ⟨hm, hms⟩ := hm
 obtain ⟨n, hnn⟩ : ∃ n, n = ts.length := ⟨_, rfl⟩
 have HN := lh hnn
 rw [← hnn] at hc hf hm hms
 have HC := hc
 obtain ⟨hn, a, cap, rfl, _⟩ := hc
 have HC := lh HC; have HF := lh hf; have HM := lh hms
 clear hf hnn hms
 go_enter Tryz.func66, Tryz.ntmps66
 go_wp2_with (at_make; refine wpList_make_full _ rfl _ _ 40 rfl w.heap.size 126 i0 (.agg #[.string .empty, .int .i64 0, .slice none 0 0]) 3 Tryz.underlying40 hi hz0 hz1 .i64 .i64 _ _ n rfl rfl rfl rfl (by rw [hz2]; omega) (by unfold maxLen; omega) (Nat.le_refl _) ?_; intro w0 hown0 hgrow0; have hb0 := below_grown hgrow0; clear hgrow0)
 have hr0 : 0 < n → RowF w0 w.heap.size n 3 0 (fun _ _ => .bool false) := fun hp => (RowF.made hown0 (by omega)).resolve_right (by omega)
 clear hown0
 go_loopw [4] (fun i wr => ∃ (k : Nat) (G : Nat → Nat → Value), k ≤ n ∧ i = .int .i64 k ∧ Hid (0 < n → RowF wr w.heap.size n 3 k G) ∧ Hid (∀ j, j < k → OwnInst wr (w.heap.size + 1) (G j) (inn ts j)) ∧ Below w.heap.size w wr) (fun i _ => n - (intOf i).toNat)
 case atStart => exact ⟨0, _, by omega, rfl, lh hr0, lh (fun j hj => absurd hj (Nat.not_lt_zero j)), hb0⟩
 case round =>
  obtain ⟨k, G, hk, rfl, hr, hg, hbw⟩ := hrel
  by_cases hkn : k < n
  ·obtain ⟨b, off, rfl, hlt, hx⟩ := HC.out.at hbw hkn
   have y0 := hx 0 (by omega); have y1 := hx 1 (by omega); have y2 := hx 2 (by omega)
   simp only [Nat.add_zero] at y0
   clear hx hr0 hb0
   go_wp2_with fail
   go_at_call 104
   refine (toInst_any (F k) _ _ ((HF.out k hkn).up hbw) (HM.out k hkn)).mono ?_
   rintro e w1 ⟨u2, rfl, ht, hb⟩
   obtain ⟨p2, q2, rfl⟩ := ht.slice
   have hl0 := (hr.out (by omega)).1
   have hr1 := (hr.out (by omega)).below hb
   obtain ⟨v0, e0⟩ := (hr1.2.1 (k * 3) (by omega)).2
   have f0 := (hr1.2.1 (k * 3) (by omega)).1
   obtain ⟨v1, e1⟩ := (hr1.2.1 (k * 3 + 1) (by omega)).2
   have f1 := (hr1.2.1 (k * 3 + 1) (by omega)).1
   obtain ⟨v2, e2⟩ := (hr1.2.1 (k * 3 + 2) (by omega)).2
   have f2 := (hr1.2.1 (k * 3 + 2) (by omega)).1
   have hrs := lh (fun (_ : 0 < n) => hr1.store (vs := [.string (inn ts k).name, .int .i64 (inn ts k).cell, .slice p2 (inn ts k).nets.length q2]) hkn rfl)
   have hgs := lh (rows_more (Q := fun w' f j => OwnInst w' (w.heap.size + 1) f (inn ts j)) (L := w.heap.size + 1) (w1 := w1) (g := w.heap.size) (o := k * 3) (fun _ _ _ _ h k => h.kept k) (by omega) (fun j hj => (hg.out j hj).kept (Kept.below hb))
    (show OwnInst w1 (w.heap.size + 1) (vec [.string (inn ts k).name, .int .i64 (inn ts k).cell, .slice p2 (inn ts k).nets.length q2]) _ from OwnInst.mono (L := wr.heap.size) ⟨rfl, rfl, ht, (HF.out k hkn).2.2.2⟩ (by omega)))
   clear hr1 hr hg ht
   go_wp2
   go_roundw
   case rel => exact ⟨k + 1, _, by omega, by go_num, hrs, hgs, eX⟩
   case measure => simp [intOf]; omega
  ·obtain rfl : k = n := by omega
   go_wp2
   go_ret
   exact ⟨_, rfl, ⟨G, by rw [← HN.out]; exact RowF.own hr.out (by omega) (Nat.le_refl _), by rw [← HN.out]; exact fun i hi => (hg.out i hi).mono (by omega)⟩, hbw⟩
set_option maxHeartbeats 1000000 in
theorem eqInst_same (f g : Nat → Value) (p : InstD) (w : World) (h : InstF w w.heap.size f p) (h' : InstF w w.heap.size g p) : Calls Tryz.prog 110 #[.agg #[f 0, f 1, f 2], .agg #[g 0, g 1, g 2]] w fun e w' => e = .returned (.bool true) ∧ Below w.heap.size w w' := by
 obtain ⟨e0, e1, x2, hs0⟩ := h
 obtain ⟨g0, g1, z2, ht0⟩ := h'
 rw [e0, e1, g0, g1]
 obtain ⟨p2, q2, e2⟩ := x2.slice; obtain ⟨r2, s2, g2⟩ := z2.slice
 rw [e2] at x2; rw [g2] at z2
 rw [e2, g2]
 have X2 := lh x2; have Z2 := lh z2
 clear e0 g0 e1 g1 e2 g2 x2 z2
 go_enter Tryz.func110, Tryz.ntmps110
 go_wp2_with (first | (go_at_call 14; refine (eqInt64S_same _ _ _ _ (by first | exact X2.out.up eX ) (by first | exact Z2.out.up eX )).mono ?_; rintro e w1 ⟨rfl, hb⟩; have ⟨hc, hf⟩ := bcell hb; have hz := hb.size; (try simp at hz); (try have hz := Nat.lt_of_succ_le hz); (try have y0 := wy w w1); (try have z0 := wz0 w w1); (try have z1 := wz1 w w1); (try have z2 := wz2 w w1); (try have z3 := wz3 w w1); (try have z4 := wz4 w w1); (try have x0 := wz0 wc w1); (try have x1 := wy wc w1)))
 go_ret
 exact ⟨rfl, eX⟩
set_option maxHeartbeats 1000000 in
theorem eqInsts_same (v u : Value) (ts : List InstD) (w : World) (h : InstsS w w.heap.size v ts) (h' : InstsS w w.heap.size u ts) : Calls Tryz.prog 73 #[v, u] w fun e w' => e = .returned (.bool true) ∧ Below w.heap.size w w' := by
 obtain ⟨F, hc, hf⟩ := h
 obtain ⟨G, hc', hf'⟩ := h'
 obtain ⟨n, hnn⟩ : ∃ n, n = ts.length := ⟨_, rfl⟩
 rw [← hnn] at hc hf hc' hf'
 have HC := hc; have HC' := hc'
 obtain ⟨hn, a, cap, rfl, _⟩ := hc
 obtain ⟨_, a', cap', rfl, _⟩ := hc'
 have HC := lh HC; have HF := lh hf; have HC' := lh HC'; have HF' := lh hf'
 clear hf hf' hnn
 go_enter Tryz.func73, Tryz.ntmps73
 go_wp2
 go_loopw [5] (fun i wr => ∃ k : Nat, k ≤ n ∧ i = .int .i64 k ∧ Below w.heap.size w wr) (fun i _ => n - (intOf i).toNat)
 case atStart => exact ⟨0, by omega, rfl, eX⟩
 case round =>
  obtain ⟨k, hk, rfl, hbw⟩ := hrel
  by_cases hkn : k < n
  ·obtain ⟨b, off, rfl, hlt, hx⟩ := HC.out.at hbw hkn
   obtain ⟨b', off', rfl, hlt', hx'⟩ := HC'.out.at hbw hkn
   have y0 := hx 0 (by omega)
   have z0 := hx' 0 (by omega)
   have y1 := hx 1 (by omega)
   have z1 := hx' 1 (by omega)
   have y2 := hx 2 (by omega)
   have z2 := hx' 2 (by omega)
   simp only [Nat.add_zero] at y0 z0
   have i0 : (0 : Int) ≤ (k : Int) := by omega
   have i1 : (k : Int) < (n : Int) := by omega
   have hbs : b < wr.heap.size := by have := hbw.size; omega
   clear hx hx'
   go_wp2
   go_region_held3 (fun w' => w'.cell? ⟨b, off + k * 3, none⟩ = some (F k 0) ∧ w'.cell? ⟨b, off + k * 3 + 1, none⟩ = some (F k 1) ∧ w'.cell? ⟨b, off + k * 3 + 2, none⟩ = some (F k 2) ∧ w'.cell? ⟨b', off' + k * 3, none⟩ = some (G k 0) ∧ w'.cell? ⟨b', off' + k * 3 + 1, none⟩ = some (G k 1) ∧ w'.cell? ⟨b', off' + k * 3 + 2, none⟩ = some (G k 2) ∧ Below w.heap.size w w' ∧ b < w'.heap.size) (first | exact (Hid.out (by assumption)) | exact keep6 (Hid.out (by assumption)) ((Below.refl _ _).alloc (Nat.le_refl _) _) | exact keep6s (keep6s (Hid.out (by assumption))) | exact keep6s (Hid.out (by assumption)) | ((repeat' apply And.intro) <;> first | assumption | ((exact eX); done) | (simp [go_sem]; done) | (simp [go_sem, *]; done) | (simp; omega) | omega)) (first | ((go_at_call 110; refine (eqInst_same (F k) (G k) _ _ ((HF.out k hkn).up eX) ((HF'.out k hkn).up eX)).mono ?_; rintro e w1 ⟨rfl, hb⟩; have ⟨hc, hf⟩ := bcell hb; have hz := hb.size; (try simp at hz); (try have hz := Nat.lt_of_succ_le hz); (try have y0 := wy w w1); (try have z0 := wz0 w w1); (try have z1 := wz1 w w1); (try have z2 := wz2 w w1); (try have z3 := wz3 w w1); (try have z4 := wz4 w w1); (try have x0 := wz0 wc w1); (try have x1 := wy wc w1)); have hS := lh (keep6 (by assumption) hb); have zL := (Hid.out hS).2.2.2.2.2.2.2))
   all_goals
    go_wp2_with fail
    go_roundw
    case rel => exact ⟨k + 1, by omega, by go_num, eX⟩
    case measure => simp [intOf]; omega
  ·obtain rfl : k = n := by omega
   go_wp2
   go_ret
   exact ⟨rfl, hbw⟩
/-! Port. -/
structure PortD where
 name : ByteArray
 dir : Int
 net : Int
def ptn (xs : List PortD) (i : Nat) : PortD := xs.getD i ⟨.empty, 0, 0⟩
def PortF (f : Nat → Value) (p : PortD) : Prop := f 0 = .string p.name ∧ f 1 = .int .i64 p.dir ∧ f 2 = .int .i64 p.net ∧ p.name.size ≤ 9223372036854775807
def PortsS (w : World) (B : Nat) (v : Value) (ps : List PortD) : Prop := ∃ F, CellS w B v ps.length 3 F ∧ ∀ i, i < ps.length → PortF (F i) (ptn ps i)
theorem PortsS.keep {w w' : World} {B C : Nat} {v : Value} {ps : List PortD} (h : PortsS w B v ps) (hb : Below B w w') (hB : B ≤ C) : PortsS w' C v ps := by
 obtain ⟨F, h0, h1⟩ := h
 exact ⟨F, h0.keep hb hB, h1⟩
theorem PortsS.up {w w' : World} {v : Value} {ps : List PortD} (h : PortsS w w.heap.size v ps) (hb : Below w.heap.size w w') : PortsS w' w'.heap.size v ps := h.keep hb hb.size
theorem PortsS.slice {w : World} {L : Nat} {v : Value} {ps : List PortD} (h : PortsS w L v ps) : ∃ p q, v = .slice p ps.length q := by
 obtain ⟨F, ⟨_, a, cap, rfl, _⟩, _⟩ := h
 exact ⟨_, _, rfl⟩
def PortsSm (ps : List PortD) : Prop := ps.length ≤ 1048576
def OwnPorts (w : World) (L : Nat) (v : Value) (ps : List PortD) : Prop := ∃ F, OwnC w L v ps.length 3 F ∧ ∀ i, i < ps.length → PortF (F i) (ptn ps i)
theorem OwnPorts.kept {L : Nat} {w w' : World} {v : Value} {ps : List PortD} (h : OwnPorts w L v ps) (k : Kept L w w') : OwnPorts w' L v ps := by
 obtain ⟨F, h0, h1⟩ := h
 exact ⟨F, h0.kept k, h1⟩
theorem OwnPorts.mono {L M : Nat} {w : World} {v : Value} {ps : List PortD} (h : OwnPorts w L v ps) (k : M ≤ L) : OwnPorts w M v ps := by
 obtain ⟨F, h0, h1⟩ := h
 exact ⟨F, h0.mono k, h1⟩
theorem OwnPorts.out {L : Nat} {w : World} {v : Value} {ps : List PortD} (h : OwnPorts w L v ps) : PortsS w w.heap.size v ps := by
 obtain ⟨F, h0, h1⟩ := h
 exact ⟨F, h0.cells, h1⟩
theorem OwnPorts.slice {w : World} {L : Nat} {v : Value} {ps : List PortD} (h : OwnPorts w L v ps) : ∃ p q, v = .slice p ps.length q := h.out.slice
theorem toPort_any (f : Nat → Value) (p : PortD) (w : World) (h : PortF f p) : Calls Tryz.prog 105 #[.agg #[f 0, f 1, f 2]] w fun e w' => e = .returned (.agg #[.string p.name, .int .i64 p.dir, .int .i64 p.net]) ∧ Below w.heap.size w w' := by
 obtain ⟨e0, e1, e2, hs0⟩ := h
 rw [e0, e1, e2]
 clear e0 e1 e2
 go_enter Tryz.func105, Tryz.ntmps105
 go_wp2
 exact bodyPost_ret (v := .agg #[.string p.name, .int .i64 p.dir, .int .i64 p.net]) (by simp [results, Tryz.results105, go_sem, *]) rfl ⟨rfl, eX⟩
theorem Tryz.infoPort : (Tryz.prog.info? 163).map (fun i => (i.zero, i.size, i.bytes)) = some (some (.agg #[.string .empty, .int .i64 0, .int .i64 0]), 3, 32) := by kernel_rfl
def ToPortsS (ts : List PortD) (w : World) (e : Ending) (w' : World) : Prop := ∃ v : Value, e = .returned v ∧ OwnPorts w' w.heap.size v ts ∧ Below w.heap.size w w'
set_option maxHeartbeats 1000000 in
theorem toPorts_any (v : Value) (ts : List PortD) (w : World) (h : PortsS w w.heap.size v ts) (hm : PortsSm ts) : Calls Tryz.prog 68 #[v] w (ToPortsS ts w) := by
 obtain ⟨i0, hi, hz0, hz1, hz2⟩ := info_parts Tryz.infoPort
 obtain ⟨F, hc, hf⟩ := h
 unfold PortsSm at hm
 obtain ⟨n, hnn⟩ : ∃ n, n = ts.length := ⟨_, rfl⟩
 have HN := lh hnn
 rw [← hnn] at hc hf hm
 have HC := hc
 obtain ⟨hn, a, cap, rfl, _⟩ := hc
 have HC := lh HC; have HF := lh hf
 clear hf hnn
 go_enter Tryz.func68, Tryz.ntmps68
 go_wp2_with (at_make; refine wpList_make_full _ rfl _ _ 41 rfl w.heap.size 163 i0 (.agg #[.string .empty, .int .i64 0, .int .i64 0]) 3 Tryz.underlying41 hi hz0 hz1 .i64 .i64 _ _ n rfl rfl rfl rfl (by rw [hz2]; omega) (by unfold maxLen; omega) (Nat.le_refl _) ?_; intro w0 hown0 hgrow0; have hb0 := below_grown hgrow0; clear hgrow0)
 have hr0 : 0 < n → RowF w0 w.heap.size n 3 0 (fun _ _ => .bool false) := fun hp => (RowF.made hown0 (by omega)).resolve_right (by omega)
 clear hown0
 go_loopw [4] (fun i wr => ∃ (k : Nat) (G : Nat → Nat → Value), k ≤ n ∧ i = .int .i64 k ∧ Hid (0 < n → RowF wr w.heap.size n 3 k G) ∧ Hid (∀ j, j < k → PortF (G j) (ptn ts j)) ∧ Below w.heap.size w wr) (fun i _ => n - (intOf i).toNat)
 case atStart => exact ⟨0, _, by omega, rfl, lh hr0, lh (fun j hj => absurd hj (Nat.not_lt_zero j)), hb0⟩
 case round =>
  obtain ⟨k, G, hk, rfl, hr, hg, hbw⟩ := hrel
  by_cases hkn : k < n
  ·obtain ⟨b, off, rfl, hlt, hx⟩ := HC.out.at hbw hkn
   have y0 := hx 0 (by omega); have y1 := hx 1 (by omega); have y2 := hx 2 (by omega)
   simp only [Nat.add_zero] at y0
   clear hx hr0 hb0
   go_wp2_with fail
   go_at_call 105
   refine (toPort_any (F k) _ _ (HF.out k hkn)).mono ?_
   rintro e w1 ⟨rfl, hb⟩
   have hr1 := (hr.out (by omega)).below hb
   obtain ⟨v0, e0⟩ := (hr1.2.1 (k * 3) (by omega)).2
   have f0 := (hr1.2.1 (k * 3) (by omega)).1
   obtain ⟨v1, e1⟩ := (hr1.2.1 (k * 3 + 1) (by omega)).2
   have f1 := (hr1.2.1 (k * 3 + 1) (by omega)).1
   obtain ⟨v2, e2⟩ := (hr1.2.1 (k * 3 + 2) (by omega)).2
   have f2 := (hr1.2.1 (k * 3 + 2) (by omega)).1
   have hrs := lh (fun (_ : 0 < n) => hr1.store (vs := [.string (ptn ts k).name, .int .i64 (ptn ts k).dir, .int .i64 (ptn ts k).net]) hkn rfl)
   have hgs := lh (rows_more (Q := fun _ f j => PortF f (ptn ts j)) (L := w.heap.size + 1) (w1 := w1) (g := w.heap.size) (o := k * 3) (fun _ _ _ _ h _ => h) (by omega) hg.out (show PortF (vec [.string (ptn ts k).name, .int .i64 (ptn ts k).dir, .int .i64 (ptn ts k).net]) _ from ⟨rfl, rfl, rfl, (HF.out k hkn).2.2.2⟩))
   clear hr1 hr hg
   go_wp2
   go_roundw
   case rel => exact ⟨k + 1, _, by omega, by go_num, hrs, hgs, eX⟩
   case measure => simp [intOf]; omega
  ·obtain rfl : k = n := by omega
   go_wp2
   go_ret
   exact ⟨_, rfl, ⟨G, by rw [← HN.out]; exact RowF.own hr.out (by omega) (Nat.le_refl _), by rw [← HN.out]; exact hg.out⟩, hbw⟩
set_option maxHeartbeats 1000000 in
theorem eqPort_same (f g : Nat → Value) (p : PortD) (w : World) (h : PortF f p) (h' : PortF g p) : Calls Tryz.prog 111 #[.agg #[f 0, f 1, f 2], .agg #[g 0, g 1, g 2]] w fun e w' => e = .returned (.bool true) ∧ Below w.heap.size w w' := by
 obtain ⟨e0, e1, e2, hs0⟩ := h
 obtain ⟨g0, g1, g2, ht0⟩ := h'
 rw [e0, e1, e2, g0, g1, g2]
 clear e0 g0 e1 g1 e2 g2
 go_enter Tryz.func111, Tryz.ntmps111
 go_wp2
 go_ret
 exact ⟨rfl, eX⟩
set_option maxHeartbeats 1000000 in
theorem eqPorts_same (v u : Value) (ts : List PortD) (w : World) (h : PortsS w w.heap.size v ts) (h' : PortsS w w.heap.size u ts) : Calls Tryz.prog 75 #[v, u] w fun e w' => e = .returned (.bool true) ∧ Below w.heap.size w w' := by
 obtain ⟨F, hc, hf⟩ := h
 obtain ⟨G, hc', hf'⟩ := h'
 obtain ⟨n, hnn⟩ : ∃ n, n = ts.length := ⟨_, rfl⟩
 rw [← hnn] at hc hf hc' hf'
 have HC := hc; have HC' := hc'
 obtain ⟨hn, a, cap, rfl, _⟩ := hc
 obtain ⟨_, a', cap', rfl, _⟩ := hc'
 have HC := lh HC; have HF := lh hf; have HC' := lh HC'; have HF' := lh hf'
 clear hf hf' hnn
 go_enter Tryz.func75, Tryz.ntmps75
 go_wp2
 go_loopw [5] (fun i wr => ∃ k : Nat, k ≤ n ∧ i = .int .i64 k ∧ Below w.heap.size w wr) (fun i _ => n - (intOf i).toNat)
 case atStart => exact ⟨0, by omega, rfl, eX⟩
 case round =>
  obtain ⟨k, hk, rfl, hbw⟩ := hrel
  by_cases hkn : k < n
  ·obtain ⟨b, off, rfl, hlt, hx⟩ := HC.out.at hbw hkn
   obtain ⟨b', off', rfl, hlt', hx'⟩ := HC'.out.at hbw hkn
   have y0 := hx 0 (by omega)
   have z0 := hx' 0 (by omega)
   have y1 := hx 1 (by omega)
   have z1 := hx' 1 (by omega)
   have y2 := hx 2 (by omega)
   have z2 := hx' 2 (by omega)
   simp only [Nat.add_zero] at y0 z0
   have i0 : (0 : Int) ≤ (k : Int) := by omega
   have i1 : (k : Int) < (n : Int) := by omega
   have hbs : b < wr.heap.size := by have := hbw.size; omega
   clear hx hx'
   go_wp2
   go_region_held3 (fun w' => w'.cell? ⟨b, off + k * 3, none⟩ = some (F k 0) ∧ w'.cell? ⟨b, off + k * 3 + 1, none⟩ = some (F k 1) ∧ w'.cell? ⟨b, off + k * 3 + 2, none⟩ = some (F k 2) ∧ w'.cell? ⟨b', off' + k * 3, none⟩ = some (G k 0) ∧ w'.cell? ⟨b', off' + k * 3 + 1, none⟩ = some (G k 1) ∧ w'.cell? ⟨b', off' + k * 3 + 2, none⟩ = some (G k 2) ∧ Below w.heap.size w w' ∧ b < w'.heap.size) (first | exact (Hid.out (by assumption)) | exact keep6 (Hid.out (by assumption)) ((Below.refl _ _).alloc (Nat.le_refl _) _) | exact keep6s (keep6s (Hid.out (by assumption))) | exact keep6s (Hid.out (by assumption)) | ((repeat' apply And.intro) <;> first | assumption | ((exact eX); done) | (simp [go_sem]; done) | (simp [go_sem, *]; done) | (simp; omega) | omega)) (first | ((go_at_call 111; refine (eqPort_same (F k) (G k) _ _ (HF.out k hkn) (HF'.out k hkn)).mono ?_; rintro e w1 ⟨rfl, hb⟩; have ⟨hc, hf⟩ := bcell hb; have hz := hb.size; (try simp at hz); (try have hz := Nat.lt_of_succ_le hz); (try have y0 := wy w w1); (try have z0 := wz0 w w1); (try have z1 := wz1 w w1); (try have z2 := wz2 w w1); (try have z3 := wz3 w w1); (try have z4 := wz4 w w1); (try have x0 := wz0 wc w1); (try have x1 := wy wc w1)); have hS := lh (keep6 (by assumption) hb); have zL := (Hid.out hS).2.2.2.2.2.2.2))
   all_goals
    go_wp2_with fail
    go_roundw
    case rel => exact ⟨k + 1, by omega, by go_num, eX⟩
    case measure => simp [intOf]; omega
  ·obtain rfl : k = n := by omega
   go_wp2
   go_ret
   exact ⟨rfl, hbw⟩
/-! Design. -/
structure DesD where
 insts : List InstD
 nets : List ByteArray
 ports : List PortD
def DesF (w : World) (B : Nat) (f : Nat → Value) (p : DesD) : Prop := InstsS w B (f 0) p.insts ∧ TxS w B (f 1) p.nets ∧ PortsS w B (f 2) p.ports
theorem DesF.keep {w w' : World} {B C : Nat} {f : Nat → Value} {p : DesD} (h : DesF w B f p) (hb : Below B w w') (hB : B ≤ C) : DesF w' C f p :=
 ⟨h.1.keep hb hB, h.2.1.keep hb hB, h.2.2.keep hb hB⟩
theorem DesF.up {w w' : World} {f : Nat → Value} {p : DesD} (h : DesF w w.heap.size f p) (hb : Below w.heap.size w w') : DesF w' w'.heap.size f p := h.keep hb hb.size
def DesSm (p : DesD) : Prop := InstsSm p.insts ∧ TxSm p.nets ∧ PortsSm p.ports
def OwnDes (w : World) (L : Nat) (f : Nat → Value) (p : DesD) : Prop := OwnInsts w L (f 0) p.insts ∧ OwnTx w L (f 1) p.nets ∧ OwnPorts w L (f 2) p.ports
theorem OwnDes.kept {L : Nat} {w w' : World} {f : Nat → Value} {p : DesD} (h : OwnDes w L f p) (k : Kept L w w') : OwnDes w' L f p :=
 ⟨h.1.kept k, h.2.1.kept k, h.2.2.kept k⟩
theorem OwnDes.mono {L M : Nat} {w : World} {f : Nat → Value} {p : DesD} (h : OwnDes w L f p) (k : M ≤ L) : OwnDes w M f p :=
 ⟨h.1.mono k, h.2.1.mono k, h.2.2.mono k⟩
theorem OwnDes.out {L : Nat} {w : World} {f : Nat → Value} {p : DesD} (h : OwnDes w L f p) : DesF w w.heap.size f p :=
 ⟨h.1.out, h.2.1.out, h.2.2.out⟩
def ToDes (p : DesD) (w : World) (e : Ending) (w' : World) : Prop := ∃ u0 u1 u2 : Value, e = .returned (.agg #[u0, u1, u2]) ∧ (OwnInsts w' w.heap.size u0 p.insts ∧ OwnTx w' w.heap.size u1 p.nets ∧ OwnPorts w' w.heap.size u2 p.ports) ∧ Below w.heap.size w w'
set_option maxHeartbeats 2000000 in
theorem toDes_any (f : Nat → Value) (p : DesD) (w : World) (h : DesF w w.heap.size f p) (hm : DesSm p) : Calls Tryz.prog 34 #[.agg #[f 0, f 1, f 2]] w (ToDes p w) := by
 obtain ⟨x0, x1, x2⟩ := h
 obtain ⟨v0, v1, v2, e0, e1, e2⟩ : ∃ v0 v1 v2, f 0 = v0 ∧ f 1 = v1 ∧ f 2 = v2 := ⟨_, _, _, rfl, rfl, rfl⟩
 rw [e0] at x0; rw [e1] at x1; rw [e2] at x2
 rw [e0, e1, e2]
 have H0 := lh x0; have H1 := lh x1; have H2 := lh x2
 have HM := lh hm
 clear x0 x1 x2 e0 e1 e2 hm
 go_enter Tryz.func34, Tryz.ntmps34
 go_wp2_with fail
 (go_at_call 66; refine (toInsts_any v0 _ _ (H0.out.up eX) HM.out.1).mono ?_; rintro e w0 ⟨u0, rfl, hu0, hb⟩; have ⟨hc, hf⟩ := bcell hb; have hz := hb.size; (try simp at hz); (try have hz := Nat.lt_of_succ_le hz); (try have y0 := wy w w0); (try have z0 := wz0 w w0); (try have z1 := wz1 w w0); (try have z2 := wz2 w w0); (try have z3 := wz3 w w0); (try have z4 := wz4 w w0))
 have hb0 := hb
 have U0 := lh hu0
 obtain ⟨p0, q0, rfl⟩ := hu0.slice
 clear hu0
 go_wp2_with fail
 (go_at_call 67; refine (toTx_any v1 _ _ (H1.out.up eX) HM.out.2.1).mono ?_; rintro e w1 ⟨u1, rfl, hu1, hb⟩; have ⟨hc, hf⟩ := bcell hb; have hz := hb.size; (try simp at hz); (try have hz := Nat.lt_of_succ_le hz); (try have y0 := wy w w1); (try have z0 := wz0 w w1); (try have z1 := wz1 w w1); (try have z2 := wz2 w w1); (try have z3 := wz3 w w1); (try have z4 := wz4 w w1))
 have hb1 := hb
 have U1 := lh hu1
 obtain ⟨p1, q1, rfl⟩ := hu1.slice
 clear hu1
 go_wp2_with fail
 (go_at_call 68; refine (toPorts_any v2 _ _ (H2.out.up eX) HM.out.2.2).mono ?_; rintro e w2 ⟨u2, rfl, hu2, hb⟩; have ⟨hc, hf⟩ := bcell hb; have hz := hb.size; (try simp at hz); (try have hz := Nat.lt_of_succ_le hz); (try have y0 := wy w w2); (try have z0 := wz0 w w2); (try have z1 := wz1 w w2); (try have z2 := wz2 w w2); (try have z3 := wz3 w w2); (try have z4 := wz4 w w2))
 have hb2 := hb
 have U2 := lh hu2
 obtain ⟨p2, q2, rfl⟩ := hu2.slice
 clear hu2
 go_wp2_with fail
 have q0' := U0.out.mono (M := w.heap.size + 1 + 1 + 1) (by first | (simp; done) | (simp; omega) | (simp [World.setCell]; omega))
 have q1' := U1.out.mono (M := w.heap.size + 1 + 1 + 1) (by first | (simp; done) | (simp; omega) | (simp [World.setCell]; omega))
 have q2' := U2.out.mono (M := w.heap.size + 1 + 1 + 1) (by first | (simp; done) | (simp; omega) | (simp [World.setCell]; omega))
 exact bodyPost_ret (v := .agg #[.slice p0 p.insts.length q0, .slice p1 p.nets.length q1, .slice p2 p.ports.length q2]) (by simp [results, Tryz.results34, go_sem, *]) rfl
  ⟨_, _, _, rfl, ⟨OwnInsts.mono (L := w.heap.size + 1 + 1 + 1) (q0'.kept (by (repeat (first | (with_reducible exact Kept.refl _ _) | (with_reducible assumption) | (with_reducible refine Kept.alloc ?_ _) | (with_reducible refine Kept.drew ?_) | (with_reducible refine Kept.drewN ?_ _) | (with_reducible refine Kept.set ?_ (by first | omega | (simp; omega) | simp) _) | (with_reducible refine Kept.call ?_ (by assumption)))))) (by omega), OwnTx.mono (L := w.heap.size + 1 + 1 + 1) (q1'.kept (by (repeat (first | (with_reducible exact Kept.refl _ _) | (with_reducible assumption) | (with_reducible refine Kept.alloc ?_ _) | (with_reducible refine Kept.drew ?_) | (with_reducible refine Kept.drewN ?_ _) | (with_reducible refine Kept.set ?_ (by first | omega | (simp; omega) | simp) _) | (with_reducible refine Kept.call ?_ (by assumption)))))) (by omega), OwnPorts.mono (L := w.heap.size + 1 + 1 + 1) (q2'.kept (by (repeat (first | (with_reducible exact Kept.refl _ _) | (with_reducible assumption) | (with_reducible refine Kept.alloc ?_ _) | (with_reducible refine Kept.drew ?_) | (with_reducible refine Kept.drewN ?_ _) | (with_reducible refine Kept.set ?_ (by first | omega | (simp; omega) | simp) _) | (with_reducible refine Kept.call ?_ (by assumption)))))) (by omega)⟩, eX⟩
set_option maxHeartbeats 1000000 in
theorem eqDes_same (f g : Nat → Value) (p : DesD) (w : World) (h : DesF w w.heap.size f p) (h' : DesF w w.heap.size g p) : Calls Tryz.prog 40 #[.agg #[f 0, f 1, f 2], .agg #[g 0, g 1, g 2]] w fun e w' => e = .returned (.bool true) ∧ Below w.heap.size w w' := by
 obtain ⟨x0, x1, x2⟩ := h
 obtain ⟨z0, z1, z2⟩ := h'
 obtain ⟨p0, q0, e0⟩ := x0.slice; obtain ⟨r0, s0, g0⟩ := z0.slice; obtain ⟨p1, q1, e1⟩ := x1.slice; obtain ⟨r1, s1, g1⟩ := z1.slice; obtain ⟨p2, q2, e2⟩ := x2.slice; obtain ⟨r2, s2, g2⟩ := z2.slice
 rw [e0] at x0; rw [g0] at z0; rw [e1] at x1; rw [g1] at z1; rw [e2] at x2; rw [g2] at z2
 rw [e0, g0, e1, g1, e2, g2]
 have X0 := lh x0; have Z0 := lh z0; have X1 := lh x1; have Z1 := lh z1; have X2 := lh x2; have Z2 := lh z2
 clear e0 g0 e1 g1 e2 g2 x0 z0 x1 z1 x2 z2
 go_enter Tryz.func40, Tryz.ntmps40
 go_wp2_with (first | (go_at_call 73; refine (eqInsts_same _ _ _ _ (by first | exact X0.out.up eX ) (by first | exact Z0.out.up eX )).mono ?_; rintro e w1 ⟨rfl, hb⟩; have ⟨hc, hf⟩ := bcell hb; have hz := hb.size; (try simp at hz); (try have hz := Nat.lt_of_succ_le hz); (try have y0 := wy w w1); (try have z0 := wz0 w w1); (try have z1 := wz1 w w1); (try have z2 := wz2 w w1); (try have z3 := wz3 w w1); (try have z4 := wz4 w w1); (try have x0 := wz0 wc w1); (try have x1 := wy wc w1)) | (go_at_call 74; refine (eqTx_same _ _ _ _ (by first | exact X1.out.up eX ) (by first | exact Z1.out.up eX )).mono ?_; rintro e w1 ⟨rfl, hb⟩; have ⟨hc, hf⟩ := bcell hb; have hz := hb.size; (try simp at hz); (try have hz := Nat.lt_of_succ_le hz); (try have y0 := wy w w1); (try have z0 := wz0 w w1); (try have z1 := wz1 w w1); (try have z2 := wz2 w w1); (try have z3 := wz3 w w1); (try have z4 := wz4 w w1); (try have x0 := wz0 wc w1); (try have x1 := wy wc w1)) | (go_at_call 75; refine (eqPorts_same _ _ _ _ (by first | exact X2.out.up eX ) (by first | exact Z2.out.up eX )).mono ?_; rintro e w1 ⟨rfl, hb⟩; have ⟨hc, hf⟩ := bcell hb; have hz := hb.size; (try simp at hz); (try have hz := Nat.lt_of_succ_le hz); (try have y0 := wy w w1); (try have z0 := wz0 w w1); (try have z1 := wz1 w w1); (try have z2 := wz2 w w1); (try have z3 := wz3 w w1); (try have z4 := wz4 w w1); (try have x0 := wz0 wc w1); (try have x1 := wy wc w1)))
 go_ret
 exact ⟨rfl, eX⟩
end Go.Proofs.YtkpfbnffhhmokaaGreat
