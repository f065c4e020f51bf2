/-
What comes in as a cell or a library is one: from the row's reading of an argument to CellF, CellsS.
-/
import Derived.Test.YtkpfbnffhhmokaaGreatCellD
import Derived.Lib.SmallJoins
import Derived.ChangeSame
namespace Go.Proofs.YtkpfbnffhhmokaaGreat
open Go.ChangeShapes Go.WideShapes Go.ChangeAt Go.RowKit Go.Deep Go.Joins
set_option linter.unusedVariables false
section
variable {H : Type} {enc : TypeId × Value → H} {P : Program} {W : World}
theorem take_one {cs : List Value} {j : Nat} (h : j < cs.length) : (cs.drop j).take 1 = [cs.getD j (.bool false)] := by
 rw [List.drop_eq_getElem_cons h, List.take_succ_cons, List.take_zero, List.getD_eq_getElem?_getD, List.getElem?_eq_getElem h]
 rfl
theorem open_rows {t e : TypeId} {fs : Array Field} {fuel : Nat} {c0 : Value} {x : DataW H × List MemPlace} (ht : P.underlying t = some (.slice e)) (he : P.underlying e = some (.struct fs)) (hone : oneCellFields P fs = true) (hC : P.cellsOf e = fs.size) (hpos : 0 < fs.size)
  (h : DataW.trod enc P W 0 (fun _ => true) true fuel t [c0] = some x) :
  ∃ n F, CellS W W.heap.size c0 n fs.size F ∧ ∀ i, i < n → ∀ (j : Nat) (f : Field), fs[j]? = some f → ∃ m y, DataW.trod enc P W 0 (fun _ => true) true m f.type [F i j] = some y := by
 rcases open_slice ht h with ⟨hcs, _⟩ | ⟨a, len, cap, m, n, D, Pl, hcs, _, hl, hm, hmm, _, hx⟩
 ·simp at hcs
  subst hcs
  exact ⟨0, fun _ _ => .bool false, ⟨by omega, none, 0, rfl, fun h => absurd h (by omega)⟩, fun i hi => absurd hi (by omega)⟩
 ·simp at hcs
  subst hcs
  simp only [if_true] at hmm
  subst hmm
  unfold maxLen at hm
  by_cases h0 : len = 0
  ·subst h0
   exact ⟨0, fun _ _ => .bool false, ⟨by omega, some a, m, rfl, fun h => absurd h (by omega)⟩, fun i hi => absurd hi (by omega)⟩
  ·obtain ⟨q, hq⟩ := choose_lt hx
   rw [hC] at hq
   have cell : ∀ i, i < len → ∀ j, j < fs.size → W.cell? (a.add (i * fs.size + j)) = some ((q i).getD j (.bool false)) := by
    intro i hi j hj
    obtain ⟨_, hlen, hat⟩ := World.cells?_some (hq i (by omega)).1
    have h1 := hat j hj
    rw [add_add] at h1
    rw [h1]
    simp [List.getD, show j < (q i).length by omega]
   obtain ⟨b, off, spot⟩ := a
   have hs : spot = none := by simpa [Addr.add] using World.cell?_spot (cell 0 (by omega) 0 hpos)
   subst hs
   have cell' : ∀ i, i < len → ∀ j, j < fs.size → W.cell? ⟨b, off + i * fs.size + j, none⟩ = some ((q i).getD j (.bool false)) := by
    intro i hi j hj
    have h1 := cell i hi j hj
    rw [add_plain] at h1
    rw [Nat.add_assoc]
    exact h1
   refine ⟨len, fun i j => (q i).getD j (.bool false), ⟨by omega, _, m, rfl, fun _ => ⟨b, off, rfl, cell_lt (cell' 0 (by omega) 0 hpos), cell'⟩⟩, fun i hi j f hf => ?_⟩
   obtain ⟨_, hlen, _⟩ := World.cells?_some (hq i (by omega)).1
   obtain ⟨ys, n', _, _, _, _, hff⟩ := DataW.trod_struct he (hq i (by omega)).2
   obtain ⟨ho, hk⟩ := hone_of hone j f hf
   have hj : j < fs.size := (Array.getElem?_eq_some_iff.1 hf).1
   have h1 := hff j f hf
   rw [ho, hk, take_one (by omega)] at h1
   have hys : j < ys.length := by omega
   exact ⟨n', ys[j], by rw [h1, List.getElem?_eq_getElem hys]⟩
theorem map_at {α : Type} {d : α} (q : Nat → α) {n i : Nat} (h : i < n) : ((List.range n).map q).getD i d = q i := by simp [List.getD, h]
theorem open_pins {t e : TypeId} {f0 f1 f2 f3 : Field} {fuel : Nat} {c0 : Value} {x : DataW H × List MemPlace} (ht : P.underlying t = some (.slice e)) (he : P.underlying e = some (.struct #[f0, f1, f2, f3])) (hone : oneCellFields P #[f0, f1, f2, f3] = true) (hC : P.cellsOf e = 4)
  (h0 : P.underlying f0.type = some .string) (h1 : P.underlying f1.type = some (.int .i64)) (h2 : P.underlying f2.type = some (.int .i64)) (h3 : P.underlying f3.type = some .bool)
  (h : DataW.trod enc P W 0 (fun _ => true) true fuel t [c0] = some x) : ∃ ps, PinsS W W.heap.size c0 ps := by
 obtain ⟨n, F, hc, hf⟩ := open_rows ht he hone hC (by simp) h
 have each : ∀ i, i < n → ∃ p : PinD, PinF (F i) p := by
  intro i hi
  obtain ⟨_, _, t0⟩ := hf i hi 0 f0 rfl
  obtain ⟨_, _, t1⟩ := hf i hi 1 f1 rfl
  obtain ⟨_, _, t2⟩ := hf i hi 2 f2 rfl
  obtain ⟨_, _, t3⟩ := hf i hi 3 f3 rfl
  obtain ⟨s, e0, _, hs⟩ := DataW.trod_string h0 t0
  obtain ⟨a1, e1, _, _⟩ := DataW.trod_int h1 t1
  obtain ⟨a2, e2, _, _⟩ := DataW.trod_int h2 t2
  obtain ⟨b3, e3, _⟩ := DataW.trod_bool h3 t3
  unfold maxLen at hs
  exact ⟨⟨s, a1, a2, b3⟩, by simpa using e0, by simpa using e1, by simpa using e2, by simpa using e3, by show s.size ≤ _; omega⟩
 have : Inhabited PinD := ⟨⟨.empty, 0, 0, false⟩⟩
 obtain ⟨q, hq⟩ := choose_lt each
 refine ⟨(List.range n).map q, F, by simpa using hc, fun i hi => ?_⟩
 have hi' : i < n := by simpa using hi
 unfold pn
 rw [map_at q hi']
 exact hq i hi'
theorem open_tabs {t e te ti : TypeId} {f0 f1 f2 : Field} {fuel : Nat} {c0 : Value} {x : DataW H × List MemPlace} (ht : P.underlying t = some (.slice e)) (he : P.underlying e = some (.struct #[f0, f1, f2])) (hone : oneCellFields P #[f0, f1, f2] = true) (hC : P.cellsOf e = 3)
  (h0 : f0.type = te) (h1 : f1.type = te) (h2 : f2.type = te) (hs : P.underlying te = some (.slice ti)) (hi : P.underlying ti = some (.int .i64)) (hci : P.cellsOf ti = 1)
  (h : DataW.trod enc P W 0 (fun _ => true) true fuel t [c0] = some x) : ∃ ts, TabsS W W.heap.size c0 ts := by
 obtain ⟨n, F, hc, hf⟩ := open_rows ht he hone hC (by simp) h
 have each : ∀ i, i < n → ∃ p : TabD, TabF W W.heap.size (F i) p := by
  intro i hi'
  obtain ⟨_, _, t0⟩ := hf i hi' 0 f0 rfl
  obtain ⟨_, _, t1⟩ := hf i hi' 1 f1 rfl
  obtain ⟨_, _, t2⟩ := hf i hi' 2 f2 rfl
  rw [h0] at t0; rw [h1] at t1; rw [h2] at t2
  obtain ⟨ss, b0⟩ := open_list hs hi hci t0
  obtain ⟨ls, b1⟩ := open_list hs hi hci t1
  obtain ⟨vs, b2⟩ := open_list hs hi hci t2
  exact ⟨⟨ss, ls, vs⟩, b0, b1, b2⟩
 have : Inhabited TabD := ⟨⟨[], [], []⟩⟩
 obtain ⟨q, hq⟩ := choose_lt each
 refine ⟨(List.range n).map q, F, by simpa using hc, fun i hi' => ?_⟩
 have hi'' : i < n := by simpa using hi'
 unfold tn
 rw [map_at q hi'']
 exact hq i hi''
theorem open_arcs {t e tt et te ti : TypeId} {f0 f1 f2 f3 f4 f5 g0 g1 g2 : Field} {fuel : Nat} {c0 : Value} {x : DataW H × List MemPlace} (ht : P.underlying t = some (.slice e)) (he : P.underlying e = some (.struct #[f0, f1, f2, f3, f4, f5])) (hone : oneCellFields P #[f0, f1, f2, f3, f4, f5] = true) (hC : P.cellsOf e = 6)
  (h0 : P.underlying f0.type = some (.int .i64)) (h1 : P.underlying f1.type = some (.int .i64)) (h2 : P.underlying f2.type = some (.int .i64)) (h3 : P.underlying f3.type = some (.int .i64)) (h4 : f4.type = tt) (h5 : f5.type = tt)
  (htt : P.underlying tt = some (.slice et)) (het : P.underlying et = some (.struct #[g0, g1, g2])) (hone' : oneCellFields P #[g0, g1, g2] = true) (hC' : P.cellsOf et = 3)
  (k0 : g0.type = te) (k1 : g1.type = te) (k2 : g2.type = te) (hs : P.underlying te = some (.slice ti)) (hi : P.underlying ti = some (.int .i64)) (hci : P.cellsOf ti = 1)
  (h : DataW.trod enc P W 0 (fun _ => true) true fuel t [c0] = some x) : ∃ ts, ArcsS W W.heap.size c0 ts := by
 obtain ⟨n, F, hc, hf⟩ := open_rows ht he hone hC (by simp) h
 have each : ∀ i, i < n → ∃ p : ArcD, ArcF W W.heap.size (F i) p := by
  intro i hi'
  obtain ⟨_, _, t0⟩ := hf i hi' 0 f0 rfl
  obtain ⟨_, _, t1⟩ := hf i hi' 1 f1 rfl
  obtain ⟨_, _, t2⟩ := hf i hi' 2 f2 rfl
  obtain ⟨_, _, t3⟩ := hf i hi' 3 f3 rfl
  obtain ⟨_, _, t4⟩ := hf i hi' 4 f4 rfl
  obtain ⟨_, _, t5⟩ := hf i hi' 5 f5 rfl
  rw [h4] at t4; rw [h5] at t5
  obtain ⟨a0, e0, _, _⟩ := DataW.trod_int h0 t0
  obtain ⟨a1, e1, _, _⟩ := DataW.trod_int h1 t1
  obtain ⟨a2, e2, _, _⟩ := DataW.trod_int h2 t2
  obtain ⟨a3, e3, _, _⟩ := DataW.trod_int h3 t3
  obtain ⟨dl, b4⟩ := open_tabs htt het hone' hC' k0 k1 k2 hs hi hci t4
  obtain ⟨sl, b5⟩ := open_tabs htt het hone' hC' k0 k1 k2 hs hi hci t5
  exact ⟨⟨a0, a1, a2, a3, dl, sl⟩, by simpa using e0, by simpa using e1, by simpa using e2, by simpa using e3, b4, b5⟩
 have : Inhabited ArcD := ⟨⟨0, 0, 0, 0, [], []⟩⟩
 obtain ⟨q, hq⟩ := choose_lt each
 refine ⟨(List.range n).map q, F, by simpa using hc, fun i hi' => ?_⟩
 have hi'' : i < n := by simpa using hi'
 unfold an
 rw [map_at q hi'']
 exact hq i hi''
end
section
variable {H : Type} {enc : TypeId × Value → H} {W : World}
theorem Tryz.openInts {fuel : Nat} {c0 : Value} {x : DataW H × List MemPlace} (h : DataW.trod enc Tryz.prog W 0 (fun _ => true) true fuel 33 [c0] = some x) : ∃ ts, IntS W W.heap.size c0 ts :=
 open_list Tryz.underlying33 Tryz.underlying2 (by kernel_rfl) h
end
section
variable {H : Type} {enc : TypeId × Value → H} {W : World}
theorem Tryz.openPins {fuel : Nat} {c0 : Value} {x : DataW H × List MemPlace} (h : DataW.trod enc Tryz.prog W 0 (fun _ => true) true fuel 151 [c0] = some x) : ∃ ps, PinsS W W.heap.size c0 ps :=
 open_pins Tryz.underlying151 Tryz.underlying224 (by kernel_rfl) (by kernel_rfl) Tryz.underlying9 Tryz.underlying2 Tryz.underlying2 Tryz.underlying4 h
theorem Tryz.openArcs {fuel : Nat} {c0 : Value} {x : DataW H × List MemPlace} (h : DataW.trod enc Tryz.prog W 0 (fun _ => true) true fuel 152 [c0] = some x) : ∃ ts, ArcsS W W.heap.size c0 ts :=
 open_arcs Tryz.underlying152 Tryz.underlying228 (by kernel_rfl) (by kernel_rfl) Tryz.underlying2 Tryz.underlying2 Tryz.underlying2 Tryz.underlying2 rfl rfl
  Tryz.underlying226 Tryz.underlying285 (by kernel_rfl) (by kernel_rfl) rfl rfl rfl Tryz.underlying33 Tryz.underlying2 (by kernel_rfl) h
end
end Go.Proofs.YtkpfbnffhhmokaaGreat
