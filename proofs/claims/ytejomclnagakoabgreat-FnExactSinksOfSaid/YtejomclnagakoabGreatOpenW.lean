/-
Wires that come in.
-/
import Derived.Test.YtejomclnagakoabGreatOpen
import Derived.Test.YtejomclnagakoabGreatWir
namespace Go.Proofs.YtejomclnagakoabGreat
open Go.ChangeShapes Go.WideShapes Go.ChangeAt Go.RowKit Go.Deep Go.Joins
set_option linter.unusedVariables false
section
variable {H : Type} {enc : TypeId × Value → H} {W : World}
set_option maxRecDepth 100000 in
/-- A wire that came in. -/
theorem Tryz.openWire {base : Nat} {v : Value} {d : DataW H} {p : List MemPlace} (hv : Value.okWide Tryz.prog W .any base 121 v) (h : DataW.Trod enc Tryz.prog W 0 (fun _ => true) true 121 v d p) :
    ∃ f c, v = .agg #[f 0, f 1, f 2, f 3] ∧ WireF W W.heap.size f c := by
  obtain ⟨cs, rfl, hsz⟩ := okWide_struct Tryz.underlying121 hv
  have hc3 : Tryz.prog.cellsOf 121 = 4 := by kernel_rfl
  rw [hc3] at hsz
  obtain ⟨fuel, hf⟩ := h
  obtain ⟨ys, n', _, _, _, hyl, hff⟩ := DataW.trod_struct Tryz.underlying121 hf
  obtain ⟨l⟩ := cs
  match l, hsz with
  | [v0, v1, v2, v3], _ =>
    have g0 := hff 0 _ rfl; have g1 := hff 1 _ rfl; have g2 := hff 2 _ rfl; have g3 := hff 3 _ rfl
    have k0 : Tryz.prog.cellsOf 49 = 1 := by kernel_rfl
    simp only [Value.cells] at g0 g1 g2 g3
    have at_ : ∀ j, j < 4 → ∃ y, ys[j]? = some y := fun j hj => ⟨ys[j]'(by have : ys.length = 4 := hyl; omega), List.getElem?_eq_getElem _⟩
    obtain ⟨y0, h0⟩ := at_ 0 (by omega); obtain ⟨y1, h1⟩ := at_ 1 (by omega); obtain ⟨y2, h2⟩ := at_ 2 (by omega); obtain ⟨y3, h3⟩ := at_ 3 (by omega)
    rw [h0] at g0; rw [h1] at g1; rw [h2] at g2; rw [h3] at g3
    obtain ⟨a0, b0⟩ := Tryz.openInts (c0 := v0) (by simpa [k0] using g0)
    obtain ⟨a1, b1⟩ := Tryz.openInts (c0 := v1) (by simpa [k0] using g1)
    obtain ⟨a2, b2⟩ := Tryz.openInts (c0 := v2) (by simpa [k0] using g2)
    obtain ⟨a3, b3⟩ := Tryz.openInts (c0 := v3) (by simpa [k0] using g3)
    exact ⟨fun j => [v0, v1, v2, v3].getD j (.bool false), ⟨a0, a1, a2, a3⟩, rfl, b0, b1, b2, b3⟩
end
section
variable {H : Type} {enc : TypeId × Value → H} {W : World}
theorem Tryz.openWires {fuel : Nat} {c0 : Value} {x : DataW H × List MemPlace} (h : DataW.trod enc Tryz.prog W 0 (fun _ => true) true fuel 30 [c0] = some x) : ∃ ts, WiresS W W.heap.size c0 ts := by
  obtain ⟨n, F, hc, hf⟩ := open_rows Tryz.underlying30 Tryz.underlying121 (by kernel_rfl) (by kernel_rfl) (by simp) h
  have each : ∀ i, i < n → ∃ p : WireD, WireF W W.heap.size (F i) p := by
    intro i hi
    obtain ⟨_, _, t0⟩ := hf i hi 0 _ rfl
    obtain ⟨_, _, t1⟩ := hf i hi 1 _ rfl
    obtain ⟨_, _, t2⟩ := hf i hi 2 _ rfl
    obtain ⟨_, _, t3⟩ := hf i hi 3 _ rfl
    obtain ⟨a0, b0⟩ := Tryz.openInts t0
    obtain ⟨a1, b1⟩ := Tryz.openInts t1
    obtain ⟨a2, b2⟩ := Tryz.openInts t2
    obtain ⟨a3, b3⟩ := Tryz.openInts t3
    exact ⟨⟨a0, a1, a2, a3⟩, b0, b1, b2, b3⟩
  have : Inhabited WireD := ⟨⟨[], [], [], []⟩⟩
  obtain ⟨q, hq⟩ := choose_lt each
  refine ⟨(List.range n).map q, F, by simpa using hc, fun i hi => ?_⟩
  have hi' : i < n := by simpa using hi
  unfold wrn
  rw [map_at q hi']
  exact hq i hi'
end
end Go.Proofs.YtejomclnagakoabGreat
