/-
Wires that come in.
-/
import Derived.Test.YtohlajoaheaplaaDoorOpen
import Derived.Test.YtohlajoaheaplaaDoorWir
namespace Go.Proofs.YtohlajoaheaplaaDoor
open Go.ChangeShapes Go.WideShapes Go.ChangeAt Go.RowKit Go.Deep Go.Joins
set_option linter.unusedVariables false
section
variable {H : Type} {enc : TypeId × Value → H} {W : World}
set_option maxRecDepth 100000 in
/-- A wire that came in. -/
theorem Tryd.openWire {base : Nat} {v : Value} {d : DataW H} {p : List MemPlace} (hv : Value.okWide Tryd.prog W .any base 24 v) (h : DataW.Trod enc Tryd.prog W 0 (fun _ => true) true 24 v d p) :
    ∃ f c, v = .agg #[f 0, f 1, f 2, f 3] ∧ WireF W W.heap.size f c := by
  obtain ⟨cs, rfl, hsz⟩ := okWide_struct Tryd.underlying24 hv
  have hc3 : Tryd.prog.cellsOf 24 = 4 := by kernel_rfl
  rw [hc3] at hsz
  obtain ⟨fuel, hf⟩ := h
  obtain ⟨ys, n', _, _, _, hyl, hff⟩ := DataW.trod_struct Tryd.underlying24 hf
  obtain ⟨l⟩ := cs
  match l, hsz with
  | [v0, v1, v2, v3], _ =>
    have g0 := hff 0 _ rfl; have g1 := hff 1 _ rfl; have g2 := hff 2 _ rfl; have g3 := hff 3 _ rfl
    have k0 : Tryd.prog.cellsOf 22 = 1 := by kernel_rfl
    simp only [Value.cells] at g0 g1 g2 g3
    have at_ : ∀ j, j < 4 → ∃ y, ys[j]? = some y := fun j hj => ⟨ys[j]'(by have : ys.length = 4 := hyl; omega), List.getElem?_eq_getElem _⟩
    obtain ⟨y0, h0⟩ := at_ 0 (by omega); obtain ⟨y1, h1⟩ := at_ 1 (by omega); obtain ⟨y2, h2⟩ := at_ 2 (by omega); obtain ⟨y3, h3⟩ := at_ 3 (by omega)
    rw [h0] at g0; rw [h1] at g1; rw [h2] at g2; rw [h3] at g3
    obtain ⟨a0, b0⟩ := Tryd.openInts (c0 := v0) (by simpa [k0] using g0)
    obtain ⟨a1, b1⟩ := Tryd.openInts (c0 := v1) (by simpa [k0] using g1)
    obtain ⟨a2, b2⟩ := Tryd.openInts (c0 := v2) (by simpa [k0] using g2)
    obtain ⟨a3, b3⟩ := Tryd.openInts (c0 := v3) (by simpa [k0] using g3)
    exact ⟨fun j => [v0, v1, v2, v3].getD j (.bool false), ⟨a0, a1, a2, a3⟩, rfl, b0, b1, b2, b3⟩
end
end Go.Proofs.YtohlajoaheaplaaDoor
