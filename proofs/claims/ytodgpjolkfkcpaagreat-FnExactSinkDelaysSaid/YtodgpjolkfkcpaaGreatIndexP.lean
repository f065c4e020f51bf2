/-
The program's indexWith over places, by key and by name.
-/
import Derived.Test.YtodgpjolkfkcpaaGreatIndex
import Derived.Test.YtodgpjolkfkcpaaGreatNetP
namespace Go.Proofs.YtodgpjolkfkcpaaGreat
open Go.ChangeShapes Go.WideShapes Go.ChangeAt Go.RowKit
set_option linter.unusedVariables false
set_option linter.unusedSimpArgs false
def PlF (f : Nat → Value) (p : PlD) : Prop := f 0 = .int .i64 p.inst ∧ f 1 = .int .i64 p.pin ∧ f 2 = .string p.name ∧ f 3 = .int .i64 p.net ∧ f 4 = .int .i64 p.load ∧ f 5 = .bool p.drv
def PlS (w : World) (B : Nat) (v : Value) (P : List PlD) : Prop := ∃ F, CellS w B v P.length 6 F ∧ ∀ i, i < P.length → PlF (F i) (pll P i)
theorem PlS.keep {w w' : World} {B C : Nat} {v : Value} {P : List PlD} (h : PlS w B v P) (hb : Below B w w') (hB : B ≤ C) : PlS w' C v P := by
  obtain ⟨F, h0, h1⟩ := h
  exact ⟨F, h0.keep hb hB, h1⟩
theorem PlS.up {w w' : World} {v : Value} {P : List PlD} (h : PlS w w.heap.size v P) (hb : Below w.heap.size w w') : PlS w' w'.heap.size v P := h.keep hb hb.size
theorem PlS.slice {w : World} {L : Nat} {v : Value} {P : List PlD} (h : PlS w L v P) : ∃ p q, v = .slice p P.length q := by
  obtain ⟨F, ⟨_, a, cap, rfl, _⟩, _⟩ := h
  exact ⟨_, _, rfl⟩
theorem PlS.len {w : World} {L : Nat} {v : Value} {P : List PlD} (h : PlS w L v P) : P.length ≤ 9223372036854775807 := by
  obtain ⟨F, ⟨h0, _⟩, _⟩ := h
  exact h0
end Go.Proofs.YtodgpjolkfkcpaaGreat
