/-
The laws' own sizes of pins, tables, arcs and cells: not negative only if every list is short enough.
-/
import Derived.Test.YtkpfbnffhhmokaaGreatCellD
namespace Go.Proofs.YtkpfbnffhhmokaaGreat
open Go.ChangeShapes Go.WideShapes Go.ChangeAt Go.RowKit
set_option linter.unusedVariables false
/-- A size is left over, or -1; one that is left over tells that P. -/
def Left (P : Prop) (w : World) (e : Ending) (w' : World) : Prop := (∃ r : Int, e = .returned (.int .i64 r) ∧ -1 ≤ r ∧ r ≤ 1048576 ∧ (0 ≤ r → P)) ∧ Below w.heap.size w w'
theorem szInts_any (v : Value) (xs : List Int) (l : Int) (w : World) (h : IntS w w.heap.size v xs) (h0 : 0 ≤ l) (h1 : l ≤ 1048576) :
  Calls Tryz.prog 101 #[v, .int .i64 l] w fun e w' => (∃ r : Int, e = .returned (.int .i64 r) ∧ -1 ≤ r ∧ r ≤ l ∧ (0 ≤ r → xs.length + r ≤ l)) ∧ Below w.heap.size w w' := by
 refine (szInt64S_any v xs _ l w h h0 h1).mono ?_
 rintro e w' ⟨rfl, rfl⟩
 refine ⟨⟨_, rfl, ?_⟩, Below.refl _ _⟩
 unfold szR
 split
 ·exact ⟨by omega, by omega, fun h => absurd h (by omega)⟩
 ·exact ⟨by omega, by omega, fun h => by omega⟩
end Go.Proofs.YtkpfbnffhhmokaaGreat
