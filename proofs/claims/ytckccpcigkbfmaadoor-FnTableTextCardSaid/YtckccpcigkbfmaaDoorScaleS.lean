/-
The contract of the model's ScaleTable, for all arguments.
-/
import Derived.Test.YtckccpcigkbfmaaDoorScale
import Derived.Test.YtckccpcigkbfmaaDoorBound
namespace Go.Proofs.YtckccpcigkbfmaaDoor
open Go.ChangeShapes Go.WideShapes Go.ChangeAt Go.RowKit
set_option linter.unusedVariables false
def stM (th m : Int) : Bool := inB th 0 10000 && isM m
theorem scl_bd {v th : Int} (h : -1000000 ≤ v ∧ v ≤ 1000000) (h1 : 0 ≤ th) (h2 : th ≤ 10000) : -10000000000000 ≤ v * th ∧ v * th ≤ 10000000000000 := mul_bd v th (by omega) (by omega) h1 h2
theorem tab_scl {ss ls vs : List Int} (th m : Int) (h : tabB ss ls vs = true) : tabB ss ls (scl th m vs) = valB (scl th m vs) := by
  obtain ⟨h0, h1, h2, _⟩ := tab_get h
  simp [tabB, h0, h1, scl_len, h2]
end Go.Proofs.YtckccpcigkbfmaaDoor
