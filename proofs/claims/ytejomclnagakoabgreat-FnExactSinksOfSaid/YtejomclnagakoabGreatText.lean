/-
Contracts of the model's decimal numerals (l01Number), for all numbers from 0 on.
-/
import Derived.Test.YtejomclnagakoabGreatNum
import Derived.Lib.ItoaNum
import Derived.Lib.ItoaLen
import Derived.Laws.Concat
import Derived.WalkSpells
import Derived.WalkLawsBesides
import Derived.Laws.IdiomStrings
namespace Go.Proofs.YtejomclnagakoabGreat
open Go.ChangeShapes Go.WideShapes Go.ChangeAt Go.RowKit
set_option linter.unusedVariables false
theorem ret_str {a b : List UInt8} (h : a = b) : Ending.returned (.string ⟨a.toArray⟩) = .returned (.string ⟨b.toArray⟩) := by rw [h]
theorem conv_one {P : Program} {src dst e : TypeId} (x : Int) (hx : 0 ≤ x ∧ x ≤ 255) (hs : P.underlying src = some (.slice e)) (he : P.underlying e = some (.int .u8)) (hd : P.underlying dst = some .string) :
    ∀ (W : World) (b : Nat), W.cell? ⟨b, 0, none⟩ = some (.int .u8 x) → (convert src dst (.slice (some ⟨b, 0, none⟩) 1 1)).run P W = .ok (.string ⟨[UInt8.ofNat x.toNat].toArray⟩) W := by
  intro W b hc
  refine run_convert_bytes_back (P := P) W src dst e ⟨b, 0, none⟩ 1 [UInt8.ofNat x.toNat] hs he hd (fun j hj => ?_)
  obtain rfl : j = 0 := by simpa using hj
  have e : max x 0 % 256 = x := by omega
  simpa [Addr.add, e] using hc
end Go.Proofs.YtejomclnagakoabGreat
