/-
  No cell of these rows narrows 'for every input' (looked for: loops, veiled, ifaces, maps, wideKeys, modest, calm, conditions, laid).
  DERIVED. THE GIVEN ROWS OF THIS SEAT. 6 by the template 'for every input the law returns true; each argument reads behind the call as it read before'; 0 by the template 'total and deterministic' (their statements: YtnmjfbloedmgeaaTotals.lean).
  GIVEN WITH THE SEED: the statements are not yours to turn. If you find one false, say at which input.
  Laid BY PROGRAM, IN A SANDBOX (cutbox-rows.mjs): the forced cells as the released guide's own fill.sh prints them over the translation 803ca903d06d212e… (all of the seat's roots in one cut). By AI agents, Wed Nov 11 2026. No macro, syntax, notation, axiom, sorry.
-/
import Derived.Test.YtnmjfbloedmgeaaChecked
import GoSem.Claim
import GoSem.ClaimJoined
import GoSem.ClaimMapViews
import Derived.JoinedTies
import Derived.KernelRfl
namespace Go.Proofs.Ytnmjfbloedmgeaa
/- THE CELL 'sum', in the pinned program and in every row, IS THE sha256 OF THE DUMP (.gsa) THAT YtnmjfbloedmgeaaProg.lean LOADS. Nothing in Lean hashes anything: it is a label: what it is worth is what the hold of that sum in a sandbox is worth. -/
noncomputable def Try.pinned : Pinned := { name := "ytnmjfbloedmgeaa", sum := "803ca903d06d212e923bd1cd6b4fc80450f49d902a1b059e9a10f7514f915b2c", checked := Try.checked }
namespace Rows
def none {H : Type} : Left H := { results := [], args := [] }

/-- 'laws.FnExactIsCell': WHATEVER THE INPUT: true; the input reads as it did. -/
def fnExactIsCellSpec : ChangeSpec := { name := "fnExactIsCell", fn := fun _ => fun
  | [d] => { results := [.lit (.bool true)], args := [d] }
  | _ => none }
def fnExactIsCellRow : OpenClaim := { program := "ytnmjfbloedmgeaa", sum := "803ca903d06d212e923bd1cd6b4fc80450f49d902a1b059e9a10f7514f915b2c", func := "loop.example/g00861/laws.FnExactIsCell", spec := "fnExactIsCell", unfollowed := true, recurses := true, apart := false }
def FnExactIsCellSaid : Prop := fnExactIsCellRow.holds Try.pinned (OpenSpec.ofChange fnExactIsCellSpec)

/-- ITS FALSE NEIGHBOUR: 'it returns false'. Refute it at one input. -/
def fnExactIsCellWrong : ChangeSpec := { name := "fnExactIsCell", fn := fun _ => fun
  | [d] => { results := [.lit (.bool false)], args := [d] }
  | _ => none }
def FnExactIsCellWrongFalsely : Prop := fnExactIsCellRow.holds Try.pinned (OpenSpec.ofChange fnExactIsCellWrong)

/-- 'laws.FnExactIsLibrary': WHATEVER THE INPUT: true; the input reads as it did. -/
def fnExactIsLibrarySpec : ChangeSpec := { name := "fnExactIsLibrary", fn := fun _ => fun
  | [d] => { results := [.lit (.bool true)], args := [d] }
  | _ => none }
def fnExactIsLibraryRow : OpenClaim := { program := "ytnmjfbloedmgeaa", sum := "803ca903d06d212e923bd1cd6b4fc80450f49d902a1b059e9a10f7514f915b2c", func := "loop.example/g00861/laws.FnExactIsLibrary", spec := "fnExactIsLibrary", unfollowed := true, recurses := true, apart := false }
def FnExactIsLibrarySaid : Prop := fnExactIsLibraryRow.holds Try.pinned (OpenSpec.ofChange fnExactIsLibrarySpec)

/-- ITS FALSE NEIGHBOUR: 'it returns false'. Refute it at one input. -/
def fnExactIsLibraryWrong : ChangeSpec := { name := "fnExactIsLibrary", fn := fun _ => fun
  | [d] => { results := [.lit (.bool false)], args := [d] }
  | _ => none }
def FnExactIsLibraryWrongFalsely : Prop := fnExactIsLibraryRow.holds Try.pinned (OpenSpec.ofChange fnExactIsLibraryWrong)

/-- 'laws.FnExactCellNamed': WHATEVER THE INPUT: true; the input reads as it did. -/
def fnExactCellNamedSpec : ChangeSpec := { name := "fnExactCellNamed", fn := fun _ => fun
  | [d1, d2] => { results := [.lit (.bool true)], args := [d1, d2] }
  | _ => none }
def fnExactCellNamedRow : OpenClaim := { program := "ytnmjfbloedmgeaa", sum := "803ca903d06d212e923bd1cd6b4fc80450f49d902a1b059e9a10f7514f915b2c", func := "loop.example/g00861/laws.FnExactCellNamed", spec := "fnExactCellNamed", unfollowed := true, recurses := true, apart := false }
def FnExactCellNamedSaid : Prop := fnExactCellNamedRow.holds Try.pinned (OpenSpec.ofChange fnExactCellNamedSpec)

/-- ITS FALSE NEIGHBOUR: 'it returns false'. Refute it at one input. -/
def fnExactCellNamedWrong : ChangeSpec := { name := "fnExactCellNamed", fn := fun _ => fun
  | [d1, d2] => { results := [.lit (.bool false)], args := [d1, d2] }
  | _ => none }
def FnExactCellNamedWrongFalsely : Prop := fnExactCellNamedRow.holds Try.pinned (OpenSpec.ofChange fnExactCellNamedWrong)

/-- 'laws.FnExactPinNamed': WHATEVER THE INPUT: true; the input reads as it did. -/
def fnExactPinNamedSpec : ChangeSpec := { name := "fnExactPinNamed", fn := fun _ => fun
  | [d1, d2] => { results := [.lit (.bool true)], args := [d1, d2] }
  | _ => none }
def fnExactPinNamedRow : OpenClaim := { program := "ytnmjfbloedmgeaa", sum := "803ca903d06d212e923bd1cd6b4fc80450f49d902a1b059e9a10f7514f915b2c", func := "loop.example/g00861/laws.FnExactPinNamed", spec := "fnExactPinNamed", unfollowed := true, recurses := true, apart := false }
def FnExactPinNamedSaid : Prop := fnExactPinNamedRow.holds Try.pinned (OpenSpec.ofChange fnExactPinNamedSpec)

/-- ITS FALSE NEIGHBOUR: 'it returns false'. Refute it at one input. -/
def fnExactPinNamedWrong : ChangeSpec := { name := "fnExactPinNamed", fn := fun _ => fun
  | [d1, d2] => { results := [.lit (.bool false)], args := [d1, d2] }
  | _ => none }
def FnExactPinNamedWrongFalsely : Prop := fnExactPinNamedRow.holds Try.pinned (OpenSpec.ofChange fnExactPinNamedWrong)

/-- 'laws.FnExactClockPin': WHATEVER THE INPUT: true; the input reads as it did. -/
def fnExactClockPinSpec : ChangeSpec := { name := "fnExactClockPin", fn := fun _ => fun
  | [d] => { results := [.lit (.bool true)], args := [d] }
  | _ => none }
def fnExactClockPinRow : OpenClaim := { program := "ytnmjfbloedmgeaa", sum := "803ca903d06d212e923bd1cd6b4fc80450f49d902a1b059e9a10f7514f915b2c", func := "loop.example/g00861/laws.FnExactClockPin", spec := "fnExactClockPin", unfollowed := true, recurses := true, apart := false }
def FnExactClockPinSaid : Prop := fnExactClockPinRow.holds Try.pinned (OpenSpec.ofChange fnExactClockPinSpec)

/-- ITS FALSE NEIGHBOUR: 'it returns false'. Refute it at one input. -/
def fnExactClockPinWrong : ChangeSpec := { name := "fnExactClockPin", fn := fun _ => fun
  | [d] => { results := [.lit (.bool false)], args := [d] }
  | _ => none }
def FnExactClockPinWrongFalsely : Prop := fnExactClockPinRow.holds Try.pinned (OpenSpec.ofChange fnExactClockPinWrong)

/-- 'laws.FnExactArcsTo': WHATEVER THE INPUT: true; the input reads as it did. -/
def fnExactArcsToSpec : ChangeSpec := { name := "fnExactArcsTo", fn := fun _ => fun
  | [d1, d2, d3] => { results := [.lit (.bool true)], args := [d1, d2, d3] }
  | _ => none }
def fnExactArcsToRow : OpenClaim := { program := "ytnmjfbloedmgeaa", sum := "803ca903d06d212e923bd1cd6b4fc80450f49d902a1b059e9a10f7514f915b2c", func := "loop.example/g00861/laws.FnExactArcsTo", spec := "fnExactArcsTo", unfollowed := true, recurses := true, apart := false }
def FnExactArcsToSaid : Prop := fnExactArcsToRow.holds Try.pinned (OpenSpec.ofChange fnExactArcsToSpec)

/-- ITS FALSE NEIGHBOUR: 'it returns false'. Refute it at one input. -/
def fnExactArcsToWrong : ChangeSpec := { name := "fnExactArcsTo", fn := fun _ => fun
  | [d1, d2, d3] => { results := [.lit (.bool false)], args := [d1, d2, d3] }
  | _ => none }
def FnExactArcsToWrongFalsely : Prop := fnExactArcsToRow.holds Try.pinned (OpenSpec.ofChange fnExactArcsToWrong)

/- THE SECOND FORM. 'bulk': how many values and letters a reading holds, each counted each time it is reached (what is shared counts as often as it is met; a slice's spare places count too). A statement '..UptoSaid' is the law's where the arguments, and the package variables that the reading takes, are together of bulk at most 1048576: NARROWER than '..Said'. Prove '..Said' where nothing that the law and all that it calls make is longer than what came in: it says more and counts as full. Else prove '..UptoSaid'. A law counts once. -/
mutual
def uptoBulk {H : Type} : DataW H → Nat
  | .lit (.string bytes) => bytes.length + 1
  | .lit _ => 1
  | .nil => 1
  | .ptr d => uptoBulk d + 1
  | .slice elems spare => uptoBulkAll elems + uptoBulkAll spare + 1
  | .agg parts => uptoBulkAll parts + 1
  | .iface _ d => uptoBulk d + 1
  | .map entries => uptoBulkEntries entries + 1
  | .held _ => 1
def uptoBulkAll {H : Type} : List (DataW H) → Nat
  | [] => 0
  | d :: r => uptoBulk d + uptoBulkAll r
def uptoBulkEntries {H : Type} : List (Lit × DataW H) → Nat
  | [] => 0
  | x :: r => uptoBulkEntry x + uptoBulkEntries r
def uptoBulkEntry {H : Type} : Lit × DataW H → Nat
  | (.string bytes, d) => bytes.length + uptoBulk d + 1
  | (_, d) => uptoBulk d + 1
 end
def uptoSmall : (H : Type) → List (DataW H) → Bool := fun _ ds => decide (uptoBulkAll ds ≤ 1048576)
def OpenSpec.upto (s : _root_.Go.ChangeSpec) : _root_.Go.OpenSpec := { _root_.Go.OpenSpec.ofChange s with cond := some uptoSmall }

/-- 'laws.FnExactIsCell', WHERE WHAT IT READS IS OF BULK AT MOST 1048576: true; the input reads as it did. -/
def fnExactIsCellUptoRow : OpenClaim := { program := "ytnmjfbloedmgeaa", sum := "803ca903d06d212e923bd1cd6b4fc80450f49d902a1b059e9a10f7514f915b2c", func := "loop.example/g00861/laws.FnExactIsCell", spec := "fnExactIsCell", unfollowed := true, recurses := true, apart := false, narrowed := true }
def FnExactIsCellUptoSaid : Prop := fnExactIsCellUptoRow.holds Try.pinned (OpenSpec.upto fnExactIsCellSpec)

/-- 'laws.FnExactIsLibrary', WHERE WHAT IT READS IS OF BULK AT MOST 1048576: true; the input reads as it did. -/
def fnExactIsLibraryUptoRow : OpenClaim := { program := "ytnmjfbloedmgeaa", sum := "803ca903d06d212e923bd1cd6b4fc80450f49d902a1b059e9a10f7514f915b2c", func := "loop.example/g00861/laws.FnExactIsLibrary", spec := "fnExactIsLibrary", unfollowed := true, recurses := true, apart := false, narrowed := true }
def FnExactIsLibraryUptoSaid : Prop := fnExactIsLibraryUptoRow.holds Try.pinned (OpenSpec.upto fnExactIsLibrarySpec)

/-- 'laws.FnExactCellNamed', WHERE WHAT IT READS IS OF BULK AT MOST 1048576: true; the input reads as it did. -/
def fnExactCellNamedUptoRow : OpenClaim := { program := "ytnmjfbloedmgeaa", sum := "803ca903d06d212e923bd1cd6b4fc80450f49d902a1b059e9a10f7514f915b2c", func := "loop.example/g00861/laws.FnExactCellNamed", spec := "fnExactCellNamed", unfollowed := true, recurses := true, apart := false, narrowed := true }
def FnExactCellNamedUptoSaid : Prop := fnExactCellNamedUptoRow.holds Try.pinned (OpenSpec.upto fnExactCellNamedSpec)

/-- 'laws.FnExactPinNamed', WHERE WHAT IT READS IS OF BULK AT MOST 1048576: true; the input reads as it did. -/
def fnExactPinNamedUptoRow : OpenClaim := { program := "ytnmjfbloedmgeaa", sum := "803ca903d06d212e923bd1cd6b4fc80450f49d902a1b059e9a10f7514f915b2c", func := "loop.example/g00861/laws.FnExactPinNamed", spec := "fnExactPinNamed", unfollowed := true, recurses := true, apart := false, narrowed := true }
def FnExactPinNamedUptoSaid : Prop := fnExactPinNamedUptoRow.holds Try.pinned (OpenSpec.upto fnExactPinNamedSpec)

/-- 'laws.FnExactClockPin', WHERE WHAT IT READS IS OF BULK AT MOST 1048576: true; the input reads as it did. -/
def fnExactClockPinUptoRow : OpenClaim := { program := "ytnmjfbloedmgeaa", sum := "803ca903d06d212e923bd1cd6b4fc80450f49d902a1b059e9a10f7514f915b2c", func := "loop.example/g00861/laws.FnExactClockPin", spec := "fnExactClockPin", unfollowed := true, recurses := true, apart := false, narrowed := true }
def FnExactClockPinUptoSaid : Prop := fnExactClockPinUptoRow.holds Try.pinned (OpenSpec.upto fnExactClockPinSpec)

/-- 'laws.FnExactArcsTo', WHERE WHAT IT READS IS OF BULK AT MOST 1048576: true; the input reads as it did. -/
def fnExactArcsToUptoRow : OpenClaim := { program := "ytnmjfbloedmgeaa", sum := "803ca903d06d212e923bd1cd6b4fc80450f49d902a1b059e9a10f7514f915b2c", func := "loop.example/g00861/laws.FnExactArcsTo", spec := "fnExactArcsTo", unfollowed := true, recurses := true, apart := false, narrowed := true }
def FnExactArcsToUptoSaid : Prop := fnExactArcsToUptoRow.holds Try.pinned (OpenSpec.upto fnExactArcsToSpec)

end Rows
end Go.Proofs.Ytnmjfbloedmgeaa
