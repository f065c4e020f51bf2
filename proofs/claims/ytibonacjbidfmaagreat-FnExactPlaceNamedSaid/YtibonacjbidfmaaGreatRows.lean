/-
  No cell of these rows narrows 'for every input' (looked for: loops, veiled, ifaces, maps, wideKeys, modest, calm, conditions, laid).
  DERIVED. THE GIVEN ROWS OF THIS SEAT. 10 by the template 'for every input the law returns true; each argument reads behind the call as it read before'; 0 by the template 'total and deterministic' (their statements: YtibonacjbidfmaaGreatTotals.lean).
  GIVEN WITH THE SEED: the statements are not yours to turn. If you find one false, say at which input.
  Laid BY PROGRAM, IN A SANDBOX (cutbox-rows.mjs): the forced cells as the released guide's own fill.sh prints them over the translation 986dc077a6d48a74… (all of the seat's roots in one cut). By AI agents, Wed Nov 11 2026. No macro, syntax, notation, axiom, sorry.
-/
import Derived.Test.YtibonacjbidfmaaGreatChecked
import GoSem.Claim
import GoSem.ClaimJoined
import GoSem.ClaimMapViews
import Derived.JoinedTies
import Derived.KernelRfl
namespace Go.Proofs.YtibonacjbidfmaaGreat
/- THE CELL 'sum', in the pinned program and in every row, IS THE sha256 OF THE DUMP (.gsa) THAT YtibonacjbidfmaaGreatProg.lean LOADS. Nothing in Lean hashes anything: it is a label: what it is worth is what the hold of that sum in a sandbox is worth. -/
noncomputable def Tryz.pinned : Pinned := { name := "ytibonacjbidfmaagreat", sum := "986dc077a6d48a741353d5bac3fa38fcf7a8987b63a283ba655d87677ec603f0", checked := Tryz.checked }
namespace Rows
def none {H : Type} : Left H := { results := [], args := [] }

/-- 'laws.FnExactIsDesign': WHATEVER THE INPUT: true; the input reads as it did. -/
def fnExactIsDesignSpec : ChangeSpec := { name := "fnExactIsDesign", fn := fun _ => fun
  | [d1, d2] => { results := [.lit (.bool true)], args := [d1, d2] }
  | _ => none }
def fnExactIsDesignRow : OpenClaim := { program := "ytibonacjbidfmaagreat", sum := "986dc077a6d48a741353d5bac3fa38fcf7a8987b63a283ba655d87677ec603f0", func := "loop.example/g00861/laws.FnExactIsDesign", spec := "fnExactIsDesign", unfollowed := true, recurses := true, plainKeys := false, apart := false }
def FnExactIsDesignSaid : Prop := fnExactIsDesignRow.holds Tryz.pinned (OpenSpec.ofChange fnExactIsDesignSpec)

/-- ITS FALSE NEIGHBOUR: 'it returns false'. Refute it at one input. -/
def fnExactIsDesignWrong : ChangeSpec := { name := "fnExactIsDesign", fn := fun _ => fun
  | [d1, d2] => { results := [.lit (.bool false)], args := [d1, d2] }
  | _ => none }
def FnExactIsDesignWrongFalsely : Prop := fnExactIsDesignRow.holds Tryz.pinned (OpenSpec.ofChange fnExactIsDesignWrong)

/-- 'laws.FnExactPlaceCount': WHATEVER THE INPUT: true; the input reads as it did. -/
def fnExactPlaceCountSpec : ChangeSpec := { name := "fnExactPlaceCount", fn := fun _ => fun
  | [d1, d2] => { results := [.lit (.bool true)], args := [d1, d2] }
  | _ => none }
def fnExactPlaceCountRow : OpenClaim := { program := "ytibonacjbidfmaagreat", sum := "986dc077a6d48a741353d5bac3fa38fcf7a8987b63a283ba655d87677ec603f0", func := "loop.example/g00861/laws.FnExactPlaceCount", spec := "fnExactPlaceCount", unfollowed := true, recurses := true, plainKeys := false, apart := false }
def FnExactPlaceCountSaid : Prop := fnExactPlaceCountRow.holds Tryz.pinned (OpenSpec.ofChange fnExactPlaceCountSpec)

/-- ITS FALSE NEIGHBOUR: 'it returns false'. Refute it at one input. -/
def fnExactPlaceCountWrong : ChangeSpec := { name := "fnExactPlaceCount", fn := fun _ => fun
  | [d1, d2] => { results := [.lit (.bool false)], args := [d1, d2] }
  | _ => none }
def FnExactPlaceCountWrongFalsely : Prop := fnExactPlaceCountRow.holds Tryz.pinned (OpenSpec.ofChange fnExactPlaceCountWrong)

/-- 'laws.FnExactPlaceOf': WHATEVER THE INPUT: true; the input reads as it did. -/
def fnExactPlaceOfSpec : ChangeSpec := { name := "fnExactPlaceOf", fn := fun _ => fun
  | [d1, d2, d3, d4] => { results := [.lit (.bool true)], args := [d1, d2, d3, d4] }
  | _ => none }
def fnExactPlaceOfRow : OpenClaim := { program := "ytibonacjbidfmaagreat", sum := "986dc077a6d48a741353d5bac3fa38fcf7a8987b63a283ba655d87677ec603f0", func := "loop.example/g00861/laws.FnExactPlaceOf", spec := "fnExactPlaceOf", unfollowed := true, recurses := true, plainKeys := false, apart := false }
def FnExactPlaceOfSaid : Prop := fnExactPlaceOfRow.holds Tryz.pinned (OpenSpec.ofChange fnExactPlaceOfSpec)

/-- ITS FALSE NEIGHBOUR: 'it returns false'. Refute it at one input. -/
def fnExactPlaceOfWrong : ChangeSpec := { name := "fnExactPlaceOf", fn := fun _ => fun
  | [d1, d2, d3, d4] => { results := [.lit (.bool false)], args := [d1, d2, d3, d4] }
  | _ => none }
def FnExactPlaceOfWrongFalsely : Prop := fnExactPlaceOfRow.holds Tryz.pinned (OpenSpec.ofChange fnExactPlaceOfWrong)

/-- 'laws.FnExactInstanceOf': WHATEVER THE INPUT: true; the input reads as it did. -/
def fnExactInstanceOfSpec : ChangeSpec := { name := "fnExactInstanceOf", fn := fun _ => fun
  | [d1, d2, d3] => { results := [.lit (.bool true)], args := [d1, d2, d3] }
  | _ => none }
def fnExactInstanceOfRow : OpenClaim := { program := "ytibonacjbidfmaagreat", sum := "986dc077a6d48a741353d5bac3fa38fcf7a8987b63a283ba655d87677ec603f0", func := "loop.example/g00861/laws.FnExactInstanceOf", spec := "fnExactInstanceOf", unfollowed := true, recurses := true, plainKeys := false, apart := false }
def FnExactInstanceOfSaid : Prop := fnExactInstanceOfRow.holds Tryz.pinned (OpenSpec.ofChange fnExactInstanceOfSpec)

/-- ITS FALSE NEIGHBOUR: 'it returns false'. Refute it at one input. -/
def fnExactInstanceOfWrong : ChangeSpec := { name := "fnExactInstanceOf", fn := fun _ => fun
  | [d1, d2, d3] => { results := [.lit (.bool false)], args := [d1, d2, d3] }
  | _ => none }
def FnExactInstanceOfWrongFalsely : Prop := fnExactInstanceOfRow.holds Tryz.pinned (OpenSpec.ofChange fnExactInstanceOfWrong)

/-- 'laws.FnExactPlaceName': WHATEVER THE INPUT: true; the input reads as it did. -/
def fnExactPlaceNameSpec : ChangeSpec := { name := "fnExactPlaceName", fn := fun _ => fun
  | [d1, d2, d3] => { results := [.lit (.bool true)], args := [d1, d2, d3] }
  | _ => none }
def fnExactPlaceNameRow : OpenClaim := { program := "ytibonacjbidfmaagreat", sum := "986dc077a6d48a741353d5bac3fa38fcf7a8987b63a283ba655d87677ec603f0", func := "loop.example/g00861/laws.FnExactPlaceName", spec := "fnExactPlaceName", unfollowed := true, recurses := true, plainKeys := false, apart := false }
def FnExactPlaceNameSaid : Prop := fnExactPlaceNameRow.holds Tryz.pinned (OpenSpec.ofChange fnExactPlaceNameSpec)

/-- ITS FALSE NEIGHBOUR: 'it returns false'. Refute it at one input. -/
def fnExactPlaceNameWrong : ChangeSpec := { name := "fnExactPlaceName", fn := fun _ => fun
  | [d1, d2, d3] => { results := [.lit (.bool false)], args := [d1, d2, d3] }
  | _ => none }
def FnExactPlaceNameWrongFalsely : Prop := fnExactPlaceNameRow.holds Tryz.pinned (OpenSpec.ofChange fnExactPlaceNameWrong)

/-- 'laws.FnExactPlaceNamed': WHATEVER THE INPUT: true; the input reads as it did. -/
def fnExactPlaceNamedSpec : ChangeSpec := { name := "fnExactPlaceNamed", fn := fun _ => fun
  | [d1, d2, d3] => { results := [.lit (.bool true)], args := [d1, d2, d3] }
  | _ => none }
def fnExactPlaceNamedRow : OpenClaim := { program := "ytibonacjbidfmaagreat", sum := "986dc077a6d48a741353d5bac3fa38fcf7a8987b63a283ba655d87677ec603f0", func := "loop.example/g00861/laws.FnExactPlaceNamed", spec := "fnExactPlaceNamed", unfollowed := true, recurses := true, plainKeys := false, apart := false }
def FnExactPlaceNamedSaid : Prop := fnExactPlaceNamedRow.holds Tryz.pinned (OpenSpec.ofChange fnExactPlaceNamedSpec)

/-- ITS FALSE NEIGHBOUR: 'it returns false'. Refute it at one input. -/
def fnExactPlaceNamedWrong : ChangeSpec := { name := "fnExactPlaceNamed", fn := fun _ => fun
  | [d1, d2, d3] => { results := [.lit (.bool false)], args := [d1, d2, d3] }
  | _ => none }
def FnExactPlaceNamedWrongFalsely : Prop := fnExactPlaceNamedRow.holds Tryz.pinned (OpenSpec.ofChange fnExactPlaceNamedWrong)

/-- 'laws.FnExactNetOfPlace': WHATEVER THE INPUT: true; the input reads as it did. -/
def fnExactNetOfPlaceSpec : ChangeSpec := { name := "fnExactNetOfPlace", fn := fun _ => fun
  | [d1, d2, d3] => { results := [.lit (.bool true)], args := [d1, d2, d3] }
  | _ => none }
def fnExactNetOfPlaceRow : OpenClaim := { program := "ytibonacjbidfmaagreat", sum := "986dc077a6d48a741353d5bac3fa38fcf7a8987b63a283ba655d87677ec603f0", func := "loop.example/g00861/laws.FnExactNetOfPlace", spec := "fnExactNetOfPlace", unfollowed := true, recurses := true, plainKeys := false, apart := false }
def FnExactNetOfPlaceSaid : Prop := fnExactNetOfPlaceRow.holds Tryz.pinned (OpenSpec.ofChange fnExactNetOfPlaceSpec)

/-- ITS FALSE NEIGHBOUR: 'it returns false'. Refute it at one input. -/
def fnExactNetOfPlaceWrong : ChangeSpec := { name := "fnExactNetOfPlace", fn := fun _ => fun
  | [d1, d2, d3] => { results := [.lit (.bool false)], args := [d1, d2, d3] }
  | _ => none }
def FnExactNetOfPlaceWrongFalsely : Prop := fnExactNetOfPlaceRow.holds Tryz.pinned (OpenSpec.ofChange fnExactNetOfPlaceWrong)

/-- 'laws.FnExactDriverOf': WHATEVER THE INPUT: true; the input reads as it did. -/
def fnExactDriverOfSpec : ChangeSpec := { name := "fnExactDriverOf", fn := fun _ => fun
  | [d1, d2, d3] => { results := [.lit (.bool true)], args := [d1, d2, d3] }
  | _ => none }
def fnExactDriverOfRow : OpenClaim := { program := "ytibonacjbidfmaagreat", sum := "986dc077a6d48a741353d5bac3fa38fcf7a8987b63a283ba655d87677ec603f0", func := "loop.example/g00861/laws.FnExactDriverOf", spec := "fnExactDriverOf", unfollowed := true, recurses := true, plainKeys := false, apart := false }
def FnExactDriverOfSaid : Prop := fnExactDriverOfRow.holds Tryz.pinned (OpenSpec.ofChange fnExactDriverOfSpec)

/-- ITS FALSE NEIGHBOUR: 'it returns false'. Refute it at one input. -/
def fnExactDriverOfWrong : ChangeSpec := { name := "fnExactDriverOf", fn := fun _ => fun
  | [d1, d2, d3] => { results := [.lit (.bool false)], args := [d1, d2, d3] }
  | _ => none }
def FnExactDriverOfWrongFalsely : Prop := fnExactDriverOfRow.holds Tryz.pinned (OpenSpec.ofChange fnExactDriverOfWrong)

/-- 'laws.FnExactSinksOf': WHATEVER THE INPUT: true; the input reads as it did. -/
def fnExactSinksOfSpec : ChangeSpec := { name := "fnExactSinksOf", fn := fun _ => fun
  | [d1, d2, d3] => { results := [.lit (.bool true)], args := [d1, d2, d3] }
  | _ => none }
def fnExactSinksOfRow : OpenClaim := { program := "ytibonacjbidfmaagreat", sum := "986dc077a6d48a741353d5bac3fa38fcf7a8987b63a283ba655d87677ec603f0", func := "loop.example/g00861/laws.FnExactSinksOf", spec := "fnExactSinksOf", unfollowed := true, recurses := true, plainKeys := false, apart := false }
def FnExactSinksOfSaid : Prop := fnExactSinksOfRow.holds Tryz.pinned (OpenSpec.ofChange fnExactSinksOfSpec)

/-- ITS FALSE NEIGHBOUR: 'it returns false'. Refute it at one input. -/
def fnExactSinksOfWrong : ChangeSpec := { name := "fnExactSinksOf", fn := fun _ => fun
  | [d1, d2, d3] => { results := [.lit (.bool false)], args := [d1, d2, d3] }
  | _ => none }
def FnExactSinksOfWrongFalsely : Prop := fnExactSinksOfRow.holds Tryz.pinned (OpenSpec.ofChange fnExactSinksOfWrong)

/-- 'laws.FnExactPlaceCap': WHATEVER THE INPUT: true; the input reads as it did. -/
def fnExactPlaceCapSpec : ChangeSpec := { name := "fnExactPlaceCap", fn := fun _ => fun
  | [d1, d2, d3] => { results := [.lit (.bool true)], args := [d1, d2, d3] }
  | _ => none }
def fnExactPlaceCapRow : OpenClaim := { program := "ytibonacjbidfmaagreat", sum := "986dc077a6d48a741353d5bac3fa38fcf7a8987b63a283ba655d87677ec603f0", func := "loop.example/g00861/laws.FnExactPlaceCap", spec := "fnExactPlaceCap", unfollowed := true, recurses := true, plainKeys := false, apart := false }
def FnExactPlaceCapSaid : Prop := fnExactPlaceCapRow.holds Tryz.pinned (OpenSpec.ofChange fnExactPlaceCapSpec)

/-- ITS FALSE NEIGHBOUR: 'it returns false'. Refute it at one input. -/
def fnExactPlaceCapWrong : ChangeSpec := { name := "fnExactPlaceCap", fn := fun _ => fun
  | [d1, d2, d3] => { results := [.lit (.bool false)], args := [d1, d2, d3] }
  | _ => none }
def FnExactPlaceCapWrongFalsely : Prop := fnExactPlaceCapRow.holds Tryz.pinned (OpenSpec.ofChange fnExactPlaceCapWrong)

/- THE SECOND FORM. 'bulk': how many values and letters a reading holds, each counted each time it is reached (what is shared counts as often as it is met; a slice's spare places count too). A statement '..UptoSaid' is the law's where the arguments, and the package variables that the reading takes, are together of bulk at most 1048576: NARROWER than '..Said'. Prove '..Said' where nothing that the law and all that it calls make is longer than what came in: it says more and counts as full. Else prove '..UptoSaid'. A law counts once. -/
mutual
def uptoBulk {H : Type} : DataW H → Nat
  | .lit (.string bytes) => bytes.length + 1
  | .lit _ => 1
  | .nil => 1
  | .ptr d => uptoBulk d + 1
  | .slice elems spare => uptoBulkAll elems + uptoBulkAll spare + 1
  | .agg parts => uptoBulkAll parts + 1
  | .iface _ d => uptoBulk d + 1
  | .map entries => uptoBulkEntries entries + 1
  | .held _ => 1
def uptoBulkAll {H : Type} : List (DataW H) → Nat
  | [] => 0
  | d :: r => uptoBulk d + uptoBulkAll r
def uptoBulkEntries {H : Type} : List (Lit × DataW H) → Nat
  | [] => 0
  | x :: r => uptoBulkEntry x + uptoBulkEntries r
def uptoBulkEntry {H : Type} : Lit × DataW H → Nat
  | (.string bytes, d) => bytes.length + uptoBulk d + 1
  | (_, d) => uptoBulk d + 1
 end
def uptoSmall : (H : Type) → List (DataW H) → Bool := fun _ ds => decide (uptoBulkAll ds ≤ 1048576)
def OpenSpec.upto (s : _root_.Go.ChangeSpec) : _root_.Go.OpenSpec := { _root_.Go.OpenSpec.ofChange s with cond := some uptoSmall }

/-- 'laws.FnExactIsDesign', WHERE WHAT IT READS IS OF BULK AT MOST 1048576: true; the input reads as it did. -/
def fnExactIsDesignUptoRow : OpenClaim := { program := "ytibonacjbidfmaagreat", sum := "986dc077a6d48a741353d5bac3fa38fcf7a8987b63a283ba655d87677ec603f0", func := "loop.example/g00861/laws.FnExactIsDesign", spec := "fnExactIsDesign", unfollowed := true, recurses := true, plainKeys := false, apart := false, narrowed := true }
def FnExactIsDesignUptoSaid : Prop := fnExactIsDesignUptoRow.holds Tryz.pinned (OpenSpec.upto fnExactIsDesignSpec)

/-- 'laws.FnExactPlaceCount', WHERE WHAT IT READS IS OF BULK AT MOST 1048576: true; the input reads as it did. -/
def fnExactPlaceCountUptoRow : OpenClaim := { program := "ytibonacjbidfmaagreat", sum := "986dc077a6d48a741353d5bac3fa38fcf7a8987b63a283ba655d87677ec603f0", func := "loop.example/g00861/laws.FnExactPlaceCount", spec := "fnExactPlaceCount", unfollowed := true, recurses := true, plainKeys := false, apart := false, narrowed := true }
def FnExactPlaceCountUptoSaid : Prop := fnExactPlaceCountUptoRow.holds Tryz.pinned (OpenSpec.upto fnExactPlaceCountSpec)

/-- 'laws.FnExactPlaceOf', WHERE WHAT IT READS IS OF BULK AT MOST 1048576: true; the input reads as it did. -/
def fnExactPlaceOfUptoRow : OpenClaim := { program := "ytibonacjbidfmaagreat", sum := "986dc077a6d48a741353d5bac3fa38fcf7a8987b63a283ba655d87677ec603f0", func := "loop.example/g00861/laws.FnExactPlaceOf", spec := "fnExactPlaceOf", unfollowed := true, recurses := true, plainKeys := false, apart := false, narrowed := true }
def FnExactPlaceOfUptoSaid : Prop := fnExactPlaceOfUptoRow.holds Tryz.pinned (OpenSpec.upto fnExactPlaceOfSpec)

/-- 'laws.FnExactInstanceOf', WHERE WHAT IT READS IS OF BULK AT MOST 1048576: true; the input reads as it did. -/
def fnExactInstanceOfUptoRow : OpenClaim := { program := "ytibonacjbidfmaagreat", sum := "986dc077a6d48a741353d5bac3fa38fcf7a8987b63a283ba655d87677ec603f0", func := "loop.example/g00861/laws.FnExactInstanceOf", spec := "fnExactInstanceOf", unfollowed := true, recurses := true, plainKeys := false, apart := false, narrowed := true }
def FnExactInstanceOfUptoSaid : Prop := fnExactInstanceOfUptoRow.holds Tryz.pinned (OpenSpec.upto fnExactInstanceOfSpec)

/-- 'laws.FnExactPlaceName', WHERE WHAT IT READS IS OF BULK AT MOST 1048576: true; the input reads as it did. -/
def fnExactPlaceNameUptoRow : OpenClaim := { program := "ytibonacjbidfmaagreat", sum := "986dc077a6d48a741353d5bac3fa38fcf7a8987b63a283ba655d87677ec603f0", func := "loop.example/g00861/laws.FnExactPlaceName", spec := "fnExactPlaceName", unfollowed := true, recurses := true, plainKeys := false, apart := false, narrowed := true }
def FnExactPlaceNameUptoSaid : Prop := fnExactPlaceNameUptoRow.holds Tryz.pinned (OpenSpec.upto fnExactPlaceNameSpec)

/-- 'laws.FnExactPlaceNamed', WHERE WHAT IT READS IS OF BULK AT MOST 1048576: true; the input reads as it did. -/
def fnExactPlaceNamedUptoRow : OpenClaim := { program := "ytibonacjbidfmaagreat", sum := "986dc077a6d48a741353d5bac3fa38fcf7a8987b63a283ba655d87677ec603f0", func := "loop.example/g00861/laws.FnExactPlaceNamed", spec := "fnExactPlaceNamed", unfollowed := true, recurses := true, plainKeys := false, apart := false, narrowed := true }
def FnExactPlaceNamedUptoSaid : Prop := fnExactPlaceNamedUptoRow.holds Tryz.pinned (OpenSpec.upto fnExactPlaceNamedSpec)

/-- 'laws.FnExactNetOfPlace', WHERE WHAT IT READS IS OF BULK AT MOST 1048576: true; the input reads as it did. -/
def fnExactNetOfPlaceUptoRow : OpenClaim := { program := "ytibonacjbidfmaagreat", sum := "986dc077a6d48a741353d5bac3fa38fcf7a8987b63a283ba655d87677ec603f0", func := "loop.example/g00861/laws.FnExactNetOfPlace", spec := "fnExactNetOfPlace", unfollowed := true, recurses := true, plainKeys := false, apart := false, narrowed := true }
def FnExactNetOfPlaceUptoSaid : Prop := fnExactNetOfPlaceUptoRow.holds Tryz.pinned (OpenSpec.upto fnExactNetOfPlaceSpec)

/-- 'laws.FnExactDriverOf', WHERE WHAT IT READS IS OF BULK AT MOST 1048576: true; the input reads as it did. -/
def fnExactDriverOfUptoRow : OpenClaim := { program := "ytibonacjbidfmaagreat", sum := "986dc077a6d48a741353d5bac3fa38fcf7a8987b63a283ba655d87677ec603f0", func := "loop.example/g00861/laws.FnExactDriverOf", spec := "fnExactDriverOf", unfollowed := true, recurses := true, plainKeys := false, apart := false, narrowed := true }
def FnExactDriverOfUptoSaid : Prop := fnExactDriverOfUptoRow.holds Tryz.pinned (OpenSpec.upto fnExactDriverOfSpec)

/-- 'laws.FnExactSinksOf', WHERE WHAT IT READS IS OF BULK AT MOST 1048576: true; the input reads as it did. -/
def fnExactSinksOfUptoRow : OpenClaim := { program := "ytibonacjbidfmaagreat", sum := "986dc077a6d48a741353d5bac3fa38fcf7a8987b63a283ba655d87677ec603f0", func := "loop.example/g00861/laws.FnExactSinksOf", spec := "fnExactSinksOf", unfollowed := true, recurses := true, plainKeys := false, apart := false, narrowed := true }
def FnExactSinksOfUptoSaid : Prop := fnExactSinksOfUptoRow.holds Tryz.pinned (OpenSpec.upto fnExactSinksOfSpec)

/-- 'laws.FnExactPlaceCap', WHERE WHAT IT READS IS OF BULK AT MOST 1048576: true; the input reads as it did. -/
def fnExactPlaceCapUptoRow : OpenClaim := { program := "ytibonacjbidfmaagreat", sum := "986dc077a6d48a741353d5bac3fa38fcf7a8987b63a283ba655d87677ec603f0", func := "loop.example/g00861/laws.FnExactPlaceCap", spec := "fnExactPlaceCap", unfollowed := true, recurses := true, plainKeys := false, apart := false, narrowed := true }
def FnExactPlaceCapUptoSaid : Prop := fnExactPlaceCapUptoRow.holds Tryz.pinned (OpenSpec.upto fnExactPlaceCapSpec)

end Rows
end Go.Proofs.YtibonacjbidfmaaGreat
