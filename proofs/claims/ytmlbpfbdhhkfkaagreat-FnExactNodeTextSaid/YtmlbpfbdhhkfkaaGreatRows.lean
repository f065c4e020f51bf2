/-
  No cell of these rows narrows 'for every input' (looked for: loops, veiled, ifaces, maps, wideKeys, modest, calm, conditions, laid).
  DERIVED. THE GIVEN ROWS OF THIS SEAT. 8 by the template 'for every input the law returns true; each argument reads behind the call as it read before'; 0 by the template 'total and deterministic' (their statements: YtmlbpfbdhhkfkaaGreatTotals.lean).
  GIVEN WITH THE SEED: the statements are not yours to turn. If you find one false, say at which input.
  Laid BY PROGRAM, IN A SANDBOX (cutbox-rows.mjs): the forced cells as the released guide's own fill.sh prints them over the translation 4deca14374b22a58… (all of the seat's roots in one cut). By AI agents, Wed Nov 11 2026. No macro, syntax, notation, axiom, sorry.
-/
import Derived.Test.YtmlbpfbdhhkfkaaGreatChecked
import GoSem.Claim
import GoSem.ClaimJoined
import GoSem.ClaimMapViews
import Derived.JoinedTies
import Derived.KernelRfl
namespace Go.Proofs.YtmlbpfbdhhkfkaaGreat
/- THE CELL 'sum', in the pinned program and in every row, IS THE sha256 OF THE DUMP (.gsa) THAT YtmlbpfbdhhkfkaaGreatProg.lean LOADS. Nothing in Lean hashes anything: it is a label: what it is worth is what the hold of that sum in a sandbox is worth. -/
noncomputable def Tryz.pinned : Pinned := { name := "ytmlbpfbdhhkfkaagreat", sum := "4deca14374b22a584536ce8d70e4a97f2f17a9a9f4e4ed71baea4d1becb2a76c", checked := Tryz.checked }
namespace Rows
def none {H : Type} : Left H := { results := [], args := [] }

/-- 'laws.FnExactLinksOf': WHATEVER THE INPUT: true; the input reads as it did. -/
def fnExactLinksOfSpec : ChangeSpec := { name := "fnExactLinksOf", fn := fun _ => fun
  | [d] => { results := [.lit (.bool true)], args := [d] }
  | _ => none }
def fnExactLinksOfRow : OpenClaim := { program := "ytmlbpfbdhhkfkaagreat", sum := "4deca14374b22a584536ce8d70e4a97f2f17a9a9f4e4ed71baea4d1becb2a76c", func := "loop.example/g00861/laws.FnExactLinksOf", spec := "fnExactLinksOf", unfollowed := true, recurses := true, plainKeys := false, apart := false }
def FnExactLinksOfSaid : Prop := fnExactLinksOfRow.holds Tryz.pinned (OpenSpec.ofChange fnExactLinksOfSpec)

/-- ITS FALSE NEIGHBOUR: 'it returns false'. Refute it at one input. -/
def fnExactLinksOfWrong : ChangeSpec := { name := "fnExactLinksOf", fn := fun _ => fun
  | [d] => { results := [.lit (.bool false)], args := [d] }
  | _ => none }
def FnExactLinksOfWrongFalsely : Prop := fnExactLinksOfRow.holds Tryz.pinned (OpenSpec.ofChange fnExactLinksOfWrong)

/-- 'laws.FnExactNodeCount': WHATEVER THE INPUT: true; the input reads as it did. -/
def fnExactNodeCountSpec : ChangeSpec := { name := "fnExactNodeCount", fn := fun _ => fun
  | [d] => { results := [.lit (.bool true)], args := [d] }
  | _ => none }
def fnExactNodeCountRow : OpenClaim := { program := "ytmlbpfbdhhkfkaagreat", sum := "4deca14374b22a584536ce8d70e4a97f2f17a9a9f4e4ed71baea4d1becb2a76c", func := "loop.example/g00861/laws.FnExactNodeCount", spec := "fnExactNodeCount", unfollowed := true, recurses := true, plainKeys := false, apart := false }
def FnExactNodeCountSaid : Prop := fnExactNodeCountRow.holds Tryz.pinned (OpenSpec.ofChange fnExactNodeCountSpec)

/-- ITS FALSE NEIGHBOUR: 'it returns false'. Refute it at one input. -/
def fnExactNodeCountWrong : ChangeSpec := { name := "fnExactNodeCount", fn := fun _ => fun
  | [d] => { results := [.lit (.bool false)], args := [d] }
  | _ => none }
def FnExactNodeCountWrongFalsely : Prop := fnExactNodeCountRow.holds Tryz.pinned (OpenSpec.ofChange fnExactNodeCountWrong)

/-- 'laws.FnExactNodeText': WHATEVER THE INPUT: true; the input reads as it did. -/
def fnExactNodeTextSpec : ChangeSpec := { name := "fnExactNodeText", fn := fun _ => fun
  | [d1, d2] => { results := [.lit (.bool true)], args := [d1, d2] }
  | _ => none }
def fnExactNodeTextRow : OpenClaim := { program := "ytmlbpfbdhhkfkaagreat", sum := "4deca14374b22a584536ce8d70e4a97f2f17a9a9f4e4ed71baea4d1becb2a76c", func := "loop.example/g00861/laws.FnExactNodeText", spec := "fnExactNodeText", unfollowed := true, recurses := true, plainKeys := false, apart := false }
def FnExactNodeTextSaid : Prop := fnExactNodeTextRow.holds Tryz.pinned (OpenSpec.ofChange fnExactNodeTextSpec)

/-- ITS FALSE NEIGHBOUR: 'it returns false'. Refute it at one input. -/
def fnExactNodeTextWrong : ChangeSpec := { name := "fnExactNodeText", fn := fun _ => fun
  | [d1, d2] => { results := [.lit (.bool false)], args := [d1, d2] }
  | _ => none }
def FnExactNodeTextWrongFalsely : Prop := fnExactNodeTextRow.holds Tryz.pinned (OpenSpec.ofChange fnExactNodeTextWrong)

/-- 'laws.FnExactLinksFrom': WHATEVER THE INPUT: true; the input reads as it did. -/
def fnExactLinksFromSpec : ChangeSpec := { name := "fnExactLinksFrom", fn := fun _ => fun
  | [d1, d2, d3] => { results := [.lit (.bool true)], args := [d1, d2, d3] }
  | _ => none }
def fnExactLinksFromRow : OpenClaim := { program := "ytmlbpfbdhhkfkaagreat", sum := "4deca14374b22a584536ce8d70e4a97f2f17a9a9f4e4ed71baea4d1becb2a76c", func := "loop.example/g00861/laws.FnExactLinksFrom", spec := "fnExactLinksFrom", unfollowed := true, recurses := true, plainKeys := false, apart := false }
def FnExactLinksFromSaid : Prop := fnExactLinksFromRow.holds Tryz.pinned (OpenSpec.ofChange fnExactLinksFromSpec)

/-- ITS FALSE NEIGHBOUR: 'it returns false'. Refute it at one input. -/
def fnExactLinksFromWrong : ChangeSpec := { name := "fnExactLinksFrom", fn := fun _ => fun
  | [d1, d2, d3] => { results := [.lit (.bool false)], args := [d1, d2, d3] }
  | _ => none }
def FnExactLinksFromWrongFalsely : Prop := fnExactLinksFromRow.holds Tryz.pinned (OpenSpec.ofChange fnExactLinksFromWrong)

/-- 'laws.FnExactLinksTo': WHATEVER THE INPUT: true; the input reads as it did. -/
def fnExactLinksToSpec : ChangeSpec := { name := "fnExactLinksTo", fn := fun _ => fun
  | [d1, d2, d3] => { results := [.lit (.bool true)], args := [d1, d2, d3] }
  | _ => none }
def fnExactLinksToRow : OpenClaim := { program := "ytmlbpfbdhhkfkaagreat", sum := "4deca14374b22a584536ce8d70e4a97f2f17a9a9f4e4ed71baea4d1becb2a76c", func := "loop.example/g00861/laws.FnExactLinksTo", spec := "fnExactLinksTo", unfollowed := true, recurses := true, plainKeys := false, apart := false }
def FnExactLinksToSaid : Prop := fnExactLinksToRow.holds Tryz.pinned (OpenSpec.ofChange fnExactLinksToSpec)

/-- ITS FALSE NEIGHBOUR: 'it returns false'. Refute it at one input. -/
def fnExactLinksToWrong : ChangeSpec := { name := "fnExactLinksTo", fn := fun _ => fun
  | [d1, d2, d3] => { results := [.lit (.bool false)], args := [d1, d2, d3] }
  | _ => none }
def FnExactLinksToWrongFalsely : Prop := fnExactLinksToRow.holds Tryz.pinned (OpenSpec.ofChange fnExactLinksToWrong)

/-- 'laws.FnExactTopologicalOrder': WHATEVER THE INPUT: true; the input reads as it did. -/
def fnExactTopologicalOrderSpec : ChangeSpec := { name := "fnExactTopologicalOrder", fn := fun _ => fun
  | [d1, d2] => { results := [.lit (.bool true)], args := [d1, d2] }
  | _ => none }
def fnExactTopologicalOrderRow : OpenClaim := { program := "ytmlbpfbdhhkfkaagreat", sum := "4deca14374b22a584536ce8d70e4a97f2f17a9a9f4e4ed71baea4d1becb2a76c", func := "loop.example/g00861/laws.FnExactTopologicalOrder", spec := "fnExactTopologicalOrder", inPlace := ["slices.overlaps[int64]"], unfollowed := true, recurses := true, plainKeys := false, apart := false }
def FnExactTopologicalOrderSaid : Prop := fnExactTopologicalOrderRow.holds Tryz.pinned (OpenSpec.ofChange fnExactTopologicalOrderSpec)

/-- ITS FALSE NEIGHBOUR: 'it returns false'. Refute it at one input. -/
def fnExactTopologicalOrderWrong : ChangeSpec := { name := "fnExactTopologicalOrder", fn := fun _ => fun
  | [d1, d2] => { results := [.lit (.bool false)], args := [d1, d2] }
  | _ => none }
def FnExactTopologicalOrderWrongFalsely : Prop := fnExactTopologicalOrderRow.holds Tryz.pinned (OpenSpec.ofChange fnExactTopologicalOrderWrong)

/-- 'laws.FnExactFanOut': WHATEVER THE INPUT: true; the input reads as it did. -/
def fnExactFanOutSpec : ChangeSpec := { name := "fnExactFanOut", fn := fun _ => fun
  | [d1, d2, d3] => { results := [.lit (.bool true)], args := [d1, d2, d3] }
  | _ => none }
def fnExactFanOutRow : OpenClaim := { program := "ytmlbpfbdhhkfkaagreat", sum := "4deca14374b22a584536ce8d70e4a97f2f17a9a9f4e4ed71baea4d1becb2a76c", func := "loop.example/g00861/laws.FnExactFanOut", spec := "fnExactFanOut", unfollowed := true, recurses := true, plainKeys := false, apart := false }
def FnExactFanOutSaid : Prop := fnExactFanOutRow.holds Tryz.pinned (OpenSpec.ofChange fnExactFanOutSpec)

/-- ITS FALSE NEIGHBOUR: 'it returns false'. Refute it at one input. -/
def fnExactFanOutWrong : ChangeSpec := { name := "fnExactFanOut", fn := fun _ => fun
  | [d1, d2, d3] => { results := [.lit (.bool false)], args := [d1, d2, d3] }
  | _ => none }
def FnExactFanOutWrongFalsely : Prop := fnExactFanOutRow.holds Tryz.pinned (OpenSpec.ofChange fnExactFanOutWrong)

/-- 'laws.FnExactFanIn': WHATEVER THE INPUT: true; the input reads as it did. -/
def fnExactFanInSpec : ChangeSpec := { name := "fnExactFanIn", fn := fun _ => fun
  | [d1, d2, d3] => { results := [.lit (.bool true)], args := [d1, d2, d3] }
  | _ => none }
def fnExactFanInRow : OpenClaim := { program := "ytmlbpfbdhhkfkaagreat", sum := "4deca14374b22a584536ce8d70e4a97f2f17a9a9f4e4ed71baea4d1becb2a76c", func := "loop.example/g00861/laws.FnExactFanIn", spec := "fnExactFanIn", unfollowed := true, recurses := true, plainKeys := false, apart := false }
def FnExactFanInSaid : Prop := fnExactFanInRow.holds Tryz.pinned (OpenSpec.ofChange fnExactFanInSpec)

/-- ITS FALSE NEIGHBOUR: 'it returns false'. Refute it at one input. -/
def fnExactFanInWrong : ChangeSpec := { name := "fnExactFanIn", fn := fun _ => fun
  | [d1, d2, d3] => { results := [.lit (.bool false)], args := [d1, d2, d3] }
  | _ => none }
def FnExactFanInWrongFalsely : Prop := fnExactFanInRow.holds Tryz.pinned (OpenSpec.ofChange fnExactFanInWrong)

/- THE SECOND FORM. 'bulk': how many values and letters a reading holds, each counted each time it is reached (what is shared counts as often as it is met; a slice's spare places count too). A statement '..UptoSaid' is the law's where the arguments, and the package variables that the reading takes, are together of bulk at most 1048576: NARROWER than '..Said'. Prove '..Said' where nothing that the law and all that it calls make is longer than what came in: it says more and counts as full. Else prove '..UptoSaid'. A law counts once. -/
mutual
def uptoBulk {H : Type} : DataW H → Nat
  | .lit (.string bytes) => bytes.length + 1
  | .lit _ => 1
  | .nil => 1
  | .ptr d => uptoBulk d + 1
  | .slice elems spare => uptoBulkAll elems + uptoBulkAll spare + 1
  | .agg parts => uptoBulkAll parts + 1
  | .iface _ d => uptoBulk d + 1
  | .map entries => uptoBulkEntries entries + 1
  | .held _ => 1
def uptoBulkAll {H : Type} : List (DataW H) → Nat
  | [] => 0
  | d :: r => uptoBulk d + uptoBulkAll r
def uptoBulkEntries {H : Type} : List (Lit × DataW H) → Nat
  | [] => 0
  | x :: r => uptoBulkEntry x + uptoBulkEntries r
def uptoBulkEntry {H : Type} : Lit × DataW H → Nat
  | (.string bytes, d) => bytes.length + uptoBulk d + 1
  | (_, d) => uptoBulk d + 1
 end
def uptoSmall : (H : Type) → List (DataW H) → Bool := fun _ ds => decide (uptoBulkAll ds ≤ 1048576)
def OpenSpec.upto (s : _root_.Go.ChangeSpec) : _root_.Go.OpenSpec := { _root_.Go.OpenSpec.ofChange s with cond := some uptoSmall }

/-- 'laws.FnExactLinksOf', WHERE WHAT IT READS IS OF BULK AT MOST 1048576: true; the input reads as it did. -/
def fnExactLinksOfUptoRow : OpenClaim := { program := "ytmlbpfbdhhkfkaagreat", sum := "4deca14374b22a584536ce8d70e4a97f2f17a9a9f4e4ed71baea4d1becb2a76c", func := "loop.example/g00861/laws.FnExactLinksOf", spec := "fnExactLinksOf", unfollowed := true, recurses := true, plainKeys := false, apart := false, narrowed := true }
def FnExactLinksOfUptoSaid : Prop := fnExactLinksOfUptoRow.holds Tryz.pinned (OpenSpec.upto fnExactLinksOfSpec)

/-- 'laws.FnExactNodeCount', WHERE WHAT IT READS IS OF BULK AT MOST 1048576: true; the input reads as it did. -/
def fnExactNodeCountUptoRow : OpenClaim := { program := "ytmlbpfbdhhkfkaagreat", sum := "4deca14374b22a584536ce8d70e4a97f2f17a9a9f4e4ed71baea4d1becb2a76c", func := "loop.example/g00861/laws.FnExactNodeCount", spec := "fnExactNodeCount", unfollowed := true, recurses := true, plainKeys := false, apart := false, narrowed := true }
def FnExactNodeCountUptoSaid : Prop := fnExactNodeCountUptoRow.holds Tryz.pinned (OpenSpec.upto fnExactNodeCountSpec)

/-- 'laws.FnExactNodeText', WHERE WHAT IT READS IS OF BULK AT MOST 1048576: true; the input reads as it did. -/
def fnExactNodeTextUptoRow : OpenClaim := { program := "ytmlbpfbdhhkfkaagreat", sum := "4deca14374b22a584536ce8d70e4a97f2f17a9a9f4e4ed71baea4d1becb2a76c", func := "loop.example/g00861/laws.FnExactNodeText", spec := "fnExactNodeText", unfollowed := true, recurses := true, plainKeys := false, apart := false, narrowed := true }
def FnExactNodeTextUptoSaid : Prop := fnExactNodeTextUptoRow.holds Tryz.pinned (OpenSpec.upto fnExactNodeTextSpec)

/-- 'laws.FnExactLinksFrom', WHERE WHAT IT READS IS OF BULK AT MOST 1048576: true; the input reads as it did. -/
def fnExactLinksFromUptoRow : OpenClaim := { program := "ytmlbpfbdhhkfkaagreat", sum := "4deca14374b22a584536ce8d70e4a97f2f17a9a9f4e4ed71baea4d1becb2a76c", func := "loop.example/g00861/laws.FnExactLinksFrom", spec := "fnExactLinksFrom", unfollowed := true, recurses := true, plainKeys := false, apart := false, narrowed := true }
def FnExactLinksFromUptoSaid : Prop := fnExactLinksFromUptoRow.holds Tryz.pinned (OpenSpec.upto fnExactLinksFromSpec)

/-- 'laws.FnExactLinksTo', WHERE WHAT IT READS IS OF BULK AT MOST 1048576: true; the input reads as it did. -/
def fnExactLinksToUptoRow : OpenClaim := { program := "ytmlbpfbdhhkfkaagreat", sum := "4deca14374b22a584536ce8d70e4a97f2f17a9a9f4e4ed71baea4d1becb2a76c", func := "loop.example/g00861/laws.FnExactLinksTo", spec := "fnExactLinksTo", unfollowed := true, recurses := true, plainKeys := false, apart := false, narrowed := true }
def FnExactLinksToUptoSaid : Prop := fnExactLinksToUptoRow.holds Tryz.pinned (OpenSpec.upto fnExactLinksToSpec)

/-- 'laws.FnExactTopologicalOrder', WHERE WHAT IT READS IS OF BULK AT MOST 1048576: true; the input reads as it did. -/
def fnExactTopologicalOrderUptoRow : OpenClaim := { program := "ytmlbpfbdhhkfkaagreat", sum := "4deca14374b22a584536ce8d70e4a97f2f17a9a9f4e4ed71baea4d1becb2a76c", func := "loop.example/g00861/laws.FnExactTopologicalOrder", spec := "fnExactTopologicalOrder", inPlace := ["slices.overlaps[int64]"], unfollowed := true, recurses := true, plainKeys := false, apart := false, narrowed := true }
def FnExactTopologicalOrderUptoSaid : Prop := fnExactTopologicalOrderUptoRow.holds Tryz.pinned (OpenSpec.upto fnExactTopologicalOrderSpec)

/-- 'laws.FnExactFanOut', WHERE WHAT IT READS IS OF BULK AT MOST 1048576: true; the input reads as it did. -/
def fnExactFanOutUptoRow : OpenClaim := { program := "ytmlbpfbdhhkfkaagreat", sum := "4deca14374b22a584536ce8d70e4a97f2f17a9a9f4e4ed71baea4d1becb2a76c", func := "loop.example/g00861/laws.FnExactFanOut", spec := "fnExactFanOut", unfollowed := true, recurses := true, plainKeys := false, apart := false, narrowed := true }
def FnExactFanOutUptoSaid : Prop := fnExactFanOutUptoRow.holds Tryz.pinned (OpenSpec.upto fnExactFanOutSpec)

/-- 'laws.FnExactFanIn', WHERE WHAT IT READS IS OF BULK AT MOST 1048576: true; the input reads as it did. -/
def fnExactFanInUptoRow : OpenClaim := { program := "ytmlbpfbdhhkfkaagreat", sum := "4deca14374b22a584536ce8d70e4a97f2f17a9a9f4e4ed71baea4d1becb2a76c", func := "loop.example/g00861/laws.FnExactFanIn", spec := "fnExactFanIn", unfollowed := true, recurses := true, plainKeys := false, apart := false, narrowed := true }
def FnExactFanInUptoSaid : Prop := fnExactFanInUptoRow.holds Tryz.pinned (OpenSpec.upto fnExactFanInSpec)

end Rows
end Go.Proofs.YtmlbpfbdhhkfkaaGreat
