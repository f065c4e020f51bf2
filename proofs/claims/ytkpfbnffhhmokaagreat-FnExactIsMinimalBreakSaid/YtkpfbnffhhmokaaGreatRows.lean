/-
  No cell of these rows narrows 'for every input' (looked for: loops, veiled, ifaces, maps, wideKeys, modest, calm, conditions, laid).
  DERIVED. THE GIVEN ROWS OF THIS SEAT. 6 by the template 'for every input the law returns true; each argument reads behind the call as it read before'; 0 by the template 'total and deterministic' (their statements: YtkpfbnffhhmokaaGreatTotals.lean).
  GIVEN WITH THE SEED: the statements are not yours to turn. If you find one false, say at which input.
  Laid BY PROGRAM, IN A SANDBOX (cutbox-rows.mjs): the forced cells as the released guide's own fill.sh prints them over the translation 3dbedf9fed92f7ac… (all of the seat's roots in one cut). By AI agents, Wed Nov 11 2026. No macro, syntax, notation, axiom, sorry.
-/
import Derived.Test.YtkpfbnffhhmokaaGreatChecked
import GoSem.Claim
import GoSem.ClaimJoined
import GoSem.ClaimMapViews
import Derived.JoinedTies
import Derived.KernelRfl
namespace Go.Proofs.YtkpfbnffhhmokaaGreat
/- THE CELL 'sum', in the pinned program and in every row, IS THE sha256 OF THE DUMP (.gsa) THAT YtkpfbnffhhmokaaGreatProg.lean LOADS. Nothing in Lean hashes anything: it is a label: what it is worth is what the hold of that sum in a sandbox is worth. -/
noncomputable def Tryz.pinned : Pinned := { name := "ytkpfbnffhhmokaagreat", sum := "3dbedf9fed92f7ac2cde514257abf632fbbca3372121799083103300ea35c0ab", checked := Tryz.checked }
namespace Rows
def none {H : Type} : Left H := { results := [], args := [] }

/-- 'laws.FnExactFanOut': WHATEVER THE INPUT: true; the input reads as it did. -/
def fnExactFanOutSpec : ChangeSpec := { name := "fnExactFanOut", fn := fun _ => fun
  | [d1, d2, d3] => { results := [.lit (.bool true)], args := [d1, d2, d3] }
  | _ => none }
def fnExactFanOutRow : OpenClaim := { program := "ytkpfbnffhhmokaagreat", sum := "3dbedf9fed92f7ac2cde514257abf632fbbca3372121799083103300ea35c0ab", func := "loop.example/g00861/laws.FnExactFanOut", spec := "fnExactFanOut", unfollowed := true, recurses := true, plainKeys := false, apart := false }
def FnExactFanOutSaid : Prop := fnExactFanOutRow.holds Tryz.pinned (OpenSpec.ofChange fnExactFanOutSpec)

/-- ITS FALSE NEIGHBOUR: 'it returns false'. Refute it at one input. -/
def fnExactFanOutWrong : ChangeSpec := { name := "fnExactFanOut", fn := fun _ => fun
  | [d1, d2, d3] => { results := [.lit (.bool false)], args := [d1, d2, d3] }
  | _ => none }
def FnExactFanOutWrongFalsely : Prop := fnExactFanOutRow.holds Tryz.pinned (OpenSpec.ofChange fnExactFanOutWrong)

/-- 'laws.FnExactFanIn': WHATEVER THE INPUT: true; the input reads as it did. -/
def fnExactFanInSpec : ChangeSpec := { name := "fnExactFanIn", fn := fun _ => fun
  | [d1, d2, d3] => { results := [.lit (.bool true)], args := [d1, d2, d3] }
  | _ => none }
def fnExactFanInRow : OpenClaim := { program := "ytkpfbnffhhmokaagreat", sum := "3dbedf9fed92f7ac2cde514257abf632fbbca3372121799083103300ea35c0ab", func := "loop.example/g00861/laws.FnExactFanIn", spec := "fnExactFanIn", unfollowed := true, recurses := true, plainKeys := false, apart := false }
def FnExactFanInSaid : Prop := fnExactFanInRow.holds Tryz.pinned (OpenSpec.ofChange fnExactFanInSpec)

/-- ITS FALSE NEIGHBOUR: 'it returns false'. Refute it at one input. -/
def fnExactFanInWrong : ChangeSpec := { name := "fnExactFanIn", fn := fun _ => fun
  | [d1, d2, d3] => { results := [.lit (.bool false)], args := [d1, d2, d3] }
  | _ => none }
def FnExactFanInWrongFalsely : Prop := fnExactFanInRow.holds Tryz.pinned (OpenSpec.ofChange fnExactFanInWrong)

/-- 'laws.FnExactTopologicalOrder': WHATEVER THE INPUT: true; the input reads as it did. -/
def fnExactTopologicalOrderSpec : ChangeSpec := { name := "fnExactTopologicalOrder", fn := fun _ => fun
  | [d1, d2] => { results := [.lit (.bool true)], args := [d1, d2] }
  | _ => none }
def fnExactTopologicalOrderRow : OpenClaim := { program := "ytkpfbnffhhmokaagreat", sum := "3dbedf9fed92f7ac2cde514257abf632fbbca3372121799083103300ea35c0ab", func := "loop.example/g00861/laws.FnExactTopologicalOrder", spec := "fnExactTopologicalOrder", inPlace := ["slices.overlaps[int64]"], unfollowed := true, recurses := true, plainKeys := false, apart := false }
def FnExactTopologicalOrderSaid : Prop := fnExactTopologicalOrderRow.holds Tryz.pinned (OpenSpec.ofChange fnExactTopologicalOrderSpec)

/-- ITS FALSE NEIGHBOUR: 'it returns false'. Refute it at one input. -/
def fnExactTopologicalOrderWrong : ChangeSpec := { name := "fnExactTopologicalOrder", fn := fun _ => fun
  | [d1, d2] => { results := [.lit (.bool false)], args := [d1, d2] }
  | _ => none }
def FnExactTopologicalOrderWrongFalsely : Prop := fnExactTopologicalOrderRow.holds Tryz.pinned (OpenSpec.ofChange fnExactTopologicalOrderWrong)

/-- 'laws.FnExactHasLoop': WHATEVER THE INPUT: true; the input reads as it did. -/
def fnExactHasLoopSpec : ChangeSpec := { name := "fnExactHasLoop", fn := fun _ => fun
  | [d1, d2] => { results := [.lit (.bool true)], args := [d1, d2] }
  | _ => none }
def fnExactHasLoopRow : OpenClaim := { program := "ytkpfbnffhhmokaagreat", sum := "3dbedf9fed92f7ac2cde514257abf632fbbca3372121799083103300ea35c0ab", func := "loop.example/g00861/laws.FnExactHasLoop", spec := "fnExactHasLoop", inPlace := ["slices.overlaps[int64]"], unfollowed := true, recurses := true, plainKeys := false, apart := false }
def FnExactHasLoopSaid : Prop := fnExactHasLoopRow.holds Tryz.pinned (OpenSpec.ofChange fnExactHasLoopSpec)

/-- ITS FALSE NEIGHBOUR: 'it returns false'. Refute it at one input. -/
def fnExactHasLoopWrong : ChangeSpec := { name := "fnExactHasLoop", fn := fun _ => fun
  | [d1, d2] => { results := [.lit (.bool false)], args := [d1, d2] }
  | _ => none }
def FnExactHasLoopWrongFalsely : Prop := fnExactHasLoopRow.holds Tryz.pinned (OpenSpec.ofChange fnExactHasLoopWrong)

/-- 'laws.FnExactRestoreLinks': WHATEVER THE INPUT: true; the input reads as it did. -/
def fnExactRestoreLinksSpec : ChangeSpec := { name := "fnExactRestoreLinks", fn := fun _ => fun
  | [d1, d2] => { results := [.lit (.bool true)], args := [d1, d2] }
  | _ => none }
def fnExactRestoreLinksRow : OpenClaim := { program := "ytkpfbnffhhmokaagreat", sum := "3dbedf9fed92f7ac2cde514257abf632fbbca3372121799083103300ea35c0ab", func := "loop.example/g00861/laws.FnExactRestoreLinks", spec := "fnExactRestoreLinks", inPlace := ["slices.overlaps[int64]"], unfollowed := true, recurses := true, plainKeys := false, apart := false }
def FnExactRestoreLinksSaid : Prop := fnExactRestoreLinksRow.holds Tryz.pinned (OpenSpec.ofChange fnExactRestoreLinksSpec)

/-- ITS FALSE NEIGHBOUR: 'it returns false'. Refute it at one input. -/
def fnExactRestoreLinksWrong : ChangeSpec := { name := "fnExactRestoreLinks", fn := fun _ => fun
  | [d1, d2] => { results := [.lit (.bool false)], args := [d1, d2] }
  | _ => none }
def FnExactRestoreLinksWrongFalsely : Prop := fnExactRestoreLinksRow.holds Tryz.pinned (OpenSpec.ofChange fnExactRestoreLinksWrong)

/-- 'laws.FnExactIsMinimalBreak': WHATEVER THE INPUT: true; the input reads as it did. -/
def fnExactIsMinimalBreakSpec : ChangeSpec := { name := "fnExactIsMinimalBreak", fn := fun _ => fun
  | [d1, d2] => { results := [.lit (.bool true)], args := [d1, d2] }
  | _ => none }
def fnExactIsMinimalBreakRow : OpenClaim := { program := "ytkpfbnffhhmokaagreat", sum := "3dbedf9fed92f7ac2cde514257abf632fbbca3372121799083103300ea35c0ab", func := "loop.example/g00861/laws.FnExactIsMinimalBreak", spec := "fnExactIsMinimalBreak", inPlace := ["slices.overlaps[int64]"], unfollowed := true, recurses := true, plainKeys := false, apart := false }
def FnExactIsMinimalBreakSaid : Prop := fnExactIsMinimalBreakRow.holds Tryz.pinned (OpenSpec.ofChange fnExactIsMinimalBreakSpec)

/-- ITS FALSE NEIGHBOUR: 'it returns false'. Refute it at one input. -/
def fnExactIsMinimalBreakWrong : ChangeSpec := { name := "fnExactIsMinimalBreak", fn := fun _ => fun
  | [d1, d2] => { results := [.lit (.bool false)], args := [d1, d2] }
  | _ => none }
def FnExactIsMinimalBreakWrongFalsely : Prop := fnExactIsMinimalBreakRow.holds Tryz.pinned (OpenSpec.ofChange fnExactIsMinimalBreakWrong)

/- THE SECOND FORM. 'bulk': how many values and letters a reading holds, each counted each time it is reached (what is shared counts as often as it is met; a slice's spare places count too). A statement '..UptoSaid' is the law's where the arguments, and the package variables that the reading takes, are together of bulk at most 1048576: NARROWER than '..Said'. Prove '..Said' where nothing that the law and all that it calls make is longer than what came in: it says more and counts as full. Else prove '..UptoSaid'. A law counts once. -/
mutual
def uptoBulk {H : Type} : DataW H → Nat
  | .lit (.string bytes) => bytes.length + 1
  | .lit _ => 1
  | .nil => 1
  | .ptr d => uptoBulk d + 1
  | .slice elems spare => uptoBulkAll elems + uptoBulkAll spare + 1
  | .agg parts => uptoBulkAll parts + 1
  | .iface _ d => uptoBulk d + 1
  | .map entries => uptoBulkEntries entries + 1
  | .held _ => 1
def uptoBulkAll {H : Type} : List (DataW H) → Nat
  | [] => 0
  | d :: r => uptoBulk d + uptoBulkAll r
def uptoBulkEntries {H : Type} : List (Lit × DataW H) → Nat
  | [] => 0
  | x :: r => uptoBulkEntry x + uptoBulkEntries r
def uptoBulkEntry {H : Type} : Lit × DataW H → Nat
  | (.string bytes, d) => bytes.length + uptoBulk d + 1
  | (_, d) => uptoBulk d + 1
 end
def uptoSmall : (H : Type) → List (DataW H) → Bool := fun _ ds => decide (uptoBulkAll ds ≤ 1048576)
def OpenSpec.upto (s : _root_.Go.ChangeSpec) : _root_.Go.OpenSpec := { _root_.Go.OpenSpec.ofChange s with cond := some uptoSmall }

/-- 'laws.FnExactFanOut', WHERE WHAT IT READS IS OF BULK AT MOST 1048576: true; the input reads as it did. -/
def fnExactFanOutUptoRow : OpenClaim := { program := "ytkpfbnffhhmokaagreat", sum := "3dbedf9fed92f7ac2cde514257abf632fbbca3372121799083103300ea35c0ab", func := "loop.example/g00861/laws.FnExactFanOut", spec := "fnExactFanOut", unfollowed := true, recurses := true, plainKeys := false, apart := false, narrowed := true }
def FnExactFanOutUptoSaid : Prop := fnExactFanOutUptoRow.holds Tryz.pinned (OpenSpec.upto fnExactFanOutSpec)

/-- 'laws.FnExactFanIn', WHERE WHAT IT READS IS OF BULK AT MOST 1048576: true; the input reads as it did. -/
def fnExactFanInUptoRow : OpenClaim := { program := "ytkpfbnffhhmokaagreat", sum := "3dbedf9fed92f7ac2cde514257abf632fbbca3372121799083103300ea35c0ab", func := "loop.example/g00861/laws.FnExactFanIn", spec := "fnExactFanIn", unfollowed := true, recurses := true, plainKeys := false, apart := false, narrowed := true }
def FnExactFanInUptoSaid : Prop := fnExactFanInUptoRow.holds Tryz.pinned (OpenSpec.upto fnExactFanInSpec)

/-- 'laws.FnExactTopologicalOrder', WHERE WHAT IT READS IS OF BULK AT MOST 1048576: true; the input reads as it did. -/
def fnExactTopologicalOrderUptoRow : OpenClaim := { program := "ytkpfbnffhhmokaagreat", sum := "3dbedf9fed92f7ac2cde514257abf632fbbca3372121799083103300ea35c0ab", func := "loop.example/g00861/laws.FnExactTopologicalOrder", spec := "fnExactTopologicalOrder", inPlace := ["slices.overlaps[int64]"], unfollowed := true, recurses := true, plainKeys := false, apart := false, narrowed := true }
def FnExactTopologicalOrderUptoSaid : Prop := fnExactTopologicalOrderUptoRow.holds Tryz.pinned (OpenSpec.upto fnExactTopologicalOrderSpec)

/-- 'laws.FnExactHasLoop', WHERE WHAT IT READS IS OF BULK AT MOST 1048576: true; the input reads as it did. -/
def fnExactHasLoopUptoRow : OpenClaim := { program := "ytkpfbnffhhmokaagreat", sum := "3dbedf9fed92f7ac2cde514257abf632fbbca3372121799083103300ea35c0ab", func := "loop.example/g00861/laws.FnExactHasLoop", spec := "fnExactHasLoop", inPlace := ["slices.overlaps[int64]"], unfollowed := true, recurses := true, plainKeys := false, apart := false, narrowed := true }
def FnExactHasLoopUptoSaid : Prop := fnExactHasLoopUptoRow.holds Tryz.pinned (OpenSpec.upto fnExactHasLoopSpec)

/-- 'laws.FnExactRestoreLinks', WHERE WHAT IT READS IS OF BULK AT MOST 1048576: true; the input reads as it did. -/
def fnExactRestoreLinksUptoRow : OpenClaim := { program := "ytkpfbnffhhmokaagreat", sum := "3dbedf9fed92f7ac2cde514257abf632fbbca3372121799083103300ea35c0ab", func := "loop.example/g00861/laws.FnExactRestoreLinks", spec := "fnExactRestoreLinks", inPlace := ["slices.overlaps[int64]"], unfollowed := true, recurses := true, plainKeys := false, apart := false, narrowed := true }
def FnExactRestoreLinksUptoSaid : Prop := fnExactRestoreLinksUptoRow.holds Tryz.pinned (OpenSpec.upto fnExactRestoreLinksSpec)

/-- 'laws.FnExactIsMinimalBreak', WHERE WHAT IT READS IS OF BULK AT MOST 1048576: true; the input reads as it did. -/
def fnExactIsMinimalBreakUptoRow : OpenClaim := { program := "ytkpfbnffhhmokaagreat", sum := "3dbedf9fed92f7ac2cde514257abf632fbbca3372121799083103300ea35c0ab", func := "loop.example/g00861/laws.FnExactIsMinimalBreak", spec := "fnExactIsMinimalBreak", inPlace := ["slices.overlaps[int64]"], unfollowed := true, recurses := true, plainKeys := false, apart := false, narrowed := true }
def FnExactIsMinimalBreakUptoSaid : Prop := fnExactIsMinimalBreakUptoRow.holds Tryz.pinned (OpenSpec.upto fnExactIsMinimalBreakSpec)

end Rows
end Go.Proofs.YtkpfbnffhhmokaaGreat
