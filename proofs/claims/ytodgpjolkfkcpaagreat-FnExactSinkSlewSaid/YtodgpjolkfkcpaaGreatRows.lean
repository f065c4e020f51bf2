/-
  No cell of these rows narrows 'for every input' (looked for: loops, veiled, ifaces, maps, wideKeys, modest, calm, conditions, laid).
  DERIVED. THE GIVEN ROWS OF THIS SEAT. 5 by the template 'for every input the law returns true; each argument reads behind the call as it read before'; 0 by the template 'total and deterministic' (their statements: YtodgpjolkfkcpaaGreatTotals.lean).
  GIVEN WITH THE SEED: the statements are not yours to turn. If you find one false, say at which input.
  Laid BY PROGRAM, IN A SANDBOX (cutbox-rows.mjs): the forced cells as the released guide's own fill.sh prints them over the translation ce92bd73df363f82… (all of the seat's roots in one cut). By AI agents, Wed Nov 11 2026. No macro, syntax, notation, axiom, sorry.
-/
import Derived.Test.YtodgpjolkfkcpaaGreatChecked
import GoSem.Claim
import GoSem.ClaimJoined
import GoSem.ClaimMapViews
import Derived.JoinedTies
import Derived.KernelRfl
namespace Go.Proofs.YtodgpjolkfkcpaaGreat
/- THE CELL 'sum', in the pinned program and in every row, IS THE sha256 OF THE DUMP (.gsa) THAT YtodgpjolkfkcpaaGreatProg.lean LOADS. Nothing in Lean hashes anything: it is a label: what it is worth is what the hold of that sum in a sandbox is worth. -/
noncomputable def Tryz.pinned : Pinned := { name := "ytodgpjolkfkcpaagreat", sum := "ce92bd73df363f82fae27fe5a14d02d573c303a7e5a5fa05ac84f29635dd133d", checked := Tryz.checked }
namespace Rows
def none {H : Type} : Left H := { results := [], args := [] }

/-- 'laws.FnExactNodeLoads': WHATEVER THE INPUT: true; the input reads as it did. -/
def fnExactNodeLoadsSpec : ChangeSpec := { name := "fnExactNodeLoads", fn := fun _ => fun
  | [d1, d2] => { results := [.lit (.bool true)], args := [d1, d2] }
  | _ => none }
def fnExactNodeLoadsRow : OpenClaim := { program := "ytodgpjolkfkcpaagreat", sum := "ce92bd73df363f82fae27fe5a14d02d573c303a7e5a5fa05ac84f29635dd133d", func := "loop.example/g00861/laws.FnExactNodeLoads", spec := "fnExactNodeLoads", unfollowed := true, recurses := true, plainKeys := false, apart := false }
def FnExactNodeLoadsSaid : Prop := fnExactNodeLoadsRow.holds Tryz.pinned (OpenSpec.ofChange fnExactNodeLoadsSpec)

/-- ITS FALSE NEIGHBOUR: 'it returns false'. Refute it at one input. -/
def fnExactNodeLoadsWrong : ChangeSpec := { name := "fnExactNodeLoads", fn := fun _ => fun
  | [d1, d2] => { results := [.lit (.bool false)], args := [d1, d2] }
  | _ => none }
def FnExactNodeLoadsWrongFalsely : Prop := fnExactNodeLoadsRow.holds Tryz.pinned (OpenSpec.ofChange fnExactNodeLoadsWrong)

/-- 'laws.FnExactNetLoad': WHATEVER THE INPUT: true; the input reads as it did. -/
def fnExactNetLoadSpec : ChangeSpec := { name := "fnExactNetLoad", fn := fun _ => fun
  | [d1, d2] => { results := [.lit (.bool true)], args := [d1, d2] }
  | _ => none }
def fnExactNetLoadRow : OpenClaim := { program := "ytodgpjolkfkcpaagreat", sum := "ce92bd73df363f82fae27fe5a14d02d573c303a7e5a5fa05ac84f29635dd133d", func := "loop.example/g00861/laws.FnExactNetLoad", spec := "fnExactNetLoad", unfollowed := true, recurses := true, plainKeys := false, apart := false }
def FnExactNetLoadSaid : Prop := fnExactNetLoadRow.holds Tryz.pinned (OpenSpec.ofChange fnExactNetLoadSpec)

/-- ITS FALSE NEIGHBOUR: 'it returns false'. Refute it at one input. -/
def fnExactNetLoadWrong : ChangeSpec := { name := "fnExactNetLoad", fn := fun _ => fun
  | [d1, d2] => { results := [.lit (.bool false)], args := [d1, d2] }
  | _ => none }
def FnExactNetLoadWrongFalsely : Prop := fnExactNetLoadRow.holds Tryz.pinned (OpenSpec.ofChange fnExactNetLoadWrong)

/-- 'laws.FnExactNodeDelays': WHATEVER THE INPUT: true; the input reads as it did. -/
def fnExactNodeDelaysSpec : ChangeSpec := { name := "fnExactNodeDelays", fn := fun _ => fun
  | [d1, d2] => { results := [.lit (.bool true)], args := [d1, d2] }
  | _ => none }
def fnExactNodeDelaysRow : OpenClaim := { program := "ytodgpjolkfkcpaagreat", sum := "ce92bd73df363f82fae27fe5a14d02d573c303a7e5a5fa05ac84f29635dd133d", func := "loop.example/g00861/laws.FnExactNodeDelays", spec := "fnExactNodeDelays", unfollowed := true, recurses := true, plainKeys := false, apart := false }
def FnExactNodeDelaysSaid : Prop := fnExactNodeDelaysRow.holds Tryz.pinned (OpenSpec.ofChange fnExactNodeDelaysSpec)

/-- ITS FALSE NEIGHBOUR: 'it returns false'. Refute it at one input. -/
def fnExactNodeDelaysWrong : ChangeSpec := { name := "fnExactNodeDelays", fn := fun _ => fun
  | [d1, d2] => { results := [.lit (.bool false)], args := [d1, d2] }
  | _ => none }
def FnExactNodeDelaysWrongFalsely : Prop := fnExactNodeDelaysRow.holds Tryz.pinned (OpenSpec.ofChange fnExactNodeDelaysWrong)

/-- 'laws.FnExactSinkDelays': WHATEVER THE INPUT: true; the input reads as it did. -/
def fnExactSinkDelaysSpec : ChangeSpec := { name := "fnExactSinkDelays", fn := fun _ => fun
  | [d1, d2, d3] => { results := [.lit (.bool true)], args := [d1, d2, d3] }
  | _ => none }
def fnExactSinkDelaysRow : OpenClaim := { program := "ytodgpjolkfkcpaagreat", sum := "ce92bd73df363f82fae27fe5a14d02d573c303a7e5a5fa05ac84f29635dd133d", func := "loop.example/g00861/laws.FnExactSinkDelays", spec := "fnExactSinkDelays", unfollowed := true, recurses := true, plainKeys := false, apart := false }
def FnExactSinkDelaysSaid : Prop := fnExactSinkDelaysRow.holds Tryz.pinned (OpenSpec.ofChange fnExactSinkDelaysSpec)

/-- ITS FALSE NEIGHBOUR: 'it returns false'. Refute it at one input. -/
def fnExactSinkDelaysWrong : ChangeSpec := { name := "fnExactSinkDelays", fn := fun _ => fun
  | [d1, d2, d3] => { results := [.lit (.bool false)], args := [d1, d2, d3] }
  | _ => none }
def FnExactSinkDelaysWrongFalsely : Prop := fnExactSinkDelaysRow.holds Tryz.pinned (OpenSpec.ofChange fnExactSinkDelaysWrong)

/-- 'laws.FnExactSinkSlew': WHATEVER THE INPUT: true; the input reads as it did. -/
def fnExactSinkSlewSpec : ChangeSpec := { name := "fnExactSinkSlew", fn := fun _ => fun
  | [d1, d2, d3, d4, d5] => { results := [.lit (.bool true)], args := [d1, d2, d3, d4, d5] }
  | _ => none }
def fnExactSinkSlewRow : OpenClaim := { program := "ytodgpjolkfkcpaagreat", sum := "ce92bd73df363f82fae27fe5a14d02d573c303a7e5a5fa05ac84f29635dd133d", func := "loop.example/g00861/laws.FnExactSinkSlew", spec := "fnExactSinkSlew", unfollowed := true, recurses := true, plainKeys := false, apart := false }
def FnExactSinkSlewSaid : Prop := fnExactSinkSlewRow.holds Tryz.pinned (OpenSpec.ofChange fnExactSinkSlewSpec)

/-- ITS FALSE NEIGHBOUR: 'it returns false'. Refute it at one input. -/
def fnExactSinkSlewWrong : ChangeSpec := { name := "fnExactSinkSlew", fn := fun _ => fun
  | [d1, d2, d3, d4, d5] => { results := [.lit (.bool false)], args := [d1, d2, d3, d4, d5] }
  | _ => none }
def FnExactSinkSlewWrongFalsely : Prop := fnExactSinkSlewRow.holds Tryz.pinned (OpenSpec.ofChange fnExactSinkSlewWrong)

/- THE SECOND FORM. 'bulk': how many values and letters a reading holds, each counted each time it is reached (what is shared counts as often as it is met; a slice's spare places count too). A statement '..UptoSaid' is the law's where the arguments, and the package variables that the reading takes, are together of bulk at most 1048576: NARROWER than '..Said'. Prove '..Said' where nothing that the law and all that it calls make is longer than what came in: it says more and counts as full. Else prove '..UptoSaid'. A law counts once. -/
mutual
def uptoBulk {H : Type} : DataW H → Nat
  | .lit (.string bytes) => bytes.length + 1
  | .lit _ => 1
  | .nil => 1
  | .ptr d => uptoBulk d + 1
  | .slice elems spare => uptoBulkAll elems + uptoBulkAll spare + 1
  | .agg parts => uptoBulkAll parts + 1
  | .iface _ d => uptoBulk d + 1
  | .map entries => uptoBulkEntries entries + 1
  | .held _ => 1
def uptoBulkAll {H : Type} : List (DataW H) → Nat
  | [] => 0
  | d :: r => uptoBulk d + uptoBulkAll r
def uptoBulkEntries {H : Type} : List (Lit × DataW H) → Nat
  | [] => 0
  | x :: r => uptoBulkEntry x + uptoBulkEntries r
def uptoBulkEntry {H : Type} : Lit × DataW H → Nat
  | (.string bytes, d) => bytes.length + uptoBulk d + 1
  | (_, d) => uptoBulk d + 1
 end
def uptoSmall : (H : Type) → List (DataW H) → Bool := fun _ ds => decide (uptoBulkAll ds ≤ 1048576)
def OpenSpec.upto (s : _root_.Go.ChangeSpec) : _root_.Go.OpenSpec := { _root_.Go.OpenSpec.ofChange s with cond := some uptoSmall }

/-- 'laws.FnExactNodeLoads', WHERE WHAT IT READS IS OF BULK AT MOST 1048576: true; the input reads as it did. -/
def fnExactNodeLoadsUptoRow : OpenClaim := { program := "ytodgpjolkfkcpaagreat", sum := "ce92bd73df363f82fae27fe5a14d02d573c303a7e5a5fa05ac84f29635dd133d", func := "loop.example/g00861/laws.FnExactNodeLoads", spec := "fnExactNodeLoads", unfollowed := true, recurses := true, plainKeys := false, apart := false, narrowed := true }
def FnExactNodeLoadsUptoSaid : Prop := fnExactNodeLoadsUptoRow.holds Tryz.pinned (OpenSpec.upto fnExactNodeLoadsSpec)

/-- 'laws.FnExactNetLoad', WHERE WHAT IT READS IS OF BULK AT MOST 1048576: true; the input reads as it did. -/
def fnExactNetLoadUptoRow : OpenClaim := { program := "ytodgpjolkfkcpaagreat", sum := "ce92bd73df363f82fae27fe5a14d02d573c303a7e5a5fa05ac84f29635dd133d", func := "loop.example/g00861/laws.FnExactNetLoad", spec := "fnExactNetLoad", unfollowed := true, recurses := true, plainKeys := false, apart := false, narrowed := true }
def FnExactNetLoadUptoSaid : Prop := fnExactNetLoadUptoRow.holds Tryz.pinned (OpenSpec.upto fnExactNetLoadSpec)

/-- 'laws.FnExactNodeDelays', WHERE WHAT IT READS IS OF BULK AT MOST 1048576: true; the input reads as it did. -/
def fnExactNodeDelaysUptoRow : OpenClaim := { program := "ytodgpjolkfkcpaagreat", sum := "ce92bd73df363f82fae27fe5a14d02d573c303a7e5a5fa05ac84f29635dd133d", func := "loop.example/g00861/laws.FnExactNodeDelays", spec := "fnExactNodeDelays", unfollowed := true, recurses := true, plainKeys := false, apart := false, narrowed := true }
def FnExactNodeDelaysUptoSaid : Prop := fnExactNodeDelaysUptoRow.holds Tryz.pinned (OpenSpec.upto fnExactNodeDelaysSpec)

/-- 'laws.FnExactSinkDelays', WHERE WHAT IT READS IS OF BULK AT MOST 1048576: true; the input reads as it did. -/
def fnExactSinkDelaysUptoRow : OpenClaim := { program := "ytodgpjolkfkcpaagreat", sum := "ce92bd73df363f82fae27fe5a14d02d573c303a7e5a5fa05ac84f29635dd133d", func := "loop.example/g00861/laws.FnExactSinkDelays", spec := "fnExactSinkDelays", unfollowed := true, recurses := true, plainKeys := false, apart := false, narrowed := true }
def FnExactSinkDelaysUptoSaid : Prop := fnExactSinkDelaysUptoRow.holds Tryz.pinned (OpenSpec.upto fnExactSinkDelaysSpec)

/-- 'laws.FnExactSinkSlew', WHERE WHAT IT READS IS OF BULK AT MOST 1048576: true; the input reads as it did. -/
def fnExactSinkSlewUptoRow : OpenClaim := { program := "ytodgpjolkfkcpaagreat", sum := "ce92bd73df363f82fae27fe5a14d02d573c303a7e5a5fa05ac84f29635dd133d", func := "loop.example/g00861/laws.FnExactSinkSlew", spec := "fnExactSinkSlew", unfollowed := true, recurses := true, plainKeys := false, apart := false, narrowed := true }
def FnExactSinkSlewUptoSaid : Prop := fnExactSinkSlewUptoRow.holds Tryz.pinned (OpenSpec.upto fnExactSinkSlewSpec)

end Rows
end Go.Proofs.YtodgpjolkfkcpaaGreat
