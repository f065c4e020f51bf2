/-
  No cell of these rows narrows 'for every input' (looked for: loops, veiled, ifaces, maps, wideKeys, modest, calm, conditions, laid).
  DERIVED. THE GIVEN ROWS OF THIS SEAT. 3 by the template 'for every input the law returns true; each argument reads behind the call as it read before'; 0 by the template 'total and deterministic' (their statements: YtnmjfbloedmgeabTotals.lean).
  GIVEN WITH THE SEED: the statements are not yours to turn. If you find one false, say at which input.
  Laid BY PROGRAM, IN A SANDBOX (cutbox-rows.mjs): the forced cells as the released guide's own fill.sh prints them over the translation 9be0ae699c6d9fca… (all of the seat's roots in one cut). By AI agents, Wed Nov 11 2026. No macro, syntax, notation, axiom, sorry.
-/
import Derived.Test.YtnmjfbloedmgeabChecked
import GoSem.Claim
import GoSem.ClaimJoined
import GoSem.ClaimMapViews
import Derived.JoinedTies
import Derived.KernelRfl
namespace Go.Proofs.Ytnmjfbloedmgeab
/- THE CELL 'sum', in the pinned program and in every row, IS THE sha256 OF THE DUMP (.gsa) THAT YtnmjfbloedmgeabProg.lean LOADS. Nothing in Lean hashes anything: it is a label: what it is worth is what the hold of that sum in a sandbox is worth. -/
noncomputable def Try.pinned : Pinned := { name := "ytnmjfbloedmgeab", sum := "9be0ae699c6d9fca045fcc290dba1a42bc834de6369d80f31b8aaa36ce254c4a", checked := Try.checked }
namespace Rows
def none {H : Type} : Left H := { results := [], args := [] }

/-- 'laws.FnExactGateValue': WHATEVER THE INPUT: true; the input reads as it did. -/
def fnExactGateValueSpec : ChangeSpec := { name := "fnExactGateValue", fn := fun _ => fun
  | [d1, d2] => { results := [.lit (.bool true)], args := [d1, d2] }
  | _ => none }
def fnExactGateValueRow : OpenClaim := { program := "ytnmjfbloedmgeab", sum := "9be0ae699c6d9fca045fcc290dba1a42bc834de6369d80f31b8aaa36ce254c4a", func := "loop.example/g00861/laws.FnExactGateValue", spec := "fnExactGateValue", unfollowed := true, recurses := true, apart := false }
def FnExactGateValueSaid : Prop := fnExactGateValueRow.holds Try.pinned (OpenSpec.ofChange fnExactGateValueSpec)

/-- ITS FALSE NEIGHBOUR: 'it returns false'. Refute it at one input. -/
def fnExactGateValueWrong : ChangeSpec := { name := "fnExactGateValue", fn := fun _ => fun
  | [d1, d2] => { results := [.lit (.bool false)], args := [d1, d2] }
  | _ => none }
def FnExactGateValueWrongFalsely : Prop := fnExactGateValueRow.holds Try.pinned (OpenSpec.ofChange fnExactGateValueWrong)

/-- 'laws.FnExactSenseOf': WHATEVER THE INPUT: true; the input reads as it did. -/
def fnExactSenseOfSpec : ChangeSpec := { name := "fnExactSenseOf", fn := fun _ => fun
  | [d1, d2] => { results := [.lit (.bool true)], args := [d1, d2] }
  | _ => none }
def fnExactSenseOfRow : OpenClaim := { program := "ytnmjfbloedmgeab", sum := "9be0ae699c6d9fca045fcc290dba1a42bc834de6369d80f31b8aaa36ce254c4a", func := "loop.example/g00861/laws.FnExactSenseOf", spec := "fnExactSenseOf", unfollowed := true, recurses := true, apart := false }
def FnExactSenseOfSaid : Prop := fnExactSenseOfRow.holds Try.pinned (OpenSpec.ofChange fnExactSenseOfSpec)

/-- ITS FALSE NEIGHBOUR: 'it returns false'. Refute it at one input. -/
def fnExactSenseOfWrong : ChangeSpec := { name := "fnExactSenseOf", fn := fun _ => fun
  | [d1, d2] => { results := [.lit (.bool false)], args := [d1, d2] }
  | _ => none }
def FnExactSenseOfWrongFalsely : Prop := fnExactSenseOfRow.holds Try.pinned (OpenSpec.ofChange fnExactSenseOfWrong)

/-- 'laws.FnExactIsConsistent': WHATEVER THE INPUT: true; the input reads as it did. -/
def fnExactIsConsistentSpec : ChangeSpec := { name := "fnExactIsConsistent", fn := fun _ => fun
  | [d] => { results := [.lit (.bool true)], args := [d] }
  | _ => none }
def fnExactIsConsistentRow : OpenClaim := { program := "ytnmjfbloedmgeab", sum := "9be0ae699c6d9fca045fcc290dba1a42bc834de6369d80f31b8aaa36ce254c4a", func := "loop.example/g00861/laws.FnExactIsConsistent", spec := "fnExactIsConsistent", unfollowed := true, recurses := true, apart := false }
def FnExactIsConsistentSaid : Prop := fnExactIsConsistentRow.holds Try.pinned (OpenSpec.ofChange fnExactIsConsistentSpec)

/-- ITS FALSE NEIGHBOUR: 'it returns false'. Refute it at one input. -/
def fnExactIsConsistentWrong : ChangeSpec := { name := "fnExactIsConsistent", fn := fun _ => fun
  | [d] => { results := [.lit (.bool false)], args := [d] }
  | _ => none }
def FnExactIsConsistentWrongFalsely : Prop := fnExactIsConsistentRow.holds Try.pinned (OpenSpec.ofChange fnExactIsConsistentWrong)

/- THE SECOND FORM. 'bulk': how many values and letters a reading holds, each counted each time it is reached (what is shared counts as often as it is met; a slice's spare places count too). A statement '..UptoSaid' is the law's where the arguments, and the package variables that the reading takes, are together of bulk at most 1048576: NARROWER than '..Said'. Prove '..Said' where nothing that the law and all that it calls make is longer than what came in: it says more and counts as full. Else prove '..UptoSaid'. A law counts once. -/
mutual
def uptoBulk {H : Type} : DataW H → Nat
  | .lit (.string bytes) => bytes.length + 1
  | .lit _ => 1
  | .nil => 1
  | .ptr d => uptoBulk d + 1
  | .slice elems spare => uptoBulkAll elems + uptoBulkAll spare + 1
  | .agg parts => uptoBulkAll parts + 1
  | .iface _ d => uptoBulk d + 1
  | .map entries => uptoBulkEntries entries + 1
  | .held _ => 1
def uptoBulkAll {H : Type} : List (DataW H) → Nat
  | [] => 0
  | d :: r => uptoBulk d + uptoBulkAll r
def uptoBulkEntries {H : Type} : List (Lit × DataW H) → Nat
  | [] => 0
  | x :: r => uptoBulkEntry x + uptoBulkEntries r
def uptoBulkEntry {H : Type} : Lit × DataW H → Nat
  | (.string bytes, d) => bytes.length + uptoBulk d + 1
  | (_, d) => uptoBulk d + 1
 end
def uptoSmall : (H : Type) → List (DataW H) → Bool := fun _ ds => decide (uptoBulkAll ds ≤ 1048576)
def OpenSpec.upto (s : _root_.Go.ChangeSpec) : _root_.Go.OpenSpec := { _root_.Go.OpenSpec.ofChange s with cond := some uptoSmall }

/-- 'laws.FnExactGateValue', WHERE WHAT IT READS IS OF BULK AT MOST 1048576: true; the input reads as it did. -/
def fnExactGateValueUptoRow : OpenClaim := { program := "ytnmjfbloedmgeab", sum := "9be0ae699c6d9fca045fcc290dba1a42bc834de6369d80f31b8aaa36ce254c4a", func := "loop.example/g00861/laws.FnExactGateValue", spec := "fnExactGateValue", unfollowed := true, recurses := true, apart := false, narrowed := true }
def FnExactGateValueUptoSaid : Prop := fnExactGateValueUptoRow.holds Try.pinned (OpenSpec.upto fnExactGateValueSpec)

/-- 'laws.FnExactSenseOf', WHERE WHAT IT READS IS OF BULK AT MOST 1048576: true; the input reads as it did. -/
def fnExactSenseOfUptoRow : OpenClaim := { program := "ytnmjfbloedmgeab", sum := "9be0ae699c6d9fca045fcc290dba1a42bc834de6369d80f31b8aaa36ce254c4a", func := "loop.example/g00861/laws.FnExactSenseOf", spec := "fnExactSenseOf", unfollowed := true, recurses := true, apart := false, narrowed := true }
def FnExactSenseOfUptoSaid : Prop := fnExactSenseOfUptoRow.holds Try.pinned (OpenSpec.upto fnExactSenseOfSpec)

/-- 'laws.FnExactIsConsistent', WHERE WHAT IT READS IS OF BULK AT MOST 1048576: true; the input reads as it did. -/
def fnExactIsConsistentUptoRow : OpenClaim := { program := "ytnmjfbloedmgeab", sum := "9be0ae699c6d9fca045fcc290dba1a42bc834de6369d80f31b8aaa36ce254c4a", func := "loop.example/g00861/laws.FnExactIsConsistent", spec := "fnExactIsConsistent", unfollowed := true, recurses := true, apart := false, narrowed := true }
def FnExactIsConsistentUptoSaid : Prop := fnExactIsConsistentUptoRow.holds Try.pinned (OpenSpec.upto fnExactIsConsistentSpec)

end Rows
end Go.Proofs.Ytnmjfbloedmgeab
