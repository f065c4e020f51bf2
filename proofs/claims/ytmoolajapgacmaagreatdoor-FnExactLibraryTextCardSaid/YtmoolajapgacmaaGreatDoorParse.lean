/-
The contract of the model's ParseTime, for all strings of at most 2^20 bytes.
-/
import Derived.Test.YtmoolajapgacmaaGreatDoorTime
import Derived.Test.YtmoolajapgacmaaGreatDoorTimeBytes
import Derived.LoopTactic
import Derived.Laws.Strings
import Derived.OwnWalk
import Derived.Laws.AppendOwnNone
namespace Go.Proofs.YtmoolajapgacmaaGreatDoor
open Go.ChangeShapes Go.WideShapes Go.ChangeAt Go.RowKit
set_option linter.unusedVariables false
set_option maxRecDepth 100000
def cellsOfB (l : List UInt8) : List Value := l.map fun c => .int .u8 (c.toNat : Int)
theorem take_snocB (s : ByteArray) (k : Nat) (h : k < s.size) : s.data.toList.take (k + 1) = s.data.toList.take k ++ [s[k]] := by
  rw [List.take_succ_eq_append_getElem (by simpa using h)]; rfl
theorem digs_yes (s : ByteArray) (k : Nat) (h : k < s.size) (hk : keepC s[k] = true) : digs (s.data.toList.take (k + 1)) = digs (s.data.toList.take k) ++ [s[k]] := by
  rw [take_snocB s k h]; simp [digs, List.filter_append, hk]
theorem digs_no (s : ByteArray) (k : Nat) (h : k < s.size) (hk : keepC s[k] = false) : digs (s.data.toList.take (k + 1)) = digs (s.data.toList.take k) := by
  rw [take_snocB s k h]; simp [digs, List.filter_append, hk]
theorem one_cell (w : World) (x : Value) (t : TypeId) : ∀ j u, [x][j]? = some u → (w.alloc (Obj.cells #[x] t)).cell? ((⟨w.heap.size, 0, none⟩ : Addr).add j) = some u := by
  intro j u hj
  have h0 : j = 0 := by
    apply Classical.byContradiction
    intro hn
    rw [List.getElem?_eq_none (by simp; omega)] at hj
    cases hj
  subst h0
  simp at hj
  subst hj
  simp [Addr.add, go_sem]
theorem own_ge {w : World} {base : Nat} {e : TypeId} {size n : Nat} {v : Value} {xs : List Value} (h : w.ownsRow base e size v n xs) : ∀ k, v.ownBlock = some k → base ≤ k := by
  intro k hk
  rcases h.2 with ⟨rfl, _⟩ | ⟨g, cap, cur, rfl, hb, _⟩
  · simp [Value.ownBlock] at hk
  · simp [Value.ownBlock] at hk
    omega
theorem own_slice {w : World} {base : Nat} {e : TypeId} {size n : Nat} {v : Value} {xs : List Value} (h : w.ownsRow base e size v n xs) (hv : v ≠ .slice none 0 0) : ∃ g cap, v = .slice (some ⟨g, 0, none⟩) n cap := by
  rcases h.2 with ⟨e1, _⟩ | ⟨g, cap, cur, e1, _⟩
  · exact absurd e1 hv
  · exact ⟨g, cap, e1⟩
end Go.Proofs.YtmoolajapgacmaaGreatDoor
