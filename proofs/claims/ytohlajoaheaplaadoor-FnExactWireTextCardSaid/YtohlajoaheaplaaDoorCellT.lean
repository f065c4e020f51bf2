/-
The laws' own copies of pins, tables, arcs, cells and libraries: the same data, in memory of its own.
-/
import Derived.Test.YtohlajoaheaplaaDoorCellZ
namespace Go.Proofs.YtohlajoaheaplaaDoor
open Go.ChangeShapes Go.WideShapes Go.ChangeAt Go.RowKit
set_option linter.unusedVariables false
def vec (vs : List Value) (j : Nat) : Value := vs.getD j (.bool false)
theorem rows_more {Q : World → (Nat → Value) → Nat → Prop} {L g k o : Nat} {w1 : World} {G : Nat → Nat → Value} {vs : List Value} (hQ : ∀ w w' f j, Q w f j → Kept L w w' → Q w' f j) (hg : g < L)
    (h : ∀ j, j < k → Q w1 (G j) j) (hk : Q w1 (vec vs) k) : ∀ j, j < k + 1 → Q (stores w1 g o vs) (upd G k vs j) j := by
  intro j hj
  rcases Nat.lt_or_ge j k with e | e
  · have e' : upd G k vs j = G j := by funext i; simp [upd, show ¬ j = k by omega]
    rw [e']
    exact hQ _ _ _ _ (h j e) (Kept.stores hg _ _ _)
  · obtain rfl : j = k := by omega
    have e' : upd G j vs j = vec vs := by funext i; simp [upd, vec]
    rw [e']
    exact hQ _ _ _ _ hk (Kept.stores hg _ _ _)
theorem OwnTabs.slice {w : World} {L : Nat} {v : Value} {ts : List TabD} (h : OwnTabs w L v ts) : ∃ p q, v = .slice p ts.length q := by
  obtain ⟨F, ⟨_, a, cap, rfl, _⟩, _⟩ := h
  exact ⟨_, _, rfl⟩
theorem OwnPins.slice {w : World} {L : Nat} {v : Value} {ts : List PinD} (h : OwnPins w L v ts) : ∃ p q, v = .slice p ts.length q := by
  obtain ⟨F, ⟨_, a, cap, rfl, _⟩, _⟩ := h
  exact ⟨_, _, rfl⟩
theorem OwnArcs.slice {w : World} {L : Nat} {v : Value} {ts : List ArcD} (h : OwnArcs w L v ts) : ∃ p q, v = .slice p ts.length q := by
  obtain ⟨F, ⟨_, a, cap, rfl, _⟩, _⟩ := h
  exact ⟨_, _, rfl⟩
theorem OwnS.slice {w : World} {L : Nat} {v : Value} {ts : List Int} (h : OwnS w L v ts) : ∃ p q, v = .slice p ts.length q := by
  obtain ⟨_, a, cap, rfl, _⟩ := h
  exact ⟨_, _, rfl⟩
end Go.Proofs.YtohlajoaheaplaaDoor
