/-
Contracts of copies of lists of integers (program and model), for lists that are not empty.
-/
import Derived.Test.YtejomclnagakoaaGreatTabL
import Derived.WalkSpells
namespace Go.Proofs.YtejomclnagakoaaGreat
open Go.ChangeShapes Go.WideShapes Go.ChangeAt Go.RowKit
set_option linter.unusedVariables false
def icells (xs : List Int) : List Value := xs.map (Value.int .i64)
theorem icells_at {xs : List Int} {j : Nat} {u : Value} (h : (icells xs)[j]? = some u) : j < xs.length ∧ u = .int .i64 (iv xs j) := by
  simp only [icells, List.getElem?_map] at h
  cases e : xs[j]? with
  | none => simp [e] at h
  | some x =>
    have hj : j < xs.length := by
      apply Classical.byContradiction
      intro hn
      rw [List.getElem?_eq_none (by omega)] at e
      cases e
    refine ⟨hj, ?_⟩
    rw [e] at h
    simp at h
    rw [← h]
    simp [iv, List.getD, e]
theorem icells_get {xs : List Int} {j : Nat} (h : j < xs.length) : (icells xs)[j]? = some (.int .i64 (iv xs j)) := by
  simp [icells, iv, List.getD, h]
theorem icells_one {xs : List Int} : ∀ u ∈ icells xs, u.oneCell' = true := by
  intro u hu
  simp only [icells, List.mem_map] at hu
  obtain ⟨x, _, rfl⟩ := hu
  rfl
theorem row_own {w : World} {base : Nat} {e : TypeId} {v : Value} {n : Nat} {xs : List Int} (h : w.ownsRow base e 1 v n (icells xs)) (hm : n ≤ 9223372036854775807) : OwnS w base v xs := by
  have hl : n = xs.length := by have := h.1; simp [icells] at this; omega
  subst hl
  rcases h.2 with ⟨rfl, h0⟩ | ⟨g, cap, cur, rfl, hb, hg, _⟩
  · rw [nil_of h0]; exact own_empty _ _ _ _
  · refine ⟨hm, _, cap, rfl, fun hp => ⟨g, rfl, hb, ?_, fun i hi => ?_⟩⟩
    · have hc := h.cellAt 0 (by omega)
      rw [icells_get hp] at hc
      exact cell_lt hc
    · refine ⟨?_, h.frozenAt i⟩
      have hc := h.cellAt i (by omega)
      rw [icells_get hi] at hc
      simpa using hc
theorem int_cells {w : World} {b off : Nat} {xs : List Int} (hx : ∀ i, i < xs.length → w.cell? ⟨b, off + i, none⟩ = some (.int .i64 (iv xs i))) : ∀ j u, (icells xs)[j]? = some u → w.cell? ((⟨b, off, none⟩ : Addr).add j) = some u := by
  intro j u hu
  obtain ⟨hj, rfl⟩ := icells_at hu
  rw [add_plain]
  exact hx j hj
theorem own_blk {g n c k : Nat} (h : (Value.slice (some ⟨g, 0, none⟩) n c).ownBlock = some k) : g ≤ k := by
  simp [Value.ownBlock] at h
  omega
end Go.Proofs.YtejomclnagakoaaGreat
