/-
A list of integers under construction by append, where all else of what was there stands.
-/
import Derived.Test.YtkpfbnffhhmokaaGreatTabL
import Derived.Laws.OwnMore
namespace Go.Proofs.YtkpfbnffhhmokaaGreat
open Go.ChangeShapes Go.WideShapes Go.ChangeAt Go.RowKit Go.Deep
set_option linter.unusedVariables false
/-- A slice of integers under construction, in a block of its own not below base. -/
def GI (w : World) (base : Nat) (v : Value) (xs : List Int) : Prop := w.ownsRow base 2 1 v xs.length (xs.map (Value.int .i64))
theorem GI.blk {w : World} {base : Nat} {v : Value} {xs : List Int} (h : GI w base v xs) : ∀ k, v.ownBlock = some k → base ≤ k := fun k hk => (World.ownsRow.lt h k hk).1
theorem GI.below {w w' : World} {base : Nat} {v : Value} {xs : List Int} (h : GI w base v xs) (hb : Below w.heap.size w w') : GI w' base v xs :=
 World.ownsRow.kept (row := none) h ⟨hb.os, hb.tape, hb.output, hb.size, fun k hk _ => hb.block k hk⟩ (by
  cases hv : v.ownBlock with
  | none => exact .inl rfl
  | some k => exact .inr (by simp))
theorem GI.own {w : World} {base : Nat} {v : Value} {xs : List Int} (h : GI w base v xs) (hl : xs.length ≤ 9223372036854775807) : OwnS w base v xs := by
 refine ⟨by omega, ?_⟩
 have h2 := h.2
 rcases h2 with ⟨rfl, h0⟩ | ⟨g, cap, cur, rfl, hb, hgg, _, _, _, _⟩
 ·exact ⟨none, 0, by rw [h0], fun hp => absurd hp (by omega)⟩
 ·refine ⟨_, cap, rfl, fun hp => ⟨g, rfl, hb, (Array.getElem?_eq_some_iff.1 hgg).1, fun i hi => ⟨?_, World.ownsRow.frozenAt h i⟩⟩⟩
  have hc := World.ownsRow.cellAt h i (by omega)
  rw [hc]
  simp [iv, List.getD, hi]
theorem GI.lit (w : World) (base g : Nat) (hb : base ≤ w.heap.size) (hg : g = w.heap.size) (t : TypeId) (ht : t = 2) : GI (w.alloc (.cells #[] t)) base (.slice (some ⟨g, 0, none⟩) 0 0) [] := by
 subst ht; subst hg
 exact World.ownsRow_lit (e := 2) (base := base) (size := 1) w #[] 0 hb (by unfold maxLen; omega) rfl
theorem GI.nil (w : World) (base : Nat) : GI w base (.slice none 0 0) [] := World.ownsRow_nil w base 2 1
theorem one_cellG (w : World) (x : Value) (t : TypeId) : ∀ j u, [x][j]? = some u → (w.alloc (Obj.cells #[x] t)).cell? ((⟨w.heap.size, 0, none⟩ : Addr).add j) = some u := by
 intro j u hj
 have h0 : j = 0 := by
  apply Classical.byContradiction
  intro hn
  rw [List.getElem?_eq_none (by simp; omega)] at hj
  cases hj
 subst h0
 simp at hj
 subst hj
 simp [Addr.add, go_sem]
theorem one_cellG2 (w : World) (x : Value) (t : TypeId) (g : Nat) (hg : g = w.heap.size) : ∀ j u, [x][j]? = some u → (w.alloc (Obj.cells #[x] t)).cell? ((⟨g, 0, none⟩ : Addr).add j) = some u := by
 subst hg
 exact one_cellG w x t
theorem grown_in {a b c : World} {v : Value} {base : Nat} (h : Below base a b) (hs : base ≤ b.heap.size) (hg : b.grownBy c v.ownBlock) (hv : ∀ k, v.ownBlock = some k → base ≤ k) : Below base a c := h.grown hg hs (fun k hk => hv k hk)
end Go.Proofs.YtkpfbnffhhmokaaGreat
