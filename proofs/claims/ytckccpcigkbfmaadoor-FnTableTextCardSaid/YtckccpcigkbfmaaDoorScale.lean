/-
Contracts of ScaleTable (program and model), for all arguments.
-/
import Derived.Test.YtckccpcigkbfmaaDoorClone
import Derived.Test.YtckccpcigkbfmaaDoorConst
namespace Go.Proofs.YtckccpcigkbfmaaDoor
open Go.ChangeShapes Go.WideShapes Go.ChangeAt Go.RowKit
set_option linter.unusedVariables false
theorem dn_size (w : World) (n : Nat) : (w.drewN n).heap.size = w.heap.size := rfl
/-- A block of three cells that may be written. -/
def Cell3 (w : World) (g : Nat) (x0 x1 x2 : Value) : Prop := w.cell? ⟨g, 0, none⟩ = some x0 ∧ w.cell? ⟨g, 1, none⟩ = some x1 ∧ w.cell? ⟨g, 2, none⟩ = some x2 ∧ w.frozen? ⟨g, 0, none⟩ = false ∧ w.frozen? ⟨g, 1, none⟩ = false ∧ w.frozen? ⟨g, 2, none⟩ = false
theorem frozen_keep {w0 w1 : World} {g o : Nat} {f : Bool} (h : w0.frozen? ⟨g, o, none⟩ = f) (hg : g < w0.heap.size) (hb : Below w0.heap.size w0 w1) : w1.frozen? ⟨g, o, none⟩ = f := by rw [hb.frozen (by exact hg)]; exact h
theorem Cell3.keep {w0 w1 : World} {g : Nat} {x0 x1 x2 : Value} (h : Cell3 w0 g x0 x1 x2) (hb : Below w0.heap.size w0 w1) : Cell3 w1 g x0 x1 x2 := by
  obtain ⟨a, b, c, d, e, f⟩ := h
  have hg := cell_lt a
  exact ⟨cell_keep a hb, cell_keep b hb, cell_keep c hb, frozen_keep d hg hb, frozen_keep e hg hb, frozen_keep f hg hb⟩
def scl (th m : Int) (vs : List Int) : List Int := vs.map fun v => qd (v * th) 1000 m
theorem scl_len (th m : Int) (vs : List Int) : (scl th m vs).length = vs.length := by simp [scl]
theorem iv_scl (th m : Int) (vs : List Int) (i : Nat) (h : i < vs.length) : iv (scl th m vs) i = qd (iv vs i * th) 1000 m := by simp [iv, scl, List.getD, h]
/-- The first k of b, then the rest of a. -/
def mixL (k : Nat) (a b : List Int) : List Int := b.take k ++ a.drop k
theorem mix_len {k : Nat} {a b : List Int} (h : b.length = a.length) : (mixL k a b).length = a.length := by simp [mixL]; omega
theorem iv_mix {k : Nat} {a b : List Int} (h : b.length = a.length) (i : Nat) (hi : i < a.length) : iv (mixL k a b) i = if i < k then iv b i else iv a i := by
  unfold iv mixL
  simp only [List.getD_eq_getElem?_getD, List.getElem?_append, List.length_take, List.getElem?_take, List.getElem?_drop]
  by_cases hk : i < k
  · rw [if_pos (by omega), if_pos hk, if_pos hk]
  · rw [if_neg (by omega), if_neg hk]
    congr 2
    omega
theorem mix_zero (a b : List Int) : mixL 0 a b = a := by simp [mixL]
theorem mix_all {a b : List Int} (h : b.length = a.length) : mixL a.length a b = b := by simp [mixL, ← h]
theorem OwnS.store {w : World} {B g k cap : Nat} {a b : List Int} {x : Int} (hl : b.length = a.length) (h : OwnS w B (.slice (some ⟨g, 0, none⟩) a.length cap) (mixL k a b)) (hk : k < a.length) (hx : x = iv b k) :
    OwnS (w.setCell ⟨g, k, none⟩ (.int .i64 x)) B (.slice (some ⟨g, 0, none⟩) a.length cap) (mixL (k + 1) a b) := by
  subst hx
  obtain ⟨h0, ad, c, e, h⟩ := h
  rw [mix_len hl] at h0 h
  obtain ⟨g', e', hB, hg, hx⟩ := h (by omega)
  simp only [Value.slice.injEq] at e
  obtain ⟨e1, _, rfl⟩ := e
  rw [e'] at e1
  obtain rfl : g = g' := by injection e1 with e1; injection e1
  refine ⟨by rw [mix_len hl]; exact h0, _, cap, by rw [mix_len hl], fun _ => ⟨g, rfl, hB, by simpa [World.setCell] using hg, fun i hi => ?_⟩⟩
  rw [mix_len hl] at hi
  obtain ⟨a1, a2⟩ := hx i hi
  rw [iv_mix hl i hi] at a1 ⊢
  refine ⟨?_, by simpa using a2⟩
  by_cases e : i = k
  · subst e
    rw [if_pos (by omega)]
    exact cs_same a1
  · rw [cs_other (fun hc => e hc.symm), a1]
    by_cases hlt : i < k
    · rw [if_pos hlt, if_pos (by omega)]
    · rw [if_neg hlt, if_neg (by omega)]
end Go.Proofs.YtckccpcigkbfmaaDoor
