/-
Rows of numbers in the cells of arrays: lists of lists under construction.
-/
import Derived.Test.YtkpfbnffhhmokaaGreatGrow
import Derived.Test.YtkpfbnffhhmokaaGreatAdd
namespace Go.Proofs.YtkpfbnffhhmokaaGreat
open Go.ChangeShapes Go.WideShapes Go.ChangeAt Go.RowKit Go.Deep
set_option linter.unusedVariables false
/-- The cells g k, o k for k < n hold the lists R k, each in memory of its own, not below base; the cells themselves lie below base. -/
def RowsIn (w : World) (base n : Nat) (g o : Nat → Nat) (V : Nat → Value) (R : Nat → List Int) : Prop :=
 base ≤ w.heap.size ∧ (∀ k, k < n → w.cell? ⟨g k, o k, none⟩ = some (V k) ∧ w.frozen? ⟨g k, o k, none⟩ = false ∧ g k < base ∧ GI w base (V k) (R k)) ∧
 ∀ j k, j < n → k < n → j ≠ k → (V j).ownBlock = none ∨ (V j).ownBlock ≠ (V k).ownBlock
theorem RowsIn.below {w w' : World} {base n : Nat} {g o : Nat → Nat} {V : Nat → Value} {R : Nat → List Int} (h : RowsIn w base n g o V R) (hb : Below w.heap.size w w') : RowsIn w' base n g o V R := by
 obtain ⟨h0, h1, h2⟩ := h
 refine ⟨Nat.le_trans h0 hb.size, fun k hk => ?_, h2⟩
 obtain ⟨a, b, c, d⟩ := h1 k hk
 exact ⟨cell_keep a hb, by rw [hb.frozen (p := ⟨g k, o k, none⟩) (show g k < w.heap.size by omega)]; exact b, c, d.below hb⟩
/-- A store into a cell below base that is none of the rows' cells. -/
theorem RowsIn.set {w : World} {base n : Nat} {g o : Nat → Nat} {V : Nat → Value} {R : Nat → List Int} (h : RowsIn w base n g o V R) {p : Addr} (hp : p.block < base) (hne : ∀ k, k < n → g k ≠ p.block) (u : Value) : RowsIn (w.setCell p u) base n g o V R := by
 obtain ⟨h0, h1, h2⟩ := h
 have hg := grown_set w p u
 refine ⟨Nat.le_trans h0 hg.size, fun k hk => ?_, h2⟩
 obtain ⟨a, b, c, d⟩ := h1 k hk
 have ne : some (g k) ≠ some p.block := fun e => hne k hk (Option.some.inj e)
 refine ⟨hg.cell a ne, (World.frozen?_setCell _ _ _ _).trans b, c, World.ownsRow.kept d hg ?_⟩
 cases hv : (V k).ownBlock with
 | none => exact .inl rfl
 | some q => exact .inr (fun e => by have := d.blk q hv; have := Option.some.inj e; omega)
/-- A number is appended to one list, and the list stored back. -/
theorem RowsIn.push {w w1 w9 : World} {base n k : Nat} {g o : Nat → Nat} {V : Nat → Value} {R : Nat → List Int} {v' : Value} {x : Int} (h : RowsIn w base n g o V R) (hk : k < n) (hinj : ∀ j, j < n → j ≠ k → g j = g k → o j ≠ o k)
  (hb : Below w.heap.size w w1) (hown : GI w9 base v' (R k ++ [x])) (hgrow : w1.grownBy w9 (V k).ownBlock) (hat : v'.ownBlock = (V k).ownBlock ∨ v'.ownBlock = some w1.heap.size) :
  RowsIn (w9.setCell ⟨g k, o k, none⟩ v') base n g o (fun j => if j = k then v' else V j) (fun j => if j = k then R k ++ [x] else R j) := by
 obtain ⟨h0, h1, h2⟩ := h
 have hgk := (h1 k hk).2.2.1
 have hset := grown_set w9 ⟨g k, o k, none⟩ v'
 have own : ∀ q, (V k).ownBlock = some q → base ≤ q := fun q hq => (h1 k hk).2.2.2.blk q hq
 have cell9 : ∀ j, j < n → w9.cell? ⟨g j, o j, none⟩ = some (V j) ∧ w9.frozen? ⟨g j, o j, none⟩ = false := fun j hj => by
  obtain ⟨a, b, c, _⟩ := h1 j hj
  have ne : some (g j) ≠ (V k).ownBlock := fun e => by have := own _ e.symm; omega
  have lt := cell_lt a
  exact ⟨hgrow.cell (cell_keep a hb) ne, by rw [World.frozen?_of_block (a := ⟨g j, o j, none⟩) (hgrow.block (g j) (by have := hb.size; omega) ne), hb.frozen (p := ⟨g j, o j, none⟩) lt]; exact b⟩
 have away : ∀ (u : Value) (zs : List Int), GI w9 base u zs → GI (w9.setCell ⟨g k, o k, none⟩ v') base u zs := fun u zs hu => World.ownsRow.kept hu hset (by
  cases hv : u.ownBlock with
  | none => exact .inl rfl
  | some q => exact .inr (fun e => by have := hu.blk q hv; have := Option.some.inj e; simp only at this; omega))
 refine ⟨Nat.le_trans h0 (Nat.le_trans hb.size (Nat.le_trans hgrow.size hset.size)), fun j hj => ?_, fun i j hi hj hij => ?_⟩
 ·obtain ⟨a, b, c, d⟩ := h1 j hj
  obtain ⟨c9, f9⟩ := cell9 j hj
  by_cases e : j = k
  ·subst e
   simp only [if_true]
   exact ⟨cell_set_same _ c9, (World.frozen?_setCell _ _ _ _).trans f9, c, away _ _ hown⟩
  ·simp only [if_neg e]
   refine ⟨?_, (World.frozen?_setCell _ _ _ _).trans f9, c, away _ _ (World.ownsRow.kept (d.below hb) hgrow (h2 j k hj hk e))⟩
   rw [World.cell?_setCell_other w9 _ _ v' (fun e' => by
    have e1 : g j = g k := by injection e' with e1 _ _; first | exact e1.symm | exact e1
    have e2 : o j = o k := by injection e' with _ e2 _; first | exact e2.symm | exact e2
    exact hinj j hj e e1 e2)]
   exact c9
 ·have new : ∀ j, j < n → j ≠ k → (V j).ownBlock = none ∨ (V j).ownBlock ≠ v'.ownBlock := fun j hj e => by
   rcases hat with q | q
   ·rw [q]; exact h2 j k hj hk e
   ·cases hv : (V j).ownBlock with
    | none => exact .inl rfl
    | some b => exact .inr (fun e' => by
      rw [q] at e'
      have := (World.ownsRow.lt (h1 j hj).2.2.2 b hv).2
      have := hb.size
      have := Option.some.inj e'
      omega)
  by_cases ei : i = k
  ·have ej : ¬ j = k := fun e => hij (ei.trans e.symm)
   simp only [if_pos ei, if_neg ej]
   cases hv : v'.ownBlock with
   | none => exact .inl rfl
   | some b => exact .inr (fun e => by
     rcases new j hj ej with q | q
     ·rw [q] at e; cases e
     ·exact q (by rw [hv]; exact e.symm))
  ·by_cases ej : j = k
   ·simp only [if_neg ei, if_pos ej]; exact new i hi ei
   ·simp only [if_neg ei, if_neg ej]; exact h2 i j hi hj hij
/-- From w to w' only what lies in the blocks of a set, and what is not below base, has changed. -/
structure OnlyIn (w w' : World) (base : Nat) (S : Nat → Prop) : Prop where
 os : w'.os = w.os
 tape : w'.tape = w.tape
 output : w'.output = w.output
 size : w.heap.size ≤ w'.heap.size
 block : ∀ k, k < base → ¬ S k → w'.heap[k]? = w.heap[k]?
theorem OnlyIn.refl (w : World) (base : Nat) (S : Nat → Prop) : OnlyIn w w base S := ⟨rfl, rfl, rfl, Nat.le_refl _, fun _ _ _ => rfl⟩
theorem OnlyIn.trans {a b c : World} {base : Nat} {S : Nat → Prop} (h : OnlyIn a b base S) (k : OnlyIn b c base S) : OnlyIn a c base S :=
 ⟨k.os.trans h.os, k.tape.trans h.tape, k.output.trans h.output, Nat.le_trans h.size k.size, fun i hi hn => (k.block i hi hn).trans (h.block i hi hn)⟩
theorem OnlyIn.grown {w w' : World} {base : Nat} {S : Nat → Prop} {row : Option Nat} (h : w.grownBy w' row) (hb : base ≤ w.heap.size) (hr : ∀ k, row = some k → base ≤ k ∨ S k) : OnlyIn w w' base S :=
 ⟨h.os, h.tape, h.output, h.size, fun k hk hn => h.block k (by omega) (fun e => by rcases hr k e.symm with q | q; omega; exact hn q)⟩
theorem OnlyIn.call {w w' : World} {base : Nat} {S : Nat → Prop} (h : Below w.heap.size w w') (hb : base ≤ w.heap.size) : OnlyIn w w' base S :=
 OnlyIn.grown (row := none) (grown_none h none) hb (fun k e => by cases e)
theorem OnlyIn.push {w W wa wb : World} {base : Nat} {S : Nat → Prop} {row : Option Nat} (h : OnlyIn w W base S) (hb : base ≤ W.heap.size) (bA : Below W.heap.size W wa) (hg : wa.grownBy wb row) (hr : ∀ k, row = some k → base ≤ k) {p : Addr} (hp : S p.block) (u : Value) : OnlyIn w (wb.setCell p u) base S :=
 h.trans ((OnlyIn.call bA hb).trans ((OnlyIn.grown hg (Nat.le_trans hb bA.size) (fun k hk => .inl (hr k hk))).trans (OnlyIn.grown (grown_set wb p u) (Nat.le_trans hb (Nat.le_trans bA.size hg.size)) (fun k hk => .inr (by rw [← Option.some.inj hk]; exact hp)))))
theorem RowsIn.push2 {w w1 w9 : World} {base n k ba ix : Nat} {g o : Nat → Nat} {V : Nat → Value} {R : Nat → List Int} {v' : Value} {x : Int} (h : RowsIn w base n g o V R) (hk : k < n) (eg : g k = ba) (eo : o k = ix) (hinj : ∀ j, j < n → j ≠ k → g j = g k → o j ≠ o k)
  (hb : Below w.heap.size w w1) (hown : w9.ownsRow base 2 1 v' ((R k).length + 1) ((R k).map (Value.int .i64) ++ [.int .i64 x])) (hgrow : w1.grownBy w9 (V k).ownBlock) (hat : v'.ownBlock = (V k).ownBlock ∨ v'.ownBlock = some w1.heap.size) :
  RowsIn (w9.setCell ⟨ba, ix, none⟩ v') base n g o (fun j => if j = k then v' else V j) (fun j => if j = k then R k ++ [x] else R j) := by
 subst eg; subst eo
 refine h.push hk hinj hb ?_ hgrow hat
 unfold GI
 rw [List.map_append, List.length_append]
 exact hown
theorem OnlyIn.cell {w w' : World} {base : Nat} {S : Nat → Prop} (h : OnlyIn w w' base S) {b o : Nat} {u : Value} (hc : w.cell? ⟨b, o, none⟩ = some u) (hb : b < base) (hn : ¬ S b) : w'.cell? ⟨b, o, none⟩ = some u := by
 rw [World.cell?_of_block (a := ⟨b, o, none⟩) (h.block b hb hn)]; exact hc
theorem OnlyIn.frozen {w w' : World} {base : Nat} {S : Nat → Prop} (h : OnlyIn w w' base S) {b o : Nat} {u : Bool} (hc : w.frozen? ⟨b, o, none⟩ = u) (hb : b < base) (hn : ¬ S b) : w'.frozen? ⟨b, o, none⟩ = u := by
 rw [World.frozen?_of_block (a := ⟨b, o, none⟩) (h.block b hb hn)]; exact hc
theorem OnlyIn.row {w w' : World} {base B c n : Nat} {S : Nat → Prop} {e : TypeId} {v : Value} {xs : List Value} (h : OnlyIn w w' base S) (hv : w.ownsRow B e c v n xs) (hb : ∀ g, v.ownBlock = some g → g < base ∧ ¬ S g) : w'.ownsRow B e c v n xs := by
 refine ⟨hv.1, ?_⟩
 rcases hv.2 with h0 | ⟨g, cap, cur, rfl, hB, hg, r⟩
 ·exact .inl h0
 ·exact .inr ⟨g, cap, cur, rfl, hB, by rw [h.block g (hb g rfl).1 (hb g rfl).2]; exact hg, r⟩
theorem OnlyIn.below {w w' : World} {base B : Nat} {S : Nat → Prop} (h : OnlyIn w w' base S) (hB : B ≤ base) (hS : ∀ k, S k → B ≤ k) : Below B w w' :=
 ⟨h.os, h.tape, h.output, h.size, fun k hk => h.block k (by omega) (fun e => by have := hS k e; omega)⟩
end Go.Proofs.YtkpfbnffhhmokaaGreat
