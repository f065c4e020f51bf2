/-
A list of structs (c cells each) under construction by append, in a block of its own.
-/
import Derived.Test.YtkpfbnffhhmokaaGreatCellD
import Derived.Laws.OwnMore
namespace Go.Proofs.YtkpfbnffhhmokaaGreat
open Go.ChangeShapes Go.WideShapes Go.ChangeAt Go.RowKit Go.Deep
set_option linter.unusedVariables false
set_option linter.unusedSimpArgs false
/-- Structs under construction, each given by its cells, in a block of their own not below base. -/
def GR (w : World) (base : Nat) (t : TypeId) (c : Nat) (v : Value) (fs : List (List Value)) : Prop := w.ownsRow base t c v fs.length fs.flatten ∧ ∀ f ∈ fs, f.length = c
theorem GR.blk {w : World} {base c : Nat} {t : TypeId} {v : Value} {fs : List (List Value)} (h : GR w base t c v fs) : ∀ k, v.ownBlock = some k → base ≤ k ∧ k < w.heap.size := World.ownsRow.lt h.1
theorem GR.kept {w w' : World} {base c : Nat} {t : TypeId} {v : Value} {fs : List (List Value)} {row : Option Nat} (h : GR w base t c v fs) (hg : w.grownBy w' row) (hne : ∀ k, v.ownBlock = some k → row ≠ some k) : GR w' base t c v fs :=
 ⟨World.ownsRow.kept h.1 hg (by
  cases hb : v.ownBlock with
  | none => exact .inl rfl
  | some k => exact .inr (fun e => hne k hb e.symm)), h.2⟩
theorem GR.below {w w' : World} {base c : Nat} {t : TypeId} {v : Value} {fs : List (List Value)} (h : GR w base t c v fs) (hb : Below w.heap.size w w') : GR w' base t c v fs :=
 h.kept (row := none) ⟨hb.os, hb.tape, hb.output, hb.size, fun k hk _ => hb.block k hk⟩ (fun k _ => by simp)
theorem GR.low {w : World} {base base' c : Nat} {t : TypeId} {v : Value} {fs : List (List Value)} (h : GR w base t c v fs) (hb : base' ≤ base) : GR w base' t c v fs := by
 refine ⟨⟨h.1.1, ?_⟩, h.2⟩
 rcases h.1.2 with h0 | ⟨g, cap, cur, rfl, hB, r⟩
 ·exact .inl h0
 ·exact .inr ⟨g, cap, cur, rfl, by omega, r⟩
theorem GR.nil (w : World) (base c : Nat) (t : TypeId) : GR w base t c (.slice none 0 0) [] := ⟨World.ownsRow_nil w base t c, fun f hf => by cases hf⟩
theorem flat_len {c : Nat} : ∀ (fs : List (List Value)), (∀ f ∈ fs, f.length = c) → fs.flatten.length = fs.length * c
 | [], _ => by simp
 | f :: fs, h => by
  rw [List.flatten_cons, List.length_append, h f (List.mem_cons_self ..), flat_len fs (fun x hx => h x (List.mem_cons_of_mem _ hx)), List.length_cons, Nat.add_mul, Nat.one_mul, Nat.add_comm]
theorem GR.lit {w : World} {base c : Nat} {t : TypeId} (cs : Array Value) (fs : List (List Value)) (hcs : cs.toList = fs.flatten) (hc : ∀ f ∈ fs, f.length = c) (hb : base ≤ w.heap.size) (hn : fs.length ≤ 1048576) : GR (w.alloc (.cells cs t)) base t c (.slice (some ⟨w.heap.size, 0, none⟩) fs.length fs.length) fs := by
 refine ⟨?_, hc⟩
 rw [← hcs]
 exact World.ownsRow_lit (e := t) (base := base) (size := c) w cs fs.length hb (by unfold maxLen; omega) (by rw [← Array.length_toList, hcs]; exact flat_len fs hc)
theorem GR.snoc {w w' : World} {base c : Nat} {t : TypeId} {v v' : Value} {fs : List (List Value)} {f : List Value} (h : GR w base t c v fs) (k : w'.ownsRow base t c v' (fs.length + 1) (fs.flatten ++ f)) (hf : f.length = c) : GR w' base t c v' (fs ++ [f]) := by
 refine ⟨?_, fun x hx => ?_⟩
 ·rw [List.flatten_append, List.length_append]
  simpa using k
 ·rcases List.mem_append.1 hx with hx | hx
  ·exact h.2 x hx
  ·rw [List.mem_singleton.1 hx]; exact hf
theorem flat_at {c : Nat} : ∀ (fs : List (List Value)) (i j : Nat), (∀ f ∈ fs, f.length = c) → i < fs.length → j < c → fs.flatten[i * c + j]? = some ((fs.getD i []).getD j (.bool false))
 | [], i, j, _, hi, _ => absurd hi (by simp)
 | f :: fs, 0, j, h, _, hj => by
  have hf := h f (List.mem_cons_self ..)
  rw [List.flatten_cons, Nat.zero_mul, Nat.zero_add, List.getElem?_append_left (by omega), List.getElem?_eq_getElem (by omega)]
  simp [List.getD, List.getElem?_eq_getElem (show j < f.length by omega)]
 | f :: fs, i + 1, j, h, hi, hj => by
  have hf := h f (List.mem_cons_self ..)
  have e : (i + 1) * c + j = f.length + (i * c + j) := by rw [hf, Nat.add_mul, Nat.one_mul]; omega
  rw [List.flatten_cons, e, List.getElem?_append_right (by omega), Nat.add_sub_cancel_left, flat_at fs i j (fun x hx => h x (List.mem_cons_of_mem _ hx)) (by simpa using hi) hj]
  simp [List.getD]
theorem GR.out {w : World} {base c : Nat} {t : TypeId} {v : Value} {fs : List (List Value)} (h : GR w base t c v fs) (hc : 0 < c) (hn : fs.length ≤ 1048576) : OwnC w base v fs.length c (fun i j => (fs.getD i []).getD j (.bool false)) := by
 refine ⟨by omega, ?_⟩
 have h2 := h.1.2
 rcases h2 with ⟨rfl, h0⟩ | ⟨g, cap, cur, rfl, hb, hgg, _, _, _, _⟩
 ·exact ⟨none, 0, by rw [h0], fun hp => absurd hp (by omega)⟩
 ·refine ⟨_, cap, rfl, fun hp => ⟨g, rfl, hb, (Array.getElem?_eq_some_iff.1 hgg).1, fun i hi j hj => ⟨?_, World.ownsRow.frozenAt h.1 _⟩⟩⟩
  rw [World.ownsRow.cellAt h.1 _ (mul_in hi hj), flat_at fs i j h.2 hi hj]
theorem OwnC.congr {L n c : Nat} {w : World} {v : Value} {F G : Nat → Nat → Value} (h : OwnC w L v n c F) (e : ∀ i, i < n → ∀ j, j < c → F i j = G i j) : OwnC w L v n c G := by
 obtain ⟨h0, a, cap, rfl, h⟩ := h
 refine ⟨h0, a, cap, rfl, fun hp => ?_⟩
 obtain ⟨g, rfl, hB, hg, hx⟩ := h hp
 exact ⟨g, rfl, hB, hg, fun i hi j hj => by rw [← e i hi j hj]; exact hx i hi j hj⟩
/-- The cells of a literal that has just been made. -/
theorem lit_cells (w : World) (cs : Array Value) (t : TypeId) (g : Nat) (hg : g = w.heap.size) : ∀ j u, cs.toList[j]? = some u → (w.alloc (Obj.cells cs t)).cell? ((⟨g, 0, none⟩ : Addr).add j) = some u := by
 intro j u hj
 subst hg
 have e : (⟨w.heap.size, 0, none⟩ : Addr).add j = ⟨w.heap.size, j, none⟩ := by simp [Addr.add]; exact fun h => h.symm
 rw [e, cell_of_row (w.alloc (Obj.cells cs t)) w.heap.size j cs t (0, 0) (heap_alloc_new w _)]
 simpa using hj
/-- The block, if there is one, is a row of elements of this type. -/
def RowT (w : World) (row : Option Nat) (t : TypeId) : Prop := ∀ k, row = some k → ∃ cur, w.heap[k]? = some (.cells cur t (0, 0))
theorem own_rowT {w : World} {base n c : Nat} {e : TypeId} {v : Value} {xs : List Value} (h : w.ownsRow base e c v n xs) : RowT w v.ownBlock e := fun k hk => by
 rcases h.2 with ⟨rfl, _⟩ | ⟨g, cap, cur, rfl, _, hg, _⟩
 ·simp [Value.ownBlock] at hk
 ·simp [Value.ownBlock] at hk
  subst hk
  exact ⟨cur, hg⟩
theorem own_grownT {w w' : World} {base n c : Nat} {e t : TypeId} {v : Value} {xs : List Value} {row : Option Nat} (h : w.ownsRow base e c v n xs) (hg : w.grownBy w' row) (hr : RowT w row t) (hne : t ≠ e) : w'.ownsRow base e c v n xs :=
 World.ownsRow.kept h hg (by
  cases hv : v.ownBlock with
  | none => exact .inl rfl
  | some k => exact .inr (fun e' => by
    obtain ⟨cur, h1⟩ := own_rowT h k hv
    obtain ⟨cur', h2⟩ := hr k e'.symm
    rw [h1] at h2
    simp at h2
    exact hne h2.2.symm))
theorem own_chg {w w' : World} {base n c g : Nat} {e : TypeId} {v : Value} {xs : List Value} (h : w.ownsRow base e c v n xs) (hc : w.grownBy w' (some g)) (hg : g < base) : w'.ownsRow base e c v n xs :=
 World.ownsRow.kept h hc (by
  cases hb : v.ownBlock with
  | none => exact .inl rfl
  | some k => exact .inr (by have := (World.ownsRow.lt h k hb).1; simp; omega))
theorem ret_int {k : IntKind} {a b : Int} (h : a = b) : Ending.returned (.int k a) = .returned (.int k b) := by rw [h]
end Go.Proofs.YtkpfbnffhhmokaaGreat
