/-
Contracts of copies of lists of integers (program and model), for lists that are not empty.
-/
import Derived.Test.YtodgpjolkfkcpaaGreatTabL
import Derived.WalkSpells
namespace Go.Proofs.YtodgpjolkfkcpaaGreat
open Go.ChangeShapes Go.WideShapes Go.ChangeAt Go.RowKit
set_option linter.unusedVariables false
def icells (xs : List Int) : List Value := xs.map (Value.int .i64)
theorem icells_at {xs : List Int} {j : Nat} {u : Value} (h : (icells xs)[j]? = some u) : j < xs.length ∧ u = .int .i64 (iv xs j) := by
  simp only [icells, List.getElem?_map] at h
  cases e : xs[j]? with
  | none => simp [e] at h
  | some x =>
    have hj : j < xs.length := by
      apply Classical.byContradiction
      intro hn
      rw [List.getElem?_eq_none (by omega)] at e
      cases e
    refine ⟨hj, ?_⟩
    rw [e] at h
    simp at h
    rw [← h]
    simp [iv, List.getD, e]
theorem icells_get {xs : List Int} {j : Nat} (h : j < xs.length) : (icells xs)[j]? = some (.int .i64 (iv xs j)) := by
  simp [icells, iv, List.getD, h]
theorem icells_one {xs : List Int} : ∀ u ∈ icells xs, u.oneCell' = true := by
  intro u hu
  simp only [icells, List.mem_map] at hu
  obtain ⟨x, _, rfl⟩ := hu
  rfl
theorem row_own {w : World} {base : Nat} {e : TypeId} {v : Value} {n : Nat} {xs : List Int} (h : w.ownsRow base e 1 v n (icells xs)) (hm : n ≤ 9223372036854775807) : OwnS w base v xs := by
  have hl : n = xs.length := by have := h.1; simp [icells] at this; omega
  subst hl
  rcases h.2 with ⟨rfl, h0⟩ | ⟨g, cap, cur, rfl, hb, hg, _⟩
  · rw [nil_of h0]; exact own_empty _ _ _ _
  · refine ⟨hm, _, cap, rfl, fun hp => ⟨g, rfl, hb, ?_, fun i hi => ?_⟩⟩
    · have hc := h.cellAt 0 (by omega)
      rw [icells_get hp] at hc
      exact cell_lt hc
    · refine ⟨?_, h.frozenAt i⟩
      have hc := h.cellAt i (by omega)
      rw [icells_get hi] at hc
      simpa using hc
theorem int_cells {w : World} {b off : Nat} {xs : List Int} (hx : ∀ i, i < xs.length → w.cell? ⟨b, off + i, none⟩ = some (.int .i64 (iv xs i))) : ∀ j u, (icells xs)[j]? = some u → w.cell? ((⟨b, off, none⟩ : Addr).add j) = some u := by
  intro j u hu
  obtain ⟨hj, rfl⟩ := icells_at hu
  rw [add_plain]
  exact hx j hj
theorem own_blk {g n c k : Nat} (h : (Value.slice (some ⟨g, 0, none⟩) n c).ownBlock = some k) : g ≤ k := by
  simp [Value.ownBlock] at h
  omega
theorem Tryz.infoInt2 : (Tryz.prog.info? 2).map (fun i => (i.zero, i.size, i.bytes)) = some (some (.int .i64 0), 1, 8) := by kernel_rfl
theorem ints_any (v : Value) (xs : List Int) (w : World) (h : IntS w w.heap.size v xs) (h0 : 0 < xs.length) (hm : xs.length ≤ 1048576) : Calls Tryz.prog 57 #[v] w (ToInts xs w) := by
  obtain ⟨i0, hi, hz0, hz1, hz2⟩ := info_parts Tryz.infoInt2
  obtain ⟨hn, a, cap, rfl, hx0⟩ := h
  obtain ⟨b, off, rfl, hlt, hx⟩ := hx0 h0
  have HX := Lib.hid (show ∀ i, i < xs.length → (w.alloc (Obj.cells #[] 2)).cell? ⟨b, off + i, none⟩ = some (.int .i64 (iv xs i)) from fun i hi => cell_keep (hx i hi) ((Below.refl _ _).alloc (Nat.le_refl _) _))
  clear hx hx0
  go_enter Tryz.func57, Tryz.ntmps57
  go_wp2_with (at_builtin; refine wpList_append_own _ rfl _ _ 34 rfl w.heap.size 2 i0 (.int .i64 0) 1 8 Tryz.underlying34 hi hz0 hz1 hz2 rfl (by decide) _ _ _ rfl (World.ownsRow_made w #[] 0 (Nat.le_refl _) (by unfold maxLen; omega) rfl) ⟨b, off, none⟩ xs.length cap (icells xs) rfl (by simp [icells]) (int_cells HX.out) icells_one (by unfold maxLen; omega) (by omega) (by simp) ?_; intro v' w1 hown' hgrow hnil)
  have hb : Below w.heap.size w w1 := ((Below.refl _ _).alloc (Nat.le_refl _) _).grown hgrow (by simp) (fun k hk => own_blk (g := w.heap.size) (n := 0) (c := 0) hk)
  have O := Lib.hid (show OwnS w1 w.heap.size v' xs from row_own (by simpa using hown') (by omega))
  clear hnil hgrow hown'
  go_ret
  exact ⟨_, rfl, O.out, hb⟩
end Go.Proofs.YtodgpjolkfkcpaaGreat
