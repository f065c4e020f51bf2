/-
The map that leads from a net and a side to the places at this end: what it holds while places are added.
-/
import Derived.Test.YtkpfbnffhhmokaaGreatNetP
import Derived.Test.YtkpfbnffhhmokaaGreatGrowR
import Derived.Maps.OwnRows
import Derived.WideKeyEntry
import Derived.DeepKeys4
namespace Go.Proofs.YtkpfbnffhhmokaaGreat
open Go.ChangeShapes Go.WideShapes Go.ChangeAt Go.RowKit Go.Deep Go.ChangeMaps Go.MapKept
open Go.Maps (Keyed)
open Go.WideMaps (KeyLaw)
set_option linter.unusedVariables false
set_option linter.unusedSimpArgs false
def endKey (n : Int) (d : Bool) : Value := .agg #[.int .i64 n, .bool d]
theorem endKey_inj {n n' : Int} {d d' : Bool} (h : endKey n d = endKey n' d') : n = n' ∧ d = d' := by
 simp only [endKey, Value.agg.injEq, Array.mk.injEq, List.cons.injEq, Value.int.injEq, Value.bool.injEq, true_and, and_true] at h
 exact h
theorem Tryz.endLaw : KeyLaw Tryz.prog 186 := deep_law_laid (by kernel_rfl) (m := 2) (by omega) (of_decide_eq_true (by kernel_rfl)) (by kernel_rfl) (by rw [Tryz.underlying186])
theorem Tryz.endK : Keyed Tryz.prog 186 := Keyed.of_law Tryz.endLaw
theorem Tryz.endOf (n : Int) (d : Bool) (hw : (Lit.int .i64 n).wf = true) : keyOf Tryz.prog 186 (endKey n d) = some (.string (keyBytes [.int .i64 n, .bool d])) := by
 have hkt : Tryz.prog.keyType 186 = true := by kernel_rfl
 have hc : Tryz.prog.cellsOf 186 = 2 := by kernel_rfl
 have h1 : Tryz.prog.cellsOf 2 = 1 := by kernel_rfl
 have h2 : Tryz.prog.cellsOf 4 = 1 := by kernel_rfl
 obtain ⟨m, hm⟩ : ∃ m, Tryz.prog.types.size = m + 1 := ⟨Tryz.prog.types.size - 1, by kernel_rfl⟩
 unfold keyOf
 simp only [Tryz.underlying186]
 rw [if_pos (by simp [hkt, Value.formed, Tryz.underlying186, hc, endKey]), hm]
 unfold Program.keyLits
 simp only [Tryz.underlying186, Value.cells, endKey]
 rw [if_pos (by rw [hc]; exact ⟨rfl, by first | rfl | (simp; done) | decide⟩)]
 simp [Program.keyLits, Tryz.underlying2, Tryz.underlying4, hw, h1, h2]
theorem Tryz.zeroInts (w : World) : (zeroValue 33).run Tryz.prog w = .ok (.slice none 0 0) w := by kernel_rfl
/-- Block B is a map that leads from each net and side to the places that are at this end; no two lists share memory, and none lies below base. -/
def Ends (w : World) (base B : Nat) (P : List PlD) : Prop :=
 ∃ es clock, w.heap[B]? = some (.map es clock) ∧ B < base ∧ (∀ x ∈ es.toList, x.born < clock) ∧ (es.toList.map (·.born)).Nodup ∧ (es.toList.map (·.key)).Nodup ∧
  (∀ x ∈ es.toList, ∃ n d, x.key = endKey n d ∧ (Lit.int .i64 n).wf = true ∧ endsL P n d ≠ [] ∧ w.ownsInts base 2 .i64 x.val (endsL P n d)) ∧
  (∀ n d, endsL P n d ≠ [] → ∃ x ∈ es.toList, x.key = endKey n d) ∧
  (∀ x ∈ es.toList, ∀ y ∈ es.toList, x.key ≠ y.key → x.val.ownBlock = none ∨ x.val.ownBlock ≠ y.val.ownBlock)
theorem ends_made (w : World) (base : Nat) (h : w.heap.size < base) : Ends (w.alloc (.map #[] 0)) base w.heap.size [] :=
 ⟨#[], 0, (MapKept.heap_alloc w _).1, h, by simp, by simp, by simp, by simp, fun n d e => absurd (by simp [endsL]) e, by simp⟩
theorem Ends.kept {w w' : World} {base B : Nat} {P : List PlD} {row : Option Nat} (h : Ends w base B P) (hg : w.grownBy w' row) (hB : row ≠ some B) (hr : ∀ k, row = some k → k < base ∨ RowT w row 257) : Ends w' base B P := by
 obtain ⟨es, clock, h0, hb, h1, h2, h3, h4, h5, h6⟩ := h
 have hlt : B < w.heap.size := (Array.getElem?_eq_some_iff.1 h0).1
 refine ⟨es, clock, (hg.block B hlt (fun e => hB e.symm)).trans h0, hb, h1, h2, h3, fun x hx => ?_, h5, h6⟩
 obtain ⟨n, d, k1, k2, k3, k4⟩ := h4 x hx
 refine ⟨n, d, k1, k2, k3, k4.kept hg ?_⟩
 cases hv : x.val.ownBlock with
 | none => exact .inl rfl
 | some g =>
  refine .inr (fun e => ?_)
  rcases hr g e.symm with hk | hk
  ·have := (k4.1.lt g hv).1
   omega
  ·obtain ⟨c1, q1⟩ := own_rowT k4.1 g hv
   obtain ⟨c2, q2⟩ := hk g e.symm
   rw [q1] at q2
   simp at q2
theorem mem_set_key : ∀ {l : List MapEntry} {j : Nat} {e0 a x : MapEntry}, (l.map (·.key)).Nodup → l[j]? = some e0 → x ∈ l.set j a → x = a ∨ (x ∈ l ∧ x.key ≠ e0.key)
 | [], _, _, _, _, _, h, _ => by simp at h
 | b :: r, 0, e0, a, x, hp, h, hx => by
  simp only [List.getElem?_cons_zero, Option.some.injEq] at h
  subst h
  simp only [List.map_cons, List.nodup_cons] at hp
  rcases List.mem_cons.1 (by simpa using hx) with e | hx
  ·exact .inl e
  ·exact .inr ⟨List.mem_cons_of_mem _ hx, fun e => hp.1 (List.mem_map.2 ⟨x, hx, e⟩)⟩
 | b :: r, j + 1, e0, a, x, hp, h, hx => by
  simp only [List.getElem?_cons_succ] at h
  simp only [List.map_cons, List.nodup_cons] at hp
  rcases List.mem_cons.1 (by simpa using hx) with e | hx
  ·subst e
   exact .inr ⟨List.mem_cons_self .., fun e => hp.1 (List.mem_map.2 ⟨e0, List.mem_of_getElem? h, e.symm⟩)⟩
  ·rcases mem_set_key hp.2 h hx with e | ⟨h1, h2⟩
   ·exact .inl e
   ·exact .inr ⟨List.mem_cons_of_mem _ h1, h2⟩
theorem map_set_same {α : Type} (f : MapEntry → α) {l : List MapEntry} {j : Nat} {e0 a : MapEntry} (h : l[j]? = some e0) (hf : f a = f e0) : (l.set j a).map f = l.map f := by
 rw [List.map_set, hf]
 exact WideElems.set_self _ _ _ (by simp [h])
theorem ends_other {P : List PlD} {p : PlD} {n : Int} {d : Bool} (h : endKey n d ≠ endKey p.net p.drv) : endsL (P ++ [p]) n d = endsL P n d := by
 rw [endsL_snoc, if_neg]
 intro e
 simp only [atEnd, Bool.and_eq_true, beq_iff_eq] at e
 exact h (by rw [e.1, e.2])
theorem ends_same {P : List PlD} (p : PlD) : endsL (P ++ [p]) p.net p.drv = endsL P p.net p.drv ++ [(P.length : Int)] := by
 rw [endsL_snoc, if_pos (by simp [atEnd])]
/-- A new place at an end: the entry is fetched, and whatever the list at it becomes is stored back. -/
theorem ends_entry {w : World} {base B : Nat} {P : List PlD} (h : Ends w base B P) (p : PlD) (hwf : (Lit.int .i64 p.net).wf = true) :
  ∃ (v0 : Value) (st : Nat) (es1 : Array MapEntry) (clock1 : Nat), (Instr.mapEntry 138 (.map (some B)) (endKey p.net p.drv)).run Tryz.prog w = .ok (.tuple #[v0, goInt st]) (setBlock w B (.map es1 clock1)) ∧
   w.ownsInts base 2 .i64 v0 (endsL P p.net p.drv) ∧
   ∀ (w2 : World) (v' : Value), w2.heap[B]? = some (.map es1 clock1) → (setBlock w B (.map es1 clock1)).grownBy w2 v0.ownBlock → w2.ownsInts base 2 .i64 v' (endsL P p.net p.drv ++ [(P.length : Int)]) → (v'.ownBlock = v0.ownBlock ∨ ∃ g, v'.ownBlock = some g ∧ w.heap.size ≤ g) →
    ∃ es' clock', (Instr.entryStore 138 (.map (some B)) (goInt st) v').run Tryz.prog w2 = .ok () (setBlock w2 B (.map es' clock')) ∧ Ends (setBlock w2 B (.map es' clock')) base B (P ++ [p]) := by
 obtain ⟨es, clock, hb, hbb, s1, s2, s3, own, cov, apart⟩ := h
 have K := Tryz.endK
 have ht : Tryz.prog.underlying 138 = some (.map 186 33) := Tryz.underlying138
 have hkey := Tryz.endOf p.net p.drv hwf
 have keys : ∀ e ∈ es.toList, ∃ l, keyOf Tryz.prog 186 e.key = some l := fun e he => by
  obtain ⟨n, d, k1, k2, _⟩ := own e he
  exact ⟨_, by rw [k1]; exact Tryz.endOf n d k2⟩
 have hlt : B < w.heap.size := (Array.getElem?_eq_some_iff.1 hb).1
 -- what an old entry at another key owns, behind everything
 have stays : ∀ (w2 : World) (v0 : Value) (E1 : Array MapEntry) (C1 : Nat) (o' : Obj), (setBlock w B (.map E1 C1)).grownBy w2 v0.ownBlock → w2.heap[B]? = some (.map E1 C1) → ∀ x ∈ es.toList, (x.val.ownBlock = none ∨ x.val.ownBlock ≠ v0.ownBlock) → ∀ zs, w.ownsInts base 2 .i64 x.val zs → (setBlock w2 B o').ownsInts base 2 .i64 x.val zs := by
  intro w2 v0 E1 C1 o' hg h2 x hx hne zs ho
  have ne_B : x.val.ownBlock = none ∨ x.val.ownBlock ≠ some B := by
   cases hv : x.val.ownBlock with
   | none => exact .inl rfl
   | some g =>
    refine .inr (fun e => ?_)
    have := (ho.1.lt g hv).1
    cases e
    omega
  have g1 : w.grownBy (setBlock w B (.map E1 C1)) (some B) := ⟨rfl, rfl, rfl, by simp [setBlock], fun i _ hi => heap_setBlock_other hb _ (fun e1 => hi (by rw [e1]))⟩
  have g3 : w2.grownBy (setBlock w2 B o') (some B) := ⟨rfl, rfl, rfl, by simp [setBlock], fun i _ hi => heap_setBlock_other h2 _ (fun e1 => hi (by rw [e1]))⟩
  exact ((ho.kept g1 ne_B).kept hg hne).kept g3 ne_B
 have new_own : ∀ (w2 : World) (v' : Value) (E1 : Array MapEntry) (C1 : Nat) (o' : Obj) (zs : List Int), w2.heap[B]? = some (.map E1 C1) → w2.ownsInts base 2 .i64 v' zs → (setBlock w2 B o').ownsInts base 2 .i64 v' zs := by
  intro w2 v' E1 C1 o' zs h2 ho
  have g3 : w2.grownBy (setBlock w2 B o') (some B) := ⟨rfl, rfl, rfl, by simp [setBlock], fun i _ hi => heap_setBlock_other h2 _ (fun e1 => hi (by rw [e1]))⟩
  refine ho.kept g3 ?_
  cases hv : v'.ownBlock with
  | none => exact .inl rfl
  | some g =>
   refine .inr (fun e => ?_)
   have := (ho.1.lt g hv).1
   cases e
   omega
 have owned : ∀ x ∈ es.toList, ∀ g, x.val.ownBlock = some g → g < w.heap.size := fun x hx g hg => by
  obtain ⟨n, d, _, _, _, k4⟩ := own x hx
  exact (k4.1.lt g hg).2
 have away : ∀ (v0 v' : Value), (∀ x ∈ es.toList, x.key ≠ endKey p.net p.drv → x.val.ownBlock = none ∨ x.val.ownBlock ≠ v0.ownBlock) → (v'.ownBlock = v0.ownBlock ∨ ∃ g, v'.ownBlock = some g ∧ w.heap.size ≤ g) → ∀ x ∈ es.toList, x.key ≠ endKey p.net p.drv → x.val.ownBlock = none ∨ x.val.ownBlock ≠ v'.ownBlock := by
  intro v0 v' ha hl x hx hne
  rcases hl with h1 | ⟨g, h1, h2⟩
  ·rw [h1]; exact ha x hx hne
  ·cases hv : x.val.ownBlock with
   | none => exact .inl rfl
   | some q =>
    refine .inr (fun e => ?_)
    have := owned x hx q hv
    rw [h1] at e
    cases e
    omega
 have flip : ∀ (a b : Option Nat), (a = none ∨ a ≠ b) → (b = none ∨ b ≠ a) := fun a b h => by
  cases b with
  | none => exact .inl rfl
  | some q =>
   refine .inr (fun e => ?_)
   rcases h with h | h
   ·rw [h] at e; cases e
   ·exact h e.symm
 have pushMem : ∀ (a x : MapEntry), x ∈ (es.push a).toList → x ∈ es.toList ∨ x = a := fun a x hx => by
  rw [Array.toList_push] at hx
  rcases List.mem_append.1 hx with hx | hx
  ·exact .inl hx
  ·exact .inr (List.mem_singleton.1 hx)
 rcases K.find w hkey es.toList keys with ⟨h1, h2⟩ | ⟨j, e0, h1, h2, h3⟩
 ·have hempty : endsL P p.net p.drv = [] := by
   apply Classical.byContradiction
   intro hne
   obtain ⟨x, hx, he⟩ := cov _ _ hne
   exact h2 x hx he
  refine ⟨.slice none 0 0, clock, es.push ⟨endKey p.net p.drv, .slice none 0 0, clock⟩, clock + 1, ?_, ?_, ?_⟩
  ·simp [Instr.mapEntry, run_underlying ht, MapKept.run_getObj_map hb, K.check w false hkey, h1, Tryz.zeroInts, MapKept.run_setObj_map _ hb, Result.andThen, setBlock]
  ·rw [hempty]; exact World.ownsInts_nil _ _ _ _
  ·intro w2 v' hw2 hg ho hl
   have ha : ∀ x ∈ es.toList, x.key ≠ endKey p.net p.drv → x.val.ownBlock = none ∨ x.val.ownBlock ≠ (Value.slice none 0 0).ownBlock := fun x hx _ => by
    cases x.val.ownBlock <;> simp [Value.ownBlock]
   refine ⟨es.push ⟨endKey p.net p.drv, v', clock⟩, clock + 1, ?_, es.push ⟨endKey p.net p.drv, v', clock⟩, clock + 1, heap_setBlock_same hw2 _, hbb, ?_, ?_, ?_, ?_, ?_, ?_⟩
   ·have hidx : (es.push ⟨endKey p.net p.drv, .slice none 0 0, clock⟩).findIdx? (fun e => ((e.born : Nat) : Int) == ((clock : Nat) : Int)) = some es.size := by
     rw [WideElems.findIdx_arr]
     exact WideElems.findIdx_born (l := (es.push ⟨endKey p.net p.drv, .slice none 0 0, clock⟩).toList) (j := es.size) (e0 := ⟨endKey p.net p.drv, .slice none 0 0, clock⟩) (by
      simp only [Array.toList_push, List.map_append, List.map_cons, List.map_nil]
      refine List.nodup_append.2 ⟨s2, by simp, fun a ha c hc e1 => ?_⟩
      simp only [List.mem_singleton] at hc
      obtain ⟨x, hx, rfl⟩ := List.mem_map.1 ha
      have := s1 x hx
      omega) (by simp)
    have hmod : (es.push ⟨endKey p.net p.drv, .slice none 0 0, clock⟩).modify es.size (fun e => { e with val := v' }) = es.push ⟨endKey p.net p.drv, v', clock⟩ := by
     apply Array.ext'
     rw [Array.toList_modify, Array.toList_push, Array.toList_push, ← Array.length_toList, WideElems.modify_last]
    simp [Instr.entryStore, MapKept.run_getObj_map hw2, asInt, asIntOf, goInt, hidx, hmod, MapKept.run_setObj_map _ hw2, Result.andThen, setBlock]
   ·intro x hx
    rcases pushMem _ _ hx with hx | hx
    ·have := s1 x hx; omega
    ·rw [hx]; simp
   ·simp only [Array.toList_push, List.map_append, List.map_cons, List.map_nil]
    refine List.nodup_append.2 ⟨s2, by simp, fun a ha c hc e1 => ?_⟩
    simp only [List.mem_singleton] at hc
    obtain ⟨x, hx, rfl⟩ := List.mem_map.1 ha
    have := s1 x hx
    omega
   ·simp only [Array.toList_push, List.map_append, List.map_cons, List.map_nil]
    refine List.nodup_append.2 ⟨s3, by simp, fun a ha c hc e1 => ?_⟩
    simp only [List.mem_singleton] at hc
    obtain ⟨x, hx, rfl⟩ := List.mem_map.1 ha
    exact h2 x hx (by rw [e1, hc])
   ·intro x hx
    rcases pushMem _ _ hx with hx | hx
    ·obtain ⟨n, d, k1, k2, k3, k4⟩ := own x hx
     have hne : endKey n d ≠ endKey p.net p.drv := fun e => h2 x hx (by rw [k1, e])
     refine ⟨n, d, k1, k2, by rw [ends_other hne]; exact k3, ?_⟩
     rw [ends_other hne]
     exact stays w2 _ _ _ _ hg hw2 x hx (ha x hx (h2 x hx)) _ k4
    ·rw [hx]
     exact ⟨p.net, p.drv, rfl, hwf, by rw [ends_same]; simp, by rw [ends_same]; exact new_own w2 v' _ _ _ _ hw2 ho⟩
   ·intro n d hne
    by_cases e : endKey n d = endKey p.net p.drv
    ·exact ⟨⟨endKey p.net p.drv, v', clock⟩, by simp, e.symm⟩
    ·rw [ends_other e] at hne
     obtain ⟨x, hx, he⟩ := cov n d hne
     exact ⟨x, by simp [hx], he⟩
   ·intro x hx y hy hne
    rcases pushMem _ _ hx with hx | hx <;> rcases pushMem _ _ hy with hy | hy
    ·exact apart x hx y hy hne
    ·rw [hy] at hne ⊢
     exact away _ v' ha hl x hx hne
    ·rw [hx] at hne ⊢
     exact flip _ _ (away _ v' ha hl y hy (fun e => hne e.symm))
    ·rw [hx, hy] at hne
     exact absurd rfl hne
 ·have hm0 : e0 ∈ es.toList := List.mem_of_getElem? h2
  obtain ⟨n0, d0, k1, k2, k3, k4⟩ := own e0 hm0
  obtain ⟨rfl, rfl⟩ := endKey_inj (k1.symm.trans h3)
  have hj : es[j]? = some e0 := by simpa using h2
  have hsame : es.modify j (fun e => { e with key := endKey p.net p.drv }) = es := by
   apply Array.ext'
   rw [Array.toList_modify, modify_eq_set _ _ _ _ h2]
   have : ({ e0 with key := endKey p.net p.drv } : MapEntry) = e0 := by rw [← h3]
   rw [this]
   exact WideElems.set_self _ _ _ h2
  refine ⟨e0.val, e0.born, es, clock, ?_, k4, ?_⟩
  ·simp [Instr.mapEntry, run_underlying ht, MapKept.run_getObj_map hb, K.check w false hkey, h1, hj, h3, K.stays w hkey, hsame, MapKept.run_setObj_map _ hb, Result.andThen, setBlock]
  ·intro w2 v' hw2 hg ho hl
   have ha : ∀ x ∈ es.toList, x.key ≠ endKey p.net p.drv → x.val.ownBlock = none ∨ x.val.ownBlock ≠ e0.val.ownBlock := fun x hx hne => apart x hx e0 hm0 (by rw [h3]; exact hne)
   have hlist : (es.modify j (fun e => { e with val := v' })).toList = es.toList.set j { e0 with val := v' } := by rw [Array.toList_modify, modify_eq_set _ _ _ _ h2]
   have hmem : ∀ x ∈ (es.modify j (fun e => { e with val := v' })).toList, x = { e0 with val := v' } ∨ (x ∈ es.toList ∧ x.key ≠ endKey p.net p.drv) := fun x hx => by
    rw [hlist] at hx
    rcases mem_set_key s3 h2 hx with e | ⟨q1, q2⟩
    ·exact .inl e
    ·exact .inr ⟨q1, by rw [← h3]; exact q2⟩
   have hjl : j < es.toList.length := (List.getElem?_eq_some_iff.1 h2).1
   refine ⟨es.modify j (fun e => { e with val := v' }), clock, ?_, es.modify j (fun e => { e with val := v' }), clock, heap_setBlock_same hw2 _, hbb, ?_, ?_, ?_, ?_, ?_, ?_⟩
   ·have hidx : es.findIdx? (fun e => ((e.born : Nat) : Int) == ((e0.born : Nat) : Int)) = some j := by
     rw [WideElems.findIdx_arr]
     exact WideElems.findIdx_born s2 h2
    simp [Instr.entryStore, MapKept.run_getObj_map hw2, asInt, asIntOf, goInt, hidx, MapKept.run_setObj_map _ hw2, Result.andThen, setBlock]
   ·intro x hx
    rcases hmem x hx with rfl | ⟨hx, _⟩
    ·exact s1 e0 hm0
    ·exact s1 x hx
   ·rw [hlist, map_set_same (a := { e0 with val := v' }) (fun x => x.born) h2 rfl]; exact s2
   ·rw [hlist, map_set_same (a := { e0 with val := v' }) (fun x => x.key) h2 rfl]; exact s3
   ·intro x hx
    rcases hmem x hx with rfl | ⟨hx, hne⟩
    ·exact ⟨p.net, p.drv, h3, hwf, by rw [ends_same]; simp, by rw [ends_same]; exact new_own w2 v' _ _ _ _ hw2 ho⟩
    ·obtain ⟨n, d, q1, q2, q3, q4⟩ := own x hx
     have hne' : endKey n d ≠ endKey p.net p.drv := by rw [← q1]; exact hne
     refine ⟨n, d, q1, q2, by rw [ends_other hne']; exact q3, ?_⟩
     rw [ends_other hne']
     exact stays w2 _ _ _ _ hg hw2 x hx (ha x hx hne) _ q4
   ·intro n d hne
    by_cases e : endKey n d = endKey p.net p.drv
    ·refine ⟨{ e0 with val := v' }, ?_, by rw [e]; exact h3⟩
     rw [hlist]
     exact List.mem_set hjl _
    ·rw [ends_other e] at hne
     obtain ⟨x, hx, he⟩ := cov n d hne
     obtain ⟨i, hi⟩ := List.mem_iff_getElem?.1 hx
     refine ⟨x, ?_, he⟩
     rw [hlist]
     refine List.mem_iff_getElem?.2 ⟨i, ?_⟩
     rw [List.getElem?_set_ne, hi]
     intro hji
     subst hji
     rw [h2] at hi
     cases hi
     exact e (by rw [← he, h3])
   ·intro x hx y hy hne
    rcases hmem x hx with rfl | ⟨hx, hxk⟩ <;> rcases hmem y hy with rfl | ⟨hy, hyk⟩
    ·exact absurd rfl hne
    ·exact flip _ _ (away _ v' ha hl y hy hyk)
    ·exact away _ v' ha hl x hx hxk
    ·exact apart x hx y hy hne
end Go.Proofs.YtkpfbnffhhmokaaGreat
