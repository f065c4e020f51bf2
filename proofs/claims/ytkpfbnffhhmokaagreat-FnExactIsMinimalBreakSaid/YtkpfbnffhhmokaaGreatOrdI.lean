/-
The order by counts: which links still keep a node waiting, which nodes are ready, and that the order is whole where nothing waits.
-/
import Derived.Test.YtkpfbnffhhmokaaGreatLive
import Derived.Test.YtkpfbnffhhmokaaGreatTopo
import Derived.Test.YtkpfbnffhhmokaaGreatBin
import Derived.Maps.OwnSet
import Derived.Maps.OwnOps
import Derived.Maps.AppendAt
import Derived.Test.YtkpfbnffhhmokaaGreatGrow
import Derived.Shelf.Spec.SlicesInsertGrow
import Derived.Deep.RegionLaw
import Derived.Test.YtkpfbnffhhmokaaGreatGraph
namespace Go.Proofs.YtkpfbnffhhmokaaGreat
set_option linter.unusedVariables false
/-- How many of the first m links are live, still open, and lead to node j. -/
def openC (L : List LkD) (lv u : Nat → Bool) (m j : Nat) : Nat := ((List.range m).filter (fun k => lv k && (u k && (lkn L k).dst.toNat == j))).length
theorem openC_succ (L : List LkD) (lv u : Nat → Bool) (m j : Nat) : openC L lv u (m + 1) j = openC L lv u m j + (if (lv m && (u m && (lkn L m).dst.toNat == j)) = true then 1 else 0) := by
 unfold openC
 rw [List.range_succ, List.filter_append, List.length_append]
 congr 1
 split <;> simp [*]
theorem openC_like {L : List LkD} {lv u u' : Nat → Bool} {j : Nat} : ∀ {m : Nat}, (∀ k, k < m → lv k = true → u k = u' k) → openC L lv u m j = openC L lv u' m j
 | 0, _ => rfl
 | m + 1, h => by
  rw [openC_succ, openC_succ, openC_like (m := m) (fun k hk => h k (by omega))]
  cases e : lv m
  ·simp
  ·rw [h m (by omega) e]
def rmK (u : Nat → Bool) (k : Nat) : Nat → Bool := fun i => if i = k then false else u i
theorem openC_rm {L : List LkD} {lv u : Nat → Bool} {k j : Nat} (hl : lv k = true) (hu : u k = true) : ∀ {m : Nat}, k < m → openC L lv u m j = openC L lv (rmK u k) m j + (if (lkn L k).dst.toNat = j then 1 else 0)
 | 0, h => absurd h (Nat.not_lt_zero k)
 | m + 1, h => by
  rw [openC_succ, openC_succ]
  by_cases e : k = m
  ·subst e
   have h1 : openC L lv (rmK u k) k j = openC L lv u k j := openC_like (fun i hi _ => by simp [rmK, show ¬ i = k by omega])
   have h2 : rmK u k k = false := by simp [rmK]
   rw [h1, h2, hl, hu]
   simp
  ·rw [openC_rm hl hu (show k < m by omega)]
   have h2 : rmK u k m = u m := by simp [rmK, show ¬ m = k by omega]
   rw [h2]
   omega
theorem openC_zero {L : List LkD} {lv u : Nat → Bool} {m j : Nat} : openC L lv u m j = 0 ↔ ∀ k, k < m → lv k = true → u k = true → (lkn L k).dst.toNat ≠ j := by
 unfold openC
 rw [List.length_eq_zero_iff, List.filter_eq_nil_iff]
 constructor
 ·intro h k hk h1 h2 e
  exact h k (List.mem_range.2 hk) (by simp [h1, h2, e])
 ·intro h k hk q
  simp only [Bool.and_eq_true, beq_iff_eq] at q
  exact h k (List.mem_range.1 hk) q.1 q.2.1 q.2.2
theorem openC_waits (L : List LkD) (lv s : Nat → Bool) (m j : Nat) : waitsF L lv s m j = decide (0 < openC L lv (fun k => !s (lkn L k).src.toNat) m j) := by
 by_cases h : openC L lv (fun k => !s (lkn L k).src.toNat) m j = 0
 ·rw [h]
  have := openC_zero.1 h
  simp only [Nat.lt_irrefl, decide_false]
  unfold waitsF
  rw [List.any_eq_false]
  intro k hk q
  simp only [Bool.and_eq_true, beq_iff_eq] at q
  exact this k (List.mem_range.1 hk) q.1 q.2.1 q.2.2
 ·rw [decide_eq_true (by omega)]
  apply Classical.byContradiction
  intro hn
  refine h (openC_zero.2 (fun k hk h1 h2 e => hn ?_))
  unfold waitsF
  exact List.any_eq_true.2 ⟨k, List.mem_range.2 hk, by simp [h1, e]; simpa using h2⟩
theorem openC_le (L : List LkD) (lv u : Nat → Bool) (m j : Nat) : openC L lv u m j ≤ m := Nat.le_trans (List.length_filter_le _ _) (by simp)
/-- The numbers below n with a property, ascending. -/
def listP (p : Nat → Bool) (n : Nat) : List Int := ((List.range n).filter p).map (fun k : Nat => (k : Int))
theorem listP_lt (p : Nat → Bool) (n : Nat) : (listP p n).Pairwise (· < ·) := by
 unfold listP
 rw [List.pairwise_map]
 refine List.Pairwise.imp ?_ (List.Pairwise.filter _ List.pairwise_lt_range)
 intro a b h
 exact Int.ofNat_lt.2 h
theorem listP_mem {p : Nat → Bool} {n : Nat} {y : Int} : y ∈ listP p n ↔ ∃ k : Nat, k < n ∧ p k = true ∧ y = (k : Int) := by
 unfold listP
 simp only [List.mem_map, List.mem_filter, List.mem_range]
 constructor
 ·rintro ⟨k, ⟨h1, h2⟩, e⟩
  exact ⟨k, h1, h2, e.symm⟩
 ·rintro ⟨k, h1, h2, e⟩
  exact ⟨k, ⟨h1, h2⟩, e.symm⟩
theorem asc_eq {xs ys : List Int} (h1 : xs.Pairwise (· < ·)) (h2 : ys.Pairwise (· < ·)) (hm : ∀ y, y ∈ xs ↔ y ∈ ys) : xs = ys := by
 have n1 : xs.Nodup := List.Pairwise.imp (fun h => Int.ne_of_lt h) h1
 have n2 : ys.Nodup := List.Pairwise.imp (fun h => Int.ne_of_lt h) h2
 exact List.Perm.eq_of_pairwise (fun a b _ _ x y => absurd x (by omega)) h1 h2 ((List.perm_ext_iff_of_nodup n1 n2).2 hm)
theorem listP_ext {p q : Nat → Bool} {n : Nat} (h : ∀ k, k < n → p k = q k) : listP p n = listP q n := by
 refine asc_eq (listP_lt _ _) (listP_lt _ _) (fun y => ?_)
 rw [listP_mem, listP_mem]
 constructor
 ·rintro ⟨k, h1, h2, h3⟩; exact ⟨k, h1, by rw [← h k h1]; exact h2, h3⟩
 ·rintro ⟨k, h1, h2, h3⟩; exact ⟨k, h1, by rw [h k h1]; exact h2, h3⟩
theorem listP_succ (p : Nat → Bool) (n : Nat) : listP p (n + 1) = if p n = true then listP p n ++ [(n : Int)] else listP p n := by
 unfold listP
 rw [List.range_succ, List.filter_append]
 by_cases e : p n = true
 ·rw [if_pos e, List.filter_cons, if_pos e]; simp
 ·rw [if_neg e, List.filter_cons, if_neg e]; simp
theorem listP_len (p : Nat → Bool) (n : Nat) : (listP p n).length ≤ n := by
 unfold listP
 rw [List.length_map]
 exact Nat.le_trans (List.length_filter_le _ _) (by simp)
theorem asc_inc {xs : List Int} (h : xs.Pairwise (· < ·)) : IncI xs := by
 intro a b hab hb
 have := List.pairwise_iff_getElem.1 h a b (by omega) hb hab
 simpa [iv, List.getD, hb, show a < xs.length by omega] using this
theorem listP_inc (p : Nat → Bool) (n : Nat) : IncI (listP p n) := asc_inc (listP_lt p n)
/-- The head of the list is the first number, what follows are the others. -/
theorem listP_cons {p : Nat → Bool} {n : Nat} {x : Int} {rest : List Int} (h : listP p n = x :: rest) :
  ∃ k : Nat, x = (k : Int) ∧ k < n ∧ p k = true ∧ (∀ j, j < k → p j = false) ∧ rest = listP (fun j => p j && !(j == k)) n := by
 have hl := listP_lt p n
 have hx : x ∈ listP p n := by rw [h]; exact List.mem_cons_self ..
 obtain ⟨k, hk, hp, rfl⟩ := listP_mem.1 hx
 rw [h] at hl
 obtain ⟨h1, h2⟩ := List.pairwise_cons.1 hl
 refine ⟨k, rfl, hk, hp, fun j hj => ?_, ?_⟩
 ·cases e : p j
  ·rfl
  ·have hm : (j : Int) ∈ listP p n := listP_mem.2 ⟨j, by omega, e, rfl⟩
   rw [h] at hm
   rcases List.mem_cons.1 hm with q | q
   ·omega
   ·have := h1 _ q; omega
 ·refine asc_eq h2 (listP_lt _ _) (fun y => ?_)
  rw [listP_mem]
  constructor
  ·intro hy
   have hm : y ∈ listP p n := by rw [h]; exact List.mem_cons_of_mem _ hy
   obtain ⟨i, hi, hpi, rfl⟩ := listP_mem.1 hm
   have := h1 _ hy
   exact ⟨i, hi, by simp [hpi]; omega, rfl⟩
  ·rintro ⟨i, hi, hpi, rfl⟩
   simp only [Bool.and_eq_true, Bool.not_eq_true', beq_eq_false_iff_ne] at hpi
   have hm : (i : Int) ∈ listP p n := listP_mem.2 ⟨i, hi, hpi.1, rfl⟩
   rw [h] at hm
   rcases List.mem_cons.1 hm with q | q
   ·omega
   ·exact q
theorem listP_nil {p : Nat → Bool} {n : Nat} (h : listP p n = []) {j : Nat} (hj : j < n) : p j = false := by
 cases e : p j
 ·rfl
 ·have : (j : Int) ∈ listP p n := listP_mem.2 ⟨j, hj, e, rfl⟩
  rw [h] at this
  cases this
/-- A number is put where it belongs. -/
theorem listP_ins {p : Nat → Bool} {n k pos : Nat} (hk : k < n) (hp : p k = false) (hs : SplitAt (listP p n) (k : Int) pos) :
  (listP p n).take pos ++ (k : Int) :: (listP p n).drop pos = listP (fun j => p j || (j == k)) n := by
 obtain ⟨s0, s1, s2⟩ := hs
 have hl := listP_lt p n
 have hmem : ∀ t (ht : t < (listP p n).length), (listP p n)[t] ≠ (k : Int) := fun t ht e => by
  obtain ⟨i, _, hpi, e2⟩ := listP_mem.1 (List.getElem_mem ht)
  rw [e] at e2
  have : i = k := by omega
  rw [this, hp] at hpi
  cases hpi
 have hiv : ∀ t (ht : t < (listP p n).length), iv (listP p n) t = (listP p n)[t] := fun t ht => by simp [iv, List.getD, ht]
 refine asc_eq ?_ (listP_lt _ _) (fun y => ?_)
 ·rw [List.pairwise_append]
  refine ⟨hl.sublist (List.take_sublist _ _), ?_, ?_⟩
  ·rw [List.pairwise_cons]
   refine ⟨fun y hy => ?_, hl.sublist (List.drop_sublist _ _)⟩
   obtain ⟨t, ht, rfl⟩ := List.getElem_of_mem hy
   rw [List.length_drop] at ht
   rw [List.getElem_drop]
   have a := s2 (pos + t) (by omega) (by omega)
   rw [hiv _ (by omega)] at a
   have b := hmem (pos + t) (by omega)
   omega
  ·intro a ha b hb
   obtain ⟨t, ht, rfl⟩ := List.getElem_of_mem ha
   rw [List.length_take] at ht
   rw [List.getElem_take]
   have h1 := s1 t (by omega)
   rw [hiv _ (by omega)] at h1
   rcases List.mem_cons.1 hb with rfl | hb
   ·exact h1
   ·obtain ⟨i, hi, rfl⟩ := List.getElem_of_mem hb
    rw [List.length_drop] at hi
    rw [List.getElem_drop]
    exact List.pairwise_iff_getElem.1 hl t (pos + i) (by omega) (by omega) (by omega)
 ·rw [List.mem_append, List.mem_cons, listP_mem]
  have e : y ∈ listP p n ↔ y ∈ (listP p n).take pos ∨ y ∈ (listP p n).drop pos := by rw [← List.mem_append, List.take_append_drop]
  constructor
  ·intro h
   by_cases q : y = (k : Int)
   ·exact ⟨k, hk, by simp, q⟩
   ·obtain ⟨i, hi, hpi, rfl⟩ := listP_mem.1 (e.2 (by rcases h with h | h | h; exact .inl h; exact absurd h q; exact .inr h))
    exact ⟨i, hi, by simp [hpi], rfl⟩
  ·rintro ⟨i, hi, hpi, rfl⟩
   simp only [Bool.or_eq_true, beq_iff_eq] at hpi
   rcases hpi with hpi | hpi
   ·rcases e.1 (listP_mem.2 ⟨i, hi, hpi, rfl⟩) with h | h
    ·exact .inl h
    ·exact .inr (.inr h)
   ·exact .inr (.inl (by rw [hpi]))
theorem ready_is (L : List LkD) (lv s : Nat → Bool) (j : Nat) : readyB L lv s j = (!s j && openC L lv (fun k => !s (lkn L k).src.toNat) L.length j == 0) := by
 unfold readyB
 rw [openC_waits]
 generalize openC L lv (fun k => !s (lkn L k).src.toNat) L.length j = c
 cases s j <;> cases c <;> simp
theorem ordN_in {L : List LkD} {lv : Nat → Bool} {n : Nat} : ∀ {m : Nat} {o : List Nat}, ordN L lv n m = some o → o.Nodup ∧ ∀ j, j ∈ o → j < n
 | 0, o, h => by simp [ordN] at h; subst h; simp
 | m + 1, o, h => by
  cases h1 : ordN L lv n m with
  | none => simp [ordN, h1] at h
  | some o1 =>
   obtain ⟨a, b⟩ := ordN_in h1
   rcases Classical.em (∃ k, k < n ∧ readyB L lv (inO o1) k = true) with ⟨k0, hk0, hr0⟩ | hn
   ·have hex : ∃ k, k < n ∧ readyB L lv (inO o1) k = true ∧ ∀ j, j < k → readyB L lv (inO o1) j = false := by
     have hl := List.exists_cons_of_ne_nil (show listP (readyB L lv (inO o1)) n ≠ [] from fun e => by have := listP_nil e hk0; rw [hr0] at this; cases this)
     obtain ⟨x, r, hl⟩ := hl
     obtain ⟨k, _, h2, h3, h4, _⟩ := listP_cons hl
     exact ⟨k, h2, h3, h4⟩
    obtain ⟨k, hk, hr, hf⟩ := hex
    rw [ordN_go h1 hk hr hf] at h
    obtain rfl := Option.some.inj h
    have hni : k ∉ o1 := fun hm => by
     unfold readyB inO at hr
     simp [hm] at hr
    refine ⟨?_, fun j hj => ?_⟩
    ·rw [List.nodup_append]
     refine ⟨a, by simp, fun x hx y hy e => ?_⟩
     rw [List.mem_singleton] at hy
     exact hni (by rw [← hy, ← e]; exact hx)
    ·rcases List.mem_append.1 hj with q | q
     ·exact b j q
     ·rw [List.mem_singleton.1 q]; exact hk
   ·have := ordN_stop h1 (fun j hj => by cases e : readyB L lv (inO o1) j; rfl; exact absurd ⟨j, hj, e⟩ hn)
    rw [this] at h
    cases h
theorem natsI_nodup {o : List Nat} (nd : o.Nodup) : (natsI o).Nodup := by
 unfold natsI
 rw [List.nodup_iff_pairwise_ne, List.pairwise_map]
 exact (List.nodup_iff_pairwise_ne.1 nd).imp (fun h e => h (Int.ofNat.inj e))
theorem ordN_le {L : List LkD} {lv : Nat → Bool} {n m : Nat} {o : List Nat} (h : ordN L lv n m = some o) : m ≤ n := by
 obtain ⟨a, b⟩ := ordN_in h
 have hl := ordN_len h
 have := nodup_len (n := n) (natsI_nodup a) (fun y hy => by
  obtain ⟨j, hj, rfl⟩ := List.mem_map.1 hy
  have := b j hj
  omega)
 rw [natsI_len] at this
 omega
theorem nat_all {n : Nat} {o : List Nat} (nd : o.Nodup) (h : ∀ j, j < n → j ∈ o) : n ≤ o.length := by
 have hp : List.Perm (o.filter (fun j => decide (j < n))) (List.range n) := (List.perm_ext_iff_of_nodup (nd.filter _) List.nodup_range).2 (fun j => by
  rw [List.mem_filter, List.mem_range]
  simp only [decide_eq_true_eq]
  exact ⟨fun q => q.2, fun q => ⟨h j q, q⟩⟩)
 have h1 := hp.length_eq
 have h2 := List.length_filter_le (fun j => decide (j < n)) o
 rw [List.length_range] at h1
 omega
/-- The search is at its end, and no link is left open: the order is whole. -/
theorem ord_yes {L : List LkD} {lv : Nat → Bool} {n m : Nat} {o : List Nat} (h : ordN L lv n m = some o) (hr : listP (readyB L lv (inO o)) n = []) (hc : ∀ j, j < n → openC L lv (fun k => !inO o (lkn L k).src.toNat) L.length j = 0) : ordN L lv n n = some o := by
 have hin : ∀ j, j < n → j ∈ o := fun j hj => by
  have := listP_nil hr hj
  rw [ready_is, hc j hj] at this
  simpa [inO] using this
 have h1 := nat_all (ordN_in h).1 hin
 have h2 := ordN_le h
 rw [ordN_len h] at h1
 obtain rfl : m = n := by omega
 exact h
/-- .. and some link is: there is no order. -/
theorem ord_no {L : List LkD} {lv : Nat → Bool} {n m j : Nat} {o : List Nat} (h : ordN L lv n m = some o) (hr : listP (readyB L lv (inO o)) n = []) (hc : openC L lv (fun k => !inO o (lkn L k).src.toNat) L.length j ≠ 0)
  (hE : ∀ k, k < L.length → 0 ≤ (lkn L k).src ∧ (lkn L k).src < n) : ordN L lv n n = none := by
 have h2 := ordN_le h
 have hst := ordN_stop h (fun i hi => listP_nil hr hi)
 rcases Nat.lt_or_ge m n with hm | hm
 ·exact ordN_none hst hm
 ·exfalso
  obtain rfl : m = n := by omega
  refine hc (openC_zero.2 (fun k hk _ hu _ => ?_))
  have hl := ordN_len h
  obtain ⟨nd, hb⟩ := ordN_in h
  obtain ⟨e1, e2⟩ := hE k hk
  have hni : (lkn L k).src.toNat ∉ o := by simpa [inO] using hu
  have hnd : (o ++ [(lkn L k).src.toNat]).Nodup := by
   rw [List.nodup_append]
   refine ⟨nd, by simp, fun x hx y hy e => ?_⟩
   rw [List.mem_singleton] at hy
   exact hni (by rw [← hy, ← e]; exact hx)
  have hle := nodup_len (n := m) (natsI_nodup hnd) (fun y hy => by
   obtain ⟨i, hi, rfl⟩ := List.mem_map.1 hy
   rcases List.mem_append.1 hi with q | q
   ·have := hb i q
    exact ⟨by omega, by omega⟩
   ·have := List.mem_singleton.1 q
    exact ⟨by omega, by omega⟩)
  rw [natsI_len, List.length_append, hl] at hle
  simp at hle
  omega
/-- Links to a listed node come from listed nodes. -/
theorem ordN_from {L : List LkD} {lv : Nat → Bool} {n : Nat} : ∀ {m : Nat} {o : List Nat}, ordN L lv n m = some o → ∀ k, k < L.length → lv k = true → (lkn L k).dst.toNat ∈ o → (lkn L k).src.toNat ∈ o
 | 0, o, h, k, _, _, hm => by simp [ordN] at h; subst h; cases hm
 | m + 1, o, h, k, hk, hl, hm => by
  cases h1 : ordN L lv n m with
  | none => simp [ordN, h1] at h
  | some o1 =>
   rcases Classical.em (∃ i, i < n ∧ readyB L lv (inO o1) i = true) with ⟨k0, hk0, hr0⟩ | hn
   ·obtain ⟨x, r, hc⟩ := List.exists_cons_of_ne_nil (show listP (readyB L lv (inO o1)) n ≠ [] from fun e => by have := listP_nil e hk0; rw [hr0] at this; cases this)
    obtain ⟨i, _, h2, h3, h4, _⟩ := listP_cons hc
    rw [ordN_go h1 h2 h3 h4] at h
    obtain rfl := Option.some.inj h
    rcases List.mem_append.1 hm with q | q
    ·exact List.mem_append_left _ (ordN_from h1 k hk hl q)
    ·rw [ready_is] at h3
     simp only [Bool.and_eq_true, beq_iff_eq] at h3
     have h5 := openC_zero.1 h3.2 k hk hl
     rw [List.mem_singleton.1 q] at h5
     apply Classical.byContradiction
     intro hns
     refine h5 ?_ rfl
     have : (lkn L k).src.toNat ∉ o1 := fun e => hns (List.mem_append_left _ e)
     simpa [inO] using this
   ·rw [ordN_stop h1 (fun j hj => by cases e : readyB L lv (inO o1) j; rfl; exact absurd ⟨j, hj, e⟩ hn)] at h
    cases h
/-- The links that keep nodes waiting while the first q of the links xs from a node are taken away. -/
def uQ (L : List LkD) (o : List Nat) (xs : List Int) (q k : Nat) : Bool := !inO o (lkn L k).src.toNat && !(xs.take q).contains (k : Int)
/-- The nodes that are ready then, where node x is listed behind o. -/
def rdQ (L : List LkD) (lv : Nat → Bool) (n : Nat) (o : List Nat) (x : Nat) (xs : List Int) (q : Nat) : List Int := listP (fun j => !inO (o ++ [x]) j && openC L lv (uQ L o xs q) L.length j == 0) n
structure TurnO (L : List LkD) (lv : Nat → Bool) (n m : Nat) (o : List Nat) (x : Nat) (xs : List Int) : Prop where
 ord : ordN L lv n m = some o
 lt : x < n
 rdy : readyB L lv (inO o) x = true
 fst : ∀ j, j < x → readyB L lv (inO o) j = false
 mem : ∀ y, y ∈ xs ↔ ∃ k : Nat, k < L.length ∧ lv k = true ∧ (lkn L k).src.toNat = x ∧ y = (k : Int)
 asc : xs.Pairwise (· < ·)
 dst : ∀ k, k < L.length → (lkn L k).dst.toNat < n
theorem TurnO.new {L : List LkD} {lv : Nat → Bool} {n m x : Nat} {o : List Nat} {xs : List Int} (T : TurnO L lv n m o x xs) : x ∉ o := fun hm => by
 have := T.rdy
 unfold readyB inO at this
 simp [hm] at this
theorem TurnO.next {L : List LkD} {lv : Nat → Bool} {n m x : Nat} {o : List Nat} {xs : List Int} (T : TurnO L lv n m o x xs) : ordN L lv n (m + 1) = some (o ++ [x]) := ordN_go T.ord T.lt T.rdy T.fst
theorem uQ_zero {L : List LkD} (o : List Nat) (xs : List Int) : uQ L o xs 0 = fun k => !inO o (lkn L k).src.toNat := by funext k; simp [uQ]
theorem uQ_succ {L : List LkD} {o : List Nat} {xs : List Int} {q k : Nat} (hq : q < xs.length) (hk : xs[q] = (k : Int)) : uQ L o xs (q + 1) = rmK (uQ L o xs q) k := by
 funext i
 unfold uQ rmK
 rw [List.take_succ_eq_append_getElem hq, hk]
 by_cases e : i = k
 ·subst e; simp
 ·have : ¬ (i : Int) = (k : Int) := by omega
  simp [e, this]
theorem TurnO.live {L : List LkD} {lv : Nat → Bool} {n m x : Nat} {o : List Nat} {xs : List Int} (T : TurnO L lv n m o x xs) {q k : Nat} (hq : q < xs.length) (hk : xs[q] = (k : Int)) : k < L.length ∧ lv k = true ∧ (lkn L k).src.toNat = x ∧ uQ L o xs q k = true := by
 have hm : (k : Int) ∈ xs := by rw [← hk]; exact List.getElem_mem hq
 obtain ⟨k', h1, h2, h3, h4⟩ := (T.mem _).1 hm
 obtain rfl : k = k' := by omega
 refine ⟨h1, h2, h3, ?_⟩
 have hn : (k : Int) ∉ xs.take q := fun hin => by
  obtain ⟨t, ht, e⟩ := List.getElem_of_mem hin
  rw [List.length_take] at ht
  rw [List.getElem_take] at e
  have := List.pairwise_iff_getElem.1 T.asc t q (by omega) hq (by omega)
  omega
 have hx := T.new
 unfold uQ inO
 rw [h3]
 simp [hx, hn]
theorem TurnO.count {L : List LkD} {lv : Nat → Bool} {n m x : Nat} {o : List Nat} {xs : List Int} (T : TurnO L lv n m o x xs) {q k : Nat} (hq : q < xs.length) (hk : xs[q] = (k : Int)) (j : Nat) :
  openC L lv (uQ L o xs q) L.length j = openC L lv (uQ L o xs (q + 1)) L.length j + (if (lkn L k).dst.toNat = j then 1 else 0) := by
 obtain ⟨h1, h2, h3, h4⟩ := T.live hq hk
 rw [uQ_succ hq hk]
 exact openC_rm h2 h4 h1
theorem TurnO.zero {L : List LkD} {lv : Nat → Bool} {n m x : Nat} {o : List Nat} {xs : List Int} (T : TurnO L lv n m o x xs) : rdQ L lv n o x xs 0 = listP (fun j => readyB L lv (inO o) j && !(j == x)) n := by
 unfold rdQ
 refine listP_ext (fun j _ => ?_)
 rw [ready_is, uQ_zero]
 unfold inO
 by_cases e : j = x <;> simp [e]
theorem TurnO.done {L : List LkD} {lv : Nat → Bool} {n m x : Nat} {o : List Nat} {xs : List Int} (T : TurnO L lv n m o x xs) (j : Nat) : openC L lv (uQ L o xs xs.length) L.length j = openC L lv (fun k => !inO (o ++ [x]) (lkn L k).src.toNat) L.length j := by
 refine openC_like (fun k hk hl => ?_)
 unfold uQ inO
 rw [List.take_length]
 have := T.mem (k : Int)
 by_cases e : (lkn L k).src.toNat = x
 ·have hm : (k : Int) ∈ xs := this.2 ⟨k, hk, hl, e, rfl⟩
  simp [hm, e]
 ·have hm : (k : Int) ∉ xs := fun h => by
   obtain ⟨k', _, _, h3, h4⟩ := this.1 h
   obtain rfl : k = k' := by omega
   exact e h3
  simp [hm, e]
theorem TurnO.last {L : List LkD} {lv : Nat → Bool} {n m x : Nat} {o : List Nat} {xs : List Int} (T : TurnO L lv n m o x xs) : rdQ L lv n o x xs xs.length = listP (readyB L lv (inO (o ++ [x]))) n := by
 unfold rdQ
 refine listP_ext (fun j _ => ?_)
 rw [ready_is, T.done]
theorem TurnO.same {L : List LkD} {lv : Nat → Bool} {n m x : Nat} {o : List Nat} {xs : List Int} (T : TurnO L lv n m o x xs) {q k : Nat} (hq : q < xs.length) (hk : xs[q] = (k : Int)) (h : openC L lv (uQ L o xs (q + 1)) L.length (lkn L k).dst.toNat ≠ 0) : rdQ L lv n o x xs (q + 1) = rdQ L lv n o x xs q := by
 unfold rdQ
 refine listP_ext (fun j _ => ?_)
 have hc := T.count hq hk j
 by_cases e : (lkn L k).dst.toNat = j
 ·subst e
  have h1 : (openC L lv (uQ L o xs q) L.length (lkn L k).dst.toNat == 0) = false := by simp; omega
  have h2 : (openC L lv (uQ L o xs (q + 1)) L.length (lkn L k).dst.toNat == 0) = false := by simpa using h
  rw [h1, h2]
 ·rw [if_neg e, Nat.add_zero] at hc
  rw [hc]
theorem TurnO.more {L : List LkD} {lv : Nat → Bool} {n m x : Nat} {o : List Nat} {xs : List Int} (T : TurnO L lv n m o x xs) {q k pos : Nat} (hq : q < xs.length) (hk : xs[q] = (k : Int)) (h : openC L lv (uQ L o xs (q + 1)) L.length (lkn L k).dst.toNat = 0) (hs : SplitAt (rdQ L lv n o x xs q) (((lkn L k).dst.toNat : Nat) : Int) pos) :
  (rdQ L lv n o x xs q).take pos ++ (((lkn L k).dst.toNat : Nat) : Int) :: (rdQ L lv n o x xs q).drop pos = rdQ L lv n o x xs (q + 1) := by
 obtain ⟨h1, h2, h3, h4⟩ := T.live hq hk
 have hc0 := T.count hq hk (lkn L k).dst.toNat
 rw [if_pos rfl, h] at hc0
 have hni : (lkn L k).dst.toNat ∉ o ++ [x] := fun hin => by
  have hsrc : (lkn L k).src.toNat ∈ o := by
   rcases List.mem_append.1 hin with a | a
   ·exact ordN_from T.ord k h1 h2 a
   ·have hr := T.rdy
    rw [ready_is] at hr
    simp only [Bool.and_eq_true, beq_iff_eq] at hr
    have h5 := openC_zero.1 hr.2 k h1 h2
    rw [List.mem_singleton.1 a] at h5
    apply Classical.byContradiction
    intro hns
    exact h5 (by simpa [inO] using hns) rfl
  rw [h3] at hsrc
  exact T.new hsrc
 unfold rdQ at hs ⊢
 rw [listP_ins (T.dst k h1) (by simp [hc0]) hs]
 refine listP_ext (fun j _ => ?_)
 have hc := T.count hq hk j
 by_cases e : (lkn L k).dst.toNat = j
 ·subst e
  rw [h]
  have : inO (o ++ [x]) (lkn L k).dst.toNat = false := by simpa [inO] using hni
  simp [this]
 ·rw [if_neg e, Nat.add_zero] at hc
  rw [hc]
  have : (j == (lkn L k).dst.toNat) = false := by simpa using fun q => e q.symm
  simp [this]
/-- How many nodes wait for something. -/
def posN (c : Nat → Nat) (n : Nat) : Nat := (listP (fun j => decide (0 < c j)) n).length
theorem posN_succ (c : Nat → Nat) (n : Nat) : posN c (n + 1) = posN c n + (if 0 < c n then 1 else 0) := by
 unfold posN
 rw [listP_succ]
 by_cases e : 0 < c n <;> simp [e]
theorem posN_like {c d : Nat → Nat} : ∀ {n : Nat}, (∀ j, j < n → (0 < c j ↔ 0 < d j)) → posN c n = posN d n
 | 0, _ => rfl
 | n + 1, h => by
  rw [posN_succ, posN_succ, posN_like (n := n) (fun j hj => h j (by omega))]
  have := h n (by omega)
  by_cases e : 0 < c n
  ·simp [e, this.1 e]
  ·have e2 : ¬ 0 < d n := fun q => e (this.2 q)
   simp [e, e2]
theorem posN_less {c d : Nat → Nat} {j : Nat} (h0 : 0 < c j) (h1 : d j = 0) (ho : ∀ i, i ≠ j → d i = c i) : ∀ {n : Nat}, j < n → posN c n = posN d n + 1
 | 0, h => absurd h (Nat.not_lt_zero j)
 | n + 1, h => by
  rw [posN_succ, posN_succ]
  by_cases e : j = n
  ·subst e
   rw [posN_like (c := c) (d := d) (fun i hi => by rw [ho i (by omega)]), if_pos h0, if_neg (by omega)]
  ·rw [posN_less h0 h1 ho (show j < n by omega), ho n (fun q => e q.symm)]
   omega
theorem posN_zero {c : Nat → Nat} {n : Nat} : posN c n = 0 ↔ ∀ j, j < n → c j = 0 := by
 induction n with
 | zero => simp [posN, listP]
 | succ n ih =>
  rw [posN_succ]
  constructor
  ·intro h j hj
   by_cases e : j = n
   ·subst e
    apply Classical.byContradiction
    intro q
    rw [if_pos (by omega)] at h
    omega
   ·exact ih.1 (by omega) j (by omega)
  ·intro h
   rw [ih.2 (fun j hj => h j (by omega)), h n (by omega)]
   simp
end Go.Proofs.YtkpfbnffhhmokaaGreat
namespace Go.Proofs.YtkpfbnffhhmokaaGreat
open Go.ChangeShapes Go.WideShapes Go.ChangeAt Go.RowKit Go.Deep
open Go.Maps (Keyed)
set_option linter.unusedVariables false
set_option linter.unusedSimpArgs false
def updC (c : Nat → Nat) (j v : Nat) : Nat → Nat := fun i => if i = j then v else c i
theorem updC_same (c : Nat → Nat) (j v : Nat) : updC c j v j = v := by simp [updC]
theorem updC_other {c : Nat → Nat} {j v i : Nat} (h : i ≠ j) : updC c j v i = c i := by simp [updC, h]
def keyN (j : Nat) : Lit := .int .i64 (j : Int)
theorem keyN_ne {i j : Nat} (h : i ≠ j) : keyN i ≠ keyN j := fun e => by
 unfold keyN at e
 injection e with _ e
 omega
theorem keyN_key (j : Nat) : WideAt.IsKeyLit (keyN j) := by unfold keyN; trivial
/-- A datum holds the counts that are not zero, and nothing else of the first n nodes. -/
structure CntD (n : Nat) (c : Nat → Nat) (D : DataW Unit) : Prop where
 at_ : ∀ j, j < n → D.atKey (keyN j) (.lit (.int .i64 0)) = .lit (.int .i64 (c j : Int))
 has : ∀ j, j < n → Maps.has D (keyN j) = decide (0 < c j)
 size : Maps.size D = posN c n
theorem CntD.none (n : Nat) : CntD n (fun _ => 0) (.map []) := ⟨fun _ _ => rfl, fun _ _ => rfl, (posN_zero.2 (fun _ _ => rfl)).symm⟩
theorem CntD.like {n : Nat} {c d : Nat → Nat} {D : DataW Unit} (h : CntD n c D) (e : ∀ j, j < n → c j = d j) : CntD n d D :=
 ⟨fun j hj => by rw [← e j hj]; exact h.at_ j hj, fun j hj => by rw [← e j hj]; exact h.has j hj, by rw [h.size]; exact posN_like (fun j hj => by rw [e j hj])⟩
theorem CntD.put {n j v : Nat} {c : Nat → Nat} {D : DataW Unit} (h : CntD n c D) (hT : Maps.Tidy D) (hj : j < n) (hv : 0 < v) : CntD n (updC c j v) (D.put (keyN j) (.lit (.int .i64 (v : Int)))) := by
 refine ⟨fun i hi => ?_, fun i hi => ?_, ?_⟩
 ·by_cases e : i = j
  ·subst e; rw [Maps.atKey_put_same hT.isMap (keyN_key _), updC_same]
  ·rw [Maps.atKey_put_other (keyN_ne e), updC_other e]; exact h.at_ i hi
 ·by_cases e : i = j
  ·subst e; rw [Maps.has_put_same hT.isMap (keyN_key _), updC_same]; simpa using hv
  ·rw [Maps.has_put_other (keyN_ne e), updC_other e]; exact h.has i hi
 ·rw [Maps.size_put hT, h.has j hj, h.size]
  by_cases e : 0 < c j
  ·rw [if_pos (by simpa using e)]
   exact posN_like (fun i hi => by
    by_cases q : i = j
    ·subst q; rw [updC_same]; exact ⟨fun _ => hv, fun _ => e⟩
    ·rw [updC_other q])
  ·rw [if_neg (by simpa using e)]
   exact (posN_less (c := updC c j v) (d := c) (by rw [updC_same]; exact hv) (by omega) (fun i hi => (updC_other hi).symm) hj).symm
theorem CntD.del {n j : Nat} {c : Nat → Nat} {D : DataW Unit} (h : CntD n c D) (hT : Maps.Tidy D) (hj : j < n) (hc : 0 < c j) (d : DataW Unit) : CntD n (updC c j 0) ((D.put (keyN j) d).del (keyN j)) := by
 have hT2 : Maps.Tidy (D.put (keyN j) d) := hT.put (keyN_key _) d
 refine ⟨fun i hi => ?_, fun i hi => ?_, ?_⟩
 ·by_cases e : i = j
  ·subst e; rw [Maps.atKey_del_same, updC_same]; rfl
  ·rw [Maps.atKey_del_other (keyN_ne e), Maps.atKey_put_other (keyN_ne e), updC_other e]; exact h.at_ i hi
 ·by_cases e : i = j
  ·subst e; rw [Maps.has_del_same, updC_same]; rfl
  ·rw [Maps.has_del_other (keyN_ne e), Maps.has_put_other (keyN_ne e), updC_other e]; exact h.has i hi
 ·have h1 := Maps.size_del (k := keyN j) hT2
  rw [Maps.has_put_same hT.isMap (keyN_key _), if_pos rfl, Maps.size_put hT, h.has j hj, if_pos (by simpa using hc), h.size] at h1
  have h2 := posN_less (c := c) (d := updC c j 0) hc (updC_same _ _ _) (fun i hi => updC_other hi) hj
  omega
theorem CntD.zero {n : Nat} {c : Nat → Nat} {D : DataW Unit} (h : CntD n c D) : Maps.size D = 0 ↔ ∀ j, j < n → c j = 0 := by rw [h.size]; exact posN_zero
theorem CntD.le {n : Nat} {c : Nat → Nat} {D : DataW Unit} (h : CntD n c D) : Maps.size D ≤ n := by rw [h.size]; exact listP_len _ _
theorem Tryz.cntLaw : Keyed Tryz.prog 2 := Maps.int_keyed Tryz.underlying2
theorem Tryz.cntZero (w : World) : (zeroValue 3).run Tryz.prog w = .ok (.int .i64 0) w := by kernel_rfl
/-- Block B is the map of these counts. -/
def CntM (w : World) (B n : Nat) (c : Nat → Nat) : Prop := ∃ D : DataW Unit, w.ownsMap Tryz.prog 2 (plainElem Tryz.prog 3) B n D ∧ CntD n c D
theorem own_tight {w : World} {B m n : Nat} {D : DataW Unit} (h : w.ownsMap Tryz.prog 2 (plainElem Tryz.prog 3) B m D) (hs : Maps.size D ≤ n) : w.ownsMap Tryz.prog 2 (plainElem Tryz.prog 3) B n D := by
 obtain ⟨es, clock, h1, h2, h3, h4⟩ := h
 have hx : w.ownsMap Tryz.prog 2 (plainElem (H := Unit) Tryz.prog 3) B es.size D := ⟨es, clock, h1, h2, Nat.le_refl _, h4⟩
 refine ⟨es, clock, h1, h2, ?_, h4⟩
 rw [h4] at hs
 simp only [Maps.size, length_sorted, List.length_map, Array.length_toList] at hs
 exact hs
theorem CntM.made (w : World) (n : Nat) : CntM (w.alloc (.map #[] 0)) w.heap.size n (fun _ => 0) := ⟨_, own_tight (World.ownsMap_made w _ _ _) (by simp [Maps.size]), CntD.none n⟩
theorem CntM.kept {w w' : World} {B n : Nat} {c : Nat → Nat} {row : Option Nat} (h : CntM w B n c) (hg : w.grownBy w' row) (hne : some B ≠ row) : CntM w' B n c := by
 obtain ⟨D, h1, h2⟩ := h
 exact ⟨D, h1.kept hg hne, h2⟩
theorem CntM.below {w w' : World} {B n : Nat} {c : Nat → Nat} (h : CntM w B n c) (hb : Below w.heap.size w w') : CntM w' B n c := h.kept (row := none) ⟨hb.os, hb.tape, hb.output, hb.size, fun k hk _ => hb.block k hk⟩ (by simp)
theorem CntM.lt {w : World} {B n : Nat} {c : Nat → Nat} (h : CntM w B n c) : B < w.heap.size := by obtain ⟨D, h1, _⟩ := h; exact h1.lt
/-- A list lies in no map's block. -/
theorem CntM.apart {w : World} {B n g : Nat} {c : Nat → Nat} {cur : Array Value} {e : TypeId} {f : Nat × Nat} (h : CntM w B n c) (hg : w.heap[g]? = some (.cells cur e f)) : g ≠ B := by
 obtain ⟨D, ⟨es, clock, h1, _⟩, _⟩ := h
 intro q
 rw [q, h1] at hg
 cases hg
theorem GI.away {w : World} {B n base : Nat} {c : Nat → Nat} {v : Value} {xs : List Int} (h : CntM w B n c) (hv : GI w base v xs) : v.ownBlock ≠ some B := by
 intro e
 rcases hv.2 with ⟨rfl, _⟩ | ⟨g, cap, cur, rfl, _, hg, _⟩
 ·cases e
 ·cases e; exact h.apart hg rfl
end Go.Proofs.YtkpfbnffhhmokaaGreat
namespace Go.Proofs.YtkpfbnffhhmokaaGreat
open Go.ChangeShapes Go.WideShapes Go.ChangeAt Go.RowKit Go.Deep Go.Lib
set_option linter.unusedVariables false
set_option linter.unusedSimpArgs false
set_option maxRecDepth 100000
/-- Two lists of numbers: what stands where a number was put in. -/
theorem iv_ins {xs : List Int} {p : Nat} {x : Int} (hp : p ≤ xs.length) (i : Nat) (hi : i < xs.length + 1) : iv (xs.take p ++ x :: xs.drop p) i = if i < p then iv xs i else if i = p then x else iv xs (i - 1) := by
 unfold iv
 by_cases h1 : i < p
 ·rw [if_pos h1, List.getD, List.getElem?_append_left (by rw [List.length_take]; omega), List.getElem?_take, if_pos h1]; rfl
 ·rw [if_neg h1, List.getD, List.getElem?_append_right (by rw [List.length_take]; omega), List.length_take, Nat.min_eq_left hp]
  by_cases h2 : i = p
  ·subst h2; simp
  ·rw [if_neg h2, show i - p = (i - p - 1) + 1 by omega, List.getElem?_cons_succ, List.getElem?_drop, show p + (i - p - 1) = i - 1 by omega]; rfl
theorem len_ins (xs : List Int) (p : Nat) (x : Int) (hp : p ≤ xs.length) : (xs.take p ++ x :: xs.drop p).length = xs.length + 1 := by
 rw [List.length_append, List.length_cons, List.length_take, List.length_drop]; omega
theorem set_at (b : Nat) (vs : List Value) (o : Nat) (w : World) (h : ∀ j, j < vs.length → (w.cell? ⟨b, o + j, none⟩).isSome = true) (k : Nat) :
  (w.setCells b o vs).cell? ⟨b, k, none⟩ = if o ≤ k ∧ k < o + vs.length then vs[k - o]? else w.cell? ⟨b, k, none⟩ := by
 by_cases e : o ≤ k ∧ k < o + vs.length
 ·have h1 := World.cell?_setCells_in b vs o w h (k - o) (by omega)
  rw [show o + (k - o) = k by omega] at h1
  rw [if_pos e, h1, List.getElem?_eq_getElem (by omega)]
 ·rw [if_neg e]
  exact World.cell?_setCells_out b vs o w _ (fun _ _ => by simp only; omega)
theorem grown_one (w : World) (p : Addr) (u : Value) : w.grownBy (w.setCell p u) (some p.block) :=
 ⟨rfl, rfl, rfl, by simp [World.setCell], fun k _ hne => Below.heap_setCell _ _ _ _ (fun e => hne (by rw [e]))⟩
theorem grown_sets (b : Nat) : ∀ (vs : List Value) (o : Nat) (w : World), w.grownBy (w.setCells b o vs) (some b)
 | [], _, w => World.grownBy.refl _ _
 | v :: r, o, w => (grown_one w ⟨b, o, none⟩ v).trans (grown_sets b r (o + 1) _)
theorem grown_from {w w' : World} {row : Option Nat} (h : w.drew.grownBy w' row) : w.grownBy w' row := ⟨h.os, h.tape, h.output, h.size, h.block⟩
theorem grown_to {w w' : World} {row : Option Nat} (h : w.grownBy w' row) : w.grownBy w'.drew row := ⟨h.os, h.tape, h.output, h.size, h.block⟩
theorem shape_of {w : World} {b o : Nat} {v : Value} (h : w.cell? ⟨b, o, none⟩ = some v) : ∃ t k, w.shape? b = some (t, k) ∧ k ≠ 0 := by
 unfold World.cell? at h
 unfold World.shape?
 split at h
 ·next c e f hh =>
  rw [hh]
  refine ⟨_, _, rfl, fun e0 => ?_⟩
  simp only at h
  rw [Array.getElem?_eq_none (by omega)] at h
  cases h
 all_goals cases h
/-- A list that the call owns, perhaps cut at its front: its cells may be written, up to its capacity. -/
def RdL (w : World) (base : Nat) (v : Value) (xs : List Int) : Prop :=
 (v = .slice none 0 0 ∧ xs = []) ∨ ∃ b off cap, v = .slice (some ⟨b, off, none⟩) xs.length cap ∧ base ≤ b ∧ b < w.heap.size ∧ xs.length ≤ cap ∧ cap ≤ 9223372036854775807 ∧
  (∀ j, j < cap → (w.cell? ⟨b, off + j, none⟩).isSome = true ∧ w.frozen? ⟨b, off + j, none⟩ = false) ∧ ∀ i, i < xs.length → w.cell? ⟨b, off + i, none⟩ = some (.int .i64 (iv xs i))
theorem RdL.kept {w w' : World} {base : Nat} {v : Value} {xs : List Int} {row : Option Nat} (h : RdL w base v xs) (hg : w.grownBy w' row) (hne : v.ownBlock = none ∨ v.ownBlock ≠ row) : RdL w' base v xs := by
 rcases h with h | ⟨b, off, cap, rfl, h1, h2, h3, h4, h5, h6⟩
 ·exact .inl h
 ·have ne : some b ≠ row := by
   rcases hne with q | q
   ·cases q
   ·exact q
  refine .inr ⟨b, off, cap, rfl, h1, Nat.lt_of_lt_of_le h2 hg.size, h3, h4, fun j hj => ?_, fun i hi => hg.cell (h6 i hi) ne⟩
  obtain ⟨a, c⟩ := h5 j hj
  exact ⟨by rw [World.cell?_of_block (a := ⟨b, off + j, none⟩) (hg.block b h2 ne)]; exact a, by rw [World.frozen?_of_block (a := ⟨b, off + j, none⟩) (hg.block b h2 ne)]; exact c⟩
theorem RdL.lt {w : World} {base : Nat} {v : Value} {xs : List Int} (h : RdL w base v xs) : ∀ g, v.ownBlock = some g → base ≤ g ∧ g < w.heap.size := by
 intro g hg
 rcases h with ⟨rfl, _⟩ | ⟨b, off, cap, rfl, h1, h2, _⟩
 ·cases hg
 ·cases hg; exact ⟨h1, h2⟩
theorem RdL.of {w : World} {base : Nat} {v : Value} {xs : List Int} (h : GI w base v xs) : RdL w base v xs := by
 rcases h.2 with ⟨rfl, h0⟩ | ⟨g, cap, cur, rfl, hb, hg, hn, hc, hs, ht⟩
 ·exact .inl ⟨rfl, List.length_eq_zero_iff.1 h0⟩
 ·refine .inr ⟨g, 0, cap, rfl, hb, (Array.getElem?_eq_some_iff.1 hg).1, hn, by unfold maxLen at hc; exact hc, fun j hj => ⟨?_, ?_⟩, fun i hi => ?_⟩
  ·rw [Nat.zero_add, cell_of_row w g j _ _ _ hg, Array.getElem?_eq_getElem (by omega)]; rfl
  ·rw [Nat.zero_add]; exact World.ownsRow.frozenAt h j
  ·rw [Nat.zero_add]
   have hc := World.ownsRow.cellAt h i (by omega)
   rw [hc]
   simp [iv, List.getD, hi]
theorem RdL.nil (w : World) (base : Nat) : RdL w base (.slice none 0 0) [] := .inl ⟨rfl, rfl⟩
/-- The list without its first number. -/
theorem RdL.tail {w : World} {base b off cap : Nat} {x : Int} {xs : List Int} (h : RdL w base (.slice (some ⟨b, off, none⟩) (xs.length + 1) cap) (x :: xs)) : RdL w base (.slice (some ⟨b, off + 1, none⟩) xs.length (cap - 1)) xs ∧ RdL w base (.slice (some ⟨b, off, none⟩) 0 (cap - 1)) [] := by
 rcases h with ⟨h, _⟩ | ⟨b', off', cap', e, h1, h2, h3, h4, h5, h6⟩
 ·cases h
 ·cases e
  simp only [List.length_cons] at h3 h6
  refine ⟨.inr ⟨b, off + 1, cap - 1, rfl, h1, h2, by omega, by omega, fun j hj => ?_, fun i hi => ?_⟩, .inr ⟨b, off, cap - 1, rfl, h1, h2, by simp, by omega, fun j hj => h5 j (by omega), fun i hi => absurd hi (by simp)⟩⟩
  ·have := h5 (j + 1) (by omega)
   rw [show off + 1 + j = off + (j + 1) by omega]; exact this
  ·have := h6 (i + 1) (by omega)
   rw [show off + 1 + i = off + (i + 1) by omega, this]
   simp [iv, List.getD]
theorem Tryz.infoIns : (Tryz.prog.info? 2).map (fun i => (i.zero, i.size, i.bytes)) = some (some (.int .i64 0), 1, 8) := by kernel_rfl
theorem Tryz.sizeIns : (Tryz.prog.info? 2).map (·.size) = some 1 := by kernel_rfl
theorem Tryz.sizeOfIns (w : World) : (Go.sizeOf 2).run Tryz.prog w = .ok 1 w := by kernel_rfl
set_option maxHeartbeats 8000000 in
theorem ins_shift (b off n c i vb : Nat) (cs : List Value) (x : Value) (w : World) (hi : i < n) (hroom : n + 1 ≤ c) (hc63 : c ≤ 9223372036854775807) (hvb : vb ≠ b) (hcl : cs.length = n)
  (hcs : ∀ j v, cs[j]? = some v → w.cell? ⟨b, off + j, none⟩ = some v) (hsp : ∀ j, j < n + 1 → (w.cell? ⟨b, off + j, none⟩).isSome = true) (hfz : ∀ j, j < n + 1 → w.frozen? ⟨b, off + j, none⟩ = false)
  (hvs : w.cell? ⟨vb, 0, none⟩ = some x) (h1c : ∀ v ∈ cs, v.oneCell' = true) (h1v : x.oneCell' = true)
  (tA tB : TypeId) (kA kB : Nat) (hsa : w.shape? vb = some (tA, kA)) (hsb : w.shape? b = some (tB, kB)) (hkB : kB ≠ 0) (hfa : w.frozen? ⟨vb, 0, none⟩ = false) (hfe : w.frozen? ⟨vb, kA, none⟩ = false) :
  Calls Tryz.prog 124 #[.slice (some ⟨b, off, none⟩) n c, .int .i64 i, .slice (some ⟨vb, 0, none⟩) 1 1] w fun e w' =>
   e = .returned (.slice (some ⟨b, off, none⟩) (n + 1) c) ∧ w' = (w.drew.setCells b (off + (i + 1)) (cs.drop i)).setCells b (off + i) [x] := by
 have hz2 : ¬ ((i : Int) = (n : Int)) := by omega
 have hov : ∀ lb cb, (callFunc 158 #[.slice (some ⟨vb, 0, none⟩) 1 1, .slice (some ⟨b, off + (i + 1), none⟩) lb cb]).run Tryz.prog w = .ok (.value (.bool false)) w := fun lb cb => by
  rw [run_callFunc_extern Tryz.func158 (by kernel_rfl) (by kernel_rfl) (by kernel_rfl) (e := Extern.SlicesOverlaps.overlaps #[33, 33] #[4]) (by kernel_rfl),
   Lib.run_overlaps_apart w 33 4 2 Tryz.underlying33 1 Tryz.sizeOfIns ⟨vb, 0, none⟩ ⟨b, off + (i + 1), none⟩ 1 1 lb cb hvb tA tB kA kB hsa hsb hkB hfa hfe]
  rfl
 have hdl : (cs.drop i).length = n - i := by rw [List.length_drop, hcl]
 have hw1 : IntKind.i64.wrap ((i : Int) + 1) = (i : Int) + 1 := by rw [IntKind.wrap_i64]; omega
 have hb1 : (0 : Int) ≤ (i : Int) + 1 := by omega
 have hin : i ≤ n := by omega
 have htn : ((i : Int) + 1).toNat = i + 1 := by omega
 have hb2 : ¬ (c = i + 1) := by omega
 have hb3 : (i : Int) ≤ (n : Int) + 1 := by omega
 have hb4 : ¬ (c = i) := by omega
 have hcp1 : ∀ ty dc sc, (Builtin.copy_ #[33, 33] ty #[.slice (some ⟨b, off + (i + 1), none⟩) (n - i) dc, .slice (some ⟨b, off + i, none⟩) (n + 1 - i) sc]).run Tryz.prog w.drew = .ok (goInt (cs.drop i).length) (w.drew.setCells b (off + (i + 1)) (cs.drop i)) := fun ty dc sc =>
  run_copy_cells w.drew _ _ ty 2 b (off + (i + 1)) (n - i) dc ⟨b, off + i, none⟩ (n + 1 - i) sc (cs.drop i) Tryz.underlying33 Tryz.sizeIns (by rw [hdl]; simp only [Nat.min_def]; split <;> omega)
   (fun j v hj => by rw [Addr.add_lit, Nat.add_assoc]; exact hcs (i + j) v (by rwa [List.getElem?_drop] at hj))
   (fun j hj => by rw [Nat.add_assoc]; exact hsp _ (by omega)) (fun j hj => by rw [Nat.add_assoc]; exact hfz _ (by omega)) (fun v hv => h1c v (List.mem_of_mem_drop hv))
 obtain ⟨W1, hW1⟩ : ∃ W1, W1 = w.drew.setCells b (off + (i + 1)) (cs.drop i) := ⟨_, rfl⟩
 have hsp1 : ∀ k, k < n + 1 → (W1.cell? ⟨b, off + k, none⟩).isSome = true := fun k hk => by
  rw [hW1]
  exact isSome_setCells b _ _ _ (fun j hj => by rw [Nat.add_assoc]; exact hsp _ (by omega)) _ (hsp k hk)
 have hcp2 : ∀ (W : World), (∀ x, W.cell? x = W1.cell? x) → (∀ x, W.frozen? x = W1.frozen? x) → ∀ ty dc, (Builtin.copy_ #[33, 33] ty #[.slice (some ⟨b, off + i, none⟩) (n + 1 - i) dc, .slice (some ⟨vb, 0, none⟩) 1 1]).run Tryz.prog W = .ok (goInt [x].length) (W.setCells b (off + i) [x]) := fun W hWc hWf ty dc =>
  run_copy_cells W _ _ ty 2 b (off + i) (n + 1 - i) dc ⟨vb, 0, none⟩ 1 1 [x] Tryz.underlying33 Tryz.sizeIns (by simp only [Nat.min_def, List.length_singleton]; split <;> omega)
   (fun j v hj => by
    rw [Addr.add_lit, hWc, hW1, World.cell?_setCells_out b _ _ _ _ (fun h _ => absurd h hvb)]
    cases j with
    | zero => simp only [List.getElem?_cons_zero, Option.some.injEq] at hj; subst hj; exact hvs
    | succ j => simp at hj)
   (fun j hj => by rw [hWc, Nat.add_assoc]; exact hsp1 _ (by simp at hj; omega)) (fun j hj => by rw [hWf, hW1, World.frozen?_setCells, Nat.add_assoc]; exact hfz _ (by simp at hj; omega)) (fun v hv => by rw [List.mem_singleton.1 hv]; exact h1v)
 rw [← hW1] at hcp1
 go_enter Tryz.func124, Tryz.ntmps124
 go_wp2_with (simp only [hov])
 go_region_law (refine step_copy_runI rfl _ _ 33 33 rfl _ _ (by simp [Act.eval, Act.put]) (by simp [Act.eval, Act.put]) (hcp1 _ _ _) ?_)
 go_wp2_with (at_builtin; refine wpList_copy_runI _ rfl _ _ 33 33 rfl _ _ rfl rfl (hcp2 _ (fun _ => rfl) (fun _ => rfl) _ _) ?_)
 go_ret
 first | exact ⟨rfl, rfl⟩ | exact ⟨rfl, by rw [hW1]⟩
set_option maxHeartbeats 8000000 in
theorem ins_end_room (b off n c vb : Nat) (x : Value) (w : World) (hroom : n + 1 ≤ c) (hc63 : c ≤ 9223372036854775807) (hsp : (w.cell? ⟨b, off + n, none⟩).isSome = true) (hfz : w.frozen? ⟨b, off + n, none⟩ = false)
  (hvs : w.cell? ⟨vb, 0, none⟩ = some x) (h1v : x.oneCell' = true) :
  Calls Tryz.prog 124 #[.slice (some ⟨b, off, none⟩) n c, .int .i64 n, .slice (some ⟨vb, 0, none⟩) 1 1] w fun e w' =>
   e = .returned (.slice (some ⟨b, off, none⟩) (n + 1) c) ∧ w' = w.setCells b (off + n) [x] := by
 have hsrc : Src Tryz.prog 1 33 (.slice (some ⟨vb, 0, none⟩) 1 1) 1 [x] w := Src.ofSlice w Tryz.underlying33 ⟨vb, 0, none⟩ 1 1 [x] (by simp) (fun j u hj => by
  cases j with
  | zero => simp only [List.getElem?_cons_zero, Option.some.injEq] at hj; subst hj; exact hvs
  | succ j => simp at hj) (fun v hv => by rw [List.mem_singleton.1 hv]; exact h1v)
 go_enter Tryz.func124, Tryz.ntmps124
 go_wp2_with (at_builtin; refine wpList_append_room1 _ rfl _ _ 33 33 rfl 2 _ _ Tryz.underlying33 Tryz.infoIns b off n c rfl _ rfl 1 [x] hsrc hroom (fun j hj => by simp at hj; subst hj; exact hsp) (fun j hj => by simp at hj; subst hj; exact hfz) ?_)
 go_ret
 exact ⟨rfl, rfl⟩
set_option maxHeartbeats 8000000 in
theorem ins_end_grow (base : Option Addr) (n c vb : Nat) (cs : List Value) (x : Value) (w : World) (hnc : n ≤ c) (hroom : c < n + 1) (hbig : n ≤ 100000) (hcl : cs.length = n) (hnil : base = none → n = 0)
  (hcs : ∀ a, base = some a → ∀ j v, cs[j]? = some v → w.cell? (a.add j) = some v) (hvs : w.cell? ⟨vb, 0, none⟩ = some x) (h1v : x.oneCell' = true) :
  Calls Tryz.prog 124 #[.slice base n c, .int .i64 n, .slice (some ⟨vb, 0, none⟩) 1 1] w fun e w' =>
   e = .returned (.slice (some ⟨w.heap.size, 0, none⟩) (n + 1) (grownCap w (n + 1) c 2)) ∧
   w' = w.drew.alloc (.cells ((cs ++ [x]).toArray ++ Builtin.zeroCells (Value.int .i64 0).cells (grownCap w (n + 1) c 2 - (n + 1))) 2) := by
 obtain ⟨i0, hi0, hz0, hzs, hzb⟩ := info_parts Tryz.infoIns
 have hsrc : Src Tryz.prog i0.size 33 (.slice (some ⟨vb, 0, none⟩) 1 1) 1 [x] w := by
  rw [hzs]
  exact Src.ofSlice w Tryz.underlying33 ⟨vb, 0, none⟩ 1 1 [x] (by simp) (fun j u hj => by
   cases j with
   | zero => simp only [List.getElem?_cons_zero, Option.some.injEq] at hj; subst hj; exact hvs
   | succ j => simp at hj) (fun v hv => by rw [List.mem_singleton.1 hv]; exact h1v)
 have hold : (Builtin.firstCells i0.size n (.slice base n c)).run Tryz.prog w.drew = .ok cs.toArray w.drew := by
  rw [hzs]
  cases base with
  | none =>
   have h0 := hnil rfl
   subst h0
   rw [List.length_eq_zero_iff.1 hcl]
   exact run_firstCells_none w.drew 1 0 0 c
  | some a => exact run_firstCells_some w.drew 1 n a n c cs (by omega) (fun j v hj => hcs a rfl j v hj)
 have hrun : ∀ ty, (Builtin.append_ #[33, 33] ty #[.slice base n c, .slice (some ⟨vb, 0, none⟩) 1 1]).run Tryz.prog w = _ := fun ty =>
  run_append_grow_src w 33 33 ty 2 i0 _ Tryz.underlying33 hi0 hz0 base n c cs hold _ 1 [x] hsrc hroom (by omega) (by rw [hzb]; exact growslice_fits hroom (by omega))
 go_enter Tryz.func124, Tryz.ntmps124
 cases base with
 | none =>
  have h0 := hnil rfl
  subst h0
  go_wp2_with (at_builtin; refine Lib.wpList_append_run _ rfl _ _ _ _ rfl _ _ rfl rfl _ _ (hrun _) ?_)
  go_ret
  exact ⟨rfl, rfl⟩
 | some a =>
  obtain ⟨ab, ao, asp⟩ := a
  go_wp2_with (at_builtin; refine Lib.wpList_append_run _ rfl _ _ _ _ rfl _ _ rfl rfl _ _ (hrun _) ?_)
  all_goals (go_ret; exact ⟨rfl, rfl⟩)
set_option maxHeartbeats 8000000 in
theorem ins_grow (b off n c i vb : Nat) (cs : List Value) (x : Value) (w : World) (hi : i < n) (hnc : n ≤ c) (hroom : c < n + 1) (hbig : n ≤ 100000) (hcl : cs.length = n)
  (hcs : ∀ j v, cs[j]? = some v → w.cell? ⟨b, off + j, none⟩ = some v) (hvs : w.cell? ⟨vb, 0, none⟩ = some x) (h1c : ∀ v ∈ cs, v.oneCell' = true) (h1v : x.oneCell' = true) :
  Calls Tryz.prog 124 #[.slice (some ⟨b, off, none⟩) n c, .int .i64 i, .slice (some ⟨vb, 0, none⟩) 1 1] w fun e w' =>
   e = .returned (.slice (some ⟨w.heap.size, 0, none⟩) (n + 1) (grownCap w (n + 1) c 2)) ∧
   w' = (((w.alloc (.cells ((cs.take i).toArray ++ Builtin.zeroCells (Value.int .i64 0).cells (n + 1 - i) ++ Builtin.zeroCells (Value.int .i64 0).cells (grownCap w (n + 1) c 2 - (n + 1))) 2)).drew.setCells w.heap.size i [x]).drew).setCells w.heap.size (i + 1) (cs.drop i) := by
 obtain ⟨i0, hi0, hz0, hzs, hzb⟩ := info_parts Tryz.infoIns
 have hz2 : ¬ ((i : Int) = (n : Int)) := by omega
 have hz3 : (c : Int) < (n : Int) + 1 := by omega
 have hbw : b < w.heap.size := block_lt_of_cell (hcs 0 _ (List.getElem?_eq_getElem (by omega)))
 have hvw : vb < w.heap.size := block_lt_of_cell hvs
 have hkk : (n : Int) + 1 - (i : Int) = ((n + 1 - i : Nat) : Int) := by omega
 have hik : i + (n + 1 - i) = n + 1 := by omega
 have hold : (Builtin.firstCells i0.size i (.slice (some ⟨b, off, none⟩) i c)).run Tryz.prog w.drew = .ok (cs.take i).toArray w.drew := by
  rw [hzs]
  exact run_firstCells_some w.drew 1 i ⟨b, off, none⟩ i c (cs.take i) (by rw [List.length_take]; omega) (fun j v hj => by
   rw [Addr.add_lit]
   rw [List.getElem?_take] at hj
   split at hj
   ·exact hcs j v hj
   ·cases hj)
 have hrz : ∀ ty, (Builtin.append_ #[33, 3] ty #[.slice (some ⟨b, off, none⟩) i c, .int .i64 ((n : Int) + 1 - (i : Int))]).run Tryz.prog w =
   .ok (.slice (some ⟨w.heap.size, 0, none⟩) (n + 1) (grownCap w (n + 1) c 2)) (w.drew.alloc (.cells ((cs.take i).toArray ++ Builtin.zeroCells (Value.int .i64 0).cells (n + 1 - i) ++ Builtin.zeroCells (Value.int .i64 0).cells (grownCap w (n + 1) c 2 - (n + 1))) 2)) := fun ty => by
  have h := Lib.run_append_grow_zeros w 33 3 ty 2 i0 _ .i64 .i64 Tryz.underlying33 Tryz.underlying3 hi0 hz0 (some ⟨b, off, none⟩) i c (cs.take i) hold (n + 1 - i) (by omega) (by omega) (by omega) (by omega) (by rw [hzb]; omega) (by rw [hzb, hik]; exact growslice_fits hroom (by omega))
  rw [hik] at h
  rw [hkk]
  exact h
 obtain ⟨G, hG⟩ : ∃ G, G = grownCap w (n + 1) c 2 := ⟨_, rfl⟩
 obtain ⟨ROW, hROW⟩ : ∃ ROW : Array Value, ROW = (cs.take i).toArray ++ Builtin.zeroCells (Value.int .i64 0).cells (n + 1 - i) ++ Builtin.zeroCells (Value.int .i64 0).cells (G - (n + 1)) := ⟨_, rfl⟩
 rw [← hG] at hrz ⊢
 rw [← hROW] at hrz ⊢
 have hRl : n + 1 ≤ ROW.size := by
  rw [hROW]
  simp [Builtin.zeroCells, Value.cells]
  omega
 obtain ⟨W1, hW1⟩ : ∃ W1, W1 = w.drew.alloc (.cells ROW 2) := ⟨_, rfl⟩
 rw [← hW1] at hrz
 have hN : ∀ j, j < n + 1 → (W1.cell? ⟨w.heap.size, j, none⟩).isSome = true := fun j hj => by
  rw [hW1, World.cell?_alloc_at (w := w.drew) ROW _ w.heap.size j rfl, Array.getElem?_eq_getElem (by omega)]; rfl
 have hNf : ∀ j, W1.frozen? ⟨w.heap.size, j, none⟩ = false := fun j => by rw [hW1]; exact World.frozen?_alloc_at (w := w.drew) ROW _ w.heap.size j rfl
 have hOb : ∀ j v, w.cell? ⟨b, j, none⟩ = some v → W1.cell? ⟨b, j, none⟩ = some v := fun j v h => by rw [hW1, World.cell?_alloc_past (w := w.drew) _ b j hbw]; exact h
 have hOv : ∀ j v, w.cell? ⟨vb, j, none⟩ = some v → W1.cell? ⟨vb, j, none⟩ = some v := fun j v h => by rw [hW1, World.cell?_alloc_past (w := w.drew) _ vb j hvw]; exact h
 have hcpA : ∀ (W : World), (∀ x, W.cell? x = W1.cell? x) → (∀ x, W.frozen? x = W1.frozen? x) → ∀ ty dc, (Builtin.copy_ #[33, 33] ty #[.slice (some ⟨w.heap.size, i, none⟩) (n + 1 - i) dc, .slice (some ⟨vb, 0, none⟩) 1 1]).run Tryz.prog W = .ok (goInt [x].length) (W.setCells w.heap.size i [x]) := fun W hWc hWf ty dc =>
  run_copy_cells W _ _ ty 2 w.heap.size i (n + 1 - i) dc ⟨vb, 0, none⟩ 1 1 [x] Tryz.underlying33 Tryz.sizeIns (by simp only [Nat.min_def, List.length_singleton]; split <;> omega)
   (fun j v hj => by
    rw [Addr.add_lit, hWc]
    cases j with
    | zero => simp only [List.getElem?_cons_zero, Option.some.injEq] at hj; subst hj; exact hOv _ _ hvs
    | succ j => simp at hj)
   (fun j hj => by rw [hWc]; exact hN _ (by simp at hj; omega)) (fun j hj => by rw [hWf]; exact hNf _) (fun v hv => by rw [List.mem_singleton.1 hv]; exact h1v)
 have hGn : n + 1 ≤ G := by rw [hG]; exact grownCap_ge w _ _ _
 have hG63 : G ≤ 9223372036854775807 := by
  have := grownCap_le_maxLen w (n + 1) c 2 (by unfold maxLen; omega)
  rw [← hG] at this
  unfold maxLen at this
  omega
 have hGi : ¬ (G = i) := by omega
 have hGim : ¬ (G = i + 1) := by omega
 have hci : ¬ (c = i) := by omega
 have hbN : b ≠ w.heap.size := by omega
 have hdl : (cs.drop i).length = n - i := by rw [List.length_drop, hcl]
 have hcpB : ∀ (W : World), (∀ y, W.cell? y = (W1.setCells w.heap.size i [x]).cell? y) → (∀ y, W.frozen? y = (W1.setCells w.heap.size i [x]).frozen? y) → ∀ ty dc sc, (Builtin.copy_ #[33, 33] ty #[.slice (some ⟨w.heap.size, i + 1, none⟩) (n - i) dc, .slice (some ⟨b, off + i, none⟩) (n - i) sc]).run Tryz.prog W = .ok (goInt (cs.drop i).length) (W.setCells w.heap.size (i + 1) (cs.drop i)) := fun W hWc hWf ty dc sc =>
  run_copy_cells W _ _ ty 2 w.heap.size (i + 1) (n - i) dc ⟨b, off + i, none⟩ (n - i) sc (cs.drop i) Tryz.underlying33 Tryz.sizeIns (by rw [hdl]; simp only [Nat.min_def]; split <;> omega)
   (fun j v hj => by
    rw [Addr.add_lit, hWc, World.cell?_setCells_out _ _ _ _ _ (fun h _ => absurd h hbN), Nat.add_assoc]
    exact hOb _ v (hcs (i + j) v (by rwa [List.getElem?_drop] at hj)))
   (fun j hj => by rw [hWc]; exact isSome_setCells _ _ _ _ (fun t ht => hN _ (by simp at ht; omega)) _ (hN _ (by omega)))
   (fun j hj => by rw [hWf, World.frozen?_setCells]; exact hNf _) (fun v hv => h1c v (List.mem_of_mem_drop hv))
 subst hW1
 have hE1 : ∀ x, ((w.alloc (.cells ROW 2)).drew).cell? x = (w.drew.alloc (.cells ROW 2)).cell? x := fun x => rfl
 have hE2 : ∀ x, ((w.alloc (.cells ROW 2)).drew).frozen? x = (w.drew.alloc (.cells ROW 2)).frozen? x := fun x => rfl
 have hF1 : ∀ y, (((w.alloc (.cells ROW 2)).drew.setCells w.heap.size i [x]).drew).cell? y = ((w.drew.alloc (.cells ROW 2)).setCells w.heap.size i [x]).cell? y := fun y => rfl
 have hF2 : ∀ y, (((w.alloc (.cells ROW 2)).drew.setCells w.heap.size i [x]).drew).frozen? y = ((w.drew.alloc (.cells ROW 2)).setCells w.heap.size i [x]).frozen? y := fun y => rfl
 have hw1 : IntKind.i64.wrap ((i : Int) + 1) = (i : Int) + 1 := by rw [IntKind.wrap_i64]; omega
 have hb1 : (0 : Int) ≤ (i : Int) + 1 := by omega
 have hin : i ≤ n := by omega
 have htn : ((i : Int) + 1).toNat = i + 1 := by omega
 have hb3 : (i : Int) ≤ (n : Int) := by omega
 clear hkk hik hold hROW hG hRl
 go_enter Tryz.func124, Tryz.ntmps124
 go_wp2_with (first
  | (at_builtin; refine Lib.wpList_append_run _ rfl _ _ _ _ rfl _ _ rfl rfl _ _ (hrz _) ?_)
  | (at_builtin; refine wpList_copy_runI _ rfl _ _ 33 33 rfl _ _ rfl rfl (hcpA _ hE1 hE2 _ _) ?_)
  | (at_builtin; refine wpList_copy_runI _ rfl _ _ 33 33 rfl _ _ rfl rfl (hcpB _ (fun _ => rfl) (fun _ => rfl) _ _ _) ?_))
 go_region_law (refine step_copy_runI rfl _ _ 33 33 rfl (.slice (some ⟨w.heap.size, i + 1, none⟩) (n - i) (G - (i + 1))) (.slice (some ⟨b, off + i, none⟩) (n - i) (c - i)) (by simp [Act.eval, Act.put]) (by simp [Act.eval, Act.put]) (hcpB _ hF1 hF2 3 (G - (i + 1)) (c - i)) ?_)
 go_wp2
 go_ret
 exact ⟨rfl, rfl⟩
/-- What stands in a new row behind the numbers that were laid down. -/
theorem row_of {w : World} {base : Nat} {g n cap : Nat} {xs : List Int} (hb : base ≤ g) (hg : g < w.heap.size) (hn : n = xs.length) (hnc : n ≤ cap) (hc : cap ≤ 9223372036854775807) (h5 : ∀ j, j < cap → (w.cell? ⟨g, j, none⟩).isSome = true ∧ w.frozen? ⟨g, j, none⟩ = false)
  (h6 : ∀ i, i < n → w.cell? ⟨g, i, none⟩ = some (.int .i64 (iv xs i))) : RdL w base (.slice (some ⟨g, 0, none⟩) n cap) xs := by
 subst hn
 exact .inr ⟨g, 0, cap, rfl, hb, hg, hnc, hc, fun j hj => by rw [Nat.zero_add]; exact h5 j hj, fun i hi => by rw [Nat.zero_add]; exact h6 i hi⟩
def InsR (w : World) (base : Nat) (v : Value) (ys : List Int) (e : Ending) (w' : World) : Prop := ∃ v', e = .returned v' ∧ RdL w' base v' ys ∧ w.grownBy w' v.ownBlock ∧ (v'.ownBlock = v.ownBlock ∨ v'.ownBlock = some w.heap.size)
theorem insert_any (v : Value) (xs : List Int) (p : Nat) (x : Int) (vb base : Nat) (w : World) (h : RdL w base v xs) (hp : p ≤ xs.length) (hl : xs.length ≤ 100000) (hvb : v.ownBlock ≠ some vb)
  (hvs : w.heap[vb]? = some (.cells #[.int .i64 x] 2 (0, 0))) (hbase : base ≤ w.heap.size) :
  Calls Tryz.prog 124 #[v, .int .i64 p, .slice (some ⟨vb, 0, none⟩) 1 1] w (InsR w base v (xs.take p ++ x :: xs.drop p)) := by
 have hx : w.cell? ⟨vb, 0, none⟩ = some (.int .i64 x) := by rw [cell_of_row w vb 0 _ _ _ hvs]; rfl
 have hlen := len_ins xs p x hp
 have hone : ∀ u ∈ xs.map (Value.int .i64), u.oneCell' = true := fun u hu => by obtain ⟨y, _, rfl⟩ := List.mem_map.1 hu; rfl
 have hcs : ∀ i, i < xs.length → (xs.map (Value.int .i64))[i]? = some (.int .i64 (iv xs i)) := fun i hi => by simp [iv, List.getD, hi]
 have hz : ∀ k, (Builtin.zeroCells (Value.int .i64 0).cells k).size = k := fun k => by simp [Builtin.zeroCells, Value.cells]
 have hcap : ∀ n c, n ≤ 100000 → n + 1 ≤ grownCap w (n + 1) c 2 ∧ grownCap w (n + 1) c 2 ≤ 9223372036854775807 := fun n c hn => by
  refine ⟨grownCap_ge w _ _ _, ?_⟩
  have := grownCap_le_maxLen w (n + 1) c 2 (by unfold maxLen; omega)
  unfold maxLen at this
  omega
 -- the two roads at the end, into new memory
 have endNew : ∀ (a : Option Addr) (c : Nat), v = .slice a xs.length c → p = xs.length → xs.length ≤ c → c < xs.length + 1 → (a = none → xs.length = 0) → (∀ q, a = some q → ∀ j u, (xs.map (Value.int .i64))[j]? = some u → w.cell? (q.add j) = some u) →
   Calls Tryz.prog 124 #[v, .int .i64 p, .slice (some ⟨vb, 0, none⟩) 1 1] w (InsR w base v (xs.take p ++ x :: xs.drop p)) := by
  intro a c hv he h1 h2 h3 h4
  rw [he, hv]
  refine (ins_end_grow a xs.length c vb (xs.map (Value.int .i64)) (.int .i64 x) w h1 h2 hl (by simp) h3 h4 hx rfl).mono ?_
  rintro e w' ⟨rfl, rfl⟩
  obtain ⟨g1, g2⟩ := hcap xs.length c hl
  have hcell : ∀ j, (w.drew.alloc (.cells ((xs.map (Value.int .i64) ++ [Value.int .i64 x]).toArray ++ Builtin.zeroCells (Value.int .i64 0).cells (grownCap w (xs.length + 1) c 2 - (xs.length + 1))) 2)).cell? ⟨w.heap.size, j, none⟩ = ((xs.map (Value.int .i64) ++ [Value.int .i64 x]).toArray ++ Builtin.zeroCells (Value.int .i64 0).cells (grownCap w (xs.length + 1) c 2 - (xs.length + 1)))[j]? := fun j => World.cell?_alloc_at (w := w.drew) _ _ w.heap.size j rfl
  refine ⟨_, rfl, row_of hbase (by simp) (by rw [he] at hlen; exact hlen.symm) g1 g2 (fun j hj => ⟨?_, World.frozen?_alloc_at (w := w.drew) _ _ w.heap.size j rfl⟩) (fun i hi => ?_), grown_from (World.grownBy_alloc w.drew _ _), .inr rfl⟩
  ·rw [hcell, Array.getElem?_eq_getElem (by rw [Array.size_append, hz]; simp; omega)]; rfl
  ·rw [hcell, Array.getElem?_append_left (by simp; omega), iv_ins (Nat.le_refl _) i hi]
   by_cases q : i < xs.length
   ·rw [if_pos q]
    simp [List.getElem?_append_left, q, iv, List.getD]
   ·obtain rfl : i = xs.length := by omega
    rw [if_neg (by omega), if_pos rfl]
    simp
 rcases h with ⟨rfl, rfl⟩ | ⟨b, off, cap, rfl, h1, h2, h3, h4, h5, h6⟩
 ·exact endNew none 0 rfl (by simpa using hp) (by simp) (by simp) (fun _ => rfl) (fun q e => by cases e)
 ·have hbv : vb ≠ b := fun e => hvb (by rw [e]; rfl)
  have hcs2 : ∀ j u, (xs.map (Value.int .i64))[j]? = some u → w.cell? ⟨b, off + j, none⟩ = some u := fun j u hj => by
   have hjl : j < xs.length := by have := (List.getElem?_eq_some_iff.1 hj).1; simpa using this
   rw [hcs j hjl] at hj
   rw [h6 j hjl]; exact hj
  by_cases he : p = xs.length
  ·by_cases hr : xs.length + 1 ≤ cap
   ·have hs := h5 xs.length (by omega)
    subst he
    refine (ins_end_room b off xs.length cap vb (.int .i64 x) w hr h4 hs.1 hs.2 hx rfl).mono ?_
    rintro e w' ⟨rfl, rfl⟩
    have hat := set_at b [Value.int .i64 x] (off + xs.length) w (fun j hj => by simp at hj; subst hj; exact hs.1)
    refine ⟨_, rfl, .inr ⟨b, off, cap, by rw [hlen], h1, Nat.lt_of_lt_of_le h2 (grown_sets b _ _ _).size, by rw [hlen]; exact hr, h4, fun j hj => ⟨?_, ?_⟩, fun i hi => ?_⟩, grown_sets b _ _ _, .inl rfl⟩
    ·rw [hat]
     split
     ·next q => simp at q; simp [show off + j - (off + xs.length) = 0 by omega]
     ·exact (h5 j hj).1
    ·rw [World.frozen?_setCells]; exact (h5 j hj).2
    ·rw [hlen] at hi
     rw [hat, iv_ins (Nat.le_refl _) i hi]
     by_cases q : i < xs.length
     ·rw [if_pos q, if_neg (by simp; omega)]; exact h6 i q
     ·obtain rfl : i = xs.length := by omega
      rw [if_pos (by simp), if_neg (by omega), if_pos rfl]
      simp
   ·exact endNew _ cap rfl he h3 (by omega) (fun e => by cases e) (fun q e j u hj => by cases e; rw [Addr.add_lit]; exact hcs2 j u hj)
  ·have hpi : p < xs.length := by omega
   have hdl : ((xs.map (Value.int .i64)).drop p).length = xs.length - p := by simp
   by_cases hr : xs.length + 1 ≤ cap
   ·obtain ⟨tB, kB, hsb, hkB⟩ := shape_of (h6 0 (by omega))
    refine (ins_shift b off xs.length cap p vb (xs.map (Value.int .i64)) (.int .i64 x) w hpi hr h4 hbv (by simp) hcs2 (fun j hj => (h5 j (by omega)).1) (fun j hj => (h5 j (by omega)).2) hx hone rfl 2 tB 1 kB (by simp [World.shape?, hvs]) hsb hkB (by simp [World.frozen?, hvs]) (by simp [World.frozen?, hvs])).mono ?_
    rintro e w' ⟨rfl, rfl⟩
    have hat1 := set_at b ((xs.map (Value.int .i64)).drop p) (off + (p + 1)) w.drew (fun j hj => by rw [hdl] at hj; rw [show off + (p + 1) + j = off + (p + 1 + j) by omega]; exact (h5 (p + 1 + j) (by omega)).1)
    have some1 : ∀ j, j < cap → ((w.drew.setCells b (off + (p + 1)) ((xs.map (Value.int .i64)).drop p)).cell? ⟨b, off + j, none⟩).isSome = true := fun j hj => by
     rw [hat1]
     split
     ·next q => rw [List.getElem?_eq_getElem (by omega)]; rfl
     ·exact (h5 j hj).1
    have hat2 := set_at b [Value.int .i64 x] (off + p) (w.drew.setCells b (off + (p + 1)) ((xs.map (Value.int .i64)).drop p)) (fun j hj => by simp at hj; subst hj; exact some1 p (by omega))
    have hgr : w.grownBy ((w.drew.setCells b (off + (p + 1)) ((xs.map (Value.int .i64)).drop p)).setCells b (off + p) [Value.int .i64 x]) (some b) := (grown_from (grown_sets b ((xs.map (Value.int .i64)).drop p) (off + (p + 1)) w.drew)).trans (grown_sets b _ _ _)
    refine ⟨_, rfl, .inr ⟨b, off, cap, by rw [hlen], h1, Nat.lt_of_lt_of_le h2 hgr.size, by rw [hlen]; exact hr, h4, fun j hj => ⟨?_, ?_⟩, fun i hi => ?_⟩, hgr, .inl rfl⟩
    ·rw [hat2]
     split
     ·next q => simp at q; simp [show off + j - (off + p) = 0 by omega]
     ·exact some1 j hj
    ·rw [World.frozen?_setCells, World.frozen?_setCells]; exact (h5 j hj).2
    ·rw [hlen] at hi
     rw [hat2, iv_ins hp i hi]
     by_cases q : i < p
     ·rw [if_pos q, if_neg (by simp; omega), hat1, if_neg (by omega)]; exact h6 i (by omega)
     ·rw [if_neg q]
      by_cases q2 : i = p
      ·subst q2
       rw [if_pos rfl, if_pos (by simp)]; simp
      ·rw [if_neg q2, if_neg (by simp; omega), hat1, if_pos (by rw [hdl]; omega), List.getElem?_drop, show p + (off + i - (off + (p + 1))) = i - 1 by omega]
       exact hcs (i - 1) (by omega)
   ·refine (ins_grow b off xs.length cap p vb (xs.map (Value.int .i64)) (.int .i64 x) w hpi h3 (by omega) hl (by simp) hcs2 hx hone rfl).mono ?_
    rintro e w' ⟨rfl, rfl⟩
    obtain ⟨g1, g2⟩ := hcap xs.length cap hl
    obtain ⟨G, hG⟩ : ∃ G, G = grownCap w (xs.length + 1) cap 2 := ⟨_, rfl⟩
    rw [← hG] at g1 g2 ⊢
    obtain ⟨ROW, hROW⟩ : ∃ ROW : Array Value, ROW = ((xs.map (Value.int .i64)).take p).toArray ++ Builtin.zeroCells (Value.int .i64 0).cells (xs.length + 1 - p) ++ Builtin.zeroCells (Value.int .i64 0).cells (G - (xs.length + 1)) := ⟨_, rfl⟩
    rw [← hROW]
    have hRs : ROW.size = G := by
     rw [hROW, Array.size_append, Array.size_append, hz, hz]
     simp
     omega
    have hat0 : ∀ k, ((w.alloc (.cells ROW 2)).drew).cell? ⟨w.heap.size, k, none⟩ = ROW[k]? := fun k => World.cell?_alloc_at (w := w.drew) ROW _ w.heap.size k rfl
    have some0 : ∀ k, k < G → (((w.alloc (.cells ROW 2)).drew).cell? ⟨w.heap.size, k, none⟩).isSome = true := fun k hk => by rw [hat0, Array.getElem?_eq_getElem (by omega)]; rfl
    have hat1 := set_at w.heap.size [Value.int .i64 x] p ((w.alloc (.cells ROW 2)).drew) (fun j hj => by simp at hj; subst hj; exact some0 p (by omega))
    have some1 : ∀ k, k < G → ((((w.alloc (.cells ROW 2)).drew).setCells w.heap.size p [Value.int .i64 x]).cell? ⟨w.heap.size, k, none⟩).isSome = true := fun k hk => by
     rw [hat1]
     split
     ·next q => simp at q; simp [show k - p = 0 by omega]
     ·exact some0 k hk
    have hat2 := set_at w.heap.size ((xs.map (Value.int .i64)).drop p) (p + 1) ((((w.alloc (.cells ROW 2)).drew).setCells w.heap.size p [Value.int .i64 x]).drew) (fun j hj => by rw [hdl] at hj; exact some1 _ (by omega))
    have hgr : w.grownBy (((((w.alloc (.cells ROW 2)).drew).setCells w.heap.size p [Value.int .i64 x]).drew).setCells w.heap.size (p + 1) ((xs.map (Value.int .i64)).drop p)) (some w.heap.size) :=
     (grown_to (World.grownBy_alloc w (.cells ROW 2) (some w.heap.size))).trans ((grown_to (grown_sets w.heap.size [Value.int .i64 x] p ((w.alloc (.cells ROW 2)).drew))).trans (grown_sets w.heap.size ((xs.map (Value.int .i64)).drop p) (p + 1) _))
    refine ⟨_, rfl, row_of hbase (Nat.lt_of_lt_of_le (show w.heap.size < ((w.alloc (.cells ROW 2)).drew).heap.size by simp) (Nat.le_trans (grown_sets _ _ _ ((w.alloc (.cells ROW 2)).drew)).size (grown_sets w.heap.size ((xs.map (Value.int .i64)).drop p) (p + 1) ((((w.alloc (.cells ROW 2)).drew).setCells w.heap.size p [Value.int .i64 x]).drew)).size)) hlen.symm g1 g2 (fun j hj => ⟨?_, ?_⟩) (fun i hi => ?_), ⟨hgr.os, hgr.tape, hgr.output, hgr.size, fun k hk _ => hgr.block k hk (fun e => by have := Option.some.inj e; omega)⟩, .inr rfl⟩
    ·rw [hat2]
     split
     ·next q => rw [List.getElem?_eq_getElem (by omega)]; rfl
     ·exact some1 j hj
    ·rw [World.frozen?_setCells]
     show World.frozen? (((w.alloc (.cells ROW 2)).drew).setCells w.heap.size p [Value.int .i64 x]) _ = false
     rw [World.frozen?_setCells]
     exact World.frozen?_alloc_at (w := w.drew) ROW _ w.heap.size j rfl
    ·rw [hat2, iv_ins hp i hi]
     by_cases q : i < p
     ·rw [if_pos q, if_neg (by omega)]
      show World.cell? (((w.alloc (.cells ROW 2)).drew).setCells w.heap.size p [Value.int .i64 x]) _ = _
      rw [hat1, if_neg (by simp; omega), hat0, hROW, Array.append_assoc, Array.getElem?_append_left (by simp; omega)]
      simp [q, iv, List.getD, show i < xs.length by omega]
     ·rw [if_neg q]
      by_cases q2 : i = p
      ·subst q2
       rw [if_pos rfl, if_neg (by omega)]
       show World.cell? (((w.alloc (.cells ROW 2)).drew).setCells w.heap.size i [Value.int .i64 x]) _ = _
       rw [hat1, if_pos (by simp)]; simp
      ·rw [if_neg q2, if_pos (by rw [hdl]; omega), List.getElem?_drop, show p + (i - (p + 1)) = i - 1 by omega]
       exact hcs (i - 1) (by omega)
end Go.Proofs.YtkpfbnffhhmokaaGreat
namespace Go.Proofs.YtkpfbnffhhmokaaGreat
open Go.ChangeShapes Go.WideShapes Go.ChangeAt Go.RowKit Go.Deep
set_option linter.unusedVariables false
set_option linter.unusedSimpArgs false
set_option maxRecDepth 100000
theorem RdL.ints {w : World} {base : Nat} {v : Value} {xs : List Int} (h : RdL w base v xs) (hl : xs.length ≤ 100000) : IntS w w.heap.size v xs := by
 rcases h with ⟨rfl, rfl⟩ | ⟨b, off, cap, rfl, h1, h2, h3, h4, h5, h6⟩
 ·exact ⟨by simp, none, 0, rfl, fun hp => absurd hp (by simp)⟩
 ·exact ⟨by omega, _, cap, rfl, fun hp => ⟨b, off, rfl, h2, h6⟩⟩
def WithR (w : World) (base : Nat) (v : Value) (xs : List Int) (x : Int) (e : Ending) (w' : World) : Prop :=
 ∃ v' p, e = .returned v' ∧ SplitAt xs x p ∧ RdL w' base v' (xs.take p ++ x :: xs.drop p) ∧ w.grownBy w' v.ownBlock ∧ (v'.ownBlock = v.ownBlock ∨ ∃ g, v'.ownBlock = some g ∧ w.heap.size ≤ g)
set_option maxHeartbeats 8000000 in
theorem withNumber_any (v : Value) (xs : List Int) (x : Int) (base : Nat) (w : World) (h : RdL w base v xs) (hinc : IncI xs) (hl : xs.length ≤ 100000) (hbase : base ≤ w.heap.size) :
  Calls Tryz.prog 95 #[v, .int .i64 x] w (WithR w base v xs x) := by
 have hlt := h.lt
 have HI := lh (h.ints hl)
 have HB := lh (fun q => (binSearch_any v xs x (w.drewN q) HI.out hinc (by omega)))
 have HB0 := lh (binSearch_any v xs x w HI.out hinc (by omega))
 have HN := lh (fun (q p : Nat) (hp : p ≤ xs.length) => insert_any v xs p x w.heap.size base ((w.drewN q).alloc (.cells #[.int .i64 x] 2)) (h.kept (w' := (w.drewN q).alloc (.cells #[.int .i64 x] 2)) (row := none) ⟨rfl, rfl, rfl, by simp, fun k hk _ => (World.grownBy_alloc (w.drewN q) (.cells #[.int .i64 x] 2) none).block k hk (by simp)⟩ (by cases hv : v.ownBlock <;> simp)) hp hl (fun e => by have := (hlt _ e).2; omega) (heap_alloc_new (w.drewN q) _) (by simp; omega))
 unfold InsR at HN
 go_enter Tryz.func95, Tryz.ntmps95
 go_wp2_with fail
 (go_at_call 123; refine HB0.out.mono ?_; rintro e w1 ⟨p, q, rfl, rfl, hs⟩)
 have HS := lh hs
 have hp0 : (0 : Int) ≤ (p : Int) := by omega
 have HN := lh (HN.out q p hs.1)
 clear hs
 go_wp2_with fail
 (go_at_call 124; refine HN.out.mono ?_; rintro e w2 ⟨v', rfl, hr, hg, hat⟩)
 go_wp2
 go_ret
 refine ⟨v', p, rfl, HS.out, hr, ?_, ?_⟩
 ·exact ⟨hg.os, hg.tape, hg.output, Nat.le_trans (by simp) hg.size, fun k hk hne => (hg.block k (by simp; omega) hne).trans ((World.grownBy_alloc (w.drewN q) (.cells #[.int .i64 x] 2) none).block k hk (by simp))⟩
 ·rcases hat with e | e
  ·exact .inl e
  ·exact .inr ⟨_, e, by simp⟩
end Go.Proofs.YtkpfbnffhhmokaaGreat
namespace Go.Proofs.YtkpfbnffhhmokaaGreat
open Go.ChangeShapes Go.WideShapes Go.ChangeAt Go.RowKit Go.Deep
set_option linter.unusedVariables false
set_option linter.unusedSimpArgs false
set_option maxRecDepth 100000
theorem RdL.slice {w : World} {base : Nat} {v : Value} {xs : List Int} (h : RdL w base v xs) : ∃ a c, v = .slice a xs.length c := by
 rcases h with ⟨rfl, rfl⟩ | ⟨b, off, cap, rfl, _⟩
 ·exact ⟨none, 0, rfl⟩
 ·exact ⟨_, _, rfl⟩
theorem fro_listP (z : BlkD) (bs : List Int) (x m : Nat) : froLN z bs (x : Int) m = listP (fun k => (lkn (linksL z) k).src == (x : Int) && !hasI bs (k : Int)) m := rfl
/-- The counts while the nodes o are listed. -/
def cO (z : BlkD) (bs : List Int) (o : List Nat) (j : Nat) : Nat := openC (linksL z) (fun k => !hasI bs (k : Int)) (fun k => !inO o (lkn (linksL z) k).src.toNat) (linksL z).length j
theorem to_count {z : BlkD} {bs : List Int} {j : Nat} (hE : ∀ k, k < (linksL z).length → 0 ≤ (lkn (linksL z) k).dst) : (toLN z bs (j : Int) (linksL z).length).length = cO z bs [] j := by
 unfold toLN cO openC
 rw [List.length_map]
 congr 1
 refine List.filter_congr (fun k hk => ?_)
 have h0 := hE k (List.mem_range.1 hk)
 have e : ((lkn (linksL z) k).dst == (j : Int)) = ((lkn (linksL z) k).dst.toNat == j) := by
  rw [Bool.eq_iff_iff]
  simp only [beq_iff_eq]
  omega
 rw [e]
 simp [inO, Bool.and_comm]
theorem ready_cO (z : BlkD) (bs : List Int) (o : List Nat) (j : Nat) : readyB (linksL z) (fun k => !hasI bs (k : Int)) (inO o) j = (!inO o j && cO z bs o j == 0) := ready_is _ _ _ _
theorem fro_mem {z : BlkD} {bs : List Int} {x : Nat} (hE : ∀ k, k < (linksL z).length → 0 ≤ (lkn (linksL z) k).src) (y : Int) : y ∈ froLN z bs (x : Int) (linksL z).length ↔ ∃ k : Nat, k < (linksL z).length ∧ (!hasI bs (k : Int)) = true ∧ (lkn (linksL z) k).src.toNat = x ∧ y = (k : Int) := by
 rw [fro_listP, listP_mem]
 constructor
 ·rintro ⟨k, h1, h2, h3⟩
  simp only [Bool.and_eq_true, beq_iff_eq] at h2
  exact ⟨k, h1, h2.2, by omega, h3⟩
 ·rintro ⟨k, h1, h2, h3, h4⟩
  have := hE k h1
  exact ⟨k, h1, by simp only [Bool.and_eq_true, beq_iff_eq]; exact ⟨by omega, h2⟩, h4⟩
def OrdIR (z : BlkD) (bs : List Int) (w : World) (e : Ending) (w' : World) : Prop :=
 ∃ v, e = .returned (.tuple #[v, .bool (topoR z bs).isSome]) ∧ (∀ o, topoR z bs = some o → OwnS w' w.heap.size v (natsI o)) ∧ Below w.heap.size w w'
/-- A store into the map leaves all else. -/
theorem OnlyIn.map {w W W' : World} {S0 B : Nat} (h : OnlyIn w W S0 (fun k => k = B)) (hS : S0 ≤ W.heap.size) (hg : W.grownBy W' (some B)) : OnlyIn w W' S0 (fun k => k = B) :=
 h.trans (OnlyIn.grown hg hS (fun k hk => .inr (Option.some.inj hk).symm))
theorem OnlyIn.own {w W W' : World} {S0 B : Nat} {row : Option Nat} (h : OnlyIn w W S0 (fun k => k = B)) (hS : S0 ≤ W.heap.size) (hg : W.grownBy W' row) (hr : ∀ k, row = some k → S0 ≤ k) : OnlyIn w W' S0 (fun k => k = B) :=
 h.trans (OnlyIn.grown hg hS (fun k hk => .inl (hr k hk)))
theorem CntM.like {w : World} {B n : Nat} {c d : Nat → Nat} (h : CntM w B n c) (e : ∀ j, j < n → c j = d j) : CntM w B n d := by
 obtain ⟨D, h1, h2⟩ := h
 exact ⟨D, h1, h2.like e⟩
theorem grow_all {W0 wr w1 w9 : World} {S0 B N : Nat} {c : Nat → Nat} {v : Value} {xs : List Int} (hM : CntM wr B N c) (hG : GI wr S0 v xs) (hO : OnlyIn W0 wr S0 (fun k => k = B)) (hS : S0 ≤ wr.heap.size) (hb : Below wr.heap.size wr w1) (hg : w1.grownBy w9 v.ownBlock) :
  CntM w9 B N c ∧ OnlyIn W0 w9 S0 (fun k => k = B) ∧ wr.heap.size ≤ w9.heap.size :=
 ⟨(hM.below hb).kept hg (fun e => GI.away hM hG e.symm), (hO.trans (OnlyIn.call hb hS)).own (Nat.le_trans hS hb.size) hg (fun k hk => hG.blk k hk), Nat.le_trans hb.size hg.size⟩
theorem lookEq {D : DataW Unit} {k : Lit} {a b : Int} (h1 : D.atKey k (.lit (.int .i64 0)) = .lit (.int .i64 a)) (h2 : D.atKey k (.lit (.int .i64 0)) = .lit (.int .i64 b)) : b = a := by
 rw [h1] at h2
 injection h2 with h2
 injection h2 with _ h2
 exact h2.symm
theorem GI.snoc {w : World} {base : Nat} {v : Value} {xs : List Int} {y : Int} (h : w.ownsRow base 2 1 v (xs.length + 1) (xs.map (Value.int .i64) ++ [.int .i64 y])) : GI w base v (xs ++ [y]) := by
 unfold GI
 rw [List.map_append, List.length_append]
 exact h
set_option maxHeartbeats 64000000 in
theorem orderI_any (z : BlkD) (bs : List Int) (gv : Value) (w : World) (Lb : Nat) (hg : GraphV w Lb z bs gv) (hb : blkB z = true) : Calls Tryz.prog 52 #[gv] w (OrdIR z bs w) := by
 obtain ⟨tj, hi, hz0, hz1, hz2⟩ := info_parts Tryz.infoI64
 have hmm := @run_makeMap Tryz.prog
 obtain ⟨lv, bo, bi, base, V, rfl, l0, l1, l2, d1, hGL, hR⟩ := hg
 have hll := linksL_len hb
 have hLS := GL.lks hGL (by omega)
 obtain ⟨la, lc, rfl⟩ := hLS.slice
 have n200 := ndN_le hb
 rw [ndN_is] at n200
 have hE := fun k (hk : k < (linksL z).length) => links_at hb hk
 have HTO := lh (show topoR z bs = ordN (linksL z) (fun k => !hasI bs (k : Int)) (nodesN z) (nodesN z) by unfold topoR; rw [ndN_is, Int.toNat_natCast])
 have HC0 := lh (fun j => to_count (z := z) (bs := bs) (j := j) (fun k hk => (hE k hk).2.2.1))
 have HFM := lh (fun x => fro_mem (z := z) (bs := bs) (x := x) (fun k hk => (hE k hk).1))
 have HEN := lh (fun k (hk : k < (linksL z).length) => (show 0 ≤ (lkn (linksL z) k).src ∧ (lkn (linksL z) k).src < (nodesN z : Int) ∧ 0 ≤ (lkn (linksL z) k).dst ∧ (lkn (linksL z) k).dst < (nodesN z : Int) from by have := hE k hk; rw [ndN_is] at this; exact this))
 obtain ⟨N, hN⟩ : ∃ N, N = nodesN z := ⟨_, rfl⟩
 rw [← hN] at n200 hR HEN HTO ⊢
 have hN200 : N ≤ 200 := by omega
 have HIN := lh (fun (wr : World) (hbw : Below w.heap.size w wr) (k : Nat) (hk : k < N) => (show ∃ ra rc, wr.cell? ⟨bi, k, none⟩ = some (.slice ra (cO z bs [] k) rc) from by
  obtain ⟨rc0, _, rlt, rown⟩ := (hR.below hbw).2.1 (N + k) (by omega)
  rw [show gB bo bi N (N + k) = bi from if_neg (by omega), show gO N (N + k) = k from (if_neg (by omega)).trans (by omega)] at rc0
  obtain ⟨ra, rc, e⟩ := own_slice rown
  have e2 : (gR z bs N (linksL z).length (N + k)).length = cO z bs [] k := by
   rw [← HC0.out]
   unfold gR
   rw [if_neg (by omega), show N + k - N = k by omega]
  exact ⟨ra, rc, by rw [rc0, e, e2]⟩))
 have HOUT := lh (fun (wr : World) (hbw : Below w.heap.size w wr) (k : Nat) (hk : k < N) => (show ∃ ra rc, wr.cell? ⟨bo, k, none⟩ = some (.slice ra (froLN z bs (k : Int) (linksL z).length).length rc) ∧ ∀ (wq : World), Below w.heap.size w wq → ∀ q, q < (froLN z bs (k : Int) (linksL z).length).length → ∃ rb, ra = some ⟨rb, 0, none⟩ ∧ rb < w.heap.size ∧ wq.cell? ⟨rb, q, none⟩ = some (.int .i64 (iv (froLN z bs (k : Int) (linksL z).length) q)) from by
  have hgr : gR z bs N (linksL z).length k = froLN z bs (k : Int) (linksL z).length := if_pos hk
  have hlen := froLN_len z bs (k : Int) (linksL z).length
  obtain ⟨rc0, _, rlt, rown⟩ := hR.2.1 k (by omega)
  rw [show gB bo bi N k = bo from if_pos hk, show gO N k = k from if_pos hk] at rc0
  rw [hgr] at rown
  obtain ⟨ra, rc, e⟩ := own_slice rown
  rw [e] at rc0
  refine ⟨ra, rc, cell_keep rc0 hbw, fun wq hq q hql => ?_⟩
  obtain ⟨_, a2, c2, e2, h2⟩ := GI.own rown (by omega)
  rw [e] at e2
  injection e2 with e2 _ _
  obtain ⟨rb, e3, _, hlt, hcell⟩ := h2 (by omega)
  exact ⟨rb, by rw [e2, e3], hlt, cell_keep (hcell q hql).1 hq⟩))
 have HLS := lh hLS
 have HN := lh hN
 obtain ⟨W0, hW0⟩ : ∃ W0, W0 = (w.alloc (Obj.cells #[.slice la (linksL z).length lc, .slice (some ⟨bo, 0, none⟩) N N, .slice (some ⟨bi, 0, none⟩) N N] 68)).alloc (.map #[] 0) := ⟨_, rfl⟩
 have g0 : W0.cell? ⟨w.heap.size, 0, none⟩ = some (.slice la (linksL z).length lc) := by rw [hW0]; simp [go_sem]
 have g1 : W0.cell? ⟨w.heap.size, 1, none⟩ = some (.slice (some ⟨bo, 0, none⟩) N N) := by rw [hW0]; simp [go_sem]
 have g2 : W0.cell? ⟨w.heap.size, 2, none⟩ = some (.slice (some ⟨bi, 0, none⟩) N N) := by rw [hW0]; simp [go_sem]
 have bW : Below w.heap.size w W0 := by rw [hW0]; exact ((Below.refl _ _).alloc (Nat.le_refl _) _).alloc (by simp) _
 have M0 : CntM W0 (w.heap.size + 1) N (fun _ => 0) := by
  have := CntM.made (w.alloc (Obj.cells #[.slice la (linksL z).length lc, .slice (some ⟨bo, 0, none⟩) N N, .slice (some ⟨bi, 0, none⟩) N N] 68)) N
  rw [← hW0] at this
  simpa using this
 have zW : W0.heap.size = w.heap.size + 1 + 1 := by rw [hW0]; simp
 have HW0 := lh hW0
 obtain ⟨B, hB⟩ : ∃ B, B = w.heap.size + 1 := ⟨_, rfl⟩
 rw [← hB] at M0
 have B1 : w.heap.size < B := by omega
 have B2 : B < W0.heap.size := by omega
 have HB := lh hB
 obtain ⟨S0, hS0⟩ : ∃ S0, S0 = W0.heap.size := ⟨_, rfl⟩
 have S1 : B < S0 := by omega
 have S2 : S0 ≤ W0.heap.size := by omega
 have S3 : W0.heap.size ≤ S0 := by omega
 have M0 := lh (show CntM W0 B N (fun j => if j < 0 then cO z bs [] j else 0) from by simpa using M0)
 have hbw0 : w.heap.size < W0.heap.size := by omega
 obtain ⟨nl, hnl⟩ : ∃ n, n = (linksL z).length := ⟨_, rfl⟩
 rw [← hnl] at g0 HLS hll HEN HW0 ⊢
 have NL := lh hnl
 clear hS0 zW hW0 hR hGL hLS hE l0 l1 l2 d1 hN hnl
 have BOW := lh (fun (wr : World) (h : OnlyIn W0 wr S0 (fun k => k = B)) => (show Below w.heap.size w wr from bW.trans (h.below (B := w.heap.size) (by omega) (fun k hk => by omega))))
 go_enter Tryz.func52, Tryz.ntmps52
 go_wp2_with fail
 rw [← HW0.out, ← HB.out]
 clear hB
 go_wp2_with fail
 go_loopw [5, 17] (fun r i wr => ∃ (k : Nat) (v : Value), v = r ∧ k ≤ N ∧ i = .int .i64 k ∧ Hid (CntM wr B N (fun j => if j < k then cO z bs [] j else 0)) ∧ Hid (GI wr S0 v (listP (fun j => cO z bs [] j == 0) k)) ∧ Hid (OnlyIn W0 wr S0 (fun k => k = B))) (fun _ i _ => N - (intOf i).toNat)
 case atStart => exact ⟨0, _, rfl, by omega, rfl, M0, lh (GI.nil _ _), lh (OnlyIn.refl _ _ _)⟩
 case round =>
  clear M0
  obtain ⟨k, v, hv, hk, rfl, hM, hG, hO⟩ := hrel
  have hbw := BOW.out _ hO.out
  have zO := hO.out.size
  have S4 : S0 ≤ wr.heap.size := by omega
  obtain ⟨av, cv, rfl⟩ := own_slice hG.out
  subst hv
  by_cases hkN : k < N
  ·obtain ⟨ra, rc, hrow⟩ := HIN.out wr hbw k hkN
   have i0 : (0 : Int) ≤ (k : Int) := by omega
   have i1 : (k : Int) < (N : Int) := by omega
   obtain ⟨cc, hcc⟩ : ∃ c, c = cO z bs [] k := ⟨_, rfl⟩
   rw [← hcc] at hrow
   have HCC := lh hcc
   have ccl : cc ≤ 7000 := by rw [hcc]; unfold cO; exact Nat.le_trans (openC_le _ _ _ _ _) (by rw [← NL.out]; exact hll)
   clear hcc
   by_cases hc : 0 < cc
   ·obtain ⟨D, hown, hD⟩ := hM.out
    have HD := lh hD
    have HOWN := lh hown
    clear hD hM
    have hnc : N < maxLen := by unfold maxLen; omega
    go_wp2_with (at_mapUpdate; refine wpList_mapUpdate_own _ rfl _ _ _ 146 rfl 2 3 Tryz.cntLaw Tryz.underlying146 _ B N _ rfl HOWN.out hnc _ _ (keyN k) rfl rfl (Maps.keyOf_int_mk Tryz.underlying2 (WalkArith.wf_i64 (by omega))) (.lit (.int .i64 (cc : Int))) [] (plainElem_int Tryz.underlying3 (WalkArith.wf_i64 (by omega))) ?_; intro w1 hown1 hgrow1)
    have hC1 := HD.out.put (HOWN.out.tidy Tryz.cntLaw) hkN hc
    have M9 := lh (show CntM w1 B N (fun j => if j < k + 1 then cO z bs [] j else 0) from ⟨_, own_tight hown1 hC1.le, hC1.like (fun j hj => by
     by_cases e : j = k
     ·subst e; rw [updC_same, if_pos (by omega)]; exact HCC.out
     ·rw [updC_other e]
      by_cases q : j < k
      ·rw [if_pos q, if_pos (by omega)]
      ·rw [if_neg q, if_neg (by omega)])⟩)
    have G9 := lh (show GI w1 S0 (.slice av (listP (fun j => cO z bs [] j == 0) k).length cv) (listP (fun j => cO z bs [] j == 0) (k + 1)) from by
     rw [listP_succ, if_neg (by rw [← HCC.out]; simp; omega)]
     exact World.ownsRow.kept hG.out hgrow1 (.inr (by
      have := hG.out
      intro e
      rcases hG.out.2 with ⟨e1, _⟩ | ⟨g, cap, cur, e1, _, hg, _⟩
      ·rw [e1] at e; cases e
      ·rw [e1] at e
       cases e
       obtain ⟨es, clock, h1, _⟩ := HOWN.out
       rw [h1] at hg
       cases hg)))
    have O9 := lh (hO.out.map S4 hgrow1)
    clear hown1 hgrow1 hG hO HOWN HD hown
    go_wp2
    go_roundw
    case rel => exact ⟨k + 1, _, rfl, by omega, by go_num, M9, G9, O9⟩
    case measure => simp [intOf]; omega
   ·obtain rfl : cc = 0 := by omega
    have bA : Below wr.heap.size wr (wr.alloc (Obj.cells #[.int .i64 (k : Int)] 2)) := (Below.refl _ _).alloc (Nat.le_refl _) _
    have hG9 := GI.below hG.out bA
    unfold GI at hG9
    have hlk := listP_len (fun j => cO z bs [] j == 0) k
    go_wp2_with (at_builtin; refine wpList_append_at rfl _ _ 33 rfl S0 2 tj (.int .i64 0) 1 8 Tryz.underlying33 hi hz0 hz1 hz2 rfl (by decide) _ _ _ rfl hG9 ⟨wr.heap.size, 0, none⟩ 1 1 [.int .i64 (k : Int)] rfl rfl (one_cellG2 _ _ _ _ (by simp)) (fun u hu => by simp at hu; subst hu; rfl) (by unfold maxLen; omega) (by omega) (by simp; omega) ?_; intro v' w9 hown' hgrow hat)
    obtain ⟨m9, o9, z9⟩ := grow_all hM.out hG.out hO.out S4 bA hgrow
    have M9 := lh (show CntM w9 B N (fun j => if j < k + 1 then cO z bs [] j else 0) from m9.like (fun j hj => by
     by_cases e : j = k
     ·subst e; rw [if_neg (by omega), if_pos (by omega)]; exact HCC.out
     ·by_cases q : j < k
      ·rw [if_pos q, if_pos (by omega)]
      ·rw [if_neg q, if_neg (by omega)]))
    have G9 := lh (show GI w9 S0 v' (listP (fun j => cO z bs [] j == 0) (k + 1)) from by
     rw [listP_succ, if_pos (by rw [← HCC.out]; rfl)]
     exact GI.snoc hown')
    have O9 := lh o9
    clear hown' hgrow hat hG9 hG hO hM m9 o9
    go_wp2
    go_roundw
    case rel => exact ⟨k + 1, _, rfl, by omega, by go_num, M9, G9, O9⟩
    case measure => simp [intOf]; omega
  ·have e : N = k := by omega
   subst e
   have hI : ¬ (N : Int) < (N : Int) := by omega
   have RD := lh (show RdL wr S0 (.slice av (listP (fun j => cO z bs [] j == 0) N).length cv) (listP (readyB (linksL z) (fun k => !hasI bs (k : Int)) (inO [])) N) from by
    rw [listP_ext (p := readyB (linksL z) (fun k => !hasI bs (k : Int)) (inO [])) (q := fun j => cO z bs [] j == 0) (fun j _ => by rw [ready_cO]; simp [inO])]
    exact RdL.of hG.out)
   have MC := lh (show CntM wr B N (cO z bs []) from hM.out.like (fun j hj => if_pos hj))
   have RB := lh (GI.away hM.out hG.out)
   obtain ⟨W2, hW2⟩ : ∃ W2, W2 = wr := ⟨_, rfl⟩
   rw [← hW2] at RD MC hO S4 hbw zO ⊢
   clear hW2 hM hG
   go_wp2_with fail
   go_loopw [4, 5] (fun u r wr => ∃ (m : Nat) (o : List Nat) (vo vr : Value), vo = u ∧ vr = r ∧ Hid (ordN (linksL z) (fun k => !hasI bs (k : Int)) N m = some o) ∧ Hid (CntM wr B N (cO z bs o)) ∧ Hid (GI wr S0 vo (natsI o)) ∧ Hid (RdL wr S0 vr (listP (readyB (linksL z) (fun k => !hasI bs (k : Int)) (inO o)) N)) ∧ Hid (vo.ownBlock = none ∨ vo.ownBlock ≠ vr.ownBlock) ∧ Hid (vr.ownBlock ≠ some B) ∧ Hid (OnlyIn W0 wr S0 (fun k => k = B))) (fun u _ _ => N - (match u with | .slice _ k _ => k | _ => 0))
   case atStart => exact ⟨0, [], _, _, rfl, rfl, lh rfl, MC, lh (GI.nil _ _), RD, lh (.inl rfl), RB, hO⟩
   case round =>
    clear RD MC RB hO S4 hbw zO
    obtain ⟨m, o, vo, vr, hvo, hvr, hOr, hM, hG, hRd, hap, hrB, hO⟩ := hrel
    have hbw := BOW.out _ hO.out
    have zO := hO.out.size
    have S4 : S0 ≤ wr.heap.size := by omega
    have hml := ordN_len hOr.out
    have hmN := ordN_le hOr.out
    have hsl : ∃ a c, vo = .slice a m c := by
     obtain ⟨a, c, e⟩ := own_slice hG.out
     exact ⟨a, c, by rw [e, natsI_len, hml]⟩
    obtain ⟨ao, co, rfl⟩ := hsl
    subst hvo
    have HML := lh hml
    clear hml
    cases hl : listP (readyB (linksL z) (fun k => !hasI bs (k : Int)) (inO o)) N with
    | nil =>
     have HL := lh hl
     have hsr : ∃ a c, vr = .slice a 0 c := by
      obtain ⟨a, c, e⟩ := hRd.out.slice
      exact ⟨a, c, by rw [e, hl]; rfl⟩
     obtain ⟨ar, cr, rfl⟩ := hsr
     subst hvr
     obtain ⟨D, hown, hD⟩ := hM.out
     have HOWN := lh hown
     have HW := lh (hG.out.own (by rw [natsI_len, HML.out]; omega))
     by_cases hs : Maps.size D = 0
     ·have HY := lh (show topoR z bs = some o from by
       rw [HTO.out]
       exact ord_yes hOr.out HL.out (hD.zero.1 hs))
      have hs0 : ((Maps.size D : Nat) : Int) = 0 := by omega
      clear hl hown hD
      go_wp2_with (at_len; refine wpList_len_own _ rfl _ 146 rfl 2 3 Tryz.underlying146 _ B N _ rfl HOWN.out ?_)
      go_ret2
      exact ⟨_, by rw [HY.out]; rfl, fun o' e' => by rw [HY.out] at e'; cases e'; exact HW.out.mono (by omega), hbw⟩
     ·have HY := lh (show topoR z bs = none from by
       rw [HTO.out]
       have hx : ∃ j, j < N ∧ cO z bs o j ≠ 0 := Classical.byContradiction (fun hn => hs (hD.zero.2 (fun j hj => Classical.byContradiction (fun q => hn ⟨j, hj, q⟩))))
       obtain ⟨j, hj, hc⟩ := hx
       exact ord_no hOr.out HL.out hc (fun k hk => ⟨(HEN.out k (by rw [NL.out]; exact hk)).1, (HEN.out k (by rw [NL.out]; exact hk)).2.1⟩))
      have hs0 : (((Maps.size D : Nat) : Int) == 0) = false := by simp; omega
      clear hl hown hD
      go_wp2_with (at_len; refine wpList_len_own _ rfl _ 146 rfl 2 3 Tryz.underlying146 _ B N _ rfl HOWN.out ?_)
      go_ret2
      exact ⟨_, by rw [HY.out]; rfl, (fun o' e' => by rw [HY.out] at e'; cases e'), hbw⟩
    | cons x rest =>
     obtain ⟨k0, rfl, hk0, hp0, hf0, hrest⟩ := listP_cons hl
     have T : TurnO (linksL z) (fun k => !hasI bs (k : Int)) N m o k0 (froLN z bs (k0 : Int) (linksL z).length) := ⟨hOr.out, hk0, hp0, hf0, HFM.out k0, by rw [fro_listP]; exact listP_lt _ _, fun k hk => by have := HEN.out k (by rw [NL.out]; exact hk); omega⟩
     have T := lh T
     have HREST := lh hrest
     have hR0 := hRd.out
     rw [hl] at hR0
     obtain ⟨b, off, cap, rfl, hSb, hbl, hcl, hc63, hR5, hR6⟩ : ∃ b off cap, vr = .slice (some ⟨b, off, none⟩) (rest.length + 1) cap ∧ S0 ≤ b ∧ b < wr.heap.size ∧ rest.length + 1 ≤ cap ∧ cap ≤ 9223372036854775807 ∧ RdL wr S0 (.slice (some ⟨b, off, none⟩) (rest.length + 1) cap) ((k0 : Int) :: rest) ∧ wr.cell? ⟨b, off, none⟩ = some (.int .i64 (k0 : Int)) := by
      have hR1 := hR0
      rcases hR0 with ⟨_, h⟩ | ⟨b, off, cap, e, h1, h2, h3, h4, h5, h6⟩
      ·cases h
      ·exact ⟨b, off, cap, e, h1, h2, h3, h4, by have q := e; simp only [List.length_cons] at q; rw [q] at hR1; exact hR1, by have q := h6 0 (by simp); simpa [iv] using q⟩
     subst hvr
     have TL := lh hR5.tail
     have hbB : b ≠ B := fun e => hrB.out (by rw [e]; rfl)
     have hob : (Value.slice ao m co).ownBlock ≠ some b := by
      rcases hap.out with e | e
      ·rw [e]; exact fun q => by cases q
      ·exact e
     have HOB := lh hob
     have HBB := lh hbB
     obtain ⟨nr, hnr⟩ : ∃ nr, nr = rest.length := ⟨_, rfl⟩
     rw [← hnr] at hcl TL ⊢
     have HNR := lh hnr
     have kp0 : (0 : Int) ≤ (k0 : Int) := by omega
     have kp1 : (k0 : Int) < (N : Int) := by omega
     clear hl hR0 hR5 hob hbB hap hrB hRd hrest hp0 hf0 hnr
     go_upto_region 12 with fail
     go_cut [5] from 34 to 75 (fun s5 wx => wx = wr ∧ ∃ ar cr, s5 = .slice ar nr cr ∧ Hid (RdL wr S0 (.slice ar nr cr) rest) ∧ Hid ((Value.slice ar nr cr).ownBlock = some b))
     case first =>
      by_cases hc1 : cap = 1
      ·obtain rfl : nr = 0 := by omega
       have TX := lh (show RdL wr S0 (.slice (some ⟨b, off, none⟩) 0 0) rest from by
        have h := TL.out.2
        rw [hc1] at h
        rw [List.length_eq_zero_iff.1 HNR.out.symm]
        exact h)
       go_wp2_with fail
       go_meet
       exact ⟨rfl, _, _, rfl, TX, lh rfl⟩
      ·have hc2 : ¬ (1 = cap) := fun e => hc1 e.symm
       have TX := lh TL.out.1
       go_wp2_with fail
       go_meet
       exact ⟨rfl, _, _, rfl, TX, lh rfl⟩
     case rest =>
      obtain ⟨hwc, ar, cr, rfl, TX, HOW⟩ := hcut
      rw [hwc]
      clear hwc TL hR6
      have bA : Below wr.heap.size wr (wr.alloc (Obj.cells #[.int .i64 (k0 : Int)] 2)) := (Below.refl _ _).alloc (Nat.le_refl _) _
      have hG9 := GI.below hG.out bA
      unfold GI at hG9
      rw [natsI_len, HML.out] at hG9
      go_upto_region 14 with (at_builtin; refine wpList_append_at rfl _ _ 33 rfl S0 2 tj (.int .i64 0) 1 8 Tryz.underlying33 hi hz0 hz1 hz2 rfl (by decide) _ _ _ rfl hG9 ⟨wr.heap.size, 0, none⟩ 1 1 [.int .i64 (k0 : Int)] rfl rfl (one_cellG2 _ _ _ _ (by simp)) (fun u hu => by simp at hu; subst hu; rfl) (by unfold maxLen; omega) (by omega) (by simp; omega) ?_; intro v' w9 hown' hgrow hat)
      obtain ⟨m9, o9, z9⟩ := grow_all hM.out hG.out hO.out S4 bA hgrow
      obtain ⟨av', cv', rfl⟩ := own_slice hown'
      have G9 := lh (show GI w9 S0 (.slice av' (m + 1) cv') (natsI (o ++ [k0])) from by
       rw [natsI_snoc]
       exact GI.snoc (by rw [natsI_len, HML.out]; exact hown'))
      have R9 := lh (show RdL w9 S0 (.slice ar nr cr) (rdQ (linksL z) (fun k => !hasI bs (k : Int)) N o k0 (froLN z bs (k0 : Int) (linksL z).length) 0) from by
       rw [T.out.zero, ← HREST.out]
       exact (TX.out.kept (grown_none bA none) (.inr (by rw [HOW.out]; exact fun e => by cases e))).kept hgrow (.inr (by rw [HOW.out]; exact fun e => HOB.out e.symm)))
      have A9 := lh (show (Value.slice av' (m + 1) cv').ownBlock = none ∨ (Value.slice av' (m + 1) cv').ownBlock ≠ (Value.slice ar nr cr).ownBlock from .inr (by
       rw [HOW.out]
       rcases hat with e | e
       ·rw [e]; exact HOB.out
       ·rw [e]
        intro q
        have := Option.some.inj q
        simp at this
        omega))
      have RB9 := lh (show (Value.slice ar nr cr).ownBlock ≠ some B from by rw [HOW.out]; exact fun e => HBB.out (Option.some.inj e))
      have M9 := lh (show CntM w9 B N (fun j => openC (linksL z) (fun k => !hasI bs (k : Int)) (uQ (linksL z) o (froLN z bs (k0 : Int) (linksL z).length) 0) (linksL z).length j) from m9.like (fun j _ => by unfold cO; rw [uQ_zero]))
      have O9 := lh o9
      have hbw9 := BOW.out _ o9
      obtain ⟨ra, rc, hrow, hel⟩ := HOUT.out w9 hbw9 k0 hk0
      have HEL := lh hel
      have hfl := froLN_len z bs (k0 : Int) (linksL z).length
      obtain ⟨xs, hxs⟩ : ∃ xs, xs = froLN z bs (k0 : Int) (linksL z).length := ⟨_, rfl⟩
      rw [← hxs] at T R9 M9 HEL hrow hfl
      obtain ⟨nx, hnx⟩ : ∃ nx, nx = xs.length := ⟨_, rfl⟩
      rw [← hnx] at hrow HEL hfl
      rw [NL.out] at hll
      have hnxl : nx ≤ 7000 := by omega
      have NX := lh hnx
      have gb1 := o9.cell g1 (show w.heap.size < S0 by omega) (show ¬ w.heap.size = B by omega)
      have e2 : nl = (linksL z).length := NL.out
      rw [← e2] at hll
      clear e2 hown' hgrow hat hG9 m9 o9 hel hxs hnx TX hM hG hO HREST hOr hbw zO S4
      obtain ⟨W3, hW3⟩ : ∃ W3, W3 = w9 := ⟨_, rfl⟩
      rw [← hW3] at R9 M9 G9 O9 hbw9 hrow gb1 z9 ⊢
      clear hW3
      go_wp2_with fail
      go_loopw [5, 52] (fun r i wr => ∃ (q : Nat) (vr : Value), vr = r ∧ q ≤ nx ∧ i = .int .i64 q ∧ Hid (CntM wr B N (fun j => openC (linksL z) (fun k => !hasI bs (k : Int)) (uQ (linksL z) o xs q) (linksL z).length j)) ∧ Hid (RdL wr S0 vr (rdQ (linksL z) (fun k => !hasI bs (k : Int)) N o k0 xs q)) ∧ Hid (GI wr S0 (.slice av' (m + 1) cv') (natsI (o ++ [k0]))) ∧ Hid ((Value.slice av' (m + 1) cv').ownBlock = none ∨ (Value.slice av' (m + 1) cv').ownBlock ≠ vr.ownBlock) ∧ Hid (vr.ownBlock ≠ some B) ∧ Hid (OnlyIn W0 wr S0 (fun k => k = B))) (fun _ i _ => nx - (intOf i).toNat)
      case atStart => exact ⟨0, _, rfl, by omega, rfl, M9, R9, G9, A9, RB9, O9⟩
      case round =>
       clear M9 R9 G9 A9 RB9 O9 hbw9 hrow gb1 z9
       obtain ⟨q, vr, hvr, hq, rfl, hM, hRd, hG, hap, hrB, hO⟩ := hrel
       have hbw := BOW.out _ hO.out
       have zO := hO.out.size
       have S4 : S0 ≤ wr.heap.size := by omega
       by_cases hqx : q < nx
       ·obtain ⟨rb, rfl, hrbl, hcell⟩ := HEL.out wr hbw q hqx
        have hqx2 : q < xs.length := by rw [← NX.out]; exact hqx
        obtain ⟨kk, hk1, hk2, hk3, hk4⟩ := (T.out.mem (xs[q])).1 (List.getElem_mem hqx2)
        have hiv : iv xs q = (kk : Int) := by simp [iv, List.getD, hqx2, hk4]
        rw [hiv] at hcell
        obtain ⟨lb, lo, rfl, hlb, y0, y1, y2, y3⟩ := HLS.out.at hbw hk1
        obtain ⟨_, _, e0, e1⟩ := HEN.out kk (by rw [NL.out]; exact hk1)
        obtain ⟨jj, hjj⟩ := Int.eq_ofNat_of_zero_le e0
        rw [hjj] at y1 e0 e1
        have hjt : (lkn (linksL z) kk).dst.toNat = jj := by rw [hjj]; simp
        have hjN : jj < N := by omega
        have hcnt := T.out.count hqx2 hk4 jj
        rw [hjt, if_pos rfl] at hcnt
        have HOTH := lh (fun i (hi : i ≠ jj) => (show openC (linksL z) (fun k => !hasI bs (k : Int)) (uQ (linksL z) o xs q) (linksL z).length i = openC (linksL z) (fun k => !hasI bs (k : Int)) (uQ (linksL z) o xs (q + 1)) (linksL z).length i from by
         have := T.out.count hqx2 hk4 i
         rw [hjt, if_neg (fun e => hi e.symm)] at this
         exact this))
        have HSAME := lh (fun h => T.out.same hqx2 hk4 h)
        have HMORE := lh (fun (p : Nat) h hs => T.out.more (pos := p) hqx2 hk4 h hs)
        rw [hjt] at HSAME HMORE
        obtain ⟨D, hown, hD⟩ := hM.out
        have HOWN := lh hown
        have HD := lh hD
        have HC := lh (hD.at_ jj hjN)
        obtain ⟨c1, hc1⟩ : ∃ c1, c1 = openC (linksL z) (fun k => !hasI bs (k : Int)) (uQ (linksL z) o xs (q + 1)) (linksL z).length jj := ⟨_, rfl⟩
        have hc1l : c1 ≤ 7000 := by rw [hc1]; exact Nat.le_trans (openC_le _ _ _ _ _) (by rw [← NL.out]; exact hll)
        rw [← hc1] at hcnt HSAME HMORE
        have HCC := lh (show D.atKey (keyN jj) (.lit (.int .i64 0)) = .lit (.int .i64 ((c1 + 1 : Nat) : Int)) from by rw [← hcnt]; exact HC.out)
        have HC1 := lh hc1
        have HPOS := lh (show 0 < openC (linksL z) (fun k => !hasI bs (k : Int)) (uQ (linksL z) o xs q) (linksL z).length jj by omega)
        have gb0 := hO.out.cell g0 (show w.heap.size < S0 by omega) (show ¬ w.heap.size = B by omega)
        have HT := lh (HOWN.out.tidy Tryz.cntLaw)
        obtain ⟨ar2, cr2, rfl⟩ := hRd.out.slice
        have HKEY := lh (show keyOf Tryz.prog 2 (.int .i64 (jj : Int)) = some (keyN jj) from Maps.keyOf_int_mk Tryz.underlying2 (WalkArith.wf_i64 (by omega)))
        have hnc : N < maxLen := by unfold maxLen; omega
        have kk0 : (0 : Int) ≤ (kk : Int) := by omega
        have kk1 : (kk : Int) < (nl : Int) := by have := NL.out; omega
        have j0 : (0 : Int) ≤ (jj : Int) := e0
        have qi0 : (0 : Int) ≤ (q : Int) := by omega
        have qi1 : (q : Int) < (nx : Int) := by omega
        clear hown hD HC hM hcnt hc1 hjt hjj hiv hk2 hk3 hk4 y0 y2 y3 e0
        subst hvr
        have hMr := lh (show CntM wr B N _ from ⟨D, HOWN.out, HD.out⟩)
        have hrl := listP_len (fun j => !inO (o ++ [k0]) j && openC (linksL z) (fun k => !hasI bs (k : Int)) (uQ (linksL z) o xs q) (linksL z).length j == 0) N
        by_cases hz1c : c1 = 0
        ·subst hz1c
         have HC2 := lh (show D.atKey (keyN jj) (.lit (.int .i64 0)) = .lit (.int .i64 1) from HCC.out)
         clear HCC
         go_upto_region 21 with (first
          | (at_lookup; refine wpList_lookup_own_int _ rfl _ _ 146 rfl 2 3 .i64 Tryz.cntLaw Tryz.underlying146 Tryz.underlying3 (Tryz.cntZero _) B N _ rfl HOWN.out _ (keyN jj) rfl HKEY.out ?_; intro c hat hwc; obtain rfl := lookEq HC2.out hat; clear hat hwc)
          | (at_mapUpdate; refine wpList_mapUpdate_own _ rfl _ _ _ 146 rfl 2 3 Tryz.cntLaw Tryz.underlying146 _ B N _ rfl HOWN.out hnc _ _ (keyN jj) rfl rfl HKEY.out (.lit (.int .i64 0)) [] (plainElem_int Tryz.underlying3 (by decide)) ?_; intro w1 hown1 hgrow1; have HOWN1 := lh hown1; have HGR1 := lh hgrow1; clear hown1 hgrow1)
          | (at_lookup; refine wpList_lookup_own_int _ rfl _ _ 146 rfl 2 3 .i64 Tryz.cntLaw Tryz.underlying146 Tryz.underlying3 (Tryz.cntZero _) B (N + 1) _ rfl HOWN1.out _ (keyN jj) rfl HKEY.out ?_; intro c hat hwc; obtain rfl := lookEq (Maps.atKey_put_same HT.out.isMap (keyN_key jj) (.lit (.int .i64 0)) _) hat; clear hat hwc)
          | (at_delete; refine wpList_delete_own _ rfl _ _ 146 2 rfl 3 Tryz.cntLaw Tryz.underlying146 _ B (N + 1) _ rfl HOWN1.out _ (keyN jj) rfl HKEY.out ?_; intro w2 hown2 hturn2))
         have hg2 : wr.grownBy w2 (some B) := HGR1.out.trans hturn2.grown
         have hgs := hg2.size
         have hdel := HD.out.del HT.out hjN HPOS.out (.lit (.int .i64 0))
         have M2 : CntM w2 B N (fun j => openC (linksL z) (fun k => !hasI bs (k : Int)) (uQ (linksL z) o xs (q + 1)) (linksL z).length j) := ⟨_, own_tight hown2 hdel.le, hdel.like (fun i _ => by
          by_cases e : i = jj
          ·subst e; rw [updC_same]; exact HC1.out
          ·rw [updC_other e]; exact HOTH.out i e)⟩
         have R2 := hRd.out.kept hg2 (.inr hrB.out)
         have HWN := lh (withNumber_any _ (rdQ (linksL z) (fun k => !hasI bs (k : Int)) N o k0 xs q) (jj : Int) S0 w2 R2 (show IncI (listP _ _) from listP_inc _ _) (show (listP _ _).length ≤ 100000 by omega) (by omega))
         unfold WithR at HWN
         have M2 := lh M2
         have G2 := lh (World.ownsRow.kept hG.out hg2 (.inr (GI.away hMr.out hG.out)))
         have O2 := lh (hO.out.map S4 hg2)
         have HGL := lh (fun k (hk : (Value.slice av' (m + 1) cv').ownBlock = some k) => (World.ownsRow.lt hG.out k hk).2)
         have HRL := lh (fun k hk => (hRd.out.lt k hk).1)
         clear hown2 hturn2 hg2 hdel R2 HOWN HOWN1 HGR1 HD HT hMr hG hRd hO HC2 HKEY HPOS HSAME HOTH
         go_wp2_with fail
         (go_at_call 95; refine HWN.out.mono ?_; rintro e w3 ⟨v3, p, rfl, hsp, hr3, hg3, hat3⟩)
         have M3 := lh (M2.out.kept hg3 (fun e => hrB.out e.symm))
         have R3 := lh (show RdL w3 S0 v3 (rdQ (linksL z) (fun k => !hasI bs (k : Int)) N o k0 xs (q + 1)) from by rw [← HMORE.out p (by first | trivial | rfl) hsp]; exact hr3)
         have G3 := lh (show GI w3 S0 (.slice av' (m + 1) cv') (natsI (o ++ [k0])) from World.ownsRow.kept G2.out hg3 hap.out)
         have A3 := lh (show (Value.slice av' (m + 1) cv').ownBlock = none ∨ (Value.slice av' (m + 1) cv').ownBlock ≠ v3.ownBlock from by
          rcases hat3 with e | ⟨g, e, hge⟩
          ·rw [e]; exact hap.out
          ·rw [e]
           cases hv : (Value.slice av' (m + 1) cv').ownBlock with
           | none => exact .inl rfl
           | some k => exact .inr (fun e1 => by have := HGL.out k hv; have := Option.some.inj e1; omega))
         have RB3 := lh (show v3.ownBlock ≠ some B from by
          rcases hat3 with e | ⟨g, e, hge⟩
          ·rw [e]; exact hrB.out
          ·rw [e]; exact fun e1 => by have := M2.out.lt; have := Option.some.inj e1; omega)
         have O3 := lh (O2.out.own (Nat.le_trans S4 hgs) hg3 (fun k hk => HRL.out k hk))
         clear hsp hr3 hg3 hat3 M2 G2 O2 HWN hap hrB HMORE HGL HRL
         go_wp2
         go_roundw
         case rel => exact ⟨q + 1, _, rfl, by omega, by go_num, M3, R3, G3, A3, RB3, O3⟩
         case measure => simp [intOf]; omega
        ·have HNZ := lh (show 0 < c1 by omega)
         go_upto_region 22 with (first
          | (at_lookup; refine wpList_lookup_own_int _ rfl _ _ 146 rfl 2 3 .i64 Tryz.cntLaw Tryz.underlying146 Tryz.underlying3 (Tryz.cntZero _) B N _ rfl HOWN.out _ (keyN jj) rfl HKEY.out ?_; intro c hat hwc; obtain rfl := lookEq HCC.out hat; clear hat hwc)
          | (at_mapUpdate; refine wpList_mapUpdate_own _ rfl _ _ _ 146 rfl 2 3 Tryz.cntLaw Tryz.underlying146 _ B N _ rfl HOWN.out hnc _ _ (keyN jj) rfl rfl HKEY.out (.lit (.int .i64 (c1 : Int))) [] (plainElem_int Tryz.underlying3 (WalkArith.wf_i64 (by omega))) ?_; intro w1 hown1 hgrow1; have HOWN1 := lh hown1; have HGR1 := lh hgrow1; clear hown1 hgrow1)
          | (at_lookup; refine wpList_lookup_own_int _ rfl _ _ 146 rfl 2 3 .i64 Tryz.cntLaw Tryz.underlying146 Tryz.underlying3 (Tryz.cntZero _) B (N + 1) _ rfl HOWN1.out _ (keyN jj) rfl HKEY.out ?_; intro c hat hwc; obtain rfl := lookEq (Maps.atKey_put_same HT.out.isMap (keyN_key jj) (.lit (.int .i64 (c1 : Int))) _) hat; clear hat hwc))
         have hput := HD.out.put HT.out hjN HNZ.out
         have M3 := lh (show CntM w1 B N (fun j => openC (linksL z) (fun k => !hasI bs (k : Int)) (uQ (linksL z) o xs (q + 1)) (linksL z).length j) from ⟨_, own_tight HOWN1.out hput.le, hput.like (fun i _ => by
          by_cases e : i = jj
          ·subst e; rw [updC_same]; exact HC1.out
          ·rw [updC_other e]; exact HOTH.out i e)⟩)
         have R3 := lh (show RdL w1 S0 _ (rdQ (linksL z) (fun k => !hasI bs (k : Int)) N o k0 xs (q + 1)) from by rw [HSAME.out hz1c]; exact hRd.out.kept HGR1.out (.inr hrB.out))
         have G3 := lh (show GI w1 S0 (.slice av' (m + 1) cv') (natsI (o ++ [k0])) from World.ownsRow.kept hG.out HGR1.out (.inr (GI.away hMr.out hG.out)))
         have O3 := lh (hO.out.map S4 HGR1.out)
         clear HOWN HOWN1 HGR1 HD HT hMr hG hRd hO HKEY HPOS HSAME HOTH hput HMORE
         go_wp2
         go_roundw
         case rel => exact ⟨q + 1, _, rfl, by omega, by go_num, M3, R3, G3, hap, hrB, O3⟩
         case measure => simp [intOf]; omega
       ·have e : nx = q := by omega
        subst e
        have hI : ¬ (nx : Int) < (nx : Int) := by omega
        have OR := lh T.out.next
        have hm1 := ordN_le OR.out
        have M3 := lh (show CntM wr B N (cO z bs (o ++ [k0])) from hM.out.like (fun j _ => by rw [NX.out]; exact T.out.done j))
        have R3 := lh (show RdL wr S0 vr (listP (readyB (linksL z) (fun k => !hasI bs (k : Int)) (inO (o ++ [k0]))) N) from by rw [← T.out.last, ← NX.out]; exact hRd.out)
        subst hvr
        clear hM hRd
        go_wp2
        go_roundw
        case rel => exact ⟨m + 1, o ++ [k0], _, _, rfl, rfl, OR, M3, hG, R3, hap, hrB, hO⟩
        case measure => simp; omega
end Go.Proofs.YtkpfbnffhhmokaaGreat
