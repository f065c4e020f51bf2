/-
Contracts of the laws' own helpers for tables (copies, sizes, equality, marks), for all tables.
-/
import Derived.Test.YtkpfbnffhhmokaaGreatTab
namespace Go.Proofs.YtkpfbnffhhmokaaGreat
open Go.ChangeShapes Go.WideShapes Go.ChangeAt Go.RowKit
set_option linter.unusedVariables false
theorem cs_other {w : World} {g p q : Nat} {v : Value} (h : p ≠ q) : (w.setCell ⟨g, p, none⟩ v).cell? ⟨g, q, none⟩ = w.cell? ⟨g, q, none⟩ := World.cell?_setCell_other _ _ _ _ (fun hc => h (by injection hc))
theorem cs_same {w : World} {g p : Nat} {u v : Value} (h : w.cell? ⟨g, p, none⟩ = some u) : (w.setCell ⟨g, p, none⟩ v).cell? ⟨g, p, none⟩ = some v := World.cell?_setCell_same _ _ _ h
/-- v is a list of integers in a block of its own, not below B, or empty. -/
def OwnS (w : World) (B : Nat) (v : Value) (xs : List Int) : Prop :=
 xs.length ≤ 9223372036854775807 ∧ ∃ a cap, v = .slice a xs.length cap ∧ (0 < xs.length → ∃ g, a = some ⟨g, 0, none⟩ ∧ B ≤ g ∧ g < w.heap.size ∧ ∀ i, i < xs.length → w.cell? ⟨g, i, none⟩ = some (.int .i64 (iv xs i)) ∧ w.frozen? ⟨g, i, none⟩ = false)
theorem OwnS.ints {w : World} {B : Nat} {v : Value} {xs : List Int} (h : OwnS w B v xs) : IntS w w.heap.size v xs := by
 obtain ⟨h0, a, cap, rfl, h⟩ := h
 refine ⟨h0, a, cap, rfl, fun hp => ?_⟩
 obtain ⟨g, rfl, _, hg, hx⟩ := h hp
 exact ⟨g, 0, rfl, hg, fun i hi => by simpa using (hx i hi).1⟩
theorem OwnS.keep {w w' : World} {B : Nat} {v : Value} {xs : List Int} (h : OwnS w B v xs) (hb : Below w.heap.size w w') : OwnS w' B v xs := by
 obtain ⟨h0, a, cap, rfl, h⟩ := h
 refine ⟨h0, a, cap, rfl, fun hp => ?_⟩
 obtain ⟨g, rfl, hB, hg, hx⟩ := h hp
 have hs := hb.size
 exact ⟨g, rfl, hB, by omega, fun i hi => ⟨cell_keep (hx i hi).1 hb, by rw [hb.frozen (by exact hg)]; exact (hx i hi).2⟩⟩
theorem OwnS.mono {w : World} {B C : Nat} {v : Value} {xs : List Int} (h : OwnS w B v xs) (hC : C ≤ B) : OwnS w C v xs := by
 obtain ⟨h0, a, cap, rfl, h⟩ := h
 refine ⟨h0, a, cap, rfl, fun hp => ?_⟩
 obtain ⟨g, rfl, hB, hg, hx⟩ := h hp
 exact ⟨g, rfl, by omega, hg, hx⟩
theorem OwnS.alloc {w : World} {B : Nat} {v : Value} {xs : List Int} (h : OwnS w B v xs) (o : Obj) : OwnS (w.alloc o) B v xs := h.keep (ext_alloc (Below.refl _ _) o)
theorem OwnS.drew {w : World} {B : Nat} {v : Value} {xs : List Int} (h : OwnS w B v xs) : OwnS w.drew B v xs := h
theorem OwnS.drewN {w : World} {B : Nat} {v : Value} {xs : List Int} (h : OwnS w B v xs) (n : Nat) : OwnS (w.drewN n) B v xs := h
theorem OwnS.set {w : World} {B : Nat} {v : Value} {xs : List Int} {p : Addr} (h : OwnS w B v xs) (hp : p.block < B) (u : Value) : OwnS (w.setCell p u) B v xs := by
 obtain ⟨h0, a, cap, rfl, h⟩ := h
 refine ⟨h0, a, cap, rfl, fun hp' => ?_⟩
 obtain ⟨g, rfl, hB, hg, hx⟩ := h hp'
 refine ⟨g, rfl, hB, by simpa [World.setCell] using hg, fun i hi => ⟨?_, by simpa using (hx i hi).2⟩⟩
 rw [World.cell?_setCell_other _ _ _ _ (fun hc => by rw [hc] at hp; simp at hp; omega)]
 exact (hx i hi).1
/-- v's elements lie in block g. -/
def Blk (v : Value) (g : Nat) : Prop := ∃ o n c, v = .slice (some ⟨g, o, none⟩) n c ∧ 0 < n
def Apart (v u : Value) : Prop := ∀ g, Blk v g → ¬ Blk u g
theorem OwnS.blk {w : World} {B g : Nat} {v : Value} {xs : List Int} (h : OwnS w B v xs) (hb : Blk v g) : B ≤ g ∧ g < w.heap.size := by
 obtain ⟨h0, a, cap, rfl, h⟩ := h
 obtain ⟨o, n, c, e, hn⟩ := hb
 simp only [Value.slice.injEq] at e
 obtain ⟨rfl, rfl, rfl⟩ := e
 obtain ⟨g', e', h1, h2, _⟩ := h hn
 simp at e'
 obtain ⟨rfl, rfl⟩ := e'
 exact ⟨h1, h2⟩
theorem apart_of {w1 w2 : World} {B C : Nat} {v u : Value} {xs ys : List Int} (h : OwnS w1 B v xs) (h' : OwnS w2 C u ys) (hC : w1.heap.size ≤ C) : Apart v u := by
 intro g h1 h2
 have a := h.blk h1
 have b := h'.blk h2
 omega
theorem Apart.symm {v u : Value} (h : Apart v u) : Apart u v := fun g h1 h2 => h g h2 h1
/-- Only v's block may have changed. -/
structure Marks (v : Value) (w w' : World) : Prop where
 os : w'.os = w.os
 tape : w'.tape = w.tape
 output : w'.output = w.output
 size : w'.heap.size = w.heap.size
 block : ∀ k, ¬ Blk v k → w'.heap[k]? = w.heap[k]?
theorem Marks.refl (v : Value) (w : World) : Marks v w w := ⟨rfl, rfl, rfl, rfl, fun _ _ => rfl⟩
theorem Marks.trans {v : Value} {a b c : World} (h : Marks v a b) (k : Marks v b c) : Marks v a c := ⟨k.os.trans h.os, k.tape.trans h.tape, k.output.trans h.output, k.size.trans h.size, fun i hi => (k.block i hi).trans (h.block i hi)⟩
theorem Marks.drewN {v : Value} {a w : World} (h : Marks v a w) (n : Nat) : Marks v a (w.drewN n) := ⟨h.os, h.tape, h.output, h.size, h.block⟩
theorem Marks.drew {v : Value} {a w : World} (h : Marks v a w) : Marks v a w.drew := ⟨h.os, h.tape, h.output, h.size, h.block⟩
theorem Marks.set {v : Value} {a w : World} {g : Nat} (h : Marks v a w) (hg : Blk v g) (o : Nat) (u : Value) : Marks v a (w.setCell ⟨g, o, none⟩ u) :=
 h.trans ⟨rfl, rfl, rfl, by simp [World.setCell], fun k hk => Below.heap_setCell _ _ _ _ (fun e => hk (by rw [e]; exact hg))⟩
theorem Marks.below {w w' : World} {B : Nat} {v : Value} {xs : List Int} (m : Marks v w w') (h : OwnS w B v xs) : Below B w w' := ⟨m.os, m.tape, m.output, Nat.le_of_eq m.size.symm, fun k hk => m.block k (fun hb => by have := (h.blk hb).1; omega)⟩
theorem OwnS.marked {w w' : World} {B : Nat} {v u : Value} {xs : List Int} (h : OwnS w B u xs) (m : Marks v w w') (ap : Apart v u) : OwnS w' B u xs := by
 obtain ⟨h0, a, cap, rfl, h⟩ := h
 refine ⟨h0, a, cap, rfl, fun hp => ?_⟩
 obtain ⟨g, rfl, hB, hg, hx⟩ := h hp
 have hne : ¬ Blk v g := fun hb => ap g hb ⟨0, _, _, rfl, hp⟩
 have hblk := m.block g hne
 exact ⟨g, rfl, hB, by rw [m.size]; exact hg, fun i hi => ⟨by rw [World.cell?_of_block (w := w) (a := ⟨g, i, none⟩) hblk]; exact (hx i hi).1, by rw [World.frozen?_of_block (w := w) (a := ⟨g, i, none⟩) hblk]; exact (hx i hi).2⟩⟩
/-- A row of n cells, of which the first k hold xs. -/
def IRow (w : World) (g n k : Nat) (xs : List Int) : Prop :=
 g < w.heap.size ∧ (∀ j, j < n → w.frozen? ⟨g, j, none⟩ = false ∧ ∃ u, w.cell? ⟨g, j, none⟩ = some u) ∧ ∀ i, i < k → w.cell? ⟨g, i, none⟩ = some (.int .i64 (iv xs i))
theorem IRow.store {w : World} {g n k : Nat} {xs : List Int} {x : Int} (h : IRow w g n k xs) (hk : k < n) (hx : x = iv xs k) : IRow (w.setCell ⟨g, k, none⟩ (.int .i64 x)) g n (k + 1) xs := by
 subst hx
 obtain ⟨h0, h1, h2⟩ := h
 obtain ⟨u0, e0⟩ := (h1 k hk).2
 refine ⟨by simpa [World.setCell] using h0, fun j hj => ⟨by simp [(h1 j hj).1], ?_⟩, fun i hi => ?_⟩
 ·by_cases a : j = k
  ·subst a; exact ⟨_, cs_same e0⟩
  ·rw [cs_other (by omega)]; exact (h1 j hj).2
 ·by_cases e : i = k
  ·subst e; exact cs_same e0
  ·rw [cs_other (by omega)]; exact h2 i (by omega)
theorem IRow.made {w : World} {base g n cap : Nat} {e : TypeId} {cs : List Value} {xs : List Int} (h : w.ownsRow base e 1 (.slice (some ⟨g, 0, none⟩) n cap) n cs) : IRow w g n 0 xs ∨ n = 0 := by
 by_cases h0 : n = 0
 ·exact .inr h0
 ·refine .inl ⟨?_, fun j hj => ⟨h.frozenAt j, ?_⟩, fun i hi => absurd hi (Nat.not_lt_zero i)⟩
  ·have hc := h.cellAt 0 (by omega)
   rw [List.getElem?_eq_getElem (by rw [h.1]; omega)] at hc
   exact cell_lt hc
  ·have hc := h.cellAt j (by omega)
   rw [List.getElem?_eq_getElem (by rw [h.1]; omega)] at hc
   exact ⟨_, hc⟩
theorem IRow.own {w : World} {B g n cap : Nat} {xs : List Int} (h : IRow w g n n xs) (hn : n = xs.length) (hm : n ≤ 9223372036854775807) (hB : B ≤ g) : OwnS w B (.slice (some ⟨g, 0, none⟩) n cap) xs := by
 subst hn
 exact ⟨hm, _, cap, rfl, fun hp => ⟨g, rfl, hB, h.1, fun i hi => ⟨h.2.2 i hi, (h.2.1 i hi).1⟩⟩⟩
theorem own_empty (w : World) (B : Nat) (a : Option Addr) (cap : Nat) : OwnS w B (.slice a 0 cap) [] := ⟨by simp, a, cap, rfl, fun h => absurd h (by simp)⟩
theorem nil_of {xs : List Int} (h : xs.length = 0) : xs = [] := List.eq_nil_of_length_eq_zero h
theorem below_grown {w w' : World} (h : w.grownBy w' none) : Below w.heap.size w w' := (Below.refl _ _).grown h (Nat.le_refl _) (fun k hk => by cases hk)
theorem Tryz.infoInt : (Tryz.prog.info? 2).map (fun i => (i.zero, i.size, i.bytes)) = some (some (.int .i64 0), 1, 8) := by kernel_rfl
def ToInts (xs : List Int) (w : World) (e : Ending) (w' : World) : Prop := ∃ v : Value, e = .returned v ∧ OwnS w' w.heap.size v xs ∧ Below w.heap.size w w'
/-- Three lists of integers in blocks of their own, not below B. -/
def Tab3 (w : World) (B : Nat) (u0 u1 u2 : Value) (ss ls vs : List Int) : Prop := OwnS w B u0 ss ∧ OwnS w B u1 ls ∧ OwnS w B u2 vs ∧ Apart u0 u1 ∧ Apart u0 u2 ∧ Apart u1 u2
theorem Tab3.keep {w w' : World} {B : Nat} {u0 u1 u2 : Value} {ss ls vs : List Int} (h : Tab3 w B u0 u1 u2 ss ls vs) (hb : Below w.heap.size w w') : Tab3 w' B u0 u1 u2 ss ls vs := ⟨h.1.keep hb, h.2.1.keep hb, h.2.2.1.keep hb, h.2.2.2⟩
theorem Tab3.ints {w : World} {B : Nat} {u0 u1 u2 : Value} {ss ls vs : List Int} (h : Tab3 w B u0 u1 u2 ss ls vs) : IntS w w.heap.size u0 ss ∧ IntS w w.heap.size u1 ls ∧ IntS w w.heap.size u2 vs := ⟨h.1.ints, h.2.1.ints, h.2.2.1.ints⟩
def ToTab (ss ls vs : List Int) (w : World) (e : Ending) (w' : World) : Prop :=
 ∃ u0 u1 u2 : Value, e = .returned (.agg #[u0, u1, u2]) ∧ Tab3 w' w.heap.size u0 u1 u2 ss ls vs ∧ Below w.heap.size w w'
theorem toInt64S_any (v : Value) (xs : List Int) (w : World) (h : IntS w w.heap.size v xs) (hm : xs.length ≤ 1048576) : Calls Tryz.prog 12 #[v] w (ToInts xs w) := by
 obtain ⟨i0, hi, hz0, hz1, hz2⟩ := info_parts Tryz.infoInt
 obtain ⟨hn, a, cap, rfl, hx0⟩ := h
 obtain ⟨n, hnn⟩ : ∃ n, n = xs.length := ⟨_, rfl⟩
 have HN := lh hnn
 have HX := lh hx0
 rw [← hnn] at hn hm ⊢
 clear hx0 hnn
 go_enter Tryz.func12, Tryz.ntmps12
 go_wp2_with (at_make; refine wpList_make_full _ rfl _ _ 33 rfl w.heap.size 2 i0 (.int .i64 0) 1 Tryz.underlying33 hi hz0 hz1 .i64 .i64 _ _ n rfl rfl rfl rfl (by rw [hz2]; omega) (by unfold maxLen; omega) (Nat.le_refl _) ?_; intro w0 hown0 hgrow0; have hb0 := below_grown hgrow0; clear hgrow0)
 have hr0 : 0 < n → IRow w0 w.heap.size n 0 xs := fun hp => (IRow.made hown0).resolve_right (by omega)
 clear hown0
 go_loopw [4] (fun i wr => ∃ k : Nat, k ≤ n ∧ i = .int .i64 k ∧ Hid (0 < n → IRow wr w.heap.size n k xs) ∧ Below w.heap.size w wr) (fun i _ => n - (intOf i).toNat)
 case atStart => exact ⟨0, by omega, rfl, lh hr0, hb0⟩
 case round =>
  obtain ⟨k, hk, rfl, hr, hbw⟩ := hrel
  by_cases hkn : k < n
  ·obtain ⟨b, off, rfl, hlt, hx⟩ := HX.out (by have := HN.out; omega)
   have x0 := hx k (by have := HN.out; omega)
   have y0 : wr.cell? ⟨b, off + k, none⟩ = some (.int .i64 (iv xs k)) := by rw [hbw.cell (by show b < _; omega)]; exact x0
   clear x0 hx hr0 hb0
   have hr1 := hr.out (by omega)
   obtain ⟨v0, e0⟩ := (hr1.2.1 k (by omega)).2
   have f0 := (hr1.2.1 k (by omega)).1
   have hrs := lh (fun (_ : 0 < n) => hr1.store hkn rfl)
   clear hr1 hr
   go_wp2
   go_roundw
   case rel => exact ⟨k + 1, by omega, by go_num, hrs, eX⟩
   case measure => simp [intOf]; omega
  ·obtain rfl : k = n := by omega
   go_wp2
   go_ret
   by_cases h0 : k = 0
   ·subst h0
    obtain rfl := nil_of HN.out.symm
    exact ⟨_, rfl, own_empty _ _ _ _, hbw⟩
   ·exact ⟨_, rfl, IRow.own (hr.out (by omega)) HN.out (by omega) (Nat.le_refl _), hbw⟩
theorem eqInt64S_same (v u : Value) (xs : List Int) (w : World) (h : IntS w w.heap.size v xs) (h' : IntS w w.heap.size u xs) : Calls Tryz.prog 14 #[v, u] w fun e w' => e = .returned (.bool true) ∧ Below w.heap.size w w' := by
 obtain ⟨hn, a, cap, rfl, hx0⟩ := h
 obtain ⟨_, a', cap', rfl, hx0'⟩ := h'
 obtain ⟨n, hnn⟩ : ∃ n, n = xs.length := ⟨_, rfl⟩
 rw [← hnn] at hn hx0 hx0' ⊢
 have HX := lh hx0
 have HX' := lh hx0'
 clear hx0 hx0' hnn
 go_enter Tryz.func14, Tryz.ntmps14
 go_wp2
 go_loopw [5] (fun i wr => ∃ k : Nat, k ≤ n ∧ i = .int .i64 k ∧ Below w.heap.size w wr) (fun i _ => n - (intOf i).toNat)
 case atStart => exact ⟨0, by omega, rfl, eX⟩
 case round =>
  obtain ⟨k, hk, rfl, hbw⟩ := hrel
  by_cases hkn : k < n
  ·obtain ⟨b, off, rfl, hlt, hx⟩ := HX.out (by omega)
   obtain ⟨b', off', rfl, hlt', hx'⟩ := HX'.out (by omega)
   have y0 : wr.cell? ⟨b, off + k, none⟩ = some (.int .i64 (iv xs k)) := by rw [hbw.cell (by show b < _; omega)]; exact hx k hkn
   have y1 : wr.cell? ⟨b', off' + k, none⟩ = some (.int .i64 (iv xs k)) := by rw [hbw.cell (by show b' < _; omega)]; exact hx' k hkn
   have i0 : (0 : Int) ≤ (k : Int) := by omega
   have i1 : (k : Int) < (n : Int) := by omega
   clear hx hx'
   go_wp2
   go_quiet (fail)
   go_wp2
   go_roundw
   case rel => exact ⟨k + 1, by omega, by go_num, eX⟩
   case measure => simp [intOf]; omega
  ·obtain rfl : k = n := by omega
   go_wp2
   go_ret
   exact ⟨rfl, hbw⟩
set_option maxHeartbeats 1000000 in
theorem eqTable_same (v0 v1 v2 u0 u1 u2 : Value) (ss ls vs : List Int) (w : World) (h0 : IntS w w.heap.size v0 ss) (h1 : IntS w w.heap.size v1 ls) (h2 : IntS w w.heap.size v2 vs)
  (k0 : IntS w w.heap.size u0 ss) (k1 : IntS w w.heap.size u1 ls) (k2 : IntS w w.heap.size u2 vs) : Calls Tryz.prog 212 #[.agg #[v0, v1, v2], .agg #[u0, u1, u2]] w fun e w' => e = .returned (.bool true) ∧ Below w.heap.size w w' := by
 have H0 := lh h0; have H1 := lh h1; have H2 := lh h2; have K0 := lh k0; have K1 := lh k1; have K2 := lh k2
 obtain ⟨_, a0, c0, rfl, _⟩ := h0; obtain ⟨_, a1, c1, rfl, _⟩ := h1; obtain ⟨_, a2, c2, rfl, _⟩ := h2; obtain ⟨_, b0, d0, rfl, _⟩ := k0; obtain ⟨_, b1, d1, rfl, _⟩ := k1; obtain ⟨_, b2, d2, rfl, _⟩ := k2
 go_enter Tryz.func212, Tryz.ntmps212
 go_wp2_with (go_at_call 14; refine (eqInt64S_same _ _ _ _ (by first | exact H0.out.up eX | exact H1.out.up eX | exact H2.out.up eX) (by first | exact K0.out.up eX | exact K1.out.up eX | exact K2.out.up eX)).mono ?_; rintro e w1 ⟨rfl, hb⟩; have ⟨hc, hf⟩ := bcell hb; have hz := hb.size; (try simp at hz); (try have hz := Nat.lt_of_succ_le hz); (try have y0 := wy w w1); (try have z0 := wz0 w w1); (try have z1 := wz1 w w1); (try have z2 := wz2 w w1); (try have z3 := wz3 w w1); (try have z4 := wz4 w w1); (try have x0 := wz0 wc w1); (try have x1 := wy wc w1))
 go_ret
 exact ⟨rfl, eX⟩
set_option maxHeartbeats 1000000 in
theorem toTable_any (v0 v1 v2 : Value) (ss ls vs : List Int) (w : World) (h0 : IntS w w.heap.size v0 ss) (h1 : IntS w w.heap.size v1 ls) (h2 : IntS w w.heap.size v2 vs) (hm : ss.length + ls.length + vs.length ≤ 1048576) :
  Calls Tryz.prog 211 #[.agg #[v0, v1, v2]] w (ToTab ss ls vs w) := by
 have H0 := lh h0; have H1 := lh h1; have H2 := lh h2
 clear h0 h1 h2
 go_enter Tryz.func211, Tryz.ntmps211
 go_wp2_with fail
 (go_at_call 12; refine (toInt64S_any v0 _ _ (H0.out.up eX) (by omega)).mono ?_; rintro e w1 ⟨u0, rfl, hu0, hb⟩; have ⟨hc, hf⟩ := bcell hb; have hz := hb.size; (try simp at hz); (try have hz := Nat.lt_of_succ_le hz); (try have y0 := wy w w1); (try have z0 := wz0 w w1); (try have z1 := wz1 w w1); (try have z2 := wz2 w w1); (try have z3 := wz3 w w1); (try have z4 := wz4 w w1))
 have hb1 := hb
 have U0 := lh hu0
 obtain ⟨_, b0, d0, rfl, _⟩ := hu0
 go_wp2_with fail
 (go_at_call 12; refine (toInt64S_any v1 _ _ (H1.out.up eX) (by omega)).mono ?_; rintro e w2 ⟨u1, rfl, hu1, hb⟩; have ⟨hc, hf⟩ := bcell hb; have hz := hb.size; (try simp at hz); (try have hz := Nat.lt_of_succ_le hz); (try have y0 := wy w w2); (try have z0 := wz0 w w2); (try have z1 := wz1 w w2); (try have z2 := wz2 w w2); (try have z3 := wz3 w w2); (try have z4 := wz4 w w2))
 have hb2 := hb
 have U1 := lh hu1
 obtain ⟨_, b1, d1, rfl, _⟩ := hu1
 go_wp2_with fail
 (go_at_call 12; refine (toInt64S_any v2 _ _ (H2.out.up eX) (by omega)).mono ?_; rintro e w3 ⟨u2, rfl, hu2, hb⟩; have ⟨hc, hf⟩ := bcell hb; have hz := hb.size; (try simp at hz); (try have hz := Nat.lt_of_succ_le hz); (try have y0 := wy w w3); (try have z0 := wz0 w w3); (try have z1 := wz1 w w3); (try have z2 := wz2 w w3); (try have z3 := wz3 w w3); (try have z4 := wz4 w w3))
 have hb3 := hb
 have U2 := lh hu2
 obtain ⟨_, b2, d2, rfl, _⟩ := hu2
 go_wp2_with fail
 have A01 := apart_of U0.out U1.out (by simp [World.setCell])
 have A02 := apart_of U0.out U2.out (by simp [World.setCell]; omega)
 have A12 := apart_of U1.out U2.out (by simp [World.setCell])
 have q0 := U0.out.mono (C := w.heap.size + 1 + 1 + 1) (by simp)
 have q1 := U1.out.mono (C := w.heap.size + 1 + 1 + 1) (by simp [World.setCell]; omega)
 have q2 := U2.out.mono (C := w.heap.size + 1 + 1 + 1) (by simp [World.setCell]; omega)
 exact bodyPost_ret (v := .agg #[.slice b0 ss.length d0, .slice b1 ls.length d1, .slice b2 vs.length d2]) (by simp [results, Tryz.results211, go_sem, *]) rfl
  ⟨_, _, _, rfl, ⟨OwnS.mono (B := w.heap.size + 1 + 1 + 1) (by (repeat (first | (with_reducible assumption) | (with_reducible refine OwnS.alloc ?_ _) | (with_reducible refine OwnS.drew ?_) | (with_reducible refine OwnS.drewN ?_ _) | (with_reducible refine OwnS.set ?_ (by first | omega | (simp; omega) | simp) _) | (with_reducible refine OwnS.keep ?_ (by assumption))))) (by omega), OwnS.mono (B := w.heap.size + 1 + 1 + 1) (by (repeat (first | (with_reducible assumption) | (with_reducible refine OwnS.alloc ?_ _) | (with_reducible refine OwnS.drew ?_) | (with_reducible refine OwnS.drewN ?_ _) | (with_reducible refine OwnS.set ?_ (by first | omega | (simp; omega) | simp) _) | (with_reducible refine OwnS.keep ?_ (by assumption))))) (by omega), OwnS.mono (B := w.heap.size + 1 + 1 + 1) (by (repeat (first | (with_reducible assumption) | (with_reducible refine OwnS.alloc ?_ _) | (with_reducible refine OwnS.drew ?_) | (with_reducible refine OwnS.drewN ?_ _) | (with_reducible refine OwnS.set ?_ (by first | omega | (simp; omega) | simp) _) | (with_reducible refine OwnS.keep ?_ (by assumption))))) (by omega), A01, A02, A12⟩, eX⟩
def szR (l : Int) (n : Nat) : Int := if l - n < 0 then -1 else l - n
theorem szInt64S_any (v : Value) (xs : List Int) (B : Nat) (l : Int) (w : World) (h : IntS w B v xs) (h0 : 0 ≤ l) (h1 : l ≤ 1048576) : Calls Tryz.prog 101 #[v, .int .i64 l] w fun e w' => e = .returned (.int .i64 (szR l xs.length)) ∧ w' = w := by
 obtain ⟨hn, a, cap, rfl, _⟩ := h
 unfold szR
 by_cases hd : l - (xs.length : Int) < 0
 ·rw [if_pos hd]
  go_enter Tryz.func101, Tryz.ntmps101
  go_wp2
  go_ret
  exact ⟨rfl, rfl⟩
 ·rw [if_neg hd]
  go_enter Tryz.func101, Tryz.ntmps101
  go_wp2
  go_ret
  exact ⟨rfl, rfl⟩
section
variable {H : Type} {enc : TypeId × Value → H} {P : Program}
/-- A list of integers, the field of a struct that came in. -/
theorem open_list {W : World} {t e : TypeId} {fuel : Nat} {c : Value} {x : DataW H × List MemPlace} (ht : P.underlying t = some (.slice e)) (he : P.underlying e = some (.int .i64)) (hc : P.cellsOf e = 1)
  (h : DataW.trod enc P W 0 (fun _ => true) true fuel t [c] = some x) : ∃ xs, IntS W W.heap.size c xs := by
 rcases open_ints ht he hc h with ⟨hcs, hx⟩ | ⟨a, len, cap, zs, hcs, _, hl, hm, hz, hx, hcell, hwz⟩
 ·simp at hcs
  subst hcs
  exact ⟨[], by simp, none, 0, rfl, fun h => absurd h (by simp)⟩
 ·simp at hcs
  subst hcs
  simp only [if_true] at hz
  unfold maxLen at hm
  refine ⟨zs.take len, by simp; omega, some a, cap, by simp; omega, fun hp => ?_⟩
  have hp' : 0 < len := by simp at hp; omega
  obtain ⟨b, off, spot⟩ := a
  have hs : spot = none := by simpa [Addr.add] using World.cell?_spot (hcell 0 (by omega))
  subst hs
  refine ⟨b, off, rfl, ?_, fun i hi => ?_⟩
  ·have hc0 := hcell 0 (by omega)
   rw [add_plain] at hc0
   exact cell_lt hc0
  ·have hi' : i < len := by simp at hi; omega
   have hci := hcell i (by omega)
   rw [add_plain] at hci
   rw [hci]
   have : iv (zs.take len) i = zs.getD i 0 := by
    unfold iv
    simp [List.getD, hi']
   rw [this]
end
end Go.Proofs.YtkpfbnffhhmokaaGreat
