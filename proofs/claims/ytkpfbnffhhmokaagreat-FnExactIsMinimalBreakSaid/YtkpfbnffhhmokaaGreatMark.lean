/-
Contracts of the laws' own helpers that mark a table's memory and look whether the marks are still there.
-/
import Derived.Test.YtkpfbnffhhmokaaGreatTabL
namespace Go.Proofs.YtkpfbnffhhmokaaGreat
open Go.ChangeShapes Go.WideShapes Go.ChangeAt Go.RowKit
set_option linter.unusedVariables false
/-- Of what was there, only blocks of S may have changed. -/
structure But (S : Nat → Prop) (w w' : World) : Prop where
 os : w'.os = w.os
 tape : w'.tape = w.tape
 output : w'.output = w.output
 size : w.heap.size ≤ w'.heap.size
 block : ∀ k, k < w.heap.size → ¬ S k → w'.heap[k]? = w.heap[k]?
theorem But.refl (S : Nat → Prop) (w : World) : But S w w := ⟨rfl, rfl, rfl, Nat.le_refl _, fun _ _ _ => rfl⟩
theorem But.trans {S : Nat → Prop} {a b c : World} (h : But S a b) (k : But S b c) : But S a c :=
 ⟨k.os.trans h.os, k.tape.trans h.tape, k.output.trans h.output, Nat.le_trans h.size k.size, fun i hi hs => (k.block i (Nat.lt_of_lt_of_le hi h.size) hs).trans (h.block i hi hs)⟩
theorem Marks.but {v : Value} {a b : World} (h : Marks v a b) : But (Blk v) a b := ⟨h.os, h.tape, h.output, Nat.le_of_eq h.size.symm, fun k _ hs => h.block k hs⟩
theorem But.below {S : Nat → Prop} {a b : World} {B : Nat} (h : But S a b) (hB : B ≤ a.heap.size) (hS : ∀ k, S k → B ≤ k) : Below B a b :=
 ⟨h.os, h.tape, h.output, h.size, fun k hk => h.block k (by omega) (fun x => by have := hS k x; omega)⟩
theorem But.cell {S : Nat → Prop} {a b : World} {p o : Nat} {v : Value} (h : But S a b) (hc : a.cell? ⟨p, o, none⟩ = some v) (hp : ¬ S p) : b.cell? ⟨p, o, none⟩ = some v := by
 rw [World.cell?_of_block (w := a) (a := ⟨p, o, none⟩) (h.block p (cell_lt hc) hp)]; exact hc
theorem But.frozen {S : Nat → Prop} {a b : World} {p o : Nat} {f : Bool} (h : But S a b) (hlt : p < a.heap.size) (hc : a.frozen? ⟨p, o, none⟩ = f) (hp : ¬ S p) : b.frozen? ⟨p, o, none⟩ = f := by
 rw [World.frozen?_of_block (w := a) (a := ⟨p, o, none⟩) (h.block p hlt hp)]; exact hc
theorem OwnS.but {S : Nat → Prop} {w w' : World} {B : Nat} {u : Value} {xs : List Int} (h : OwnS w B u xs) (m : But S w w') (ap : ∀ g, Blk u g → ¬ S g) : OwnS w' B u xs := by
 obtain ⟨h0, a, cap, rfl, h⟩ := h
 refine ⟨h0, a, cap, rfl, fun hp => ?_⟩
 obtain ⟨g, rfl, hB, hg, hx⟩ := h hp
 have hblk := m.block g hg (ap g ⟨0, _, _, rfl, hp⟩)
 have hs := m.size
 exact ⟨g, rfl, hB, by omega, fun i hi => ⟨by rw [World.cell?_of_block (w := w) (a := ⟨g, i, none⟩) hblk]; exact (hx i hi).1, by rw [World.frozen?_of_block (w := w) (a := ⟨g, i, none⟩) hblk]; exact (hx i hi).2⟩⟩
/-- A block holds three values. -/
def Box3 (w : World) (p : Nat) (u0 u1 u2 : Value) : Prop := w.cell? ⟨p, 0, none⟩ = some u0 ∧ w.cell? ⟨p, 1, none⟩ = some u1 ∧ w.cell? ⟨p, 2, none⟩ = some u2
theorem Box3.keep {w0 w1 : World} {p : Nat} {u0 u1 u2 : Value} (h : Box3 w0 p u0 u1 u2) (hb : Below w0.heap.size w0 w1) : Box3 w1 p u0 u1 u2 := ⟨cell_keep h.1 hb, cell_keep h.2.1 hb, cell_keep h.2.2 hb⟩
theorem Box3.but {S : Nat → Prop} {w0 w1 : World} {p : Nat} {u0 u1 u2 : Value} (h : Box3 w0 p u0 u1 u2) (m : But S w0 w1) (hp : ¬ S p) : Box3 w1 p u0 u1 u2 := ⟨m.cell h.1 hp, m.cell h.2.1 hp, m.cell h.2.2 hp⟩
def B3 (u0 u1 u2 : Value) (g : Nat) : Prop := Blk u0 g ∨ Blk u1 g ∨ Blk u2 g
theorem Tab3.blk {w : World} {B g : Nat} {u0 u1 u2 : Value} {ss ls vs : List Int} (h : Tab3 w B u0 u1 u2 ss ls vs) (hb : B3 u0 u1 u2 g) : B ≤ g ∧ g < w.heap.size := by
 rcases hb with hb | hb | hb
 ·exact h.1.blk hb
 ·exact h.2.1.blk hb
 ·exact h.2.2.1.blk hb
theorem Tab3.but {S : Nat → Prop} {w w' : World} {B : Nat} {u0 u1 u2 : Value} {ss ls vs : List Int} (h : Tab3 w B u0 u1 u2 ss ls vs) (m : But S w w') (ap : ∀ g, B3 u0 u1 u2 g → ¬ S g) : Tab3 w' B u0 u1 u2 ss ls vs :=
 ⟨h.1.but m (fun g hg => ap g (.inl hg)), h.2.1.but m (fun g hg => ap g (.inr (.inl hg))), h.2.2.1.but m (fun g hg => ap g (.inr (.inr hg))), h.2.2.2⟩
theorem Tab3.mono {w : World} {B C : Nat} {u0 u1 u2 : Value} {ss ls vs : List Int} (h : Tab3 w B u0 u1 u2 ss ls vs) (hC : C ≤ B) : Tab3 w C u0 u1 u2 ss ls vs := ⟨h.1.mono hC, h.2.1.mono hC, h.2.2.1.mono hC, h.2.2.2⟩
/-- The numbers k, k + 1, .., n of them. -/
def seqI (k : Int) (n : Nat) : List Int := (List.range n).map fun (i : Nat) => k + (i : Int)
theorem seq_len (k : Int) (n : Nat) : (seqI k n).length = n := by simp [seqI]
theorem iv_seq (k : Int) (n i : Nat) (h : i < n) : iv (seqI k n) i = k + i := by simp [iv, seqI, List.getD, h]
def MarkP (v : Value) (k : Int) (n B : Nat) (w : World) (e : Ending) (w' : World) : Prop := e = .returned (.int .i64 (k + n)) ∧ OwnS w' B v (seqI k n) ∧ Marks v w w'
theorem markInt64S_any (v : Value) (xs : List Int) (k : Int) (B : Nat) (w : World) (h : OwnS w B v xs) (h0 : 0 ≤ k) (h1 : k + xs.length ≤ 1000000000000) : Calls Tryz.prog 17 #[v, .int .i64 k] w (MarkP v k xs.length B w) := by
 obtain ⟨hn, a, cap, rfl, hx0⟩ := h
 obtain ⟨n, hnn⟩ : ∃ n, n = xs.length := ⟨_, rfl⟩
 rw [← hnn] at hn hx0 h1 ⊢
 obtain ⟨g, hg⟩ : ∃ g, 0 < n → a = some ⟨g, 0, none⟩ ∧ B ≤ g ∧ IRow w g n 0 (seqI k n) := by
  by_cases hp : 0 < n
  ·obtain ⟨g, e, hB, hs, hx⟩ := hx0 hp
   exact ⟨g, fun _ => ⟨e, hB, hs, fun j hj => ⟨(hx j hj).2, _, (hx j hj).1⟩, fun i hi => absurd hi (Nat.not_lt_zero i)⟩⟩
  ·exact ⟨0, fun h => absurd h hp⟩
 have HG := lh hg
 clear hg hx0 hnn
 go_enter Tryz.func17, Tryz.ntmps17
 go_wp2
 go_loopw [5, 1] (fun i q wr => ∃ j : Nat, j ≤ n ∧ i = .int .i64 j ∧ q = .int .i64 (k + j) ∧ Hid (0 < n → IRow wr g n j (seqI k n)) ∧ Hid (Marks (.slice a n cap) w wr)) (fun i _ _ => n - (intOf i).toNat)
 case atStart => exact ⟨0, by omega, rfl, by go_num, lh (fun hp => (HG.out hp).2.2), lh (Marks.refl _ _)⟩
 case round =>
  obtain ⟨j, hj, rfl, rfl, hr, hmk⟩ := hrel
  by_cases hjn : j < n
  ·obtain ⟨rfl, hB, _⟩ := HG.out (by omega)
   have hr1 := hr.out (by omega)
   obtain ⟨v0, e0⟩ := (hr1.2.1 j (by omega)).2
   have f0 := (hr1.2.1 j (by omega)).1
   have hrs := lh (fun (_ : 0 < n) => hr1.store hjn (iv_seq k n j hjn).symm)
   have hms := lh (hmk.out.set (g := g) ⟨0, n, cap, rfl, by omega⟩ j (.int .i64 (k + j)))
   clear hr1 hr hmk
   go_wp2
   go_roundw
   case rel => exact ⟨j + 1, by omega, by go_num, by go_num, hrs, hms⟩
   case measure => simp [intOf]; omega
  ·obtain rfl : j = n := by omega
   go_wp2
   go_ret
   refine ⟨rfl, ?_, hmk.out⟩
   by_cases hp : 0 < j
   ·obtain ⟨rfl, hB, _⟩ := HG.out hp
    exact IRow.own (hr.out hp) (seq_len k j).symm (by omega) hB
   ·obtain rfl : j = 0 := by omega
    exact (show seqI k 0 = [] from rfl) ▸ own_empty _ _ _ _
theorem heldInt64S_any (v : Value) (k : Int) (n B : Nat) (w : World) (h : OwnS w B v (seqI k n)) (h0 : 0 ≤ k) (h1 : k + n ≤ 1000000000000) : Calls Tryz.prog 18 #[v, .int .i64 k] w fun e w' => e = .returned (.int .i64 (k + n)) ∧ w' = w := by
 obtain ⟨hn, a, cap, rfl, hx0⟩ := h
 rw [seq_len] at hn hx0 ⊢
 have HX := lh hx0
 clear hx0
 go_enter Tryz.func18, Tryz.ntmps18
 go_wp2
 go_loop [5, 1] (fun i q => ∃ j : Nat, j ≤ n ∧ i = .int .i64 j ∧ q = .int .i64 (k + j)) (fun i _ => n - (intOf i).toNat)
 case atStart => exact ⟨0, by omega, rfl, by go_num⟩
 case round =>
  obtain ⟨j, hj, rfl, rfl⟩ := hrel
  by_cases hjn : j < n
  ·obtain ⟨g, rfl, _, _, hx⟩ := HX.out (by omega)
   have y0 := (hx j hjn).1
   rw [iv_seq k n j hjn] at y0
   clear hx
   go_wp2
   go_round
   case rel => exact ⟨j + 1, by omega, by go_num, by go_num⟩
   case measure => simp [intOf]; omega
  ·obtain rfl : j = n := by omega
   go_wp2
   go_ret
   exact ⟨rfl, rfl⟩
end Go.Proofs.YtkpfbnffhhmokaaGreat
