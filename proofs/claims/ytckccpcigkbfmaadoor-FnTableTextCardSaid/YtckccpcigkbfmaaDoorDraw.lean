/-
Contracts of the source of drawn numbers of chapter 1 (l01From, l01Next): what is drawn lies in its range, and nothing that was there before has changed.
-/
import Derived.Test.YtckccpcigkbfmaaDoorNum
import Derived.LoopTactic
import Derived.RegionTactic
import Derived.BigRegion
import Derived.ChangeSlices
import Derived.Deep.Slices
namespace Go.Proofs.YtckccpcigkbfmaaDoor
open Go.ChangeShapes Go.WideShapes Go.ChangeAt Go.RowKit Go.Deep
set_option linter.unusedVariables false

/-- v is a slice of n bytes, in a block below B, or nil. -/
def BytesAt (w : World) (B : Nat) (v : Value) (n : Nat) : Prop :=
  n ≤ 9223372036854775807 ∧ (((v = .slice none 0 0 ∨ ∃ ad cap, v = .slice (some ad) 0 cap) ∧ n = 0) ∨ ∃ b off cap, v = .slice (some ⟨b, off, none⟩) n cap ∧ b < B ∧ ∀ i, i < n → ∃ c : Int, 0 ≤ c ∧ c ≤ 255 ∧ w.cell? ⟨b, off + i, none⟩ = some (.int .u8 c))
theorem BytesAt.parts {w : World} {B : Nat} {v : Value} {n : Nat} (h : BytesAt w B v n) : n ≤ 9223372036854775807 ∧ ((∃ a cap, v = .slice a 0 cap ∧ n = 0) ∨ ∃ b off cap, v = .slice (some ⟨b, off, none⟩) n cap ∧ b < B ∧ ∀ i, i < n → ∃ c : Int, 0 ≤ c ∧ c ≤ 255 ∧ w.cell? ⟨b, off + i, none⟩ = some (.int .u8 c)) := by
  obtain ⟨h0, h⟩ := h
  refine ⟨h0, ?_⟩
  rcases h with ⟨rfl | ⟨ad, cap, rfl⟩, rfl⟩ | h
  · exact .inl ⟨_, _, rfl, rfl⟩
  · exact .inl ⟨_, _, rfl, rfl⟩
  · exact .inr h
theorem BytesAt.keep {w w' : World} {B C : Nat} {v : Value} {n : Nat} (h : BytesAt w B v n) (hb : Below B w w') (hB : B ≤ C) : BytesAt w' C v n := by
  obtain ⟨h0, h⟩ := h
  refine ⟨h0, ?_⟩
  rcases h with h | ⟨b, off, cap, rfl, hlt, hx⟩
  · exact .inl h
  · refine .inr ⟨b, off, cap, rfl, by omega, fun i hi => ?_⟩
    obtain ⟨c, h1, h2, h3⟩ := hx i hi
    exact ⟨c, h1, h2, by rw [hb.cell (by show b < B; omega)]; exact h3⟩

/-- Block g holds a source. -/
def Src (w : World) (g : Nat) : Prop := ∃ (v : Value) (n : Nat) (k : Nat) (s : Int), BytesAt w g v n ∧ k ≤ n ∧ 0 ≤ s ∧ s ≤ 2147483646 ∧ w.cell? ⟨g, 0, none⟩ = some v ∧ w.cell? ⟨g, 1, none⟩ = some (.int .i64 k) ∧ w.cell? ⟨g, 2, none⟩ = some (.int .i64 s) ∧
  w.frozen? ⟨g, 1, none⟩ = false ∧ w.frozen? ⟨g, 2, none⟩ = false ∧ g < w.heap.size

/-- Only block g may have changed; no block is new. -/
structure Only (g : Nat) (w w' : World) : Prop where
  os : w'.os = w.os
  tape : w'.tape = w.tape
  output : w'.output = w.output
  size : w'.heap.size = w.heap.size
  block : ∀ k, k ≠ g → w'.heap[k]? = w.heap[k]?
theorem Only.refl (g : Nat) (w : World) : Only g w w := ⟨rfl, rfl, rfl, rfl, fun _ _ => rfl⟩
theorem Only.trans {g : Nat} {a b c : World} (h : Only g a b) (k : Only g b c) : Only g a c := ⟨k.os.trans h.os, k.tape.trans h.tape, k.output.trans h.output, k.size.trans h.size, fun i hi => (k.block i hi).trans (h.block i hi)⟩
theorem Only.below {g B : Nat} {w w' : World} (h : Only g w w') (hB : B ≤ g) : Below B w w' := ⟨h.os, h.tape, h.output, Nat.le_of_eq h.size.symm, fun k hk => h.block k (by omega)⟩
theorem Only.cell {g : Nat} {w w' : World} (h : Only g w w') {p : Addr} (hp : p.block ≠ g) : w'.cell? p = w.cell? p := World.cell?_of_block (w := w) (h.block p.block hp)
theorem Only.frozen {g : Nat} {w w' : World} (h : Only g w w') {p : Addr} (hp : p.block ≠ g) : w'.frozen? p = w.frozen? p := World.frozen?_of_block (w := w) (h.block p.block hp)
theorem Only.drewN {g : Nat} {a w : World} (h : Only g a w) (n : Nat) : Only g a (w.drewN n) := ⟨h.os, h.tape, h.output, h.size, h.block⟩
theorem Only.drew {g : Nat} {a w : World} (h : Only g a w) : Only g a w.drew := ⟨h.os, h.tape, h.output, h.size, h.block⟩
theorem Only.setCell {g : Nat} {a w : World} (h : Only g a w) (o : Nat) (u : Value) : Only g a (w.setCell ⟨g, o, none⟩ u) :=
  h.trans ⟨rfl, rfl, rfl, by simp [World.setCell], fun k hk => Below.heap_setCell _ _ _ _ hk⟩

theorem big_any (v : Value) (n : Nat) (B : Nat) (w : World) (h : BytesAt w B v n) : Calls Tryd.prog 5 #[v] w fun e w' => e = .returned (.bool (decide (4096 < n))) ∧ w' = w := by
  obtain ⟨hn, h⟩ := h.parts
  by_cases hb : 4096 < n
  · have hd : decide (4096 < n) = true := by simpa using hb
    rw [hd]
    clear hd
    rcases h with ⟨a, cap, rfl, rfl⟩ | ⟨b, off, cap, rfl, hlt, hx⟩
    · omega
    · clear hx
      go_enter Tryd.func5, Tryd.ntmps5
      go_wp2
      go_ret
      exact ⟨ret_bool (by simp; omega), rfl⟩
  · have hd : decide (4096 < n) = false := by simpa using hb
    rw [hd]
    clear hd
    rcases h with ⟨a, cap, rfl, rfl⟩ | ⟨b, off, cap, rfl, hlt, hx⟩
    · go_enter Tryd.func5, Tryd.ntmps5
      go_wp2
      go_ret
      exact ⟨rfl, rfl⟩
    · clear hx
      go_enter Tryd.func5, Tryd.ntmps5
      go_wp2
      go_ret
      exact ⟨ret_bool (by simp; omega), rfl⟩
theorem from_any (v : Value) (n : Nat) (w : World) (h : BytesAt w w.heap.size v n) : Calls Tryd.prog 18 #[v] w fun e w' => e = .returned (.pointer (some ⟨w.heap.size, 0, none⟩)) ∧ Src w' w.heap.size ∧ Below w.heap.size w w' := by
  have h' := Lib.hid h
  obtain ⟨hn, h⟩ := h.parts
  rcases h with ⟨a, cap, rfl, rfl⟩ | ⟨b, off, cap, rfl, hlt, hx⟩
  · go_enter Tryd.func18, Tryd.ntmps18
    go_wp2
    go_loopw [4] (fun i wr => ∃ (k : Nat) (s : Int), i = .int .i64 k ∧ k ≤ 64 ∧ 0 ≤ s ∧ s ≤ 2147483646 ∧ wr.cell? ⟨w.heap.size, 0, none⟩ = some (.slice a 0 cap) ∧ wr.cell? ⟨w.heap.size, 1, none⟩ = some (.int .i64 0) ∧ wr.cell? ⟨w.heap.size, 2, none⟩ = some (.int .i64 s) ∧
      wr.frozen? ⟨w.heap.size, 1, none⟩ = false ∧ wr.frozen? ⟨w.heap.size, 2, none⟩ = false ∧ w.heap.size < wr.heap.size ∧ Below w.heap.size w wr) (fun i _ => 64 - (intOf i).toNat)
    case atStart => exact ⟨0, 12345, rfl, by omega, by omega, by omega, by simp [go_sem], by simp [go_sem], by simp [go_sem], by simp [go_sem], by simp [go_sem], by simp, by (repeat (first | (with_reducible exact Below.refl _ _) | (with_reducible assumption) | (with_reducible refine ext_alloc ?_ _) | (with_reducible refine ext_drew ?_) | (with_reducible refine ext_drewN ?_ _) | (with_reducible refine ext_set ?_ (by first | exact Nat.le_refl _ | (simp; done) | (simp; omega) | omega) _) | (with_reducible refine ext_trans ?_ (by assumption))))⟩
    case round =>
      obtain ⟨k, s, rfl, hk, hs0, hs1, c0, c1, c2, f1, f2, hz, hbw⟩ := hrel
      have hlt : ¬ (k : Int) < 0 := by omega
      go_wp2
      go_ret
      exact ⟨rfl, ⟨_, 0, 0, s, h'.out.keep hbw (Nat.le_refl _), by omega, hs0, hs1, c0, c1, c2, f1, f2, hz⟩, hbw⟩
  · go_enter Tryd.func18, Tryd.ntmps18
    go_wp2
    go_loopw [4] (fun i wr => ∃ (k : Nat) (s : Int), i = .int .i64 k ∧ k ≤ 64 ∧ 0 ≤ s ∧ s ≤ 2147483646 ∧ wr.cell? ⟨w.heap.size, 0, none⟩ = some (.slice (some ⟨b, off, none⟩) n cap) ∧ wr.cell? ⟨w.heap.size, 1, none⟩ = some (.int .i64 0) ∧ wr.cell? ⟨w.heap.size, 2, none⟩ = some (.int .i64 s) ∧
      wr.frozen? ⟨w.heap.size, 1, none⟩ = false ∧ wr.frozen? ⟨w.heap.size, 2, none⟩ = false ∧ w.heap.size < wr.heap.size ∧ Below w.heap.size w wr) (fun i _ => 64 - (intOf i).toNat)
    case atStart => exact ⟨0, 12345, rfl, by omega, by omega, by omega, by simp [go_sem], by simp [go_sem], by simp [go_sem], by simp [go_sem], by simp [go_sem], by simp, by (repeat (first | (with_reducible exact Below.refl _ _) | (with_reducible assumption) | (with_reducible refine ext_alloc ?_ _) | (with_reducible refine ext_drew ?_) | (with_reducible refine ext_drewN ?_ _) | (with_reducible refine ext_set ?_ (by first | exact Nat.le_refl _ | (simp; done) | (simp; omega) | omega) _) | (with_reducible refine ext_trans ?_ (by assumption))))⟩
    case round =>
      obtain ⟨k, s, rfl, hk, hs0, hs1, c0, c1, c2, f1, f2, hz, hbw⟩ := hrel
      by_cases hlt : k < n
      · by_cases h64 : k < 64
        · obtain ⟨c, hc0, hc1, hcell⟩ := hx k hlt
          have hce : wr.cell? ⟨b, off + k, none⟩ = some (.int .u8 c) := by rw [hbw.cell (by show b < _; omega)]; exact hcell
          have hne : w.heap.size ≠ b := by omega
          clear hx hcell h'
          go_wp2
          go_region
          all_goals
            go_wp2
            go_roundw
            case rel =>
              refine ⟨k + 1, (s * 31 + c) % 2147483647, by go_num, by omega, by omega, by omega, ?_, ?_, ?_, ?_, ?_, ?_, ?_⟩
              all_goals first | (simp [go_sem, *]; done) | ((repeat (first | (with_reducible exact Below.refl _ _) | (with_reducible assumption) | (with_reducible refine ext_alloc ?_ _) | (with_reducible refine ext_drew ?_) | (with_reducible refine ext_drewN ?_ _) | (with_reducible refine ext_set ?_ (by first | exact Nat.le_refl _ | (simp; done) | (simp; omega) | omega) _) | (with_reducible refine ext_trans ?_ (by assumption)))); done)
            case measure => simp [intOf]; omega
        · have hk64 : k = 64 := by omega
          go_wp2
          go_ret
          exact ⟨rfl, ⟨_, n, 0, s, h'.out.keep hbw (Nat.le_refl _), by omega, hs0, hs1, c0, c1, c2, f1, f2, hz⟩, hbw⟩
      · go_wp2
        go_ret
        exact ⟨rfl, ⟨_, n, 0, s, h'.out.keep hbw (Nat.le_refl _), by omega, hs0, hs1, c0, c1, c2, f1, f2, hz⟩, hbw⟩
/-- What l01Next leaves: a number below n, and the source of block g, which alone has changed. -/
def NextP (g : Nat) (n : Int) (w : World) (e : Ending) (w' : World) : Prop := ∃ r : Int, 0 ≤ r ∧ r < n ∧ e = .returned (.int .i64 r) ∧ Src w' g ∧ Only g w w'
theorem Src.set {w : World} {g : Nat} {v : Value} {n k k' : Nat} {s s' : Int} (hv : BytesAt w g v n) (hk : k' ≤ n) (h0 : 0 ≤ s') (h1 : s' ≤ 2147483646) (c0 : w.cell? ⟨g, 0, none⟩ = some v) (c1 : w.cell? ⟨g, 1, none⟩ = some (.int .i64 k)) (c2 : w.cell? ⟨g, 2, none⟩ = some (.int .i64 s))
    (f1 : w.frozen? ⟨g, 1, none⟩ = false) (f2 : w.frozen? ⟨g, 2, none⟩ = false) (hg : g < w.heap.size) {w' : World} (ho : Only g w w') (e0 : w'.cell? ⟨g, 0, none⟩ = some v) (e1 : w'.cell? ⟨g, 1, none⟩ = some (.int .i64 k')) (e2 : w'.cell? ⟨g, 2, none⟩ = some (.int .i64 s'))
    (f1' : w'.frozen? ⟨g, 1, none⟩ = false) (f2' : w'.frozen? ⟨g, 2, none⟩ = false) : Src w' g :=
  ⟨v, n, k', s', hv.keep (ho.below (Nat.le_refl _)) (Nat.le_refl _), hk, h0, h1, e0, e1, e2, f1', f2', by rw [ho.size]; exact hg⟩
theorem next_any (g : Nat) (n : Int) (w : World) (h : Src w g) (hn1 : 1 < n) (hn2 : n ≤ 2147483647) : Calls Tryd.prog 36 #[.pointer (some ⟨g, 0, none⟩), .int .i64 n] w (NextP g n w) := by
  obtain ⟨v, len, k, s, hv, hk, hs0, hs1, c0, c1, c2, f1, f2, hg⟩ := h
  have hv' := Lib.hid hv
  obtain ⟨hl, hv⟩ := hv.parts
  rcases hv with ⟨a, cap, rfl, rfl⟩ | ⟨b, off, cap, rfl, hlt, hx⟩
  · have hk0 : k = 0 := by omega
    subst hk0
    go_enter Tryd.func36, Tryd.ntmps36
    go_wp2
    go_quiet (fail)
    go_wp2
    go_ret
    refine ⟨_, ?_, ?_, rfl, Src.set (k' := 0) (s' := (s * 48271 + 11) % 2147483647) hv'.out (by omega) (by omega) (by omega) c0 c1 c2 f1 f2 hg (by repeat (first | (with_reducible exact Only.refl _ _) | (with_reducible refine Only.setCell ?_ _ _) | (with_reducible refine Only.drewN ?_ _) | (with_reducible refine Only.drew ?_))) (by simp [go_sem, *]) (by simp [go_sem, *]) (by simp [go_sem, *]) (by simp [go_sem, *]) (by simp [go_sem, *]), (by repeat (first | (with_reducible exact Only.refl _ _) | (with_reducible refine Only.setCell ?_ _ _) | (with_reducible refine Only.drewN ?_ _) | (with_reducible refine Only.drew ?_)))⟩
    · exact Int.emod_nonneg _ (by omega)
    · exact Int.emod_lt_of_pos _ (by omega)
  · by_cases hkl : k < len
    · obtain ⟨c, hc0, hc1, hcell⟩ := hx k hkl
      clear hx
      by_cases h256 : n ≤ 256
      · go_enter Tryd.func36, Tryd.ntmps36
        go_wp2
        go_quiet (fail)
        go_wp2
        go_quiet (fail)
        go_wp2
        go_ret
        refine ⟨_, ?_, ?_, rfl, Src.set (k' := k + 1) (s' := s) hv'.out (by omega) (by omega) (by omega) c0 c1 c2 f1 f2 hg (by repeat (first | (with_reducible exact Only.refl _ _) | (with_reducible refine Only.setCell ?_ _ _) | (with_reducible refine Only.drewN ?_ _) | (with_reducible refine Only.drew ?_))) (by simp [go_sem, *]) (by simp [go_sem, *]) (by simp [go_sem, *]) (by simp [go_sem, *]) (by simp [go_sem, *]), (by repeat (first | (with_reducible exact Only.refl _ _) | (with_reducible refine Only.setCell ?_ _ _) | (with_reducible refine Only.drewN ?_ _) | (with_reducible refine Only.drew ?_)))⟩
        · exact Int.emod_nonneg _ (by omega)
        · exact Int.emod_lt_of_pos _ (by omega)
      · go_enter Tryd.func36, Tryd.ntmps36
        go_wp2
        go_quiet (fail)
        go_wp2
        go_quiet (fail)
        go_wp2
        go_ret
        refine ⟨_, ?_, ?_, rfl, Src.set (k' := k + 1) (s' := (s * 48271 + c + 1) % 2147483647) hv'.out (by omega) (by omega) (by omega) c0 c1 c2 f1 f2 hg (by repeat (first | (with_reducible exact Only.refl _ _) | (with_reducible refine Only.setCell ?_ _ _) | (with_reducible refine Only.drewN ?_ _) | (with_reducible refine Only.drew ?_))) (by simp [go_sem, *]) (by simp [go_sem, *]) (by simp [go_sem, *]) (by simp [go_sem, *]) (by simp [go_sem, *]), (by repeat (first | (with_reducible exact Only.refl _ _) | (with_reducible refine Only.setCell ?_ _ _) | (with_reducible refine Only.drewN ?_ _) | (with_reducible refine Only.drew ?_)))⟩
        · exact Int.emod_nonneg _ (by omega)
        · exact Int.emod_lt_of_pos _ (by omega)
    · go_enter Tryd.func36, Tryd.ntmps36
      go_wp2
      go_quiet (fail)
      go_wp2
      go_ret
      refine ⟨_, ?_, ?_, rfl, Src.set (k' := k) (s' := (s * 48271 + 11) % 2147483647) hv'.out (by omega) (by omega) (by omega) c0 c1 c2 f1 f2 hg (by repeat (first | (with_reducible exact Only.refl _ _) | (with_reducible refine Only.setCell ?_ _ _) | (with_reducible refine Only.drewN ?_ _) | (with_reducible refine Only.drew ?_))) (by simp [go_sem, *]) (by simp [go_sem, *]) (by simp [go_sem, *]) (by simp [go_sem, *]) (by simp [go_sem, *]), (by repeat (first | (with_reducible exact Only.refl _ _) | (with_reducible refine Only.setCell ?_ _ _) | (with_reducible refine Only.drewN ?_ _) | (with_reducible refine Only.drew ?_)))⟩
      · exact Int.emod_nonneg _ (by omega)
      · exact Int.emod_lt_of_pos _ (by omega)
theorem Src.alloc {w : World} {g : Nat} (h : Src w g) (c : Array Value) (t : TypeId) : Src (w.alloc (.cells c t)) g := by
  obtain ⟨v, len, k, s, hv, hk, hs0, hs1, c0, c1, c2, f1, f2, hg⟩ := h
  have hb : Below w.heap.size w (w.alloc (.cells c t)) := (Below.refl _ _).alloc (Nat.le_refl _) _
  exact ⟨v, len, k, s, hv.keep (hb.mono (Nat.le_of_lt hg)) (Nat.le_refl _), hk, hs0, hs1, cell_keep c0 hb, cell_keep c1 hb, cell_keep c2 hb, by rw [hb.frozen (by exact hg)]; exact f1, by rw [hb.frozen (by exact hg)]; exact f2, by simp; omega⟩
theorem Src.drew {w : World} {g : Nat} (h : Src w g) : Src w.drew g := h
theorem Src.lt {w : World} {g : Nat} (h : Src w g) : g < w.heap.size := by
  obtain ⟨v, len, k, s, hv, hk, hs0, hs1, c0, c1, c2, f1, f2, hg⟩ := h
  exact hg
theorem four {r : Int} (h0 : 0 ≤ r) (h1 : r < 4) : r = 0 ∨ r = 1 ∨ r = 2 ∨ r = 3 := by omega
theorem wf64 {a : Int} (h1 : -9223372036854775808 ≤ a) (h2 : a ≤ 9223372036854775807) : (Lit.int .i64 a).wf = true := by
  simp [Lit.wf, IntKind.min, IntKind.max, IntKind.signed, IntKind.bits]; omega
theorem ext_only {a b c : World} {g : Nat} (h : Below a.heap.size a b) (k : Only g b c) (hg : a.heap.size ≤ g) : Below a.heap.size a c := h.trans (k.below hg)
theorem ofrozen {g : Nat} {w w' : World} (h : Only g w w') : ∀ b o, b ≠ g → w'.frozen? ⟨b, o, none⟩ = w.frozen? ⟨b, o, none⟩ := fun b o hb => h.frozen (p := ⟨b, o, none⟩) hb
theorem ocell {g : Nat} {w w' : World} (h : Only g w w') : ∀ b o, b ≠ g → w'.cell? ⟨b, o, none⟩ = w.cell? ⟨b, o, none⟩ := fun b o hb => h.cell (p := ⟨b, o, none⟩) hb
section
variable {H : Type} {enc : TypeId × Value → H} {P : Program}
/-- A slice of bytes that came in. -/
theorem open_code {W : World} {base : Nat} {t e : TypeId} {v : Value} {d : DataW H} {p : List MemPlace} (ht : P.underlying t = some (.slice e)) (he : P.underlying e = some (.int .u8)) (hc : P.cellsOf e = 1)
    (hv : Value.okWide P W .any base t v) (h : DataW.Trod enc P W 0 (fun _ => true) true t v d p) : ∃ n, BytesAt W W.heap.size v n := by
  obtain ⟨a0, len, cap, rfl⟩ := okWide_slice ht hv
  obtain ⟨fuel, hf⟩ := h
  rcases open_ints ht he hc hf with ⟨hcs, hx⟩ | ⟨a, len', cap', zs, hcs, _, hl, hm, hz, hx, hcell, hwz⟩
  · simp [Value.cells] at hcs
    obtain ⟨rfl, rfl, rfl⟩ := hcs
    exact ⟨0, by omega, .inl ⟨.inl rfl, rfl⟩⟩
  · simp [Value.cells] at hcs
    obtain ⟨rfl, rfl, rfl⟩ := hcs
    simp only [if_true] at hz
    unfold maxLen at hm
    refine ⟨len, by omega, ?_⟩
    by_cases h0 : len = 0
    · subst h0
      exact .inl ⟨.inr ⟨_, _, rfl⟩, rfl⟩
    · obtain ⟨b, off, spot⟩ := a
      have hs : spot = none := by simpa [Addr.add] using World.cell?_spot (hcell 0 (by omega))
      subst hs
      refine .inr ⟨b, off, cap, rfl, ?_, fun i hi => ?_⟩
      · have hc0 := hcell 0 (by omega)
        rw [add_plain] at hc0
        exact cell_lt hc0
      · have hci := hcell i (by omega)
        rw [add_plain] at hci
        have hw := bounds_u8 (hwz (zs.getD i 0) (by
          have hlt : i < zs.length := by omega
          simp [List.getD, hlt]))
        exact ⟨_, hw.1, hw.2, hci⟩
end
/-- Of what was there, only block g may have changed; blocks may be new. -/
def Chg (g : Nat) (w w' : World) : Prop := w.grownBy w' (some g)
theorem Chg.refl (g : Nat) (w : World) : Chg g w w := ⟨rfl, rfl, rfl, Nat.le_refl _, fun _ _ _ => rfl⟩
theorem Chg.trans {g : Nat} {a b c : World} (h : Chg g a b) (k : Chg g b c) : Chg g a c :=
  ⟨k.os.trans h.os, k.tape.trans h.tape, k.output.trans h.output, Nat.le_trans h.size k.size, fun i hi hn => (k.block i (Nat.lt_of_lt_of_le hi h.size) hn).trans (h.block i hi hn)⟩
theorem Only.chg {g : Nat} {a b : World} (h : Only g a b) : Chg g a b := ⟨h.os, h.tape, h.output, Nat.le_of_eq h.size.symm, fun k _ hk => h.block k (fun e => hk (by rw [e]))⟩
theorem Chg.only {g : Nat} {a b c : World} (h : Chg g a b) (k : Only g b c) : Chg g a c := h.trans k.chg
theorem below_chg {g : Nat} {a b : World} (h : Below a.heap.size a b) : Chg g a b := ⟨h.os, h.tape, h.output, h.size, fun k hk _ => h.block k hk⟩
theorem Chg.below {g B : Nat} {a b : World} (h : Chg g a b) (hB : B ≤ g) (hs : B ≤ a.heap.size) : Below B a b := ⟨h.os, h.tape, h.output, h.size, fun k hk => h.block k (by omega) (by simp; omega)⟩
theorem Chg.alloc {g : Nat} {a b : World} (h : Chg g a b) (o : Obj) : Chg g a (b.alloc o) := h.trans (below_chg ((Below.refl _ _).alloc (Nat.le_refl _) o))
theorem Chg.drew {g : Nat} {a b : World} (h : Chg g a b) : Chg g a b.drew := ⟨h.os, h.tape, h.output, h.size, h.block⟩
theorem Chg.drewN {g : Nat} {a b : World} (h : Chg g a b) (n : Nat) : Chg g a (b.drewN n) := ⟨h.os, h.tape, h.output, h.size, h.block⟩
theorem Chg.setNew {g : Nat} {a b : World} (h : Chg g a b) {p : Addr} (hp : a.heap.size ≤ p.block) (v : Value) : Chg g a (b.setCell p v) :=
  ⟨h.os, h.tape, h.output, by simpa [World.setCell] using h.size, fun k hk hn => (Below.heap_setCell _ _ _ _ (by omega)).trans (h.block k hk hn)⟩
theorem chgcell {g : Nat} {w w' : World} (h : Chg g w w') : (∀ b o, b < w.heap.size → b ≠ g → w'.cell? ⟨b, o, none⟩ = w.cell? ⟨b, o, none⟩) ∧ (∀ b o, b < w.heap.size → b ≠ g → w'.frozen? ⟨b, o, none⟩ = w.frozen? ⟨b, o, none⟩) :=
  ⟨fun b o hb hn => World.cell?_of_block (w := w) (h.block b hb (by simpa using hn)), fun b o hb hn => World.frozen?_of_block (w := w) (h.block b hb (by simpa using hn))⟩
theorem ckeep_chg {g b o : Nat} {w0 w1 : World} {v : Value} (h : w0.cell? ⟨b, o, none⟩ = some v) (k : Chg g w0 w1) (hne : b ≠ g) : w1.cell? ⟨b, o, none⟩ = some v := by
  rw [(chgcell k).1 b o (cell_lt h) hne]; exact h
theorem ckeep_chgd {g b o : Nat} {w0 w1 : World} {v : Value} (h : w0.cell? ⟨b, o, none⟩ = some v) (k : Chg g w0.drew w1) (hne : b ≠ g) : w1.cell? ⟨b, o, none⟩ = some v := ckeep_chg (w0 := w0.drew) h k hne
theorem ext_chg {a b c : World} {g : Nat} (h : Below a.heap.size a b) (k : Chg g b c) (hg : a.heap.size ≤ g) : Below a.heap.size a c := h.trans (k.below hg h.size)
theorem Src.setOther {w : World} {g : Nat} (h : Src w g) {p : Addr} (hp : g < p.block) (u : Value) : Src (w.setCell p u) g := by
  obtain ⟨v, len, k, s, hv, hk, hs0, hs1, c0, c1, c2, f1, f2, hg⟩ := h
  exact ⟨v, len, k, s, hv.keep ((Below.refl g w).setCell (by omega) u) (Nat.le_refl _), hk, hs0, hs1, cell_keep_set c0 hp, cell_keep_set c1 hp, cell_keep_set c2 hp, by simpa using f1, by simpa using f2, by simpa [World.setCell] using hg⟩
def TimeP (g : Nat) (w : World) (e : Ending) (w' : World) : Prop := ∃ t : Int, -1000000001 ≤ t ∧ t ≤ 1000000001 ∧ e = .returned (.int .i64 t) ∧ Src w' g ∧ Chg g w w'
end Go.Proofs.YtckccpcigkbfmaaDoor
