/-
Designs that come in.
-/
import Derived.Test.YtkpfbnffhhmokaaGreatOpen
import Derived.Test.YtkpfbnffhhmokaaGreatDes
import Derived.Deep.Strs
import Derived.Test.YtkpfbnffhhmokaaGreatWir
namespace Go.Proofs.YtkpfbnffhhmokaaGreat
open Go.ChangeShapes Go.WideShapes Go.ChangeAt Go.RowKit Go.Deep Go.Joins
set_option linter.unusedVariables false
section
variable {H : Type} {enc : TypeId × Value → H} {W : World}
theorem Tryz.openTx {fuel : Nat} {c0 : Value} {x : DataW H × List MemPlace} (h : DataW.trod enc Tryz.prog W 0 (fun _ => true) true fuel 26 [c0] = some x) : ∃ us, TxS W W.heap.size c0 us := by
 rcases open_strs Tryz.underlying26 Tryz.underlying9 (by kernel_rfl) h with ⟨hcs, _⟩ | ⟨a, len, cap, m, Sx, hcs, _, hl, hm, hmm, _, hx⟩
 ·simp at hcs
  subst hcs
  exact ⟨[], ⟨fun _ _ => .bool false, ⟨by simp, none, 0, rfl, fun h => absurd h (by simp)⟩, fun i hi => absurd hi (by simp)⟩, fun i hi => absurd hi (by simp)⟩
 ·simp at hcs
  subst hcs
  simp only [if_true] at hmm
  subst hmm
  unfold maxLen at hm
  have hsn : ∀ i, i < len → sn ((List.range len).map Sx) i = Sx i := fun i hi => by simp [sn, List.getD, hi]
  refine ⟨(List.range len).map Sx, ⟨fun i _ => .string (Sx i), ?_, fun i hi => ?_⟩, fun i hi => ?_⟩
  ·rw [List.length_map, List.length_range]
   by_cases h0 : len = 0
   ·exact ⟨by omega, some a, m, rfl, fun h => absurd h (by omega)⟩
   ·obtain ⟨b, off, spot⟩ := a
    have hs : spot = none := by simpa [Addr.add] using World.cell?_spot (hx 0 (by omega)).1
    subst hs
    have cell' : ∀ i, i < len → W.cell? ⟨b, off + i, none⟩ = some (.string (Sx i)) := by
     intro i hi
     have h1 := (hx i (by omega)).1
     rw [add_plain] at h1
     exact h1
    refine ⟨by omega, _, m, rfl, fun _ => ⟨b, off, rfl, cell_lt (cell' 0 (by omega)), fun i hi j hj => ?_⟩⟩
    obtain rfl : j = 0 := by omega
    rw [Nat.mul_one, Nat.add_zero]
    exact cell' i hi
  ·have hi' : i < len := by simpa using hi
   rw [hsn i hi']
  ·have hi' : i < len := by simpa using hi
   rw [hsn i hi']
   have := (hx i (by omega)).2
   unfold maxLen at this
   omega
theorem Tryz.openInsts {fuel : Nat} {c0 : Value} {x : DataW H × List MemPlace} (h : DataW.trod enc Tryz.prog W 0 (fun _ => true) true fuel 25 [c0] = some x) : ∃ ts, InstsS W W.heap.size c0 ts := by
 obtain ⟨n, F, hc, hf⟩ := open_rows Tryz.underlying25 Tryz.underlying156 (by kernel_rfl) (by kernel_rfl) (by simp) h
 have each : ∀ i, i < n → ∃ p : InstD, InstF W W.heap.size (F i) p := by
  intro i hi
  obtain ⟨_, _, t0⟩ := hf i hi 0 _ rfl
  obtain ⟨_, _, t1⟩ := hf i hi 1 _ rfl
  obtain ⟨_, _, t2⟩ := hf i hi 2 _ rfl
  obtain ⟨s, e0, _, hs⟩ := DataW.trod_string Tryz.underlying9 t0
  obtain ⟨a1, e1, _, _⟩ := DataW.trod_int Tryz.underlying2 t1
  obtain ⟨xs, b2⟩ := Tryz.openInts t2
  unfold maxLen at hs
  exact ⟨⟨s, a1, xs⟩, by simpa using e0, by simpa using e1, b2, by show s.size ≤ _; omega⟩
 have : Inhabited InstD := ⟨⟨.empty, 0, []⟩⟩
 obtain ⟨q, hq⟩ := choose_lt each
 refine ⟨(List.range n).map q, F, by simpa using hc, fun i hi => ?_⟩
 have hi' : i < n := by simpa using hi
 unfold inn
 rw [map_at q hi']
 exact hq i hi'
theorem Tryz.openPorts {fuel : Nat} {c0 : Value} {x : DataW H × List MemPlace} (h : DataW.trod enc Tryz.prog W 0 (fun _ => true) true fuel 27 [c0] = some x) : ∃ ts, PortsS W W.heap.size c0 ts := by
 obtain ⟨n, F, hc, hf⟩ := open_rows Tryz.underlying27 Tryz.underlying159 (by kernel_rfl) (by kernel_rfl) (by simp) h
 have each : ∀ i, i < n → ∃ p : PortD, PortF (F i) p := by
  intro i hi
  obtain ⟨_, _, t0⟩ := hf i hi 0 _ rfl
  obtain ⟨_, _, t1⟩ := hf i hi 1 _ rfl
  obtain ⟨_, _, t2⟩ := hf i hi 2 _ rfl
  obtain ⟨s, e0, _, hs⟩ := DataW.trod_string Tryz.underlying9 t0
  obtain ⟨a1, e1, _, _⟩ := DataW.trod_int Tryz.underlying2 t1
  obtain ⟨a2, e2, _, _⟩ := DataW.trod_int Tryz.underlying2 t2
  unfold maxLen at hs
  exact ⟨⟨s, a1, a2⟩, by simpa using e0, by simpa using e1, by simpa using e2, by show s.size ≤ _; omega⟩
 have : Inhabited PortD := ⟨⟨.empty, 0, 0⟩⟩
 obtain ⟨q, hq⟩ := choose_lt each
 refine ⟨(List.range n).map q, F, by simpa using hc, fun i hi => ?_⟩
 have hi' : i < n := by simpa using hi
 unfold ptn
 rw [map_at q hi']
 exact hq i hi'
end
end Go.Proofs.YtkpfbnffhhmokaaGreat
namespace Go.Proofs.YtkpfbnffhhmokaaGreat
open Go.ChangeShapes Go.WideShapes Go.ChangeAt Go.RowKit Go.Deep Go.Joins
set_option linter.unusedVariables false
section
variable {H : Type} {enc : TypeId × Value → H} {W : World}
end
section
variable {H : Type} {enc : TypeId × Value → H} {W : World}
theorem Tryz.openWires {fuel : Nat} {c0 : Value} {x : DataW H × List MemPlace} (h : DataW.trod enc Tryz.prog W 0 (fun _ => true) true fuel 30 [c0] = some x) : ∃ ts, WiresS W W.heap.size c0 ts := by
 obtain ⟨n, F, hc, hf⟩ := open_rows Tryz.underlying30 Tryz.underlying97 (by kernel_rfl) (by kernel_rfl) (by simp) h
 have each : ∀ i, i < n → ∃ p : WireD, WireF W W.heap.size (F i) p := by
  intro i hi
  obtain ⟨_, _, t0⟩ := hf i hi 0 _ rfl
  obtain ⟨_, _, t1⟩ := hf i hi 1 _ rfl
  obtain ⟨_, _, t2⟩ := hf i hi 2 _ rfl
  obtain ⟨_, _, t3⟩ := hf i hi 3 _ rfl
  obtain ⟨a0, b0⟩ := Tryz.openInts t0
  obtain ⟨a1, b1⟩ := Tryz.openInts t1
  obtain ⟨a2, b2⟩ := Tryz.openInts t2
  obtain ⟨a3, b3⟩ := Tryz.openInts t3
  exact ⟨⟨a0, a1, a2, a3⟩, b0, b1, b2, b3⟩
 have : Inhabited WireD := ⟨⟨[], [], [], []⟩⟩
 obtain ⟨q, hq⟩ := choose_lt each
 refine ⟨(List.range n).map q, F, by simpa using hc, fun i hi => ?_⟩
 have hi' : i < n := by simpa using hi
 unfold wrn
 rw [map_at q hi']
 exact hq i hi'
end
end Go.Proofs.YtkpfbnffhhmokaaGreat
