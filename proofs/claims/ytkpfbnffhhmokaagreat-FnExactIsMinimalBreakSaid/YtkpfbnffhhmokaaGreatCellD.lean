/-
What a list of structs, a table, a pin, an arc, a cell and a library are in memory.
-/
import Derived.Test.YtkpfbnffhhmokaaGreatTabL
import Derived.Deep.Slices
import Derived.Deep.Fields
namespace Go.Proofs.YtkpfbnffhhmokaaGreat
open Go.ChangeShapes Go.WideShapes Go.ChangeAt Go.RowKit Go.Deep
set_option linter.unusedVariables false
/-- n elements of c cells each; cell j of element i holds F i j. -/
def CellS (w : World) (B : Nat) (v : Value) (n c : Nat) (F : Nat → Nat → Value) : Prop :=
 n ≤ 9223372036854775807 ∧ ∃ a cap, v = .slice a n cap ∧ (0 < n → ∃ b off, a = some ⟨b, off, none⟩ ∧ b < B ∧ ∀ i, i < n → ∀ j, j < c → w.cell? ⟨b, off + i * c + j, none⟩ = some (F i j))
theorem CellS.keep {w w' : World} {B C : Nat} {v : Value} {n c : Nat} {F : Nat → Nat → Value} (h : CellS w B v n c F) (hb : Below B w w') (hB : B ≤ C) : CellS w' C v n c F := by
 obtain ⟨h0, a, cap, rfl, h⟩ := h
 refine ⟨h0, a, cap, rfl, fun hp => ?_⟩
 obtain ⟨b, off, rfl, hlt, hx⟩ := h hp
 exact ⟨b, off, rfl, by omega, fun i hi j hj => by rw [hb.cell (by show b < B; omega)]; exact hx i hi j hj⟩
structure TabD where
 ss : List Int
 ls : List Int
 vs : List Int
structure PinD where
 name : ByteArray
 dir : Int
 cap : Int
 clock : Bool
structure ArcD where
 kind : Int
 src : Int
 dst : Int
 sense : Int
 delay : List TabD
 slew : List TabD
structure CellD where
 name : ByteArray
 kind : Int
 pins : List PinD
 arcs : List ArcD
 truth : List Int
 leak : Int
 energy : Int
def tn (xs : List TabD) (i : Nat) : TabD := xs.getD i ⟨[], [], []⟩
def pn (xs : List PinD) (i : Nat) : PinD := xs.getD i ⟨.empty, 0, 0, false⟩
def an (xs : List ArcD) (i : Nat) : ArcD := xs.getD i ⟨0, 0, 0, 0, [], []⟩
def cn (xs : List CellD) (i : Nat) : CellD := xs.getD i ⟨.empty, 0, [], [], [], 0, 0⟩
def TabF (w : World) (B : Nat) (f : Nat → Value) (t : TabD) : Prop := IntS w B (f 0) t.ss ∧ IntS w B (f 1) t.ls ∧ IntS w B (f 2) t.vs
def TabsS (w : World) (B : Nat) (v : Value) (ts : List TabD) : Prop := ∃ F, CellS w B v ts.length 3 F ∧ ∀ i, i < ts.length → TabF w B (F i) (tn ts i)
def PinF (f : Nat → Value) (p : PinD) : Prop := f 0 = .string p.name ∧ f 1 = .int .i64 p.dir ∧ f 2 = .int .i64 p.cap ∧ f 3 = .bool p.clock ∧ p.name.size ≤ 9223372036854775807
def PinsS (w : World) (B : Nat) (v : Value) (ps : List PinD) : Prop := ∃ F, CellS w B v ps.length 4 F ∧ ∀ i, i < ps.length → PinF (F i) (pn ps i)
def ArcF (w : World) (B : Nat) (f : Nat → Value) (a : ArcD) : Prop := f 0 = .int .i64 a.kind ∧ f 1 = .int .i64 a.src ∧ f 2 = .int .i64 a.dst ∧ f 3 = .int .i64 a.sense ∧ TabsS w B (f 4) a.delay ∧ TabsS w B (f 5) a.slew
def ArcsS (w : World) (B : Nat) (v : Value) (aa : List ArcD) : Prop := ∃ F, CellS w B v aa.length 6 F ∧ ∀ i, i < aa.length → ArcF w B (F i) (an aa i)
def CellF (w : World) (B : Nat) (f : Nat → Value) (c : CellD) : Prop := f 0 = .string c.name ∧ f 1 = .int .i64 c.kind ∧ PinsS w B (f 2) c.pins ∧ ArcsS w B (f 3) c.arcs ∧ IntS w B (f 4) c.truth ∧ f 5 = .int .i64 c.leak ∧ f 6 = .int .i64 c.energy ∧ c.name.size ≤ 9223372036854775807
def CellsS (w : World) (B : Nat) (v : Value) (cs : List CellD) : Prop := ∃ F, CellS w B v cs.length 7 F ∧ ∀ i, i < cs.length → CellF w B (F i) (cn cs i)
theorem TabF.keep {w w' : World} {B C : Nat} {f : Nat → Value} {t : TabD} (h : TabF w B f t) (hb : Below B w w') (hB : B ≤ C) : TabF w' C f t := ⟨h.1.keep hb hB, h.2.1.keep hb hB, h.2.2.keep hb hB⟩
theorem TabsS.keep {w w' : World} {B C : Nat} {v : Value} {ts : List TabD} (h : TabsS w B v ts) (hb : Below B w w') (hB : B ≤ C) : TabsS w' C v ts := by
 obtain ⟨F, h0, h1⟩ := h
 exact ⟨F, h0.keep hb hB, fun i hi => (h1 i hi).keep hb hB⟩
theorem PinsS.keep {w w' : World} {B C : Nat} {v : Value} {ps : List PinD} (h : PinsS w B v ps) (hb : Below B w w') (hB : B ≤ C) : PinsS w' C v ps := by
 obtain ⟨F, h0, h1⟩ := h
 exact ⟨F, h0.keep hb hB, h1⟩
theorem ArcF.keep {w w' : World} {B C : Nat} {f : Nat → Value} {a : ArcD} (h : ArcF w B f a) (hb : Below B w w') (hB : B ≤ C) : ArcF w' C f a :=
 ⟨h.1, h.2.1, h.2.2.1, h.2.2.2.1, h.2.2.2.2.1.keep hb hB, h.2.2.2.2.2.keep hb hB⟩
theorem ArcsS.keep {w w' : World} {B C : Nat} {v : Value} {aa : List ArcD} (h : ArcsS w B v aa) (hb : Below B w w') (hB : B ≤ C) : ArcsS w' C v aa := by
 obtain ⟨F, h0, h1⟩ := h
 exact ⟨F, h0.keep hb hB, fun i hi => (h1 i hi).keep hb hB⟩
theorem CellF.keep {w w' : World} {B C : Nat} {f : Nat → Value} {c : CellD} (h : CellF w B f c) (hb : Below B w w') (hB : B ≤ C) : CellF w' C f c :=
 ⟨h.1, h.2.1, h.2.2.1.keep hb hB, h.2.2.2.1.keep hb hB, h.2.2.2.2.1.keep hb hB, h.2.2.2.2.2⟩
theorem CellsS.keep {w w' : World} {B C : Nat} {v : Value} {cs : List CellD} (h : CellsS w B v cs) (hb : Below B w w') (hB : B ≤ C) : CellsS w' C v cs := by
 obtain ⟨F, h0, h1⟩ := h
 exact ⟨F, h0.keep hb hB, fun i hi => (h1 i hi).keep hb hB⟩
theorem TabF.up {w w' : World} {f : Nat → Value} {t : TabD} (h : TabF w w.heap.size f t) (hb : Below w.heap.size w w') : TabF w' w'.heap.size f t := h.keep hb hb.size
theorem TabsS.up {w w' : World} {v : Value} {ts : List TabD} (h : TabsS w w.heap.size v ts) (hb : Below w.heap.size w w') : TabsS w' w'.heap.size v ts := h.keep hb hb.size
theorem PinsS.up {w w' : World} {v : Value} {ps : List PinD} (h : PinsS w w.heap.size v ps) (hb : Below w.heap.size w w') : PinsS w' w'.heap.size v ps := h.keep hb hb.size
theorem ArcF.up {w w' : World} {f : Nat → Value} {a : ArcD} (h : ArcF w w.heap.size f a) (hb : Below w.heap.size w w') : ArcF w' w'.heap.size f a := h.keep hb hb.size
theorem ArcsS.up {w w' : World} {v : Value} {aa : List ArcD} (h : ArcsS w w.heap.size v aa) (hb : Below w.heap.size w w') : ArcsS w' w'.heap.size v aa := h.keep hb hb.size
theorem CellF.up {w w' : World} {f : Nat → Value} {c : CellD} (h : CellF w w.heap.size f c) (hb : Below w.heap.size w w') : CellF w' w'.heap.size f c := h.keep hb hb.size
theorem CellsS.up {w w' : World} {v : Value} {cs : List CellD} (h : CellsS w w.heap.size v cs) (hb : Below w.heap.size w w') : CellsS w' w'.heap.size v cs := h.keep hb hb.size
/-- Every list is short enough to be made anew. -/
def TabSm (t : TabD) : Prop := t.ss.length + t.ls.length + t.vs.length ≤ 1048576
def TabsSm (ts : List TabD) : Prop := ts.length ≤ 1048576 ∧ ∀ i, i < ts.length → TabSm (tn ts i)
def PinsSm (ps : List PinD) : Prop := ps.length ≤ 1048576
def ArcSm (a : ArcD) : Prop := TabsSm a.delay ∧ TabsSm a.slew
def ArcsSm (aa : List ArcD) : Prop := aa.length ≤ 1048576 ∧ ∀ i, i < aa.length → ArcSm (an aa i)
def CellSm (c : CellD) : Prop := PinsSm c.pins ∧ ArcsSm c.arcs ∧ c.truth.length ≤ 1048576
def CellsSm (cs : List CellD) : Prop := cs.length ≤ 1048576 ∧ ∀ i, i < cs.length → CellSm (cn cs i)
/-- Stores side by side. -/
def stores (w : World) (g : Nat) : Nat → List Value → World
 | _, [] => w
 | o, v :: vs => stores (w.setCell ⟨g, o, none⟩ v) g (o + 1) vs
theorem stores_size (g : Nat) : ∀ (vs : List Value) (w : World) (o : Nat), (stores w g o vs).heap.size = w.heap.size
 | [], _, _ => rfl
 | v :: vs, w, o => by unfold stores; rw [stores_size g vs]; simp [World.setCell]
theorem stores_frozen (g : Nat) (p : Addr) : ∀ (vs : List Value) (w : World) (o : Nat), (stores w g o vs).frozen? p = w.frozen? p
 | [], _, _ => rfl
 | v :: vs, w, o => by unfold stores; rw [stores_frozen g p vs]; simp
theorem stores_far (g p : Nat) : ∀ (vs : List Value) (w : World) (o : Nat), (p < o ∨ o + vs.length ≤ p) → (stores w g o vs).cell? ⟨g, p, none⟩ = w.cell? ⟨g, p, none⟩
 | [], _, _, _ => rfl
 | v :: vs, w, o, h => by
  unfold stores
  simp only [List.length_cons] at h
  rw [stores_far g p vs _ _ (by omega), cs_other (by omega)]
theorem stores_at (g : Nat) : ∀ (vs : List Value) (w : World) (o j : Nat), (∀ q, q < vs.length → ∃ u, w.cell? ⟨g, o + q, none⟩ = some u) → (hj : j < vs.length) → (stores w g o vs).cell? ⟨g, o + j, none⟩ = some vs[j]
 | [], _, _, _, _, hj => absurd hj (Nat.not_lt_zero _)
 | v :: vs, w, o, j, h, hj => by
  unfold stores
  obtain ⟨u, hu⟩ := h 0 (by simp)
  rcases j with _ | j
  ·rw [stores_far g _ vs _ _ (by omega)]
   exact cs_same (by simpa using hu)
  ·have e : o + (j + 1) = o + 1 + j := by omega
   rw [e, stores_at g vs _ (o + 1) j ?_ (by simpa using hj)]
   ·rfl
   ·intro q hq
    obtain ⟨u', hu'⟩ := h (q + 1) (by simp; omega)
    exact ⟨u', by rw [cs_other (by omega), show o + 1 + q = o + (q + 1) by omega]; exact hu'⟩
/-- n elements of c cells in block g, none frozen, of which the first k hold F. -/
def RowF (w : World) (g n c k : Nat) (F : Nat → Nat → Value) : Prop :=
 g < w.heap.size ∧ (∀ j, j < n * c → w.frozen? ⟨g, j, none⟩ = false ∧ ∃ u, w.cell? ⟨g, j, none⟩ = some u) ∧ ∀ i, i < k → ∀ j, j < c → w.cell? ⟨g, i * c + j, none⟩ = some (F i j)
theorem RowF.below {w w' : World} {g n c k : Nat} {F : Nat → Nat → Value} (h : RowF w g n c k F) (hb : Below w.heap.size w w') : RowF w' g n c k F := by
 obtain ⟨h0, h1, h2⟩ := h
 have hs := hb.size
 refine ⟨by omega, fun j hj => ⟨by rw [hb.frozen (by exact h0)]; exact (h1 j hj).1, ?_⟩, fun i hi j hj => cell_keep (h2 i hi j hj) hb⟩
 obtain ⟨u, hu⟩ := (h1 j hj).2
 exact ⟨u, cell_keep hu hb⟩
theorem mul_in {i n c j : Nat} (hi : i < n) (hj : j < c) : i * c + j < n * c := by
 have : (i + 1) * c ≤ n * c := Nat.mul_le_mul_right c hi
 rw [Nat.add_mul, Nat.one_mul] at this
 omega
def upd (F : Nat → Nat → Value) (k : Nat) (vs : List Value) : Nat → Nat → Value := fun i j => if i = k then vs.getD j (.bool false) else F i j
theorem RowF.store {w : World} {g n c k : Nat} {F : Nat → Nat → Value} {vs : List Value} (h : RowF w g n c k F) (hk : k < n) (hv : vs.length = c) : RowF (stores w g (k * c) vs) g n c (k + 1) (upd F k vs) := by
 subst hv
 obtain ⟨h0, h1, h2⟩ := h
 have hat : ∀ j (hj : j < vs.length), (stores w g (k * vs.length) vs).cell? ⟨g, k * vs.length + j, none⟩ = some vs[j] := fun j hj => stores_at g vs w _ j (fun q hq => (h1 _ (mul_in hk hq)).2) hj
 refine ⟨by rw [stores_size]; exact h0, fun j hj => ⟨by rw [stores_frozen]; exact (h1 j hj).1, ?_⟩, fun i hi j hj => ?_⟩
 ·by_cases a : j < k * vs.length ∨ k * vs.length + vs.length ≤ j
  ·rw [stores_far g j vs w _ a]; exact (h1 j hj).2
  ·have hh := hat (j - k * vs.length) (by omega)
   rw [show k * vs.length + (j - k * vs.length) = j by omega] at hh
   exact ⟨_, hh⟩
 ·by_cases e : i = k
  ·subst e
   rw [hat j hj]
   simp [upd, List.getD, hj]
  ·have hlt : i < k := by omega
   have := mul_in hlt hj
   rw [stores_far g _ vs w _ (by omega), h2 i hlt j hj]
   simp [upd, e]
theorem RowF.made {w : World} {base g n c cap : Nat} {e : TypeId} {cs : List Value} {F : Nat → Nat → Value} (h : w.ownsRow base e c (.slice (some ⟨g, 0, none⟩) n cap) n cs) (hc : 0 < c) : RowF w g n c 0 F ∨ n = 0 := by
 by_cases h0 : n = 0
 ·exact .inr h0
 ·refine .inl ⟨?_, fun j hj => ⟨h.frozenAt j, ?_⟩, fun i hi => absurd hi (Nat.not_lt_zero i)⟩
  ·have hp : 0 < n * c := Nat.mul_pos (by omega) hc
   have hc := h.cellAt 0 hp
   rw [List.getElem?_eq_getElem (by rw [h.1]; exact hp)] at hc
   exact cell_lt hc
  ·have hc := h.cellAt j hj
   rw [List.getElem?_eq_getElem (by rw [h.1]; exact hj)] at hc
   exact ⟨_, hc⟩
theorem RowF.cells {w : World} {g n c cap : Nat} {F : Nat → Nat → Value} (h : 0 < n → RowF w g n c n F) (hm : n ≤ 1048576) : CellS w w.heap.size (.slice (some ⟨g, 0, none⟩) n cap) n c F :=
 ⟨by omega, _, cap, rfl, fun hp => ⟨g, 0, rfl, (h hp).1, fun i hi j hj => by rw [Nat.zero_add]; exact (h hp).2.2 i hi j hj⟩⟩
/-- The cells of one element, of a list that stands as it was. -/
theorem CellS.at {w wr : World} {a : Option Addr} {n c k cap : Nat} {F : Nat → Nat → Value} (h : CellS w w.heap.size (.slice a n cap) n c F) (hb : Below w.heap.size w wr) (hk : k < n) :
  ∃ b off, a = some ⟨b, off, none⟩ ∧ b < w.heap.size ∧ ∀ j, j < c → wr.cell? ⟨b, off + k * c + j, none⟩ = some (F k j) := by
 obtain ⟨h0, a', cap', e, h⟩ := h
 injection e with e1 e2 e3
 subst e1 e3
 obtain ⟨b, off, rfl, hlt, hx⟩ := h (by omega)
 exact ⟨b, off, rfl, hlt, fun j hj => by rw [hb.cell (by show b < _; omega)]; exact hx k hk j hj⟩
/-- The blocks from L on stand as they were. -/
def Kept (L : Nat) (w w' : World) : Prop := w.heap.size ≤ w'.heap.size ∧ ∀ k, L ≤ k → k < w.heap.size → w'.heap[k]? = w.heap[k]?
theorem Kept.refl (L : Nat) (w : World) : Kept L w w := ⟨Nat.le_refl _, fun _ _ _ => rfl⟩
theorem Kept.trans {L : Nat} {a b c : World} (h : Kept L a b) (k : Kept L b c) : Kept L a c := ⟨Nat.le_trans h.1 k.1, fun i h1 h2 => (k.2 i h1 (Nat.lt_of_lt_of_le h2 h.1)).trans (h.2 i h1 h2)⟩
theorem Kept.below {L : Nat} {a b : World} (h : Below a.heap.size a b) : Kept L a b := ⟨h.size, fun k _ hk => h.block k hk⟩
theorem Kept.call {L : Nat} {a b c : World} (h : Kept L a b) (k : Below b.heap.size b c) : Kept L a c := h.trans (Kept.below k)
theorem Kept.alloc {L : Nat} {a b : World} (h : Kept L a b) (o : Obj) : Kept L a (b.alloc o) := h.call ((Below.refl _ _).alloc (Nat.le_refl _) _)
theorem Kept.drew {L : Nat} {a b : World} (h : Kept L a b) : Kept L a b.drew := h
theorem Kept.drewN {L : Nat} {a b : World} (h : Kept L a b) (n : Nat) : Kept L a (b.drewN n) := h
theorem Kept.set {L : Nat} {a b : World} (h : Kept L a b) {p : Addr} (hp : p.block < L) (v : Value) : Kept L a (b.setCell p v) :=
 h.trans ⟨by simp [World.setCell], fun k hk _ => Below.heap_setCell _ _ _ _ (fun e => by omega)⟩
theorem Kept.stores {L g : Nat} (hg : g < L) : ∀ (vs : List Value) (w : World) (o : Nat), Kept L w (stores w g o vs)
 | [], w, _ => Kept.refl _ _
 | v :: vs, w, o => ((Kept.refl L w).set (p := ⟨g, o, none⟩) hg v).trans (Kept.stores hg vs _ _)
theorem Kept.cell {L : Nat} {w w' : World} {g o : Nat} {v : Value} (h : Kept L w w') (hg : L ≤ g) (hc : w.cell? ⟨g, o, none⟩ = some v) : w'.cell? ⟨g, o, none⟩ = some v := by
 rw [World.cell?_of_block (w := w) (a := ⟨g, o, none⟩) (h.2 g hg (cell_lt hc))]; exact hc
theorem Kept.frozen {L : Nat} {w w' : World} {g o : Nat} {f : Bool} (h : Kept L w w') (hg : L ≤ g) (hl : g < w.heap.size) (hc : w.frozen? ⟨g, o, none⟩ = f) : w'.frozen? ⟨g, o, none⟩ = f := by
 rw [World.frozen?_of_block (w := w) (a := ⟨g, o, none⟩) (h.2 g hg hl)]; exact hc
theorem OwnS.kept {L : Nat} {w w' : World} {v : Value} {xs : List Int} (h : OwnS w L v xs) (k : Kept L w w') : OwnS w' L v xs := by
 obtain ⟨h0, a, cap, rfl, h⟩ := h
 refine ⟨h0, a, cap, rfl, fun hp => ?_⟩
 obtain ⟨g, rfl, hB, hg, hx⟩ := h hp
 exact ⟨g, rfl, hB, Nat.lt_of_lt_of_le hg k.1, fun i hi => ⟨k.cell hB (hx i hi).1, k.frozen hB hg (hx i hi).2⟩⟩
/-- n elements of c cells in a block of their own, not below L. -/
def OwnC (w : World) (L : Nat) (v : Value) (n c : Nat) (F : Nat → Nat → Value) : Prop :=
 n ≤ 9223372036854775807 ∧ ∃ a cap, v = .slice a n cap ∧ (0 < n → ∃ g, a = some ⟨g, 0, none⟩ ∧ L ≤ g ∧ g < w.heap.size ∧ ∀ i, i < n → ∀ j, j < c → w.cell? ⟨g, i * c + j, none⟩ = some (F i j) ∧ w.frozen? ⟨g, i * c + j, none⟩ = false)
theorem OwnC.kept {L n c : Nat} {w w' : World} {v : Value} {F : Nat → Nat → Value} (h : OwnC w L v n c F) (k : Kept L w w') : OwnC w' L v n c F := by
 obtain ⟨h0, a, cap, rfl, h⟩ := h
 refine ⟨h0, a, cap, rfl, fun hp => ?_⟩
 obtain ⟨g, rfl, hB, hg, hx⟩ := h hp
 exact ⟨g, rfl, hB, Nat.lt_of_lt_of_le hg k.1, fun i hi j hj => ⟨k.cell hB (hx i hi j hj).1, k.frozen hB hg (hx i hi j hj).2⟩⟩
theorem OwnC.mono {L M n c : Nat} {w : World} {v : Value} {F : Nat → Nat → Value} (h : OwnC w L v n c F) (hM : M ≤ L) : OwnC w M v n c F := by
 obtain ⟨h0, a, cap, rfl, h⟩ := h
 refine ⟨h0, a, cap, rfl, fun hp => ?_⟩
 obtain ⟨g, rfl, hB, hg, hx⟩ := h hp
 exact ⟨g, rfl, by omega, hg, hx⟩
theorem OwnC.cells {L n c : Nat} {w : World} {v : Value} {F : Nat → Nat → Value} (h : OwnC w L v n c F) : CellS w w.heap.size v n c F := by
 obtain ⟨h0, a, cap, rfl, h⟩ := h
 refine ⟨h0, a, cap, rfl, fun hp => ?_⟩
 obtain ⟨g, rfl, hB, hg, hx⟩ := h hp
 exact ⟨g, 0, rfl, hg, fun i hi j hj => by rw [Nat.zero_add]; exact (hx i hi j hj).1⟩
theorem RowF.own {w : World} {g n c cap L : Nat} {F : Nat → Nat → Value} (h : 0 < n → RowF w g n c n F) (hm : n ≤ 1048576) (hL : L ≤ g) : OwnC w L (.slice (some ⟨g, 0, none⟩) n cap) n c F :=
 ⟨by omega, _, cap, rfl, fun hp => ⟨g, rfl, hL, (h hp).1, fun i hi j hj => ⟨(h hp).2.2 i hi j hj, ((h hp).2.1 _ (mul_in hi hj)).1⟩⟩⟩
def OwnTab (w : World) (L : Nat) (f : Nat → Value) (t : TabD) : Prop := OwnS w L (f 0) t.ss ∧ OwnS w L (f 1) t.ls ∧ OwnS w L (f 2) t.vs
def OwnTabs (w : World) (L : Nat) (v : Value) (ts : List TabD) : Prop := ∃ F, OwnC w L v ts.length 3 F ∧ ∀ i, i < ts.length → OwnTab w L (F i) (tn ts i)
def OwnPins (w : World) (L : Nat) (v : Value) (ps : List PinD) : Prop := ∃ F, OwnC w L v ps.length 4 F ∧ ∀ i, i < ps.length → PinF (F i) (pn ps i)
def OwnArc (w : World) (L : Nat) (f : Nat → Value) (a : ArcD) : Prop := f 0 = .int .i64 a.kind ∧ f 1 = .int .i64 a.src ∧ f 2 = .int .i64 a.dst ∧ f 3 = .int .i64 a.sense ∧ OwnTabs w L (f 4) a.delay ∧ OwnTabs w L (f 5) a.slew
def OwnArcs (w : World) (L : Nat) (v : Value) (aa : List ArcD) : Prop := ∃ F, OwnC w L v aa.length 6 F ∧ ∀ i, i < aa.length → OwnArc w L (F i) (an aa i)
def OwnCell (w : World) (L : Nat) (f : Nat → Value) (c : CellD) : Prop := f 0 = .string c.name ∧ f 1 = .int .i64 c.kind ∧ OwnPins w L (f 2) c.pins ∧ OwnArcs w L (f 3) c.arcs ∧ OwnS w L (f 4) c.truth ∧ f 5 = .int .i64 c.leak ∧ f 6 = .int .i64 c.energy ∧ c.name.size ≤ 9223372036854775807
def OwnCells (w : World) (L : Nat) (v : Value) (cs : List CellD) : Prop := ∃ F, OwnC w L v cs.length 7 F ∧ ∀ i, i < cs.length → OwnCell w L (F i) (cn cs i)
theorem OwnTab.kept {L : Nat} {w w' : World} {f : Nat → Value} {t : TabD} (h : OwnTab w L f t) (k : Kept L w w') : OwnTab w' L f t := ⟨h.1.kept k, h.2.1.kept k, h.2.2.kept k⟩
theorem OwnTab.mono {L M : Nat} {w : World} {f : Nat → Value} {t : TabD} (h : OwnTab w L f t) (k : M ≤ L) : OwnTab w M f t := ⟨h.1.mono k, h.2.1.mono k, h.2.2.mono k⟩
theorem OwnTab.out {L : Nat} {w : World} {f : Nat → Value} {t : TabD} (h : OwnTab w L f t) : TabF w w.heap.size f t := ⟨h.1.ints, h.2.1.ints, h.2.2.ints⟩
theorem OwnTabs.kept {L : Nat} {w w' : World} {v : Value} {ts : List TabD} (h : OwnTabs w L v ts) (k : Kept L w w') : OwnTabs w' L v ts := by
 obtain ⟨F, h0, h1⟩ := h
 exact ⟨F, h0.kept k, fun i hi => (h1 i hi).kept k⟩
theorem OwnTabs.mono {L M : Nat} {w : World} {v : Value} {ts : List TabD} (h : OwnTabs w L v ts) (k : M ≤ L) : OwnTabs w M v ts := by
 obtain ⟨F, h0, h1⟩ := h
 exact ⟨F, h0.mono k, fun i hi => (h1 i hi).mono k⟩
theorem OwnTabs.out {L : Nat} {w : World} {v : Value} {ts : List TabD} (h : OwnTabs w L v ts) : TabsS w w.heap.size v ts := by
 obtain ⟨F, h0, h1⟩ := h
 exact ⟨F, h0.cells, fun i hi => (h1 i hi).out⟩
theorem OwnPins.kept {L : Nat} {w w' : World} {v : Value} {ts : List PinD} (h : OwnPins w L v ts) (k : Kept L w w') : OwnPins w' L v ts := by
 obtain ⟨F, h0, h1⟩ := h
 exact ⟨F, h0.kept k, h1⟩
theorem OwnPins.mono {L M : Nat} {w : World} {v : Value} {ts : List PinD} (h : OwnPins w L v ts) (k : M ≤ L) : OwnPins w M v ts := by
 obtain ⟨F, h0, h1⟩ := h
 exact ⟨F, h0.mono k, h1⟩
theorem OwnPins.out {L : Nat} {w : World} {v : Value} {ts : List PinD} (h : OwnPins w L v ts) : PinsS w w.heap.size v ts := by
 obtain ⟨F, h0, h1⟩ := h
 exact ⟨F, h0.cells, h1⟩
theorem OwnArc.kept {L : Nat} {w w' : World} {f : Nat → Value} {a : ArcD} (h : OwnArc w L f a) (k : Kept L w w') : OwnArc w' L f a := ⟨h.1, h.2.1, h.2.2.1, h.2.2.2.1, h.2.2.2.2.1.kept k, h.2.2.2.2.2.kept k⟩
theorem OwnArc.mono {L M : Nat} {w : World} {f : Nat → Value} {a : ArcD} (h : OwnArc w L f a) (k : M ≤ L) : OwnArc w M f a := ⟨h.1, h.2.1, h.2.2.1, h.2.2.2.1, h.2.2.2.2.1.mono k, h.2.2.2.2.2.mono k⟩
theorem OwnArc.out {L : Nat} {w : World} {f : Nat → Value} {a : ArcD} (h : OwnArc w L f a) : ArcF w w.heap.size f a := ⟨h.1, h.2.1, h.2.2.1, h.2.2.2.1, h.2.2.2.2.1.out, h.2.2.2.2.2.out⟩
theorem OwnArcs.kept {L : Nat} {w w' : World} {v : Value} {ts : List ArcD} (h : OwnArcs w L v ts) (k : Kept L w w') : OwnArcs w' L v ts := by
 obtain ⟨F, h0, h1⟩ := h
 exact ⟨F, h0.kept k, fun i hi => (h1 i hi).kept k⟩
theorem OwnArcs.mono {L M : Nat} {w : World} {v : Value} {ts : List ArcD} (h : OwnArcs w L v ts) (k : M ≤ L) : OwnArcs w M v ts := by
 obtain ⟨F, h0, h1⟩ := h
 exact ⟨F, h0.mono k, fun i hi => (h1 i hi).mono k⟩
theorem OwnArcs.out {L : Nat} {w : World} {v : Value} {ts : List ArcD} (h : OwnArcs w L v ts) : ArcsS w w.heap.size v ts := by
 obtain ⟨F, h0, h1⟩ := h
 exact ⟨F, h0.cells, fun i hi => (h1 i hi).out⟩
theorem OwnCell.kept {L : Nat} {w w' : World} {f : Nat → Value} {a : CellD} (h : OwnCell w L f a) (k : Kept L w w') : OwnCell w' L f a := ⟨h.1, h.2.1, h.2.2.1.kept k, h.2.2.2.1.kept k, h.2.2.2.2.1.kept k, h.2.2.2.2.2⟩
theorem OwnCell.mono {L M : Nat} {w : World} {f : Nat → Value} {a : CellD} (h : OwnCell w L f a) (k : M ≤ L) : OwnCell w M f a := ⟨h.1, h.2.1, h.2.2.1.mono k, h.2.2.2.1.mono k, h.2.2.2.2.1.mono k, h.2.2.2.2.2⟩
theorem OwnCell.out {L : Nat} {w : World} {f : Nat → Value} {a : CellD} (h : OwnCell w L f a) : CellF w w.heap.size f a := ⟨h.1, h.2.1, h.2.2.1.out, h.2.2.2.1.out, h.2.2.2.2.1.ints, h.2.2.2.2.2⟩
theorem OwnCells.out {L : Nat} {w : World} {v : Value} {ts : List CellD} (h : OwnCells w L v ts) : CellsS w w.heap.size v ts := by
 obtain ⟨F, h0, h1⟩ := h
 exact ⟨F, h0.cells, fun i hi => (h1 i hi).out⟩
end Go.Proofs.YtkpfbnffhhmokaaGreat
