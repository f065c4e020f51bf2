/-
What Instance, Port, Design are in memory; the laws' own sizes, copies and comparisons of them.
-/
import Derived.Test.YtohlajoaheaplaaDoorCellE
namespace Go.Proofs.YtohlajoaheaplaaDoor
open Go.ChangeShapes Go.WideShapes Go.ChangeAt Go.RowKit Go.Deep
set_option linter.unusedVariables false
set_option linter.unusedSimpArgs false
set_option maxRecDepth 100000
theorem all_next {P : Nat → Prop} {k : Nat} (h : ∀ j, j < k → P j) (hk : P k) : ∀ j, j < k + 1 → P j := fun j hj => by
  rcases Nat.lt_or_ge j k with e | e
  · exact h j e
  · obtain rfl : j = k := by omega
    exact hk

/-! Lists of strings. -/
def sn (us : List ByteArray) (i : Nat) : ByteArray := us.getD i .empty
def TxS (w : World) (B : Nat) (v : Value) (us : List ByteArray) : Prop := (∃ F, CellS w B v us.length 1 F ∧ ∀ i, i < us.length → F i 0 = .string (sn us i)) ∧ ∀ i, i < us.length → (sn us i).size ≤ 9223372036854775807
theorem TxS.keep {w w' : World} {B C : Nat} {v : Value} {us : List ByteArray} (h : TxS w B v us) (hb : Below B w w') (hB : B ≤ C) : TxS w' C v us := by
  obtain ⟨⟨F, h0, h1⟩, h2⟩ := h
  exact ⟨⟨F, h0.keep hb hB, h1⟩, h2⟩
theorem TxS.up {w w' : World} {v : Value} {us : List ByteArray} (h : TxS w w.heap.size v us) (hb : Below w.heap.size w w') : TxS w' w'.heap.size v us := h.keep hb hb.size
theorem TxS.len {w : World} {L : Nat} {v : Value} {us : List ByteArray} (h : TxS w L v us) : us.length ≤ 9223372036854775807 := by
  obtain ⟨⟨F, ⟨h0, _⟩, _⟩, _⟩ := h
  exact h0
theorem TxS.slice {w : World} {L : Nat} {v : Value} {us : List ByteArray} (h : TxS w L v us) : ∃ p q, v = .slice p us.length q := by
  obtain ⟨⟨F, ⟨_, a, cap, rfl, _⟩, _⟩, _⟩ := h
  exact ⟨_, _, rfl⟩
/-- One string of a list that stands as it was. -/
theorem TxS.at {w wr : World} {a : Option Addr} {cap k : Nat} {us : List ByteArray} (h : TxS w w.heap.size (.slice a us.length cap) us) (hb : Below w.heap.size w wr) (hk : k < us.length) :
    ∃ b off, a = some ⟨b, off, none⟩ ∧ b < w.heap.size ∧ wr.cell? ⟨b, off + k, none⟩ = some (.string (sn us k)) := by
  obtain ⟨⟨F, hc, hf⟩, _⟩ := h
  obtain ⟨b, off, rfl, hlt, hx⟩ := hc.at hb hk
  have h1 := hx 0 (by omega)
  rw [hf k hk] at h1
  exact ⟨b, off, rfl, hlt, by simpa using h1⟩
def TxSm (us : List ByteArray) : Prop := us.length ≤ 1048576
def OwnTx (w : World) (L : Nat) (v : Value) (us : List ByteArray) : Prop := (∃ F, OwnC w L v us.length 1 F ∧ ∀ i, i < us.length → F i 0 = .string (sn us i)) ∧ ∀ i, i < us.length → (sn us i).size ≤ 9223372036854775807
theorem OwnTx.kept {L : Nat} {w w' : World} {v : Value} {us : List ByteArray} (h : OwnTx w L v us) (k : Kept L w w') : OwnTx w' L v us := by
  obtain ⟨⟨F, h0, h1⟩, h2⟩ := h
  exact ⟨⟨F, h0.kept k, h1⟩, h2⟩
theorem OwnTx.mono {L M : Nat} {w : World} {v : Value} {us : List ByteArray} (h : OwnTx w L v us) (k : M ≤ L) : OwnTx w M v us := by
  obtain ⟨⟨F, h0, h1⟩, h2⟩ := h
  exact ⟨⟨F, h0.mono k, h1⟩, h2⟩
theorem OwnTx.out {L : Nat} {w : World} {v : Value} {us : List ByteArray} (h : OwnTx w L v us) : TxS w w.heap.size v us := by
  obtain ⟨⟨F, h0, h1⟩, h2⟩ := h
  exact ⟨⟨F, h0.cells, h1⟩, h2⟩
theorem OwnTx.slice {w : World} {L : Nat} {v : Value} {us : List ByteArray} (h : OwnTx w L v us) : ∃ p q, v = .slice p us.length q := h.out.slice

/-! Instance. -/
structure InstD where
  name : ByteArray
  cell : Int
  nets : List Int
def inn (xs : List InstD) (i : Nat) : InstD := xs.getD i ⟨.empty, 0, []⟩
def InstF (w : World) (B : Nat) (f : Nat → Value) (p : InstD) : Prop := f 0 = .string p.name ∧ f 1 = .int .i64 p.cell ∧ IntS w B (f 2) p.nets ∧ p.name.size ≤ 9223372036854775807
theorem InstF.keep {w w' : World} {B C : Nat} {f : Nat → Value} {p : InstD} (h : InstF w B f p) (hb : Below B w w') (hB : B ≤ C) : InstF w' C f p :=
  ⟨h.1, h.2.1, h.2.2.1.keep hb hB, h.2.2.2⟩
theorem InstF.up {w w' : World} {f : Nat → Value} {p : InstD} (h : InstF w w.heap.size f p) (hb : Below w.heap.size w w') : InstF w' w'.heap.size f p := h.keep hb hb.size
def InstSm (p : InstD) : Prop := p.nets.length ≤ 1048576
def OwnInst (w : World) (L : Nat) (f : Nat → Value) (p : InstD) : Prop := f 0 = .string p.name ∧ f 1 = .int .i64 p.cell ∧ OwnS w L (f 2) p.nets ∧ p.name.size ≤ 9223372036854775807
theorem OwnInst.kept {L : Nat} {w w' : World} {f : Nat → Value} {p : InstD} (h : OwnInst w L f p) (k : Kept L w w') : OwnInst w' L f p :=
  ⟨h.1, h.2.1, h.2.2.1.kept k, h.2.2.2⟩
theorem OwnInst.mono {L M : Nat} {w : World} {f : Nat → Value} {p : InstD} (h : OwnInst w L f p) (k : M ≤ L) : OwnInst w M f p :=
  ⟨h.1, h.2.1, h.2.2.1.mono k, h.2.2.2⟩
theorem OwnInst.out {L : Nat} {w : World} {f : Nat → Value} {p : InstD} (h : OwnInst w L f p) : InstF w w.heap.size f p :=
  ⟨h.1, h.2.1, h.2.2.1.ints, h.2.2.2⟩
def InstsS (w : World) (B : Nat) (v : Value) (ps : List InstD) : Prop := ∃ F, CellS w B v ps.length 3 F ∧ ∀ i, i < ps.length → InstF w B (F i) (inn ps i)
theorem InstsS.keep {w w' : World} {B C : Nat} {v : Value} {ps : List InstD} (h : InstsS w B v ps) (hb : Below B w w') (hB : B ≤ C) : InstsS w' C v ps := by
  obtain ⟨F, h0, h1⟩ := h
  exact ⟨F, h0.keep hb hB, fun i hi => (h1 i hi).keep hb hB⟩
theorem InstsS.up {w w' : World} {v : Value} {ps : List InstD} (h : InstsS w w.heap.size v ps) (hb : Below w.heap.size w w') : InstsS w' w'.heap.size v ps := h.keep hb hb.size
theorem InstsS.slice {w : World} {L : Nat} {v : Value} {ps : List InstD} (h : InstsS w L v ps) : ∃ p q, v = .slice p ps.length q := by
  obtain ⟨F, ⟨_, a, cap, rfl, _⟩, _⟩ := h
  exact ⟨_, _, rfl⟩
def InstsSm (ps : List InstD) : Prop := ps.length ≤ 1048576 ∧ ∀ i, i < ps.length → InstSm (inn ps i)
def OwnInsts (w : World) (L : Nat) (v : Value) (ps : List InstD) : Prop := ∃ F, OwnC w L v ps.length 3 F ∧ ∀ i, i < ps.length → OwnInst w L (F i) (inn ps i)
theorem OwnInsts.kept {L : Nat} {w w' : World} {v : Value} {ps : List InstD} (h : OwnInsts w L v ps) (k : Kept L w w') : OwnInsts w' L v ps := by
  obtain ⟨F, h0, h1⟩ := h
  exact ⟨F, h0.kept k, fun i hi => (h1 i hi).kept k⟩
theorem OwnInsts.mono {L M : Nat} {w : World} {v : Value} {ps : List InstD} (h : OwnInsts w L v ps) (k : M ≤ L) : OwnInsts w M v ps := by
  obtain ⟨F, h0, h1⟩ := h
  exact ⟨F, h0.mono k, fun i hi => (h1 i hi).mono k⟩
theorem OwnInsts.out {L : Nat} {w : World} {v : Value} {ps : List InstD} (h : OwnInsts w L v ps) : InstsS w w.heap.size v ps := by
  obtain ⟨F, h0, h1⟩ := h
  exact ⟨F, h0.cells, fun i hi => (h1 i hi).out⟩
theorem OwnInsts.slice {w : World} {L : Nat} {v : Value} {ps : List InstD} (h : OwnInsts w L v ps) : ∃ p q, v = .slice p ps.length q := h.out.slice

/-! Port. -/
structure PortD where
  name : ByteArray
  dir : Int
  net : Int
def ptn (xs : List PortD) (i : Nat) : PortD := xs.getD i ⟨.empty, 0, 0⟩
def PortF (f : Nat → Value) (p : PortD) : Prop := f 0 = .string p.name ∧ f 1 = .int .i64 p.dir ∧ f 2 = .int .i64 p.net ∧ p.name.size ≤ 9223372036854775807
def PortSm (p : PortD) : Prop := True
def PortsS (w : World) (B : Nat) (v : Value) (ps : List PortD) : Prop := ∃ F, CellS w B v ps.length 3 F ∧ ∀ i, i < ps.length → PortF (F i) (ptn ps i)
theorem PortsS.keep {w w' : World} {B C : Nat} {v : Value} {ps : List PortD} (h : PortsS w B v ps) (hb : Below B w w') (hB : B ≤ C) : PortsS w' C v ps := by
  obtain ⟨F, h0, h1⟩ := h
  exact ⟨F, h0.keep hb hB, h1⟩
theorem PortsS.up {w w' : World} {v : Value} {ps : List PortD} (h : PortsS w w.heap.size v ps) (hb : Below w.heap.size w w') : PortsS w' w'.heap.size v ps := h.keep hb hb.size
theorem PortsS.slice {w : World} {L : Nat} {v : Value} {ps : List PortD} (h : PortsS w L v ps) : ∃ p q, v = .slice p ps.length q := by
  obtain ⟨F, ⟨_, a, cap, rfl, _⟩, _⟩ := h
  exact ⟨_, _, rfl⟩
def PortsSm (ps : List PortD) : Prop := ps.length ≤ 1048576
def OwnPorts (w : World) (L : Nat) (v : Value) (ps : List PortD) : Prop := ∃ F, OwnC w L v ps.length 3 F ∧ ∀ i, i < ps.length → PortF (F i) (ptn ps i)
theorem OwnPorts.kept {L : Nat} {w w' : World} {v : Value} {ps : List PortD} (h : OwnPorts w L v ps) (k : Kept L w w') : OwnPorts w' L v ps := by
  obtain ⟨F, h0, h1⟩ := h
  exact ⟨F, h0.kept k, h1⟩
theorem OwnPorts.mono {L M : Nat} {w : World} {v : Value} {ps : List PortD} (h : OwnPorts w L v ps) (k : M ≤ L) : OwnPorts w M v ps := by
  obtain ⟨F, h0, h1⟩ := h
  exact ⟨F, h0.mono k, h1⟩
theorem OwnPorts.out {L : Nat} {w : World} {v : Value} {ps : List PortD} (h : OwnPorts w L v ps) : PortsS w w.heap.size v ps := by
  obtain ⟨F, h0, h1⟩ := h
  exact ⟨F, h0.cells, h1⟩
theorem OwnPorts.slice {w : World} {L : Nat} {v : Value} {ps : List PortD} (h : OwnPorts w L v ps) : ∃ p q, v = .slice p ps.length q := h.out.slice

/-! Design. -/
structure DesD where
  insts : List InstD
  nets : List ByteArray
  ports : List PortD
def DesF (w : World) (B : Nat) (f : Nat → Value) (p : DesD) : Prop := InstsS w B (f 0) p.insts ∧ TxS w B (f 1) p.nets ∧ PortsS w B (f 2) p.ports
theorem DesF.keep {w w' : World} {B C : Nat} {f : Nat → Value} {p : DesD} (h : DesF w B f p) (hb : Below B w w') (hB : B ≤ C) : DesF w' C f p :=
  ⟨h.1.keep hb hB, h.2.1.keep hb hB, h.2.2.keep hb hB⟩
theorem DesF.up {w w' : World} {f : Nat → Value} {p : DesD} (h : DesF w w.heap.size f p) (hb : Below w.heap.size w w') : DesF w' w'.heap.size f p := h.keep hb hb.size
def DesSm (p : DesD) : Prop := InstsSm p.insts ∧ TxSm p.nets ∧ PortsSm p.ports
def OwnDes (w : World) (L : Nat) (f : Nat → Value) (p : DesD) : Prop := OwnInsts w L (f 0) p.insts ∧ OwnTx w L (f 1) p.nets ∧ OwnPorts w L (f 2) p.ports
theorem OwnDes.kept {L : Nat} {w w' : World} {f : Nat → Value} {p : DesD} (h : OwnDes w L f p) (k : Kept L w w') : OwnDes w' L f p :=
  ⟨h.1.kept k, h.2.1.kept k, h.2.2.kept k⟩
theorem OwnDes.mono {L M : Nat} {w : World} {f : Nat → Value} {p : DesD} (h : OwnDes w L f p) (k : M ≤ L) : OwnDes w M f p :=
  ⟨h.1.mono k, h.2.1.mono k, h.2.2.mono k⟩
theorem OwnDes.out {L : Nat} {w : World} {f : Nat → Value} {p : DesD} (h : OwnDes w L f p) : DesF w w.heap.size f p :=
  ⟨h.1.out, h.2.1.out, h.2.2.out⟩
end Go.Proofs.YtohlajoaheaplaaDoor
