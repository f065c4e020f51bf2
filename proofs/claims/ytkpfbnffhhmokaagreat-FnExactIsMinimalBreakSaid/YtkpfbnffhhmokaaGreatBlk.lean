/-
What a block is in memory; the laws' own size, copy and comparison of it; a block that comes in.
-/
import Derived.Test.YtkpfbnffhhmokaaGreatLibS
import Derived.Test.YtkpfbnffhhmokaaGreatOpenW
namespace Go.Proofs.YtkpfbnffhhmokaaGreat
open Go.ChangeShapes Go.WideShapes Go.ChangeAt Go.RowKit Go.Deep Go.Joins
set_option linter.unusedVariables false
set_option linter.unusedSimpArgs false
structure BlkD where
 lib : List CellD
 des : DesD
 wires : List WireD
def BlkF (w : World) (B : Nat) (f : Nat → Value) (z : BlkD) : Prop := CellsS w B (f 0) z.lib ∧ DesF w B (vec [f 1, f 2, f 3]) z.des ∧ WiresS w B (f 4) z.wires
theorem BlkF.keep {w w' : World} {B C : Nat} {f : Nat → Value} {z : BlkD} (h : BlkF w B f z) (hb : Below B w w') (hB : B ≤ C) : BlkF w' C f z :=
 ⟨h.1.keep hb hB, h.2.1.keep hb hB, h.2.2.keep hb hB⟩
theorem BlkF.up {w w' : World} {f : Nat → Value} {z : BlkD} (h : BlkF w w.heap.size f z) (hb : Below w.heap.size w w') : BlkF w' w'.heap.size f z := h.keep hb hb.size
def BlkSm (z : BlkD) : Prop := CellsSm z.lib ∧ DesSm z.des ∧ WiresSm z.wires
def OwnBlk (w : World) (L : Nat) (f : Nat → Value) (z : BlkD) : Prop := OwnCells w L (f 0) z.lib ∧ OwnDes w L (vec [f 1, f 2, f 3]) z.des ∧ OwnWires w L (f 4) z.wires
theorem OwnBlk.kept {L : Nat} {w w' : World} {f : Nat → Value} {z : BlkD} (h : OwnBlk w L f z) (k : Kept L w w') : OwnBlk w' L f z := ⟨h.1.kept k, h.2.1.kept k, h.2.2.kept k⟩
theorem OwnBlk.mono {L M : Nat} {w : World} {f : Nat → Value} {z : BlkD} (h : OwnBlk w L f z) (k : M ≤ L) : OwnBlk w M f z := ⟨h.1.mono k, h.2.1.mono k, h.2.2.mono k⟩
theorem OwnBlk.out {L : Nat} {w : World} {f : Nat → Value} {z : BlkD} (h : OwnBlk w L f z) : BlkF w w.heap.size f z := ⟨h.1.out, h.2.1.out, h.2.2.out⟩
/-- The five cells of a block are slices. -/
theorem BlkF.five {w : World} {B : Nat} {f : Nat → Value} {z : BlkD} (h : BlkF w B f z) : ∃ p0 q0 p1 q1 p2 q2 p3 q3 p4 q4, f 0 = .slice p0 z.lib.length q0 ∧ f 1 = .slice p1 z.des.insts.length q1 ∧ f 2 = .slice p2 z.des.nets.length q2 ∧ f 3 = .slice p3 z.des.ports.length q3 ∧ f 4 = .slice p4 z.wires.length q4 := by
 obtain ⟨p0, q0, e0⟩ := h.1.slice
 obtain ⟨p1, q1, e1⟩ := h.2.1.1.slice
 obtain ⟨p2, q2, e2⟩ := h.2.1.2.1.slice
 obtain ⟨p3, q3, e3⟩ := h.2.1.2.2.slice
 obtain ⟨p4, q4, e4⟩ := h.2.2.slice
 exact ⟨p0, q0, p1, q1, p2, q2, p3, q3, p4, q4, e0, e1, e2, e3, e4⟩
def ToBlk (z : BlkD) (w : World) (e : Ending) (w' : World) : Prop := ∃ u0 u1 u2 u3 u4 : Value, e = .returned (.agg #[u0, u1, u2, u3, u4]) ∧ OwnBlk w' w.heap.size (vec [u0, u1, u2, u3, u4]) z ∧ Below w.heap.size w w'
set_option maxHeartbeats 2000000 in
theorem toBlk_any (f : Nat → Value) (z : BlkD) (w : World) (h : BlkF w w.heap.size f z) (hm : BlkSm z) : Calls Tryz.prog 11 #[.agg #[f 0, f 1, f 2, f 3, f 4]] w (ToBlk z w) := by
 obtain ⟨x0, x1, x2⟩ := h
 obtain ⟨v0, v1, v2, v3, v4, e0, e1, e2, e3, e4⟩ : ∃ v0 v1 v2 v3 v4, f 0 = v0 ∧ f 1 = v1 ∧ f 2 = v2 ∧ f 3 = v3 ∧ f 4 = v4 := ⟨_, _, _, _, _, rfl, rfl, rfl, rfl, rfl⟩
 rw [e0] at x0; rw [e1, e2, e3] at x1; rw [e4] at x2
 rw [e0, e1, e2, e3, e4]
 have H0 := lh x0; have H1 := lh x1; have H2 := lh x2
 have HM := lh hm
 clear x0 x1 x2 e0 e1 e2 e3 e4 hm
 go_enter Tryz.func11, Tryz.ntmps11
 go_wp2_with fail
 (go_at_call 33; refine (toLibrary_any v0 z.lib _ (H0.out.up eX) HM.out.1).mono ?_; rintro e w0 ⟨u0, rfl, hu0, hb⟩; have ⟨hc, hf⟩ := bcell hb; have hz := hb.size; (try simp at hz); (try have hz := Nat.lt_of_succ_le hz); (try have y0 := wy w w0); (try have z0 := wz0 w w0); (try have z1 := wz1 w w0); (try have z2 := wz2 w w0); (try have z3 := wz3 w w0); (try have z4 := wz4 w w0))
 have hb0 := hb
 have U0 := lh hu0
 obtain ⟨p0, q0, rfl⟩ := hu0.slice
 clear hu0
 go_wp2_with fail
 (go_at_call 34; refine (toDes_any (vec [v1, v2, v3]) z.des _ (H1.out.up eX) HM.out.2.1).mono ?_; rintro e w1 ⟨u1, u2, u3, rfl, hu1, hb⟩; have ⟨hc, hf⟩ := bcell hb; have hz := hb.size; (try simp at hz); (try have hz := Nat.lt_of_succ_le hz); (try have y0 := wy w w1); (try have z0 := wz0 w w1); (try have z1 := wz1 w w1); (try have z2 := wz2 w w1); (try have z3 := wz3 w w1); (try have z4 := wz4 w w1))
 have hb1 := hb
 obtain ⟨p1, q1, rfl⟩ := hu1.1.slice; obtain ⟨p2, q2, rfl⟩ := hu1.2.1.slice; obtain ⟨p3, q3, rfl⟩ := hu1.2.2.slice
 have U1 := lh (show OwnDes w1 _ (vec [.slice p1 z.des.insts.length q1, .slice p2 z.des.nets.length q2, .slice p3 z.des.ports.length q3]) z.des from hu1)
 clear hu1
 go_wp2_with fail
 (go_at_call 35; refine (toWires_any v4 z.wires _ (H2.out.up eX) HM.out.2.2).mono ?_; rintro e w2 ⟨u4, rfl, hu4, hb⟩; have ⟨hc, hf⟩ := bcell hb; have hz := hb.size; (try simp at hz); (try have hz := Nat.lt_of_succ_le hz); (try have y0 := wy w w2); (try have z0 := wz0 w w2); (try have z1 := wz1 w w2); (try have z2 := wz2 w w2); (try have z3 := wz3 w w2); (try have z4 := wz4 w w2))
 have hb2 := hb
 have U2 := lh hu4
 obtain ⟨p4, q4, rfl⟩ := hu4.slice
 clear hu4
 go_wp2_with fail
 have q0' := U0.out.mono (M := w.heap.size + 1 + 1 + 1) (by first | (simp; done) | (simp; omega) | (simp [World.setCell]; omega))
 have q1' := U1.out.mono (M := w.heap.size + 1 + 1 + 1) (by first | (simp; done) | (simp; omega) | (simp [World.setCell]; omega))
 have q2' := U2.out.mono (M := w.heap.size + 1 + 1 + 1) (by first | (simp; done) | (simp; omega) | (simp [World.setCell]; omega))
 exact bodyPost_ret (v := .agg #[.slice p0 z.lib.length q0, .slice p1 z.des.insts.length q1, .slice p2 z.des.nets.length q2, .slice p3 z.des.ports.length q3, .slice p4 z.wires.length q4]) (by simp [results, Tryz.results11, go_sem, *]) rfl
  ⟨_, _, _, _, _, rfl, ⟨OwnCells.mono (L := w.heap.size + 1 + 1 + 1) (q0'.kept (by (repeat (first | (with_reducible exact Kept.refl _ _) | (with_reducible assumption) | (with_reducible refine Kept.alloc ?_ _) | (with_reducible refine Kept.drew ?_) | (with_reducible refine Kept.drewN ?_ _) | (with_reducible refine Kept.set ?_ (by first | omega | (simp; omega) | simp) _) | (with_reducible refine Kept.call ?_ (by assumption)))))) (by omega), OwnDes.mono (L := w.heap.size + 1 + 1 + 1) (q1'.kept (by (repeat (first | (with_reducible exact Kept.refl _ _) | (with_reducible assumption) | (with_reducible refine Kept.alloc ?_ _) | (with_reducible refine Kept.drew ?_) | (with_reducible refine Kept.drewN ?_ _) | (with_reducible refine Kept.set ?_ (by first | omega | (simp; omega) | simp) _) | (with_reducible refine Kept.call ?_ (by assumption)))))) (by omega), OwnWires.mono (L := w.heap.size + 1 + 1 + 1) (q2'.kept (by (repeat (first | (with_reducible exact Kept.refl _ _) | (with_reducible assumption) | (with_reducible refine Kept.alloc ?_ _) | (with_reducible refine Kept.drew ?_) | (with_reducible refine Kept.drewN ?_ _) | (with_reducible refine Kept.set ?_ (by first | omega | (simp; omega) | simp) _) | (with_reducible refine Kept.call ?_ (by assumption)))))) (by omega)⟩, eX⟩
set_option maxHeartbeats 1000000 in
theorem eqBlk_same (f g : Nat → Value) (z : BlkD) (w : World) (h : BlkF w w.heap.size f z) (h' : BlkF w w.heap.size g z) : Calls Tryz.prog 15 #[.agg #[f 0, f 1, f 2, f 3, f 4], .agg #[g 0, g 1, g 2, g 3, g 4]] w fun e w' => e = .returned (.bool true) ∧ Below w.heap.size w w' := by
 obtain ⟨p0, q0, p1, q1, p2, q2, p3, q3, p4, q4, e0, e1, e2, e3, e4⟩ := h.five
 obtain ⟨r0, s0, r1, s1, r2, s2, r3, s3, r4, s4, g0, g1, g2, g3, g4⟩ := h'.five
 obtain ⟨x0, x1, x2⟩ := h
 obtain ⟨z0, z1, z2⟩ := h'
 rw [e0] at x0; rw [g0] at z0; rw [e1, e2, e3] at x1; rw [g1, g2, g3] at z1; rw [e4] at x2; rw [g4] at z2
 rw [e0, g0, e1, g1, e2, g2, e3, g3, e4, g4]
 have X0 := lh x0; have Z0 := lh z0; have X1 := lh x1; have Z1 := lh z1; have X2 := lh x2; have Z2 := lh z2
 clear e0 g0 e1 g1 e2 g2 e3 g3 e4 g4 x0 z0 x1 z1 x2 z2
 go_enter Tryz.func15, Tryz.ntmps15
 go_wp2_with (first | (go_at_call 39; refine (eqLibrary_same _ _ _ _ (X0.out.up eX) (Z0.out.up eX)).mono ?_; rintro e w1 ⟨rfl, hb⟩; have ⟨hc, hf⟩ := bcell hb; have hz := hb.size; (try simp at hz); (try have hz := Nat.lt_of_succ_le hz); (try have y0 := wy w w1); (try have z0 := wz0 w w1); (try have z1 := wz1 w w1); (try have z2 := wz2 w w1); (try have z3 := wz3 w w1); (try have z4 := wz4 w w1); (try have x0 := wz0 wc w1); (try have x1 := wy wc w1)) | (go_at_call 40; refine (eqDes_same (vec [.slice p1 z.des.insts.length q1, .slice p2 z.des.nets.length q2, .slice p3 z.des.ports.length q3]) (vec [.slice r1 z.des.insts.length s1, .slice r2 z.des.nets.length s2, .slice r3 z.des.ports.length s3]) z.des _ (X1.out.up eX) (Z1.out.up eX)).mono ?_; rintro e w1 ⟨rfl, hb⟩; have ⟨hc, hf⟩ := bcell hb; have hz := hb.size; (try simp at hz); (try have hz := Nat.lt_of_succ_le hz); (try have y0 := wy w w1); (try have z0 := wz0 w w1); (try have z1 := wz1 w w1); (try have z2 := wz2 w w1); (try have z3 := wz3 w w1); (try have z4 := wz4 w w1); (try have x0 := wz0 wc w1); (try have x1 := wy wc w1)) | (go_at_call 41; refine (eqWires_same _ _ _ _ (X2.out.up eX) (Z2.out.up eX)).mono ?_; rintro e w1 ⟨rfl, hb⟩; have ⟨hc, hf⟩ := bcell hb; have hz := hb.size; (try simp at hz); (try have hz := Nat.lt_of_succ_le hz); (try have y0 := wy w w1); (try have z0 := wz0 w w1); (try have z1 := wz1 w w1); (try have z2 := wz2 w w1); (try have z3 := wz3 w w1); (try have z4 := wz4 w w1); (try have x0 := wz0 wc w1); (try have x1 := wy wc w1)))
 go_ret
 exact ⟨rfl, eX⟩
section
variable {H : Type} {enc : TypeId × Value → H} {W : World}
theorem Tryz.openDes {fuel : Nat} {v0 v1 v2 : Value} {x : DataW H × List MemPlace} (h : DataW.trod enc Tryz.prog W 0 (fun _ => true) true fuel 29 [v0, v1, v2] = some x) : ∃ c, DesF W W.heap.size (vec [v0, v1, v2]) c := by
 obtain ⟨ys, n', _, _, _, hyl, hff⟩ := DataW.trod_struct Tryz.underlying29 h
 have g0 := hff 0 _ rfl; have g1 := hff 1 _ rfl; have g2 := hff 2 _ rfl
 have k0 : Tryz.prog.cellsOf 25 = 1 := by kernel_rfl
 have k1 : Tryz.prog.cellsOf 26 = 1 := by kernel_rfl
 have k2 : Tryz.prog.cellsOf 27 = 1 := by kernel_rfl
 have at_ : ∀ j, j < 3 → ∃ y, ys[j]? = some y := fun j hj => ⟨ys[j]'(by have : ys.length = 3 := hyl; omega), List.getElem?_eq_getElem _⟩
 obtain ⟨y0, h0⟩ := at_ 0 (by omega); obtain ⟨y1, h1⟩ := at_ 1 (by omega); obtain ⟨y2, h2⟩ := at_ 2 (by omega)
 rw [h0] at g0; rw [h1] at g1; rw [h2] at g2
 obtain ⟨is, b0⟩ := Tryz.openInsts (c0 := v0) (by simpa [k0] using g0)
 obtain ⟨us, b1⟩ := Tryz.openTx (c0 := v1) (by simpa [k1] using g1)
 obtain ⟨ps, b2⟩ := Tryz.openPorts (c0 := v2) (by simpa [k2] using g2)
 exact ⟨⟨is, us, ps⟩, b0, b1, b2⟩
theorem Tryz.openLib {fuel : Nat} {v0 : Value} {x : DataW H × List MemPlace} (h : DataW.trod enc Tryz.prog W 0 (fun _ => true) true fuel 24 [v0] = some x) : ∃ c, CellsS W W.heap.size v0 c := by
 obtain ⟨ys, n', _, _, _, hyl, hff⟩ := DataW.trod_struct Tryz.underlying24 h
 have g0 := hff 0 _ rfl
 have k0 : Tryz.prog.cellsOf 22 = 1 := by kernel_rfl
 have at_ : ∀ j, j < 1 → ∃ y, ys[j]? = some y := fun j hj => ⟨ys[j]'(by have : ys.length = 1 := hyl; omega), List.getElem?_eq_getElem _⟩
 obtain ⟨y0, h0⟩ := at_ 0 (by omega)
 rw [h0] at g0
 exact Tryz.openCells (c0 := v0) (by simpa [k0] using g0)
set_option maxRecDepth 100000 in
/-- A block that came in. -/
theorem Tryz.openBlock {base : Nat} {v : Value} {d : DataW H} {p : List MemPlace} (hv : Value.okWide Tryz.prog W .any base 32 v) (h : DataW.Trod enc Tryz.prog W 0 (fun _ => true) true 32 v d p) :
  ∃ f c, v = .agg #[f 0, f 1, f 2, f 3, f 4] ∧ BlkF W W.heap.size f c := by
 obtain ⟨cs, rfl, hsz⟩ := okWide_struct Tryz.underlying32 hv
 have hc5 : Tryz.prog.cellsOf 32 = 5 := by kernel_rfl
 rw [hc5] at hsz
 obtain ⟨fuel, hf⟩ := h
 obtain ⟨ys, n', _, _, _, hyl, hff⟩ := DataW.trod_struct Tryz.underlying32 hf
 obtain ⟨l⟩ := cs
 match l, hsz with
 | [v0, v1, v2, v3, v4], _ =>
  have g0 := hff 0 _ rfl; have g1 := hff 1 _ rfl; have g2 := hff 2 _ rfl
  have k0 : Tryz.prog.cellsOf 24 = 1 := by kernel_rfl
  have k1 : Tryz.prog.cellsOf 29 = 3 := by kernel_rfl
  have k2 : Tryz.prog.cellsOf 30 = 1 := by kernel_rfl
  simp only [Value.cells] at g0 g1 g2
  have at_ : ∀ j, j < 3 → ∃ y, ys[j]? = some y := fun j hj => ⟨ys[j]'(by have : ys.length = 3 := hyl; omega), List.getElem?_eq_getElem _⟩
  obtain ⟨y0, h0⟩ := at_ 0 (by omega); obtain ⟨y1, h1⟩ := at_ 1 (by omega); obtain ⟨y2, h2⟩ := at_ 2 (by omega)
  rw [h0] at g0; rw [h1] at g1; rw [h2] at g2
  obtain ⟨is, b0⟩ := Tryz.openLib (v0 := v0) (by simpa [k0] using g0)
  obtain ⟨us, b1⟩ := Tryz.openDes (v0 := v1) (v1 := v2) (v2 := v3) (by simpa [k1] using g1)
  obtain ⟨ps, b2⟩ := Tryz.openWires (c0 := v4) (by simpa [k2] using g2)
  exact ⟨fun j => [v0, v1, v2, v3, v4].getD j (.bool false), ⟨is, us, ps⟩, rfl, b0, b1, b2⟩
end
end Go.Proofs.YtkpfbnffhhmokaaGreat
