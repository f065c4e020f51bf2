/-
The laws' own marks on a list, a table, a pin, an arc and a cell that came as copies: they write only into the memory of the copy.
-/
import Derived.Test.YtkpfbnffhhmokaaGreatCellT
import Derived.Test.YtkpfbnffhhmokaaGreatTabL
import Derived.Test.YtkpfbnffhhmokaaGreatNum
import Derived.Test.YtkpfbnffhhmokaaGreatSzW
namespace Go.Proofs.YtkpfbnffhhmokaaGreat
open Go.ChangeShapes Go.WideShapes Go.ChangeAt Go.RowKit
set_option linter.unusedVariables false
set_option linter.unusedSimpArgs false
def isSl : Value → Bool
 | .slice .. => true
 | _ => false
/-- Of what was there, only cells that hold no slice may have changed, in the blocks from L on and below R. -/
structure Sk (L R : Nat) (w w' : World) : Prop where
 os : w'.os = w.os
 tape : w'.tape = w.tape
 output : w'.output = w.output
 size : w.heap.size ≤ w'.heap.size
 block : ∀ k, k < w.heap.size → (k < L ∨ R ≤ k) → w'.heap[k]? = w.heap[k]?
 cell : ∀ g o v, w.cell? ⟨g, o, none⟩ = some v → ∃ v', w'.cell? ⟨g, o, none⟩ = some v' ∧ isSl v' = isSl v ∧ (isSl v = true → v' = v)
 froz : ∀ g o, g < w.heap.size → w'.frozen? ⟨g, o, none⟩ = w.frozen? ⟨g, o, none⟩
theorem Sk.refl (L R : Nat) (w : World) : Sk L R w w := ⟨rfl, rfl, rfl, Nat.le_refl _, fun _ _ _ => rfl, fun _ _ v h => ⟨v, h, rfl, fun _ => rfl⟩, fun _ _ _ => rfl⟩
theorem Sk.trans {L R : Nat} {a b c : World} (h : Sk L R a b) (k : Sk L R b c) : Sk L R a c := by
 refine ⟨k.os.trans h.os, k.tape.trans h.tape, k.output.trans h.output, Nat.le_trans h.size k.size, fun i hi hs => (k.block i (Nat.lt_of_lt_of_le hi h.size) hs).trans (h.block i hi hs), fun g o v hv => ?_, fun g o hg => (k.froz g o (Nat.lt_of_lt_of_le hg h.size)).trans (h.froz g o hg)⟩
 obtain ⟨v1, h1, e1, f1⟩ := h.cell g o v hv
 obtain ⟨v2, h2, e2, f2⟩ := k.cell g o v1 h1
 exact ⟨v2, h2, e2.trans e1, fun hs => (f2 (e1.trans hs)).trans (f1 hs)⟩
theorem Sk.below {L R : Nat} {a b : World} (h : Below a.heap.size a b) : Sk L R a b :=
 ⟨h.os, h.tape, h.output, h.size, fun k hk _ => h.block k hk, fun g o v hv => ⟨v, cell_keep hv h, rfl, fun _ => rfl⟩, fun g o hg => h.frozen (by exact hg)⟩
theorem Sk.call {L R : Nat} {a b c : World} (h : Sk L R a b) (k : Below b.heap.size b c) : Sk L R a c := h.trans (Sk.below k)
theorem Sk.drewN {L R : Nat} {a b : World} (h : Sk L R a b) (n : Nat) : Sk L R a (b.drewN n) := h.call (ext_drewN (Below.refl _ _) n)
theorem Sk.set {L R : Nat} {a b : World} {g o : Nat} {v u : Value} (h : Sk L R a b) (hc : b.cell? ⟨g, o, none⟩ = some v) (hv : isSl v = false) (hu : isSl u = false) (hL : L ≤ g) (hR : g < R) : Sk L R a (b.setCell ⟨g, o, none⟩ u) := by
 have s := (Below.refl g b).setCell (p := ⟨g, o, none⟩) (Nat.le_refl _) u
 refine h.trans ⟨s.os, s.tape, s.output, s.size, fun k hk hs => Below.heap_setCell _ _ _ _ (fun e => by have e' : k = g := (by first | exact e | exact e.symm); rcases hs with hs | hs <;> omega), fun g' o' v' hv' => ?_, fun g' o' hg' => by simp⟩
 by_cases e : g' = g ∧ o' = o
 ·obtain ⟨rfl, rfl⟩ := e
  rw [hc] at hv'
  injection hv' with hv'
  subst hv'
  exact ⟨u, World.cell?_setCell_same _ _ _ hc, by rw [hu, hv], fun hs => by rw [hv] at hs; cases hs⟩
 ·refine ⟨v', ?_, rfl, fun _ => rfl⟩
  rw [World.cell?_setCell_other _ _ _ _ (fun hx => e (by injection hx with h1 h2; exact ⟨h1.symm, h2.symm⟩))]
  exact hv'
/-- What stands outside the marked blocks. -/
theorem Sk.out {L R B : Nat} {a b : World} (h : Sk L R a b) (hB : B ≤ L) (hS : B ≤ a.heap.size) : Below B a b :=
 ⟨h.os, h.tape, h.output, h.size, fun k hk => h.block k (by omega) (.inl (by omega))⟩
theorem Sk.keepC {L R g o : Nat} {a b : World} {v : Value} (h : Sk L R a b) (hc : a.cell? ⟨g, o, none⟩ = some v) (hg : g < L ∨ R ≤ g) : b.cell? ⟨g, o, none⟩ = some v := by
 rw [World.cell?_of_block (w := a) (a := ⟨g, o, none⟩) (h.block g (cell_lt hc) hg)]; exact hc
theorem IntS.sk {L R B : Nat} {a b : World} {v : Value} {xs : List Int} (h : IntS a B v xs) (hs : Sk L R a b) (hB : B ≤ L) (hS : B ≤ a.heap.size) : IntS b B v xs := h.keep (hs.out hB hS) (Nat.le_refl _)
theorem OwnS.sk {L R B : Nat} {a b : World} {v : Value} {xs : List Int} (h : OwnS a B v xs) (hs : Sk L R a b) (hB : R ≤ B) : OwnS b B v xs := by
 obtain ⟨h0, p, cap, rfl, h⟩ := h
 refine ⟨h0, p, cap, rfl, fun hp => ?_⟩
 obtain ⟨g, rfl, hg, hl, hx⟩ := h hp
 exact ⟨g, rfl, hg, Nat.lt_of_lt_of_le hl hs.size, fun i hi => ⟨hs.keepC (hx i hi).1 (.inr (by omega)), (hs.froz g i hl).trans (hx i hi).2⟩⟩
theorem sk4 {L R : Nat} {a b : World} {g o : Nat} {v0 v1 v2 v3 u0' u1' u2' u3' : Value} (h : Sk L R a b) (y0 : b.cell? ⟨g, o, none⟩ = some v0) (y1 : b.cell? ⟨g, o + 1, none⟩ = some v1) (y2 : b.cell? ⟨g, o + 2, none⟩ = some v2) (y3 : b.cell? ⟨g, o + 3, none⟩ = some v3)
  (z0 : isSl v0 = false) (z1 : isSl v1 = false) (z2 : isSl v2 = false) (z3 : isSl v3 = false) (x0 : isSl u0' = false) (x1 : isSl u1' = false) (x2 : isSl u2' = false) (x3 : isSl u3' = false) (hL : L ≤ g) (hR : g < R) :
  Sk L R a ((((b.setCell ⟨g, o, none⟩ u0').setCell ⟨g, o + 1, none⟩ u1').setCell ⟨g, o + 2, none⟩ u2').setCell ⟨g, o + 3, none⟩ u3') := by
 have s0 := h.set y0 z0 x0 hL hR
 have s1 := s0.set (g := g) (o := o + 1) (by rw [cs_other (by omega)]; exact y1) z1 x1 hL hR
 have s2 := s1.set (g := g) (o := o + 2) (by rw [cs_other (by omega), cs_other (by omega)]; exact y2) z2 x2 hL hR
 exact s2.set (g := g) (o := o + 3) (by rw [cs_other (by omega), cs_other (by omega), cs_other (by omega)]; exact y3) z3 x3 hL hR
/-- n integers in a block from L on and below R. -/
def IntK (w : World) (L R : Nat) (v : Value) (n : Nat) : Prop :=
 n ≤ 1048576 ∧ ∃ a cap, v = .slice a n cap ∧ (0 < n → ∃ g, a = some ⟨g, 0, none⟩ ∧ L ≤ g ∧ g < R ∧ g < w.heap.size ∧ ∀ i, i < n → (∃ u, w.cell? ⟨g, i, none⟩ = some u ∧ isSl u = false) ∧ w.frozen? ⟨g, i, none⟩ = false)
theorem IntK.sk {w w' : World} {L R L' R' : Nat} {v : Value} {n : Nat} (h : IntK w L R v n) (s : Sk L' R' w w') : IntK w' L R v n := by
 obtain ⟨h0, a, cap, rfl, h⟩ := h
 refine ⟨h0, a, cap, rfl, fun hp => ?_⟩
 obtain ⟨g, rfl, hL, hR, hg, hx⟩ := h hp
 refine ⟨g, rfl, hL, hR, Nat.lt_of_lt_of_le hg s.size, fun i hi => ⟨?_, (s.froz g i hg).trans (hx i hi).2⟩⟩
 obtain ⟨u, hu, hs⟩ := (hx i hi).1
 obtain ⟨u', hu', e, _⟩ := s.cell g i u hu
 exact ⟨u', hu', e.trans hs⟩
theorem IntK.at {w : World} {L R n cap j : Nat} {a : Option Addr} (h : IntK w L R (.slice a n cap) n) (hj : j < n) : ∃ g, a = some ⟨g, 0, none⟩ ∧ L ≤ g ∧ g < R ∧ ∃ u, w.cell? ⟨g, j, none⟩ = some u ∧ isSl u = false ∧ w.frozen? ⟨g, j, none⟩ = false := by
 obtain ⟨h0, a', cap', e, h⟩ := h
 injection e with e1 e2 e3
 subst e1 e3
 obtain ⟨g, rfl, hL, hR, hg, hx⟩ := h (by omega)
 obtain ⟨⟨u, hu, hs⟩, hf⟩ := hx j hj
 exact ⟨g, rfl, hL, hR, u, hu, hs, hf⟩
theorem IntK.slice {w : World} {L R n : Nat} {v : Value} (h : IntK w L R v n) : n ≤ 1048576 ∧ ∃ a cap, v = .slice a n cap := ⟨h.1, by obtain ⟨_, a, cap, e, _⟩ := h; exact ⟨a, cap, e⟩⟩
theorem OwnS.marking {w : World} {L : Nat} {v : Value} {xs : List Int} (h : OwnS w L v xs) (hn : xs.length ≤ 1048576) : IntK w L w.heap.size v xs.length := by
 obtain ⟨_, a, cap, rfl, h⟩ := h
 refine ⟨hn, a, cap, rfl, fun hp => ?_⟩
 obtain ⟨g, rfl, hg, hl, hx⟩ := h hp
 exact ⟨g, rfl, hg, hl, hl, fun i hi => ⟨⟨_, (hx i hi).1, rfl⟩, (hx i hi).2⟩⟩
/-- n elements of c cells in a block from L on and below R; where F has a slice, that slice. -/
def RowK (w : World) (L R : Nat) (v : Value) (n c : Nat) (F : Nat → Nat → Value) : Prop :=
 n ≤ 1048576 ∧ ∃ a cap, v = .slice a n cap ∧ (0 < n → ∃ g, a = some ⟨g, 0, none⟩ ∧ L ≤ g ∧ g < R ∧ g < w.heap.size ∧ ∀ i, i < n → ∀ j, j < c → (∃ u, w.cell? ⟨g, i * c + j, none⟩ = some u ∧ isSl u = isSl (F i j) ∧ (isSl (F i j) = true → u = F i j)) ∧ w.frozen? ⟨g, i * c + j, none⟩ = false)
theorem RowK.sk {w w' : World} {L R L' R' : Nat} {v : Value} {n c : Nat} {F : Nat → Nat → Value} (h : RowK w L R v n c F) (s : Sk L' R' w w') : RowK w' L R v n c F := by
 obtain ⟨h0, a, cap, rfl, h⟩ := h
 refine ⟨h0, a, cap, rfl, fun hp => ?_⟩
 obtain ⟨g, rfl, hL, hR, hg, hx⟩ := h hp
 refine ⟨g, rfl, hL, hR, Nat.lt_of_lt_of_le hg s.size, fun i hi j hj => ⟨?_, (s.froz g _ hg).trans (hx i hi j hj).2⟩⟩
 obtain ⟨u, hu, e, f⟩ := (hx i hi j hj).1
 obtain ⟨u', hu', e', f'⟩ := s.cell g _ u hu
 exact ⟨u', hu', e'.trans e, fun hs => (f' (e.trans hs)).trans (f hs)⟩
theorem RowK.at {w : World} {L R n c cap k : Nat} {a : Option Addr} {F : Nat → Nat → Value} (h : RowK w L R (.slice a n cap) n c F) (hk : k < n) : ∃ g, a = some ⟨g, 0, none⟩ ∧ L ≤ g ∧ g < R ∧ ∀ j, j < c → (∃ u, w.cell? ⟨g, k * c + j, none⟩ = some u ∧ isSl u = isSl (F k j) ∧ (isSl (F k j) = true → u = F k j)) ∧ w.frozen? ⟨g, k * c + j, none⟩ = false := by
 obtain ⟨h0, a', cap', e, h⟩ := h
 injection e with e1 e2 e3
 subst e1 e3
 obtain ⟨g, rfl, hL, hR, hg, hx⟩ := h (by omega)
 exact ⟨g, rfl, hL, hR, hx k hk⟩
theorem RowK.slice {w : World} {L R n c : Nat} {v : Value} {F : Nat → Nat → Value} (h : RowK w L R v n c F) : n ≤ 1048576 ∧ ∃ a cap, v = .slice a n cap := ⟨h.1, by obtain ⟨_, a, cap, e, _⟩ := h; exact ⟨a, cap, e⟩⟩
theorem OwnC.marking {w : World} {L : Nat} {v : Value} {n c : Nat} {F : Nat → Nat → Value} (h : OwnC w L v n c F) (hn : n ≤ 1048576) : RowK w L w.heap.size v n c F := by
 obtain ⟨_, a, cap, rfl, h⟩ := h
 refine ⟨hn, a, cap, rfl, fun hp => ?_⟩
 obtain ⟨g, rfl, hg, hl, hx⟩ := h hp
 exact ⟨g, rfl, hg, hl, hl, fun i hi j hj => ⟨⟨_, (hx i hi j hj).1, rfl, fun _ => rfl⟩, (hx i hi j hj).2⟩⟩
def TabK (w : World) (L R : Nat) (f : Nat → Value) (t : TabD) : Prop := IntK w L R (f 0) t.ss.length ∧ IntK w L R (f 1) t.ls.length ∧ IntK w L R (f 2) t.vs.length
theorem TabK.sk {w w' : World} {L R L' R' : Nat} {f : Nat → Value} {t : TabD} (h : TabK w L R f t) (s : Sk L' R' w w') : TabK w' L R f t := ⟨h.1.sk s, h.2.1.sk s, h.2.2.sk s⟩
theorem OwnTab.marking {w : World} {L : Nat} {f : Nat → Value} {t : TabD} (h : OwnTab w L f t) (hm : TabSm t) : TabK w L w.heap.size f t := by
 unfold TabSm at hm
 exact ⟨h.1.marking (by omega), h.2.1.marking (by omega), h.2.2.marking (by omega)⟩
def TabsK (w : World) (L R : Nat) (v : Value) (ts : List TabD) : Prop := ∃ F, RowK w L R v ts.length 3 F ∧ ∀ i, i < ts.length → TabK w L R (F i) (tn ts i)
theorem TabsK.sk {w w' : World} {L R L' R' : Nat} {v : Value} {ts : List TabD} (h : TabsK w L R v ts) (s : Sk L' R' w w') : TabsK w' L R v ts := by
 obtain ⟨F, h0, h1⟩ := h
 exact ⟨F, h0.sk s, fun i hi => (h1 i hi).sk s⟩
theorem TabsK.slice {w : World} {L R : Nat} {v : Value} {ts : List TabD} (h : TabsK w L R v ts) : ∃ a cap, v = .slice a ts.length cap := by
 obtain ⟨F, h0, _⟩ := h
 exact h0.slice.2
theorem OwnTabs.marking {w : World} {L : Nat} {v : Value} {ts : List TabD} (h : OwnTabs w L v ts) (hm : TabsSm ts) : TabsK w L w.heap.size v ts := by
 obtain ⟨F, h0, h1⟩ := h
 exact ⟨F, h0.marking hm.1, fun i hi => (h1 i hi).marking (hm.2 i hi)⟩
def PinsK (w : World) (L R : Nat) (v : Value) (n : Nat) : Prop := ∃ F, RowK w L R v n 4 F ∧ ∀ i, i < n → ∀ j, j < 4 → isSl (F i j) = false
theorem PinsK.sk {w w' : World} {L R L' R' : Nat} {v : Value} {n : Nat} (h : PinsK w L R v n) (s : Sk L' R' w w') : PinsK w' L R v n := by
 obtain ⟨F, h0, h1⟩ := h
 exact ⟨F, h0.sk s, h1⟩
theorem OwnPins.marking {w : World} {L : Nat} {v : Value} {ps : List PinD} (h : OwnPins w L v ps) (hm : PinsSm ps) : PinsK w L w.heap.size v ps.length := by
 obtain ⟨F, h0, h1⟩ := h
 refine ⟨F, h0.marking hm, fun i hi j hj => ?_⟩
 obtain ⟨e0, e1, e2, e3, _⟩ := h1 i hi
 obtain rfl | rfl | rfl | rfl : j = 0 ∨ j = 1 ∨ j = 2 ∨ j = 3 := by omega
 ·rw [e0]; rfl
 ·rw [e1]; rfl
 ·rw [e2]; rfl
 ·rw [e3]; rfl
def ArcK (w : World) (L R : Nat) (f : Nat → Value) (a : ArcD) : Prop := (isSl (f 0) = false ∧ isSl (f 1) = false ∧ isSl (f 2) = false ∧ isSl (f 3) = false) ∧ TabsK w L R (f 4) a.delay ∧ TabsK w L R (f 5) a.slew
theorem ArcK.sk {w w' : World} {L R L' R' : Nat} {f : Nat → Value} {a : ArcD} (h : ArcK w L R f a) (s : Sk L' R' w w') : ArcK w' L R f a := ⟨h.1, h.2.1.sk s, h.2.2.sk s⟩
theorem OwnArc.marking {w : World} {L : Nat} {f : Nat → Value} {a : ArcD} (h : OwnArc w L f a) (hm : ArcSm a) : ArcK w L w.heap.size f a := by
 obtain ⟨e0, e1, e2, e3, x4, x5⟩ := h
 exact ⟨⟨by rw [e0]; rfl, by rw [e1]; rfl, by rw [e2]; rfl, by rw [e3]; rfl⟩, x4.marking hm.1, x5.marking hm.2⟩
def ArcsK (w : World) (L R : Nat) (v : Value) (aa : List ArcD) : Prop := ∃ F, RowK w L R v aa.length 6 F ∧ ∀ i, i < aa.length → ArcK w L R (F i) (an aa i)
theorem ArcsK.sk {w w' : World} {L R L' R' : Nat} {v : Value} {aa : List ArcD} (h : ArcsK w L R v aa) (s : Sk L' R' w w') : ArcsK w' L R v aa := by
 obtain ⟨F, h0, h1⟩ := h
 exact ⟨F, h0.sk s, fun i hi => (h1 i hi).sk s⟩
theorem OwnArcs.marking {w : World} {L : Nat} {v : Value} {aa : List ArcD} (h : OwnArcs w L v aa) (hm : ArcsSm aa) : ArcsK w L w.heap.size v aa := by
 obtain ⟨F, h0, h1⟩ := h
 exact ⟨F, h0.marking hm.1, fun i hi => (h1 i hi).marking (hm.2 i hi)⟩
def CellK (w : World) (L R : Nat) (f : Nat → Value) (c : CellD) : Prop := PinsK w L R (f 2) c.pins.length ∧ ArcsK w L R (f 3) c.arcs ∧ IntK w L R (f 4) c.truth.length
theorem CellK.sk {w w' : World} {L R L' R' : Nat} {f : Nat → Value} {c : CellD} (h : CellK w L R f c) (s : Sk L' R' w w') : CellK w' L R f c := ⟨h.1.sk s, h.2.1.sk s, h.2.2.sk s⟩
theorem OwnCell.marking {w : World} {L : Nat} {f : Nat → Value} {c : CellD} (h : OwnCell w L f c) (hm : CellSm c) : CellK w L w.heap.size f c :=
 ⟨h.2.2.1.marking hm.1, h.2.2.2.1.marking hm.2.1, h.2.2.2.2.1.marking hm.2.2⟩
/-- A mark answers the next number, at most m later. -/
def MarkK (L R : Nat) (k m : Int) (w : World) (e : Ending) (w' : World) : Prop := ∃ r : Int, e = .returned (.int .i64 r) ∧ k ≤ r ∧ r ≤ k + m ∧ Sk L R w w'
theorem markInts_k (v : Value) (n : Nat) (k : Int) (L R : Nat) (w : World) (h : IntK w L R v n) (h0 : 0 ≤ k) (h1 : k ≤ 6917529027641081856) : Calls Tryz.prog 17 #[v, .int .i64 k] w (MarkK L R k n w) := by
 obtain ⟨hn, a, cap, rfl⟩ := h.slice
 have H := lh h
 clear h
 go_enter Tryz.func17, Tryz.ntmps17
 go_wp2
 go_loopw [5, 1] (fun i q wr => ∃ j : Nat, j ≤ n ∧ i = .int .i64 j ∧ q = .int .i64 (k + j) ∧ Hid (Sk L R w wr)) (fun i _ _ => n - (intOf i).toNat)
 case atStart => exact ⟨0, by omega, rfl, by go_num, lh (Sk.refl _ _ _)⟩
 case round =>
  obtain ⟨j, hj, rfl, rfl, hs⟩ := hrel
  by_cases hjn : j < n
  ·obtain ⟨g, rfl, hL, hR, u, e0, hu, f0⟩ := (H.out.sk hs.out).at hjn
   have hsn := lh (hs.out.set e0 hu (u := .int .i64 (k + j)) rfl hL hR)
   go_wp2
   go_roundw
   case rel => exact ⟨j + 1, by omega, by go_num, by go_num, hsn⟩
   case measure => simp [intOf]; omega
  ·obtain rfl : j = n := by omega
   go_wp2
   go_ret
   exact ⟨_, rfl, by omega, by omega, hs.out⟩
theorem str_cons (c : UInt8) (l : List UInt8) : Value.string ({ data := #[c] } ++ { data := l.toArray }) = .string ⟨(c :: l).toArray⟩ := by
 congr 1
theorem pow_step {r k : Int} {d : Nat} (h : r * 10 ^ d ≤ k) (h0 : 0 ≤ r) : (r / 10) * 10 ^ (d + 1) ≤ k := by
 refine Int.le_trans ?_ h
 rw [Int.pow_succ, Int.mul_comm (10 ^ d) 10, ← Int.mul_assoc]
 exact Int.mul_le_mul_of_nonneg_right (by omega) (Int.le_of_lt (Int.pow_pos (by omega)))
theorem pow_small {r k : Int} {d : Nat} (h : r * 10 ^ d ≤ k) (h0 : 0 < r) (hk : k ≤ 9223372036854775807) : d ≤ 18 := by
 by_cases hd : d ≤ 18
 ·exact hd
 ·exfalso
  have e : (10 : Int) ^ 19 ≤ 10 ^ d := by
   have := Nat.pow_le_pow_right (n := 10) (by omega) (show 19 ≤ d by omega)
   have h2 : ((10 ^ 19 : Nat) : Int) ≤ ((10 ^ d : Nat) : Int) := by exact_mod_cast this
   simpa using h2
  have e2 : 1 * (10 : Int) ^ d ≤ r * 10 ^ d := Int.mul_le_mul_of_nonneg_right (by omega) (Int.le_of_lt (Int.pow_pos (by omega)))
  have : (10 : Int) ^ 19 = 10000000000000000000 := by decide
  omega
set_option maxRecDepth 100000 in
theorem markText_any (k : Int) (w : World) (h0 : 0 ≤ k) (h1 : k ≤ 9223372036854775807) : Calls Tryz.prog 112 #[.int .i64 k] w fun e w' => (∃ s, e = .returned (.string s)) ∧ Below w.heap.size w w' := by
 by_cases hk : k ≤ 0
 ·go_enter Tryz.func112, Tryz.ntmps112
  go_wp2
  go_ret
  exact ⟨⟨_, rfl⟩, eX⟩
 ·go_enter Tryz.func112, Tryz.ntmps112
  go_wp2
  go_loopw [0, 3] (fun i q wr => ∃ (r : Int) (l : List UInt8), 0 ≤ r ∧ i = .int .i64 r ∧ q = .string ⟨l.toArray⟩ ∧ r ≤ 9223372036854775807 ∧ l.length ≤ 19 ∧ Hid (r * 10 ^ l.length ≤ k) ∧ Below w.heap.size w wr) (fun i _ _ => (intOf i).toNat)
  case atStart => exact ⟨k, [], by omega, rfl, rfl, h1, by simp, lh (by simp), eX⟩
  case round =>
   obtain ⟨r, l, hr0, rfl, rfl, hr1, hl19, hp, hb⟩ := hrel
   by_cases hr : 0 < r
   ·have hl : l.length ≤ 18 := pow_small hp.out hr h1
    have hcv := conv_one (48 + r % 10) (by omega) Tryz.underlying209 Tryz.underlying5 Tryz.underlying9
    have e2 : IntKind.i64.wrap (48 + r.tmod 10) = 48 + r % 10 := by rw [Int.tmod_eq_emod_of_nonneg hr0]; exact IntWalk.i64_in _ (by omega)
    have e3 : IntKind.u8.wrap (48 + r % 10) = 48 + r % 10 := by simp [IntKind.wrap, IntKind.signed, IntKind.bits]; omega
    have hl2 : l.length + 1 ≤ 9223372036854775807 := by omega
    have hl3 : ¬ 9223372036854775807 < l.length + 1 := by omega
    have hl4 : ¬ (9223372036854775807 : Int) < (l.length : Int) + 1 := by omega
    have hl5 : 1 + l.length ≤ 9223372036854775807 := by omega
    have hl6 : ¬ 9223372036854775807 < 1 + l.length := by omega
    have hl7 : ¬ (9223372036854775807 : Int) < 1 + (l.length : Int) := by omega
    have hps := lh (pow_step hp.out hr0)
    clear hp
    go_wp2
    go_roundw
    case rel => exact ⟨r / 10, UInt8.ofNat (48 + r % 10).toNat :: l, by omega, by go_num, str_cons _ _, by omega, by simp; omega, hps, eX⟩
    case measure => simp [intOf]; omega
   ·have hl2 : l.length + 1 ≤ 9223372036854775807 := by omega
    have hl3 : ¬ 9223372036854775807 < l.length + 1 := by omega
    have hl4 : ¬ (9223372036854775807 : Int) < (l.length : Int) + 1 := by omega
    have hl5 : 1 + l.length ≤ 9223372036854775807 := by omega
    have hl6 : ¬ 9223372036854775807 < 1 + l.length := by omega
    have hl7 : ¬ (9223372036854775807 : Int) < 1 + (l.length : Int) := by omega
    go_wp2
    go_ret
    exact ⟨⟨_, rfl⟩, eX⟩
set_option maxRecDepth 100000 in
set_option maxHeartbeats 1000000 in
theorem markPins_k (v : Value) (n : Nat) (k : Int) (L R : Nat) (w : World) (h : PinsK w L R v n) (h0 : 0 ≤ k) (h1 : k ≤ 5764607523034234880) : Calls Tryz.prog 113 #[v, .int .i64 k] w (MarkK L R k (n * 4) w) := by
 obtain ⟨F, hr, hf⟩ := h
 obtain ⟨hn, a, cap, rfl⟩ := hr.slice
 have H := lh hr; have HF := lh hf
 clear hr hf
 go_enter Tryz.func113, Tryz.ntmps113
 go_wp2
 go_loopw [5, 1] (fun i q wr => ∃ (j : Nat) (r : Int), j ≤ n ∧ i = .int .i64 j ∧ q = .int .i64 r ∧ k ≤ r ∧ r ≤ k + j * 4 ∧ Hid (Sk L R w wr)) (fun i _ _ => n - (intOf i).toNat)
 case atStart => exact ⟨0, k, by omega, rfl, rfl, by omega, by omega, lh (Sk.refl _ _ _)⟩
 case round =>
  obtain ⟨j, r, hj, rfl, rfl, hr0, hr1, hs⟩ := hrel
  by_cases hjn : j < n
  ·obtain ⟨g, rfl, hL, hR, _⟩ := (H.out.sk hs.out).at hjn
   go_wp2_with fail
   go_at_call 112
   refine (markText_any r _ (by omega) (by omega)).mono ?_
   rintro e wa ⟨⟨s, rfl⟩, hb⟩
   have sa := hs.out.call hb
   obtain ⟨g', eg, _, _, hx⟩ := (H.out.sk sa).at hjn
   obtain rfl : g = g' := by injection eg with eg; injection eg
   obtain ⟨⟨u0, y0, z0, _⟩, f0⟩ := hx 0 (by omega)
   obtain ⟨⟨u1, y1, z1, _⟩, f1⟩ := hx 1 (by omega)
   obtain ⟨⟨u2, y2, z2, _⟩, f2⟩ := hx 2 (by omega)
   obtain ⟨⟨u3, y3, z3, _⟩, f3⟩ := hx 3 (by omega)
   rw [HF.out j hjn 0 (by omega)] at z0; rw [HF.out j hjn 1 (by omega)] at z1; rw [HF.out j hjn 2 (by omega)] at z2; rw [HF.out j hjn 3 (by omega)] at z3
   rw [Nat.add_zero] at y0 f0
   have hsn := lh (sk4 sa y0 y1 y2 y3 z0 z1 z2 z3 (u0' := .string s) (u1' := .int .i64 (r + 1)) (u2' := .int .i64 (r + 1 + 1)) (u3' := .bool ((r + 1 + 1 + 1) % 3 == 0)) rfl rfl rfl rfl hL hR)
   clear hx eg sa hs z0 z1 z2 z3
   go_wp2
   go_roundw
   case rel => exact ⟨j + 1, r + 1 + 1 + 1 + 1, by omega, by go_num, by go_num, by omega, by omega, hsn⟩
   case measure => simp [intOf]; omega
  ·obtain rfl : j = n := by omega
   go_wp2
   go_ret
   exact ⟨_, rfl, by omega, by omega, hs.out⟩
end Go.Proofs.YtkpfbnffhhmokaaGreat
namespace Go.Proofs.YtkpfbnffhhmokaaGreat
open Go.ChangeShapes Go.WideShapes Go.ChangeAt Go.RowKit
set_option linter.unusedVariables false
set_option linter.unusedSimpArgs false
set_option maxRecDepth 100000
theorem sumN_at (f : Nat → Nat) {j n : Nat} (h : j < n) : sumN f j + f j ≤ sumN f n := by
 rw [← sumN_succ]
 exact sumN_mono f h
def InstZ (w : World) (L R : Nat) (f : Nat → Value) (x : InstD) : Prop := isSl (f 0) = false ∧ isSl (f 1) = false ∧ IntK w L R (f 2) x.nets.length
theorem InstZ.sk {w w' : World} {L R L' R' : Nat} {f : Nat → Value} {x : InstD} (h : InstZ w L R f x) (s : Sk L' R' w w') : InstZ w' L R f x := ⟨h.1, h.2.1, h.2.2.sk s⟩
def InstsZ (w : World) (L R : Nat) (v : Value) (ts : List InstD) : Prop := ∃ F, RowK w L R v ts.length 3 F ∧ ∀ i, i < ts.length → InstZ w L R (F i) (inn ts i)
theorem InstsZ.sk {w w' : World} {L R L' R' : Nat} {v : Value} {ts : List InstD} (h : InstsZ w L R v ts) (s : Sk L' R' w w') : InstsZ w' L R v ts := by
 obtain ⟨F, h0, h1⟩ := h
 exact ⟨F, h0.sk s, fun i hi => (h1 i hi).sk s⟩
theorem InstsZ.slice {w : World} {L R : Nat} {v : Value} {ts : List InstD} (h : InstsZ w L R v ts) : ∃ a cap, v = .slice a ts.length cap := by
 obtain ⟨F, h0, _⟩ := h
 exact h0.slice.2
theorem OwnInst.marking {w : World} {L : Nat} {f : Nat → Value} {x : InstD} (e : OwnInst w L f x) (hm : InstSm x) : InstZ w L w.heap.size f x := ⟨(by rw [e.1]; rfl), (by rw [e.2.1]; rfl), e.2.2.1.marking hm⟩
theorem OwnInsts.marking {w : World} {L : Nat} {v : Value} {ts : List InstD} (h : OwnInsts w L v ts) (hm : InstsSm ts) : InstsZ w L w.heap.size v ts := by
 obtain ⟨F, h0, h1⟩ := h
 exact ⟨F, h0.marking hm.1, fun i hi => (h1 i hi).marking (hm.2 i hi)⟩
def PortZ (w : World) (L R : Nat) (f : Nat → Value) (x : PortD) : Prop := isSl (f 0) = false ∧ isSl (f 1) = false ∧ isSl (f 2) = false
theorem PortZ.sk {w w' : World} {L R L' R' : Nat} {f : Nat → Value} {x : PortD} (h : PortZ w L R f x) (s : Sk L' R' w w') : PortZ w' L R f x := ⟨h.1, h.2.1, h.2.2⟩
def PortsZ (w : World) (L R : Nat) (v : Value) (ts : List PortD) : Prop := ∃ F, RowK w L R v ts.length 3 F ∧ ∀ i, i < ts.length → PortZ w L R (F i) (ptn ts i)
theorem PortsZ.sk {w w' : World} {L R L' R' : Nat} {v : Value} {ts : List PortD} (h : PortsZ w L R v ts) (s : Sk L' R' w w') : PortsZ w' L R v ts := by
 obtain ⟨F, h0, h1⟩ := h
 exact ⟨F, h0.sk s, fun i hi => (h1 i hi).sk s⟩
theorem PortsZ.slice {w : World} {L R : Nat} {v : Value} {ts : List PortD} (h : PortsZ w L R v ts) : ∃ a cap, v = .slice a ts.length cap := by
 obtain ⟨F, h0, _⟩ := h
 exact h0.slice.2
theorem OwnPorts.marking {w : World} {L : Nat} {v : Value} {ts : List PortD} (h : OwnPorts w L v ts) (hm : PortsSm ts) : PortsZ w L w.heap.size v ts := by
 obtain ⟨F, h0, h1⟩ := h
 refine ⟨F, h0.marking hm, fun i hi => ?_⟩
 have e := h1 i hi
 exact ⟨(by rw [e.1]; rfl), (by rw [e.2.1]; rfl), (by rw [e.2.2.1]; rfl)⟩
def WireZ (w : World) (L R : Nat) (f : Nat → Value) (x : WireD) : Prop := IntK w L R (f 0) x.parent.length ∧ IntK w L R (f 1) x.res.length ∧ IntK w L R (f 2) x.cap.length ∧ IntK w L R (f 3) x.sink.length
theorem WireZ.sk {w w' : World} {L R L' R' : Nat} {f : Nat → Value} {x : WireD} (h : WireZ w L R f x) (s : Sk L' R' w w') : WireZ w' L R f x := ⟨h.1.sk s, h.2.1.sk s, h.2.2.1.sk s, h.2.2.2.sk s⟩
def WiresZ (w : World) (L R : Nat) (v : Value) (ts : List WireD) : Prop := ∃ F, RowK w L R v ts.length 4 F ∧ ∀ i, i < ts.length → WireZ w L R (F i) (wrn ts i)
theorem WiresZ.sk {w w' : World} {L R L' R' : Nat} {v : Value} {ts : List WireD} (h : WiresZ w L R v ts) (s : Sk L' R' w w') : WiresZ w' L R v ts := by
 obtain ⟨F, h0, h1⟩ := h
 exact ⟨F, h0.sk s, fun i hi => (h1 i hi).sk s⟩
theorem WiresZ.slice {w : World} {L R : Nat} {v : Value} {ts : List WireD} (h : WiresZ w L R v ts) : ∃ a cap, v = .slice a ts.length cap := by
 obtain ⟨F, h0, _⟩ := h
 exact h0.slice.2
theorem OwnWire.marking {w : World} {L : Nat} {f : Nat → Value} {x : WireD} (e : OwnWire w L f x) (hm : WireSm x) : WireZ w L w.heap.size f x := ⟨e.1.marking hm.1, e.2.1.marking hm.2.1, e.2.2.1.marking hm.2.2.1, e.2.2.2.marking hm.2.2.2⟩
theorem OwnWires.marking {w : World} {L : Nat} {v : Value} {ts : List WireD} (h : OwnWires w L v ts) (hm : WiresSm ts) : WiresZ w L w.heap.size v ts := by
 obtain ⟨F, h0, h1⟩ := h
 exact ⟨F, h0.marking hm.1, fun i hi => (h1 i hi).marking (hm.2 i hi)⟩
def CellZ (w : World) (L R : Nat) (f : Nat → Value) (x : CellD) : Prop := isSl (f 0) = false ∧ isSl (f 1) = false ∧ isSl (f 5) = false ∧ isSl (f 6) = false ∧ PinsK w L R (f 2) x.pins.length ∧ ArcsK w L R (f 3) x.arcs ∧ IntK w L R (f 4) x.truth.length
theorem CellZ.sk {w w' : World} {L R L' R' : Nat} {f : Nat → Value} {x : CellD} (h : CellZ w L R f x) (s : Sk L' R' w w') : CellZ w' L R f x := ⟨h.1, h.2.1, h.2.2.1, h.2.2.2.1, h.2.2.2.2.1.sk s, h.2.2.2.2.2.1.sk s, h.2.2.2.2.2.2.sk s⟩
def CellsZ (w : World) (L R : Nat) (v : Value) (ts : List CellD) : Prop := ∃ F, RowK w L R v ts.length 7 F ∧ ∀ i, i < ts.length → CellZ w L R (F i) (cn ts i)
theorem CellsZ.sk {w w' : World} {L R L' R' : Nat} {v : Value} {ts : List CellD} (h : CellsZ w L R v ts) (s : Sk L' R' w w') : CellsZ w' L R v ts := by
 obtain ⟨F, h0, h1⟩ := h
 exact ⟨F, h0.sk s, fun i hi => (h1 i hi).sk s⟩
theorem CellsZ.slice {w : World} {L R : Nat} {v : Value} {ts : List CellD} (h : CellsZ w L R v ts) : ∃ a cap, v = .slice a ts.length cap := by
 obtain ⟨F, h0, _⟩ := h
 exact h0.slice.2
theorem OwnCell.markZ {w : World} {L : Nat} {f : Nat → Value} {x : CellD} (e : OwnCell w L f x) (hm : CellSm x) : CellZ w L w.heap.size f x := ⟨(by rw [e.1]; rfl), (by rw [e.2.1]; rfl), (by rw [e.2.2.2.2.2.1]; rfl), (by rw [e.2.2.2.2.2.2.1]; rfl), e.2.2.1.marking hm.1, e.2.2.2.1.marking hm.2.1, e.2.2.2.2.1.marking hm.2.2⟩
theorem OwnCells.marking {w : World} {L : Nat} {v : Value} {ts : List CellD} (h : OwnCells w L v ts) (hm : CellsSm ts) : CellsZ w L w.heap.size v ts := by
 obtain ⟨F, h0, h1⟩ := h
 exact ⟨F, h0.marking hm.1, fun i hi => (h1 i hi).markZ (hm.2 i hi)⟩
theorem PinsK.slice {w : World} {L R : Nat} {v : Value} {n : Nat} (h : PinsK w L R v n) : ∃ a cap, v = .slice a n cap := by
 obtain ⟨F, h0, _⟩ := h
 exact h0.slice.2
theorem ArcsK.slice {w : World} {L R : Nat} {v : Value} {ts : List ArcD} (h : ArcsK w L R v ts) : ∃ a cap, v = .slice a ts.length cap := by
 obtain ⟨F, h0, _⟩ := h
 exact h0.slice.2
def TxZ (w : World) (L R : Nat) (v : Value) (n : Nat) : Prop := ∃ F, RowK w L R v n 1 F ∧ ∀ i, i < n → isSl (F i 0) = false
theorem TxZ.sk {w w' : World} {L R L' R' : Nat} {v : Value} {n : Nat} (h : TxZ w L R v n) (s : Sk L' R' w w') : TxZ w' L R v n := by
 obtain ⟨F, h0, h1⟩ := h
 exact ⟨F, h0.sk s, h1⟩
theorem TxZ.slice {w : World} {L R : Nat} {v : Value} {n : Nat} (h : TxZ w L R v n) : ∃ a cap, v = .slice a n cap := by
 obtain ⟨F, h0, _⟩ := h
 exact h0.slice.2
theorem OwnTx.marking {w : World} {L : Nat} {v : Value} {us : List ByteArray} (h : OwnTx w L v us) (hm : TxSm us) : TxZ w L w.heap.size v us.length := by
 obtain ⟨⟨F, h0, h1⟩, _⟩ := h
 exact ⟨F, h0.marking hm, fun i hi => by rw [h1 i hi]; rfl⟩
set_option maxHeartbeats 1000000 in
theorem markTabs_w (v : Value) (ts : List TabD) (k : Int) (L R : Nat) (w : World) (h : TabsK w L R v ts) (hw : wtTabs ts ≤ 1048576) (h0 : 0 ≤ k) (h1 : k ≤ 5764607523034234880) : Calls Tryz.prog 143 #[v, .int .i64 k] w (MarkK L R k (4 * wtTabs ts : Nat) w) := by
 obtain ⟨F, hr, hf⟩ := h
 obtain ⟨hn, a, cap, rfl⟩ := hr.slice
 obtain ⟨n, hnn⟩ : ∃ n, n = ts.length := ⟨_, rfl⟩
 obtain ⟨g, hg⟩ : ∃ g : Nat → Nat, g = fun i => wtTab (tn ts i) := ⟨_, rfl⟩
 unfold wtTabs at hw ⊢
 rw [← hg, ← hnn] at hw ⊢
 rw [← hnn] at hr hf hn
 have H := lh hr; have HF := lh hf; have HG := lh hg
 clear hr hf hnn hg
 go_enter Tryz.func143, Tryz.ntmps143
 go_wp2
 go_loopw [5, 1] (fun i q wr => ∃ (j : Nat) (r : Int), j ≤ n ∧ i = .int .i64 j ∧ q = .int .i64 r ∧ k ≤ r ∧ r ≤ k + 4 * ((j : Int) + (sumN g j : Nat)) ∧ Hid (Sk L R w wr)) (fun i _ _ => n - (intOf i).toNat)
 case atStart => exact ⟨0, k, by omega, rfl, rfl, by omega, by rw [sumN_zero]; omega, lh (Sk.refl _ _ _)⟩
 case round =>
  obtain ⟨j, r, hj, rfl, rfl, hr0, hr1, hs⟩ := hrel
  by_cases hjn : j < n
  ·have hss := sumN_succ g j
   have hat := sumN_at g hjn
   have hgj : g j = (tn ts j).ss.length + (tn ts j).ls.length + (tn ts j).vs.length := by rw [HG.out]; rfl
   obtain ⟨G, hG⟩ : ∃ G, G = g j := ⟨_, rfl⟩
   rw [← hG] at hss hat hgj
   clear hG
   obtain ⟨S, hS⟩ : ∃ S, S = sumN g (j + 1) := ⟨_, rfl⟩
   obtain ⟨S0, hS0⟩ : ∃ S0, S0 = sumN g j := ⟨_, rfl⟩
   rw [← hS, ← hS0] at hss
   rw [← hS0] at hr1 hat
   have HSS := lh hS
   clear hS hS0
   obtain ⟨⟨_, p0, q0, e0, _⟩, ⟨_, p1, q1, e1, _⟩, _, p2, q2, e2, _⟩ := HF.out j hjn
   obtain ⟨g0, rfl, hL, hR, hx⟩ := (H.out.sk hs.out).at hjn
   obtain ⟨u0, y0, _, c0⟩ := (hx 0 (by omega)).1
   rw [c0 (by rw [e0]; rfl), e0, Nat.add_zero] at y0
   clear hx c0
   go_wp2_with fail
   go_at_call 17
   refine (markInts_k _ _ _ L R _ (e0 ▸ ((HF.out j hjn).sk hs.out).1) (by omega) (by omega)).mono ?_
   rintro e wa ⟨ra, rfl, ha0, ha1, sa⟩
   have hsa := lh (hs.out.trans sa)
   clear sa y0
   obtain ⟨g', eg, hL, hR, hx⟩ := (H.out.sk hsa.out).at hjn
   obtain rfl : g0 = g' := by injection eg with eg; injection eg
   obtain ⟨u1, y1, _, c1⟩ := (hx 1 (by omega)).1
   rw [c1 (by rw [e1]; rfl), e1] at y1
   clear hx c1 eg
   go_wp2_with fail
   go_at_call 17
   refine (markInts_k _ _ _ L R _ (e1 ▸ ((HF.out j hjn).sk hsa.out).2.1) (by omega) (by omega)).mono ?_
   rintro e wb ⟨rb, rfl, hb0, hb1, sb⟩
   have hsb := lh (hsa.out.trans sb)
   clear sb y1
   obtain ⟨g', eg, hL, hR, hx⟩ := (H.out.sk hsb.out).at hjn
   obtain rfl : g0 = g' := by injection eg with eg; injection eg
   obtain ⟨u2, y2, _, c2⟩ := (hx 2 (by omega)).1
   rw [c2 (by rw [e2]; rfl), e2] at y2
   clear hx c2 eg
   go_wp2_with fail
   go_at_call 17
   refine (markInts_k _ _ _ L R _ (e2 ▸ ((HF.out j hjn).sk hsb.out).2.2) (by omega) (by omega)).mono ?_
   rintro e wc ⟨rc, rfl, hc0, hc1, sc⟩
   have hsc := lh (hsb.out.trans sc)
   have hle := lh (show rc ≤ k + 4 * (((j + 1 : Nat) : Int) + (S : Nat)) by push_cast; omega)
   clear sc y2
   go_wp2
   go_roundw
   case rel => exact ⟨j + 1, rc, by omega, by go_num, rfl, by omega, by rw [← HSS.out]; exact hle.out, hsc⟩
   case measure => simp [intOf]; omega
  ·obtain rfl : j = n := by omega
   go_wp2
   go_ret
   exact ⟨_, rfl, by omega, by push_cast; omega, hs.out⟩
set_option maxHeartbeats 4000000 in
theorem markArcs_w (v : Value) (ts : List ArcD) (k : Int) (L R : Nat) (w : World) (h : ArcsK w L R v ts) (hw : wtArcs ts ≤ 1048576) (h0 : 0 ≤ k) (h1 : k ≤ 4611686018427387904) : Calls Tryz.prog 114 #[v, .int .i64 k] w (MarkK L R k (4 * wtArcs ts : Nat) w) := by
 obtain ⟨F, hr, hf⟩ := h
 obtain ⟨hn, a, cap, rfl⟩ := hr.slice
 obtain ⟨n, hnn⟩ : ∃ n, n = ts.length := ⟨_, rfl⟩
 obtain ⟨g, hg⟩ : ∃ g : Nat → Nat, g = fun i => wtArc (an ts i) := ⟨_, rfl⟩
 unfold wtArcs at hw ⊢
 rw [← hg, ← hnn] at hw ⊢
 rw [← hnn] at hr hf hn
 have H := lh hr; have HF := lh hf; have HG := lh hg
 clear hr hf hnn hg
 go_enter Tryz.func114, Tryz.ntmps114
 go_wp2
 go_loopw [5, 1] (fun i q wr => ∃ (j : Nat) (r : Int), j ≤ n ∧ i = .int .i64 j ∧ q = .int .i64 r ∧ k ≤ r ∧ r ≤ k + 4 * ((j : Int) + (sumN g j : Nat)) ∧ Hid (Sk L R w wr)) (fun i _ _ => n - (intOf i).toNat)
 case atStart => exact ⟨0, k, by omega, rfl, rfl, by omega, by rw [sumN_zero]; omega, lh (Sk.refl _ _ _)⟩
 case round =>
  obtain ⟨j, r, hj, rfl, rfl, hr0, hr1, hs⟩ := hrel
  by_cases hjn : j < n
  ·have hss := sumN_succ g j
   have hat := sumN_at g hjn
   have hgj : g j = wtTabs (an ts j).delay + wtTabs (an ts j).slew := by rw [HG.out]; rfl
   obtain ⟨W0, hW0⟩ : ∃ W, W = wtTabs (an ts j).delay := ⟨_, rfl⟩
   rw [← hW0] at hgj
   have HW0 := lh hW0
   clear hW0
   obtain ⟨W1, hW1⟩ : ∃ W, W = wtTabs (an ts j).slew := ⟨_, rfl⟩
   rw [← hW1] at hgj
   have HW1 := lh hW1
   clear hW1
   obtain ⟨G, hG⟩ : ∃ G, G = g j := ⟨_, rfl⟩
   rw [← hG] at hss hat hgj
   clear hG
   obtain ⟨S, hS⟩ : ∃ S, S = sumN g (j + 1) := ⟨_, rfl⟩
   obtain ⟨S0, hS0⟩ : ∃ S0, S0 = sumN g j := ⟨_, rfl⟩
   rw [← hS, ← hS0] at hss
   rw [← hS0] at hr1 hat
   have HSS := lh hS
   clear hS hS0
   obtain ⟨⟨k0, k1, k2, k3⟩, t4, t5⟩ := HF.out j hjn
   obtain ⟨p4, q4, e4⟩ := t4.slice; obtain ⟨p5, q5, e5⟩ := t5.slice
   clear t4 t5
   obtain ⟨g0, rfl, hL, hR, _⟩ := (H.out.sk hs.out).at hjn
   have sa := hs.out
   obtain ⟨g', eg, _, _, hx⟩ := (H.out.sk sa).at hjn
   obtain rfl : g0 = g' := by injection eg with eg; injection eg
   obtain ⟨⟨u0, y0, z0, _⟩, f0⟩ := hx 0 (by omega)
   rw [k0] at z0
   obtain ⟨⟨u1, y1, z1, _⟩, f1⟩ := hx 1 (by omega)
   rw [k1] at z1
   obtain ⟨⟨u2, y2, z2, _⟩, f2⟩ := hx 2 (by omega)
   rw [k2] at z2
   obtain ⟨⟨u3, y3, z3, _⟩, f3⟩ := hx 3 (by omega)
   rw [k3] at z3
   obtain ⟨⟨u4, y4, _, c4⟩, _⟩ := hx 4 (by omega)
   rw [c4 (by rw [e4]; rfl), e4] at y4
   rw [Nat.add_zero] at y0 f0
   have s0 := Sk.set (g := g0) (o := j * 6) (u := .int .i64 (r)) sa (by exact y0) z0 rfl hL hR
   have s1 := Sk.set (g := g0) (o := j * 6 + 1) (u := .int .i64 (r + 1)) s0 (by rw [cs_other (by omega)]; exact y1) z1 rfl hL hR
   have s2 := Sk.set (g := g0) (o := j * 6 + 2) (u := .int .i64 (r + 1 + 1)) s1 (by rw [cs_other (by omega), cs_other (by omega)]; exact y2) z2 rfl hL hR
   have s3 := Sk.set (g := g0) (o := j * 6 + 3) (u := .int .i64 (r + 1 + 1 + 1)) s2 (by rw [cs_other (by omega), cs_other (by omega), cs_other (by omega)]; exact y3) z3 rfl hL hR
   have S0 := lh s3
   clear hx eg sa s0 z0 s1 z1 s2 z2 s3 z3 hs c4
   go_wp2_with fail
   go_at_call 143
   refine (markTabs_w _ (an ts j).delay _ L R _ (e4 ▸ ((HF.out j hjn).sk S0.out).2.1) (by rw [← HW0.out]; omega) (by omega) (by omega)).mono ?_
   rw [← HW0.out]
   rintro e wc4 ⟨r4, rfl, m4, M4, sb⟩
   have S1 := lh (S0.out.trans sb)
   clear sb S0 y0 f0 y1 f1 y2 f2 y3 f3 y4
   push_cast at M4
   obtain ⟨g', eg, _, _, hx⟩ := (H.out.sk S1.out).at hjn
   obtain rfl : g0 = g' := by injection eg with eg; injection eg
   obtain ⟨⟨u5, y5, _, c5⟩, _⟩ := hx 5 (by omega)
   rw [c5 (by rw [e5]; rfl), e5] at y5
   clear hx eg c5
   go_wp2_with fail
   go_at_call 143
   refine (markTabs_w _ (an ts j).slew _ L R _ (e5 ▸ ((HF.out j hjn).sk S1.out).2.2) (by rw [← HW1.out]; omega) (by omega) (by omega)).mono ?_
   rw [← HW1.out]
   rintro e wc5 ⟨r5, rfl, m5, M5, sb⟩
   have S2 := lh (S1.out.trans sb)
   clear sb S1 y5
   push_cast at M5
   have hle := lh (show r5 ≤ k + 4 * (((j + 1 : Nat) : Int) + (S : Nat)) by push_cast; omega)
   go_wp2
   go_roundw
   case rel => exact ⟨j + 1, r5, by omega, by go_num, rfl, by omega, by rw [← HSS.out]; exact hle.out, S2⟩
   case measure => simp [intOf]; omega
  ·obtain rfl : j = n := by omega
   go_wp2
   go_ret
   exact ⟨_, rfl, by omega, by push_cast; omega, hs.out⟩
set_option maxHeartbeats 4000000 in
theorem markCells_w (v : Value) (ts : List CellD) (k : Int) (L R : Nat) (w : World) (h : CellsZ w L R v ts) (hw : wtCells ts ≤ 1048576) (h0 : 0 ≤ k) (h1 : k ≤ 2305843009213693952) : Calls Tryz.prog 77 #[v, .int .i64 k] w (MarkK L R k (4 * wtCells ts : Nat) w) := by
 obtain ⟨F, hr, hf⟩ := h
 obtain ⟨hn, a, cap, rfl⟩ := hr.slice
 obtain ⟨n, hnn⟩ : ∃ n, n = ts.length := ⟨_, rfl⟩
 obtain ⟨g, hg⟩ : ∃ g : Nat → Nat, g = fun i => wtCell (cn ts i) := ⟨_, rfl⟩
 unfold wtCells at hw ⊢
 rw [← hg, ← hnn] at hw ⊢
 rw [← hnn] at hr hf hn
 have H := lh hr; have HF := lh hf; have HG := lh hg
 clear hr hf hnn hg
 go_enter Tryz.func77, Tryz.ntmps77
 go_wp2
 go_loopw [5, 1] (fun i q wr => ∃ (j : Nat) (r : Int), j ≤ n ∧ i = .int .i64 j ∧ q = .int .i64 r ∧ k ≤ r ∧ r ≤ k + 4 * ((j : Int) + (sumN g j : Nat)) ∧ Hid (Sk L R w wr)) (fun i _ _ => n - (intOf i).toNat)
 case atStart => exact ⟨0, k, by omega, rfl, rfl, by omega, by rw [sumN_zero]; omega, lh (Sk.refl _ _ _)⟩
 case round =>
  obtain ⟨j, r, hj, rfl, rfl, hr0, hr1, hs⟩ := hrel
  by_cases hjn : j < n
  ·have hss := sumN_succ g j
   have hat := sumN_at g hjn
   have hgj : g j = wtPins (cn ts j).pins + wtArcs (cn ts j).arcs + (cn ts j).truth.length := by rw [HG.out]; rfl
   have hpn : (cn ts j).pins.length ≤ wtPins (cn ts j).pins := by unfold wtPins; omega
   obtain ⟨W0, hW0⟩ : ∃ W, W = wtPins (cn ts j).pins := ⟨_, rfl⟩
   rw [← hW0] at hgj hpn
   have HW0 := lh hW0
   clear hW0
   obtain ⟨W1, hW1⟩ : ∃ W, W = wtArcs (cn ts j).arcs := ⟨_, rfl⟩
   rw [← hW1] at hgj
   have HW1 := lh hW1
   clear hW1
   obtain ⟨G, hG⟩ : ∃ G, G = g j := ⟨_, rfl⟩
   rw [← hG] at hss hat hgj
   clear hG
   obtain ⟨S, hS⟩ : ∃ S, S = sumN g (j + 1) := ⟨_, rfl⟩
   obtain ⟨S0, hS0⟩ : ∃ S0, S0 = sumN g j := ⟨_, rfl⟩
   rw [← hS, ← hS0] at hss
   rw [← hS0] at hr1 hat
   have HSS := lh hS
   clear hS hS0
   obtain ⟨k0, k1, k5, k6, t2, t3, t4⟩ := HF.out j hjn
   obtain ⟨p2, q2, e2⟩ := t2.slice; obtain ⟨p3, q3, e3⟩ := t3.slice; obtain ⟨p4, q4, e4⟩ := t4.slice.2
   clear t2 t3 t4
   obtain ⟨g0, rfl, hL, hR, _⟩ := (H.out.sk hs.out).at hjn
   go_wp2_with fail
   go_at_call 112
   refine (markText_any r _ (by omega) (by omega)).mono ?_
   rintro e wt ⟨⟨s, rfl⟩, hb⟩
   have sa := hs.out.call hb
   obtain ⟨g', eg, _, _, hx⟩ := (H.out.sk sa).at hjn
   obtain rfl : g0 = g' := by injection eg with eg; injection eg
   obtain ⟨⟨u0, y0, z0, _⟩, f0⟩ := hx 0 (by omega)
   rw [k0] at z0
   obtain ⟨⟨u1, y1, z1, _⟩, f1⟩ := hx 1 (by omega)
   rw [k1] at z1
   obtain ⟨⟨u2, y2, _, c2⟩, _⟩ := hx 2 (by omega)
   rw [c2 (by rw [e2]; rfl), e2] at y2
   rw [Nat.add_zero] at y0 f0
   have s0 := Sk.set (g := g0) (o := j * 7) (u := .string s) sa (by exact y0) z0 rfl hL hR
   have s1 := Sk.set (g := g0) (o := j * 7 + 1) (u := .int .i64 (r + 1)) s0 (by rw [cs_other (by omega)]; exact y1) z1 rfl hL hR
   have S0 := lh s1
   clear hx eg sa s0 z0 s1 z1 hs c2 hb
   go_wp2_with fail
   go_at_call 113
   refine (markPins_k _ (cn ts j).pins.length _ L R _ (e2 ▸ ((HF.out j hjn).sk S0.out).2.2.2.2.1) (by omega) (by omega)).mono ?_
   rintro e wc2 ⟨r2, rfl, m2, M2, sb⟩
   have S1 := lh (S0.out.trans sb)
   clear sb S0 y0 f0 y1 f1 y2
   push_cast at M2
   obtain ⟨g', eg, _, _, hx⟩ := (H.out.sk S1.out).at hjn
   obtain rfl : g0 = g' := by injection eg with eg; injection eg
   obtain ⟨⟨u3, y3, _, c3⟩, _⟩ := hx 3 (by omega)
   rw [c3 (by rw [e3]; rfl), e3] at y3
   clear hx eg c3
   go_wp2_with fail
   go_at_call 114
   refine (markArcs_w _ (cn ts j).arcs _ L R _ (e3 ▸ ((HF.out j hjn).sk S1.out).2.2.2.2.2.1) (by rw [← HW1.out]; omega) (by omega) (by omega)).mono ?_
   rw [← HW1.out]
   rintro e wc3 ⟨r3, rfl, m3, M3, sb⟩
   have S2 := lh (S1.out.trans sb)
   clear sb S1 y3
   push_cast at M3
   obtain ⟨g', eg, _, _, hx⟩ := (H.out.sk S2.out).at hjn
   obtain rfl : g0 = g' := by injection eg with eg; injection eg
   obtain ⟨⟨u4, y4, _, c4⟩, _⟩ := hx 4 (by omega)
   rw [c4 (by rw [e4]; rfl), e4] at y4
   clear hx eg c4
   go_wp2_with fail
   go_at_call 17
   refine (markInts_k _ (cn ts j).truth.length _ L R _ (e4 ▸ ((HF.out j hjn).sk S2.out).2.2.2.2.2.2) (by omega) (by omega)).mono ?_
   rintro e wc4 ⟨r4, rfl, m4, M4, sb⟩
   have S3 := lh (S2.out.trans sb)
   clear sb S2 y4
   have sa := S3.out
   obtain ⟨g', eg, _, _, hx⟩ := (H.out.sk sa).at hjn
   obtain rfl : g0 = g' := by injection eg with eg; injection eg
   obtain ⟨⟨u5, y5, z5, _⟩, f5⟩ := hx 5 (by omega)
   rw [k5] at z5
   obtain ⟨⟨u6, y6, z6, _⟩, f6⟩ := hx 6 (by omega)
   rw [k6] at z6
   have s5 := Sk.set (g := g0) (o := j * 7 + 5) (u := .int .i64 (r4)) sa (by exact y5) z5 rfl hL hR
   have s6 := Sk.set (g := g0) (o := j * 7 + 6) (u := .int .i64 (r4 + 1)) s5 (by rw [cs_other (by omega)]; exact y6) z6 rfl hL hR
   have S4 := lh s6
   clear hx eg sa s5 z5 s6 z6 S3
   have hle := lh (show r4 + 1 + 1 ≤ k + 4 * (((j + 1 : Nat) : Int) + (S : Nat)) by push_cast; omega)
   go_wp2
   go_roundw
   case rel => exact ⟨j + 1, r4 + 1 + 1, by omega, by go_num, by go_num, by omega, by rw [← HSS.out]; exact hle.out, S4⟩
   case measure => simp [intOf]; omega
  ·obtain rfl : j = n := by omega
   go_wp2
   go_ret
   exact ⟨_, rfl, by omega, by push_cast; omega, hs.out⟩
set_option maxHeartbeats 1000000 in
theorem markTx_w (v : Value) (n : Nat) (k : Int) (L R : Nat) (w : World) (h : TxZ w L R v n) (h0 : 0 ≤ k) (h1 : k ≤ 5764607523034234880) : Calls Tryz.prog 79 #[v, .int .i64 k] w (MarkK L R k n w) := by
 obtain ⟨F, hr, hf⟩ := h
 obtain ⟨hn, a, cap, rfl⟩ := hr.slice
 have H := lh hr; have HF := lh hf
 clear hr hf
 go_enter Tryz.func79, Tryz.ntmps79
 go_wp2
 go_loopw [5, 1] (fun i q wr => ∃ (j : Nat) (r : Int), j ≤ n ∧ i = .int .i64 j ∧ q = .int .i64 r ∧ k ≤ r ∧ r ≤ k + j ∧ Hid (Sk L R w wr)) (fun i _ _ => n - (intOf i).toNat)
 case atStart => exact ⟨0, k, by omega, rfl, rfl, by omega, by omega, lh (Sk.refl _ _ _)⟩
 case round =>
  obtain ⟨j, r, hj, rfl, rfl, hr0, hr1, hs⟩ := hrel
  by_cases hjn : j < n
  ·obtain ⟨g, rfl, hL, hR, _⟩ := (H.out.sk hs.out).at hjn
   go_wp2_with fail
   go_at_call 112
   refine (markText_any r _ (by omega) (by omega)).mono ?_
   rintro e wa ⟨⟨s, rfl⟩, hb⟩
   have sa := hs.out.call hb
   obtain ⟨g', eg, _, _, hx⟩ := (H.out.sk sa).at hjn
   obtain rfl : g = g' := by injection eg with eg; injection eg
   obtain ⟨⟨u0, y0, z0, _⟩, f0⟩ := hx 0 (by omega)
   rw [HF.out j hjn] at z0
   simp only [Nat.mul_one, Nat.add_zero] at y0 f0
   have hsn := lh (Sk.set (g := g) (o := j) (u := .string s) sa y0 z0 rfl hL hR)
   clear hx eg sa hs z0
   go_wp2
   go_roundw
   case rel => exact ⟨j + 1, r + 1, by omega, by go_num, by go_num, by omega, by omega, hsn⟩
   case measure => simp [intOf]; omega
  ·obtain rfl : j = n := by omega
   go_wp2
   go_ret
   exact ⟨_, rfl, by omega, by omega, hs.out⟩
set_option maxHeartbeats 4000000 in
theorem markInsts_w (v : Value) (ts : List InstD) (k : Int) (L R : Nat) (w : World) (h : InstsZ w L R v ts) (hw : wtInsts ts ≤ 1048576) (h0 : 0 ≤ k) (h1 : k ≤ 2305843009213693952) : Calls Tryz.prog 78 #[v, .int .i64 k] w (MarkK L R k (4 * wtInsts ts : Nat) w) := by
 obtain ⟨F, hr, hf⟩ := h
 obtain ⟨hn, a, cap, rfl⟩ := hr.slice
 obtain ⟨n, hnn⟩ : ∃ n, n = ts.length := ⟨_, rfl⟩
 obtain ⟨g, hg⟩ : ∃ g : Nat → Nat, g = fun i => wtInst (inn ts i) := ⟨_, rfl⟩
 unfold wtInsts at hw ⊢
 rw [← hg, ← hnn] at hw ⊢
 rw [← hnn] at hr hf hn
 have H := lh hr; have HF := lh hf; have HG := lh hg
 clear hr hf hnn hg
 go_enter Tryz.func78, Tryz.ntmps78
 go_wp2
 go_loopw [5, 1] (fun i q wr => ∃ (j : Nat) (r : Int), j ≤ n ∧ i = .int .i64 j ∧ q = .int .i64 r ∧ k ≤ r ∧ r ≤ k + 4 * ((j : Int) + (sumN g j : Nat)) ∧ Hid (Sk L R w wr)) (fun i _ _ => n - (intOf i).toNat)
 case atStart => exact ⟨0, k, by omega, rfl, rfl, by omega, by rw [sumN_zero]; omega, lh (Sk.refl _ _ _)⟩
 case round =>
  obtain ⟨j, r, hj, rfl, rfl, hr0, hr1, hs⟩ := hrel
  by_cases hjn : j < n
  ·have hss := sumN_succ g j
   have hat := sumN_at g hjn
   have hgj : g j = (inn ts j).nets.length := by rw [HG.out]; rfl
   obtain ⟨G, hG⟩ : ∃ G, G = g j := ⟨_, rfl⟩
   rw [← hG] at hss hat hgj
   clear hG
   obtain ⟨S, hS⟩ : ∃ S, S = sumN g (j + 1) := ⟨_, rfl⟩
   obtain ⟨S0, hS0⟩ : ∃ S0, S0 = sumN g j := ⟨_, rfl⟩
   rw [← hS, ← hS0] at hss
   rw [← hS0] at hr1 hat
   have HSS := lh hS
   clear hS hS0
   obtain ⟨k0, k1, t2⟩ := HF.out j hjn
   obtain ⟨p2, q2, e2⟩ := t2.slice.2
   clear t2
   obtain ⟨g0, rfl, hL, hR, _⟩ := (H.out.sk hs.out).at hjn
   go_wp2_with fail
   go_at_call 112
   refine (markText_any r _ (by omega) (by omega)).mono ?_
   rintro e wt ⟨⟨s, rfl⟩, hb⟩
   have sa := hs.out.call hb
   obtain ⟨g', eg, _, _, hx⟩ := (H.out.sk sa).at hjn
   obtain rfl : g0 = g' := by injection eg with eg; injection eg
   obtain ⟨⟨u0, y0, z0, _⟩, f0⟩ := hx 0 (by omega)
   rw [k0] at z0
   obtain ⟨⟨u1, y1, z1, _⟩, f1⟩ := hx 1 (by omega)
   rw [k1] at z1
   obtain ⟨⟨u2, y2, _, c2⟩, _⟩ := hx 2 (by omega)
   rw [c2 (by rw [e2]; rfl), e2] at y2
   rw [Nat.add_zero] at y0 f0
   have s0 := Sk.set (g := g0) (o := j * 3) (u := .string s) sa (by exact y0) z0 rfl hL hR
   have s1 := Sk.set (g := g0) (o := j * 3 + 1) (u := .int .i64 (r + 1)) s0 (by rw [cs_other (by omega)]; exact y1) z1 rfl hL hR
   have S0 := lh s1
   clear hx eg sa s0 z0 s1 z1 hs c2 hb
   go_wp2_with fail
   go_at_call 17
   refine (markInts_k _ (inn ts j).nets.length _ L R _ (e2 ▸ ((HF.out j hjn).sk S0.out).2.2) (by omega) (by omega)).mono ?_
   rintro e wc2 ⟨r2, rfl, m2, M2, sb⟩
   have S1 := lh (S0.out.trans sb)
   clear sb S0 y0 f0 y1 f1 y2
   have hle := lh (show r2 ≤ k + 4 * (((j + 1 : Nat) : Int) + (S : Nat)) by push_cast; omega)
   go_wp2
   go_roundw
   case rel => exact ⟨j + 1, r2, by omega, by go_num, rfl, by omega, by rw [← HSS.out]; exact hle.out, S1⟩
   case measure => simp [intOf]; omega
  ·obtain rfl : j = n := by omega
   go_wp2
   go_ret
   exact ⟨_, rfl, by omega, by push_cast; omega, hs.out⟩
set_option maxHeartbeats 4000000 in
theorem markPorts_w (v : Value) (ts : List PortD) (k : Int) (L R : Nat) (w : World) (h : PortsZ w L R v ts) (hw : wtPorts ts ≤ 1048576) (h0 : 0 ≤ k) (h1 : k ≤ 2305843009213693952) : Calls Tryz.prog 80 #[v, .int .i64 k] w (MarkK L R k (4 * wtPorts ts : Nat) w) := by
 obtain ⟨F, hr, hf⟩ := h
 obtain ⟨hn, a, cap, rfl⟩ := hr.slice
 obtain ⟨n, hnn⟩ : ∃ n, n = ts.length := ⟨_, rfl⟩
 obtain ⟨g, hg⟩ : ∃ g : Nat → Nat, g = fun i => wtPort (ptn ts i) := ⟨_, rfl⟩
 unfold wtPorts at hw ⊢
 rw [← hg, ← hnn] at hw ⊢
 rw [← hnn] at hr hf hn
 have H := lh hr; have HF := lh hf; have HG := lh hg
 clear hr hf hnn hg
 go_enter Tryz.func80, Tryz.ntmps80
 go_wp2
 go_loopw [5, 1] (fun i q wr => ∃ (j : Nat) (r : Int), j ≤ n ∧ i = .int .i64 j ∧ q = .int .i64 r ∧ k ≤ r ∧ r ≤ k + 4 * ((j : Int) + (sumN g j : Nat)) ∧ Hid (Sk L R w wr)) (fun i _ _ => n - (intOf i).toNat)
 case atStart => exact ⟨0, k, by omega, rfl, rfl, by omega, by rw [sumN_zero]; omega, lh (Sk.refl _ _ _)⟩
 case round =>
  obtain ⟨j, r, hj, rfl, rfl, hr0, hr1, hs⟩ := hrel
  by_cases hjn : j < n
  ·have hss := sumN_succ g j
   have hat := sumN_at g hjn
   have hgj : g j = 0 := by rw [HG.out]; rfl
   obtain ⟨G, hG⟩ : ∃ G, G = g j := ⟨_, rfl⟩
   rw [← hG] at hss hat hgj
   clear hG
   obtain ⟨S, hS⟩ : ∃ S, S = sumN g (j + 1) := ⟨_, rfl⟩
   obtain ⟨S0, hS0⟩ : ∃ S0, S0 = sumN g j := ⟨_, rfl⟩
   rw [← hS, ← hS0] at hss
   rw [← hS0] at hr1 hat
   have HSS := lh hS
   clear hS hS0
   obtain ⟨k0, k1, k2⟩ := HF.out j hjn
   obtain ⟨g0, rfl, hL, hR, _⟩ := (H.out.sk hs.out).at hjn
   go_wp2_with fail
   go_at_call 112
   refine (markText_any r _ (by omega) (by omega)).mono ?_
   rintro e wt ⟨⟨s, rfl⟩, hb⟩
   have sa := hs.out.call hb
   obtain ⟨g', eg, _, _, hx⟩ := (H.out.sk sa).at hjn
   obtain rfl : g0 = g' := by injection eg with eg; injection eg
   obtain ⟨⟨u0, y0, z0, _⟩, f0⟩ := hx 0 (by omega)
   rw [k0] at z0
   obtain ⟨⟨u1, y1, z1, _⟩, f1⟩ := hx 1 (by omega)
   rw [k1] at z1
   obtain ⟨⟨u2, y2, z2, _⟩, f2⟩ := hx 2 (by omega)
   rw [k2] at z2
   rw [Nat.add_zero] at y0 f0
   have s0 := Sk.set (g := g0) (o := j * 3) (u := .string s) sa (by exact y0) z0 rfl hL hR
   have s1 := Sk.set (g := g0) (o := j * 3 + 1) (u := .int .i64 (r + 1)) s0 (by rw [cs_other (by omega)]; exact y1) z1 rfl hL hR
   have s2 := Sk.set (g := g0) (o := j * 3 + 2) (u := .int .i64 (r + 1 + 1)) s1 (by rw [cs_other (by omega), cs_other (by omega)]; exact y2) z2 rfl hL hR
   have S0 := lh s2
   clear hx eg sa s0 z0 s1 z1 s2 z2 hs hb
   have hle := lh (show r + 1 + 1 + 1 ≤ k + 4 * (((j + 1 : Nat) : Int) + (S : Nat)) by push_cast; omega)
   go_wp2
   go_roundw
   case rel => exact ⟨j + 1, r + 1 + 1 + 1, by omega, by go_num, by go_num, by omega, by rw [← HSS.out]; exact hle.out, S0⟩
   case measure => simp [intOf]; omega
  ·obtain rfl : j = n := by omega
   go_wp2
   go_ret
   exact ⟨_, rfl, by omega, by push_cast; omega, hs.out⟩
set_option maxHeartbeats 4000000 in
theorem markWires_w (v : Value) (ts : List WireD) (k : Int) (L R : Nat) (w : World) (h : WiresZ w L R v ts) (hw : wtWires ts ≤ 1048576) (h0 : 0 ≤ k) (h1 : k ≤ 2305843009213693952) : Calls Tryz.prog 44 #[v, .int .i64 k] w (MarkK L R k (4 * wtWires ts : Nat) w) := by
 obtain ⟨F, hr, hf⟩ := h
 obtain ⟨hn, a, cap, rfl⟩ := hr.slice
 obtain ⟨n, hnn⟩ : ∃ n, n = ts.length := ⟨_, rfl⟩
 obtain ⟨g, hg⟩ : ∃ g : Nat → Nat, g = fun i => wtWire (wrn ts i) := ⟨_, rfl⟩
 unfold wtWires at hw ⊢
 rw [← hg, ← hnn] at hw ⊢
 rw [← hnn] at hr hf hn
 have H := lh hr; have HF := lh hf; have HG := lh hg
 clear hr hf hnn hg
 go_enter Tryz.func44, Tryz.ntmps44
 go_wp2
 go_loopw [5, 1] (fun i q wr => ∃ (j : Nat) (r : Int), j ≤ n ∧ i = .int .i64 j ∧ q = .int .i64 r ∧ k ≤ r ∧ r ≤ k + 4 * ((j : Int) + (sumN g j : Nat)) ∧ Hid (Sk L R w wr)) (fun i _ _ => n - (intOf i).toNat)
 case atStart => exact ⟨0, k, by omega, rfl, rfl, by omega, by rw [sumN_zero]; omega, lh (Sk.refl _ _ _)⟩
 case round =>
  obtain ⟨j, r, hj, rfl, rfl, hr0, hr1, hs⟩ := hrel
  by_cases hjn : j < n
  ·have hss := sumN_succ g j
   have hat := sumN_at g hjn
   have hgj : g j = (wrn ts j).parent.length + (wrn ts j).res.length + (wrn ts j).cap.length + (wrn ts j).sink.length := by rw [HG.out]; rfl
   obtain ⟨G, hG⟩ : ∃ G, G = g j := ⟨_, rfl⟩
   rw [← hG] at hss hat hgj
   clear hG
   obtain ⟨S, hS⟩ : ∃ S, S = sumN g (j + 1) := ⟨_, rfl⟩
   obtain ⟨S0, hS0⟩ : ∃ S0, S0 = sumN g j := ⟨_, rfl⟩
   rw [← hS, ← hS0] at hss
   rw [← hS0] at hr1 hat
   have HSS := lh hS
   clear hS hS0
   obtain ⟨t0, t1, t2, t3⟩ := HF.out j hjn
   obtain ⟨p0, q0, e0⟩ := t0.slice.2; obtain ⟨p1, q1, e1⟩ := t1.slice.2; obtain ⟨p2, q2, e2⟩ := t2.slice.2; obtain ⟨p3, q3, e3⟩ := t3.slice.2
   clear t0 t1 t2 t3
   obtain ⟨g0, rfl, hL, hR, _⟩ := (H.out.sk hs.out).at hjn
   obtain ⟨g', eg, _, _, hx⟩ := (H.out.sk hs.out).at hjn
   obtain rfl : g0 = g' := by injection eg with eg; injection eg
   obtain ⟨⟨u0, y0, _, c0⟩, _⟩ := hx 0 (by omega)
   rw [c0 (by rw [e0]; rfl), e0, Nat.add_zero] at y0
   clear hx eg c0
   go_wp2_with fail
   go_at_call 17
   refine (markInts_k _ (wrn ts j).parent.length _ L R _ (e0 ▸ ((HF.out j hjn).sk hs.out).1) (by omega) (by omega)).mono ?_
   rintro e wc0 ⟨r0, rfl, m0, M0, sb⟩
   have S0 := lh (hs.out.trans sb)
   clear sb hs y0
   obtain ⟨g', eg, _, _, hx⟩ := (H.out.sk S0.out).at hjn
   obtain rfl : g0 = g' := by injection eg with eg; injection eg
   obtain ⟨⟨u1, y1, _, c1⟩, _⟩ := hx 1 (by omega)
   rw [c1 (by rw [e1]; rfl), e1] at y1
   clear hx eg c1
   go_wp2_with fail
   go_at_call 17
   refine (markInts_k _ (wrn ts j).res.length _ L R _ (e1 ▸ ((HF.out j hjn).sk S0.out).2.1) (by omega) (by omega)).mono ?_
   rintro e wc1 ⟨r1, rfl, m1, M1, sb⟩
   have S1 := lh (S0.out.trans sb)
   clear sb S0 y1
   obtain ⟨g', eg, _, _, hx⟩ := (H.out.sk S1.out).at hjn
   obtain rfl : g0 = g' := by injection eg with eg; injection eg
   obtain ⟨⟨u2, y2, _, c2⟩, _⟩ := hx 2 (by omega)
   rw [c2 (by rw [e2]; rfl), e2] at y2
   clear hx eg c2
   go_wp2_with fail
   go_at_call 17
   refine (markInts_k _ (wrn ts j).cap.length _ L R _ (e2 ▸ ((HF.out j hjn).sk S1.out).2.2.1) (by omega) (by omega)).mono ?_
   rintro e wc2 ⟨r2, rfl, m2, M2, sb⟩
   have S2 := lh (S1.out.trans sb)
   clear sb S1 y2
   obtain ⟨g', eg, _, _, hx⟩ := (H.out.sk S2.out).at hjn
   obtain rfl : g0 = g' := by injection eg with eg; injection eg
   obtain ⟨⟨u3, y3, _, c3⟩, _⟩ := hx 3 (by omega)
   rw [c3 (by rw [e3]; rfl), e3] at y3
   clear hx eg c3
   go_wp2_with fail
   go_at_call 17
   refine (markInts_k _ (wrn ts j).sink.length _ L R _ (e3 ▸ ((HF.out j hjn).sk S2.out).2.2.2) (by omega) (by omega)).mono ?_
   rintro e wc3 ⟨r3, rfl, m3, M3, sb⟩
   have S3 := lh (S2.out.trans sb)
   clear sb S2 y3
   have hle := lh (show r3 ≤ k + 4 * (((j + 1 : Nat) : Int) + (S : Nat)) by push_cast; omega)
   go_wp2
   go_roundw
   case rel => exact ⟨j + 1, r3, by omega, by go_num, rfl, by omega, by rw [← HSS.out]; exact hle.out, S3⟩
   case measure => simp [intOf]; omega
  ·obtain rfl : j = n := by omega
   go_wp2
   go_ret
   exact ⟨_, rfl, by omega, by push_cast; omega, hs.out⟩
theorem markLibrary_w (v : Value) (ts : List CellD) (k : Int) (L R : Nat) (w : World) (h : CellsZ w L R v ts) (hw : wtCells ts ≤ 1048576) (h0 : 0 ≤ k) (h1 : k ≤ 1000000000) : Calls Tryz.prog 42 #[.agg #[v], .int .i64 k] w (MarkK L R k (4 * wtCells ts : Nat) w) := by
 have s0 : Sk L R w (w.alloc (Obj.cells #[v] 39)) := Sk.below eX
 have HK := lh (h.sk s0)
 have S0 := lh s0
 clear h s0
 go_enter Tryz.func42, Tryz.ntmps42
 go_wp2_with fail
 go_at_call 77
 refine (markCells_w _ ts _ L R _ HK.out hw h0 (by omega)).mono ?_
 rintro e wa ⟨ra, rfl, ha0, ha1, sa⟩
 have SA := lh (S0.out.trans sa)
 clear sa
 go_wp2_with fail
 go_ret
 exact ⟨_, rfl, by omega, by omega, SA.out⟩
def DesZ (w : World) (L R : Nat) (f : Nat → Value) (d : DesD) : Prop := InstsZ w L R (f 0) d.insts ∧ TxZ w L R (f 1) d.nets.length ∧ PortsZ w L R (f 2) d.ports
theorem DesZ.sk {w w' : World} {L R L' R' : Nat} {f : Nat → Value} {d : DesD} (h : DesZ w L R f d) (s : Sk L' R' w w') : DesZ w' L R f d := ⟨h.1.sk s, h.2.1.sk s, h.2.2.sk s⟩
theorem OwnDes.marking {w : World} {L : Nat} {f : Nat → Value} {d : DesD} (h : OwnDes w L f d) (hm : DesSm d) : DesZ w L w.heap.size f d := ⟨h.1.marking hm.1, h.2.1.marking hm.2.1, h.2.2.marking hm.2.2⟩
set_option maxHeartbeats 2000000 in
theorem markDes_w (f : Nat → Value) (x : DesD) (k : Int) (L R : Nat) (w : World) (h : DesZ w L R f x) (hw : wtDes x ≤ 1048576) (h0 : 0 ≤ k) (h1 : k ≤ 100000000) (hR : R ≤ w.heap.size) : Calls Tryz.prog 43 #[.agg #[f 0, f 1, f 2], .int .i64 k] w (MarkK L R k (4 * wtDes x : Nat) w) := by
 unfold wtDes at hw ⊢
 obtain ⟨W0, hW0⟩ : ∃ W0, W0 = w.alloc (Obj.cells #[f 0, f 1, f 2] 43) := ⟨_, rfl⟩
 have c0 : W0.cell? ⟨w.heap.size, 0, none⟩ = some (f 0) := by rw [hW0]; simp [go_sem]
 have c1 : W0.cell? ⟨w.heap.size, 1, none⟩ = some (f 1) := by rw [hW0]; simp [go_sem]
 have c2 : W0.cell? ⟨w.heap.size, 2, none⟩ = some (f 2) := by rw [hW0]; simp [go_sem]
 have s0 : Sk L R w W0 := by rw [hW0]; exact Sk.below eX
 have ⟨x0, x1, x2⟩ := h
 have X0 := lh (x0.sk s0)
 have X1 := lh (x1.sk s0)
 have X2 := lh (x2.sk s0)
 have S0 := lh s0
 have HW0 := lh hW0
 have C0 := lh c0
 have C1 := lh c1
 have C2 := lh c2
 clear h hW0 s0 x0 x1 x2 c0 c1 c2
 go_enter Tryz.func43, Tryz.ntmps43
 have c0 := C0.out
 go_wp2_with fail
 rw [← HW0.out]
 go_at_call 78
 refine (markInsts_w _ x.insts _ L R _ X0.out (by omega) (by omega) (by omega)).mono ?_
 rintro e wc0 ⟨r0, rfl, m0, M0, sb⟩
 push_cast at M0
 have S1 := lh (S0.out.trans sb)
 have X1' := lh (X1.out.sk sb); clear X1; have X1 := X1'; clear X1'
 have X2' := lh (X2.out.sk sb); clear X2; have X2 := X2'; clear X2'
 have C1' := lh (sb.keepC C1.out (.inr hR)); clear C1; have C1 := C1'; clear C1'
 have C2' := lh (sb.keepC C2.out (.inr hR)); clear C2; have C2 := C2'; clear C2'
 clear sb c0
 have c1 := C1.out
 go_wp2_with fail
 go_at_call 79
 refine (markTx_w _ x.nets.length _ L R _ X1.out (by omega) (by omega)).mono ?_
 rintro e wc1 ⟨r1, rfl, m1, M1, sb⟩
 have S2 := lh (S1.out.trans sb)
 have X2' := lh (X2.out.sk sb); clear X2; have X2 := X2'; clear X2'
 have C2' := lh (sb.keepC C2.out (.inr hR)); clear C2; have C2 := C2'; clear C2'
 clear sb c1
 have c2 := C2.out
 go_wp2_with fail
 go_at_call 80
 refine (markPorts_w _ x.ports _ L R _ X2.out (by omega) (by omega) (by omega)).mono ?_
 rintro e wc2 ⟨r2, rfl, m2, M2, sb⟩
 push_cast at M2
 have S3 := lh (S2.out.trans sb)
 clear sb c2
 go_wp2_with fail
 go_ret
 exact ⟨_, rfl, by omega, by push_cast; omega, S3.out⟩
def BlkZ (w : World) (L R : Nat) (f : Nat → Value) (z : BlkD) : Prop := CellsZ w L R (f 0) z.lib ∧ DesZ w L R (vec [f 1, f 2, f 3]) z.des ∧ WiresZ w L R (f 4) z.wires
theorem BlkZ.sk {w w' : World} {L R L' R' : Nat} {f : Nat → Value} {z : BlkD} (h : BlkZ w L R f z) (s : Sk L' R' w w') : BlkZ w' L R f z := ⟨h.1.sk s, h.2.1.sk s, h.2.2.sk s⟩
theorem OwnBlk.marking {w : World} {L : Nat} {f : Nat → Value} {z : BlkD} (h : OwnBlk w L f z) (hm : BlkSm z) : BlkZ w L w.heap.size f z := ⟨h.1.marking hm.1, h.2.1.marking hm.2.1, h.2.2.marking hm.2.2⟩
set_option maxHeartbeats 2000000 in
theorem markBlk_w (f : Nat → Value) (x : BlkD) (k : Int) (L R : Nat) (w : World) (h : BlkZ w L R f x) (hw : wtBlk x ≤ 1048576) (h0 : 0 ≤ k) (h1 : k ≤ 1000000) (hR : R ≤ w.heap.size) : Calls Tryz.prog 16 #[.agg #[f 0, f 1, f 2, f 3, f 4], .int .i64 k] w (MarkK L R k (4 * wtBlk x : Nat) w) := by
 unfold wtBlk at hw ⊢
 obtain ⟨W0, hW0⟩ : ∃ W0, W0 = w.alloc (Obj.cells #[f 0, f 1, f 2, f 3, f 4] 46) := ⟨_, rfl⟩
 have c0 : W0.cell? ⟨w.heap.size, 0, none⟩ = some (f 0) := by rw [hW0]; simp [go_sem]
 have c1 : W0.cell? ⟨w.heap.size, 1, none⟩ = some (f 1) := by rw [hW0]; simp [go_sem]
 have c2 : W0.cell? ⟨w.heap.size, 2, none⟩ = some (f 2) := by rw [hW0]; simp [go_sem]
 have c3 : W0.cell? ⟨w.heap.size, 3, none⟩ = some (f 3) := by rw [hW0]; simp [go_sem]
 have c4 : W0.cell? ⟨w.heap.size, 4, none⟩ = some (f 4) := by rw [hW0]; simp [go_sem]
 have s0 : Sk L R w W0 := by rw [hW0]; exact Sk.below eX
 have ⟨x0, x1, x2⟩ := h
 have X0 := lh (x0.sk s0)
 have X1 := lh (x1.sk s0)
 have X2 := lh (x2.sk s0)
 have S0 := lh s0
 have HW0 := lh hW0
 have C0 := lh c0
 have C1 := lh c1
 have C2 := lh c2
 have C3 := lh c3
 have C4 := lh c4
 clear h hW0 s0 x0 x1 x2 c0 c1 c2 c3 c4
 go_enter Tryz.func16, Tryz.ntmps16
 have c0 := C0.out
 go_wp2_with fail
 rw [← HW0.out]
 go_at_call 42
 refine (markLibrary_w _ x.lib _ L R _ X0.out (by omega) (by omega) (by omega)).mono ?_
 rintro e wc0 ⟨r0, rfl, m0, M0, sb⟩
 push_cast at M0
 have S1 := lh (S0.out.trans sb)
 have X1' := lh (X1.out.sk sb); clear X1; have X1 := X1'; clear X1'
 have X2' := lh (X2.out.sk sb); clear X2; have X2 := X2'; clear X2'
 have C1' := lh (sb.keepC C1.out (.inr hR)); clear C1; have C1 := C1'; clear C1'
 have C2' := lh (sb.keepC C2.out (.inr hR)); clear C2; have C2 := C2'; clear C2'
 have C3' := lh (sb.keepC C3.out (.inr hR)); clear C3; have C3 := C3'; clear C3'
 have C4' := lh (sb.keepC C4.out (.inr hR)); clear C4; have C4 := C4'; clear C4'
 clear sb c0
 have c1 := C1.out
 have c2 := C2.out
 have c3 := C3.out
 go_wp2_with fail
 go_at_call 43
 refine (markDes_w (vec [f 1, f 2, f 3]) x.des _ L R _ X1.out (by omega) (by omega) (by omega) (Nat.le_trans hR S1.out.size)).mono ?_
 rintro e wc1 ⟨r1, rfl, m1, M1, sb⟩
 push_cast at M1
 have S2 := lh (S1.out.trans sb)
 have X2' := lh (X2.out.sk sb); clear X2; have X2 := X2'; clear X2'
 have C4' := lh (sb.keepC C4.out (.inr hR)); clear C4; have C4 := C4'; clear C4'
 clear sb c1 c2 c3
 have c4 := C4.out
 go_wp2_with fail
 go_at_call 44
 refine (markWires_w _ x.wires _ L R _ X2.out (by omega) (by omega) (by omega)).mono ?_
 rintro e wc2 ⟨r2, rfl, m2, M2, sb⟩
 push_cast at M2
 have S3 := lh (S2.out.trans sb)
 clear sb c4
 go_wp2_with fail
 go_ret
 exact ⟨_, rfl, by omega, by push_cast; omega, S3.out⟩
end Go.Proofs.YtkpfbnffhhmokaaGreat
