/-
Four integer lists of a call's own; the laws' own helpers that mark a wire's memory and look whether the marks are still there.
-/
import Derived.Test.YtejomclnagakoaaMark
import Derived.Test.YtejomclnagakoaaConst
import Derived.Test.YtejomclnagakoaaWir
namespace Go.Proofs.Ytejomclnagakoaa
open Go.ChangeShapes Go.WideShapes Go.ChangeAt Go.RowKit
set_option linter.unusedVariables false
def W4 (w : World) (B : Nat) (u0 u1 u2 u3 : Value) (a b c d : List Int) : Prop := OwnS w B u0 a ∧ OwnS w B u1 b ∧ OwnS w B u2 c ∧ OwnS w B u3 d ∧ Apart u0 u1 ∧ Apart u0 u2 ∧ Apart u0 u3 ∧ Apart u1 u2 ∧ Apart u1 u3 ∧ Apart u2 u3
theorem W4.keep {w w' : World} {B : Nat} {u0 u1 u2 u3 : Value} {a b c d : List Int} (h : W4 w B u0 u1 u2 u3 a b c d) (hb : Below w.heap.size w w') : W4 w' B u0 u1 u2 u3 a b c d := ⟨h.1.keep hb, h.2.1.keep hb, h.2.2.1.keep hb, h.2.2.2.1.keep hb, h.2.2.2.2⟩
theorem W4.mono {w : World} {B : Nat} {u0 u1 u2 u3 : Value} {a b c d : List Int} {C : Nat} (h : W4 w B u0 u1 u2 u3 a b c d) (hC : C ≤ B) : W4 w C u0 u1 u2 u3 a b c d := ⟨h.1.mono hC, h.2.1.mono hC, h.2.2.1.mono hC, h.2.2.2.1.mono hC, h.2.2.2.2⟩
theorem W4.wire {w : World} {B : Nat} {u0 u1 u2 u3 : Value} {a b c d : List Int} (h : W4 w B u0 u1 u2 u3 a b c d) : WireF w w.heap.size (vec [u0, u1, u2, u3]) ⟨a, b, c, d⟩ := ⟨h.1.ints, h.2.1.ints, h.2.2.1.ints, h.2.2.2.1.ints⟩
def B4 (u0 u1 u2 u3 : Value) (g : Nat) : Prop := Blk u0 g ∨ Blk u1 g ∨ Blk u2 g ∨ Blk u3 g
theorem W4.blk {w : World} {B g : Nat} {u0 u1 u2 u3 : Value} {a b c d : List Int} (h : W4 w B u0 u1 u2 u3 a b c d) (hb : B4 u0 u1 u2 u3 g) : B ≤ g ∧ g < w.heap.size := by
  rcases hb with hb | hb | hb | hb
  · exact h.1.blk hb
  · exact h.2.1.blk hb
  · exact h.2.2.1.blk hb
  · exact h.2.2.2.1.blk hb
theorem W4.but {S : Nat → Prop} {w w' : World} {B : Nat} {u0 u1 u2 u3 : Value} {a b c d : List Int} (h : W4 w B u0 u1 u2 u3 a b c d) (m : But S w w') (ap : ∀ g, B4 u0 u1 u2 u3 g → ¬ S g) : W4 w' B u0 u1 u2 u3 a b c d :=
  ⟨h.1.but m (fun g hg => ap g (.inl hg)), h.2.1.but m (fun g hg => ap g (.inr (.inl hg))), h.2.2.1.but m (fun g hg => ap g (.inr (.inr (.inl hg)))), h.2.2.2.1.but m (fun g hg => ap g (.inr (.inr (.inr hg)))), h.2.2.2.2⟩
def MarkW (u0 u1 u2 u3 : Value) (k : Int) (n0 n1 n2 n3 B : Nat) (w : World) (e : Ending) (w' : World) : Prop :=
  e = .returned (.int .i64 (k + n0 + n1 + n2 + n3)) ∧ W4 w' B u0 u1 u2 u3 (seqI k n0) (seqI (k + n0) n1) (seqI (k + n0 + n1) n2) (seqI (k + n0 + n1 + n2) n3) ∧ But (B4 u0 u1 u2 u3) w w'
set_option maxHeartbeats 2000000 in
theorem markWire_any (u0 u1 u2 u3 : Value) (a b c d : List Int) (k : Int) (B : Nat) (w : World) (h : W4 w B u0 u1 u2 u3 a b c d) (h0 : 0 ≤ k) (h1 : k + a.length + b.length + c.length + d.length ≤ 1000000000000) :
    Calls Try.prog 24 #[.agg #[u0, u1, u2, u3], .int .i64 k] w (MarkW u0 u1 u2 u3 k a.length b.length c.length d.length B w) := by
  obtain ⟨x0, x1, x2, x3, aa⟩ := h
  have nb : ¬ Blk u0 w.heap.size ∧ ¬ Blk u1 w.heap.size ∧ ¬ Blk u2 w.heap.size ∧ ¬ Blk u3 w.heap.size := ⟨fun hb => by have := x0.blk hb; omega, fun hb => by have := x1.blk hb; omega, fun hb => by have := x2.blk hb; omega, fun hb => by have := x3.blk hb; omega⟩
  have X0 := Lib.hid x0; have X1 := Lib.hid x1; have X2 := Lib.hid x2; have X3 := Lib.hid x3; have NB := Lib.hid nb
  have AA := Lib.hid aa
  clear x0 x1 x2 x3 aa nb
  obtain ⟨W0, hW0⟩ : ∃ W0, W0 = w.alloc (Obj.cells #[u0, u1, u2, u3] 41) := ⟨_, rfl⟩
  have c1 : W0.cell? ⟨w.heap.size, 1, none⟩ = some u1 := by rw [hW0]; simp [go_sem]
  have c2 : W0.cell? ⟨w.heap.size, 2, none⟩ = some u2 := by rw [hW0]; simp [go_sem]
  have c3 : W0.cell? ⟨w.heap.size, 3, none⟩ = some u3 := by rw [hW0]; simp [go_sem]
  have hb0 := Lib.hid (show But (B4 u0 u1 u2 u3) w W0 by rw [hW0]; exact but_below ((Below.refl _ _).alloc (Nat.le_refl _) _))
  have C1 := Lib.hid c1; have C2 := Lib.hid c2; have C3 := Lib.hid c3; have HW0 := Lib.hid hW0
  clear c1 c2 c3 hW0
  go_enter Try.func24, Try.ntmps24
  go_wp2_with fail
  rw [← HW0.out]
  go_at_call 52
  refine (markInt64S_any u0 _ k B _ (by rw [HW0.out]; exact X0.out.alloc _) h0 (by omega)).mono ?_
  rintro e w1 ⟨rfl, y0, m0⟩
  have d11 := m0.but.cell C1.out NB.out.1
  have D11 := Lib.hid d11
  have d12 := m0.but.cell C2.out NB.out.1
  have D12 := Lib.hid d12
  clear d12
  have d13 := m0.but.cell C3.out NB.out.1
  have D13 := Lib.hid d13
  clear d13
  have hb1 := Lib.hid (hb0.out.trans (m0.but.weaken (fun _ h => .inl h)))
  have O11 := Lib.hid (show OwnS w1 B u1 _ from OwnS.marked (by rw [HW0.out]; exact X1.out.alloc _) m0 AA.out.1)
  have O12 := Lib.hid (show OwnS w1 B u2 _ from OwnS.marked (by rw [HW0.out]; exact X2.out.alloc _) m0 AA.out.2.1)
  have O13 := Lib.hid (show OwnS w1 B u3 _ from OwnS.marked (by rw [HW0.out]; exact X3.out.alloc _) m0 AA.out.2.2.1)
  have O10 := Lib.hid y0
  clear y0 m0
  go_wp2_with fail
  go_at_call 52
  refine (markInt64S_any u1 _ (k + a.length) B _ O11.out (by omega) (by omega)).mono ?_
  rintro e w2 ⟨rfl, y1, m1⟩
  have d22 := m1.but.cell D12.out NB.out.2.1
  have D22 := Lib.hid d22
  have d23 := m1.but.cell D13.out NB.out.2.1
  have D23 := Lib.hid d23
  clear d23
  have hb2 := Lib.hid (hb1.out.trans (m1.but.weaken (fun _ h => .inr (.inl h))))
  have O20 := Lib.hid (show OwnS w2 B u0 _ from O10.out.marked m1 (AA.out.1).symm)
  have O22 := Lib.hid (show OwnS w2 B u2 _ from O12.out.marked m1 AA.out.2.2.2.1)
  have O23 := Lib.hid (show OwnS w2 B u3 _ from O13.out.marked m1 AA.out.2.2.2.2.1)
  have O21 := Lib.hid y1
  clear y1 m1 d11
  go_wp2_with fail
  go_at_call 52
  refine (markInt64S_any u2 _ (k + a.length + b.length) B _ O22.out (by omega) (by omega)).mono ?_
  rintro e w3 ⟨rfl, y2, m2⟩
  have d33 := m2.but.cell D23.out NB.out.2.2.1
  have D33 := Lib.hid d33
  have hb3 := Lib.hid (hb2.out.trans (m2.but.weaken (fun _ h => .inr (.inr (.inl h)))))
  have O30 := Lib.hid (show OwnS w3 B u0 _ from O20.out.marked m2 (AA.out.2.1).symm)
  have O31 := Lib.hid (show OwnS w3 B u1 _ from O21.out.marked m2 (AA.out.2.2.2.1).symm)
  have O33 := Lib.hid (show OwnS w3 B u3 _ from O23.out.marked m2 AA.out.2.2.2.2.2)
  have O32 := Lib.hid y2
  clear y2 m2 d22
  go_wp2_with fail
  go_at_call 52
  refine (markInt64S_any u3 _ (k + a.length + b.length + c.length) B _ O33.out (by omega) (by omega)).mono ?_
  rintro e w4 ⟨rfl, y3, m3⟩
  have hb4 := Lib.hid (hb3.out.trans (m3.but.weaken (fun _ h => .inr (.inr (.inr h)))))
  have O40 := Lib.hid (show OwnS w4 B u0 _ from O30.out.marked m3 (AA.out.2.2.1).symm)
  have O41 := Lib.hid (show OwnS w4 B u1 _ from O31.out.marked m3 (AA.out.2.2.2.2.1).symm)
  have O42 := Lib.hid (show OwnS w4 B u2 _ from O32.out.marked m3 (AA.out.2.2.2.2.2).symm)
  have O43 := Lib.hid y3
  clear y3 m3 d33
  go_wp2_with fail
  go_ret
  exact ⟨rfl, ⟨O40.out, O41.out, O42.out, O43.out, AA.out⟩, hb4.out⟩
set_option maxHeartbeats 2000000 in
theorem heldWire_any (u0 u1 u2 u3 : Value) (k : Int) (n0 n1 n2 n3 B : Nat) (w : World) (h : W4 w B u0 u1 u2 u3 (seqI k n0) (seqI (k + n0) n1) (seqI (k + n0 + n1) n2) (seqI (k + n0 + n1 + n2) n3)) (h0 : 0 ≤ k) (h1 : k + n0 + n1 + n2 + n3 ≤ 1000000000000) :
    Calls Try.prog 25 #[.agg #[u0, u1, u2, u3], .int .i64 k] w fun e w' => e = .returned (.int .i64 (k + n0 + n1 + n2 + n3)) ∧ Below w.heap.size w w' := by
  have H := Lib.hid h
  clear h
  go_enter Try.func25, Try.ntmps25
  go_wp2_with fail
  go_at_call 53
  refine (heldInt64S_any u0 k n0 B _ (H.out.1.alloc _) (by omega) (by omega)).mono ?_
  rintro e w1 ⟨rfl, rfl⟩
  go_wp2_with fail
  go_at_call 53
  refine (heldInt64S_any u1 (k + n0) n1 B _ (H.out.2.1.alloc _) (by omega) (by omega)).mono ?_
  rintro e w1 ⟨rfl, rfl⟩
  go_wp2_with fail
  go_at_call 53
  refine (heldInt64S_any u2 (k + n0 + n1) n2 B _ (H.out.2.2.1.alloc _) (by omega) (by omega)).mono ?_
  rintro e w1 ⟨rfl, rfl⟩
  go_wp2_with fail
  go_at_call 53
  refine (heldInt64S_any u3 (k + n0 + n1 + n2) n3 B _ (H.out.2.2.2.1.alloc _) (by omega) (by omega)).mono ?_
  rintro e w1 ⟨rfl, rfl⟩
  go_wp2_with fail
  go_ret
  exact ⟨rfl, by (repeat (with_reducible first | exact eR _ _ | assumption | refine eA ?_ _ | refine eD ?_ | refine eN ?_ _ | refine eS ?_ _ | refine eT ?_ (by assumption)))⟩
end Go.Proofs.Ytejomclnagakoaa
