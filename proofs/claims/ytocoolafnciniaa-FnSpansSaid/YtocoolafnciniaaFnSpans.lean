/-
The law FnSpans answers true at every input of its type and leaves its arguments as they were; no condition.
-/
import Derived.Test.YtocoolafnciniaaRows
import Derived.Test.YtocoolafnciniaaDrawS
import Derived.WalkKit
import Derived.ProofKit
import Derived.OpenShut
import Derived.Carry
import Derived.WideKeyArgs
import Derived.Lib.SmallJoins
namespace Go.Proofs.Ytocoolafnciniaa.fnSpans
open Go.ChangeShapes Go.WideShapes Go.ChangeAt Go.RowKit Go.Joins
set_option linter.unusedVariables false

theorem own : ownKnob Try.prog.godebug = none := by kernel_rfl
theorem laidOut : laidOutB Try.prog = true := by kernel_rfl
theorem cells5 : Try.prog.cellsOf 5 = 1 := by kernel_rfl
/-- Blocks of two cells and what they hold. -/
def Has (w : World) : List (Nat × Int × Int) → Prop
  | [] => True
  | x :: r => x.1 < w.heap.size ∧ w.cell? ⟨x.1, 0, none⟩ = some (.int .i64 x.2.1) ∧ w.cell? ⟨x.1, 1, none⟩ = some (.int .i64 x.2.2) ∧ Has w r
theorem Has.keep {w w' : World} : ∀ {L : List (Nat × Int × Int)}, Has w L → Below w.heap.size w w' → Has w' L
  | [], _, _ => trivial
  | _ :: _, ⟨h0, h1, h2, h3⟩, hb => ⟨Nat.lt_of_lt_of_le h0 hb.size, cell_keep h1 hb, cell_keep h2 hb, Has.keep h3 hb⟩
theorem Has.drew {w : World} : ∀ {L : List (Nat × Int × Int)}, Has w L → Has w.drew L
  | [], _ => trivial
  | _ :: _, ⟨h0, h1, h2, h3⟩ => ⟨h0, h1, h2, Has.drew h3⟩
theorem Has.add {w : World} {L : List (Nat × Int × Int)} (h : Has w L) (x y : Int) (t : TypeId) : Has (w.alloc (Obj.cells #[.int .i64 x, .int .i64 y] t)) ((w.heap.size, x, y) :: L) :=
  ⟨by simp, by simp [go_sem], by simp [go_sem], h.keep (ext_alloc (Below.refl _ _) _)⟩
theorem hull2 (a b c d : Int) (h1 : spB a b = true) (h2 : spB c d = true) : hE [(a, b), (c, d)] = min a c ∧ hL [(a, b), (c, d)] = max b d ∧ hC [(a, b), (c, d)] = 0 := by
  have h : allSp [(a, b), (c, d)] = true := by simp [allSp, h1, h2]
  simp [hE, hL, hC, h, mn, mx, sE, sL]
theorem hull2_bad (a b c d : Int) (h : spB a b = false ∨ spB c d = false) : hC [(a, b), (c, d)] = 1 := by
  have h : allSp [(a, b), (c, d)] = false := by rcases h with h | h <;> simp [allSp, h]
  simp [hC, h]
theorem spans2 {w : World} {g : Nat} {a b c d : Int} {t : TypeId} (hg : g = w.heap.size) : SpanS (w.alloc (Obj.cells #[.int .i64 a, .int .i64 b, .int .i64 c, .int .i64 d] t)) (w.alloc (Obj.cells #[.int .i64 a, .int .i64 b, .int .i64 c, .int .i64 d] t)).heap.size (.slice (some ⟨g, 0, none⟩) 2 2) [(a, b), (c, d)] := by
  subst hg
  refine ⟨by simp, .inr ⟨w.heap.size, 0, 2, rfl, by simp, by simp, fun i hi => ?_⟩⟩
  have h2 : i < 2 := by simpa using hi
  have h3 : i = 0 ∨ i = 1 := by omega
  rcases h3 with rfl | rfl <;> simp [go_sem, sE, sL]
theorem as_ok {a b c d : Int} (h : asC a b c d = 0) : spB a b = true ∧ spB c d = true ∧ spB (a + c) (b + d) = true ∧ asE a b c d = a + c ∧ asL a b c d = b + d := by
  unfold asC at h
  cases h1 : spB a b <;> cases h2 : spB c d <;> cases h3 : spB (a + c) (b + d) <;> simp_all [asE, asL]
set_option maxRecDepth 100000 in
set_option maxHeartbeats 2000000 in
theorem walk (v0 : Value) (n0 : Nat) (w : World) (h0 : BytesAt w w.heap.size v0 n0) :
    Calls Try.prog 4 #[v0] w fun e w' => e = .returned (.bool true) ∧ Below w.heap.size w w' := by
  by_cases hbig : 4096 < n0
  · have hd : decide (4096 < n0) = true := by simpa using hbig
    go_enter Try.func4, Try.ntmps4
    go_wp2_with (go_at_call 11; refine (big_any _ _ _ _ h0).mono ?_; rintro e w1 ⟨rfl, rfl⟩)
    go_ret
    exact ⟨rfl, by (repeat (first | (with_reducible exact Below.refl _ _) | (with_reducible assumption) | (with_reducible refine ext_alloc ?_ _) | (with_reducible refine ext_drew ?_) | (with_reducible refine ext_drewN ?_ _) | (with_reducible refine ext_set ?_ (by first | exact Nat.le_refl _ | (simp; done) | (simp; omega) | omega) _) | (with_reducible refine ext_trans ?_ (by assumption))))⟩
  · have hd : decide (4096 < n0) = false := by simpa using hbig
    have HB := Lib.hid h0
    go_enter Try.func4, Try.ntmps4
    go_wp2_with fail
    go_at_call 11
    refine (big_any _ _ _ _ h0).mono ?_
    rintro e wz ⟨rfl, hwz⟩
    subst wz
    clear h0
    go_wp2_with fail
    go_at_call 15
    refine (drawAddSpans_any _ _ _ HB.out).mono ?_
    rintro e w1 ⟨a0, a1, b0, b1, ⟨i0, i1⟩, ⟨i2, i3⟩, ⟨i4, i5⟩, ⟨i6, i7⟩, rfl, hb1⟩
    have H1 : Hid (Has ((w1.alloc (Obj.cells #[.int .i64 a0, .int .i64 a1] 29)).alloc (Obj.cells #[.int .i64 b0, .int .i64 b1] 29)) [(w1.heap.size, a0, a1), (w1.heap.size + 1, b0, b1)]) := Lib.hid ⟨by simp; omega, by simp [go_sem], by simp [go_sem], by simp, by simp [go_sem], by simp [go_sem], trivial⟩
    go_wp2_with fail
    go_at_call 16
    refine (other_any _ _ _ _ (HB.out.keep (by (repeat (first | (with_reducible exact Below.refl _ _) | (with_reducible assumption) | (with_reducible refine ext_alloc ?_ _) | (with_reducible refine ext_drew ?_) | (with_reducible refine ext_drewN ?_ _) | (with_reducible refine ext_set ?_ (by first | exact Nat.le_refl _ | (simp; done) | (simp; omega) | omega) _) | (with_reducible refine ext_trans ?_ (by assumption))))) (by have := hb1.size; simp; omega)) (by omega) (by omega)).mono ?_
    rintro e w2 ⟨v, m, rfl, hv, hb2⟩
    have HV := Lib.hid hv
    have H2 := Lib.hid (Has.keep H1.out hb2)
    clear hv H1
    go_wp2_with fail
    go_at_call 15
    refine (drawAddSpans_any _ _ _ HV.out).mono ?_
    rintro e w3 ⟨c0, c1, d0, d1, ⟨j0, j1⟩, ⟨j2, j3⟩, ⟨j4, j5⟩, ⟨j6, j7⟩, rfl, hb3⟩
    have H3 := Lib.hid (Has.keep H2.out hb3)
    have ⟨l0, e0, e1, l1, e2, e3, _⟩ := H3.out
    simp only at l0 e0 e1 l1 e2 e3
    clear H2
    go_wp2_with fail
    go_at_call 17
    refine (implHullOf_any _ [(a0, a1), (b0, b1)] _ (spans2 (by simp))).mono ?_
    rintro e w4 ⟨rfl, hb4⟩
    have H4 := Lib.hid (Has.keep (Has.keep (Has.add H3.out c0 c1 29) (ext_alloc (ext_alloc (Below.refl _ _) (Obj.cells #[.int .i64 d0, .int .i64 d1] 29)) (Obj.cells #[.int .i64 a0, .int .i64 a1, .int .i64 b0, .int .i64 b1] 29))) hb4)
    clear l0 e0 e1 l1 e2 e3 H3
    cases hva : spB a0 a1
    · have hc := hull2_bad a0 a1 b0 b1 (.inl hva)
      have hH := Lib.hid (Has.add H4.out (hE [(a0, a1), (b0, b1)]) (hL [(a0, a1), (b0, b1)]) 29)
      clear H4
      have ⟨l0, p0, q0, l1, p1, q1, l2, p2, q2, l3, p3, q3, _⟩ := hH.out; simp only at l0 p0 q0 l1 p1 q1 l2 p2 q2 l3 p3 q3
      go_wp2_with (go_at_call 18; refine (specIsSpan_any _ _ _).mono ?_; rintro e w5 ⟨rfl, hb⟩; have hK := Lib.hid (Has.keep hH.out hb); clear hH; have hH := hK; clear hK; have ⟨l0, p0, q0, l1, p1, q1, l2, p2, q2, l3, p3, q3, _⟩ := hH.out; simp only at l0 p0 q0 l1 p1 q1 l2 p2 q2 l3 p3 q3)
      go_ret
      exact ⟨rfl, by (repeat (first | (with_reducible exact Below.refl _ _) | (with_reducible assumption) | (with_reducible refine ext_alloc ?_ _) | (with_reducible refine ext_drew ?_) | (with_reducible refine ext_drewN ?_ _) | (with_reducible refine ext_set ?_ (by first | exact Nat.le_refl _ | (simp; done) | (simp; omega) | omega) _) | (with_reducible refine ext_trans ?_ (by assumption))))⟩
    · cases hvb : spB b0 b1
      · have hc := hull2_bad a0 a1 b0 b1 (.inr hvb)
        have hH := Lib.hid (Has.add H4.out (hE [(a0, a1), (b0, b1)]) (hL [(a0, a1), (b0, b1)]) 29)
        clear H4
        have ⟨l0, p0, q0, l1, p1, q1, l2, p2, q2, l3, p3, q3, _⟩ := hH.out; simp only at l0 p0 q0 l1 p1 q1 l2 p2 q2 l3 p3 q3
        go_wp2_with (go_at_call 18; refine (specIsSpan_any _ _ _).mono ?_; rintro e w5 ⟨rfl, hb⟩; have hK := Lib.hid (Has.keep hH.out hb); clear hH; have hH := hK; clear hK; have ⟨l0, p0, q0, l1, p1, q1, l2, p2, q2, l3, p3, q3, _⟩ := hH.out; simp only at l0 p0 q0 l1 p1 q1 l2 p2 q2 l3 p3 q3)
        go_ret
        exact ⟨rfl, by (repeat (first | (with_reducible exact Below.refl _ _) | (with_reducible assumption) | (with_reducible refine ext_alloc ?_ _) | (with_reducible refine ext_drew ?_) | (with_reducible refine ext_drewN ?_ _) | (with_reducible refine ext_set ?_ (by first | exact Nat.le_refl _ | (simp; done) | (simp; omega) | omega) _) | (with_reducible refine ext_trans ?_ (by assumption))))⟩
      · have ⟨g1, g2, g3⟩ := hull2 a0 a1 b0 b1 hva hvb
        obtain ⟨h0, hh0⟩ : ∃ h0, h0 = hE [(a0, a1), (b0, b1)] := ⟨_, rfl⟩
        obtain ⟨h1, hh1⟩ : ∃ h1, h1 = hL [(a0, a1), (b0, b1)] := ⟨_, rfl⟩
        rw [← hh0, ← hh1]
        rw [← hh0] at g1
        rw [← hh1] at g2
        clear hh0 hh1
        have ⟨s0, s1, s2⟩ := spB_get hva
        have ⟨s3, s4, s5⟩ := spB_get hvb
        have ⟨b1', b2'⟩ := inB_get s0
        have ⟨b3', b4'⟩ := inB_get s1
        have ⟨b5', b6'⟩ := inB_get s3
        have ⟨b7', b8'⟩ := inB_get s4
        have f1 : h0 ≤ a0 := by omega
        have f2 : h0 ≤ b0 := by omega
        have f3 : a1 ≤ h1 := by omega
        have f4 : b1 ≤ h1 := by omega
        have f5 : -1000000000 ≤ h0 := by omega
        have f6 : h1 ≤ 1000000000 := by omega
        have f7 : h0 ≤ 1000000000 := by omega
        have f8 : -1000000000 ≤ h1 := by omega
        have hov : ovB a0 a1 b0 b1 = decide (h1 - h0 ≤ a1 - a0 + b1 - b0) := by
          rw [Bool.eq_iff_iff]
          simp [ovB, hva, hvb]
          omega
        have HOV := Lib.hid hov
        have G1 := Lib.hid g1
        have G2 := Lib.hid g2
        clear hov g1 g2 s0 s1 s3 s4
        have hH := Lib.hid (Has.add H4.out h0 h1 29)
        clear H4
        have ⟨l0, p0, q0, l1, p1, q1, l2, p2, q2, l3, p3, q3, _⟩ := hH.out; simp only at l0 p0 q0 l1 p1 q1 l2 p2 q2 l3 p3 q3
        go_wp2_with (go_at_call 18; refine (specIsSpan_any _ _ _).mono ?_; rintro e w5 ⟨rfl, hb⟩; have hK := Lib.hid (Has.keep hH.out hb); clear hH; have hH := hK; clear hK; have ⟨l0, p0, q0, l1, p1, q1, l2, p2, q2, l3, p3, q3, _⟩ := hH.out; simp only at l0 p0 q0 l1 p1 q1 l2 p2 q2 l3 p3 q3)
        have hov := HOV.out
        have r1 : IntKind.i64.wrap (h1 - h0) = h1 - h0 := IntWalk.i64_in _ (by omega)
        have r2 : IntKind.i64.wrap (a1 - a0) = a1 - a0 := IntWalk.i64_in _ (by omega)
        have r3 : IntKind.i64.wrap (a1 - a0 + b1) = a1 - a0 + b1 := IntWalk.i64_in _ (by omega)
        have r4 : IntKind.i64.wrap (a1 - a0 + b1 - b0) = a1 - a0 + b1 - b0 := IntWalk.i64_in _ (by omega)
        go_region_held3 (fun w' => w'.cell? ⟨w1.heap.size, 0, none⟩ = some (.int .i64 a0) ∧ w'.cell? ⟨w1.heap.size, 1, none⟩ = some (.int .i64 a1) ∧ w'.cell? ⟨w1.heap.size + 1, 0, none⟩ = some (.int .i64 b0) ∧ w'.cell? ⟨w1.heap.size + 1, 1, none⟩ = some (.int .i64 b1) ∧ w'.cell? ⟨w4.heap.size, 0, none⟩ = some (.int .i64 h0) ∧ w'.cell? ⟨w4.heap.size, 1, none⟩ = some (.int .i64 h1) ∧ Below w.heap.size w w' ∧ w4.heap.size < w'.heap.size)
      (first | exact (Hid.out (by assumption)) | exact keep6 (Hid.out (by assumption)) ((Below.refl _ _).alloc (Nat.le_refl _) _) | exact keep6s (keep6s (Hid.out (by assumption)) (by first | assumption | (simp; done) | (simp; omega) | omega) (by first | assumption | (simp; done) | (simp; omega) | omega) (by first | assumption | (simp; done) | (simp; omega) | omega) (by first | assumption | (simp; done) | (simp; omega) | omega) (by first | assumption | (simp; done) | (simp; omega) | omega) (by first | assumption | (simp; done) | (simp; omega) | omega) (by first | assumption | (simp; done) | (simp; omega) | omega) (by first | assumption | (simp; done) | (simp; omega) | omega)) (by first | assumption | (simp; done) | (simp; omega) | omega) (by first | assumption | (simp; done) | (simp; omega) | omega) (by first | assumption | (simp; done) | (simp; omega) | omega) (by first | assumption | (simp; done) | (simp; omega) | omega) (by first | assumption | (simp; done) | (simp; omega) | omega) (by first | assumption | (simp; done) | (simp; omega) | omega) (by first | assumption | (simp; done) | (simp; omega) | omega) (by first | assumption | (simp; done) | (simp; omega) | omega) | exact keep6s (Hid.out (by assumption)) (by first | assumption | (simp; done) | (simp; omega) | omega) (by first | assumption | (simp; done) | (simp; omega) | omega) (by first | assumption | (simp; done) | (simp; omega) | omega) (by first | assumption | (simp; done) | (simp; omega) | omega) (by first | assumption | (simp; done) | (simp; omega) | omega) (by first | assumption | (simp; done) | (simp; omega) | omega) (by first | assumption | (simp; done) | (simp; omega) | omega) (by first | assumption | (simp; done) | (simp; omega) | omega) | ((repeat' apply And.intro) <;> first | assumption | ((repeat (first | (with_reducible exact Below.refl _ _) | (with_reducible assumption) | (with_reducible refine ext_alloc ?_ _) | (with_reducible refine ext_drew ?_) | (with_reducible refine ext_drewN ?_ _) | (with_reducible refine ext_set ?_ (by first | exact Nat.le_refl _ | (simp; done) | (simp; omega) | omega) _) | (with_reducible refine ext_trans ?_ (by assumption)))); done) | (simp [go_sem]; done) | (simp [go_sem, *]; done) | (simp; omega) | omega))
      (first
        | (go_at_call 19; refine (implSpansOverlap_any _ _ _ _ _).mono ?_; rintro e w6 ⟨rfl, hb⟩; have hK := Lib.hid (Has.keep (Has.drew hH.out) hb); clear hH; have hH := hK; clear hK; have hS := Lib.hid (keep6 (by assumption) hb); have zL := (Hid.out hS).2.2.2.2.2.2.2))
        clear r1 r2 r3 r4 hov
        have ⟨l0, p0, q0, l1, p1, q1, l2, p2, q2, l3, p3, q3, _⟩ := hH.out; simp only at l0 p0 q0 l1 p1 q1 l2 p2 q2 l3 p3 q3
        go_wp2_with fail
        clear hS
        go_at_call 20
        refine (implAddSpans_any a0 a1 c0 c1 _).mono ?_
        rintro e w7 ⟨rfl, hb7⟩
        have hK := Lib.hid (Has.add (Has.keep hH.out hb7) (asE a0 a1 c0 c1) (asL a0 a1 c0 c1) 29)
        clear hH
        have hH := hK
        clear hK
        have ⟨l0, p0, q0, l1, p1, q1, l2, p2, q2, l3, p3, q3, l4, p4, q4, _⟩ := hH.out; simp only at l0 p0 q0 l1 p1 q1 l2 p2 q2 l3 p3 q3 l4 p4 q4
        go_wp2_with fail
        go_at_call 20
        refine (implAddSpans_any b0 b1 c0 c1 _).mono ?_
        rintro e w8 ⟨rfl, hb8⟩
        have hK := Lib.hid (Has.add (Has.keep hH.out hb8) (asE b0 b1 c0 c1) (asL b0 b1 c0 c1) 29)
        clear hH
        have hH := hK
        clear hK
        have ⟨l0, p0, q0, l1, p1, q1, l2, p2, q2, l3, p3, q3, l4, p4, q4, l5, p5, q5, _⟩ := hH.out; simp only at l0 p0 q0 l1 p1 q1 l2 p2 q2 l3 p3 q3 l4 p4 q4 l5 p5 q5
        go_wp2_with fail
        go_at_call 20
        refine (implAddSpans_any h0 h1 c0 c1 _).mono ?_
        rintro e w9 ⟨rfl, hb9⟩
        have hK := Lib.hid (Has.add (Has.keep hH.out hb9) (asE h0 h1 c0 c1) (asL h0 h1 c0 c1) 29)
        clear hH
        have hH := hK
        clear hK
        have ⟨l0, p0, q0, l1, p1, q1, l2, p2, q2, l3, p3, q3, l4, p4, q4, l5, p5, q5, l6, p6, q6, _⟩ := hH.out; simp only at l0 p0 q0 l1 p1 q1 l2 p2 q2 l3 p3 q3 l4 p4 q4 l5 p5 q5 l6 p6 q6
        by_cases k1 : asC a0 a1 c0 c1 = 0
        · by_cases k2 : asC b0 b1 c0 c1 = 0
          · by_cases k3 : asC h0 h1 c0 c1 = 0
            · have ⟨_, _, t1, x1, x2⟩ := as_ok k1
              have ⟨_, _, t2, x3, x4⟩ := as_ok k2
              have ⟨_, _, _, x5, x6⟩ := as_ok k3
              have ⟨u1, u2, u3⟩ := hull2 (a0 + c0) (a1 + c1) (b0 + c0) (b1 + c1) t1 t2
              have u4 : hE [(asE a0 a1 c0 c1, asL a0 a1 c0 c1), (asE b0 b1 c0 c1, asL b0 b1 c0 c1)] = asE h0 h1 c0 c1 := by rw [x1, x2, x3, x4, x5, u1]; have := G1.out; omega
              have u5 : hL [(asE a0 a1 c0 c1, asL a0 a1 c0 c1), (asE b0 b1 c0 c1, asL b0 b1 c0 c1)] = asL h0 h1 c0 c1 := by rw [x1, x2, x3, x4, x6, u2]; have := G2.out; omega
              have u6 : hC [(asE a0 a1 c0 c1, asL a0 a1 c0 c1), (asE b0 b1 c0 c1, asL b0 b1 c0 c1)] = 0 := by rw [x1, x2, x3, x4]; exact u3
              clear u1 u2 u3 t1 t2 x1 x2 x3 x4 x5 x6
              go_wp2_with (first
                | (go_at_call 21; refine (w5Sum_any _ _ _ _ _).mono ?_; rintro e w5 ⟨rfl, hb⟩; have hK := Lib.hid (Has.keep hH.out hb); clear hH; have hH := hK; clear hK; have ⟨l0, p0, q0, l1, p1, q1, l2, p2, q2, l3, p3, q3, l4, p4, q4, l5, p5, q5, l6, p6, q6, _⟩ := hH.out; simp only at l0 p0 q0 l1 p1 q1 l2 p2 q2 l3 p3 q3 l4 p4 q4 l5 p5 q5 l6 p6 q6)
                | (go_at_call 17; refine (implHullOf_any _ [(asE a0 a1 c0 c1, asL a0 a1 c0 c1), (asE b0 b1 c0 c1, asL b0 b1 c0 c1)] _ (spans2 (by first | rfl | simp))).mono ?_; rintro e w5 ⟨rfl, hb⟩; have hK := Lib.hid (Has.keep (Has.keep hH.out (ext_alloc (Below.refl _ _) _)) hb); clear hH; have hH := hK; clear hK; have ⟨l0, p0, q0, l1, p1, q1, l2, p2, q2, l3, p3, q3, l4, p4, q4, l5, p5, q5, l6, p6, q6, _⟩ := hH.out; simp only at l0 p0 q0 l1 p1 q1 l2 p2 q2 l3 p3 q3 l4 p4 q4 l5 p5 q5 l6 p6 q6))
              go_ret
              exact ⟨rfl, by (repeat (first | (with_reducible exact Below.refl _ _) | (with_reducible assumption) | (with_reducible refine ext_alloc ?_ _) | (with_reducible refine ext_drew ?_) | (with_reducible refine ext_drewN ?_ _) | (with_reducible refine ext_set ?_ (by first | exact Nat.le_refl _ | (simp; done) | (simp; omega) | omega) _) | (with_reducible refine ext_trans ?_ (by assumption))))⟩
            · have k4 : (asC h0 h1 c0 c1 == 0) = false := by simpa using k3
              have k5 : (asC h0 h1 c0 c1 != 0) = true := by simpa using k3
              clear k3
              go_wp2_with (go_at_call 21; refine (w5Sum_any _ _ _ _ _).mono ?_; rintro e w5 ⟨rfl, hb⟩; have hK := Lib.hid (Has.keep hH.out hb); clear hH; have hH := hK; clear hK; have ⟨l0, p0, q0, l1, p1, q1, l2, p2, q2, l3, p3, q3, l4, p4, q4, l5, p5, q5, l6, p6, q6, _⟩ := hH.out; simp only at l0 p0 q0 l1 p1 q1 l2 p2 q2 l3 p3 q3 l4 p4 q4 l5 p5 q5 l6 p6 q6)
              go_ret
              exact ⟨rfl, by (repeat (first | (with_reducible exact Below.refl _ _) | (with_reducible assumption) | (with_reducible refine ext_alloc ?_ _) | (with_reducible refine ext_drew ?_) | (with_reducible refine ext_drewN ?_ _) | (with_reducible refine ext_set ?_ (by first | exact Nat.le_refl _ | (simp; done) | (simp; omega) | omega) _) | (with_reducible refine ext_trans ?_ (by assumption))))⟩
          · have k4 : (asC b0 b1 c0 c1 == 0) = false := by simpa using k2
            have k5 : (asC b0 b1 c0 c1 != 0) = true := by simpa using k2
            clear k2
            go_wp2_with (go_at_call 21; refine (w5Sum_any _ _ _ _ _).mono ?_; rintro e w5 ⟨rfl, hb⟩; have hK := Lib.hid (Has.keep hH.out hb); clear hH; have hH := hK; clear hK; have ⟨l0, p0, q0, l1, p1, q1, l2, p2, q2, l3, p3, q3, l4, p4, q4, l5, p5, q5, l6, p6, q6, _⟩ := hH.out; simp only at l0 p0 q0 l1 p1 q1 l2 p2 q2 l3 p3 q3 l4 p4 q4 l5 p5 q5 l6 p6 q6)
            go_ret
            exact ⟨rfl, by (repeat (first | (with_reducible exact Below.refl _ _) | (with_reducible assumption) | (with_reducible refine ext_alloc ?_ _) | (with_reducible refine ext_drew ?_) | (with_reducible refine ext_drewN ?_ _) | (with_reducible refine ext_set ?_ (by first | exact Nat.le_refl _ | (simp; done) | (simp; omega) | omega) _) | (with_reducible refine ext_trans ?_ (by assumption))))⟩
        · have k4 : (asC a0 a1 c0 c1 == 0) = false := by simpa using k1
          have k5 : (asC a0 a1 c0 c1 != 0) = true := by simpa using k1
          clear k1
          go_wp2_with (go_at_call 21; refine (w5Sum_any _ _ _ _ _).mono ?_; rintro e w5 ⟨rfl, hb⟩; have hK := Lib.hid (Has.keep hH.out hb); clear hH; have hH := hK; clear hK; have ⟨l0, p0, q0, l1, p1, q1, l2, p2, q2, l3, p3, q3, l4, p4, q4, l5, p5, q5, l6, p6, q6, _⟩ := hH.out; simp only at l0 p0 q0 l1 p1 q1 l2 p2 q2 l3 p3 q3 l4 p4 q4 l5 p5 q5 l6 p6 q6)
          go_ret
          exact ⟨rfl, by (repeat (first | (with_reducible exact Below.refl _ _) | (with_reducible assumption) | (with_reducible refine ext_alloc ?_ _) | (with_reducible refine ext_drew ?_) | (with_reducible refine ext_drewN ?_ _) | (with_reducible refine ext_set ?_ (by first | exact Nat.le_refl _ | (simp; done) | (simp; omega) | omega) _) | (with_reducible refine ext_trans ?_ (by assumption))))⟩

set_option maxRecDepth 100000 in
theorem lifted (os : Os) (started : os.Started) (H : Type) (enc : TypeId × Value → H) :
    ReturnsInHanded {} Try.checked os 4 .any (Rows.fnSpansSpec.pre6 enc Try.prog Try.f4 Rows.fnSpansRow.domain false) (Rows.fnSpansSpec.post enc Try.prog Try.f4 false true false false) := by
  refine returnsInHanded_of_change (C := Try.checked) own started (by kernel_rfl) Try.func4
    (ChangeSpec.witness6 (enc := enc) (C := Try.checked) false ⟨#[], #[.slice none 0 0], []⟩ 8 (by kernel_rfl) (by kernel_rfl) (by kernel_rfl) (by kernel_rfl)) ?_
  intro W base args ds gs before hval0 hW hcnd _
  have hval : ∀ (j : Nat) t v, Try.f4.params[j]? = some t → args[j]? = some v → Value.okWide Try.prog W .any base t v := hval0
  have hW' := hW
  obtain ⟨p, q, hA0, hV, rfl, hfz, hnd⟩ := hW
  have hA : DataW.TrodAll enc Try.prog W 0 (fun _ => true) true Try.f4.params.toList args.toList ds p := hA0
  rw [Try.params4] at hA hval
  obtain ⟨v0, vs0, d0, ds0, p0, q0, hargs, rfl, rfl, h0, r0⟩ := trodAll_cons hA
  obtain ⟨rfl, rfl, rfl⟩ := trodAll_nil r0
  obtain rfl : args = #[v0] := by cases args; simp_all
  obtain ⟨rfl, rfl⟩ := trodVars_none hV
  have k0 := h0
  have hlt0 : ∀ x ∈ p0, x.block < W.heap.size := fun x hx => hW'.lt x (by simp [hx])
  obtain ⟨n0, b0⟩ := open_code Try.underlying22 Try.underlying5 cells5 (hval 0 22 v0 rfl rfl) h0
  clear hA0 hval0
  refine (walk v0 n0 W b0).mono fun e W' ⟨he, hg⟩ => ?_
  subst he
  exact ⟨_, rfl, post_ext hg (pv := []) hW' (fun _ _ _ => (trodAll_cons_mk (shut_bool Try.underlying4 _) trodAll_mk0)) (fun sp hsp => (trodAll_cons_mk (WideElems.Trod_stays laidOut (by kernel_rfl) (of_decide_eq_true (by kernel_rfl)) k0 (fun x hx => hg.same (hlt0 x hx)) (fun x hx => hsp x (by simp [hx]))) trodAll_mk0)) (fun _ _ => rfl) rfl
    (ok_one (by kernel_rfl) rfl (okWide_bool_mk Try.underlying4 _))⟩

theorem over : Rows.fnSpansRow.holds Try.pinned (OpenSpec.ofChange Rows.fnSpansSpec) :=
  OpenClaim.holds_of_wide 4 Try.f4 rfl rfl rfl rfl rfl rfl rfl ⟨rfl, rfl, rfl, rfl, rfl⟩ rfl rfl rfl rfl rfl (by kernel_rfl) Try.func4 (by kernel_rfl)
    (of_decide_eq_true (by kernel_rfl)) (by unfold Func.isWrapper; first | (rw [if_pos (by decide +kernel)]; kernel_rfl) | (rw [if_neg (by decide +kernel)]; exact ⟨rfl, rfl⟩))
    (fun os started H enc _ => lifted os started H enc)

theorem proved : Rows.FnSpansSaid :=
  over
end Go.Proofs.Ytocoolafnciniaa.fnSpans
