/-
The law FnExactConstantTable answers true at every input of its type and leaves its arguments as they were; no condition.
-/
import Derived.Test.YteflfmfcmdfenaaRows
import Derived.Test.YteflfmfcmdfenaaConst
import Derived.WalkKit
import Derived.ProofKit
import Derived.OpenShut
import Derived.Carry
import Derived.WideKeyArgs
import Derived.Lib.SmallJoins
namespace Go.Proofs.Yteflfmfcmdfenaa.fnExactConstantTable
open Go.ChangeShapes Go.WideShapes Go.ChangeAt Go.RowKit Go.Joins
set_option linter.unusedVariables false

theorem own : ownKnob Try.prog.godebug = none := by kernel_rfl
theorem laidOut : laidOutB Try.prog = true := by kernel_rfl
set_option maxHeartbeats 4000000 in
theorem walk (a0 : Int) (w0 : (Lit.int .i64 a0).wf = true) (w : World)  :
    Calls Try.prog 6 #[.int .i64 a0] w fun e w' => e = .returned (.bool true) ∧ Below w.heap.size w w' := by
  obtain ⟨ss, ls, vs, c, hsm, hspec, himpl⟩ : ∃ (ss ls vs : List Int) (c : Int), ss.length + ls.length + vs.length ≤ 1000 ∧ (∀ w, Calls Try.prog 25 #[.int .i64 a0] w (NewT ss ls vs c w)) ∧ (∀ w, Calls Try.prog 26 #[.int .i64 a0] w (NewT ss ls vs c w)) := by
    cases h : inB a0 (-1000000) 1000000
    · exact ⟨[], [], [], 2, by simp, fun w => specConst_no a0 w h, fun w => implConst_no a0 w h⟩
    · exact ⟨[0], [0], [a0], 0, by simp, fun w => specConst_yes a0 w h, fun w => implConst_yes a0 w h⟩
  have HS := Lib.hid hspec; have HI := Lib.hid himpl
  clear hspec himpl
  go_enter Try.func6, Try.ntmps6
  go_wp2_with fail
  (go_at_call 25; refine (HS.out _).mono ?_; rintro e w1 ⟨t0, t1, t2, rfl, ht, hb⟩; obtain ⟨hc, hf⟩ := bcell hb; have hz := hb.size; (try simp at hz); (try (have hz := Nat.lt_of_succ_le hz)); (try (have y0 : w.heap.size ≤ w1.heap.size := by omega)); (try (have z0 : w.heap.size < w1.heap.size := by omega)); (try (have z1 : w.heap.size + 1 < w1.heap.size := by omega)); (try (have z2 : w.heap.size + 1 + 1 < w1.heap.size := by omega)); (try (have z3 : w.heap.size + 1 + 1 + 1 < w1.heap.size := by omega)); (try (have z4 : w.heap.size + 1 + 1 + 1 + 1 < w1.heap.size := by omega)))
  have T := Lib.hid ht
  obtain ⟨⟨_, p0, q0, rfl, _⟩, ⟨_, p1, q1, rfl, _⟩, ⟨_, p2, q2, rfl, _⟩, _⟩ := ht
  have C0 := Lib.hid (show (w1.alloc (Obj.cells #[.slice p0 ss.length q0, .slice p1 ls.length q1, .slice p2 vs.length q2] 26)).cell? ⟨w1.heap.size, 0, none⟩ = some (.slice p0 ss.length q0) by simp [go_sem])
  have C1 := Lib.hid (show (w1.alloc (Obj.cells #[.slice p0 ss.length q0, .slice p1 ls.length q1, .slice p2 vs.length q2] 26)).cell? ⟨w1.heap.size, 1, none⟩ = some (.slice p1 ls.length q1) by simp [go_sem])
  have C2 := Lib.hid (show (w1.alloc (Obj.cells #[.slice p0 ss.length q0, .slice p1 ls.length q1, .slice p2 vs.length q2] 26)).cell? ⟨w1.heap.size, 2, none⟩ = some (.slice p2 vs.length q2) by simp [go_sem])
  go_wp2_with fail
  (go_at_call 26; refine (HI.out _).mono ?_; rintro e w2 ⟨u0, u1, u2, rfl, hu, hb⟩; obtain ⟨hc, hf⟩ := bcell hb; have hz := hb.size; (try simp at hz); (try (have hz := Nat.lt_of_succ_le hz)); (try (have y0 : w.heap.size ≤ w2.heap.size := by omega)); (try (have z0 : w.heap.size < w2.heap.size := by omega)); (try (have z1 : w.heap.size + 1 < w2.heap.size := by omega)); (try (have z2 : w.heap.size + 1 + 1 < w2.heap.size := by omega)); (try (have z3 : w.heap.size + 1 + 1 + 1 < w2.heap.size := by omega)); (try (have z4 : w.heap.size + 1 + 1 + 1 + 1 < w2.heap.size := by omega)))
  have U := Lib.hid hu
  obtain ⟨⟨_, p0', q0', rfl, _⟩, ⟨_, p1', q1', rfl, _⟩, ⟨_, p2', q2', rfl, _⟩, _⟩ := hu
  have D0 := Lib.hid (show (w2.alloc (Obj.cells #[.slice p0' ss.length q0', .slice p1' ls.length q1', .slice p2' vs.length q2'] 26)).cell? ⟨w2.heap.size, 0, none⟩ = some (.slice p0' ss.length q0') by simp [go_sem])
  have D1 := Lib.hid (show (w2.alloc (Obj.cells #[.slice p0' ss.length q0', .slice p1' ls.length q1', .slice p2' vs.length q2'] 26)).cell? ⟨w2.heap.size, 1, none⟩ = some (.slice p1' ls.length q1') by simp [go_sem])
  have D2 := Lib.hid (show (w2.alloc (Obj.cells #[.slice p0' ss.length q0', .slice p1' ls.length q1', .slice p2' vs.length q2'] 26)).cell? ⟨w2.heap.size, 2, none⟩ = some (.slice p2' vs.length q2') by simp [go_sem])
  have c0 := cell_keep (w1 := w2) C0.out (by (repeat (first | (with_reducible exact Below.refl _ _) | (with_reducible assumption) | (with_reducible refine ext_alloc ?_ _) | (with_reducible refine ext_drew ?_) | (with_reducible refine ext_drewN ?_ _) | (with_reducible refine ext_set ?_ (by first | exact Nat.le_refl _ | (simp; done) | (simp; omega) | omega) _) | (with_reducible refine ext_trans ?_ (by assumption)))))
  have c1 := cell_keep (w1 := w2) C1.out (by (repeat (first | (with_reducible exact Below.refl _ _) | (with_reducible assumption) | (with_reducible refine ext_alloc ?_ _) | (with_reducible refine ext_drew ?_) | (with_reducible refine ext_drewN ?_ _) | (with_reducible refine ext_set ?_ (by first | exact Nat.le_refl _ | (simp; done) | (simp; omega) | omega) _) | (with_reducible refine ext_trans ?_ (by assumption)))))
  have c2 := cell_keep (w1 := w2) C2.out (by (repeat (first | (with_reducible exact Below.refl _ _) | (with_reducible assumption) | (with_reducible refine ext_alloc ?_ _) | (with_reducible refine ext_drew ?_) | (with_reducible refine ext_drewN ?_ _) | (with_reducible refine ext_set ?_ (by first | exact Nat.le_refl _ | (simp; done) | (simp; omega) | omega) _) | (with_reducible refine ext_trans ?_ (by assumption)))))
  go_wp2_with fail
  (go_at_call 24; refine (eqTable_same _ _ _ _ _ _ _ _ _ _ (U.out.keep (by (repeat (first | (with_reducible exact Below.refl _ _) | (with_reducible assumption) | (with_reducible refine ext_alloc ?_ _) | (with_reducible refine ext_drew ?_) | (with_reducible refine ext_drewN ?_ _) | (with_reducible refine ext_set ?_ (by first | exact Nat.le_refl _ | (simp; done) | (simp; omega) | omega) _) | (with_reducible refine ext_trans ?_ (by assumption)))))).ints.1 (U.out.keep (by (repeat (first | (with_reducible exact Below.refl _ _) | (with_reducible assumption) | (with_reducible refine ext_alloc ?_ _) | (with_reducible refine ext_drew ?_) | (with_reducible refine ext_drewN ?_ _) | (with_reducible refine ext_set ?_ (by first | exact Nat.le_refl _ | (simp; done) | (simp; omega) | omega) _) | (with_reducible refine ext_trans ?_ (by assumption)))))).ints.2.1 (U.out.keep (by (repeat (first | (with_reducible exact Below.refl _ _) | (with_reducible assumption) | (with_reducible refine ext_alloc ?_ _) | (with_reducible refine ext_drew ?_) | (with_reducible refine ext_drewN ?_ _) | (with_reducible refine ext_set ?_ (by first | exact Nat.le_refl _ | (simp; done) | (simp; omega) | omega) _) | (with_reducible refine ext_trans ?_ (by assumption)))))).ints.2.2 (T.out.keep (by (repeat (first | (with_reducible exact Below.refl _ _) | (with_reducible assumption) | (with_reducible refine ext_alloc ?_ _) | (with_reducible refine ext_drew ?_) | (with_reducible refine ext_drewN ?_ _) | (with_reducible refine ext_set ?_ (by first | exact Nat.le_refl _ | (simp; done) | (simp; omega) | omega) _) | (with_reducible refine ext_trans ?_ (by assumption)))))).ints.1 (T.out.keep (by (repeat (first | (with_reducible exact Below.refl _ _) | (with_reducible assumption) | (with_reducible refine ext_alloc ?_ _) | (with_reducible refine ext_drew ?_) | (with_reducible refine ext_drewN ?_ _) | (with_reducible refine ext_set ?_ (by first | exact Nat.le_refl _ | (simp; done) | (simp; omega) | omega) _) | (with_reducible refine ext_trans ?_ (by assumption)))))).ints.2.1 (T.out.keep (by (repeat (first | (with_reducible exact Below.refl _ _) | (with_reducible assumption) | (with_reducible refine ext_alloc ?_ _) | (with_reducible refine ext_drew ?_) | (with_reducible refine ext_drewN ?_ _) | (with_reducible refine ext_set ?_ (by first | exact Nat.le_refl _ | (simp; done) | (simp; omega) | omega) _) | (with_reducible refine ext_trans ?_ (by assumption)))))).ints.2.2).mono ?_; rintro e w3 ⟨rfl, hb⟩; obtain ⟨hc, hf⟩ := bcell hb; have hz := hb.size; (try simp at hz); (try (have hz := Nat.lt_of_succ_le hz)); (try (have y0 : w.heap.size ≤ w3.heap.size := by omega)); (try (have z0 : w.heap.size < w3.heap.size := by omega)); (try (have z1 : w.heap.size + 1 < w3.heap.size := by omega)); (try (have z2 : w.heap.size + 1 + 1 < w3.heap.size := by omega)); (try (have z3 : w.heap.size + 1 + 1 + 1 < w3.heap.size := by omega)); (try (have z4 : w.heap.size + 1 + 1 + 1 + 1 < w3.heap.size := by omega)))
  have d0 := cell_keep (w1 := w3) D0.out (by (repeat (first | (with_reducible exact Below.refl _ _) | (with_reducible assumption) | (with_reducible refine ext_alloc ?_ _) | (with_reducible refine ext_drew ?_) | (with_reducible refine ext_drewN ?_ _) | (with_reducible refine ext_set ?_ (by first | exact Nat.le_refl _ | (simp; done) | (simp; omega) | omega) _) | (with_reducible refine ext_trans ?_ (by assumption)))))
  have d1 := cell_keep (w1 := w3) D1.out (by (repeat (first | (with_reducible exact Below.refl _ _) | (with_reducible assumption) | (with_reducible refine ext_alloc ?_ _) | (with_reducible refine ext_drew ?_) | (with_reducible refine ext_drewN ?_ _) | (with_reducible refine ext_set ?_ (by first | exact Nat.le_refl _ | (simp; done) | (simp; omega) | omega) _) | (with_reducible refine ext_trans ?_ (by assumption)))))
  have d2 := cell_keep (w1 := w3) D2.out (by (repeat (first | (with_reducible exact Below.refl _ _) | (with_reducible assumption) | (with_reducible refine ext_alloc ?_ _) | (with_reducible refine ext_drew ?_) | (with_reducible refine ext_drewN ?_ _) | (with_reducible refine ext_set ?_ (by first | exact Nat.le_refl _ | (simp; done) | (simp; omega) | omega) _) | (with_reducible refine ext_trans ?_ (by assumption)))))
  have g0 := Lib.hid (cell_keep (w1 := w3) c0 (by (repeat (first | (with_reducible exact Below.refl _ _) | (with_reducible assumption) | (with_reducible refine ext_alloc ?_ _) | (with_reducible refine ext_drew ?_) | (with_reducible refine ext_drewN ?_ _) | (with_reducible refine ext_set ?_ (by first | exact Nat.le_refl _ | (simp; done) | (simp; omega) | omega) _) | (with_reducible refine ext_trans ?_ (by assumption))))))
  have g1 := Lib.hid (cell_keep (w1 := w3) c1 (by (repeat (first | (with_reducible exact Below.refl _ _) | (with_reducible assumption) | (with_reducible refine ext_alloc ?_ _) | (with_reducible refine ext_drew ?_) | (with_reducible refine ext_drewN ?_ _) | (with_reducible refine ext_set ?_ (by first | exact Nat.le_refl _ | (simp; done) | (simp; omega) | omega) _) | (with_reducible refine ext_trans ?_ (by assumption))))))
  have g2 := Lib.hid (cell_keep (w1 := w3) c2 (by (repeat (first | (with_reducible exact Below.refl _ _) | (with_reducible assumption) | (with_reducible refine ext_alloc ?_ _) | (with_reducible refine ext_drew ?_) | (with_reducible refine ext_drewN ?_ _) | (with_reducible refine ext_set ?_ (by first | exact Nat.le_refl _ | (simp; done) | (simp; omega) | omega) _) | (with_reducible refine ext_trans ?_ (by assumption))))))
  go_wp2_with fail
  go_at_call 27
  have U3 := Lib.hid (U.out.keep (by (repeat (first | (with_reducible exact Below.refl _ _) | (with_reducible assumption) | (with_reducible refine ext_alloc ?_ _) | (with_reducible refine ext_drew ?_) | (with_reducible refine ext_drewN ?_ _) | (with_reducible refine ext_set ?_ (by first | exact Nat.le_refl _ | (simp; done) | (simp; omega) | omega) _) | (with_reducible refine ext_trans ?_ (by assumption))))) : Tab3 w3 _ _ _ _ _ _ _)
  have T3 := Lib.hid (T.out.keep (by (repeat (first | (with_reducible exact Below.refl _ _) | (with_reducible assumption) | (with_reducible refine ext_alloc ?_ _) | (with_reducible refine ext_drew ?_) | (with_reducible refine ext_drewN ?_ _) | (with_reducible refine ext_set ?_ (by first | exact Nat.le_refl _ | (simp; done) | (simp; omega) | omega) _) | (with_reducible refine ext_trans ?_ (by assumption))))) : Tab3 w3 _ _ _ _ _ _ _)
  have x3 : Below w.heap.size w w3 := by (repeat (first | (with_reducible exact Below.refl _ _) | (with_reducible assumption) | (with_reducible refine ext_alloc ?_ _) | (with_reducible refine ext_drew ?_) | (with_reducible refine ext_drewN ?_ _) | (with_reducible refine ext_set ?_ (by first | exact Nat.le_refl _ | (simp; done) | (simp; omega) | omega) _) | (with_reducible refine ext_trans ?_ (by assumption))))
  have s2 : w2.heap.size + 1 ≤ w3.heap.size := by simpa using hb.size
  have s1 : w1.heap.size + 1 ≤ w2.heap.size := by omega
  refine (markTable_any _ _ _ _ _ _ 1 _ _ U3.out (by omega) (by omega)).mono ?_
  rintro e w4 ⟨rfl, hm, hbut⟩
  have M := Lib.hid hm
  have NB : ∀ g, B3 _ _ _ g → _ ∧ _ := fun g => U.out.blk (g := g)
  have e0 := hbut.cell d0 (fun h => by have := NB _ h; omega)
  have e1 := hbut.cell d1 (fun h => by have := NB _ h; omega)
  have e2 := hbut.cell d2 (fun h => by have := NB _ h; omega)
  have f0 := hbut.cell g0.out (fun h => by have := NB _ h; simp at this; omega)
  have f1 := hbut.cell g1.out (fun h => by have := NB _ h; simp at this; omega)
  have f2 := hbut.cell g2.out (fun h => by have := NB _ h; simp at this; omega)
  have T4 := Lib.hid (T3.out.but hbut (fun g h1 h2 => by have a := T.out.blk h1; have b := NB _ h2; simp at b; omega))
  have x4 : Below w.heap.size w w4 := x3.trans (hbut.below x3.size (fun g h => by have := NB _ h; simp at this; omega))
  clear d0 d1 d2 c0 c1 c2 hc hf hb hbut NB hm x3
  go_wp2_with fail
  (go_at_call 28; refine (heldTable_any _ _ _ 1 _ _ _ _ _ M.out (by omega) (by omega)).mono ?_; rintro e w5 ⟨rfl, hb⟩; obtain ⟨hc, hf⟩ := bcell hb; have hz := hb.size; (try simp at hz); (try (have hz := Nat.lt_of_succ_le hz)); (try (have y0 : w.heap.size ≤ w5.heap.size := by omega)); (try (have z0 : w.heap.size < w5.heap.size := by omega)); (try (have z1 : w.heap.size + 1 < w5.heap.size := by omega)); (try (have z2 : w.heap.size + 1 + 1 < w5.heap.size := by omega)); (try (have z3 : w.heap.size + 1 + 1 + 1 < w5.heap.size := by omega)); (try (have z4 : w.heap.size + 1 + 1 + 1 + 1 < w5.heap.size := by omega)))
  have hq : ¬ (1 : Int) + ss.length + ls.length + vs.length < 0 := by omega
  go_wp2_with fail
  (go_at_call 26; refine (HI.out _).mono ?_; rintro e w6 ⟨k0, k1, k2, rfl, hk, hb⟩; obtain ⟨hc, hf⟩ := bcell hb; have hz := hb.size; (try simp at hz); (try (have hz := Nat.lt_of_succ_le hz)); (try (have y0 : w.heap.size ≤ w6.heap.size := by omega)); (try (have z0 : w.heap.size < w6.heap.size := by omega)); (try (have z1 : w.heap.size + 1 < w6.heap.size := by omega)); (try (have z2 : w.heap.size + 1 + 1 < w6.heap.size := by omega)); (try (have z3 : w.heap.size + 1 + 1 + 1 < w6.heap.size := by omega)); (try (have z4 : w.heap.size + 1 + 1 + 1 + 1 < w6.heap.size := by omega)))
  have K := Lib.hid hk
  obtain ⟨⟨_, p0'', q0'', rfl, _⟩, ⟨_, p1'', q1'', rfl, _⟩, ⟨_, p2'', q2'', rfl, _⟩, _⟩ := hk
  have b5 : Below w4.heap.size w4 w6 := by (repeat (first | (with_reducible exact Below.refl _ _) | (with_reducible assumption) | (with_reducible refine ext_alloc ?_ _) | (with_reducible refine ext_drew ?_) | (with_reducible refine ext_drewN ?_ _) | (with_reducible refine ext_set ?_ (by first | exact Nat.le_refl _ | (simp; done) | (simp; omega) | omega) _) | (with_reducible refine ext_trans ?_ (by assumption))))
  have r0 := cell_keep (w1 := w6) e0 b5
  have r1 := cell_keep (w1 := w6) e1 b5
  have r2 := cell_keep (w1 := w6) e2 b5
  have R0 := cell_keep (w1 := w6) f0 b5
  have R1 := cell_keep (w1 := w6) f1 b5
  have R2 := cell_keep (w1 := w6) f2 b5
  have n0 := cell_lt R0
  have n1 := cell_lt r0
  have x6 : Below w.heap.size w w6 := x4.trans (b5.mono x4.size)
  have S0 := Lib.hid (show (w6.alloc (Obj.cells #[.slice p0'' ss.length q0'', .slice p1'' ls.length q1'', .slice p2'' vs.length q2''] 26)).cell? ⟨w2.heap.size, 0, none⟩ = some (.slice p0' ss.length q0') from cell_keep r0 (by (repeat (first | (with_reducible exact Below.refl _ _) | (with_reducible assumption) | (with_reducible refine ext_alloc ?_ _) | (with_reducible refine ext_drew ?_) | (with_reducible refine ext_drewN ?_ _) | (with_reducible refine ext_set ?_ (by first | exact Nat.le_refl _ | (simp; done) | (simp; omega) | omega) _) | (with_reducible refine ext_trans ?_ (by assumption))))))
  have S1 := Lib.hid (show (w6.alloc (Obj.cells #[.slice p0'' ss.length q0'', .slice p1'' ls.length q1'', .slice p2'' vs.length q2''] 26)).cell? ⟨w2.heap.size, 1, none⟩ = some (.slice p1' ls.length q1') from cell_keep r1 (by (repeat (first | (with_reducible exact Below.refl _ _) | (with_reducible assumption) | (with_reducible refine ext_alloc ?_ _) | (with_reducible refine ext_drew ?_) | (with_reducible refine ext_drewN ?_ _) | (with_reducible refine ext_set ?_ (by first | exact Nat.le_refl _ | (simp; done) | (simp; omega) | omega) _) | (with_reducible refine ext_trans ?_ (by assumption))))))
  have S2 := Lib.hid (show (w6.alloc (Obj.cells #[.slice p0'' ss.length q0'', .slice p1'' ls.length q1'', .slice p2'' vs.length q2''] 26)).cell? ⟨w2.heap.size, 2, none⟩ = some (.slice p2' vs.length q2') from cell_keep r2 (by (repeat (first | (with_reducible exact Below.refl _ _) | (with_reducible assumption) | (with_reducible refine ext_alloc ?_ _) | (with_reducible refine ext_drew ?_) | (with_reducible refine ext_drewN ?_ _) | (with_reducible refine ext_set ?_ (by first | exact Nat.le_refl _ | (simp; done) | (simp; omega) | omega) _) | (with_reducible refine ext_trans ?_ (by assumption))))))
  have M6 := Lib.hid (M.out.keep b5 : Tab3 w6 _ _ _ _ _ _ _)
  have T6 := Lib.hid (T4.out.keep b5 : Tab3 w6 _ _ _ _ _ _ _)
  clear b5 x4
  go_wp2_with fail
  (go_at_call 24; refine (eqTable_same _ _ _ _ _ _ _ _ _ _ (K.out.keep (by (repeat (first | (with_reducible exact Below.refl _ _) | (with_reducible assumption) | (with_reducible refine ext_alloc ?_ _) | (with_reducible refine ext_drew ?_) | (with_reducible refine ext_drewN ?_ _) | (with_reducible refine ext_set ?_ (by first | exact Nat.le_refl _ | (simp; done) | (simp; omega) | omega) _) | (with_reducible refine ext_trans ?_ (by assumption)))))).ints.1 (K.out.keep (by (repeat (first | (with_reducible exact Below.refl _ _) | (with_reducible assumption) | (with_reducible refine ext_alloc ?_ _) | (with_reducible refine ext_drew ?_) | (with_reducible refine ext_drewN ?_ _) | (with_reducible refine ext_set ?_ (by first | exact Nat.le_refl _ | (simp; done) | (simp; omega) | omega) _) | (with_reducible refine ext_trans ?_ (by assumption)))))).ints.2.1 (K.out.keep (by (repeat (first | (with_reducible exact Below.refl _ _) | (with_reducible assumption) | (with_reducible refine ext_alloc ?_ _) | (with_reducible refine ext_drew ?_) | (with_reducible refine ext_drewN ?_ _) | (with_reducible refine ext_set ?_ (by first | exact Nat.le_refl _ | (simp; done) | (simp; omega) | omega) _) | (with_reducible refine ext_trans ?_ (by assumption)))))).ints.2.2 (T6.out.keep (by (repeat (first | (with_reducible exact Below.refl _ _) | (with_reducible assumption) | (with_reducible refine ext_alloc ?_ _) | (with_reducible refine ext_drew ?_) | (with_reducible refine ext_drewN ?_ _) | (with_reducible refine ext_set ?_ (by first | exact Nat.le_refl _ | (simp; done) | (simp; omega) | omega) _) | (with_reducible refine ext_trans ?_ (by assumption)))))).ints.1 (T6.out.keep (by (repeat (first | (with_reducible exact Below.refl _ _) | (with_reducible assumption) | (with_reducible refine ext_alloc ?_ _) | (with_reducible refine ext_drew ?_) | (with_reducible refine ext_drewN ?_ _) | (with_reducible refine ext_set ?_ (by first | exact Nat.le_refl _ | (simp; done) | (simp; omega) | omega) _) | (with_reducible refine ext_trans ?_ (by assumption)))))).ints.2.1 (T6.out.keep (by (repeat (first | (with_reducible exact Below.refl _ _) | (with_reducible assumption) | (with_reducible refine ext_alloc ?_ _) | (with_reducible refine ext_drew ?_) | (with_reducible refine ext_drewN ?_ _) | (with_reducible refine ext_set ?_ (by first | exact Nat.le_refl _ | (simp; done) | (simp; omega) | omega) _) | (with_reducible refine ext_trans ?_ (by assumption)))))).ints.2.2).mono ?_; rintro e w7 ⟨rfl, hb⟩; obtain ⟨hc, hf⟩ := bcell hb; have hz := hb.size; (try simp at hz); (try (have hz := Nat.lt_of_succ_le hz)); (try (have y0 : w.heap.size ≤ w7.heap.size := by omega)); (try (have z0 : w.heap.size < w7.heap.size := by omega)); (try (have z1 : w.heap.size + 1 < w7.heap.size := by omega)); (try (have z2 : w.heap.size + 1 + 1 < w7.heap.size := by omega)); (try (have z3 : w.heap.size + 1 + 1 + 1 < w7.heap.size := by omega)); (try (have z4 : w.heap.size + 1 + 1 + 1 + 1 < w7.heap.size := by omega)))
  have s0 := cell_keep (w1 := w7) S0.out (by (repeat (first | (with_reducible exact Below.refl _ _) | (with_reducible assumption) | (with_reducible refine ext_alloc ?_ _) | (with_reducible refine ext_drew ?_) | (with_reducible refine ext_drewN ?_ _) | (with_reducible refine ext_set ?_ (by first | exact Nat.le_refl _ | (simp; done) | (simp; omega) | omega) _) | (with_reducible refine ext_trans ?_ (by assumption)))))
  have s1 := cell_keep (w1 := w7) S1.out (by (repeat (first | (with_reducible exact Below.refl _ _) | (with_reducible assumption) | (with_reducible refine ext_alloc ?_ _) | (with_reducible refine ext_drew ?_) | (with_reducible refine ext_drewN ?_ _) | (with_reducible refine ext_set ?_ (by first | exact Nat.le_refl _ | (simp; done) | (simp; omega) | omega) _) | (with_reducible refine ext_trans ?_ (by assumption)))))
  have s2 := cell_keep (w1 := w7) S2.out (by (repeat (first | (with_reducible exact Below.refl _ _) | (with_reducible assumption) | (with_reducible refine ext_alloc ?_ _) | (with_reducible refine ext_drew ?_) | (with_reducible refine ext_drewN ?_ _) | (with_reducible refine ext_set ?_ (by first | exact Nat.le_refl _ | (simp; done) | (simp; omega) | omega) _) | (with_reducible refine ext_trans ?_ (by assumption)))))
  go_wp2_with fail
  (go_at_call 28; refine (heldTable_any _ _ _ 1 _ _ _ _ _ (M6.out.keep (by (repeat (first | (with_reducible exact Below.refl _ _) | (with_reducible assumption) | (with_reducible refine ext_alloc ?_ _) | (with_reducible refine ext_drew ?_) | (with_reducible refine ext_drewN ?_ _) | (with_reducible refine ext_set ?_ (by first | exact Nat.le_refl _ | (simp; done) | (simp; omega) | omega) _) | (with_reducible refine ext_trans ?_ (by assumption)))))) (by omega) (by omega)).mono ?_; rintro e w8 ⟨rfl, hb⟩; obtain ⟨hc, hf⟩ := bcell hb; have hz := hb.size; (try simp at hz); (try (have hz := Nat.lt_of_succ_le hz)); (try (have y0 : w.heap.size ≤ w8.heap.size := by omega)); (try (have z0 : w.heap.size < w8.heap.size := by omega)); (try (have z1 : w.heap.size + 1 < w8.heap.size := by omega)); (try (have z2 : w.heap.size + 1 + 1 < w8.heap.size := by omega)); (try (have z3 : w.heap.size + 1 + 1 + 1 < w8.heap.size := by omega)); (try (have z4 : w.heap.size + 1 + 1 + 1 + 1 < w8.heap.size := by omega)))
  go_wp2_with fail
  go_ret
  exact ⟨rfl, by (repeat (first | (with_reducible exact Below.refl _ _) | (with_reducible assumption) | (with_reducible refine ext_alloc ?_ _) | (with_reducible refine ext_drew ?_) | (with_reducible refine ext_drewN ?_ _) | (with_reducible refine ext_set ?_ (by first | exact Nat.le_refl _ | (simp; done) | (simp; omega) | omega) _) | (with_reducible refine ext_trans ?_ (by assumption))))⟩

set_option maxRecDepth 100000 in
theorem lifted (os : Os) (started : os.Started) (H : Type) (enc : TypeId × Value → H) :
    ReturnsInHanded {} Try.checked os 6 .any (Rows.fnExactConstantTableSpec.pre6 enc Try.prog Try.f6 Rows.fnExactConstantTableRow.domain false) (Rows.fnExactConstantTableSpec.post enc Try.prog Try.f6 false true false false) := by
  refine returnsInHanded_of_change (C := Try.checked) own started (by kernel_rfl) Try.func6
    (ChangeSpec.witness6 (enc := enc) (C := Try.checked) false ⟨#[], #[.int .i64 0], []⟩ 8 (by kernel_rfl) (by kernel_rfl) (by kernel_rfl) (by kernel_rfl)) ?_
  intro W base args ds gs before hval0 hW hcnd _
  have hval : ∀ (j : Nat) t v, Try.f6.params[j]? = some t → args[j]? = some v → Value.okWide Try.prog W .any base t v := hval0
  have hW' := hW
  obtain ⟨p, q, hA0, hV, rfl, hfz, hnd⟩ := hW
  have hA : DataW.TrodAll enc Try.prog W 0 (fun _ => true) true Try.f6.params.toList args.toList ds p := hA0
  rw [Try.params6] at hA hval
  obtain ⟨v0, vs0, d0, ds0, p0, q0, hargs, rfl, rfl, h0, r0⟩ := trodAll_cons hA
  obtain ⟨rfl, rfl, rfl⟩ := trodAll_nil r0
  obtain rfl : args = #[v0] := by cases args; simp_all
  obtain ⟨rfl, rfl⟩ := trodVars_none hV
  have k0 := h0
  have hlt0 : ∀ x ∈ p0, x.block < W.heap.size := fun x hx => hW'.lt x (by simp [hx])
  obtain ⟨a0, rfl, rfl, rfl, w0⟩ := open_int Try.underlying2 (hval 0 2 v0 rfl rfl) h0
  clear hA0 hval0
  refine (walk a0 w0 W ).mono fun e W' ⟨he, hg⟩ => ?_
  subst he
  exact ⟨_, rfl, post_ext hg (pv := []) hW' (fun _ _ _ => (trodAll_cons_mk (shut_bool Try.underlying4 _) trodAll_mk0)) (fun sp hsp => (trodAll_cons_mk (WideElems.Trod_stays laidOut (by kernel_rfl) (of_decide_eq_true (by kernel_rfl)) k0 (fun x hx => hg.same (hlt0 x hx)) (fun x hx => hsp x (by simp [hx]))) trodAll_mk0)) (fun _ _ => rfl) rfl
    (ok_one (by kernel_rfl) rfl (okWide_bool_mk Try.underlying4 _))⟩

theorem over : Rows.fnExactConstantTableRow.holds Try.pinned (OpenSpec.ofChange Rows.fnExactConstantTableSpec) :=
  OpenClaim.holds_of_wide 6 Try.f6 rfl rfl rfl rfl rfl rfl rfl ⟨rfl, rfl, rfl, rfl, rfl⟩ rfl rfl rfl rfl rfl (by kernel_rfl) Try.func6 (by kernel_rfl)
    (of_decide_eq_true (by kernel_rfl)) (by unfold Func.isWrapper; first | (rw [if_pos (by decide +kernel)]; kernel_rfl) | (rw [if_neg (by decide +kernel)]; exact ⟨rfl, rfl⟩))
    (fun os started H enc _ => lifted os started H enc)

theorem proved : Rows.FnExactConstantTableSaid :=
  over
end Go.Proofs.Yteflfmfcmdfenaa.fnExactConstantTable
