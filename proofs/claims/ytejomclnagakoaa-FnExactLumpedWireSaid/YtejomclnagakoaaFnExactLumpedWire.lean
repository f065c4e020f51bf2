/-
The law FnExactLumpedWire answers true at every input of its type and leaves its arguments as they were; no condition.
-/
import Derived.Test.YtejomclnagakoaaRows
import Derived.Test.YtejomclnagakoaaLump
import Derived.WalkKit
import Derived.ProofKit
import Derived.OpenShut
import Derived.Carry
import Derived.WideKeyArgs
import Derived.Lib.SmallJoins
namespace Go.Proofs.Ytejomclnagakoaa.fnExactLumpedWire
open Go.ChangeShapes Go.WideShapes Go.ChangeAt Go.RowKit Go.Joins
set_option linter.unusedVariables false
set_option linter.unusedSimpArgs false

theorem own : ownKnob Try.prog.godebug = none := by kernel_rfl
theorem laidOut : laidOutB Try.prog = true := by kernel_rfl
set_option maxRecDepth 100000 in
set_option maxHeartbeats 8000000 in
theorem walk (a0 : Int) (w0 : (Lit.int .i64 a0).wf = true) (a1 : Int) (w1 : (Lit.int .i64 a1).wf = true) (w : World)  :
    Calls Try.prog 7 #[.int .i64 a0, .int .i64 a1] w fun e w' => e = .returned (.bool true) ∧ Below w.heap.size w w' := by
  obtain ⟨la, lb, lc, ld, c, hsm, hspec, himpl⟩ : ∃ (la lb lc ld : List Int) (c : Int), la.length + lb.length + lc.length + ld.length ≤ 1000 ∧ (∀ w, Calls Try.prog 22 #[.int .i64 a0, .int .i64 a1] w (NewW la lb lc ld c w)) ∧ (∀ w, Calls Try.prog 23 #[.int .i64 a0, .int .i64 a1] w (NewW la lb lc ld c w)) := by
    cases h : inB a0 0 100
    · exact ⟨[], [], [], [], 2, by simp, fun w => specLump_no a0 a1 w (.inl h), fun w => implLump_no a0 a1 w (.inl h)⟩
    · cases h' : inB a1 0 500
      · exact ⟨[], [], [], [], 2, by simp, fun w => specLump_no a0 a1 w (.inr h'), fun w => implLump_no a0 a1 w (.inr h')⟩
      · have ⟨b0, b1⟩ := inB_get h
        obtain ⟨n, rfl⟩ : ∃ n : Nat, a0 = (n : Int) := ⟨a0.toNat, by omega⟩
        exact ⟨[-1], [0], [a1], zerosI n, 0, by rw [zerosI_len]; simp; omega, fun w => specLump_yes n a1 w (by omega) h', fun w => implLump_yes n a1 w (by omega) h'⟩
  have HS := Lib.hid hspec; have HI := Lib.hid himpl
  clear hspec himpl
  go_enter Try.func7, Try.ntmps7
  go_wp2_with fail
  (go_at_call 22; refine (HS.out _).mono ?_; rintro e w1 ⟨t0, t1, t2, t3, rfl, ht, hb⟩; obtain ⟨hc, hf⟩ := bcell hb; have hz := hb.size; (try simp at hz); (try (have hz := Nat.lt_of_succ_le hz)); (try (have y0 : w.heap.size ≤ w1.heap.size := by omega)); (try (have z0 : w.heap.size < w1.heap.size := by omega)); (try (have z1 : w.heap.size + 1 < w1.heap.size := by omega)); (try (have z2 : w.heap.size + 1 + 1 < w1.heap.size := by omega)); (try (have z3 : w.heap.size + 1 + 1 + 1 < w1.heap.size := by omega)); (try (have z4 : w.heap.size + 1 + 1 + 1 + 1 < w1.heap.size := by omega)))
  have T := Lib.hid ht
  obtain ⟨p0, q0, rfl⟩ := ht.1.slice; obtain ⟨p1, q1, rfl⟩ := ht.2.1.slice; obtain ⟨p2, q2, rfl⟩ := ht.2.2.1.slice; obtain ⟨p3, q3, rfl⟩ := ht.2.2.2.1.slice
  clear ht
  have C0 := Lib.hid (show (w1.alloc (Obj.cells #[.slice p0 la.length q0, .slice p1 lb.length q1, .slice p2 lc.length q2, .slice p3 ld.length q3] 41)).cell? ⟨w1.heap.size, 0, none⟩ = some (.slice p0 la.length q0) by simp [go_sem])
  have C1 := Lib.hid (show (w1.alloc (Obj.cells #[.slice p0 la.length q0, .slice p1 lb.length q1, .slice p2 lc.length q2, .slice p3 ld.length q3] 41)).cell? ⟨w1.heap.size, 1, none⟩ = some (.slice p1 lb.length q1) by simp [go_sem])
  have C2 := Lib.hid (show (w1.alloc (Obj.cells #[.slice p0 la.length q0, .slice p1 lb.length q1, .slice p2 lc.length q2, .slice p3 ld.length q3] 41)).cell? ⟨w1.heap.size, 2, none⟩ = some (.slice p2 lc.length q2) by simp [go_sem])
  have C3 := Lib.hid (show (w1.alloc (Obj.cells #[.slice p0 la.length q0, .slice p1 lb.length q1, .slice p2 lc.length q2, .slice p3 ld.length q3] 41)).cell? ⟨w1.heap.size, 3, none⟩ = some (.slice p3 ld.length q3) by simp [go_sem])
  go_wp2_with fail
  (go_at_call 23; refine (HI.out _).mono ?_; rintro e w2 ⟨u0, u1, u2, u3, rfl, hu, hb⟩; obtain ⟨hc, hf⟩ := bcell hb; have hz := hb.size; (try simp at hz); (try (have hz := Nat.lt_of_succ_le hz)); (try (have y0 : w.heap.size ≤ w2.heap.size := by omega)); (try (have z0 : w.heap.size < w2.heap.size := by omega)); (try (have z1 : w.heap.size + 1 < w2.heap.size := by omega)); (try (have z2 : w.heap.size + 1 + 1 < w2.heap.size := by omega)); (try (have z3 : w.heap.size + 1 + 1 + 1 < w2.heap.size := by omega)); (try (have z4 : w.heap.size + 1 + 1 + 1 + 1 < w2.heap.size := by omega)))
  have U := Lib.hid hu
  obtain ⟨p0', q0', rfl⟩ := hu.1.slice; obtain ⟨p1', q1', rfl⟩ := hu.2.1.slice; obtain ⟨p2', q2', rfl⟩ := hu.2.2.1.slice; obtain ⟨p3', q3', rfl⟩ := hu.2.2.2.1.slice
  clear hu
  have D0 := Lib.hid (show (w2.alloc (Obj.cells #[.slice p0' la.length q0', .slice p1' lb.length q1', .slice p2' lc.length q2', .slice p3' ld.length q3'] 41)).cell? ⟨w2.heap.size, 0, none⟩ = some (.slice p0' la.length q0') by simp [go_sem])
  have D1 := Lib.hid (show (w2.alloc (Obj.cells #[.slice p0' la.length q0', .slice p1' lb.length q1', .slice p2' lc.length q2', .slice p3' ld.length q3'] 41)).cell? ⟨w2.heap.size, 1, none⟩ = some (.slice p1' lb.length q1') by simp [go_sem])
  have D2 := Lib.hid (show (w2.alloc (Obj.cells #[.slice p0' la.length q0', .slice p1' lb.length q1', .slice p2' lc.length q2', .slice p3' ld.length q3'] 41)).cell? ⟨w2.heap.size, 2, none⟩ = some (.slice p2' lc.length q2') by simp [go_sem])
  have D3 := Lib.hid (show (w2.alloc (Obj.cells #[.slice p0' la.length q0', .slice p1' lb.length q1', .slice p2' lc.length q2', .slice p3' ld.length q3'] 41)).cell? ⟨w2.heap.size, 3, none⟩ = some (.slice p3' ld.length q3') by simp [go_sem])
  have c0 := cell_keep (w1 := w2) C0.out (by (repeat (with_reducible first | exact eR _ _ | assumption | refine eA ?_ _ | refine eD ?_ | refine eN ?_ _ | refine eS ?_ _ | refine eT ?_ (by assumption))))
  have c1 := cell_keep (w1 := w2) C1.out (by (repeat (with_reducible first | exact eR _ _ | assumption | refine eA ?_ _ | refine eD ?_ | refine eN ?_ _ | refine eS ?_ _ | refine eT ?_ (by assumption))))
  have c2 := cell_keep (w1 := w2) C2.out (by (repeat (with_reducible first | exact eR _ _ | assumption | refine eA ?_ _ | refine eD ?_ | refine eN ?_ _ | refine eS ?_ _ | refine eT ?_ (by assumption))))
  have c3 := cell_keep (w1 := w2) C3.out (by (repeat (with_reducible first | exact eR _ _ | assumption | refine eA ?_ _ | refine eD ?_ | refine eN ?_ _ | refine eS ?_ _ | refine eT ?_ (by assumption))))
  go_wp2_with fail
  (go_at_call 21; refine (eqWire_same (vec [.slice p0' la.length q0', .slice p1' lb.length q1', .slice p2' lc.length q2', .slice p3' ld.length q3']) (vec [.slice p0 la.length q0, .slice p1 lb.length q1, .slice p2 lc.length q2, .slice p3 ld.length q3]) ⟨la, lb, lc, ld⟩ _ (U.out.keep (by (repeat (with_reducible first | exact eR _ _ | assumption | refine eA ?_ _ | refine eD ?_ | refine eN ?_ _ | refine eS ?_ _ | refine eT ?_ (by assumption))))).wire (T.out.keep (by (repeat (with_reducible first | exact eR _ _ | assumption | refine eA ?_ _ | refine eD ?_ | refine eN ?_ _ | refine eS ?_ _ | refine eT ?_ (by assumption))))).wire).mono ?_; rintro e w3 ⟨rfl, hb⟩; obtain ⟨hc, hf⟩ := bcell hb; have hz := hb.size; (try simp at hz); (try (have hz := Nat.lt_of_succ_le hz)); (try (have y0 : w.heap.size ≤ w3.heap.size := by omega)); (try (have z0 : w.heap.size < w3.heap.size := by omega)); (try (have z1 : w.heap.size + 1 < w3.heap.size := by omega)); (try (have z2 : w.heap.size + 1 + 1 < w3.heap.size := by omega)); (try (have z3 : w.heap.size + 1 + 1 + 1 < w3.heap.size := by omega)); (try (have z4 : w.heap.size + 1 + 1 + 1 + 1 < w3.heap.size := by omega)))
  have d0 := cell_keep (w1 := w3) D0.out (by (repeat (with_reducible first | exact eR _ _ | assumption | refine eA ?_ _ | refine eD ?_ | refine eN ?_ _ | refine eS ?_ _ | refine eT ?_ (by assumption))))
  have d1 := cell_keep (w1 := w3) D1.out (by (repeat (with_reducible first | exact eR _ _ | assumption | refine eA ?_ _ | refine eD ?_ | refine eN ?_ _ | refine eS ?_ _ | refine eT ?_ (by assumption))))
  have d2 := cell_keep (w1 := w3) D2.out (by (repeat (with_reducible first | exact eR _ _ | assumption | refine eA ?_ _ | refine eD ?_ | refine eN ?_ _ | refine eS ?_ _ | refine eT ?_ (by assumption))))
  have d3 := cell_keep (w1 := w3) D3.out (by (repeat (with_reducible first | exact eR _ _ | assumption | refine eA ?_ _ | refine eD ?_ | refine eN ?_ _ | refine eS ?_ _ | refine eT ?_ (by assumption))))
  have g0 := Lib.hid (cell_keep (w1 := w3) c0 (by (repeat (with_reducible first | exact eR _ _ | assumption | refine eA ?_ _ | refine eD ?_ | refine eN ?_ _ | refine eS ?_ _ | refine eT ?_ (by assumption)))))
  have g1 := Lib.hid (cell_keep (w1 := w3) c1 (by (repeat (with_reducible first | exact eR _ _ | assumption | refine eA ?_ _ | refine eD ?_ | refine eN ?_ _ | refine eS ?_ _ | refine eT ?_ (by assumption)))))
  have g2 := Lib.hid (cell_keep (w1 := w3) c2 (by (repeat (with_reducible first | exact eR _ _ | assumption | refine eA ?_ _ | refine eD ?_ | refine eN ?_ _ | refine eS ?_ _ | refine eT ?_ (by assumption)))))
  have g3 := Lib.hid (cell_keep (w1 := w3) c3 (by (repeat (with_reducible first | exact eR _ _ | assumption | refine eA ?_ _ | refine eD ?_ | refine eN ?_ _ | refine eS ?_ _ | refine eT ?_ (by assumption)))))
  go_wp2_with fail
  go_at_call 24
  have U3 := Lib.hid (U.out.keep (by (repeat (with_reducible first | exact eR _ _ | assumption | refine eA ?_ _ | refine eD ?_ | refine eN ?_ _ | refine eS ?_ _ | refine eT ?_ (by assumption)))) : W4 w3 _ _ _ _ _ _ _ _ _)
  have T3 := Lib.hid (T.out.keep (by (repeat (with_reducible first | exact eR _ _ | assumption | refine eA ?_ _ | refine eD ?_ | refine eN ?_ _ | refine eS ?_ _ | refine eT ?_ (by assumption)))) : W4 w3 _ _ _ _ _ _ _ _ _)
  have x3 : Below w.heap.size w w3 := by (repeat (with_reducible first | exact eR _ _ | assumption | refine eA ?_ _ | refine eD ?_ | refine eN ?_ _ | refine eS ?_ _ | refine eT ?_ (by assumption)))
  have s2 : w2.heap.size + 1 ≤ w3.heap.size := by simpa using hb.size
  have s1 : w1.heap.size + 1 ≤ w2.heap.size := by omega
  refine (markWire_any _ _ _ _ _ _ _ _ 1 _ _ U3.out (by omega) (by omega)).mono ?_
  rintro e w4 ⟨rfl, hm, hbut⟩
  have M := Lib.hid hm
  have NB : ∀ g, B4 _ _ _ _ g → _ ∧ _ := fun g => U.out.blk (g := g)
  have e0 := hbut.cell d0 (fun h => by have := NB _ h; omega)
  have e1 := hbut.cell d1 (fun h => by have := NB _ h; omega)
  have e2 := hbut.cell d2 (fun h => by have := NB _ h; omega)
  have e3 := hbut.cell d3 (fun h => by have := NB _ h; omega)
  have f0 := hbut.cell g0.out (fun h => by have := NB _ h; simp at this; omega)
  have f1 := hbut.cell g1.out (fun h => by have := NB _ h; simp at this; omega)
  have f2 := hbut.cell g2.out (fun h => by have := NB _ h; simp at this; omega)
  have f3 := hbut.cell g3.out (fun h => by have := NB _ h; simp at this; omega)
  have T4 := Lib.hid (T3.out.but hbut (fun g h1 h2 => by have a := T.out.blk h1; have b := NB _ h2; simp at b; omega))
  have x4 : Below w.heap.size w w4 := x3.trans (hbut.below x3.size (fun g h => by have := NB _ h; simp at this; omega))
  clear d0 d1 d2 d3 c0 c1 c2 c3 hc hf hb hbut NB hm x3
  go_wp2_with fail
  (go_at_call 25; refine (heldWire_any _ _ _ _ 1 _ _ _ _ _ _ M.out (by omega) (by omega)).mono ?_; rintro e w5 ⟨rfl, hb⟩; obtain ⟨hc, hf⟩ := bcell hb; have hz := hb.size; (try simp at hz); (try (have hz := Nat.lt_of_succ_le hz)); (try (have y0 : w.heap.size ≤ w5.heap.size := by omega)); (try (have z0 : w.heap.size < w5.heap.size := by omega)); (try (have z1 : w.heap.size + 1 < w5.heap.size := by omega)); (try (have z2 : w.heap.size + 1 + 1 < w5.heap.size := by omega)); (try (have z3 : w.heap.size + 1 + 1 + 1 < w5.heap.size := by omega)); (try (have z4 : w.heap.size + 1 + 1 + 1 + 1 < w5.heap.size := by omega)))
  have hq : ¬ (1 : Int) + la.length + lb.length + lc.length + ld.length < 0 := by omega
  go_wp2_with fail
  (go_at_call 23; refine (HI.out _).mono ?_; rintro e w6 ⟨k0, k1, k2, k3, rfl, hk, hb⟩; obtain ⟨hc, hf⟩ := bcell hb; have hz := hb.size; (try simp at hz); (try (have hz := Nat.lt_of_succ_le hz)); (try (have y0 : w.heap.size ≤ w6.heap.size := by omega)); (try (have z0 : w.heap.size < w6.heap.size := by omega)); (try (have z1 : w.heap.size + 1 < w6.heap.size := by omega)); (try (have z2 : w.heap.size + 1 + 1 < w6.heap.size := by omega)); (try (have z3 : w.heap.size + 1 + 1 + 1 < w6.heap.size := by omega)); (try (have z4 : w.heap.size + 1 + 1 + 1 + 1 < w6.heap.size := by omega)))
  have K := Lib.hid hk
  obtain ⟨p0'', q0'', rfl⟩ := hk.1.slice; obtain ⟨p1'', q1'', rfl⟩ := hk.2.1.slice; obtain ⟨p2'', q2'', rfl⟩ := hk.2.2.1.slice; obtain ⟨p3'', q3'', rfl⟩ := hk.2.2.2.1.slice
  clear hk
  have b5 : Below w4.heap.size w4 w6 := by (repeat (with_reducible first | exact eR _ _ | assumption | refine eA ?_ _ | refine eD ?_ | refine eN ?_ _ | refine eS ?_ _ | refine eT ?_ (by assumption)))
  have r0 := cell_keep (w1 := w6) e0 b5
  have r1 := cell_keep (w1 := w6) e1 b5
  have r2 := cell_keep (w1 := w6) e2 b5
  have r3 := cell_keep (w1 := w6) e3 b5
  have R0 := cell_keep (w1 := w6) f0 b5
  have R1 := cell_keep (w1 := w6) f1 b5
  have R2 := cell_keep (w1 := w6) f2 b5
  have R3 := cell_keep (w1 := w6) f3 b5
  have n0 := cell_lt R0
  have n1 := cell_lt r0
  have x6 : Below w.heap.size w w6 := x4.trans (b5.mono x4.size)
  have S0 := Lib.hid (show (w6.alloc (Obj.cells #[.slice p0'' la.length q0'', .slice p1'' lb.length q1'', .slice p2'' lc.length q2'', .slice p3'' ld.length q3''] 41)).cell? ⟨w2.heap.size, 0, none⟩ = some (.slice p0' la.length q0') from cell_keep r0 (by (repeat (with_reducible first | exact eR _ _ | assumption | refine eA ?_ _ | refine eD ?_ | refine eN ?_ _ | refine eS ?_ _ | refine eT ?_ (by assumption)))))
  have S1 := Lib.hid (show (w6.alloc (Obj.cells #[.slice p0'' la.length q0'', .slice p1'' lb.length q1'', .slice p2'' lc.length q2'', .slice p3'' ld.length q3''] 41)).cell? ⟨w2.heap.size, 1, none⟩ = some (.slice p1' lb.length q1') from cell_keep r1 (by (repeat (with_reducible first | exact eR _ _ | assumption | refine eA ?_ _ | refine eD ?_ | refine eN ?_ _ | refine eS ?_ _ | refine eT ?_ (by assumption)))))
  have S2 := Lib.hid (show (w6.alloc (Obj.cells #[.slice p0'' la.length q0'', .slice p1'' lb.length q1'', .slice p2'' lc.length q2'', .slice p3'' ld.length q3''] 41)).cell? ⟨w2.heap.size, 2, none⟩ = some (.slice p2' lc.length q2') from cell_keep r2 (by (repeat (with_reducible first | exact eR _ _ | assumption | refine eA ?_ _ | refine eD ?_ | refine eN ?_ _ | refine eS ?_ _ | refine eT ?_ (by assumption)))))
  have S3 := Lib.hid (show (w6.alloc (Obj.cells #[.slice p0'' la.length q0'', .slice p1'' lb.length q1'', .slice p2'' lc.length q2'', .slice p3'' ld.length q3''] 41)).cell? ⟨w2.heap.size, 3, none⟩ = some (.slice p3' ld.length q3') from cell_keep r3 (by (repeat (with_reducible first | exact eR _ _ | assumption | refine eA ?_ _ | refine eD ?_ | refine eN ?_ _ | refine eS ?_ _ | refine eT ?_ (by assumption)))))
  have M6 := Lib.hid (M.out.keep b5 : W4 w6 _ _ _ _ _ _ _ _ _)
  have T6 := Lib.hid (T4.out.keep b5 : W4 w6 _ _ _ _ _ _ _ _ _)
  clear b5 x4
  go_wp2_with fail
  (go_at_call 21; refine (eqWire_same (vec [.slice p0'' la.length q0'', .slice p1'' lb.length q1'', .slice p2'' lc.length q2'', .slice p3'' ld.length q3'']) (vec [.slice p0 la.length q0, .slice p1 lb.length q1, .slice p2 lc.length q2, .slice p3 ld.length q3]) ⟨la, lb, lc, ld⟩ _ (K.out.keep (by (repeat (with_reducible first | exact eR _ _ | assumption | refine eA ?_ _ | refine eD ?_ | refine eN ?_ _ | refine eS ?_ _ | refine eT ?_ (by assumption))))).wire (T6.out.keep (by (repeat (with_reducible first | exact eR _ _ | assumption | refine eA ?_ _ | refine eD ?_ | refine eN ?_ _ | refine eS ?_ _ | refine eT ?_ (by assumption))))).wire).mono ?_; rintro e w7 ⟨rfl, hb⟩; obtain ⟨hc, hf⟩ := bcell hb; have hz := hb.size; (try simp at hz); (try (have hz := Nat.lt_of_succ_le hz)); (try (have y0 : w.heap.size ≤ w7.heap.size := by omega)); (try (have z0 : w.heap.size < w7.heap.size := by omega)); (try (have z1 : w.heap.size + 1 < w7.heap.size := by omega)); (try (have z2 : w.heap.size + 1 + 1 < w7.heap.size := by omega)); (try (have z3 : w.heap.size + 1 + 1 + 1 < w7.heap.size := by omega)); (try (have z4 : w.heap.size + 1 + 1 + 1 + 1 < w7.heap.size := by omega)))
  have s0 := cell_keep (w1 := w7) S0.out (by (repeat (with_reducible first | exact eR _ _ | assumption | refine eA ?_ _ | refine eD ?_ | refine eN ?_ _ | refine eS ?_ _ | refine eT ?_ (by assumption))))
  have s1 := cell_keep (w1 := w7) S1.out (by (repeat (with_reducible first | exact eR _ _ | assumption | refine eA ?_ _ | refine eD ?_ | refine eN ?_ _ | refine eS ?_ _ | refine eT ?_ (by assumption))))
  have s2 := cell_keep (w1 := w7) S2.out (by (repeat (with_reducible first | exact eR _ _ | assumption | refine eA ?_ _ | refine eD ?_ | refine eN ?_ _ | refine eS ?_ _ | refine eT ?_ (by assumption))))
  have s3 := cell_keep (w1 := w7) S3.out (by (repeat (with_reducible first | exact eR _ _ | assumption | refine eA ?_ _ | refine eD ?_ | refine eN ?_ _ | refine eS ?_ _ | refine eT ?_ (by assumption))))
  go_wp2_with fail
  (go_at_call 25; refine (heldWire_any _ _ _ _ 1 _ _ _ _ _ _ (M6.out.keep (by (repeat (with_reducible first | exact eR _ _ | assumption | refine eA ?_ _ | refine eD ?_ | refine eN ?_ _ | refine eS ?_ _ | refine eT ?_ (by assumption))))) (by omega) (by omega)).mono ?_; rintro e w8 ⟨rfl, hb⟩; obtain ⟨hc, hf⟩ := bcell hb; have hz := hb.size; (try simp at hz); (try (have hz := Nat.lt_of_succ_le hz)); (try (have y0 : w.heap.size ≤ w8.heap.size := by omega)); (try (have z0 : w.heap.size < w8.heap.size := by omega)); (try (have z1 : w.heap.size + 1 < w8.heap.size := by omega)); (try (have z2 : w.heap.size + 1 + 1 < w8.heap.size := by omega)); (try (have z3 : w.heap.size + 1 + 1 + 1 < w8.heap.size := by omega)); (try (have z4 : w.heap.size + 1 + 1 + 1 + 1 < w8.heap.size := by omega)))
  go_wp2_with fail
  go_ret
  exact ⟨rfl, by (repeat (with_reducible first | exact eR _ _ | assumption | refine eA ?_ _ | refine eD ?_ | refine eN ?_ _ | refine eS ?_ _ | refine eT ?_ (by assumption)))⟩

set_option maxRecDepth 100000 in
theorem lifted (os : Os) (started : os.Started) (H : Type) (enc : TypeId × Value → H) :
    ReturnsInHanded {} Try.checked os 7 .any (Rows.fnExactLumpedWireSpec.pre6 enc Try.prog Try.f7 Rows.fnExactLumpedWireRow.domain false) (Rows.fnExactLumpedWireSpec.post enc Try.prog Try.f7 false true false false) := by
  refine returnsInHanded_of_change (C := Try.checked) own started (by kernel_rfl) Try.func7
    (ChangeSpec.witness6 (enc := enc) (C := Try.checked) false ⟨#[], #[.int .i64 0, .int .i64 0], []⟩ 8 (by kernel_rfl) (by kernel_rfl) (by kernel_rfl) (by kernel_rfl)) ?_
  intro W base args ds gs before hval0 hW hcnd _
  have hval : ∀ (j : Nat) t v, Try.f7.params[j]? = some t → args[j]? = some v → Value.okWide Try.prog W .any base t v := hval0
  have hW' := hW
  obtain ⟨p, q, hA0, hV, rfl, hfz, hnd⟩ := hW
  have hA : DataW.TrodAll enc Try.prog W 0 (fun _ => true) true Try.f7.params.toList args.toList ds p := hA0
  rw [Try.params7] at hA hval
  obtain ⟨v0, vs0, d0, ds0, p0, q0, hargs, rfl, rfl, h0, r0⟩ := trodAll_cons hA
  obtain ⟨v1, vs1, d1, ds1, p1, q1, rfl, rfl, rfl, h1, r1⟩ := trodAll_cons r0
  obtain ⟨rfl, rfl, rfl⟩ := trodAll_nil r1
  obtain rfl : args = #[v0, v1] := by cases args; simp_all
  obtain ⟨rfl, rfl⟩ := trodVars_none hV
  have k0 := h0
  have hlt0 : ∀ x ∈ p0, x.block < W.heap.size := fun x hx => hW'.lt x (by first | (simp [hx]; done) | (simp at hx; done) | (simpa using hx))
  have k1 := h1
  have hlt1 : ∀ x ∈ p1, x.block < W.heap.size := fun x hx => hW'.lt x (by first | (simp [hx]; done) | (simp at hx; done) | (simpa using hx))
  obtain ⟨a0, rfl, rfl, rfl, w0⟩ := open_int Try.underlying2 (hval 0 2 v0 rfl rfl) h0
  obtain ⟨a1, rfl, rfl, rfl, w1⟩ := open_int Try.underlying2 (hval 1 2 v1 rfl rfl) h1
  clear hA0 hval0
  refine (walk a0 w0 a1 w1 W ).mono fun e W' ⟨he, hg⟩ => ?_
  subst he
  exact ⟨_, rfl, post_ext hg (pv := []) hW' (fun _ _ _ => (trodAll_cons_mk (shut_bool Try.underlying4 _) trodAll_mk0)) (fun sp hsp => (trodAll_cons_mk (WideElems.Trod_stays laidOut (by kernel_rfl) (of_decide_eq_true (by kernel_rfl)) k0 (fun x hx => hg.same (hlt0 x hx)) (fun x hx => hsp x (by first | (simp [hx]; done) | (simp at hx; done) | (simpa using hx)))) (trodAll_cons_mk (WideElems.Trod_stays laidOut (by kernel_rfl) (of_decide_eq_true (by kernel_rfl)) k1 (fun x hx => hg.same (hlt1 x hx)) (fun x hx => hsp x (by first | (simp [hx]; done) | (simp at hx; done) | (simpa using hx)))) trodAll_mk0))) (fun _ _ => rfl) rfl
    (ok_one (by kernel_rfl) rfl (okWide_bool_mk Try.underlying4 _))⟩

theorem over : Rows.fnExactLumpedWireRow.holds Try.pinned (OpenSpec.ofChange Rows.fnExactLumpedWireSpec) :=
  OpenClaim.holds_of_wide 7 Try.f7 rfl rfl rfl rfl rfl rfl rfl ⟨rfl, rfl, rfl, rfl, rfl⟩ rfl rfl rfl rfl rfl (by kernel_rfl) Try.func7 (by kernel_rfl)
    (of_decide_eq_true (by kernel_rfl)) (by unfold Func.isWrapper; first | (rw [if_pos (by decide +kernel)]; kernel_rfl) | (rw [if_neg (by decide +kernel)]; exact ⟨rfl, rfl⟩))
    (fun os started H enc _ => lifted os started H enc)

theorem proved : Rows.FnExactLumpedWireSaid :=
  over
end Go.Proofs.Ytejomclnagakoaa.fnExactLumpedWire
