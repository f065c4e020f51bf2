/-
The contract of the model's DrawLookUp: three lists, a slew, a load and a mode; nothing that was there before has changed.
-/
import Derived.Test.YtckccpcigkbfmaaDrawTabA
namespace Go.Proofs.Ytckccpcigkbfmaa
open Go.ChangeShapes Go.WideShapes Go.ChangeAt Go.RowKit Go.Deep
set_option linter.unusedVariables false
set_option linter.unusedSimpArgs false
set_option maxRecDepth 100000
def LookD (w : World) (e : Ending) (w' : World) : Prop := ∃ (v0 v1 v2 : Value) (ss ls vs : List Int) (x y m : Int), e = .returned (.tuple #[.agg #[v0, v1, v2], .int .i64 x, .int .i64 y, .int .i64 m]) ∧ (IntS w' w'.heap.size v0 ss ∧ IntS w' w'.heap.size v1 ls ∧ IntS w' w'.heap.size v2 vs) ∧
  ((-10 ≤ x ∧ x ≤ 209) ∨ ∃ k, k < ss.length ∧ x = iv ss k) ∧ (-10 ≤ y ∧ y ≤ 149) ∧ (0 ≤ m ∧ m ≤ 3) ∧ Below w.heap.size w w'
set_option maxHeartbeats 4000000 in
theorem drawLook_any (v : Value) (n : Nat) (w : World) (h : BytesAt w w.heap.size v n) : Calls Try.prog 16 #[v] w (LookD w) := by
  have h' := Lib.hid h
  clear h
  go_enter Try.func16, Try.ntmps16
  go_wp2_with fail
  go_at_call 55
  refine (from_any v n _ (h'.out.keep (by (repeat (first | (with_reducible exact Below.refl _ _) | (with_reducible assumption) | (with_reducible refine ext_alloc ?_ _) | (with_reducible refine ext_drew ?_) | (with_reducible refine ext_drewN ?_ _) | (with_reducible refine ext_set ?_ (by first | exact Nat.le_refl _ | (simp; done) | (simp; omega) | omega) _) | (with_reducible refine ext_trans ?_ (by assumption))))) (by simp))).mono ?_
  rintro e w1 ⟨rfl, hs1, hb1⟩
  have R1 := Lib.hid (show Res3 w1 w.heap.size from fun j hj => by
    obtain ⟨⟨u, hu⟩, hf⟩ := res_new w (.slice none 0 0) (.slice none 0 0) (.slice none 0 0) 26 j hj
    exact ⟨⟨u, cell_keep hu hb1⟩, by rw [hb1.frozen (by simp)]; exact hf⟩)
  have S1 := Lib.hid hs1
  have hz1 := hb1.size
  simp at hz1
  have B1 := Lib.hid (show Below w.heap.size w w1 by (repeat (first | (with_reducible exact Below.refl _ _) | (with_reducible assumption) | (with_reducible refine ext_alloc ?_ _) | (with_reducible refine ext_drew ?_) | (with_reducible refine ext_drewN ?_ _) | (with_reducible refine ext_set ?_ (by first | exact Nat.le_refl _ | (simp; done) | (simp; omega) | omega) _) | (with_reducible refine ext_trans ?_ (by assumption)))))
  obtain ⟨g, hg⟩ : ∃ g, g = w.heap.size + 1 := ⟨_, rfl⟩
  have hsz : (w.alloc (Obj.cells #[.slice none 0 0, .slice none 0 0, .slice none 0 0] 26)).heap.size = g := by simp [hg]
  rw [hsz] at S1
  clear hs1 hb1 h'
  go_wp2_with fail
  rw [← hg]
  have hgw : w.heap.size < g := by omega
  go_at_call 56
  refine (drawAny_any g _ S1.out).mono ?_
  rintro e w2 ⟨v0, v1, v2, ss, ls, vs, rfl, hss, ⟨i0, i1, i2⟩, hs2, hc2⟩
  have hz2 := hc2.size
  have R2 := Lib.hid (resKeep R1.out hc2 (by omega))
  have B2 := Lib.hid (show Below w.heap.size w w2 from B1.out.trans (hc2.below (by omega) (by omega)))
  have S2 := Lib.hid hs2
  have I0 := Lib.hid i0; have I1 := Lib.hid i1; have I2 := Lib.hid i2
  obtain ⟨l0, a0, c0, rfl, hp0⟩ := i0
  obtain ⟨l1, a1, c1, rfl, _⟩ := i1
  obtain ⟨l2, a2, c2, rfl, _⟩ := i2
  have HP0 := Lib.hid hp0
  have hg1 : g < w1.heap.size := S1.out.lt
  have T2 := Lib.hid (show Tb (w2.alloc (.cells #[.slice a0 ss.length c0, .slice a1 ls.length c1, .slice a2 vs.length c2] 26)) w2.heap.size (.slice a0 ss.length c0) (.slice a1 ls.length c1) (.slice a2 vs.length c2) from ⟨⟨by simp [go_sem], by simp [go_sem], by simp [go_sem]⟩, by simp [go_sem], by simp [go_sem], by simp [go_sem]⟩)
  have C2 := Lib.hid (show Chg g w2 (w2.alloc (.cells #[.slice a0 ss.length c0, .slice a1 ls.length c1, .slice a2 vs.length c2] 26)) from (Chg.refl g w2).alloc _)
  clear hs2 hc2 R1 B1 S1 hp0 hsz
  have HG := Lib.hid hg
  clear hg
  go_wp2_with fail
  go_at_call 57
  refine (next_any g _ _ (S2.out.alloc _ _) (by omega) (by omega)).mono ?_
  rintro e w3 ⟨r3, p0, p1, rfl, hs3, ho3⟩
  have C3 := Lib.hid (C2.out.only ho3)
  have T3 := Lib.hid (T2.out.chg ho3.chg (by omega))
  have S3 := Lib.hid hs3
  clear hs3 ho3 C2 T2
  go_wp2_with fail
  go_at_call 57
  refine (next_any g _ _ S3.out (by omega) (by omega)).mono ?_
  rintro e w4 ⟨r4, p2, p3, rfl, hs4, ho4⟩
  have C4 := Lib.hid (C3.out.only ho4)
  have T4 := Lib.hid (T3.out.chg ho4.chg (by omega))
  have S4 := Lib.hid hs4
  clear hs4 ho4 C3 T3 S3
  go_wp2_with fail
  go_at_call 57
  refine (next_any g _ _ S4.out (by omega) (by omega)).mono ?_
  rintro e w5 ⟨r5, p4, p5, rfl, hs5, ho5⟩
  have C5 := Lib.hid (C4.out.only ho5)
  have T5 := Lib.hid (T4.out.chg ho5.chg (by omega))
  have S5 := Lib.hid hs5
  have J0 := Lib.hid (I0.out.chg C5.out (by omega))
  have J1 := Lib.hid (I1.out.chg C5.out (by omega))
  have J2 := Lib.hid (I2.out.chg C5.out (by omega))
  have R5 := Lib.hid (resKeep R2.out C5.out (by omega))
  have B5 := Lib.hid (show Below w.heap.size w w5 from B2.out.trans (C5.out.below (by omega) (by omega)))
  have hz5 := C5.out.size
  obtain ⟨T, hT⟩ : ∃ T, T = w2.heap.size := ⟨_, rfl⟩
  rw [← hT] at T5 hz5 hz2 ⊢
  have hTs : T < w5.heap.size := cell_lt T5.out.1.1
  clear hs5 ho5 C4 T4 S4 I0 I1 I2 R2 B2 S2 hT
  obtain ⟨⟨t0, t1, t2⟩, z0, z1, z2⟩ := T5.out
  have Tg : T ≠ g := by omega
  have Tq : T ≠ w.heap.size := by omega
  have qg : w.heap.size ≠ g := by omega
  have key : ∀ (x : Int), ((-10 ≤ x ∧ x ≤ 209) ∨ ∃ k, k < ss.length ∧ x = iv ss k) → True := fun _ _ => trivial
  have d1 : ∀ x : Int, 0 ≤ x → x.tdiv 23 = x / 23 := fun x h => Int.tdiv_eq_ediv_of_nonneg h
  have d0 : ∀ x : Int, 0 ≤ x → x < 24 → IntKind.i64.wrap (x / 23) = x / 23 := fun x h h' => IntWalk.i64_in _ (by omega)
  have d2 : ∀ x : Int, 0 ≤ x → x < 24 → IntKind.i64.wrap (2 * (x / 23)) = 2 * (x / 23) := fun x h h' => IntWalk.i64_in _ (by omega)
  have d3 : ∀ a x : Int, 0 ≤ a → a < 2 → 0 ≤ x → x < 24 → IntKind.i64.wrap (a + 2 * (x / 23)) = a + 2 * (x / 23) := fun a x h0 h1 h h' => IntWalk.i64_in _ (by omega)
  by_cases h5 : r5 = 0 ∧ 0 < ss.length
  · obtain ⟨h50, h51⟩ := h5
    subst h50
    have h51I : (0 : Int) < (ss.length : Int) := by omega
    obtain ⟨_, a0', c0', e, hx5⟩ := J0.out
    simp only [Value.slice.injEq] at e
    obtain ⟨rfl, _, rfl⟩ := e
    obtain ⟨bb, off, rfl, hB, hlt5, hc5⟩ := hx5 h51
    have bbg : bb ≠ g := by omega
    have hssl : (ss.length : Int) ≤ 2147483647 := by omega
    clear hx5 key
    obtain ⟨⟨m0, x0⟩, y0⟩ := R5.out 0 (by omega)
    obtain ⟨⟨m1, x1⟩, y1⟩ := R5.out 1 (by omega)
    obtain ⟨⟨m2, x2⟩, y2⟩ := R5.out 2 (by omega)
    go_upto_region 6 with fail
    go_region_with (go_at_call 57; refine (next_pos g ss.length _ (by repeat (first | (with_reducible exact S5.out) | (with_reducible refine Src.drew ?_))) h51I hssl).mono ?_; rintro e w6 ⟨r6, u60, u61, rfl, hs6, ho6⟩; obtain ⟨p, hp⟩ : ∃ p : Nat, r6 = p := ⟨r6.toNat, (Int.toNat_of_nonneg u60).symm⟩; subst hp; have hpl : p < ss.length := Int.ofNat_lt.mp u61; have yp : w6.cell? ⟨bb, off + p, none⟩ = some (.int .i64 (iv ss p)) := (ho6.cell (p := ⟨bb, off + p, none⟩) (by exact bbg)).trans (hc5 p hpl); have hoc6 := ocell ho6; have hof6 := ofrozen ho6; have S6 := Lib.hid hs6; clear hs6)
    all_goals go_upto_region 7 with fail
    all_goals go_region_with (go_at_call 57; refine (next_any g _ _ (by repeat (first | (with_reducible exact S6.out) | (with_reducible exact S5.out) | (with_reducible refine Src.drew ?_))) (by omega) (by omega)).mono ?_; rintro e w6 ⟨r6, u60, u61, rfl, hs6, ho6⟩; have hoc6 := ocell ho6; have hof6 := ofrozen ho6; have S6 := Lib.hid hs6; clear hs6)
    all_goals (go_wp2_with fail)
    all_goals
      refine bodyPost_ret (v := ?_) ?_ rfl ?_
      rotate_left
      · (simp [results, Try.results16, go_sem, *]; rfl)
      · refine ⟨_, _, _, ss, ls, vs, _, _, _, rfl, ⟨IntN.ints (IntN.chg (IntN.chg J0.out (show Chg g w5 _ from by (repeat (first | (with_reducible exact Chg.refl _ _) | (with_reducible assumption) | (with_reducible refine Chg.alloc ?_ _) | (with_reducible refine Chg.drew ?_) | (with_reducible refine Chg.drewN ?_ _) | (with_reducible refine Chg.setNew ?_ (by first | exact Nat.le_refl _ | (simp; done) | (simp; omega) | omega) _) | (with_reducible refine Chg.only ?_ (by assumption)) | (with_reducible refine Chg.trans ?_ (by assumption))))) (by omega)) (Only.chg ((((Only.refl w.heap.size _).setCell 0 _).setCell 1 _).setCell 2 _)) (by omega)), IntN.ints (IntN.chg (IntN.chg J1.out (show Chg g w5 _ from by (repeat (first | (with_reducible exact Chg.refl _ _) | (with_reducible assumption) | (with_reducible refine Chg.alloc ?_ _) | (with_reducible refine Chg.drew ?_) | (with_reducible refine Chg.drewN ?_ _) | (with_reducible refine Chg.setNew ?_ (by first | exact Nat.le_refl _ | (simp; done) | (simp; omega) | omega) _) | (with_reducible refine Chg.only ?_ (by assumption)) | (with_reducible refine Chg.trans ?_ (by assumption))))) (by omega)) (Only.chg ((((Only.refl w.heap.size _).setCell 0 _).setCell 1 _).setCell 2 _)) (by omega)), IntN.ints (IntN.chg (IntN.chg J2.out (show Chg g w5 _ from by (repeat (first | (with_reducible exact Chg.refl _ _) | (with_reducible assumption) | (with_reducible refine Chg.alloc ?_ _) | (with_reducible refine Chg.drew ?_) | (with_reducible refine Chg.drewN ?_ _) | (with_reducible refine Chg.setNew ?_ (by first | exact Nat.le_refl _ | (simp; done) | (simp; omega) | omega) _) | (with_reducible refine Chg.only ?_ (by assumption)) | (with_reducible refine Chg.trans ?_ (by assumption))))) (by omega)) (Only.chg ((((Only.refl w.heap.size _).setCell 0 _).setCell 1 _).setCell 2 _)) (by omega))⟩, .inr ⟨p, hpl, rfl⟩, ⟨by omega, by omega⟩, ?_, ?_⟩
        · exact ⟨by omega, by omega⟩
        · exact (((B5.out.trans (Chg.below (show Chg g w5 _ from by (repeat (first | (with_reducible exact Chg.refl _ _) | (with_reducible assumption) | (with_reducible refine Chg.alloc ?_ _) | (with_reducible refine Chg.drew ?_) | (with_reducible refine Chg.drewN ?_ _) | (with_reducible refine Chg.setNew ?_ (by first | exact Nat.le_refl _ | (simp; done) | (simp; omega) | omega) _) | (with_reducible refine Chg.only ?_ (by assumption)) | (with_reducible refine Chg.trans ?_ (by assumption))))) (by omega) (by omega))).setCell (Nat.le_refl _) _).setCell (Nat.le_refl _) _).setCell (Nat.le_refl _) _
  · by_cases h50 : r5 = 0
    · subst h50
      have h51 : ¬ 0 < ss.length := fun h => h5 ⟨rfl, h⟩
      have h51I : ¬ (0 : Int) < (ss.length : Int) := by omega
      clear h5
      obtain ⟨⟨m0, x0⟩, y0⟩ := R5.out 0 (by omega)
      obtain ⟨⟨m1, x1⟩, y1⟩ := R5.out 1 (by omega)
      obtain ⟨⟨m2, x2⟩, y2⟩ := R5.out 2 (by omega)
      clear key
      go_upto_region 7 with fail
      go_region_with (go_at_call 57; refine (next_any g _ _ (by repeat (first | (with_reducible exact S6.out) | (with_reducible exact S5.out) | (with_reducible refine Src.drew ?_))) (by omega) (by omega)).mono ?_; rintro e w6 ⟨r6, u60, u61, rfl, hs6, ho6⟩; have hoc6 := ocell ho6; have hof6 := ofrozen ho6; have S6 := Lib.hid hs6; clear hs6)
      all_goals (go_wp2_with fail)
      all_goals
        refine bodyPost_ret (v := ?_) ?_ rfl ?_
        rotate_left
        · (simp [results, Try.results16, go_sem, *]; rfl)
        · refine ⟨_, _, _, ss, ls, vs, _, _, _, rfl, ⟨IntN.ints (IntN.chg (IntN.chg J0.out (show Chg g w5 _ from by (repeat (first | (with_reducible exact Chg.refl _ _) | (with_reducible assumption) | (with_reducible refine Chg.alloc ?_ _) | (with_reducible refine Chg.drew ?_) | (with_reducible refine Chg.drewN ?_ _) | (with_reducible refine Chg.setNew ?_ (by first | exact Nat.le_refl _ | (simp; done) | (simp; omega) | omega) _) | (with_reducible refine Chg.only ?_ (by assumption)) | (with_reducible refine Chg.trans ?_ (by assumption))))) (by omega)) (Only.chg ((((Only.refl w.heap.size _).setCell 0 _).setCell 1 _).setCell 2 _)) (by omega)), IntN.ints (IntN.chg (IntN.chg J1.out (show Chg g w5 _ from by (repeat (first | (with_reducible exact Chg.refl _ _) | (with_reducible assumption) | (with_reducible refine Chg.alloc ?_ _) | (with_reducible refine Chg.drew ?_) | (with_reducible refine Chg.drewN ?_ _) | (with_reducible refine Chg.setNew ?_ (by first | exact Nat.le_refl _ | (simp; done) | (simp; omega) | omega) _) | (with_reducible refine Chg.only ?_ (by assumption)) | (with_reducible refine Chg.trans ?_ (by assumption))))) (by omega)) (Only.chg ((((Only.refl w.heap.size _).setCell 0 _).setCell 1 _).setCell 2 _)) (by omega)), IntN.ints (IntN.chg (IntN.chg J2.out (show Chg g w5 _ from by (repeat (first | (with_reducible exact Chg.refl _ _) | (with_reducible assumption) | (with_reducible refine Chg.alloc ?_ _) | (with_reducible refine Chg.drew ?_) | (with_reducible refine Chg.drewN ?_ _) | (with_reducible refine Chg.setNew ?_ (by first | exact Nat.le_refl _ | (simp; done) | (simp; omega) | omega) _) | (with_reducible refine Chg.only ?_ (by assumption)) | (with_reducible refine Chg.trans ?_ (by assumption))))) (by omega)) (Only.chg ((((Only.refl w.heap.size _).setCell 0 _).setCell 1 _).setCell 2 _)) (by omega))⟩, .inl ⟨by omega, by omega⟩, ⟨by omega, by omega⟩, ?_, ?_⟩
          · exact ⟨by omega, by omega⟩
          · exact (((B5.out.trans (Chg.below (show Chg g w5 _ from by (repeat (first | (with_reducible exact Chg.refl _ _) | (with_reducible assumption) | (with_reducible refine Chg.alloc ?_ _) | (with_reducible refine Chg.drew ?_) | (with_reducible refine Chg.drewN ?_ _) | (with_reducible refine Chg.setNew ?_ (by first | exact Nat.le_refl _ | (simp; done) | (simp; omega) | omega) _) | (with_reducible refine Chg.only ?_ (by assumption)) | (with_reducible refine Chg.trans ?_ (by assumption))))) (by omega) (by omega))).setCell (Nat.le_refl _) _).setCell (Nat.le_refl _) _).setCell (Nat.le_refl _) _
    · have h5b : (r5 == 0) = false := by simpa using h50
      obtain ⟨⟨m0, x0⟩, y0⟩ := R5.out 0 (by omega)
      obtain ⟨⟨m1, x1⟩, y1⟩ := R5.out 1 (by omega)
      obtain ⟨⟨m2, x2⟩, y2⟩ := R5.out 2 (by omega)
      clear key
      go_upto_region 7 with fail
      go_region_with (go_at_call 57; refine (next_any g _ _ (by repeat (first | (with_reducible exact S6.out) | (with_reducible exact S5.out) | (with_reducible refine Src.drew ?_))) (by omega) (by omega)).mono ?_; rintro e w6 ⟨r6, u60, u61, rfl, hs6, ho6⟩; have hoc6 := ocell ho6; have hof6 := ofrozen ho6; have S6 := Lib.hid hs6; clear hs6)
      all_goals (go_wp2_with fail)
      all_goals
        refine bodyPost_ret (v := ?_) ?_ rfl ?_
        rotate_left
        · (simp [results, Try.results16, go_sem, *]; rfl)
        · refine ⟨_, _, _, ss, ls, vs, _, _, _, rfl, ⟨IntN.ints (IntN.chg (IntN.chg J0.out (show Chg g w5 _ from by (repeat (first | (with_reducible exact Chg.refl _ _) | (with_reducible assumption) | (with_reducible refine Chg.alloc ?_ _) | (with_reducible refine Chg.drew ?_) | (with_reducible refine Chg.drewN ?_ _) | (with_reducible refine Chg.setNew ?_ (by first | exact Nat.le_refl _ | (simp; done) | (simp; omega) | omega) _) | (with_reducible refine Chg.only ?_ (by assumption)) | (with_reducible refine Chg.trans ?_ (by assumption))))) (by omega)) (Only.chg ((((Only.refl w.heap.size _).setCell 0 _).setCell 1 _).setCell 2 _)) (by omega)), IntN.ints (IntN.chg (IntN.chg J1.out (show Chg g w5 _ from by (repeat (first | (with_reducible exact Chg.refl _ _) | (with_reducible assumption) | (with_reducible refine Chg.alloc ?_ _) | (with_reducible refine Chg.drew ?_) | (with_reducible refine Chg.drewN ?_ _) | (with_reducible refine Chg.setNew ?_ (by first | exact Nat.le_refl _ | (simp; done) | (simp; omega) | omega) _) | (with_reducible refine Chg.only ?_ (by assumption)) | (with_reducible refine Chg.trans ?_ (by assumption))))) (by omega)) (Only.chg ((((Only.refl w.heap.size _).setCell 0 _).setCell 1 _).setCell 2 _)) (by omega)), IntN.ints (IntN.chg (IntN.chg J2.out (show Chg g w5 _ from by (repeat (first | (with_reducible exact Chg.refl _ _) | (with_reducible assumption) | (with_reducible refine Chg.alloc ?_ _) | (with_reducible refine Chg.drew ?_) | (with_reducible refine Chg.drewN ?_ _) | (with_reducible refine Chg.setNew ?_ (by first | exact Nat.le_refl _ | (simp; done) | (simp; omega) | omega) _) | (with_reducible refine Chg.only ?_ (by assumption)) | (with_reducible refine Chg.trans ?_ (by assumption))))) (by omega)) (Only.chg ((((Only.refl w.heap.size _).setCell 0 _).setCell 1 _).setCell 2 _)) (by omega))⟩, .inl ⟨by omega, by omega⟩, ⟨by omega, by omega⟩, ?_, ?_⟩
          · exact ⟨by omega, by omega⟩
          · exact (((B5.out.trans (Chg.below (show Chg g w5 _ from by (repeat (first | (with_reducible exact Chg.refl _ _) | (with_reducible assumption) | (with_reducible refine Chg.alloc ?_ _) | (with_reducible refine Chg.drew ?_) | (with_reducible refine Chg.drewN ?_ _) | (with_reducible refine Chg.setNew ?_ (by first | exact Nat.le_refl _ | (simp; done) | (simp; omega) | omega) _) | (with_reducible refine Chg.only ?_ (by assumption)) | (with_reducible refine Chg.trans ?_ (by assumption))))) (by omega) (by omega))).setCell (Nat.le_refl _) _).setCell (Nat.le_refl _) _).setCell (Nat.le_refl _) _
end Go.Proofs.Ytckccpcigkbfmaa
