/-
The laws' own comparison of tables, and the model's drawn tables.
-/
import Derived.Test.YtckccpcigkbfmaaDoorDrawTabA
import Derived.Test.YtckccpcigkbfmaaDoorReadTI
namespace Go.Proofs.YtckccpcigkbfmaaDoor
open Go.ChangeShapes Go.WideShapes Go.ChangeAt Go.RowKit
set_option linter.unusedVariables false
set_option linter.unusedSimpArgs false
theorem likeInts_same (v u : Value) (xs : List Int) (w : World) (h : IntS w w.heap.size v xs) (h' : IntS w w.heap.size u xs) : Calls Tryd.prog 28 #[v, u] w fun e w' => e = .returned (.bool true) ∧ Below w.heap.size w w' := by
  obtain ⟨hn, a, cap, rfl, hx0⟩ := h
  obtain ⟨_, a', cap', rfl, hx0'⟩ := h'
  obtain ⟨n, hnn⟩ : ∃ n, n = xs.length := ⟨_, rfl⟩
  rw [← hnn] at hn hx0 hx0' ⊢
  have HX := Lib.hid hx0
  have HX' := Lib.hid hx0'
  clear hx0 hx0' hnn
  go_enter Tryd.func28, Tryd.ntmps28
  go_wp2
  go_loopw [5] (fun i wr => ∃ k : Nat, k ≤ n ∧ i = .int .i64 k ∧ Below w.heap.size w wr) (fun i _ => n - (intOf i).toNat)
  case atStart => exact ⟨0, by omega, rfl, by (repeat (first | (with_reducible exact Below.refl _ _) | (with_reducible assumption) | (with_reducible refine ext_alloc ?_ _) | (with_reducible refine ext_drew ?_) | (with_reducible refine ext_drewN ?_ _) | (with_reducible refine ext_set ?_ (by first | exact Nat.le_refl _ | (simp; done) | (simp; omega) | omega) _) | (with_reducible refine ext_trans ?_ (by assumption))))⟩
  case round =>
    obtain ⟨k, hk, rfl, hbw⟩ := hrel
    by_cases hkn : k < n
    · obtain ⟨b, off, rfl, hlt, hx⟩ := HX.out (by omega)
      obtain ⟨b', off', rfl, hlt', hx'⟩ := HX'.out (by omega)
      have y0 : wr.cell? ⟨b, off + k, none⟩ = some (.int .i64 (iv xs k)) := by rw [hbw.cell (by show b < _; omega)]; exact hx k hkn
      have y1 : wr.cell? ⟨b', off' + k, none⟩ = some (.int .i64 (iv xs k)) := by rw [hbw.cell (by show b' < _; omega)]; exact hx' k hkn
      have i0 : (0 : Int) ≤ (k : Int) := by omega
      have i1 : (k : Int) < (n : Int) := by omega
      clear hx hx'
      go_wp2
      go_quiet (fail)
      go_wp2
      go_roundw
      case rel => exact ⟨k + 1, by omega, by go_num, by (repeat (first | (with_reducible exact Below.refl _ _) | (with_reducible assumption) | (with_reducible refine ext_alloc ?_ _) | (with_reducible refine ext_drew ?_) | (with_reducible refine ext_drewN ?_ _) | (with_reducible refine ext_set ?_ (by first | exact Nat.le_refl _ | (simp; done) | (simp; omega) | omega) _) | (with_reducible refine ext_trans ?_ (by assumption))))⟩
      case measure => simp [intOf]; omega
    · obtain rfl : k = n := by omega
      go_wp2
      go_ret
      exact ⟨rfl, hbw⟩
set_option maxHeartbeats 1000000 in
theorem w5Table_same (v0 v1 v2 u0 u1 u2 : Value) (ss ls vs : List Int) (w : World) (h0 : IntS w w.heap.size v0 ss) (h1 : IntS w w.heap.size v1 ls) (h2 : IntS w w.heap.size v2 vs)
    (k0 : IntS w w.heap.size u0 ss) (k1 : IntS w w.heap.size u1 ls) (k2 : IntS w w.heap.size u2 vs) : Calls Tryd.prog 12 #[.agg #[v0, v1, v2], .agg #[u0, u1, u2]] w fun e w' => e = .returned (.bool true) ∧ Below w.heap.size w w' := by
  have H0 := Lib.hid h0; have H1 := Lib.hid h1; have H2 := Lib.hid h2; have K0 := Lib.hid k0; have K1 := Lib.hid k1; have K2 := Lib.hid k2
  obtain ⟨_, a0, c0, rfl, _⟩ := h0; obtain ⟨_, a1, c1, rfl, _⟩ := h1; obtain ⟨_, a2, c2, rfl, _⟩ := h2; obtain ⟨_, b0, d0, rfl, _⟩ := k0; obtain ⟨_, b1, d1, rfl, _⟩ := k1; obtain ⟨_, b2, d2, rfl, _⟩ := k2
  go_enter Tryd.func12, Tryd.ntmps12
  go_wp2_with (go_at_call 28; refine (likeInts_same _ _ _ _ (by first | exact H0.out.up (by (repeat (first | (with_reducible exact Below.refl _ _) | (with_reducible assumption) | (with_reducible refine ext_alloc ?_ _) | (with_reducible refine ext_drew ?_) | (with_reducible refine ext_drewN ?_ _) | (with_reducible refine ext_set ?_ (by first | exact Nat.le_refl _ | (simp; done) | (simp; omega) | omega) _) | (with_reducible refine ext_trans ?_ (by assumption))))) | exact H1.out.up (by (repeat (first | (with_reducible exact Below.refl _ _) | (with_reducible assumption) | (with_reducible refine ext_alloc ?_ _) | (with_reducible refine ext_drew ?_) | (with_reducible refine ext_drewN ?_ _) | (with_reducible refine ext_set ?_ (by first | exact Nat.le_refl _ | (simp; done) | (simp; omega) | omega) _) | (with_reducible refine ext_trans ?_ (by assumption))))) | exact H2.out.up (by (repeat (first | (with_reducible exact Below.refl _ _) | (with_reducible assumption) | (with_reducible refine ext_alloc ?_ _) | (with_reducible refine ext_drew ?_) | (with_reducible refine ext_drewN ?_ _) | (with_reducible refine ext_set ?_ (by first | exact Nat.le_refl _ | (simp; done) | (simp; omega) | omega) _) | (with_reducible refine ext_trans ?_ (by assumption)))))) (by first | exact K0.out.up (by (repeat (first | (with_reducible exact Below.refl _ _) | (with_reducible assumption) | (with_reducible refine ext_alloc ?_ _) | (with_reducible refine ext_drew ?_) | (with_reducible refine ext_drewN ?_ _) | (with_reducible refine ext_set ?_ (by first | exact Nat.le_refl _ | (simp; done) | (simp; omega) | omega) _) | (with_reducible refine ext_trans ?_ (by assumption))))) | exact K1.out.up (by (repeat (first | (with_reducible exact Below.refl _ _) | (with_reducible assumption) | (with_reducible refine ext_alloc ?_ _) | (with_reducible refine ext_drew ?_) | (with_reducible refine ext_drewN ?_ _) | (with_reducible refine ext_set ?_ (by first | exact Nat.le_refl _ | (simp; done) | (simp; omega) | omega) _) | (with_reducible refine ext_trans ?_ (by assumption))))) | exact K2.out.up (by (repeat (first | (with_reducible exact Below.refl _ _) | (with_reducible assumption) | (with_reducible refine ext_alloc ?_ _) | (with_reducible refine ext_drew ?_) | (with_reducible refine ext_drewN ?_ _) | (with_reducible refine ext_set ?_ (by first | exact Nat.le_refl _ | (simp; done) | (simp; omega) | omega) _) | (with_reducible refine ext_trans ?_ (by assumption))))))).mono ?_; rintro e w1 ⟨rfl, hb⟩; obtain ⟨hc, hf⟩ := bcell hb; have hz := hb.size; (try simp at hz); (try (have hz := Nat.lt_of_succ_le hz)); (try (have y0 : w.heap.size ≤ w1.heap.size := by omega)); (try (have z0 : w.heap.size < w1.heap.size := by omega)); (try (have z1 : w.heap.size + 1 < w1.heap.size := by omega)); (try (have z2 : w.heap.size + 1 + 1 < w1.heap.size := by omega)); (try (have z3 : w.heap.size + 1 + 1 + 1 < w1.heap.size := by omega)); (try (have z4 : w.heap.size + 1 + 1 + 1 + 1 < w1.heap.size := by omega)); (try (have x0 : wc.heap.size < w1.heap.size := by omega)); (try (have x1 : wc.heap.size ≤ w1.heap.size := by omega)))
  go_ret
  exact ⟨rfl, by (repeat (first | (with_reducible exact Below.refl _ _) | (with_reducible assumption) | (with_reducible refine ext_alloc ?_ _) | (with_reducible refine ext_drew ?_) | (with_reducible refine ext_drewN ?_ _) | (with_reducible refine ext_set ?_ (by first | exact Nat.le_refl _ | (simp; done) | (simp; omega) | omega) _) | (with_reducible refine ext_trans ?_ (by assumption))))⟩
def TTD (w : World) (e : Ending) (w' : World) : Prop := ∃ (v0 v1 v2 : Value) (ss ls vs : List Int), e = .returned (.agg #[v0, v1, v2]) ∧ (IntS w' w'.heap.size v0 ss ∧ IntS w' w'.heap.size v1 ls ∧ IntS w' w'.heap.size v2 vs) ∧ Below w.heap.size w w'
set_option maxHeartbeats 4000000 in
theorem drawTT_any (v : Value) (n : Nat) (w : World) (h : BytesAt w w.heap.size v n) : Calls Tryd.prog 6 #[v] w (TTD w) := by
  have h' := Lib.hid h
  clear h
  go_enter Tryd.func6, Tryd.ntmps6
  go_wp2_with fail
  go_at_call 18
  refine (from_any v n _ (h'.out.keep (by (repeat (first | (with_reducible exact Below.refl _ _) | (with_reducible assumption) | (with_reducible refine ext_alloc ?_ _) | (with_reducible refine ext_drew ?_) | (with_reducible refine ext_drewN ?_ _) | (with_reducible refine ext_set ?_ (by first | exact Nat.le_refl _ | (simp; done) | (simp; omega) | omega) _) | (with_reducible refine ext_trans ?_ (by assumption))))) (by simp))).mono ?_
  rintro e w1 ⟨rfl, hs1, hb1⟩
  have R1 := Lib.hid (show Res3 w1 w.heap.size from fun j hj => by
    obtain ⟨⟨u, hu⟩, hf⟩ := res_new w (.slice none 0 0) (.slice none 0 0) (.slice none 0 0) 26 j hj
    exact ⟨⟨u, cell_keep hu hb1⟩, by rw [hb1.frozen (by simp)]; exact hf⟩)
  have S1 := Lib.hid hs1
  have hz1 := hb1.size
  simp at hz1
  have B1 := Lib.hid (show Below w.heap.size w w1 by (repeat (first | (with_reducible exact Below.refl _ _) | (with_reducible assumption) | (with_reducible refine ext_alloc ?_ _) | (with_reducible refine ext_drew ?_) | (with_reducible refine ext_drewN ?_ _) | (with_reducible refine ext_set ?_ (by first | exact Nat.le_refl _ | (simp; done) | (simp; omega) | omega) _) | (with_reducible refine ext_trans ?_ (by assumption)))))
  obtain ⟨g, hg⟩ : ∃ g, g = w.heap.size + 1 := ⟨_, rfl⟩
  have hsz : (w.alloc (Obj.cells #[.slice none 0 0, .slice none 0 0, .slice none 0 0] 26)).heap.size = g := by simp [hg]
  rw [hsz] at S1
  clear hs1 hb1 h'
  go_wp2_with fail
  rw [← hg]
  have hgw : w.heap.size < g := by omega
  go_at_call 17
  refine (drawAny_any g _ S1.out).mono ?_
  rintro e w2 ⟨v0, v1, v2, ss, ls, vs, rfl, hss, ⟨i0, i1, i2⟩, hs2, hc2⟩
  have hz2 := hc2.size
  have R2 := resKeep R1.out hc2 (by omega)
  have ⟨⟨x0, r0⟩, f0⟩ := R2 0 (by omega)
  have ⟨⟨x1, r1⟩, f1⟩ := R2 1 (by omega)
  have ⟨⟨x2, r2⟩, f2⟩ := R2 2 (by omega)
  have B2 : Below w.heap.size w w2 := B1.out.trans (hc2.below (by omega) (by omega))
  have I0 := Lib.hid i0; have I1 := Lib.hid i1; have I2 := Lib.hid i2
  obtain ⟨l0, a0, c0, rfl, _⟩ := i0
  obtain ⟨l1, a1, c1, rfl, _⟩ := i1
  obtain ⟨l2, a2, c2, rfl, _⟩ := i2
  have hg1 : g < w1.heap.size := S1.out.lt
  clear hs2 hc2 R1 R2 B1 S1 hsz hg
  go_wp2_with fail
  exact bodyPost_ret (v := .agg #[.slice a0 ss.length c0, .slice a1 ls.length c1, .slice a2 vs.length c2]) (by simp [results, Tryd.results6, go_sem, *]) rfl
    ⟨_, _, _, ss, ls, vs, rfl, ⟨IntN.ints (IntN.chg I0.out (Only.chg ((((Only.refl w.heap.size _).setCell 0 _).setCell 1 _).setCell 2 _)) (by omega)), IntN.ints (IntN.chg I1.out (Only.chg ((((Only.refl w.heap.size _).setCell 0 _).setCell 1 _).setCell 2 _)) (by omega)), IntN.ints (IntN.chg I2.out (Only.chg ((((Only.refl w.heap.size _).setCell 0 _).setCell 1 _).setCell 2 _)) (by omega))⟩, by (repeat (first | (with_reducible exact Below.refl _ _) | (with_reducible assumption) | (with_reducible refine ext_alloc ?_ _) | (with_reducible refine ext_drew ?_) | (with_reducible refine ext_drewN ?_ _) | (with_reducible refine ext_set ?_ (by first | exact Nat.le_refl _ | (simp; done) | (simp; omega) | omega) _) | (with_reducible refine ext_trans ?_ (by assumption))))⟩
end Go.Proofs.YtckccpcigkbfmaaDoor
