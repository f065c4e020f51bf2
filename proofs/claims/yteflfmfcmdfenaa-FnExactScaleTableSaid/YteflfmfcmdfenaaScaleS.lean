/-
The contract of the model's ScaleTable, for all arguments.
-/
import Derived.Test.YteflfmfcmdfenaaScale
import Derived.Test.YteflfmfcmdfenaaBound
namespace Go.Proofs.Yteflfmfcmdfenaa
open Go.ChangeShapes Go.WideShapes Go.ChangeAt Go.RowKit
set_option linter.unusedVariables false
def stM (th m : Int) : Bool := inB th 0 10000 && isM m
theorem specScale_no (v0 v1 v2 : Value) (ss ls vs : List Int) (th m : Int) (w : World) (h0 : IntS w w.heap.size v0 ss) (h1 : IntS w w.heap.size v1 ls) (h2 : IntS w w.heap.size v2 vs) (ht : tabB ss ls vs = false) :
    Calls Try.prog 31 #[.agg #[v0, v1, v2], .int .i64 th, .int .i64 m] w (NewT [] [] [] 1 w) := by
  have H0 := Lib.hid h0; have H1 := Lib.hid h1; have H2 := Lib.hid h2
  obtain ⟨_, a0, c0, rfl, _⟩ := h0; obtain ⟨_, a1, c1, rfl, _⟩ := h1; obtain ⟨_, a2, c2, rfl, _⟩ := h2
  go_enter Try.func31, Try.ntmps31
  go_wp2_with (go_at_call 19; refine (specIsTable_any _ _ _ _ _ _ _ (H0.out.up (by (repeat (first | (with_reducible exact Below.refl _ _) | (with_reducible assumption) | (with_reducible refine ext_alloc ?_ _) | (with_reducible refine ext_drew ?_) | (with_reducible refine ext_drewN ?_ _) | (with_reducible refine ext_set ?_ (by first | exact Nat.le_refl _ | (simp; done) | (simp; omega) | omega) _) | (with_reducible refine ext_trans ?_ (by assumption)))))) (H1.out.up (by (repeat (first | (with_reducible exact Below.refl _ _) | (with_reducible assumption) | (with_reducible refine ext_alloc ?_ _) | (with_reducible refine ext_drew ?_) | (with_reducible refine ext_drewN ?_ _) | (with_reducible refine ext_set ?_ (by first | exact Nat.le_refl _ | (simp; done) | (simp; omega) | omega) _) | (with_reducible refine ext_trans ?_ (by assumption)))))) (H2.out.up (by (repeat (first | (with_reducible exact Below.refl _ _) | (with_reducible assumption) | (with_reducible refine ext_alloc ?_ _) | (with_reducible refine ext_drew ?_) | (with_reducible refine ext_drewN ?_ _) | (with_reducible refine ext_set ?_ (by first | exact Nat.le_refl _ | (simp; done) | (simp; omega) | omega) _) | (with_reducible refine ext_trans ?_ (by assumption))))))).mono ?_; rintro e w1 ⟨rfl, hb⟩; obtain ⟨hc, hf⟩ := bcell hb; have hz := hb.size; (try simp at hz); (try (have hz := Nat.lt_of_succ_le hz)); (try (have y0 : w.heap.size ≤ w1.heap.size := by omega)); (try (have z0 : w.heap.size < w1.heap.size := by omega)); (try (have z1 : w.heap.size + 1 < w1.heap.size := by omega)); (try (have z2 : w.heap.size + 1 + 1 < w1.heap.size := by omega)); (try (have z3 : w.heap.size + 1 + 1 + 1 < w1.heap.size := by omega)); (try (have z4 : w.heap.size + 1 + 1 + 1 + 1 < w1.heap.size := by omega)); (try (have x0 : wc.heap.size < w1.heap.size := by omega)); (try (have x1 : wc.heap.size ≤ w1.heap.size := by omega)))
  exact bodyPost_ret (v := .tuple #[.agg #[.slice none 0 0, .slice none 0 0, .slice none 0 0], .int .i64 1]) (by simp [results, Try.results31, go_sem, *]) rfl ⟨_, _, _, rfl, tab_empty _ _, by (repeat (first | (with_reducible exact Below.refl _ _) | (with_reducible assumption) | (with_reducible refine ext_alloc ?_ _) | (with_reducible refine ext_drew ?_) | (with_reducible refine ext_drewN ?_ _) | (with_reducible refine ext_set ?_ (by first | exact Nat.le_refl _ | (simp; done) | (simp; omega) | omega) _) | (with_reducible refine ext_trans ?_ (by assumption))))⟩
theorem specScale_bad (v0 v1 v2 : Value) (ss ls vs : List Int) (th m : Int) (w : World) (h0 : IntS w w.heap.size v0 ss) (h1 : IntS w w.heap.size v1 ls) (h2 : IntS w w.heap.size v2 vs) (ht : tabB ss ls vs = true) (hm : stM th m = false) :
    Calls Try.prog 31 #[.agg #[v0, v1, v2], .int .i64 th, .int .i64 m] w (NewT [] [] [] 2 w) := by
  have H0 := Lib.hid h0; have H1 := Lib.hid h1; have H2 := Lib.hid h2
  obtain ⟨_, a0, c0, rfl, _⟩ := h0; obtain ⟨_, a1, c1, rfl, _⟩ := h1; obtain ⟨_, a2, c2, rfl, _⟩ := h2
  cases h1' : inB th 0 10000
  · clear hm
    go_enter Try.func31, Try.ntmps31
    go_wp2_with (first | (go_at_call 19; refine (specIsTable_any _ _ _ _ _ _ _ (H0.out.up (by (repeat (first | (with_reducible exact Below.refl _ _) | (with_reducible assumption) | (with_reducible refine ext_alloc ?_ _) | (with_reducible refine ext_drew ?_) | (with_reducible refine ext_drewN ?_ _) | (with_reducible refine ext_set ?_ (by first | exact Nat.le_refl _ | (simp; done) | (simp; omega) | omega) _) | (with_reducible refine ext_trans ?_ (by assumption)))))) (H1.out.up (by (repeat (first | (with_reducible exact Below.refl _ _) | (with_reducible assumption) | (with_reducible refine ext_alloc ?_ _) | (with_reducible refine ext_drew ?_) | (with_reducible refine ext_drewN ?_ _) | (with_reducible refine ext_set ?_ (by first | exact Nat.le_refl _ | (simp; done) | (simp; omega) | omega) _) | (with_reducible refine ext_trans ?_ (by assumption)))))) (H2.out.up (by (repeat (first | (with_reducible exact Below.refl _ _) | (with_reducible assumption) | (with_reducible refine ext_alloc ?_ _) | (with_reducible refine ext_drew ?_) | (with_reducible refine ext_drewN ?_ _) | (with_reducible refine ext_set ?_ (by first | exact Nat.le_refl _ | (simp; done) | (simp; omega) | omega) _) | (with_reducible refine ext_trans ?_ (by assumption))))))).mono ?_; rintro e w1 ⟨rfl, hb⟩; obtain ⟨hc, hf⟩ := bcell hb; have hz := hb.size; (try simp at hz); (try (have hz := Nat.lt_of_succ_le hz)); (try (have y0 : w.heap.size ≤ w1.heap.size := by omega)); (try (have z0 : w.heap.size < w1.heap.size := by omega)); (try (have z1 : w.heap.size + 1 < w1.heap.size := by omega)); (try (have z2 : w.heap.size + 1 + 1 < w1.heap.size := by omega)); (try (have z3 : w.heap.size + 1 + 1 + 1 < w1.heap.size := by omega)); (try (have z4 : w.heap.size + 1 + 1 + 1 + 1 < w1.heap.size := by omega)); (try (have x0 : wc.heap.size < w1.heap.size := by omega)); (try (have x1 : wc.heap.size ≤ w1.heap.size := by omega))) | (go_at_call 47; refine (l01In_any _ _ _ _).mono ?_; rintro e w' ⟨rfl, rfl⟩) | (go_at_call 41; refine (l01Mode_any _ _).mono ?_; rintro e w' ⟨rfl, rfl⟩))
    exact bodyPost_ret (v := .tuple #[.agg #[.slice none 0 0, .slice none 0 0, .slice none 0 0], .int .i64 2]) (by simp [results, Try.results31, go_sem, *]) rfl ⟨_, _, _, rfl, tab_empty _ _, by (repeat (first | (with_reducible exact Below.refl _ _) | (with_reducible assumption) | (with_reducible refine ext_alloc ?_ _) | (with_reducible refine ext_drew ?_) | (with_reducible refine ext_drewN ?_ _) | (with_reducible refine ext_set ?_ (by first | exact Nat.le_refl _ | (simp; done) | (simp; omega) | omega) _) | (with_reducible refine ext_trans ?_ (by assumption))))⟩
  · have h2' : isM m = false := by simpa [stM, h1'] using hm
    clear hm
    go_enter Try.func31, Try.ntmps31
    go_wp2_with (first | (go_at_call 19; refine (specIsTable_any _ _ _ _ _ _ _ (H0.out.up (by (repeat (first | (with_reducible exact Below.refl _ _) | (with_reducible assumption) | (with_reducible refine ext_alloc ?_ _) | (with_reducible refine ext_drew ?_) | (with_reducible refine ext_drewN ?_ _) | (with_reducible refine ext_set ?_ (by first | exact Nat.le_refl _ | (simp; done) | (simp; omega) | omega) _) | (with_reducible refine ext_trans ?_ (by assumption)))))) (H1.out.up (by (repeat (first | (with_reducible exact Below.refl _ _) | (with_reducible assumption) | (with_reducible refine ext_alloc ?_ _) | (with_reducible refine ext_drew ?_) | (with_reducible refine ext_drewN ?_ _) | (with_reducible refine ext_set ?_ (by first | exact Nat.le_refl _ | (simp; done) | (simp; omega) | omega) _) | (with_reducible refine ext_trans ?_ (by assumption)))))) (H2.out.up (by (repeat (first | (with_reducible exact Below.refl _ _) | (with_reducible assumption) | (with_reducible refine ext_alloc ?_ _) | (with_reducible refine ext_drew ?_) | (with_reducible refine ext_drewN ?_ _) | (with_reducible refine ext_set ?_ (by first | exact Nat.le_refl _ | (simp; done) | (simp; omega) | omega) _) | (with_reducible refine ext_trans ?_ (by assumption))))))).mono ?_; rintro e w1 ⟨rfl, hb⟩; obtain ⟨hc, hf⟩ := bcell hb; have hz := hb.size; (try simp at hz); (try (have hz := Nat.lt_of_succ_le hz)); (try (have y0 : w.heap.size ≤ w1.heap.size := by omega)); (try (have z0 : w.heap.size < w1.heap.size := by omega)); (try (have z1 : w.heap.size + 1 < w1.heap.size := by omega)); (try (have z2 : w.heap.size + 1 + 1 < w1.heap.size := by omega)); (try (have z3 : w.heap.size + 1 + 1 + 1 < w1.heap.size := by omega)); (try (have z4 : w.heap.size + 1 + 1 + 1 + 1 < w1.heap.size := by omega)); (try (have x0 : wc.heap.size < w1.heap.size := by omega)); (try (have x1 : wc.heap.size ≤ w1.heap.size := by omega))) | (go_at_call 47; refine (l01In_any _ _ _ _).mono ?_; rintro e w' ⟨rfl, rfl⟩) | (go_at_call 41; refine (l01Mode_any _ _).mono ?_; rintro e w' ⟨rfl, rfl⟩))
    exact bodyPost_ret (v := .tuple #[.agg #[.slice none 0 0, .slice none 0 0, .slice none 0 0], .int .i64 2]) (by simp [results, Try.results31, go_sem, *]) rfl ⟨_, _, _, rfl, tab_empty _ _, by (repeat (first | (with_reducible exact Below.refl _ _) | (with_reducible assumption) | (with_reducible refine ext_alloc ?_ _) | (with_reducible refine ext_drew ?_) | (with_reducible refine ext_drewN ?_ _) | (with_reducible refine ext_set ?_ (by first | exact Nat.le_refl _ | (simp; done) | (simp; omega) | omega) _) | (with_reducible refine ext_trans ?_ (by assumption))))⟩
theorem scl_bd {v th : Int} (h : -1000000 ≤ v ∧ v ≤ 1000000) (h1 : 0 ≤ th) (h2 : th ≤ 10000) : -10000000000000 ≤ v * th ∧ v * th ≤ 10000000000000 := mul_bd v th (by omega) (by omega) h1 h2
theorem tab_scl {ss ls vs : List Int} (th m : Int) (h : tabB ss ls vs = true) : tabB ss ls (scl th m vs) = valB (scl th m vs) := by
  obtain ⟨h0, h1, h2, _⟩ := tab_get h
  simp [tabB, h0, h1, scl_len, h2]
set_option maxHeartbeats 4000000 in
theorem specScale_end (v0 v1 v2 : Value) (ss ls vs : List Int) (th m : Int) (w : World) (h0 : IntS w w.heap.size v0 ss) (h1 : IntS w w.heap.size v1 ls) (h2 : IntS w w.heap.size v2 vs) (ht : tabB ss ls vs = true) (hm : stM th m = true) :
    Calls Try.prog 31 #[.agg #[v0, v1, v2], .int .i64 th, .int .i64 m] w fun e w' => (valB (scl th m vs) = true → NewT ss ls (scl th m vs) 0 w e w') ∧ (valB (scl th m vs) = false → NewT [] [] [] 2 w e w') := by
  have H0 := Lib.hid h0; have H1 := Lib.hid h1; have H2 := Lib.hid h2
  obtain ⟨_, a0, c0, rfl, _⟩ := h0; obtain ⟨_, a1, c1, rfl, _⟩ := h1; obtain ⟨_, a2, c2, rfl, _⟩ := h2
  have ⟨hp, hp16⟩ := tab_pos ht
  have ⟨e0, e1, e2, e3⟩ := tab_get ht
  have ⟨s0, s1, _⟩ := ax_get e0
  have ⟨l0, l1, _⟩ := ax_get e1
  have ⟨m1, m2⟩ : inB th 0 10000 = true ∧ isM m = true := by simpa [stM] using hm
  have ⟨t1, t2⟩ := inB_get m1
  have HT := Lib.hid ht
  have E3 := Lib.hid e3
  clear e0 e1 e2 e3 hm
  go_enter Try.func31, Try.ntmps31
  go_wp2_with (first | (go_at_call 19; refine (specIsTable_any _ _ _ _ _ _ _ (H0.out.up (by (repeat (first | (with_reducible exact Below.refl _ _) | (with_reducible assumption) | (with_reducible refine ext_alloc ?_ _) | (with_reducible refine ext_drew ?_) | (with_reducible refine ext_drewN ?_ _) | (with_reducible refine ext_set ?_ (by first | exact Nat.le_refl _ | (simp; done) | (simp; omega) | omega) _) | (with_reducible refine ext_trans ?_ (by assumption)))))) (H1.out.up (by (repeat (first | (with_reducible exact Below.refl _ _) | (with_reducible assumption) | (with_reducible refine ext_alloc ?_ _) | (with_reducible refine ext_drew ?_) | (with_reducible refine ext_drewN ?_ _) | (with_reducible refine ext_set ?_ (by first | exact Nat.le_refl _ | (simp; done) | (simp; omega) | omega) _) | (with_reducible refine ext_trans ?_ (by assumption)))))) (H2.out.up (by (repeat (first | (with_reducible exact Below.refl _ _) | (with_reducible assumption) | (with_reducible refine ext_alloc ?_ _) | (with_reducible refine ext_drew ?_) | (with_reducible refine ext_drewN ?_ _) | (with_reducible refine ext_set ?_ (by first | exact Nat.le_refl _ | (simp; done) | (simp; omega) | omega) _) | (with_reducible refine ext_trans ?_ (by assumption))))))).mono ?_; rintro e w1 ⟨rfl, hb⟩; obtain ⟨hc, hf⟩ := bcell hb; have hz := hb.size; (try simp at hz); (try (have hz := Nat.lt_of_succ_le hz)); (try (have y0 : w.heap.size ≤ w1.heap.size := by omega)); (try (have z0 : w.heap.size < w1.heap.size := by omega)); (try (have z1 : w.heap.size + 1 < w1.heap.size := by omega)); (try (have z2 : w.heap.size + 1 + 1 < w1.heap.size := by omega)); (try (have z3 : w.heap.size + 1 + 1 + 1 < w1.heap.size := by omega)); (try (have z4 : w.heap.size + 1 + 1 + 1 + 1 < w1.heap.size := by omega)); (try (have x0 : wc.heap.size < w1.heap.size := by omega)); (try (have x1 : wc.heap.size ≤ w1.heap.size := by omega))) | (go_at_call 47; refine (l01In_any _ _ _ _).mono ?_; rintro e w' ⟨rfl, rfl⟩) | (go_at_call 41; refine (l01Mode_any _ _).mono ?_; rintro e w' ⟨rfl, rfl⟩))
  clear ht m1 m2
  (go_at_call 56; refine (own_any _ _ _ _ _ _ _ (H0.out.up (by (repeat (first | (with_reducible exact Below.refl _ _) | (with_reducible assumption) | (with_reducible refine ext_alloc ?_ _) | (with_reducible refine ext_drew ?_) | (with_reducible refine ext_drewN ?_ _) | (with_reducible refine ext_set ?_ (by first | exact Nat.le_refl _ | (simp; done) | (simp; omega) | omega) _) | (with_reducible refine ext_trans ?_ (by assumption)))))) (H1.out.up (by (repeat (first | (with_reducible exact Below.refl _ _) | (with_reducible assumption) | (with_reducible refine ext_alloc ?_ _) | (with_reducible refine ext_drew ?_) | (with_reducible refine ext_drewN ?_ _) | (with_reducible refine ext_set ?_ (by first | exact Nat.le_refl _ | (simp; done) | (simp; omega) | omega) _) | (with_reducible refine ext_trans ?_ (by assumption)))))) (H2.out.up (by (repeat (first | (with_reducible exact Below.refl _ _) | (with_reducible assumption) | (with_reducible refine ext_alloc ?_ _) | (with_reducible refine ext_drew ?_) | (with_reducible refine ext_drewN ?_ _) | (with_reducible refine ext_set ?_ (by first | exact Nat.le_refl _ | (simp; done) | (simp; omega) | omega) _) | (with_reducible refine ext_trans ?_ (by assumption)))))) (by omega) (by omega) (by omega) (by omega) (by omega) (by omega)).mono ?_; rintro e w2 ⟨u0, u1, u2, rfl, hu, hb⟩; obtain ⟨hc, hf⟩ := bcell hb; have hz := hb.size; (try simp at hz); (try (have hz := Nat.lt_of_succ_le hz)); (try (have y0 : w.heap.size ≤ w2.heap.size := by omega)); (try (have z0 : w.heap.size < w2.heap.size := by omega)); (try (have z1 : w.heap.size + 1 < w2.heap.size := by omega)); (try (have z2 : w.heap.size + 1 + 1 < w2.heap.size := by omega)); (try (have z3 : w.heap.size + 1 + 1 + 1 < w2.heap.size := by omega)); (try (have z4 : w.heap.size + 1 + 1 + 1 + 1 < w2.heap.size := by omega)))
  have hu := hu.mono (C := w.heap.size + 2) (by omega)
  have U := Lib.hid hu
  obtain ⟨⟨_, p0, q0, rfl, _⟩, ⟨_, p1, q1, rfl, _⟩, ⟨_, p2, q2, rfl, g1⟩, _⟩ := hu
  obtain ⟨g, rfl, gB, _, _⟩ := g1 hp
  clear g1
  have n0 : g < w2.heap.size := by omega
  have hls := scl_len th m vs
  have HLS := Lib.hid hls
  clear hls
  have U2 := Lib.hid (show OwnS (w2.alloc (Obj.cells #[.slice p0 ss.length q0, .slice p1 ls.length q1, .slice (some ⟨g, 0, none⟩) vs.length q2] 26)) (w.heap.size + 2) (.slice (some ⟨g, 0, none⟩) vs.length q2) (mixL 0 vs (scl th m vs)) by rw [mix_zero]; exact U.out.2.2.1.alloc _)
  have C2 := Lib.hid (show (w2.alloc (Obj.cells #[.slice p0 ss.length q0, .slice p1 ls.length q1, .slice (some ⟨g, 0, none⟩) vs.length q2] 26)).cell? ⟨w2.heap.size, 2, none⟩ = some (.slice (some ⟨g, 0, none⟩) vs.length q2) by simp [go_sem])
  have hbk : Blk (.slice (some ⟨g, 0, none⟩) vs.length q2) g := ⟨0, _, _, rfl, hp⟩
  have nbk : ¬ Blk (.slice (some ⟨g, 0, none⟩) vs.length q2) w2.heap.size := fun hb => by have := U.out.2.2.1.blk hb; omega
  have hbW : Below w.heap.size w (w2.alloc (Obj.cells #[.slice p0 ss.length q0, .slice p1 ls.length q1, .slice (some ⟨g, 0, none⟩) vs.length q2] 26)) := by (repeat (first | (with_reducible exact Below.refl _ _) | (with_reducible assumption) | (with_reducible refine ext_alloc ?_ _) | (with_reducible refine ext_drew ?_) | (with_reducible refine ext_drewN ?_ _) | (with_reducible refine ext_set ?_ (by first | exact Nat.le_refl _ | (simp; done) | (simp; omega) | omega) _) | (with_reducible refine ext_trans ?_ (by assumption))))
  have RC := Lib.hid (show ∀ j, j < 3 → (w2.alloc (Obj.cells #[.slice p0 ss.length q0, .slice p1 ls.length q1, .slice (some ⟨g, 0, none⟩) vs.length q2] 26)).cell? ⟨w.heap.size + 1, j, none⟩ = some (.slice none 0 0) ∧ (w2.alloc (Obj.cells #[.slice p0 ss.length q0, .slice p1 ls.length q1, .slice (some ⟨g, 0, none⟩) vs.length q2] 26)).frozen? ⟨w.heap.size + 1, j, none⟩ = false from fun j hj => by rcases j with _ | _ | _ | j <;> first | omega | (simp [go_sem, *]; done))
  go_wp2_with fail
  go_loopw [9] (fun i wr => ∃ k : Nat, k ≤ vs.length ∧ i = .int .i64 k ∧ Hid (OwnS wr (w.heap.size + 2) (.slice (some ⟨g, 0, none⟩) vs.length q2) (mixL k vs (scl th m vs))) ∧ Hid (Marks (.slice (some ⟨g, 0, none⟩) vs.length q2) (w2.alloc (Obj.cells #[.slice p0 ss.length q0, .slice p1 ls.length q1, .slice (some ⟨g, 0, none⟩) vs.length q2] 26)) wr)) (fun i _ => vs.length - (intOf i).toNat)
  case atStart => exact ⟨0, by omega, rfl, U2, Lib.hid (Marks.refl _ _)⟩
  case round =>
    obtain ⟨k, hk, rfl, ho, hmk⟩ := hrel
    have c2 := hmk.out.but.cell C2.out nbk
    by_cases hkn : k < vs.length
    · obtain ⟨y0, f0⟩ : wr.cell? ⟨g, k, none⟩ = some (.int .i64 (iv vs k)) ∧ wr.frozen? ⟨g, k, none⟩ = false := by
        obtain ⟨_, a, c, e, hx⟩ := ho.out
        rw [mix_len HLS.out] at hx
        obtain ⟨g', e', _, _, hx⟩ := hx hp
        simp only [Value.slice.injEq] at e
        obtain ⟨e1, _, _⟩ := e
        rw [e'] at e1
        obtain rfl : g = g' := by injection e1 with e1; injection e1
        have := hx k hkn
        rw [iv_mix HLS.out k hkn, if_neg (by omega)] at this
        exact this
      have ⟨b1, b2⟩ := scl_bd (E3.out k hkn) t1 t2
      have hkI : (k : Int) < (vs.length : Int) := by omega
      have hs2 : w2.heap.size < wr.heap.size := cell_lt c2
      clear hc hf hb hz
      go_wp2_with fail
      have hw0 : IntKind.i64.wrap (iv vs k * th) = iv vs k * th := IntWalk.i64_in _ (by omega)
      go_region_with ((go_at_call 57; refine (l01Div_any _ _ _ _ (by omega) (by omega) (by omega)).mono ?_; rintro e w' ⟨rfl, rfl⟩))
      clear hw0
      all_goals
        go_wp2
        go_roundw
        case rel => exact ⟨k + 1, by omega, by go_num, Lib.hid (by first | exact OwnS.store HLS.out ho.out hkn (iv_scl th m vs k hkn).symm | exact OwnS.store HLS.out ho.out.drew hkn (iv_scl th m vs k hkn).symm | exact OwnS.drew (OwnS.store HLS.out ho.out hkn (iv_scl th m vs k hkn).symm)), Lib.hid (by first | exact hmk.out.set hbk k _ | exact hmk.out.drew.set hbk k _ | exact (hmk.out.set hbk k _).drew)⟩
        case measure => simp [intOf]; omega
    · obtain rfl : k = vs.length := by omega
      have O := Lib.hid (show OwnS wr (w.heap.size + 2) (.slice (some ⟨g, 0, none⟩) vs.length q2) (scl th m vs) by have := ho.out; rwa [mix_all HLS.out] at this)
      have d0 := hmk.out.but.cell (p := w2.heap.size) (o := 0) (v := .slice p0 ss.length q0) (by simp [go_sem]) nbk
      have d1 := hmk.out.but.cell (p := w2.heap.size) (o := 1) (v := .slice p1 ls.length q1) (by simp [go_sem]) nbk
      have r0 := hmk.out.but.cell (RC.out 0 (by omega)).1 (fun hb => by have := U.out.2.2.1.blk hb; omega)
      have r1 := hmk.out.but.cell (RC.out 1 (by omega)).1 (fun hb => by have := U.out.2.2.1.blk hb; omega)
      have r2 := hmk.out.but.cell (RC.out 2 (by omega)).1 (fun hb => by have := U.out.2.2.1.blk hb; omega)
      have g0 := hmk.out.but.frozen (by simp; omega) (RC.out 0 (by omega)).2 (fun hb => by have := U.out.2.2.1.blk hb; omega)
      have g1 := hmk.out.but.frozen (by simp; omega) (RC.out 1 (by omega)).2 (fun hb => by have := U.out.2.2.1.blk hb; omega)
      have g2 := hmk.out.but.frozen (by simp; omega) (RC.out 2 (by omega)).2 (fun hb => by have := U.out.2.2.1.blk hb; omega)
      have O0 := Lib.hid (show OwnS wr (w.heap.size + 2) (.slice p0 ss.length q0) ss from OwnS.marked (U.out.1.alloc _) hmk.out U.out.2.2.2.2.1.symm)
      have O1 := Lib.hid (show OwnS wr (w.heap.size + 2) (.slice p1 ls.length q1) ls from OwnS.marked (U.out.2.1.alloc _) hmk.out U.out.2.2.2.2.2.symm)
      have hbr : Below w.heap.size w wr := hbW.trans ((hmk.out.below U2.out).mono (by omega))
      have hs1 : w.heap.size + 1 < wr.heap.size := cell_lt r0
      have hs2 : w2.heap.size < wr.heap.size := cell_lt d0
      have n3 : w.heap.size + 1 ≠ w2.heap.size := by omega
      have n4 : w2.heap.size ≠ w.heap.size + 1 := by omega
      have hts := tab_scl th m HT.out
      clear hbW hb hc hf hz
      cases hv : valB (scl th m vs)
      · rw [hv] at hts
        go_wp2_with fail
        (go_at_call 19; refine (specIsTable_any _ _ _ ss ls (scl th m vs) _ O0.out.ints O1.out.ints O.out.ints).mono ?_; rintro e w3 ⟨rfl, hb⟩; obtain ⟨hc, hf⟩ := bcell hb; have hz := hb.size; (try simp at hz); (try (have hz := Nat.lt_of_succ_le hz)); (try (have y0 : w.heap.size ≤ w3.heap.size := by omega)); (try (have z0 : w.heap.size < w3.heap.size := by omega)); (try (have z1 : w.heap.size + 1 < w3.heap.size := by omega)); (try (have z2 : w.heap.size + 1 + 1 < w3.heap.size := by omega)); (try (have z3 : w.heap.size + 1 + 1 + 1 < w3.heap.size := by omega)); (try (have z4 : w.heap.size + 1 + 1 + 1 + 1 < w3.heap.size := by omega)))
        have HV := Lib.hid hv
        clear hv
        go_wp2_with fail
        refine bodyPost_ret (v := .tuple #[.agg #[.slice none 0 0, .slice none 0 0, .slice none 0 0], .int .i64 2]) (by simp [results, Try.results31, go_sem, *]) rfl ⟨fun h => ?_, fun _ => ⟨_, _, _, rfl, tab_empty _ _, by (repeat (first | (with_reducible exact Below.refl _ _) | (with_reducible assumption) | (with_reducible refine ext_alloc ?_ _) | (with_reducible refine ext_drew ?_) | (with_reducible refine ext_drewN ?_ _) | (with_reducible refine ext_set ?_ (by first | exact Nat.le_refl _ | (simp; done) | (simp; omega) | omega) _) | (with_reducible refine ext_trans ?_ (by assumption))))⟩⟩
        rw [HV.out] at h
        cases h
      · rw [hv] at hts
        go_wp2_with fail
        (go_at_call 19; refine (specIsTable_any _ _ _ ss ls (scl th m vs) _ O0.out.ints O1.out.ints O.out.ints).mono ?_; rintro e w3 ⟨rfl, hb⟩; obtain ⟨hc, hf⟩ := bcell hb; have hz := hb.size; (try simp at hz); (try (have hz := Nat.lt_of_succ_le hz)); (try (have y0 : w.heap.size ≤ w3.heap.size := by omega)); (try (have z0 : w.heap.size < w3.heap.size := by omega)); (try (have z1 : w.heap.size + 1 < w3.heap.size := by omega)); (try (have z2 : w.heap.size + 1 + 1 < w3.heap.size := by omega)); (try (have z3 : w.heap.size + 1 + 1 + 1 < w3.heap.size := by omega)); (try (have z4 : w.heap.size + 1 + 1 + 1 + 1 < w3.heap.size := by omega)))
        have HV := Lib.hid hv
        have o0 := O0.out.keep hb
        have o1 := O1.out.keep hb
        have o2 := O.out.keep hb
        clear hv
        go_wp2_with fail
        refine bodyPost_ret (v := .tuple #[.agg #[.slice p0 ss.length q0, .slice p1 ls.length q1, .slice (some ⟨g, 0, none⟩) vs.length q2], .int .i64 0]) (by simp [results, Try.results31, go_sem, *]) rfl ⟨fun _ => ⟨_, _, _, rfl, ?_, by (repeat (first | (with_reducible exact Below.refl _ _) | (with_reducible assumption) | (with_reducible refine ext_alloc ?_ _) | (with_reducible refine ext_drew ?_) | (with_reducible refine ext_drewN ?_ _) | (with_reducible refine ext_set ?_ (by first | exact Nat.le_refl _ | (simp; done) | (simp; omega) | omega) _) | (with_reducible refine ext_trans ?_ (by assumption))))⟩, fun h => ?_⟩
        · exact ⟨OwnS.mono (B := w.heap.size + 2) (by (repeat (first | (with_reducible assumption) | (with_reducible refine OwnS.alloc ?_ _) | (with_reducible refine OwnS.drew ?_) | (with_reducible refine OwnS.drewN ?_ _) | (with_reducible refine OwnS.set ?_ (by first | omega | (simp; omega) | simp) _) | (with_reducible refine OwnS.keep ?_ (by assumption))))) (by omega), OwnS.mono (B := w.heap.size + 2) (by (repeat (first | (with_reducible assumption) | (with_reducible refine OwnS.alloc ?_ _) | (with_reducible refine OwnS.drew ?_) | (with_reducible refine OwnS.drewN ?_ _) | (with_reducible refine OwnS.set ?_ (by first | omega | (simp; omega) | simp) _) | (with_reducible refine OwnS.keep ?_ (by assumption))))) (by omega), OwnS.mono (B := w.heap.size + 2) (by (repeat (first | (with_reducible assumption) | (with_reducible refine OwnS.alloc ?_ _) | (with_reducible refine OwnS.drew ?_) | (with_reducible refine OwnS.drewN ?_ _) | (with_reducible refine OwnS.set ?_ (by first | omega | (simp; omega) | simp) _) | (with_reducible refine OwnS.keep ?_ (by assumption))))) (by omega), U.out.2.2.2⟩
        · rw [HV.out] at h
          cases h
end Go.Proofs.Yteflfmfcmdfenaa
