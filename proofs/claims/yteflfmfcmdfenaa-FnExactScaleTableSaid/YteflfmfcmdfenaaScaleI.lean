/-
The contract of the program's ScaleTable, for all arguments.
-/
import Derived.Test.YteflfmfcmdfenaaScaleS
namespace Go.Proofs.Yteflfmfcmdfenaa
open Go.ChangeShapes Go.WideShapes Go.ChangeAt Go.RowKit
set_option linter.unusedVariables false
theorem implScale_no (v0 v1 v2 : Value) (ss ls vs : List Int) (th m : Int) (w : World) (h0 : IntS w w.heap.size v0 ss) (h1 : IntS w w.heap.size v1 ls) (h2 : IntS w w.heap.size v2 vs) (ht : tabB ss ls vs = false) :
    Calls Try.prog 32 #[.agg #[v0, v1, v2], .int .i64 th, .int .i64 m] w (NewT [] [] [] 1 w) := by
  have H0 := Lib.hid h0; have H1 := Lib.hid h1; have H2 := Lib.hid h2
  obtain ⟨_, a0, c0, rfl, _⟩ := h0; obtain ⟨_, a1, c1, rfl, _⟩ := h1; obtain ⟨_, a2, c2, rfl, _⟩ := h2
  go_enter Try.func32, Try.ntmps32
  go_wp2_with (go_at_call 23; refine (implIsTable_any _ _ _ _ _ _ _ (H0.out.up (by (repeat (first | (with_reducible exact Below.refl _ _) | (with_reducible assumption) | (with_reducible refine ext_alloc ?_ _) | (with_reducible refine ext_drew ?_) | (with_reducible refine ext_drewN ?_ _) | (with_reducible refine ext_set ?_ (by first | exact Nat.le_refl _ | (simp; done) | (simp; omega) | omega) _) | (with_reducible refine ext_trans ?_ (by assumption)))))) (H1.out.up (by (repeat (first | (with_reducible exact Below.refl _ _) | (with_reducible assumption) | (with_reducible refine ext_alloc ?_ _) | (with_reducible refine ext_drew ?_) | (with_reducible refine ext_drewN ?_ _) | (with_reducible refine ext_set ?_ (by first | exact Nat.le_refl _ | (simp; done) | (simp; omega) | omega) _) | (with_reducible refine ext_trans ?_ (by assumption)))))) (H2.out.up (by (repeat (first | (with_reducible exact Below.refl _ _) | (with_reducible assumption) | (with_reducible refine ext_alloc ?_ _) | (with_reducible refine ext_drew ?_) | (with_reducible refine ext_drewN ?_ _) | (with_reducible refine ext_set ?_ (by first | exact Nat.le_refl _ | (simp; done) | (simp; omega) | omega) _) | (with_reducible refine ext_trans ?_ (by assumption))))))).mono ?_; rintro e w1 ⟨rfl, hb⟩; obtain ⟨hc, hf⟩ := bcell hb; have hz := hb.size; (try simp at hz); (try (have hz := Nat.lt_of_succ_le hz)); (try (have y0 : w.heap.size ≤ w1.heap.size := by omega)); (try (have z0 : w.heap.size < w1.heap.size := by omega)); (try (have z1 : w.heap.size + 1 < w1.heap.size := by omega)); (try (have z2 : w.heap.size + 1 + 1 < w1.heap.size := by omega)); (try (have z3 : w.heap.size + 1 + 1 + 1 < w1.heap.size := by omega)); (try (have z4 : w.heap.size + 1 + 1 + 1 + 1 < w1.heap.size := by omega)); (try (have x0 : wc.heap.size < w1.heap.size := by omega)); (try (have x1 : wc.heap.size ≤ w1.heap.size := by omega)))
  exact bodyPost_ret (v := .tuple #[.agg #[.slice none 0 0, .slice none 0 0, .slice none 0 0], .int .i64 1]) (by simp [results, Try.results32, go_sem, *]) rfl ⟨_, _, _, rfl, tab_empty _ _, by (repeat (first | (with_reducible exact Below.refl _ _) | (with_reducible assumption) | (with_reducible refine ext_alloc ?_ _) | (with_reducible refine ext_drew ?_) | (with_reducible refine ext_drewN ?_ _) | (with_reducible refine ext_set ?_ (by first | exact Nat.le_refl _ | (simp; done) | (simp; omega) | omega) _) | (with_reducible refine ext_trans ?_ (by assumption))))⟩
theorem Try.infoInt4 : (Try.prog.info? 2).map (fun i => (i.zero, i.size, i.bytes)) = some (some (.int .i64 0), 1, 8) := by kernel_rfl
theorem val_more {xs : List Int} {k : Nat} (h : ∀ j, j < k → valOk xs j = true) (hk : valOk xs k = true) : ∀ j, j < k + 1 → valOk xs j = true := all_more h hk
def ScaleEnd (ss ls vs : List Int) (th m : Int) (w : World) (e : Ending) (w' : World) : Prop :=
  (stM th m = true ∧ valB (scl th m vs) = true → NewT ss ls (scl th m vs) 0 w e w') ∧ (¬ (stM th m = true ∧ valB (scl th m vs) = true) → NewT [] [] [] 2 w e w')
set_option maxHeartbeats 4000000 in
theorem implScale_end (v0 v1 v2 : Value) (ss ls vs : List Int) (th m : Int) (w : World) (h0 : IntS w w.heap.size v0 ss) (h1 : IntS w w.heap.size v1 ls) (h2 : IntS w w.heap.size v2 vs) (ht : tabB ss ls vs = true) :
    Calls Try.prog 32 #[.agg #[v0, v1, v2], .int .i64 th, .int .i64 m] w (ScaleEnd ss ls vs th m w) := by
  have H0 := Lib.hid h0; have H1 := Lib.hid h1; have H2 := Lib.hid h2
  obtain ⟨i0, hi, hz0, hz1, hz2⟩ := info_parts Try.infoInt4
  obtain ⟨_, a0, c0, rfl, _⟩ := h0; obtain ⟨_, a1, c1, rfl, _⟩ := h1; obtain ⟨_, a2, c2, rfl, hx0⟩ := h2
  have ⟨hp, hp16⟩ := tab_pos ht
  have ⟨e0, e1, e2, e3⟩ := tab_get ht
  have ⟨s0, s1, _⟩ := ax_get e0
  have ⟨l0, l1, _⟩ := ax_get e1
  obtain ⟨b, off, rfl, hlt, hx⟩ := hx0 hp
  have HT := Lib.hid ht
  have E3 := Lib.hid e3
  have HX := Lib.hid hx
  clear e0 e1 e2 e3 hx hx0
  go_enter Try.func32, Try.ntmps32
  go_wp2_with fail
  (go_at_call 23; refine (implIsTable_any _ _ _ _ _ _ _ (H0.out.up (by (repeat (first | (with_reducible exact Below.refl _ _) | (with_reducible assumption) | (with_reducible refine ext_alloc ?_ _) | (with_reducible refine ext_drew ?_) | (with_reducible refine ext_drewN ?_ _) | (with_reducible refine ext_set ?_ (by first | exact Nat.le_refl _ | (simp; done) | (simp; omega) | omega) _) | (with_reducible refine ext_trans ?_ (by assumption)))))) (H1.out.up (by (repeat (first | (with_reducible exact Below.refl _ _) | (with_reducible assumption) | (with_reducible refine ext_alloc ?_ _) | (with_reducible refine ext_drew ?_) | (with_reducible refine ext_drewN ?_ _) | (with_reducible refine ext_set ?_ (by first | exact Nat.le_refl _ | (simp; done) | (simp; omega) | omega) _) | (with_reducible refine ext_trans ?_ (by assumption)))))) (H2.out.up (by (repeat (first | (with_reducible exact Below.refl _ _) | (with_reducible assumption) | (with_reducible refine ext_alloc ?_ _) | (with_reducible refine ext_drew ?_) | (with_reducible refine ext_drewN ?_ _) | (with_reducible refine ext_set ?_ (by first | exact Nat.le_refl _ | (simp; done) | (simp; omega) | omega) _) | (with_reducible refine ext_trans ?_ (by assumption))))))).mono ?_; rintro e w1 ⟨rfl, hb⟩; obtain ⟨hc, hf⟩ := bcell hb; have hz := hb.size; (try simp at hz); (try (have hz := Nat.lt_of_succ_le hz)); (try (have y0 : w.heap.size ≤ w1.heap.size := by omega)); (try (have z0 : w.heap.size < w1.heap.size := by omega)); (try (have z1 : w.heap.size + 1 < w1.heap.size := by omega)); (try (have z2 : w.heap.size + 1 + 1 < w1.heap.size := by omega)); (try (have z3 : w.heap.size + 1 + 1 + 1 < w1.heap.size := by omega)); (try (have z4 : w.heap.size + 1 + 1 + 1 + 1 < w1.heap.size := by omega)))
  have hbw1 : Below w.heap.size w w1 := by (repeat (first | (with_reducible exact Below.refl _ _) | (with_reducible assumption) | (with_reducible refine ext_alloc ?_ _) | (with_reducible refine ext_drew ?_) | (with_reducible refine ext_drewN ?_ _) | (with_reducible refine ext_set ?_ (by first | exact Nat.le_refl _ | (simp; done) | (simp; omega) | omega) _) | (with_reducible refine ext_trans ?_ (by assumption))))
  have q0 : w1.cell? ⟨w.heap.size, 0, none⟩ = some (.slice a0 ss.length c0) := by simp [go_sem, *]
  have q1 : w1.cell? ⟨w.heap.size, 1, none⟩ = some (.slice a1 ls.length c1) := by simp [go_sem, *]
  have q2 : w1.cell? ⟨w.heap.size, 2, none⟩ = some (.slice (some ⟨b, off, none⟩) vs.length c2) := by simp [go_sem, *]
  have RC := Lib.hid (show ∀ j, j < 3 → w1.cell? ⟨w.heap.size + 1, j, none⟩ = some (.slice none 0 0) ∧ w1.frozen? ⟨w.heap.size + 1, j, none⟩ = false from fun j hj => by rcases j with _ | _ | _ | j <;> first | omega | (simp [go_sem, *]; done))
  have hw1 : w.heap.size + 1 < w1.heap.size := cell_lt (RC.out 0 (by omega)).1
  have hbw1' := Lib.hid hbw1
  clear hc hf hb hz
  go_wp2_with (at_make; refine wpList_make_full _ rfl _ _ 24 rfl w1.heap.size 2 i0 (.int .i64 0) 1 Try.underlying24 hi hz0 hz1 .i64 .i64 _ _ vs.length rfl rfl rfl rfl (by rw [hz2]; omega) (by unfold maxLen; omega) (Nat.le_refl _) ?_; intro w2 hown0 hgrow0; have hb0 := below_grown hgrow0; clear hgrow0; have t0 := cell_keep q0 hb0; have t1 := cell_keep q1 hb0; have t2 := cell_keep q2 hb0)
  have hr0 : IRow w2 w1.heap.size vs.length 0 (scl th m vs) := (IRow.made hown0).resolve_right (by omega)
  have hbw2 : Below w.heap.size w w2 := hbw1.trans (hb0.mono hbw1.size)
  have RC2 := Lib.hid (show ∀ j, j < 3 → w2.cell? ⟨w.heap.size + 1, j, none⟩ = some (.slice none 0 0) ∧ w2.frozen? ⟨w.heap.size + 1, j, none⟩ = false from fun j hj => ⟨cell_keep (RC.out j hj).1 hb0, by rw [hb0.frozen (by exact hw1)]; exact (RC.out j hj).2⟩)
  have B0 := Lib.hid hb0
  have Q0 := Lib.hid q0; have Q1 := Lib.hid q1; have Q2 := Lib.hid q2
  clear hown0 q0 q1 q2 t0 t1 t2 hb0 hbw1
  go_loopw [24] (fun i wr => ∃ k : Nat, k ≤ vs.length ∧ i = .int .i64 k ∧ Hid (0 < k → stM th m = true) ∧ Hid (∀ j, j < k → valOk (scl th m vs) j = true) ∧ Hid (IRow wr w1.heap.size vs.length k (scl th m vs)) ∧ Hid (Below w1.heap.size w1 wr)) (fun i _ => vs.length - (intOf i).toNat)
  case atStart => exact ⟨0, by omega, rfl, Lib.hid (fun h => absurd h (by omega)), Lib.hid (fun j hj => absurd hj (by omega)), Lib.hid hr0, B0⟩
  case round =>
    obtain ⟨k, hk, rfl, hst, hall, hrow, hbr⟩ := hrel
    have q0 := cell_keep Q0.out hbr.out
    have q1 := cell_keep Q1.out hbr.out
    have q2 := cell_keep Q2.out hbr.out
    obtain ⟨r0, g0⟩ : wr.cell? ⟨w.heap.size + 1, 0, none⟩ = some (.slice none 0 0) ∧ wr.frozen? ⟨w.heap.size + 1, 0, none⟩ = false := ⟨cell_keep (RC.out 0 (by omega)).1 hbr.out, by rw [hbr.out.frozen (by exact hw1)]; exact (RC.out 0 (by omega)).2⟩
    obtain ⟨r1, g1⟩ : wr.cell? ⟨w.heap.size + 1, 1, none⟩ = some (.slice none 0 0) ∧ wr.frozen? ⟨w.heap.size + 1, 1, none⟩ = false := ⟨cell_keep (RC.out 1 (by omega)).1 hbr.out, by rw [hbr.out.frozen (by exact hw1)]; exact (RC.out 1 (by omega)).2⟩
    obtain ⟨r2, g2⟩ : wr.cell? ⟨w.heap.size + 1, 2, none⟩ = some (.slice none 0 0) ∧ wr.frozen? ⟨w.heap.size + 1, 2, none⟩ = false := ⟨cell_keep (RC.out 2 (by omega)).1 hbr.out, by rw [hbr.out.frozen (by exact hw1)]; exact (RC.out 2 (by omega)).2⟩
    have hwr : w.heap.size + 1 < wr.heap.size := cell_lt r0
    have hBr := Lib.hid (show Below w.heap.size w wr from hbw1'.out.trans (hbr.out.mono hbw1'.out.size))
    by_cases hkn : k < vs.length
    · have y0 : wr.cell? ⟨b, off + k, none⟩ = some (.int .i64 (iv vs k)) := by rw [hBr.out.cell (by show b < _; omega)]; exact HX.out k hkn
      have ⟨v1, v2⟩ := E3.out k hkn
      have hin : inB (iv vs k) (-1000000000) 1000000000 = true := inB_yes (by omega) (by omega)
      have hB := hBr.out
      cases hs : stM th m
      · have hso : stOk (iv vs k) th m = false := by simpa [stOk, hin, stM] using hs
        have HS := Lib.hid hs
        clear hs hin
        go_wp2_with (go_at_call 58; refine (implScaleTime_no _ _ _ _ hso).mono ?_; rintro e w' ⟨rfl, rfl⟩)
        refine bodyPost_ret (v := .tuple #[.agg #[.slice none 0 0, .slice none 0 0, .slice none 0 0], .int .i64 2]) (by simp [results, Try.results32, go_sem, *]) rfl ⟨fun h => absurd h.1 (by rw [HS.out]; simp), fun _ => ⟨_, _, _, rfl, tab_empty _ _, by (repeat (first | (with_reducible exact Below.refl _ _) | (with_reducible assumption) | (with_reducible refine ext_alloc ?_ _) | (with_reducible refine ext_drew ?_) | (with_reducible refine ext_drewN ?_ _) | (with_reducible refine ext_set ?_ (by first | exact Nat.le_refl _ | (simp; done) | (simp; omega) | omega) _) | (with_reducible refine ext_trans ?_ (by assumption))))⟩⟩
      · have ⟨m1, m2⟩ : inB th 0 10000 = true ∧ isM m = true := by simpa [stM] using hs
        have HS := Lib.hid hs
        clear hs
        cases hv : inB (qd (iv vs k * th) 1000 m) (-1000000) 1000000
        · have HV := Lib.hid (show valB (scl th m vs) = false from allB_no (k := k) (by rw [scl_len]; exact hkn) (by rw [valOk, iv_scl th m vs k hkn]; exact hv))
          go_wp2_with (first | (go_at_call 58; refine (implScaleTime_yes _ _ _ _ hin m1 m2).mono ?_; rintro e w' ⟨rfl, nq, rfl⟩) | (go_at_call 51; refine (isTableValue_any _ _).mono ?_; rintro e w' ⟨rfl, rfl⟩))
          refine bodyPost_ret (v := .tuple #[.agg #[.slice none 0 0, .slice none 0 0, .slice none 0 0], .int .i64 2]) (by simp [results, Try.results32, go_sem, *]) rfl ⟨fun h => absurd h.2 (by rw [HV.out]; simp), fun _ => ⟨_, _, _, rfl, tab_empty _ _, by (repeat (first | (with_reducible exact Below.refl _ _) | (with_reducible assumption) | (with_reducible refine ext_alloc ?_ _) | (with_reducible refine ext_drew ?_) | (with_reducible refine ext_drewN ?_ _) | (with_reducible refine ext_set ?_ (by first | exact Nat.le_refl _ | (simp; done) | (simp; omega) | omega) _) | (with_reducible refine ext_trans ?_ (by assumption))))⟩⟩
        · have hok := Lib.hid (val_more hall.out (by rw [valOk, iv_scl th m vs k hkn]; exact hv))
          have hr1 := hrow.out
          obtain ⟨u0, e0⟩ := (hr1.2.1 k hkn).2
          have f0 := (hr1.2.1 k hkn).1
          have HR := Lib.hid (fun nq => IRow.store (w := wr.drewN nq) hrow.out hkn (iv_scl th m vs k hkn).symm)
          have hwr1 : w1.heap.size < wr.heap.size := hr1.1
          have hB1 := hbr.out
          clear hr1 hB
          go_wp2_with (first | (go_at_call 58; refine (implScaleTime_yes _ _ _ _ hin m1 m2).mono ?_; rintro e w' ⟨rfl, nq, rfl⟩) | (go_at_call 51; refine (isTableValue_any _ _).mono ?_; rintro e w' ⟨rfl, rfl⟩))
          go_roundw
          case rel => exact ⟨k + 1, by omega, by go_num, (by first | exact HS | exact Lib.hid (fun _ => HS.out) | exact Lib.hid (fun _ => trivial) | trivial), hok, Lib.hid (HR.out _), Lib.hid (by (repeat (first | (with_reducible exact Below.refl _ _) | (with_reducible assumption) | (with_reducible refine ext_alloc ?_ _) | (with_reducible refine ext_drew ?_) | (with_reducible refine ext_drewN ?_ _) | (with_reducible refine ext_set ?_ (by first | exact Nat.le_refl _ | (simp; done) | (simp; omega) | omega) _) | (with_reducible refine ext_trans ?_ (by assumption)))))⟩
          case measure => simp [intOf]; omega
    · obtain rfl : k = vs.length := by omega
      have HS := Lib.hid (hst.out hp)
      have HV := Lib.hid (show valB (scl th m vs) = true from allB_yes (by rw [scl_len]; exact hall.out))
      have hwr1 : w1.heap.size < wr.heap.size := hrow.out.1
      have F2 := Lib.hid (show OwnS wr w1.heap.size (.slice (some ⟨w1.heap.size, 0, none⟩) vs.length vs.length) (scl th m vs) from IRow.own hrow.out (scl_len th m vs).symm (by omega) (Nat.le_refl _))
      have hB := hBr.out
      obtain ⟨gv, hgv⟩ : ∃ gv, gv = w1.heap.size := ⟨_, rfl⟩
      rw [← hgv] at F2 hwr1
      have hgw : w.heap.size + 1 < gv := by omega
      have HGV := Lib.hid hgv
      clear hgv
      have R := Lib.hid (show Cell3 wr (w.heap.size + 1) _ _ _ from ⟨r0, r1, r2, g0, g1, g2⟩)
      go_wp2_with fail
      go_region_held3 (fun w' => w'.cell? ⟨w.heap.size, 0, none⟩ = some (.slice a0 ss.length c0) ∧ w'.cell? ⟨w.heap.size, 1, none⟩ = some (.slice a1 ls.length c1) ∧ w'.cell? ⟨w.heap.size, 2, none⟩ = some (.slice (some ⟨b, off, none⟩) vs.length c2) ∧ Below w.heap.size w w' ∧ w.heap.size + 1 < w'.heap.size) (first | exact (Hid.out (by assumption)) | exact keep3 (Hid.out (by assumption)) ((Below.refl _ _).alloc (Nat.le_refl _) _) | exact keep3s (keep3s (Hid.out (by assumption)) (by first | assumption | (simp; done) | (simp; omega) | omega) (by first | assumption | (simp; done) | (simp; omega) | omega) (by first | assumption | (simp; done) | (simp; omega) | omega) (by first | assumption | (simp; done) | (simp; omega) | omega) (by first | assumption | (simp; done) | (simp; omega) | omega)) (by first | assumption | (simp; done) | (simp; omega) | omega) (by first | assumption | (simp; done) | (simp; omega) | omega) (by first | assumption | (simp; done) | (simp; omega) | omega) (by first | assumption | (simp; done) | (simp; omega) | omega) (by first | assumption | (simp; done) | (simp; omega) | omega) | exact keep3s (Hid.out (by assumption)) (by first | assumption | (simp; done) | (simp; omega) | omega) (by first | assumption | (simp; done) | (simp; omega) | omega) (by first | assumption | (simp; done) | (simp; omega) | omega) (by first | assumption | (simp; done) | (simp; omega) | omega) (by first | assumption | (simp; done) | (simp; omega) | omega) | ((repeat' apply And.intro) <;> first | assumption | ((repeat (first | (with_reducible exact Below.refl _ _) | (with_reducible assumption) | (with_reducible refine ext_alloc ?_ _) | (with_reducible refine ext_drew ?_) | (with_reducible refine ext_drewN ?_ _) | (with_reducible refine ext_set ?_ (by first | exact Nat.le_refl _ | (simp; done) | (simp; omega) | omega) _) | (with_reducible refine ext_trans ?_ (by assumption)))); done) | (simp [go_sem]; done) | (simp [go_sem, *]; done) | (simp; omega) | omega)) (first | ((go_at_call 59; (with_reducible refine (clone_any (.slice a0 ss.length c0) ss _ (H0.out.keep (by (repeat (first | (with_reducible exact Below.refl _ _) | (with_reducible assumption) | (with_reducible refine ext_alloc ?_ _) | (with_reducible refine ext_drew ?_) | (with_reducible refine ext_drewN ?_ _) | (with_reducible refine ext_set ?_ (by first | exact Nat.le_refl _ | (simp; done) | (simp; omega) | omega) _) | (with_reducible refine ext_trans ?_ (by assumption))))) (by first | omega | (simp only [dn_size]; omega) | (simp; omega))) (by omega) (by omega)).mono ?_); rintro e w1 ⟨u0, rfl, hu0, hb⟩; (try (have A01 := (apart_of F1.out hu0 (Nat.le_refl _)).symm)); (try (have A02 := (apart_of F2.out hu0 (Nat.le_refl _)).symm)); (try (have G1 := Lib.hid (OwnS.keep F1.out (by (repeat (first | (with_reducible exact Below.refl _ _) | (with_reducible assumption) | (with_reducible refine ext_alloc ?_ _) | (with_reducible refine ext_drew ?_) | (with_reducible refine ext_drewN ?_ _) | (with_reducible refine ext_set ?_ (by first | exact Nat.le_refl _ | (simp; done) | (simp; omega) | omega) _) | (with_reducible refine ext_trans ?_ (by assumption))))) : OwnS w1 _ _ _); clear F1; have F1 := G1; clear G1)); (try (have G2 := Lib.hid (OwnS.keep F2.out (by (repeat (first | (with_reducible exact Below.refl _ _) | (with_reducible assumption) | (with_reducible refine ext_alloc ?_ _) | (with_reducible refine ext_drew ?_) | (with_reducible refine ext_drewN ?_ _) | (with_reducible refine ext_set ?_ (by first | exact Nat.le_refl _ | (simp; done) | (simp; omega) | omega) _) | (with_reducible refine ext_trans ?_ (by assumption))))) : OwnS w1 _ _ _); clear F2; have F2 := G2; clear G2)); (try (have R' := Lib.hid (Cell3.keep R.out (by (repeat (first | (with_reducible exact Below.refl _ _) | (with_reducible assumption) | (with_reducible refine ext_alloc ?_ _) | (with_reducible refine ext_drew ?_) | (with_reducible refine ext_drewN ?_ _) | (with_reducible refine ext_set ?_ (by first | exact Nat.le_refl _ | (simp; done) | (simp; omega) | omega) _) | (with_reducible refine ext_trans ?_ (by assumption))))) : Cell3 w1 _ _ _ _); clear R; have R := R'; clear R'; obtain ⟨r0, r1, r2, g0, g1, g2⟩ := R.out)); have F0 := Lib.hid hu0; obtain ⟨_, p0, q0, rfl, _⟩ := hu0; obtain ⟨hc, hf⟩ := bcell hb; have hz := hb.size; (try simp at hz); (try (have hz := Nat.lt_of_succ_le hz)); (try (have y0 : w.heap.size ≤ w1.heap.size := by omega))); have hS := Lib.hid (keep3 (by assumption) hb); have zL := (Hid.out hS).2.2.2.2) | ((go_at_call 59; (with_reducible refine (clone_any (.slice a1 ls.length c1) ls _ (H1.out.keep (by (repeat (first | (with_reducible exact Below.refl _ _) | (with_reducible assumption) | (with_reducible refine ext_alloc ?_ _) | (with_reducible refine ext_drew ?_) | (with_reducible refine ext_drewN ?_ _) | (with_reducible refine ext_set ?_ (by first | exact Nat.le_refl _ | (simp; done) | (simp; omega) | omega) _) | (with_reducible refine ext_trans ?_ (by assumption))))) (by first | omega | (simp only [dn_size]; omega) | (simp; omega))) (by omega) (by omega)).mono ?_); rintro e w1 ⟨u1, rfl, hu1, hb⟩; (try (have A01 := apart_of F0.out hu1 (Nat.le_refl _))); (try (have A12 := (apart_of F2.out hu1 (Nat.le_refl _)).symm)); (try (have G0 := Lib.hid (OwnS.keep F0.out (by (repeat (first | (with_reducible exact Below.refl _ _) | (with_reducible assumption) | (with_reducible refine ext_alloc ?_ _) | (with_reducible refine ext_drew ?_) | (with_reducible refine ext_drewN ?_ _) | (with_reducible refine ext_set ?_ (by first | exact Nat.le_refl _ | (simp; done) | (simp; omega) | omega) _) | (with_reducible refine ext_trans ?_ (by assumption))))) : OwnS w1 _ _ _); clear F0; have F0 := G0; clear G0)); (try (have G2 := Lib.hid (OwnS.keep F2.out (by (repeat (first | (with_reducible exact Below.refl _ _) | (with_reducible assumption) | (with_reducible refine ext_alloc ?_ _) | (with_reducible refine ext_drew ?_) | (with_reducible refine ext_drewN ?_ _) | (with_reducible refine ext_set ?_ (by first | exact Nat.le_refl _ | (simp; done) | (simp; omega) | omega) _) | (with_reducible refine ext_trans ?_ (by assumption))))) : OwnS w1 _ _ _); clear F2; have F2 := G2; clear G2)); (try (have R' := Lib.hid (Cell3.keep R.out (by (repeat (first | (with_reducible exact Below.refl _ _) | (with_reducible assumption) | (with_reducible refine ext_alloc ?_ _) | (with_reducible refine ext_drew ?_) | (with_reducible refine ext_drewN ?_ _) | (with_reducible refine ext_set ?_ (by first | exact Nat.le_refl _ | (simp; done) | (simp; omega) | omega) _) | (with_reducible refine ext_trans ?_ (by assumption))))) : Cell3 w1 _ _ _ _); clear R; have R := R'; clear R'; obtain ⟨r0, r1, r2, g0, g1, g2⟩ := R.out)); have F1 := Lib.hid hu1; obtain ⟨_, p1, q1, rfl, _⟩ := hu1; obtain ⟨hc, hf⟩ := bcell hb; have hz := hb.size; (try simp at hz); (try (have hz := Nat.lt_of_succ_le hz)); (try (have y0 : w.heap.size ≤ w1.heap.size := by omega))); have hS := Lib.hid (keep3 (by assumption) hb); have zL := (Hid.out hS).2.2.2.2))
      all_goals
        go_wp2
        have o0 := F0.out.mono (C := w.heap.size + 2) (by first | omega | (simp; done) | (simp; omega))
        have o1 := F1.out.mono (C := w.heap.size + 2) (by first | omega | (simp; done) | (simp; omega))
        have o2 := F2.out.mono (C := w.heap.size + 2) (by first | omega | (simp; done) | (simp; omega))
        refine bodyPost_ret (v := .tuple #[.agg #[.slice p0 ss.length q0, .slice p1 ls.length q1, .slice (some ⟨gv, 0, none⟩) vs.length vs.length], .int .i64 0]) (by simp [results, Try.results32, go_sem, *, HGV.out]) rfl ⟨fun _ => ⟨_, _, _, rfl, ?_, by (repeat (first | (with_reducible exact Below.refl _ _) | (with_reducible assumption) | (with_reducible refine ext_alloc ?_ _) | (with_reducible refine ext_drew ?_) | (with_reducible refine ext_drewN ?_ _) | (with_reducible refine ext_set ?_ (by first | exact Nat.le_refl _ | (simp; done) | (simp; omega) | omega) _) | (with_reducible refine ext_trans ?_ (by assumption))))⟩, fun h => absurd ⟨HS.out, HV.out⟩ h⟩
        exact ⟨OwnS.mono (B := w.heap.size + 2) (by (repeat (first | (with_reducible assumption) | (with_reducible refine OwnS.alloc ?_ _) | (with_reducible refine OwnS.drew ?_) | (with_reducible refine OwnS.drewN ?_ _) | (with_reducible refine OwnS.set ?_ (by first | omega | (simp; omega) | simp) _) | (with_reducible refine OwnS.keep ?_ (by assumption))))) (by omega), OwnS.mono (B := w.heap.size + 2) (by (repeat (first | (with_reducible assumption) | (with_reducible refine OwnS.alloc ?_ _) | (with_reducible refine OwnS.drew ?_) | (with_reducible refine OwnS.drewN ?_ _) | (with_reducible refine OwnS.set ?_ (by first | omega | (simp; omega) | simp) _) | (with_reducible refine OwnS.keep ?_ (by assumption))))) (by omega), OwnS.mono (B := w.heap.size + 2) (by (repeat (first | (with_reducible assumption) | (with_reducible refine OwnS.alloc ?_ _) | (with_reducible refine OwnS.drew ?_) | (with_reducible refine OwnS.drewN ?_ _) | (with_reducible refine OwnS.set ?_ (by first | omega | (simp; omega) | simp) _) | (with_reducible refine OwnS.keep ?_ (by assumption))))) (by omega), A01, A02, A12⟩
/-- Both functions answer the same table, or none, and the same code. -/
theorem scale_both (ss ls vs : List Int) (th m : Int) : ∃ (sr lr vr : List Int) (c : Int), sr.length + lr.length + vr.length ≤ 1000 ∧
    (∀ (w : World) (v0 v1 v2 : Value), IntS w w.heap.size v0 ss → IntS w w.heap.size v1 ls → IntS w w.heap.size v2 vs → Calls Try.prog 31 #[.agg #[v0, v1, v2], .int .i64 th, .int .i64 m] w (NewT sr lr vr c w)) ∧
    (∀ (w : World) (v0 v1 v2 : Value), IntS w w.heap.size v0 ss → IntS w w.heap.size v1 ls → IntS w w.heap.size v2 vs → Calls Try.prog 32 #[.agg #[v0, v1, v2], .int .i64 th, .int .i64 m] w (NewT sr lr vr c w)) := by
  cases ht : tabB ss ls vs
  · exact ⟨[], [], [], 1, by simp, fun w v0 v1 v2 h0 h1 h2 => specScale_no v0 v1 v2 ss ls vs th m w h0 h1 h2 ht, fun w v0 v1 v2 h0 h1 h2 => implScale_no v0 v1 v2 ss ls vs th m w h0 h1 h2 ht⟩
  · cases hm : stM th m
    · exact ⟨[], [], [], 2, by simp, fun w v0 v1 v2 h0 h1 h2 => specScale_bad v0 v1 v2 ss ls vs th m w h0 h1 h2 ht hm, fun w v0 v1 v2 h0 h1 h2 => (implScale_end v0 v1 v2 ss ls vs th m w h0 h1 h2 ht).mono fun e w' h => h.2 (by rw [hm]; simp)⟩
    · cases hv : valB (scl th m vs)
      · exact ⟨[], [], [], 2, by simp, fun w v0 v1 v2 h0 h1 h2 => (specScale_end v0 v1 v2 ss ls vs th m w h0 h1 h2 ht hm).mono fun e w' h => h.2 hv, fun w v0 v1 v2 h0 h1 h2 => (implScale_end v0 v1 v2 ss ls vs th m w h0 h1 h2 ht).mono fun e w' h => h.2 (by rw [hv]; simp)⟩
      · have ⟨_, hp⟩ := tab_pos ht
        have ⟨_, s1, _⟩ := ax_get (tab_get ht).1
        have ⟨_, l1, _⟩ := ax_get (tab_get ht).2.1
        exact ⟨ss, ls, scl th m vs, 0, by rw [scl_len]; omega, fun w v0 v1 v2 h0 h1 h2 => (specScale_end v0 v1 v2 ss ls vs th m w h0 h1 h2 ht hm).mono fun e w' h => h.1 hv, fun w v0 v1 v2 h0 h1 h2 => (implScale_end v0 v1 v2 ss ls vs th m w h0 h1 h2 ht).mono fun e w' h => h.1 ⟨hm, hv⟩⟩
end Go.Proofs.Yteflfmfcmdfenaa
