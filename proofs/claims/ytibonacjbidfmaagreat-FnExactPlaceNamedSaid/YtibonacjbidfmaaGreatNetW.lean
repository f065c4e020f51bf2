/-
The model's PlaceNamed.
-/
import Derived.Test.YtibonacjbidfmaaGreatNetQ
namespace Go.Proofs.YtibonacjbidfmaaGreat
open Go.ChangeShapes Go.WideShapes Go.ChangeAt Go.RowKit Go.Deep
set_option linter.unusedVariables false
set_option linter.unusedSimpArgs false
set_option maxRecDepth 100000
set_option maxHeartbeats 8000000 in
theorem specPlaceNamed_any (v : Value) (f : Nat → Value) (ts : List CellD) (d : DesD) (s : ByteArray) (w : World) (hl : CellsS w w.heap.size v ts) (h : DesF w w.heap.size f d) :
    Calls Tryz.prog 29 #[.agg #[v], .agg #[f 0, f 1, f 2], .string s] w fun e w' => e = .returned (.int .i64 (ix (fun i => ((pll (placesY ts d) i).name.toList == s.toList)) (placesY ts d).length)) ∧ Below w.heap.size w w' := by
  have C0 := Lib.hid (fun (w1 : World) (hb : Below w.heap.size w w1) => specIsDesign_any v f ts d w1 (hl.up hb) (h.up hb))
  have C1 := Lib.hid (fun (w1 : World) (hb : Below w.heap.size w w1) => specPlacesV_any f ts d w1 (h.up hb))
  have C2 := Lib.hid (fun (w1 : World) (hb : Below w.heap.size w w1) (k : Nat) (hd : desB ts d = true) (hk : k < (places ts d).length) => specName5_any v f ts d k w1 (hl.up hb) (h.up hb) hd hk)
  obtain ⟨al, cl, el⟩ := hl.slice
  obtain ⟨a0, c0, e0⟩ := h.1.slice; obtain ⟨a1, c1, e1⟩ := h.2.1.slice; obtain ⟨a2, c2, e2⟩ := h.2.2.slice
  rw [el, e0, e1, e2] at C0 C2 ⊢
  rw [e0, e1, e2] at C1
  clear hl h el e0 e1 e2
  cases hd : desB ts d
  · rw [placesY_no hd]
    rw [hd] at C0
    clear hd C1 C2
    go_enter Tryz.func29, Tryz.ntmps29
    go_wp2_with (go_at_call 15; refine (C0.out _ (by (repeat (with_reducible first | exact Below.refl _ _ | assumption | refine ext_alloc ?_ _ | refine ext_drew ?_ | refine ext_drewN ?_ _ | refine ext_set ?_ (by first | exact Nat.le_refl _ | (simp; done) | (simp; omega) | omega) _ | refine ext_trans ?_ (by assumption))))).mono ?_; rintro e w1 ⟨rfl, hb⟩; obtain ⟨hc, hf⟩ := bcell hb; have hz := hb.size; (try simp at hz); (try (have hz := Nat.lt_of_succ_le hz)); (try (have y0 : w.heap.size ≤ w1.heap.size := by omega)); (try (have z0 : w.heap.size < w1.heap.size := by omega)); (try (have z1 : w.heap.size + 1 < w1.heap.size := by omega)); (try (have z2 : w.heap.size + 1 + 1 < w1.heap.size := by omega)); (try (have z3 : w.heap.size + 1 + 1 + 1 < w1.heap.size := by omega)); (try (have z4 : w.heap.size + 1 + 1 + 1 + 1 < w1.heap.size := by omega)); (try (have x0 : wc.heap.size < w1.heap.size := by omega)); (try (have x1 : wc.heap.size ≤ w1.heap.size := by omega)))
    go_ret
    exact ⟨rfl, by (repeat (with_reducible first | exact Below.refl _ _ | assumption | refine ext_alloc ?_ _ | refine ext_drew ?_ | refine ext_drewN ?_ _ | refine ext_set ?_ (by first | exact Nat.le_refl _ | (simp; done) | (simp; omega) | omega) _ | refine ext_trans ?_ (by assumption)))⟩
  · rw [placesY_yes hd]
    have hln := placesM hd
    have C1 := Lib.hid (fun (w1 : World) (hb : Below w.heap.size w w1) => C1.out w1 hb hd)
    have C2 := Lib.hid (fun (w1 : World) (hb : Below w.heap.size w w1) (k : Nat) (hk : k < (places ts d).length) => C2.out w1 hb k hd hk)
    rw [hd] at C0
    unfold PlacesV at C1
    generalize places ts d = P at C1 C2 hln ⊢
    clear hd
    go_enter Tryz.func29, Tryz.ntmps29
    go_wp2_with (go_at_call 15; refine (C0.out _ (by (repeat (with_reducible first | exact Below.refl _ _ | assumption | refine ext_alloc ?_ _ | refine ext_drew ?_ | refine ext_drewN ?_ _ | refine ext_set ?_ (by first | exact Nat.le_refl _ | (simp; done) | (simp; omega) | omega) _ | refine ext_trans ?_ (by assumption))))).mono ?_; rintro e w1 ⟨rfl, hb⟩; obtain ⟨hc, hf⟩ := bcell hb; have hz := hb.size; (try simp at hz); (try (have hz := Nat.lt_of_succ_le hz)); (try (have y0 : w.heap.size ≤ w1.heap.size := by omega)); (try (have z0 : w.heap.size < w1.heap.size := by omega)); (try (have z1 : w.heap.size + 1 < w1.heap.size := by omega)); (try (have z2 : w.heap.size + 1 + 1 < w1.heap.size := by omega)); (try (have z3 : w.heap.size + 1 + 1 + 1 < w1.heap.size := by omega)); (try (have z4 : w.heap.size + 1 + 1 + 1 + 1 < w1.heap.size := by omega)); (try (have x0 : wc.heap.size < w1.heap.size := by omega)); (try (have x1 : wc.heap.size ≤ w1.heap.size := by omega)))
    go_at_call 60
    refine (C1.out _ (by (repeat (with_reducible first | exact Below.refl _ _ | assumption | refine ext_alloc ?_ _ | refine ext_drew ?_ | refine ext_drewN ?_ _ | refine ext_set ?_ (by first | exact Nat.le_refl _ | (simp; done) | (simp; omega) | omega) _ | refine ext_trans ?_ (by assumption))))).mono ?_
    rintro e w5 ⟨a, cap, rfl, hP, _, hb⟩
    have q0 : w5.cell? ⟨w.heap.size, 0, none⟩ = some (.slice al ts.length cl) := cell_keep (w0 := (w.alloc (Obj.cells #[.slice al ts.length cl] 35)).alloc (Obj.cells #[.slice a0 d.insts.length c0, .slice a1 d.nets.length c1, .slice a2 d.ports.length c2] 40)) (by simp [go_sem]) (by (repeat (with_reducible first | exact Below.refl _ _ | assumption | refine ext_alloc ?_ _ | refine ext_drew ?_ | refine ext_drewN ?_ _ | refine ext_set ?_ (by first | exact Nat.le_refl _ | (simp; done) | (simp; omega) | omega) _ | refine ext_trans ?_ (by assumption))))
    have q1 : w5.cell? ⟨w.heap.size + 1, 0, none⟩ = some (.slice a0 d.insts.length c0) := cell_keep (w0 := (w.alloc (Obj.cells #[.slice al ts.length cl] 35)).alloc (Obj.cells #[.slice a0 d.insts.length c0, .slice a1 d.nets.length c1, .slice a2 d.ports.length c2] 40)) (by simp [go_sem]) (by (repeat (with_reducible first | exact Below.refl _ _ | assumption | refine ext_alloc ?_ _ | refine ext_drew ?_ | refine ext_drewN ?_ _ | refine ext_set ?_ (by first | exact Nat.le_refl _ | (simp; done) | (simp; omega) | omega) _ | refine ext_trans ?_ (by assumption))))
    have q2 : w5.cell? ⟨w.heap.size + 1, 1, none⟩ = some (.slice a1 d.nets.length c1) := cell_keep (w0 := (w.alloc (Obj.cells #[.slice al ts.length cl] 35)).alloc (Obj.cells #[.slice a0 d.insts.length c0, .slice a1 d.nets.length c1, .slice a2 d.ports.length c2] 40)) (by simp [go_sem]) (by (repeat (with_reducible first | exact Below.refl _ _ | assumption | refine ext_alloc ?_ _ | refine ext_drew ?_ | refine ext_drewN ?_ _ | refine ext_set ?_ (by first | exact Nat.le_refl _ | (simp; done) | (simp; omega) | omega) _ | refine ext_trans ?_ (by assumption))))
    have q3 : w5.cell? ⟨w.heap.size + 1, 2, none⟩ = some (.slice a2 d.ports.length c2) := cell_keep (w0 := (w.alloc (Obj.cells #[.slice al ts.length cl] 35)).alloc (Obj.cells #[.slice a0 d.insts.length c0, .slice a1 d.nets.length c1, .slice a2 d.ports.length c2] 40)) (by simp [go_sem]) (by (repeat (with_reducible first | exact Below.refl _ _ | assumption | refine ext_alloc ?_ _ | refine ext_drew ?_ | refine ext_drewN ?_ _ | refine ext_set ?_ (by first | exact Nat.le_refl _ | (simp; done) | (simp; omega) | omega) _ | refine ext_trans ?_ (by assumption))))
    have BW : Below w.heap.size w w5 := by (repeat (with_reducible first | exact Below.refl _ _ | assumption | refine ext_alloc ?_ _ | refine ext_drew ?_ | refine ext_drewN ?_ _ | refine ext_set ?_ (by first | exact Nat.le_refl _ | (simp; done) | (simp; omega) | omega) _ | refine ext_trans ?_ (by assumption)))
    have HP := Lib.hid hP
    obtain ⟨n, hnn⟩ : ∃ n, n = P.length := ⟨_, rfl⟩
    rw [← hnn] at hln HP ⊢
    have NN := Lib.hid hnn
    have R0 := Lib.hid q0; have R1 := Lib.hid q1; have R2 := Lib.hid q2; have R3 := Lib.hid q3; have BH := Lib.hid BW
    clear hP hnn hb q0 q1 q2 q3 BW
    go_wp2
    go_loopw [8] (fun i wr => ∃ k : Nat, k ≤ n ∧ i = .int .i64 k ∧ Hid (∀ j, j < k → ((pll P j).name.toList == s.toList) = false) ∧ wr.cell? ⟨w.heap.size, 0, none⟩ = some (.slice al ts.length cl) ∧ wr.cell? ⟨w.heap.size + 1, 0, none⟩ = some (.slice a0 d.insts.length c0) ∧ wr.cell? ⟨w.heap.size + 1, 1, none⟩ = some (.slice a1 d.nets.length c1) ∧ wr.cell? ⟨w.heap.size + 1, 2, none⟩ = some (.slice a2 d.ports.length c2) ∧ Hid (Below w5.heap.size w5 wr) ∧ Below w.heap.size w wr) (fun i _ => n - (intOf i).toNat)
    case atStart => exact ⟨0, by omega, rfl, Lib.hid (fun j hj => absurd hj (Nat.not_lt_zero j)), R0.out, R1.out, R2.out, R3.out, Lib.hid (Below.refl _ _), BH.out⟩
    case round =>
      clear R0 R1 R2 R3 BH
      obtain ⟨k, hk, rfl, hall, r0, r1, r2, r3, hbp, hbw⟩ := hrel
      by_cases hkn : k < n
      · obtain ⟨b, off, e9, hlt, y0, y1, y2, y3⟩ := HP.out.at hbp.out (show k < P.length by have := NN.out; omega)
        subst e9
        have hI : (k : Int) < (n : Int) := by omega
        have i0 : (0 : Int) ≤ (k : Int) := by omega
        have l1 := cell_lt r1
        have C3 := Lib.hid (fun (w1 : World) (hb : Below w.heap.size w w1) => C2.out w1 hb k (by have := NN.out; omega))
        obtain ⟨p, hp⟩ : ∃ p, p = pll P k := ⟨_, rfl⟩
        rw [← hp] at C3 y0 y1 y2 y3
        cases hd : ((pll P k).name.toList == s.toList)
        · have hok := Lib.hid (all_more (p := fun j => ((pll P j).name.toList == s.toList) = false) hall.out hd)
          rw [← hp] at hd
          clear hp
          go_wp2
          go_region_held3 (fun w' => w'.cell? ⟨w.heap.size, 0, none⟩ = some (.slice al ts.length cl) ∧ w'.cell? ⟨w.heap.size + 1, 0, none⟩ = some (.slice a0 d.insts.length c0) ∧ w'.cell? ⟨w.heap.size + 1, 1, none⟩ = some (.slice a1 d.nets.length c1) ∧ w'.cell? ⟨w.heap.size + 1, 2, none⟩ = some (.slice a2 d.ports.length c2) ∧ w'.cell? ⟨b, off + k * 4, none⟩ = some (.int .i64 p.inst) ∧ w'.cell? ⟨b, off + k * 4 + 1, none⟩ = some (.int .i64 p.pin) ∧ w'.cell? ⟨b, off + k * 4 + 2, none⟩ = some (.int .i64 p.net) ∧ w'.cell? ⟨b, off + k * 4 + 3, none⟩ = some (.bool p.drv) ∧ Below w.heap.size w w' ∧ w.heap.size + 1 < w'.heap.size) (first | exact (Hid.out (by assumption)) | exact keep8 (Hid.out (by assumption)) ((Below.refl _ _).alloc (Nat.le_refl _) _) | exact keep8s (keep8s (Hid.out (by assumption)) (by first | assumption | (simp; done) | (simp; omega) | omega) (by first | assumption | (simp; done) | (simp; omega) | omega) (by first | assumption | (simp; done) | (simp; omega) | omega) (by first | assumption | (simp; done) | (simp; omega) | omega) (by first | assumption | (simp; done) | (simp; omega) | omega) (by first | assumption | (simp; done) | (simp; omega) | omega) (by first | assumption | (simp; done) | (simp; omega) | omega) (by first | assumption | (simp; done) | (simp; omega) | omega) (by first | assumption | (simp; done) | (simp; omega) | omega) (by first | assumption | (simp; done) | (simp; omega) | omega)) (by first | assumption | (simp; done) | (simp; omega) | omega) (by first | assumption | (simp; done) | (simp; omega) | omega) (by first | assumption | (simp; done) | (simp; omega) | omega) (by first | assumption | (simp; done) | (simp; omega) | omega) (by first | assumption | (simp; done) | (simp; omega) | omega) (by first | assumption | (simp; done) | (simp; omega) | omega) (by first | assumption | (simp; done) | (simp; omega) | omega) (by first | assumption | (simp; done) | (simp; omega) | omega) (by first | assumption | (simp; done) | (simp; omega) | omega) (by first | assumption | (simp; done) | (simp; omega) | omega) | exact keep8s (Hid.out (by assumption)) (by first | assumption | (simp; done) | (simp; omega) | omega) (by first | assumption | (simp; done) | (simp; omega) | omega) (by first | assumption | (simp; done) | (simp; omega) | omega) (by first | assumption | (simp; done) | (simp; omega) | omega) (by first | assumption | (simp; done) | (simp; omega) | omega) (by first | assumption | (simp; done) | (simp; omega) | omega) (by first | assumption | (simp; done) | (simp; omega) | omega) (by first | assumption | (simp; done) | (simp; omega) | omega) (by first | assumption | (simp; done) | (simp; omega) | omega) (by first | assumption | (simp; done) | (simp; omega) | omega) | ((repeat' apply And.intro) <;> first | assumption | ((repeat (with_reducible first | exact Below.refl _ _ | assumption | refine ext_alloc ?_ _ | refine ext_drew ?_ | refine ext_drewN ?_ _ | refine ext_set ?_ (by first | exact Nat.le_refl _ | (simp; done) | (simp; omega) | omega) _ | refine ext_trans ?_ (by assumption))); done) | (simp [go_sem]; done) | (simp [go_sem, *]; done) | (simp; omega) | omega)) (first | ((go_at_call 66; refine (C3.out _ (by (repeat (with_reducible first | exact Below.refl _ _ | assumption | refine ext_alloc ?_ _ | refine ext_drew ?_ | refine ext_drewN ?_ _ | refine ext_set ?_ (by first | exact Nat.le_refl _ | (simp; done) | (simp; omega) | omega) _ | refine ext_trans ?_ (by assumption))))).mono ?_; rintro e w6 ⟨rfl, hb⟩); have hS := Lib.hid (keep8 (by assumption) hb); have zL := (Hid.out hS).2.2.2.2.2.2.2.2.2))
          all_goals
            have hb6 : Below wr.heap.size wr w6 := by (repeat (with_reducible first | exact Below.refl _ _ | assumption | refine ext_alloc ?_ _ | refine ext_drew ?_ | refine ext_drewN ?_ _ | refine ext_set ?_ (by first | exact Nat.le_refl _ | (simp; done) | (simp; omega) | omega) _ | refine ext_trans ?_ (by assumption)))
            have bp6 := Lib.hid (hbp.out.trans (hb6.mono hbp.out.size))
            obtain ⟨t0, t1, t2, t3, _, _, _, _, B6, _⟩ := hS.out
            go_wp2
            go_roundw
            case rel => exact ⟨k + 1, by omega, by go_num, hok, t0, t1, t2, t3, bp6, B6⟩
            case measure => simp [intOf]; omega
        · have hok := Lib.hid (ix_at (q := fun i => ((pll P i).name.toList == s.toList)) hkn hd hall.out)
          rw [← hp] at hd
          clear hp
          go_wp2
          go_region_held3 (fun w' => w'.cell? ⟨w.heap.size, 0, none⟩ = some (.slice al ts.length cl) ∧ w'.cell? ⟨w.heap.size + 1, 0, none⟩ = some (.slice a0 d.insts.length c0) ∧ w'.cell? ⟨w.heap.size + 1, 1, none⟩ = some (.slice a1 d.nets.length c1) ∧ w'.cell? ⟨w.heap.size + 1, 2, none⟩ = some (.slice a2 d.ports.length c2) ∧ w'.cell? ⟨b, off + k * 4, none⟩ = some (.int .i64 p.inst) ∧ w'.cell? ⟨b, off + k * 4 + 1, none⟩ = some (.int .i64 p.pin) ∧ w'.cell? ⟨b, off + k * 4 + 2, none⟩ = some (.int .i64 p.net) ∧ w'.cell? ⟨b, off + k * 4 + 3, none⟩ = some (.bool p.drv) ∧ Below w.heap.size w w' ∧ w.heap.size + 1 < w'.heap.size) (first | exact (Hid.out (by assumption)) | exact keep8 (Hid.out (by assumption)) ((Below.refl _ _).alloc (Nat.le_refl _) _) | exact keep8s (keep8s (Hid.out (by assumption)) (by first | assumption | (simp; done) | (simp; omega) | omega) (by first | assumption | (simp; done) | (simp; omega) | omega) (by first | assumption | (simp; done) | (simp; omega) | omega) (by first | assumption | (simp; done) | (simp; omega) | omega) (by first | assumption | (simp; done) | (simp; omega) | omega) (by first | assumption | (simp; done) | (simp; omega) | omega) (by first | assumption | (simp; done) | (simp; omega) | omega) (by first | assumption | (simp; done) | (simp; omega) | omega) (by first | assumption | (simp; done) | (simp; omega) | omega) (by first | assumption | (simp; done) | (simp; omega) | omega)) (by first | assumption | (simp; done) | (simp; omega) | omega) (by first | assumption | (simp; done) | (simp; omega) | omega) (by first | assumption | (simp; done) | (simp; omega) | omega) (by first | assumption | (simp; done) | (simp; omega) | omega) (by first | assumption | (simp; done) | (simp; omega) | omega) (by first | assumption | (simp; done) | (simp; omega) | omega) (by first | assumption | (simp; done) | (simp; omega) | omega) (by first | assumption | (simp; done) | (simp; omega) | omega) (by first | assumption | (simp; done) | (simp; omega) | omega) (by first | assumption | (simp; done) | (simp; omega) | omega) | exact keep8s (Hid.out (by assumption)) (by first | assumption | (simp; done) | (simp; omega) | omega) (by first | assumption | (simp; done) | (simp; omega) | omega) (by first | assumption | (simp; done) | (simp; omega) | omega) (by first | assumption | (simp; done) | (simp; omega) | omega) (by first | assumption | (simp; done) | (simp; omega) | omega) (by first | assumption | (simp; done) | (simp; omega) | omega) (by first | assumption | (simp; done) | (simp; omega) | omega) (by first | assumption | (simp; done) | (simp; omega) | omega) (by first | assumption | (simp; done) | (simp; omega) | omega) (by first | assumption | (simp; done) | (simp; omega) | omega) | ((repeat' apply And.intro) <;> first | assumption | ((repeat (with_reducible first | exact Below.refl _ _ | assumption | refine ext_alloc ?_ _ | refine ext_drew ?_ | refine ext_drewN ?_ _ | refine ext_set ?_ (by first | exact Nat.le_refl _ | (simp; done) | (simp; omega) | omega) _ | refine ext_trans ?_ (by assumption))); done) | (simp [go_sem]; done) | (simp [go_sem, *]; done) | (simp; omega) | omega)) (first | ((go_at_call 66; refine (C3.out _ (by (repeat (with_reducible first | exact Below.refl _ _ | assumption | refine ext_alloc ?_ _ | refine ext_drew ?_ | refine ext_drewN ?_ _ | refine ext_set ?_ (by first | exact Nat.le_refl _ | (simp; done) | (simp; omega) | omega) _ | refine ext_trans ?_ (by assumption))))).mono ?_; rintro e w6 ⟨rfl, hb⟩); have hS := Lib.hid (keep8 (by assumption) hb); have zL := (Hid.out hS).2.2.2.2.2.2.2.2.2))
          all_goals
            obtain ⟨_, _, _, _, _, _, _, _, B6, _⟩ := hS.out
            go_wp2
            rw [← NN.out, hok.out]
            go_ret
            exact ⟨rfl, B6⟩
      · obtain rfl : k = n := by omega
        have hok := Lib.hid (ix_none (q := fun i => ((pll P i).name.toList == s.toList)) hall.out)
        have hI : ¬ (k : Int) < (k : Int) := by omega
        go_wp2
        rw [← NN.out, hok.out]
        go_ret
        exact ⟨rfl, hbw⟩
end Go.Proofs.YtibonacjbidfmaaGreat
