/-
The law FnLookUp answers true at every input of its type and leaves its arguments as they were; no condition.
-/
import Derived.Test.YtckccpcigkbfmaaRows
import Derived.Test.YtckccpcigkbfmaaLookM
import Derived.Test.YtckccpcigkbfmaaBound
import Derived.Test.YtckccpcigkbfmaaDrawL
import Derived.WalkKit
import Derived.ProofKit
import Derived.OpenShut
import Derived.Carry
import Derived.WideKeyArgs
import Derived.Lib.SmallJoins
namespace Go.Proofs.Ytckccpcigkbfmaa.fnLookUp
open Go.ChangeShapes Go.WideShapes Go.ChangeAt Go.RowKit Go.Joins
set_option linter.unusedVariables false
set_option linter.unusedSimpArgs false

theorem own : ownKnob Try.prog.godebug = none := by kernel_rfl
theorem laidOut : laidOutB Try.prog = true := by kernel_rfl
theorem cells5 : Try.prog.cellsOf 5 = 1 := by kernel_rfl
set_option maxHeartbeats 4000000 in
set_option maxRecDepth 100000 in
theorem walk (v0 : Value) (n0 : Nat) (w : World) (h0 : BytesAt w w.heap.size v0 n0) :
    Calls Try.prog 3 #[v0] w fun e w' => e = .returned (.bool true) ∧ Below w.heap.size w w' := by
  by_cases hbig : 4096 < n0
  · have hd : decide (4096 < n0) = true := by simpa using hbig
    go_enter Try.func3, Try.ntmps3
    go_wp2_with (go_at_call 15; refine (big_any _ _ _ _ h0).mono ?_; rintro e w1 ⟨rfl, rfl⟩)
    go_ret
    exact ⟨rfl, by (repeat (first | (with_reducible exact Below.refl _ _) | (with_reducible assumption) | (with_reducible refine ext_alloc ?_ _) | (with_reducible refine ext_drew ?_) | (with_reducible refine ext_drewN ?_ _) | (with_reducible refine ext_set ?_ (by first | exact Nat.le_refl _ | (simp; done) | (simp; omega) | omega) _) | (with_reducible refine ext_trans ?_ (by assumption))))⟩
  · have hd : decide (4096 < n0) = false := by simpa using hbig
    have HB0 := Lib.hid h0
    clear h0 hbig
    go_enter Try.func3, Try.ntmps3
    go_wp2_with fail
    go_at_call 15
    refine (big_any _ _ _ _ HB0.out).mono ?_
    rintro e w1 ⟨rfl, rfl⟩
    go_wp2_with fail
    go_at_call 16
    refine (drawLook_any _ _ _ HB0.out).mono ?_
    rintro e w1 ⟨t0, t1, t2, ss, ls, vs, x, y, m, rfl, ⟨i0, i1, i2⟩, hx, hy, hm0, hb1⟩
    have H0 := Lib.hid i0; have H1 := Lib.hid i1; have H2 := Lib.hid i2
    obtain ⟨_, a0, c0, rfl, hp0⟩ := i0; obtain ⟨_, a1, c1, rfl, hp1⟩ := i1; obtain ⟨_, a2, c2, rfl, hp2⟩ := i2
    have HP0 := Lib.hid hp0; have HP1 := Lib.hid hp1; have HP2 := Lib.hid hp2
    clear hp0 hp1 hp2 hx hy hm0 HB0 hd
    have HI := Lib.hid (fun (w' : World) (hb : Below w1.heap.size w1 w') (x y : Int) => implLookUp_any _ _ _ ss ls vs x y m w' (H0.out.up hb) (H1.out.up hb) (H2.out.up hb))
    have HS := Lib.hid (fun (w' : World) (hb : Below w1.heap.size w1 w') (x y : Int) => specLookUp_any _ _ _ ss ls vs x y m w' (H0.out.up hb) (H1.out.up hb) (H2.out.up hb))
    go_wp2_with fail
    (go_at_call 17; refine (HI.out _ (by (repeat (first | (with_reducible exact Below.refl _ _) | (with_reducible assumption) | (with_reducible refine ext_alloc ?_ _) | (with_reducible refine ext_drew ?_) | (with_reducible refine ext_drewN ?_ _) | (with_reducible refine ext_set ?_ (by first | exact Nat.le_refl _ | (simp; done) | (simp; omega) | omega) _) | (with_reducible refine ext_trans ?_ (by assumption))))) x y).mono ?_; rintro e w2 ⟨rfl, hb⟩; obtain ⟨hc, hf⟩ := bcell hb; have hz := hb.size; (try simp at hz); (try (have hz := Nat.lt_of_succ_le hz)); (try (have y0 : w.heap.size ≤ w2.heap.size := by omega)); (try (have z0 : w.heap.size < w2.heap.size := by omega)); (try (have z1 : w.heap.size + 1 < w2.heap.size := by omega)); (try (have z2 : w.heap.size + 1 + 1 < w2.heap.size := by omega)); (try (have z3 : w.heap.size + 1 + 1 + 1 < w2.heap.size := by omega)); (try (have z4 : w.heap.size + 1 + 1 + 1 + 1 < w2.heap.size := by omega)))
    have hb2 : Below w1.heap.size w1 w2 := ext_trans (by (repeat (first | (with_reducible exact Below.refl _ _) | (with_reducible assumption) | (with_reducible refine ext_alloc ?_ _) | (with_reducible refine ext_drew ?_) | (with_reducible refine ext_drewN ?_ _) | (with_reducible refine ext_set ?_ (by first | exact Nat.le_refl _ | (simp; done) | (simp; omega) | omega) _) | (with_reducible refine ext_trans ?_ (by assumption))))) hb
    have q0 : w2.cell? ⟨w1.heap.size, 0, none⟩ = some (.slice a0 ss.length c0) := by simp [go_sem, *]
    have q1 : w2.cell? ⟨w1.heap.size, 1, none⟩ = some (.slice a1 ls.length c1) := by simp [go_sem, *]
    have q2 : w2.cell? ⟨w1.heap.size, 2, none⟩ = some (.slice a2 vs.length c2) := by simp [go_sem, *]
    have K2 := Lib.hid (show K3 w1 w2 _ _ _ from ⟨q0, q1, q2, hb2, cell_lt q0⟩)
    clear hb hc hf hz
    go_wp2_with fail
    go_at_call 18
    refine (HS.out _ hb2 x y).mono ?_
    rintro e w3 ⟨rfl, hb3⟩
    have K3' := Lib.hid (K2.out.call hb3)
    obtain ⟨r0, r1, r2, hbw3, hs3⟩ := K3'.out
    clear q0 q1 q2 hb2 hb3 K2
    cases ht : tabB ss ls vs
    · have ⟨g1, g2⟩ := lu_no ht x y m
      rw [g1, g2]
      go_wp2
      go_ret
      exact ⟨rfl, hb1.trans (hbw3.mono hb1.size)⟩
    · cases hm : isM m
      · have ⟨g1, g2⟩ := lu_bad ht hm x y
        rw [g1, g2]
        go_wp2
        go_ret
        exact ⟨rfl, hb1.trans (hbw3.mono hb1.size)⟩
      · have ⟨g1, g2⟩ := lu_yes ht hm x y
        rw [g1, g2]
        have ⟨u1, u2⟩ := lk_bounds ht x y hm
        obtain ⟨V, hV⟩ : ∃ V, V = lkV ss ls vs x y m := ⟨_, rfl⟩
        rw [← hV] at u1 u2 ⊢
        obtain ⟨E, hE⟩ : ∃ E, E = mnK vs vs.length := ⟨_, rfl⟩
        obtain ⟨L, hL⟩ : ∃ L, L = mxK vs vs.length := ⟨_, rfl⟩
        have HT := Lib.hid ht
        have ⟨b1, b2, b3⟩ := tb_yes ht
        have HBd := Lib.hid (fun (w' : World) (hb : Below w1.heap.size w1 w') => implBounds_any _ _ _ ss ls vs w' (H0.out.up hb) (H1.out.up hb) (H2.out.up hb))
        rw [b1, b2, b3, ← hE, ← hL] at HBd
        rw [← hE] at u1
        rw [← hL] at u2
        clear g1 g2 b1 b2 b3 hV hE hL
        have n1 : ¬ V < E := by omega
        have n2 : ¬ L < V := by omega
        go_wp2_with fail
        go_at_call 19
        refine (HBd.out _ hbw3).mono ?_
        rintro e w4 ⟨rfl, hb4⟩
        have K4 := Lib.hid (K3'.out.call hb4)
        clear K3' r0 r1 r2 hbw3 hs3 hb4
        have K4a := Lib.hid (K3.alloc K4.out (Obj.cells #[.int .i64 E, .int .i64 L] 32))
        clear HBd HS
        go_wp2_with fail
        go_loopw [13] (fun i wr => ∃ k : Nat, k ≤ ss.length ∧ i = .int .i64 k ∧ Hid (K3 w1 wr (.slice a0 ss.length c0) (.slice a1 ls.length c1) (.slice a2 vs.length c2))) (fun i _ => ss.length - (intOf i).toNat)
        case atStart => exact ⟨0, by omega, rfl, K4a⟩
        case round =>
          clear K4 K4a
          obtain ⟨k, hk, rfl, K⟩ := hrel
          obtain ⟨r0, r1, r2, hbw, hs⟩ := K.out
          by_cases hks : k < ss.length
          · have hkI : (k : Int) < (ss.length : Int) := by omega
            go_wp2_with fail
            clear r0 r1 r2 hbw hs
            go_loopw [14] (fun j wr => ∃ q : Nat, q ≤ ls.length ∧ j = .int .i64 q ∧ Hid (K3 w1 wr (.slice a0 ss.length c0) (.slice a1 ls.length c1) (.slice a2 vs.length c2))) (fun j _ => ls.length - (intOf j).toNat)
            case atStart => exact ⟨0, by omega, rfl, K⟩
            case round =>
              clear K
              obtain ⟨q, hq, rfl, K⟩ := hrel
              obtain ⟨r0, r1, r2, hbw, hs⟩ := K.out
              by_cases hql : q < ls.length
              · have hqI : (q : Int) < (ls.length : Int) := by omega
                have hix : k * ls.length + q < vs.length := by rw [(tab_get HT.out).2.2.1]; exact idx_lt hks hql
                obtain ⟨p0, o0, rfl, hl0, hx0⟩ := HP0.out (by omega)
                obtain ⟨p1, o1, rfl, hl1, hx1⟩ := HP1.out (by omega)
                obtain ⟨p2, o2, rfl, hl2, hx2⟩ := HP2.out (by omega)
                have y0 : wr.cell? ⟨p0, o0 + k, none⟩ = some (.int .i64 (iv ss k)) := (hbw.cell (by exact hl0)).trans (hx0 k hks)
                have y1 : wr.cell? ⟨p1, o1 + q, none⟩ = some (.int .i64 (iv ls q)) := (hbw.cell (by exact hl1)).trans (hx1 q hql)
                have HIk := Lib.hid (fun (w' : World) (hb : Below w1.heap.size w1 w') => by
                  have h := HI.out w' hb (iv ss k) (iv ls q)
                  have ⟨g1, g2⟩ := lu_yes HT.out hm (iv ss k) (iv ls q)
                  rw [g1, g2, lk_at HT.out hks hql m] at h
                  exact h)
                have hx2q := hx2 _ hix
                have e3 := (tab_get HT.out).2.2.2 _ hix
                have n4 := (ax_get (tab_get HT.out).2.1).2.1
                have s4 := (ax_get (tab_get HT.out).1).2.1
                have hq0 : (k : Int) * (ls.length : Int) = ((k * ls.length : Nat) : Int) := by simp
                have hQ12 : k * ls.length ≤ 12 := Nat.le_trans (Nat.mul_le_mul (show k ≤ 3 by omega) n4) (by omega)
                obtain ⟨Q, hQ⟩ : ∃ Q, Q = k * ls.length := ⟨_, rfl⟩
                rw [← hQ] at hq0 hix hx2q HIk hQ12
                clear hQ hx0 hx1 hx2 e3
                obtain ⟨X, hX⟩ : ∃ X, X = iv vs (Q + q) := ⟨_, rfl⟩
                rw [← hX] at hx2q HIk
                clear hX
                have lI : (Q : Int) + (q : Int) < (vs.length : Int) := by omega
                go_wp2_with fail
                have HS0 := Lib.hid (show wr.cell? ⟨w1.heap.size, 0, none⟩ = some (.slice (some ⟨p0, o0, none⟩) ss.length c0) ∧ wr.cell? ⟨w1.heap.size, 1, none⟩ = some (.slice (some ⟨p1, o1, none⟩) ls.length c1) ∧ wr.cell? ⟨w1.heap.size, 2, none⟩ = some (.slice (some ⟨p2, o2, none⟩) vs.length c2) ∧ Below w1.heap.size w1 wr ∧ w1.heap.size < wr.heap.size ∧ wr.cell? ⟨p0, o0 + k, none⟩ = some (.int .i64 (iv ss k)) ∧ wr.cell? ⟨p1, o1 + q, none⟩ = some (.int .i64 (iv ls q)) from ⟨r0, r1, r2, hbw, hs, y0, y1⟩)
                go_region_held3 (fun w' => w'.cell? ⟨w1.heap.size, 0, none⟩ = some (.slice (some ⟨p0, o0, none⟩) ss.length c0) ∧ w'.cell? ⟨w1.heap.size, 1, none⟩ = some (.slice (some ⟨p1, o1, none⟩) ls.length c1) ∧ w'.cell? ⟨w1.heap.size, 2, none⟩ = some (.slice (some ⟨p2, o2, none⟩) vs.length c2) ∧ Below w1.heap.size w1 w' ∧ w1.heap.size < w'.heap.size ∧ w'.cell? ⟨p0, o0 + k, none⟩ = some (.int .i64 (iv ss k)) ∧ w'.cell? ⟨p1, o1 + q, none⟩ = some (.int .i64 (iv ls q))) (first | (with_reducible exact (Hid.out (by with_reducible assumption))) | exact ⟨r0, r1, r2, hbw.drew, hs, y0, y1⟩) (first | (go_at_call 17; with_reducible refine (HIk.out _ (by first | exact hbw | exact hbw.drew)).mono ?_; rintro e w5 ⟨rfl, hb5⟩; have K5 := Lib.hid (K3.call (K3.drew K.out) hb5); obtain ⟨s0, s1, s2, hbw5, hs5⟩ := K5.out; have y2 : w5.cell? ⟨p2, o2 + (Q + q), none⟩ = some (.int .i64 X) := (hbw5.cell (by exact hl2)).trans hx2q; have HS5 := Lib.hid (show w5.cell? ⟨w1.heap.size, 0, none⟩ = some (.slice (some ⟨p0, o0, none⟩) ss.length c0) ∧ w5.cell? ⟨w1.heap.size, 1, none⟩ = some (.slice (some ⟨p1, o1, none⟩) ls.length c1) ∧ w5.cell? ⟨w1.heap.size, 2, none⟩ = some (.slice (some ⟨p2, o2, none⟩) vs.length c2) ∧ Below w1.heap.size w1 w5 ∧ w1.heap.size < w5.heap.size ∧ w5.cell? ⟨p0, o0 + k, none⟩ = some (.int .i64 (iv ss k)) ∧ w5.cell? ⟨p1, o1 + q, none⟩ = some (.int .i64 (iv ls q)) from ⟨s0, s1, s2, hbw5, hs5, cell_keep (cell_keep y0 (Below.refl _ wr).drew) hb5, cell_keep (cell_keep y1 (Below.refl _ wr).drew) hb5⟩)))
                all_goals (go_wp2_with fail)
                all_goals go_roundw
                case rel => exact ⟨q + 1, by omega, by go_num, K5⟩
                case measure => simp [intOf]; omega
              · obtain rfl : q = ls.length := by omega
                go_wp2_with fail
                go_roundw
                case rel => exact ⟨k + 1, by omega, by go_num, K⟩
                case measure => simp [intOf]; omega
          · obtain rfl : k = ss.length := by omega
            go_wp2
            go_ret
            exact ⟨rfl, hb1.trans (hbw.mono hb1.size)⟩

set_option maxRecDepth 100000 in
theorem lifted (os : Os) (started : os.Started) (H : Type) (enc : TypeId × Value → H) :
    ReturnsInHanded {} Try.checked os 3 .any (Rows.fnLookUpSpec.pre6 enc Try.prog Try.f3 Rows.fnLookUpRow.domain false) (Rows.fnLookUpSpec.post enc Try.prog Try.f3 false true false false) := by
  refine returnsInHanded_of_change (C := Try.checked) own started (by kernel_rfl) Try.func3
    (ChangeSpec.witness6 (enc := enc) (C := Try.checked) false ⟨#[], #[.slice none 0 0], []⟩ 8 (by kernel_rfl) (by kernel_rfl) (by kernel_rfl) (by kernel_rfl)) ?_
  intro W base args ds gs before hval0 hW hcnd _
  have hval : ∀ (j : Nat) t v, Try.f3.params[j]? = some t → args[j]? = some v → Value.okWide Try.prog W .any base t v := hval0
  have hW' := hW
  obtain ⟨p, q, hA0, hV, rfl, hfz, hnd⟩ := hW
  have hA : DataW.TrodAll enc Try.prog W 0 (fun _ => true) true Try.f3.params.toList args.toList ds p := hA0
  rw [Try.params3] at hA hval
  obtain ⟨v0, vs0, d0, ds0, p0, q0, hargs, rfl, rfl, h0, r0⟩ := trodAll_cons hA
  obtain ⟨rfl, rfl, rfl⟩ := trodAll_nil r0
  obtain rfl : args = #[v0] := by cases args; simp_all
  obtain ⟨rfl, rfl⟩ := trodVars_none hV
  have k0 := h0
  have hlt0 : ∀ x ∈ p0, x.block < W.heap.size := fun x hx => hW'.lt x (by first | (simp [hx]; done) | (simp at hx; done) | (simpa using hx))
  obtain ⟨n0, b0⟩ := open_code Try.underlying22 Try.underlying5 cells5 (hval 0 22 v0 rfl rfl) h0
  clear hA0 hval0
  refine (walk v0 n0 W b0).mono fun e W' ⟨he, hg⟩ => ?_
  subst he
  exact ⟨_, rfl, post_ext hg (pv := []) hW' (fun _ _ _ => (trodAll_cons_mk (shut_bool Try.underlying4 _) trodAll_mk0)) (fun sp hsp => (trodAll_cons_mk (WideElems.Trod_stays laidOut (by kernel_rfl) (of_decide_eq_true (by kernel_rfl)) k0 (fun x hx => hg.same (hlt0 x hx)) (fun x hx => hsp x (by first | (simp [hx]; done) | (simp at hx; done) | (simpa using hx)))) trodAll_mk0)) (fun _ _ => rfl) rfl
    (ok_one (by kernel_rfl) rfl (okWide_bool_mk Try.underlying4 _))⟩

theorem over : Rows.fnLookUpRow.holds Try.pinned (OpenSpec.ofChange Rows.fnLookUpSpec) :=
  OpenClaim.holds_of_wide 3 Try.f3 rfl rfl rfl rfl rfl rfl rfl ⟨rfl, rfl, rfl, rfl, rfl⟩ rfl rfl rfl rfl rfl (by kernel_rfl) Try.func3 (by kernel_rfl)
    (of_decide_eq_true (by kernel_rfl)) (by unfold Func.isWrapper; first | (rw [if_pos (by decide +kernel)]; kernel_rfl) | (rw [if_neg (by decide +kernel)]; exact ⟨rfl, rfl⟩))
    (fun os started H enc _ => lifted os started H enc)

theorem proved : Rows.FnLookUpSaid :=
  over
end Go.Proofs.Ytckccpcigkbfmaa.fnLookUp
