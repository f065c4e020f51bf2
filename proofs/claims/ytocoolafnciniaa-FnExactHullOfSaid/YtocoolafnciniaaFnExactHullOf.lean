/-
The law FnExactHullOf answers true at every input of its type and leaves its arguments as they were; no condition.
-/
import Derived.Test.YtocoolafnciniaaRows
import Derived.Test.YtocoolafnciniaaHull
import Derived.WalkKit
import Derived.ProofKit
import Derived.OpenShut
import Derived.Carry
import Derived.WideKeyArgs
import Derived.Lib.SmallJoins
namespace Go.Proofs.Ytocoolafnciniaa.fnExactHullOf
open Go.ChangeShapes Go.WideShapes Go.ChangeAt Go.RowKit Go.Joins
set_option linter.unusedVariables false

theorem own : ownKnob Try.prog.godebug = none := by kernel_rfl
theorem laidOut : laidOutB Try.prog = true := by kernel_rfl
theorem cells41 : Try.prog.cellsOf 41 = 2 := by kernel_rfl
set_option maxHeartbeats 1000000 in
theorem walk (v0 : Value) (xs0 : List (Int × Int)) (w : World) (h0 : SpanS w w.heap.size v0 xs0) :
    Calls Try.prog 9 #[v0] w fun e w' => e = .returned (.bool true) ∧ Below w.heap.size w w' := by
  by_cases hm : xs0.length ≤ 1048576
  · go_enter Try.func9, Try.ntmps9
    go_wp2_with fail
    go_at_call 28
    refine (szSpanS_yes _ _ _ _ h0 hm).mono ?_
    rintro e w1 ⟨r, hr, rfl, rfl⟩
    have hr' : ¬ r < 0 := by omega
    go_wp2_with fail
    go_at_call 30
    refine (toSpanS_any _ _ _ h0 hm).mono ?_
    rintro e w2 ⟨v1, rfl, hv1, hb1⟩
    have HV1 := Lib.hid hv1
    clear hv1
    go_wp2_with fail
    go_at_call 29
    refine (specHullOf_any _ _ _ HV1.out).mono ?_
    rintro e w3 ⟨rfl, hb2⟩
    have c0 : (w3.alloc (Obj.cells #[.int .i64 (hE xs0), .int .i64 (hL xs0)] 29)).cell? ⟨w3.heap.size, 0, none⟩ = some (.int .i64 (hE xs0)) := by simp [go_sem]
    have c1 : (w3.alloc (Obj.cells #[.int .i64 (hE xs0), .int .i64 (hL xs0)] 29)).cell? ⟨w3.heap.size, 1, none⟩ = some (.int .i64 (hL xs0)) := by simp [go_sem]
    have C0 := Lib.hid c0
    have C1 := Lib.hid c1
    clear c0 c1
    go_wp2_with fail
    go_at_call 30
    refine (toSpanS_any _ _ _ (h0.up (by (repeat (first | (with_reducible exact Below.refl _ _) | (with_reducible assumption) | (with_reducible refine ext_alloc ?_ _) | (with_reducible refine ext_drew ?_) | (with_reducible refine ext_drewN ?_ _) | (with_reducible refine ext_set ?_ (by first | exact Nat.le_refl _ | (simp; done) | (simp; omega) | omega) _) | (with_reducible refine ext_trans ?_ (by assumption)))))) hm).mono ?_
    rintro e w4 ⟨v2, rfl, hv2, hb3⟩
    have HV2 := Lib.hid hv2
    have d0 := cell_keep C0.out hb3
    have d1 := cell_keep C1.out hb3
    clear hv2 C0 C1
    go_wp2_with fail
    go_at_call 17
    refine (implHullOf_any _ _ _ HV2.out).mono ?_
    rintro e w5 ⟨rfl, hb4⟩
    have e0 := cell_keep d0 hb4
    have e1 := cell_keep d1 hb4
    have q0 := cell_lt e0
    have g0 := cell_keep e0 (ext_alloc (Below.refl _ _) (Obj.cells #[.int .i64 (hE xs0), .int .i64 (hL xs0)] 29))
    have g1 := cell_keep e1 (ext_alloc (Below.refl _ _) (Obj.cells #[.int .i64 (hE xs0), .int .i64 (hL xs0)] 29))
    clear d0 d1
    go_wp2_with (first
      | (go_at_call 27; refine (eqSpan_same _ _ _).mono ?_; rintro e w1 ⟨rfl, hb⟩; obtain ⟨hc, hf⟩ := bcell hb; have hz := hb.size; (try simp at hz); (try (have hz := Nat.lt_of_succ_le hz)); (try (have y0 : w.heap.size ≤ w1.heap.size := by omega)); (try (have z0 : w.heap.size < w1.heap.size := by omega)); (try (have z1 : w.heap.size + 1 < w1.heap.size := by omega)); (try (have z2 : w.heap.size + 1 + 1 < w1.heap.size := by omega)); (try (have z3 : w.heap.size + 1 + 1 + 1 < w1.heap.size := by omega)); (try (have z4 : w.heap.size + 1 + 1 + 1 + 1 < w1.heap.size := by omega)); (try (have x0 : wc.heap.size < w1.heap.size := by omega)); (try (have x1 : wc.heap.size ≤ w1.heap.size := by omega)))
      | (go_at_call 30; refine (toSpanS_any _ _ _ (h0.up (by (repeat (first | (with_reducible exact Below.refl _ _) | (with_reducible assumption) | (with_reducible refine ext_alloc ?_ _) | (with_reducible refine ext_drew ?_) | (with_reducible refine ext_drewN ?_ _) | (with_reducible refine ext_set ?_ (by first | exact Nat.le_refl _ | (simp; done) | (simp; omega) | omega) _) | (with_reducible refine ext_trans ?_ (by assumption)))))) hm).mono ?_; rintro e w7 ⟨v3, rfl, hv3, hb7⟩; have HV3 := Lib.hid hv3; clear hv3)
      | (go_at_call 31; refine (eqSpanS_same _ _ _ _ (HV2.out.up (by (repeat (first | (with_reducible exact Below.refl _ _) | (with_reducible assumption) | (with_reducible refine ext_alloc ?_ _) | (with_reducible refine ext_drew ?_) | (with_reducible refine ext_drewN ?_ _) | (with_reducible refine ext_set ?_ (by first | exact Nat.le_refl _ | (simp; done) | (simp; omega) | omega) _) | (with_reducible refine ext_trans ?_ (by assumption)))))) HV3.out).mono ?_; rintro e w8 ⟨rfl, hb8⟩))
    go_ret
    exact ⟨rfl, by (repeat (first | (with_reducible exact Below.refl _ _) | (with_reducible assumption) | (with_reducible refine ext_alloc ?_ _) | (with_reducible refine ext_drew ?_) | (with_reducible refine ext_drewN ?_ _) | (with_reducible refine ext_set ?_ (by first | exact Nat.le_refl _ | (simp; done) | (simp; omega) | omega) _) | (with_reducible refine ext_trans ?_ (by assumption))))⟩
  · go_enter Try.func9, Try.ntmps9
    go_wp2_with (go_at_call 28; refine (szSpanS_no _ _ _ _ h0 (by omega)).mono ?_; rintro e w1 ⟨rfl, rfl⟩)
    go_ret
    exact ⟨rfl, by (repeat (first | (with_reducible exact Below.refl _ _) | (with_reducible assumption) | (with_reducible refine ext_alloc ?_ _) | (with_reducible refine ext_drew ?_) | (with_reducible refine ext_drewN ?_ _) | (with_reducible refine ext_set ?_ (by first | exact Nat.le_refl _ | (simp; done) | (simp; omega) | omega) _) | (with_reducible refine ext_trans ?_ (by assumption))))⟩

set_option maxRecDepth 100000 in
theorem lifted (os : Os) (started : os.Started) (H : Type) (enc : TypeId × Value → H) :
    ReturnsInHanded {} Try.checked os 9 .any (Rows.fnExactHullOfSpec.pre6 enc Try.prog Try.f9 Rows.fnExactHullOfRow.domain false) (Rows.fnExactHullOfSpec.post enc Try.prog Try.f9 false true false false) := by
  refine returnsInHanded_of_change (C := Try.checked) own started (by kernel_rfl) Try.func9
    (ChangeSpec.witness6 (enc := enc) (C := Try.checked) false ⟨#[], #[.slice none 0 0], []⟩ 8 (by kernel_rfl) (by kernel_rfl) (by kernel_rfl) (by kernel_rfl)) ?_
  intro W base args ds gs before hval0 hW hcnd _
  have hval : ∀ (j : Nat) t v, Try.f9.params[j]? = some t → args[j]? = some v → Value.okWide Try.prog W .any base t v := hval0
  have hW' := hW
  obtain ⟨p, q, hA0, hV, rfl, hfz, hnd⟩ := hW
  have hA : DataW.TrodAll enc Try.prog W 0 (fun _ => true) true Try.f9.params.toList args.toList ds p := hA0
  rw [Try.params9] at hA hval
  obtain ⟨v0, vs0, d0, ds0, p0, q0, hargs, rfl, rfl, h0, r0⟩ := trodAll_cons hA
  obtain ⟨rfl, rfl, rfl⟩ := trodAll_nil r0
  obtain rfl : args = #[v0] := by cases args; simp_all
  obtain ⟨rfl, rfl⟩ := trodVars_none hV
  have k0 := h0
  have hlt0 : ∀ x ∈ p0, x.block < W.heap.size := fun x hx => hW'.lt x (by simp [hx])
  obtain ⟨xs0, b0⟩ := open_spans Try.underlying45 Try.underlying41 cells41 ⟨rfl, rfl, by kernel_rfl, by kernel_rfl⟩ ⟨rfl, rfl⟩ Try.underlying2 (hval 0 45 v0 rfl rfl) h0
  clear hA0 hval0
  refine (walk v0 xs0 W b0).mono fun e W' ⟨he, hg⟩ => ?_
  subst he
  exact ⟨_, rfl, post_ext hg (pv := []) hW' (fun _ _ _ => (trodAll_cons_mk (shut_bool Try.underlying4 _) trodAll_mk0)) (fun sp hsp => (trodAll_cons_mk (WideElems.Trod_stays laidOut (by kernel_rfl) (of_decide_eq_true (by kernel_rfl)) k0 (fun x hx => hg.same (hlt0 x hx)) (fun x hx => hsp x (by simp [hx]))) trodAll_mk0)) (fun _ _ => rfl) rfl
    (ok_one (by kernel_rfl) rfl (okWide_bool_mk Try.underlying4 _))⟩

theorem over : Rows.fnExactHullOfRow.holds Try.pinned (OpenSpec.ofChange Rows.fnExactHullOfSpec) :=
  OpenClaim.holds_of_wide 9 Try.f9 rfl rfl rfl rfl rfl rfl rfl ⟨rfl, rfl, rfl, rfl, rfl⟩ rfl rfl rfl rfl rfl (by kernel_rfl) Try.func9 (by kernel_rfl)
    (of_decide_eq_true (by kernel_rfl)) (by unfold Func.isWrapper; first | (rw [if_pos (by decide +kernel)]; kernel_rfl) | (rw [if_neg (by decide +kernel)]; exact ⟨rfl, rfl⟩))
    (fun os started H enc _ => lifted os started H enc)

theorem proved : Rows.FnExactHullOfSaid :=
  over
end Go.Proofs.Ytocoolafnciniaa.fnExactHullOf
