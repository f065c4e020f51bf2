/-
The law FnRounding answers true at every input of its type and leaves its arguments as they were; no condition.
-/
import Derived.Test.YtocoolafnciniaaRows
import Derived.Test.YtocoolafnciniaaDraw
import Derived.WalkKit
import Derived.ProofKit
import Derived.OpenShut
import Derived.Carry
import Derived.WideKeyArgs
import Derived.Lib.SmallJoins
namespace Go.Proofs.Ytocoolafnciniaa.fnRounding
open Go.ChangeShapes Go.WideShapes Go.ChangeAt Go.RowKit Go.Joins
set_option linter.unusedVariables false

theorem own : ownKnob Try.prog.godebug = none := by kernel_rfl
theorem laidOut : laidOutB Try.prog = true := by kernel_rfl
theorem cells5 : Try.prog.cellsOf 5 = 1 := by kernel_rfl
set_option maxHeartbeats 1000000 in
theorem walk (v0 : Value) (n0 : Nat) (w : World) (h0 : BytesAt w w.heap.size v0 n0) :
    Calls Try.prog 3 #[v0] w fun e w' => e = .returned (.bool true) ∧ Below w.heap.size w w' := by
  by_cases hbig : 4096 < n0
  · have hd : decide (4096 < n0) = true := by simpa using hbig
    go_enter Try.func3, Try.ntmps3
    go_wp2_with (go_at_call 11; refine (big_any _ _ _ _ h0).mono ?_; rintro e w1 ⟨rfl, rfl⟩)
    go_ret
    exact ⟨rfl, by (repeat (first | (with_reducible exact Below.refl _ _) | (with_reducible assumption) | (with_reducible refine ext_alloc ?_ _) | (with_reducible refine ext_drew ?_) | (with_reducible refine ext_drewN ?_ _) | (with_reducible refine ext_set ?_ (by first | exact Nat.le_refl _ | (simp; done) | (simp; omega) | omega) _) | (with_reducible refine ext_trans ?_ (by assumption))))⟩
  · have hd : decide (4096 < n0) = false := by simpa using hbig
    go_enter Try.func3, Try.ntmps3
    go_wp2_with fail
    go_at_call 11
    refine (big_any _ _ _ _ h0).mono ?_
    rintro e w1 ⟨rfl, rfl⟩
    go_wp2_with fail
    go_at_call 12
    refine (drawRoundDiv_any _ _ _ h0).mono ?_
    rintro e w1 ⟨a, b, m, wa, wb, wm, rfl, hb1⟩
    have ⟨a1, a2⟩ := bounds_i64 wa
    have ⟨b1, b2⟩ := bounds_i64 wb
    have ⟨m1, m2⟩ := bounds_i64 wm
    clear wa wb wm hbig
    by_cases h : rdOk a b m = true
    · unfold rdOk at h
      have h3 : isM m = true := by cases h3 : isM m <;> simp_all
      have h2 : inB b 1 1000000000000000 = true := by cases h2 : inB b 1 1000000000000000 <;> simp_all
      have h1 : inB a (-1000000000000000) 1000000000000000 = true := by cases h1 : inB a (-1000000000000000) 1000000000000000 <;> simp_all
      clear h
      have ⟨i1, i2⟩ := inB_get h1
      have ⟨i3, i4⟩ := inB_get h2
      have hm : m = 0 ∨ m = 1 := by simpa [isM] using h3
      have ⟨q1, q2, q3, q4, q5, q6, q7⟩ := qd_facts a b (by omega)
      have hq : (qd a b 0 == qd a b 1) = (a.tmod b == 0) := by rw [Bool.eq_iff_iff]; simpa using q7
      clear q7
      rcases hm with rfl | rfl
      · go_wp2_with (first
          | (go_at_call 13; refine (implRoundDiv_yes _ _ _ _ h1 h2 rfl).mono ?_; rintro e w2 ⟨rfl, nq, rfl⟩)
          | (go_at_call 14; refine (specRoundDiv_yes _ _ _ _ h1 h2 rfl).mono ?_; rintro e w2 ⟨rfl, rfl⟩))
        all_goals (go_ret; refine ⟨ret_bool ?_, by (repeat (first | (with_reducible exact Below.refl _ _) | (with_reducible assumption) | (with_reducible refine ext_alloc ?_ _) | (with_reducible refine ext_drew ?_) | (with_reducible refine ext_drewN ?_ _) | (with_reducible refine ext_set ?_ (by first | exact Nat.le_refl _ | (simp; done) | (simp; omega) | omega) _) | (with_reducible refine ext_trans ?_ (by assumption))))⟩)
        all_goals simp
      · go_wp2_with (first
          | (go_at_call 13; refine (implRoundDiv_yes _ _ _ _ h1 h2 rfl).mono ?_; rintro e w2 ⟨rfl, nq, rfl⟩)
          | (go_at_call 14; refine (specRoundDiv_yes _ _ _ _ h1 h2 rfl).mono ?_; rintro e w2 ⟨rfl, rfl⟩))
        all_goals (go_ret; refine ⟨ret_bool ?_, by (repeat (first | (with_reducible exact Below.refl _ _) | (with_reducible assumption) | (with_reducible refine ext_alloc ?_ _) | (with_reducible refine ext_drew ?_) | (with_reducible refine ext_drewN ?_ _) | (with_reducible refine ext_set ?_ (by first | exact Nat.le_refl _ | (simp; done) | (simp; omega) | omega) _) | (with_reducible refine ext_trans ?_ (by assumption))))⟩)
        all_goals simp
    · have h' : rdOk a b m = false := by simpa using h
      clear h
      go_wp2_with (first
        | (go_at_call 13; refine (implRoundDiv_no _ _ _ _ h').mono ?_; rintro e w2 ⟨rfl, rfl⟩)
        | (go_at_call 14; refine (specRoundDiv_no _ _ _ _ h').mono ?_; rintro e w2 ⟨rfl, rfl⟩))
      go_ret
      exact ⟨rfl, by (repeat (first | (with_reducible exact Below.refl _ _) | (with_reducible assumption) | (with_reducible refine ext_alloc ?_ _) | (with_reducible refine ext_drew ?_) | (with_reducible refine ext_drewN ?_ _) | (with_reducible refine ext_set ?_ (by first | exact Nat.le_refl _ | (simp; done) | (simp; omega) | omega) _) | (with_reducible refine ext_trans ?_ (by assumption))))⟩

set_option maxRecDepth 100000 in
theorem lifted (os : Os) (started : os.Started) (H : Type) (enc : TypeId × Value → H) :
    ReturnsInHanded {} Try.checked os 3 .any (Rows.fnRoundingSpec.pre6 enc Try.prog Try.f3 Rows.fnRoundingRow.domain false) (Rows.fnRoundingSpec.post enc Try.prog Try.f3 false true false false) := by
  refine returnsInHanded_of_change (C := Try.checked) own started (by kernel_rfl) Try.func3
    (ChangeSpec.witness6 (enc := enc) (C := Try.checked) false ⟨#[], #[.slice none 0 0], []⟩ 8 (by kernel_rfl) (by kernel_rfl) (by kernel_rfl) (by kernel_rfl)) ?_
  intro W base args ds gs before hval0 hW hcnd _
  have hval : ∀ (j : Nat) t v, Try.f3.params[j]? = some t → args[j]? = some v → Value.okWide Try.prog W .any base t v := hval0
  have hW' := hW
  obtain ⟨p, q, hA0, hV, rfl, hfz, hnd⟩ := hW
  have hA : DataW.TrodAll enc Try.prog W 0 (fun _ => true) true Try.f3.params.toList args.toList ds p := hA0
  rw [Try.params3] at hA hval
  obtain ⟨v0, vs0, d0, ds0, p0, q0, hargs, rfl, rfl, h0, r0⟩ := trodAll_cons hA
  obtain ⟨rfl, rfl, rfl⟩ := trodAll_nil r0
  obtain rfl : args = #[v0] := by cases args; simp_all
  obtain ⟨rfl, rfl⟩ := trodVars_none hV
  have k0 := h0
  have hlt0 : ∀ x ∈ p0, x.block < W.heap.size := fun x hx => hW'.lt x (by simp [hx])
  obtain ⟨n0, b0⟩ := open_code Try.underlying22 Try.underlying5 cells5 (hval 0 22 v0 rfl rfl) h0
  clear hA0 hval0
  refine (walk v0 n0 W b0).mono fun e W' ⟨he, hg⟩ => ?_
  subst he
  exact ⟨_, rfl, post_ext hg (pv := []) hW' (fun _ _ _ => (trodAll_cons_mk (shut_bool Try.underlying4 _) trodAll_mk0)) (fun sp hsp => (trodAll_cons_mk (WideElems.Trod_stays laidOut (by kernel_rfl) (of_decide_eq_true (by kernel_rfl)) k0 (fun x hx => hg.same (hlt0 x hx)) (fun x hx => hsp x (by simp [hx]))) trodAll_mk0)) (fun _ _ => rfl) rfl
    (ok_one (by kernel_rfl) rfl (okWide_bool_mk Try.underlying4 _))⟩

theorem over : Rows.fnRoundingRow.holds Try.pinned (OpenSpec.ofChange Rows.fnRoundingSpec) :=
  OpenClaim.holds_of_wide 3 Try.f3 rfl rfl rfl rfl rfl rfl rfl ⟨rfl, rfl, rfl, rfl, rfl⟩ rfl rfl rfl rfl rfl (by kernel_rfl) Try.func3 (by kernel_rfl)
    (of_decide_eq_true (by kernel_rfl)) (by unfold Func.isWrapper; first | (rw [if_pos (by decide +kernel)]; kernel_rfl) | (rw [if_neg (by decide +kernel)]; exact ⟨rfl, rfl⟩))
    (fun os started H enc _ => lifted os started H enc)

theorem proved : Rows.FnRoundingSaid :=
  over
end Go.Proofs.Ytocoolafnciniaa.fnRounding
