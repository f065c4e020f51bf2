/-
The law FnExactPortNamed answers true at every input of its type and leaves its arguments as they were; no condition.
-/
import Derived.Test.YtejomclnagakoaaRows
import Derived.Test.YtejomclnagakoaaNamed6
import Derived.Test.YtejomclnagakoaaOpenD
import Derived.WalkKit
import Derived.ProofKit
import Derived.OpenShut
import Derived.Carry
import Derived.WideKeyArgs
import Derived.Lib.SmallJoins
namespace Go.Proofs.Ytejomclnagakoaa.fnExactPortNamed
open Go.ChangeShapes Go.WideShapes Go.ChangeAt Go.RowKit Go.Joins
set_option linter.unusedVariables false
set_option linter.unusedSimpArgs false

theorem own : ownKnob Try.prog.godebug = none := by kernel_rfl
theorem laidOut : laidOutB Try.prog = true := by kernel_rfl
theorem cells26 : Try.prog.cellsOf 26 = 3 := by kernel_rfl
set_option maxRecDepth 100000 in
set_option maxHeartbeats 8000000 in
theorem walk (f0 : Nat → Value) (d0 : DesD) (s1 : ByteArray) (hs1 : s1.size ≤ 9223372036854775807) (w : World) (h0 : DesF w w.heap.size f0 d0) :
    Calls Try.prog 5 #[.agg #[f0 0, f0 1, f0 2], .string s1] w fun e w' => e = .returned (.bool true) ∧ Below w.heap.size w w' := by
  have H0 := Lib.hid h0
  clear h0
  by_cases hlong : 1048576 < s1.size
  · have hl : (1048576 : Int) < (s1.size : Int) := by omega
    go_enter Try.func5, Try.ntmps5
    go_wp2
    go_ret
    exact ⟨rfl, by (repeat (with_reducible first | exact eR _ _ | assumption | refine eA ?_ _ | refine eD ?_ | refine eN ?_ _ | refine eS ?_ _ | refine eT ?_ (by assumption)))⟩
  · have hl : ¬ (1048576 : Int) < (s1.size : Int) := by omega
    go_enter Try.func5, Try.ntmps5
    go_wp2_with fail
    (go_at_call 8; refine (szDes_any f0 d0 _ _ (H0.out.up (by (repeat (with_reducible first | exact eR _ _ | assumption | refine eA ?_ _ | refine eD ?_ | refine eN ?_ _ | refine eS ?_ _ | refine eT ?_ (by assumption))))) (by omega) (by omega)).mono ?_; rintro e w1 ⟨⟨r, rfl, hr0, hr1, hr⟩, hb⟩; obtain ⟨hc, hf⟩ := bcell hb; have hz := hb.size; (try simp at hz); (try (have hz := Nat.lt_of_succ_le hz)); (try (have y0 : w.heap.size ≤ w1.heap.size := by omega)); (try (have z0 : w.heap.size < w1.heap.size := by omega)); (try (have z1 : w.heap.size + 1 < w1.heap.size := by omega)); (try (have z2 : w.heap.size + 1 + 1 < w1.heap.size := by omega)); (try (have z3 : w.heap.size + 1 + 1 + 1 < w1.heap.size := by omega)); (try (have z4 : w.heap.size + 1 + 1 + 1 + 1 < w1.heap.size := by omega)))
    by_cases hneg : r < 0
    · go_wp2
      go_ret
      exact ⟨rfl, by (repeat (with_reducible first | exact eR _ _ | assumption | refine eA ?_ _ | refine eD ?_ | refine eN ?_ _ | refine eS ?_ _ | refine eT ?_ (by assumption)))⟩
    · have hm := hr (by omega)
      clear hr
      go_wp2_with fail
      (go_at_call 10; refine (toDes_any f0 d0 _ (H0.out.up (by (repeat (with_reducible first | exact eR _ _ | assumption | refine eA ?_ _ | refine eD ?_ | refine eN ?_ _ | refine eS ?_ _ | refine eT ?_ (by assumption))))) hm).mono ?_; rintro e w2 ⟨au0, au1, au2, rfl, ah, hb⟩; obtain ⟨hc, hf⟩ := bcell hb; have hz := hb.size; (try simp at hz); (try (have hz := Nat.lt_of_succ_le hz)); (try (have y0 : w.heap.size ≤ w2.heap.size := by omega)); (try (have z0 : w.heap.size < w2.heap.size := by omega)); (try (have z1 : w.heap.size + 1 < w2.heap.size := by omega)); (try (have z2 : w.heap.size + 1 + 1 < w2.heap.size := by omega)); (try (have z3 : w.heap.size + 1 + 1 + 1 < w2.heap.size := by omega)); (try (have z4 : w.heap.size + 1 + 1 + 1 + 1 < w2.heap.size := by omega)))
      obtain ⟨ap0, aq0, rfl⟩ := ah.1.slice; obtain ⟨ap1, aq1, rfl⟩ := ah.2.1.slice; obtain ⟨ap2, aq2, rfl⟩ := ah.2.2.slice
      have aU := Lib.hid (show DesF w2 w2.heap.size (vec [.slice ap0 d0.insts.length aq0, .slice ap1 d0.nets.length aq1, .slice ap2 d0.ports.length aq2]) d0 from ⟨ah.1.out, ah.2.1.out, ah.2.2.out⟩)
      clear ah
      go_wp2_with fail
      (go_at_call 15; refine (specPortNamed_any (vec [.slice ap0 d0.insts.length aq0, .slice ap1 d0.nets.length aq1, .slice ap2 d0.ports.length aq2]) d0 s1 _ (aU.out.up (by (repeat (with_reducible first | exact eR _ _ | assumption | refine eA ?_ _ | refine eD ?_ | refine eN ?_ _ | refine eS ?_ _ | refine eT ?_ (by assumption)))))).mono ?_; rintro e w3 ⟨rfl, hb⟩; obtain ⟨hc, hf⟩ := bcell hb; have hz := hb.size; (try simp at hz); (try (have hz := Nat.lt_of_succ_le hz)); (try (have y0 : w.heap.size ≤ w3.heap.size := by omega)); (try (have z0 : w.heap.size < w3.heap.size := by omega)); (try (have z1 : w.heap.size + 1 < w3.heap.size := by omega)); (try (have z2 : w.heap.size + 1 + 1 < w3.heap.size := by omega)); (try (have z3 : w.heap.size + 1 + 1 + 1 < w3.heap.size := by omega)); (try (have z4 : w.heap.size + 1 + 1 + 1 + 1 < w3.heap.size := by omega)))
      go_wp2_with fail
      (go_at_call 10; refine (toDes_any f0 d0 _ (H0.out.up (by (repeat (with_reducible first | exact eR _ _ | assumption | refine eA ?_ _ | refine eD ?_ | refine eN ?_ _ | refine eS ?_ _ | refine eT ?_ (by assumption))))) hm).mono ?_; rintro e w4 ⟨bu0, bu1, bu2, rfl, bh, hb⟩; obtain ⟨hc, hf⟩ := bcell hb; have hz := hb.size; (try simp at hz); (try (have hz := Nat.lt_of_succ_le hz)); (try (have y0 : w.heap.size ≤ w4.heap.size := by omega)); (try (have z0 : w.heap.size < w4.heap.size := by omega)); (try (have z1 : w.heap.size + 1 < w4.heap.size := by omega)); (try (have z2 : w.heap.size + 1 + 1 < w4.heap.size := by omega)); (try (have z3 : w.heap.size + 1 + 1 + 1 < w4.heap.size := by omega)); (try (have z4 : w.heap.size + 1 + 1 + 1 + 1 < w4.heap.size := by omega)))
      obtain ⟨bp0, bq0, rfl⟩ := bh.1.slice; obtain ⟨bp1, bq1, rfl⟩ := bh.2.1.slice; obtain ⟨bp2, bq2, rfl⟩ := bh.2.2.slice
      have bU := Lib.hid (show DesF w4 w4.heap.size (vec [.slice bp0 d0.insts.length bq0, .slice bp1 d0.nets.length bq1, .slice bp2 d0.ports.length bq2]) d0 from ⟨bh.1.out, bh.2.1.out, bh.2.2.out⟩)
      clear bh
      go_wp2_with fail
      (go_at_call 16; refine (implPortNamed_any (vec [.slice bp0 d0.insts.length bq0, .slice bp1 d0.nets.length bq1, .slice bp2 d0.ports.length bq2]) d0 s1 _ (bU.out.up (by (repeat (with_reducible first | exact eR _ _ | assumption | refine eA ?_ _ | refine eD ?_ | refine eN ?_ _ | refine eS ?_ _ | refine eT ?_ (by assumption)))))).mono ?_; rintro e w5 ⟨rfl, hb⟩; obtain ⟨hc, hf⟩ := bcell hb; have hz := hb.size; (try simp at hz); (try (have hz := Nat.lt_of_succ_le hz)); (try (have y0 : w.heap.size ≤ w5.heap.size := by omega)); (try (have z0 : w.heap.size < w5.heap.size := by omega)); (try (have z1 : w.heap.size + 1 < w5.heap.size := by omega)); (try (have z2 : w.heap.size + 1 + 1 < w5.heap.size := by omega)); (try (have z3 : w.heap.size + 1 + 1 + 1 < w5.heap.size := by omega)); (try (have z4 : w.heap.size + 1 + 1 + 1 + 1 < w5.heap.size := by omega)))
      go_upto_region 12 with fail
      have cc0 : w5.cell? ⟨w.heap.size, 0, none⟩ = some (f0 0) := cell_keep (w0 := w.alloc (Obj.cells #[f0 0, f0 1, f0 2] 26)) (by simp [go_sem]) (by (repeat (with_reducible first | exact eR _ _ | assumption | refine eA ?_ _ | refine eD ?_ | refine eN ?_ _ | refine eS ?_ _ | refine eT ?_ (by assumption))))
      have cc1 : w5.cell? ⟨w.heap.size, 1, none⟩ = some (f0 1) := cell_keep (w0 := w.alloc (Obj.cells #[f0 0, f0 1, f0 2] 26)) (by simp [go_sem]) (by (repeat (with_reducible first | exact eR _ _ | assumption | refine eA ?_ _ | refine eD ?_ | refine eN ?_ _ | refine eS ?_ _ | refine eT ?_ (by assumption))))
      have cc2 : w5.cell? ⟨w.heap.size, 2, none⟩ = some (f0 2) := cell_keep (w0 := w.alloc (Obj.cells #[f0 0, f0 1, f0 2] 26)) (by simp [go_sem]) (by (repeat (with_reducible first | exact eR _ _ | assumption | refine eA ?_ _ | refine eD ?_ | refine eN ?_ _ | refine eS ?_ _ | refine eT ?_ (by assumption))))
      have cc3 : w5.cell? ⟨w4.heap.size, 0, none⟩ = some (.slice bp0 d0.insts.length bq0) := cell_keep (w0 := w4.alloc (Obj.cells #[.slice bp0 d0.insts.length bq0, .slice bp1 d0.nets.length bq1, .slice bp2 d0.ports.length bq2] 32)) (by simp [go_sem]) (by (repeat (with_reducible first | exact eR _ _ | assumption | refine eA ?_ _ | refine eD ?_ | refine eN ?_ _ | refine eS ?_ _ | refine eT ?_ (by assumption))))
      have cc4 : w5.cell? ⟨w4.heap.size, 1, none⟩ = some (.slice bp1 d0.nets.length bq1) := cell_keep (w0 := w4.alloc (Obj.cells #[.slice bp0 d0.insts.length bq0, .slice bp1 d0.nets.length bq1, .slice bp2 d0.ports.length bq2] 32)) (by simp [go_sem]) (by (repeat (with_reducible first | exact eR _ _ | assumption | refine eA ?_ _ | refine eD ?_ | refine eN ?_ _ | refine eS ?_ _ | refine eT ?_ (by assumption))))
      have cc5 : w5.cell? ⟨w4.heap.size, 2, none⟩ = some (.slice bp2 d0.ports.length bq2) := cell_keep (w0 := w4.alloc (Obj.cells #[.slice bp0 d0.insts.length bq0, .slice bp1 d0.nets.length bq1, .slice bp2 d0.ports.length bq2] 32)) (by simp [go_sem]) (by (repeat (with_reducible first | exact eR _ _ | assumption | refine eA ?_ _ | refine eD ?_ | refine eN ?_ _ | refine eS ?_ _ | refine eT ?_ (by assumption))))
      have bU5 := Lib.hid (bU.out.up (by (repeat (with_reducible first | exact eR _ _ | assumption | refine eA ?_ _ | refine eD ?_ | refine eN ?_ _ | refine eS ?_ _ | refine eT ?_ (by assumption)))) : DesF w5 _ _ _)
      have B5 : Below w.heap.size w w5 := by (repeat (with_reducible first | exact eR _ _ | assumption | refine eA ?_ _ | refine eD ?_ | refine eN ?_ _ | refine eS ?_ _ | refine eT ?_ (by assumption)))
      go_region_held3 (fun w' => w'.cell? ⟨w.heap.size, 0, none⟩ = some (f0 0) ∧ w'.cell? ⟨w.heap.size, 1, none⟩ = some (f0 1) ∧ w'.cell? ⟨w.heap.size, 2, none⟩ = some (f0 2) ∧ w'.cell? ⟨w4.heap.size, 0, none⟩ = some (.slice bp0 d0.insts.length bq0) ∧ w'.cell? ⟨w4.heap.size, 1, none⟩ = some (.slice bp1 d0.nets.length bq1) ∧ w'.cell? ⟨w4.heap.size, 2, none⟩ = some (.slice bp2 d0.ports.length bq2) ∧ Below w.heap.size w w' ∧ w4.heap.size < w'.heap.size) (first | exact (Hid.out (by assumption)) | exact keep6 (Hid.out (by assumption)) ((Below.refl _ _).alloc (Nat.le_refl _) _) | exact keep6s (keep6s (Hid.out (by assumption)) (by first | assumption | (simp; done) | (simp; omega) | omega) (by first | assumption | (simp; done) | (simp; omega) | omega) (by first | assumption | (simp; done) | (simp; omega) | omega) (by first | assumption | (simp; done) | (simp; omega) | omega) (by first | assumption | (simp; done) | (simp; omega) | omega) (by first | assumption | (simp; done) | (simp; omega) | omega) (by first | assumption | (simp; done) | (simp; omega) | omega) (by first | assumption | (simp; done) | (simp; omega) | omega)) (by first | assumption | (simp; done) | (simp; omega) | omega) (by first | assumption | (simp; done) | (simp; omega) | omega) (by first | assumption | (simp; done) | (simp; omega) | omega) (by first | assumption | (simp; done) | (simp; omega) | omega) (by first | assumption | (simp; done) | (simp; omega) | omega) (by first | assumption | (simp; done) | (simp; omega) | omega) (by first | assumption | (simp; done) | (simp; omega) | omega) (by first | assumption | (simp; done) | (simp; omega) | omega) | exact keep6s (Hid.out (by assumption)) (by first | assumption | (simp; done) | (simp; omega) | omega) (by first | assumption | (simp; done) | (simp; omega) | omega) (by first | assumption | (simp; done) | (simp; omega) | omega) (by first | assumption | (simp; done) | (simp; omega) | omega) (by first | assumption | (simp; done) | (simp; omega) | omega) (by first | assumption | (simp; done) | (simp; omega) | omega) (by first | assumption | (simp; done) | (simp; omega) | omega) (by first | assumption | (simp; done) | (simp; omega) | omega) | ((repeat' apply And.intro) <;> first | assumption | ((repeat (with_reducible first | exact eR _ _ | assumption | refine eA ?_ _ | refine eD ?_ | refine eN ?_ _ | refine eS ?_ _ | refine eT ?_ (by assumption))); done) | (simp [go_sem]; done) | (simp [go_sem, *]; done) | (simp; omega) | omega)) (first | ((go_at_call 10; refine (toDes_any f0 d0 _ (H0.out.up (by (repeat (with_reducible first | exact eR _ _ | assumption | refine eA ?_ _ | refine eD ?_ | refine eN ?_ _ | refine eS ?_ _ | refine eT ?_ (by assumption))))) hm).mono ?_; rintro e w6 ⟨du0, du1, du2, rfl, dh, hb⟩; obtain ⟨hc, hf⟩ := bcell hb; have hz := hb.size; (try simp at hz); (try (have hz := Nat.lt_of_succ_le hz)); (try (have y0 : w.heap.size ≤ w6.heap.size := by omega)); (try (have z0 : w.heap.size < w6.heap.size := by omega)); (try (have z1 : w.heap.size + 1 < w6.heap.size := by omega)); (try (have z2 : w.heap.size + 1 + 1 < w6.heap.size := by omega)); (try (have z3 : w.heap.size + 1 + 1 + 1 < w6.heap.size := by omega)); (try (have z4 : w.heap.size + 1 + 1 + 1 + 1 < w6.heap.size := by omega))); obtain ⟨dp0, dq0, rfl⟩ := dh.1.slice; obtain ⟨dp1, dq1, rfl⟩ := dh.2.1.slice; obtain ⟨dp2, dq2, rfl⟩ := dh.2.2.slice; have dU := Lib.hid (show DesF w6 w6.heap.size (vec [.slice dp0 d0.insts.length dq0, .slice dp1 d0.nets.length dq1, .slice dp2 d0.ports.length dq2]) d0 from ⟨dh.1.out, dh.2.1.out, dh.2.2.out⟩); clear dh; have hS := Lib.hid (keep6 (by assumption) hb); have zL := (Hid.out hS).2.2.2.2.2.2.2) | ((go_at_call 12; refine (eqDes_same (vec [.slice bp0 d0.insts.length bq0, .slice bp1 d0.nets.length bq1, .slice bp2 d0.ports.length bq2]) (vec [.slice dp0 d0.insts.length dq0, .slice dp1 d0.nets.length dq1, .slice dp2 d0.ports.length dq2]) d0 _ (bU5.out.up (by (repeat (with_reducible first | exact eR _ _ | assumption | refine eA ?_ _ | refine eD ?_ | refine eN ?_ _ | refine eS ?_ _ | refine eT ?_ (by assumption))))) (dU.out.up (by (repeat (with_reducible first | exact eR _ _ | assumption | refine eA ?_ _ | refine eD ?_ | refine eN ?_ _ | refine eS ?_ _ | refine eT ?_ (by assumption)))))).mono ?_; rintro e w7 ⟨rfl, hb⟩; obtain ⟨hc, hf⟩ := bcell hb; have hz := hb.size; (try simp at hz); (try (have hz := Nat.lt_of_succ_le hz)); (try (have y0 : w.heap.size ≤ w7.heap.size := by omega)); (try (have z0 : w.heap.size < w7.heap.size := by omega)); (try (have z1 : w.heap.size + 1 < w7.heap.size := by omega)); (try (have z2 : w.heap.size + 1 + 1 < w7.heap.size := by omega)); (try (have z3 : w.heap.size + 1 + 1 + 1 < w7.heap.size := by omega)); (try (have z4 : w.heap.size + 1 + 1 + 1 + 1 < w7.heap.size := by omega))); have hS := Lib.hid (keep6 (by assumption) hb); have zL := (Hid.out hS).2.2.2.2.2.2.2))
      all_goals (go_wp2_with fail; go_ret; exact ⟨rfl, by (repeat (with_reducible first | exact eR _ _ | assumption | refine eA ?_ _ | refine eD ?_ | refine eN ?_ _ | refine eS ?_ _ | refine eT ?_ (by assumption)))⟩)

set_option maxRecDepth 100000 in
theorem lifted (os : Os) (started : os.Started) (H : Type) (enc : TypeId × Value → H) :
    ReturnsInHanded {} Try.checked os 5 .any (Rows.fnExactPortNamedSpec.pre6 enc Try.prog Try.f5 Rows.fnExactPortNamedRow.domain false) (Rows.fnExactPortNamedSpec.post enc Try.prog Try.f5 false true false false) := by
  refine returnsInHanded_of_change (C := Try.checked) own started (by kernel_rfl) Try.func5
    (ChangeSpec.witness6 (enc := enc) (C := Try.checked) false ⟨#[], #[.agg #[.slice none 0 0, .slice none 0 0, .slice none 0 0], .string .empty], []⟩ 8 (by kernel_rfl) (by kernel_rfl) (by kernel_rfl) (by kernel_rfl)) ?_
  intro W base args ds gs before hval0 hW hcnd _
  have hval : ∀ (j : Nat) t v, Try.f5.params[j]? = some t → args[j]? = some v → Value.okWide Try.prog W .any base t v := hval0
  have hW' := hW
  obtain ⟨p, q, hA0, hV, rfl, hfz, hnd⟩ := hW
  have hA : DataW.TrodAll enc Try.prog W 0 (fun _ => true) true Try.f5.params.toList args.toList ds p := hA0
  rw [Try.params5] at hA hval
  obtain ⟨v0, vs0, d0, ds0, p0, q0, hargs, rfl, rfl, h0, r0⟩ := trodAll_cons hA
  obtain ⟨v1, vs1, d1, ds1, p1, q1, rfl, rfl, rfl, h1, r1⟩ := trodAll_cons r0
  obtain ⟨rfl, rfl, rfl⟩ := trodAll_nil r1
  obtain rfl : args = #[v0, v1] := by cases args; simp_all
  obtain ⟨rfl, rfl⟩ := trodVars_none hV
  have k0 := h0
  have hlt0 : ∀ x ∈ p0, x.block < W.heap.size := fun x hx => hW'.lt x (by first | (simp [hx]; done) | (simp at hx; done) | (simpa using hx))
  have k1 := h1
  have hlt1 : ∀ x ∈ p1, x.block < W.heap.size := fun x hx => hW'.lt x (by first | (simp [hx]; done) | (simp at hx; done) | (simpa using hx))
  obtain ⟨f0, d0, rfl, b0⟩ := Try.openDesign (hval 0 26 v0 rfl rfl) h0
  obtain ⟨s1, rfl, rfl, rfl, g1⟩ := Go.ChangeMaps.open_string Try.underlying9 (hval 1 9 v1 rfl rfl) h1
  clear hA0 hval0
  refine (walk f0 d0 s1 (by unfold maxLen at g1; omega) W b0).mono fun e W' ⟨he, hg⟩ => ?_
  subst he
  exact ⟨_, rfl, post_ext hg (pv := []) hW' (fun _ _ _ => (trodAll_cons_mk (shut_bool Try.underlying4 _) trodAll_mk0)) (fun sp hsp => (trodAll_cons_mk (WideElems.Trod_stays laidOut (by kernel_rfl) (of_decide_eq_true (by kernel_rfl)) k0 (fun x hx => hg.same (hlt0 x hx)) (fun x hx => hsp x (by first | (simp [hx]; done) | (simp at hx; done) | (simpa using hx)))) (trodAll_cons_mk (WideElems.Trod_stays laidOut (by kernel_rfl) (of_decide_eq_true (by kernel_rfl)) k1 (fun x hx => hg.same (hlt1 x hx)) (fun x hx => hsp x (by first | (simp [hx]; done) | (simp at hx; done) | (simpa using hx)))) trodAll_mk0))) (fun _ _ => rfl) rfl
    (ok_one (by kernel_rfl) rfl (okWide_bool_mk Try.underlying4 _))⟩

theorem over : Rows.fnExactPortNamedRow.holds Try.pinned (OpenSpec.ofChange Rows.fnExactPortNamedSpec) :=
  OpenClaim.holds_of_wide 5 Try.f5 rfl rfl rfl rfl rfl rfl rfl ⟨rfl, rfl, rfl, rfl, rfl⟩ rfl rfl rfl rfl rfl (by kernel_rfl) Try.func5 (by kernel_rfl)
    (of_decide_eq_true (by kernel_rfl)) (by unfold Func.isWrapper; first | (rw [if_pos (by decide +kernel)]; kernel_rfl) | (rw [if_neg (by decide +kernel)]; exact ⟨rfl, rfl⟩))
    (fun os started H enc _ => lifted os started H enc)

theorem proved : Rows.FnExactPortNamedSaid :=
  over
end Go.Proofs.Ytejomclnagakoaa.fnExactPortNamed
