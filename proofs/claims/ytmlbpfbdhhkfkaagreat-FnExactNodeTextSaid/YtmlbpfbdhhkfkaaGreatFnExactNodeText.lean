/-
The law FnExactNodeText answers true at every input of its type and leaves its arguments as they were; no condition.
-/
import Derived.Test.YtmlbpfbdhhkfkaaGreatRows
import Derived.Test.YtmlbpfbdhhkfkaaGreatTxt9
import Derived.Test.YtmlbpfbdhhkfkaaGreatOpenW
import Derived.WalkKit
import Derived.ProofKit
import Derived.OpenShut
import Derived.Carry
import Derived.WideKeyArgs
import Derived.Lib.SmallJoins
namespace Go.Proofs.YtmlbpfbdhhkfkaaGreat.fnExactNodeText
open Go.ChangeShapes Go.WideShapes Go.ChangeAt Go.RowKit Go.Joins
set_option linter.unusedVariables false
set_option linter.unusedSimpArgs false
theorem own : ownKnob Tryz.prog.godebug = none := by kernel_rfl
theorem laidOut : laidOutB Tryz.prog = true := by kernel_rfl
theorem cells32 : Tryz.prog.cellsOf 32 = 5 := by kernel_rfl
set_option maxRecDepth 100000 in
set_option maxHeartbeats 8000000 in
theorem walk (f0 : Nat → Value) (bk0 : BlkD) (a1 : Int) (w1 : (Lit.int .i64 a1).wf = true) (w : World) (h0 : BlkF w w.heap.size f0 bk0) :
  Calls Tryz.prog 5 #[.agg #[f0 0, f0 1, f0 2, f0 3, f0 4], .int .i64 a1] w fun e w' => e = .returned (.bool true) ∧ Below w.heap.size w w' := by
 have H0 := Lib.hid h0
 clear h0
 go_enter Tryz.func5, Tryz.ntmps5
 go_wp2_with fail
 (go_at_call 11; refine (szBlk_any f0 bk0 _ _ (H0.out.up eX) (by omega) (by omega)).mono ?_; rintro e w1 ⟨⟨r, rfl, hr0, hr1, hr⟩, hb⟩; have ⟨hc, hf⟩ := bcell hb; have hz := hb.size; (try simp at hz); (try have hz := Nat.lt_of_succ_le hz); (try have y0 := wy w w1); (try have z0 := wz0 w w1); (try have z1 := wz1 w w1); (try have z2 := wz2 w w1); (try have z3 := wz3 w w1); (try have z4 := wz4 w w1))
 by_cases hneg : r < 0
 ·go_wp2
  go_ret
  exact ⟨rfl, eX⟩
 ·have hm := hr (by omega)
  clear hr
  go_wp2_with fail
  (go_at_call 13; refine (toBlk_any f0 bk0 _ (H0.out.up eX) hm).mono ?_; rintro e w2 ⟨au0, au1, au2, au3, au4, rfl, ah, hb⟩; have ⟨hc, hf⟩ := bcell hb; have hz := hb.size; (try simp at hz); (try have hz := Nat.lt_of_succ_le hz); (try have y0 := wy w w2); (try have z0 := wz0 w w2); (try have z1 := wz1 w w2); (try have z2 := wz2 w w2); (try have z3 := wz3 w w2); (try have z4 := wz4 w w2))
  obtain ⟨ap0, aq0, rfl⟩ := ah.1.slice; obtain ⟨ap1, aq1, rfl⟩ := ah.2.1.1.slice; obtain ⟨ap2, aq2, rfl⟩ := ah.2.1.2.1.slice; obtain ⟨ap3, aq3, rfl⟩ := ah.2.1.2.2.slice; obtain ⟨ap4, aq4, rfl⟩ := ah.2.2.slice
  have aU := Lib.hid (show BlkF w2 w2.heap.size (vec [.slice ap0 bk0.lib.length aq0, .slice ap1 bk0.des.insts.length aq1, .slice ap2 bk0.des.nets.length aq2, .slice ap3 bk0.des.ports.length aq3, .slice ap4 bk0.wires.length aq4]) bk0 from (OwnBlk.out ah))
  clear ah
  go_wp2_with fail
  (go_at_call 22; refine (specNodeText_any (vec [.slice ap0 bk0.lib.length aq0, .slice ap1 bk0.des.insts.length aq1, .slice ap2 bk0.des.nets.length aq2, .slice ap3 bk0.des.ports.length aq3, .slice ap4 bk0.wires.length aq4]) bk0 a1 _ (aU.out.up eX)).mono ?_; rintro e w3 ⟨rfl, hb⟩; have ⟨hc, hf⟩ := bcell hb; have hz := hb.size; (try simp at hz); (try have hz := Nat.lt_of_succ_le hz); (try have y0 := wy w w3); (try have z0 := wz0 w w3); (try have z1 := wz1 w w3); (try have z2 := wz2 w w3); (try have z3 := wz3 w w3); (try have z4 := wz4 w w3))
  go_wp2_with fail
  (go_at_call 13; refine (toBlk_any f0 bk0 _ (H0.out.up eX) hm).mono ?_; rintro e w4 ⟨bu0, bu1, bu2, bu3, bu4, rfl, bh, hb⟩; have ⟨hc, hf⟩ := bcell hb; have hz := hb.size; (try simp at hz); (try have hz := Nat.lt_of_succ_le hz); (try have y0 := wy w w4); (try have z0 := wz0 w w4); (try have z1 := wz1 w w4); (try have z2 := wz2 w w4); (try have z3 := wz3 w w4); (try have z4 := wz4 w w4))
  obtain ⟨bp0, bq0, rfl⟩ := bh.1.slice; obtain ⟨bp1, bq1, rfl⟩ := bh.2.1.1.slice; obtain ⟨bp2, bq2, rfl⟩ := bh.2.1.2.1.slice; obtain ⟨bp3, bq3, rfl⟩ := bh.2.1.2.2.slice; obtain ⟨bp4, bq4, rfl⟩ := bh.2.2.slice
  have bU := Lib.hid (show BlkF w4 w4.heap.size (vec [.slice bp0 bk0.lib.length bq0, .slice bp1 bk0.des.insts.length bq1, .slice bp2 bk0.des.nets.length bq2, .slice bp3 bk0.des.ports.length bq3, .slice bp4 bk0.wires.length bq4]) bk0 from (OwnBlk.out bh))
  clear bh
  go_wp2_with fail
  (go_at_call 23; refine (implNodeText_any (vec [.slice bp0 bk0.lib.length bq0, .slice bp1 bk0.des.insts.length bq1, .slice bp2 bk0.des.nets.length bq2, .slice bp3 bk0.des.ports.length bq3, .slice bp4 bk0.wires.length bq4]) bk0 a1 _ (bU.out.up eX)).mono ?_; rintro e w5 ⟨rfl, hb⟩; have ⟨hc, hf⟩ := bcell hb; have hz := hb.size; (try simp at hz); (try have hz := Nat.lt_of_succ_le hz); (try have y0 := wy w w5); (try have z0 := wz0 w w5); (try have z1 := wz1 w w5); (try have z2 := wz2 w w5); (try have z3 := wz3 w w5); (try have z4 := wz4 w w5))
  go_upto_region 10 with fail
  have cc0 : w5.cell? ⟨w.heap.size, 0, none⟩ = some (f0 0) := cell_keep (w0 := w.alloc (Obj.cells #[f0 0, f0 1, f0 2, f0 3, f0 4] 32)) (by simp [go_sem]) eX
  have cc1 : w5.cell? ⟨w.heap.size, 1, none⟩ = some (f0 1) := cell_keep (w0 := w.alloc (Obj.cells #[f0 0, f0 1, f0 2, f0 3, f0 4] 32)) (by simp [go_sem]) eX
  have cc2 : w5.cell? ⟨w.heap.size, 2, none⟩ = some (f0 2) := cell_keep (w0 := w.alloc (Obj.cells #[f0 0, f0 1, f0 2, f0 3, f0 4] 32)) (by simp [go_sem]) eX
  have cc3 : w5.cell? ⟨w.heap.size, 3, none⟩ = some (f0 3) := cell_keep (w0 := w.alloc (Obj.cells #[f0 0, f0 1, f0 2, f0 3, f0 4] 32)) (by simp [go_sem]) eX
  have cc4 : w5.cell? ⟨w.heap.size, 4, none⟩ = some (f0 4) := cell_keep (w0 := w.alloc (Obj.cells #[f0 0, f0 1, f0 2, f0 3, f0 4] 32)) (by simp [go_sem]) eX
  have cc5 : w5.cell? ⟨w4.heap.size, 0, none⟩ = some (.slice bp0 bk0.lib.length bq0) := cell_keep (w0 := w4.alloc (Obj.cells #[.slice bp0 bk0.lib.length bq0, .slice bp1 bk0.des.insts.length bq1, .slice bp2 bk0.des.nets.length bq2, .slice bp3 bk0.des.ports.length bq3, .slice bp4 bk0.wires.length bq4] 46)) (by simp [go_sem]) eX
  have cc6 : w5.cell? ⟨w4.heap.size, 1, none⟩ = some (.slice bp1 bk0.des.insts.length bq1) := cell_keep (w0 := w4.alloc (Obj.cells #[.slice bp0 bk0.lib.length bq0, .slice bp1 bk0.des.insts.length bq1, .slice bp2 bk0.des.nets.length bq2, .slice bp3 bk0.des.ports.length bq3, .slice bp4 bk0.wires.length bq4] 46)) (by simp [go_sem]) eX
  have cc7 : w5.cell? ⟨w4.heap.size, 2, none⟩ = some (.slice bp2 bk0.des.nets.length bq2) := cell_keep (w0 := w4.alloc (Obj.cells #[.slice bp0 bk0.lib.length bq0, .slice bp1 bk0.des.insts.length bq1, .slice bp2 bk0.des.nets.length bq2, .slice bp3 bk0.des.ports.length bq3, .slice bp4 bk0.wires.length bq4] 46)) (by simp [go_sem]) eX
  have cc8 : w5.cell? ⟨w4.heap.size, 3, none⟩ = some (.slice bp3 bk0.des.ports.length bq3) := cell_keep (w0 := w4.alloc (Obj.cells #[.slice bp0 bk0.lib.length bq0, .slice bp1 bk0.des.insts.length bq1, .slice bp2 bk0.des.nets.length bq2, .slice bp3 bk0.des.ports.length bq3, .slice bp4 bk0.wires.length bq4] 46)) (by simp [go_sem]) eX
  have cc9 : w5.cell? ⟨w4.heap.size, 4, none⟩ = some (.slice bp4 bk0.wires.length bq4) := cell_keep (w0 := w4.alloc (Obj.cells #[.slice bp0 bk0.lib.length bq0, .slice bp1 bk0.des.insts.length bq1, .slice bp2 bk0.des.nets.length bq2, .slice bp3 bk0.des.ports.length bq3, .slice bp4 bk0.wires.length bq4] 46)) (by simp [go_sem]) eX
  have bU5 := Lib.hid (bU.out.up eX : BlkF w5 _ _ _)
  have B5 : Below w.heap.size w w5 := eX
  go_region_held3 (fun w' => w'.cell? ⟨w.heap.size, 0, none⟩ = some (f0 0) ∧ w'.cell? ⟨w.heap.size, 1, none⟩ = some (f0 1) ∧ w'.cell? ⟨w.heap.size, 2, none⟩ = some (f0 2) ∧ w'.cell? ⟨w.heap.size, 3, none⟩ = some (f0 3) ∧ w'.cell? ⟨w.heap.size, 4, none⟩ = some (f0 4) ∧ w'.cell? ⟨w4.heap.size, 0, none⟩ = some (.slice bp0 bk0.lib.length bq0) ∧ w'.cell? ⟨w4.heap.size, 1, none⟩ = some (.slice bp1 bk0.des.insts.length bq1) ∧ w'.cell? ⟨w4.heap.size, 2, none⟩ = some (.slice bp2 bk0.des.nets.length bq2) ∧ w'.cell? ⟨w4.heap.size, 3, none⟩ = some (.slice bp3 bk0.des.ports.length bq3) ∧ w'.cell? ⟨w4.heap.size, 4, none⟩ = some (.slice bp4 bk0.wires.length bq4) ∧ Below w.heap.size w w' ∧ w4.heap.size < w'.heap.size) (first | exact (Hid.out (by assumption)) | exact keep10 (Hid.out (by assumption)) ((Below.refl _ _).alloc (Nat.le_refl _) _) | exact keep10s (keep10s (Hid.out (by assumption))) | exact keep10s (Hid.out (by assumption)) | ((repeat' apply And.intro) <;> first | assumption | ((exact eX); done) | (simp [go_sem]; done) | (simp [go_sem, *]; done) | (simp; omega) | omega)) (first | ((go_at_call 13; refine (toBlk_any f0 bk0 _ (H0.out.up eX) hm).mono ?_; rintro e w6 ⟨du0, du1, du2, du3, du4, rfl, dh, hb⟩; have ⟨hc, hf⟩ := bcell hb; have hz := hb.size; (try simp at hz); (try have hz := Nat.lt_of_succ_le hz); (try have y0 := wy w w6); (try have z0 := wz0 w w6); (try have z1 := wz1 w w6); (try have z2 := wz2 w w6); (try have z3 := wz3 w w6); (try have z4 := wz4 w w6)); obtain ⟨dp0, dq0, rfl⟩ := dh.1.slice; obtain ⟨dp1, dq1, rfl⟩ := dh.2.1.1.slice; obtain ⟨dp2, dq2, rfl⟩ := dh.2.1.2.1.slice; obtain ⟨dp3, dq3, rfl⟩ := dh.2.1.2.2.slice; obtain ⟨dp4, dq4, rfl⟩ := dh.2.2.slice; have dU := Lib.hid (show BlkF w6 w6.heap.size (vec [.slice dp0 bk0.lib.length dq0, .slice dp1 bk0.des.insts.length dq1, .slice dp2 bk0.des.nets.length dq2, .slice dp3 bk0.des.ports.length dq3, .slice dp4 bk0.wires.length dq4]) bk0 from (OwnBlk.out dh)); clear dh; have hS := Lib.hid (keep10 (by assumption) hb); have zL := (Hid.out hS).2.2.2.2.2.2.2.2.2.2.2) | ((go_at_call 16; refine (eqBlk_same (vec [.slice bp0 bk0.lib.length bq0, .slice bp1 bk0.des.insts.length bq1, .slice bp2 bk0.des.nets.length bq2, .slice bp3 bk0.des.ports.length bq3, .slice bp4 bk0.wires.length bq4]) (vec [.slice dp0 bk0.lib.length dq0, .slice dp1 bk0.des.insts.length dq1, .slice dp2 bk0.des.nets.length dq2, .slice dp3 bk0.des.ports.length dq3, .slice dp4 bk0.wires.length dq4]) bk0 _ (bU5.out.up eX) (dU.out.up eX)).mono ?_; rintro e w7 ⟨rfl, hb⟩; have ⟨hc, hf⟩ := bcell hb; have hz := hb.size; (try simp at hz); (try have hz := Nat.lt_of_succ_le hz); (try have y0 := wy w w7); (try have z0 := wz0 w w7); (try have z1 := wz1 w w7); (try have z2 := wz2 w w7); (try have z3 := wz3 w w7); (try have z4 := wz4 w w7)); have hS := Lib.hid (keep10 (by assumption) hb); have zL := (Hid.out hS).2.2.2.2.2.2.2.2.2.2.2))
  all_goals (go_wp2_with fail; go_ret; exact ⟨rfl, eX⟩)
set_option maxRecDepth 100000 in
theorem lifted (os : Os) (started : os.Started) (H : Type) (enc : TypeId × Value → H) :
  ReturnsInHanded {} Tryz.checked os 5 .any (Rows.fnExactNodeTextSpec.pre6 enc Tryz.prog Tryz.f5 Rows.fnExactNodeTextRow.domain false) (Rows.fnExactNodeTextSpec.post enc Tryz.prog Tryz.f5 false true false false) := by
 refine returnsInHanded_of_change (C := Tryz.checked) own started (by kernel_rfl) Tryz.func5
  (ChangeSpec.witness6 (enc := enc) (C := Tryz.checked) false ⟨#[], #[.agg #[.slice none 0 0, .slice none 0 0, .slice none 0 0, .slice none 0 0, .slice none 0 0], .int .i64 0], []⟩ 8 (by kernel_rfl) (by kernel_rfl) (by kernel_rfl) (by kernel_rfl)) ?_
 intro W base args ds gs before hval0 hW hcnd _
 have hval : ∀ (j : Nat) t v, Tryz.f5.params[j]? = some t → args[j]? = some v → Value.okWide Tryz.prog W .any base t v := hval0
 have hW' := hW
 obtain ⟨p, q, hA0, hV, rfl, hfz, hnd⟩ := hW
 have hA : DataW.TrodAll enc Tryz.prog W 0 (fun _ => true) true Tryz.f5.params.toList args.toList ds p := hA0
 rw [Tryz.params5] at hA hval
 obtain ⟨v0, vs0, d0, ds0, p0, q0, hargs, rfl, rfl, h0, r0⟩ := trodAll_cons hA
 obtain ⟨v1, vs1, d1, ds1, p1, q1, rfl, rfl, rfl, h1, r1⟩ := trodAll_cons r0
 obtain ⟨rfl, rfl, rfl⟩ := trodAll_nil r1
 obtain rfl : args = #[v0, v1] := by cases args; simp_all
 obtain ⟨rfl, rfl⟩ := trodVars_none hV
 have k0 := h0
 have hlt0 : ∀ x ∈ p0, x.block < W.heap.size := fun x hx => hW'.lt x (by first | (simp [hx]; done) | (simp at hx; done) | (simpa using hx))
 have k1 := h1
 have hlt1 : ∀ x ∈ p1, x.block < W.heap.size := fun x hx => hW'.lt x (by first | (simp [hx]; done) | (simp at hx; done) | (simpa using hx))
 obtain ⟨f0, bk0, rfl, b0⟩ := Tryz.openBlock (hval 0 32 v0 rfl rfl) h0
 obtain ⟨a1, rfl, rfl, rfl, w1⟩ := open_int Tryz.underlying2 (hval 1 2 v1 rfl rfl) h1
 clear hA0 hval0
 refine (walk f0 bk0 a1 w1 W b0).mono fun e W' ⟨he, hg⟩ => ?_
 subst he
 exact ⟨_, rfl, post_ext hg (pv := []) hW' (fun _ _ _ => (trodAll_cons_mk (shut_bool Tryz.underlying4 _) trodAll_mk0)) (fun sp hsp => (trodAll_cons_mk (WideElems.Trod_stays laidOut (by kernel_rfl) (of_decide_eq_true (by kernel_rfl)) k0 (fun x hx => hg.same (hlt0 x hx)) (fun x hx => hsp x (by first | (simp [hx]; done) | (simp at hx; done) | (simpa using hx)))) (trodAll_cons_mk (WideElems.Trod_stays laidOut (by kernel_rfl) (of_decide_eq_true (by kernel_rfl)) k1 (fun x hx => hg.same (hlt1 x hx)) (fun x hx => hsp x (by first | (simp [hx]; done) | (simp at hx; done) | (simpa using hx)))) trodAll_mk0))) (fun _ _ => rfl) rfl
  (ok_one (by kernel_rfl) rfl (okWide_bool_mk Tryz.underlying4 _))⟩
set_option maxHeartbeats 8000000 in
/-- The row's closed facts, each by itself (all at once they outgrow the kernel's memory at a program of some hundred functions). -/
theorem closed : joinedFacts Tryz.pinned.checked.prog 5 Tryz.f5 Rows.fnExactNodeTextSpec Rows.fnExactNodeTextRow = true := by
 unfold joinedFacts
 simp only [Bool.and_eq_true]
 repeat' apply And.intro
 all_goals (as_aux_lemma => kernel_rfl)
theorem over : Rows.fnExactNodeTextRow.holds Tryz.pinned (OpenSpec.ofChange Rows.fnExactNodeTextSpec) :=
 OpenClaim.holds_of_wide 5 Tryz.f5 rfl rfl rfl rfl rfl rfl rfl ⟨rfl, rfl, rfl, rfl, rfl⟩ rfl rfl rfl rfl rfl (by kernel_rfl) Tryz.func5 closed
  (of_decide_eq_true (by kernel_rfl)) (by unfold Func.isWrapper; first | (rw [if_pos (by decide +kernel)]; kernel_rfl) | (rw [if_neg (by decide +kernel)]; exact ⟨rfl, rfl⟩))
  (fun os started H enc _ => lifted os started H enc)
theorem proved : Rows.FnExactNodeTextSaid :=
 over
end Go.Proofs.YtmlbpfbdhhkfkaaGreat.fnExactNodeText
