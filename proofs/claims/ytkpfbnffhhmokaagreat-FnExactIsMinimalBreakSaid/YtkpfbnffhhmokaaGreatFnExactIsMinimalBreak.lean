/-
The law FnExactIsMinimalBreak answers true at every input of its type and leaves its arguments as they were; no condition.
-/
import Derived.Test.YtkpfbnffhhmokaaGreatRows
import Derived.Test.YtkpfbnffhhmokaaGreatMinI
import Derived.Test.YtkpfbnffhhmokaaGreatOpenW
import Derived.Test.YtkpfbnffhhmokaaGreatSzW
import Derived.Test.YtkpfbnffhhmokaaGreatMark
import Derived.WalkKit
import Derived.ProofKit
import Derived.OpenShut
import Derived.Carry
import Derived.WideKeyArgs
import Derived.Lib.SmallJoins
namespace Go.Proofs.YtkpfbnffhhmokaaGreat.fnExactIsMinimalBreak
open Go.ChangeShapes Go.WideShapes Go.ChangeAt Go.RowKit Go.Joins
set_option linter.unusedVariables false
set_option linter.unusedSimpArgs false
theorem own : ownKnob Tryz.prog.godebug = none := by kernel_rfl
theorem laidOut : laidOutB Tryz.prog = true := by kernel_rfl
theorem cells32 : Tryz.prog.cellsOf 32 = 5 := by kernel_rfl
set_option maxRecDepth 100000 in
set_option maxHeartbeats 16000000 in
theorem walk (f0 : Nat → Value) (bk0 : BlkD) (v1 : Value) (xs1 : List Int) (w : World) (h0 : BlkF w w.heap.size f0 bk0) (h1 : IntS w w.heap.size v1 xs1) :
  Calls Tryz.prog 8 #[.agg #[f0 0, f0 1, f0 2, f0 3, f0 4], v1] w fun e w' => e = .returned (.bool true) ∧ Below w.heap.size w w' := by
 have H0 := lh h0
 have H1 := lh h1
 have hln := h1.1
 obtain ⟨va1, vc1, rfl⟩ := h1.slice
 clear h0 h1
 by_cases hlong : 1048576 < xs1.length
 ·have hl : (1048576 : Int) < (xs1.length : Int) := by omega
  go_enter Tryz.func8, Tryz.ntmps8
  go_wp2
  go_ret
  exact ⟨rfl, eX⟩
 have hl : ¬ (1048576 : Int) < (xs1.length : Int) := by omega
 obtain ⟨bb, hbb⟩ : ∃ bb, bb = minB bk0 xs1 := ⟨_, rfl⟩
 obtain ⟨cd, hcd⟩ : ∃ cd, cd = grCode bk0 xs1 := ⟨_, rfl⟩
 have HSP := lh (fun (f : Nat → Value) (w1 : World) (h : BlkF w1 w1.heap.size f bk0) (vb : Nat) (hu : IntS w1 w1.heap.size (.slice (some ⟨vb, 0, none⟩) xs1.length xs1.length) xs1) => (show Calls Tryz.prog 27 #[.agg #[f 0, f 1, f 2, f 3, f 4], .slice (some ⟨vb, 0, none⟩) xs1.length xs1.length] w1 (fun e w' => e = .returned (.tuple #[.bool bb, .int .i64 cd]) ∧ Below w1.heap.size w1 w') by rw [hbb, hcd]; exact specIsMinimalBreak_any f bk0 vb xs1 w1 h hu (by omega)))
 have HIM := lh (fun (f : Nat → Value) (w1 : World) (h : BlkF w1 w1.heap.size f bk0) (vb : Nat) (hu : IntS w1 w1.heap.size (.slice (some ⟨vb, 0, none⟩) xs1.length xs1.length) xs1) => (show Calls Tryz.prog 28 #[.agg #[f 0, f 1, f 2, f 3, f 4], .slice (some ⟨vb, 0, none⟩) xs1.length xs1.length] w1 (fun e w' => e = .returned (.tuple #[.bool bb, .int .i64 cd]) ∧ Below w1.heap.size w1 w') by rw [hbb, hcd]; exact implIsMinimalBreak_any f bk0 vb xs1 w1 h hu (by omega)))
 clear hbb hcd
 go_enter Tryz.func8, Tryz.ntmps8
 go_wp2_with fail
 (go_at_call 9; refine (szBlk_w f0 bk0 _ _ (H0.out.up eX) (by omega) (by omega)).mono ?_; rintro e w1 ⟨⟨r, rfl, hr0, hr1, hr⟩, hb⟩; have ⟨hc, hf⟩ := bcell hb; have hz := hb.size; (try simp at hz); (try have hz := Nat.lt_of_succ_le hz); (try have y0 := wy w w1); (try have z0 := wz0 w w1); (try have z1 := wz1 w w1); (try have z2 := wz2 w w1); (try have z3 := wz3 w w1); (try have z4 := wz4 w w1))
 by_cases hneg : r < 0
 ·go_wp2
  go_ret
  exact ⟨rfl, eX⟩
 have ⟨hm, hwl⟩ := hr (by omega)
 clear hr
 go_wp2_with fail
 (go_at_call 11; refine (toBlk_any f0 bk0 _ (H0.out.up eX) hm).mono ?_; rintro e w2 ⟨au0, au1, au2, au3, au4, rfl, ah, hb⟩; have ⟨hc, hf⟩ := bcell hb; have hz := hb.size; (try simp at hz); (try have hz := Nat.lt_of_succ_le hz); (try have y0 := wy w w2); (try have z0 := wz0 w w2); (try have z1 := wz1 w w2); (try have z2 := wz2 w w2); (try have z3 := wz3 w w2); (try have z4 := wz4 w w2))
 obtain ⟨ap0, aq0, rfl⟩ := ah.1.slice; obtain ⟨ap1, aq1, rfl⟩ := ah.2.1.1.slice; obtain ⟨ap2, aq2, rfl⟩ := ah.2.1.2.1.slice; obtain ⟨ap3, aq3, rfl⟩ := ah.2.1.2.2.slice; obtain ⟨ap4, aq4, rfl⟩ := ah.2.2.slice
 have aU := lh (show BlkF w2 w2.heap.size (vec [.slice ap0 bk0.lib.length aq0, .slice ap1 bk0.des.insts.length aq1, .slice ap2 bk0.des.nets.length aq2, .slice ap3 bk0.des.ports.length aq3, .slice ap4 bk0.wires.length aq4]) bk0 from (OwnBlk.out ah))
 clear ah
 go_wp2_with fail
 (go_at_call 12; refine (toInt64S_full _ xs1 _ (H1.out.up eX) (by omega)).mono ?_; rintro e w2b ⟨aIb, rfl, aIh, hb⟩; have ⟨hc, hf⟩ := bcell hb; have hz := hb.size; (try simp at hz); (try have hz := Nat.lt_of_succ_le hz); (try have y0 := wy w w2b); (try have z0 := wz0 w w2b); (try have z1 := wz1 w w2b); (try have z2 := wz2 w w2b); (try have z3 := wz3 w w2b); (try have z4 := wz4 w w2b))
 have aJ := lh aIh.ints
 clear aIh
 go_wp2_with fail
 (go_at_call 27; refine (HSP.out (vec [.slice ap0 bk0.lib.length aq0, .slice ap1 bk0.des.insts.length aq1, .slice ap2 bk0.des.nets.length aq2, .slice ap3 bk0.des.ports.length aq3, .slice ap4 bk0.wires.length aq4]) _ (aU.out.up eX) _ (aJ.out)).mono ?_; rintro e w3 ⟨rfl, hb⟩; obtain ⟨hc, hf⟩ := bcell hb; have hz := hb.size; (try simp at hz); (try (have hz := Nat.lt_of_succ_le hz)); (try have y0 := wy w w3); (try have z0 := wz0 w w3); (try have z1 := wz1 w w3))
 go_wp2_with fail
 (go_at_call 11; refine (toBlk_any f0 bk0 _ (H0.out.up eX) hm).mono ?_; rintro e w4 ⟨bu0, bu1, bu2, bu3, bu4, rfl, bh, hb⟩; have ⟨hc, hf⟩ := bcell hb; have hz := hb.size; (try simp at hz); (try have hz := Nat.lt_of_succ_le hz); (try have y0 := wy w w4); (try have z0 := wz0 w w4); (try have z1 := wz1 w w4); (try have z2 := wz2 w w4); (try have z3 := wz3 w w4); (try have z4 := wz4 w w4))
 obtain ⟨bp0, bq0, rfl⟩ := bh.1.slice; obtain ⟨bp1, bq1, rfl⟩ := bh.2.1.1.slice; obtain ⟨bp2, bq2, rfl⟩ := bh.2.1.2.1.slice; obtain ⟨bp3, bq3, rfl⟩ := bh.2.1.2.2.slice; obtain ⟨bp4, bq4, rfl⟩ := bh.2.2.slice
 have bU := lh (show BlkF w4 w4.heap.size (vec [.slice bp0 bk0.lib.length bq0, .slice bp1 bk0.des.insts.length bq1, .slice bp2 bk0.des.nets.length bq2, .slice bp3 bk0.des.ports.length bq3, .slice bp4 bk0.wires.length bq4]) bk0 from (OwnBlk.out bh))
 clear bh
 go_wp2_with fail
 (go_at_call 12; refine (toInt64S_full _ xs1 _ (H1.out.up eX) (by omega)).mono ?_; rintro e w4b ⟨xb, rfl, xh, hb⟩; have ⟨hc, hf⟩ := bcell hb; have hz := hb.size; (try simp at hz); (try have hz := Nat.lt_of_succ_le hz); (try have y0 := wy w w4b); (try have z0 := wz0 w w4b); (try have z1 := wz1 w w4b); (try have z2 := wz2 w w4b); (try have z3 := wz3 w w4b); (try have z4 := wz4 w w4b))
 have X4 := lh (OwnS.mono (C := w4.heap.size + 1) xh (by simp))
 have L4b : w4.heap.size < w4b.heap.size := by have := hb.size; simp at this; omega
 clear xh
 go_wp2_with fail
 (go_at_call 28; refine (HIM.out (vec [.slice bp0 bk0.lib.length bq0, .slice bp1 bk0.des.insts.length bq1, .slice bp2 bk0.des.nets.length bq2, .slice bp3 bk0.des.ports.length bq3, .slice bp4 bk0.wires.length bq4]) _ (bU.out.up eX) _ (X4.out.ints)).mono ?_; rintro e w6 ⟨rfl, hb⟩; obtain ⟨hc, hf⟩ := bcell hb; have hz := hb.size; (try simp at hz); (try (have hz := Nat.lt_of_succ_le hz)); (try have y0 := wy w w6); (try have z0 := wz0 w w6); (try have z1 := wz1 w w6))
 have dd0 : w6.cell? ⟨w.heap.size, 0, none⟩ = some (f0 0) := cell_keep (w0 := w.alloc (Obj.cells #[f0 0, f0 1, f0 2, f0 3, f0 4] 32)) (by simp [go_sem]) eX
 have dd1 : w6.cell? ⟨w.heap.size, 1, none⟩ = some (f0 1) := cell_keep (w0 := w.alloc (Obj.cells #[f0 0, f0 1, f0 2, f0 3, f0 4] 32)) (by simp [go_sem]) eX
 have dd2 : w6.cell? ⟨w.heap.size, 2, none⟩ = some (f0 2) := cell_keep (w0 := w.alloc (Obj.cells #[f0 0, f0 1, f0 2, f0 3, f0 4] 32)) (by simp [go_sem]) eX
 have dd3 : w6.cell? ⟨w.heap.size, 3, none⟩ = some (f0 3) := cell_keep (w0 := w.alloc (Obj.cells #[f0 0, f0 1, f0 2, f0 3, f0 4] 32)) (by simp [go_sem]) eX
 have dd4 : w6.cell? ⟨w.heap.size, 4, none⟩ = some (f0 4) := cell_keep (w0 := w.alloc (Obj.cells #[f0 0, f0 1, f0 2, f0 3, f0 4] 32)) (by simp [go_sem]) eX
 have ee0 : w6.cell? ⟨w4.heap.size, 0, none⟩ = some (.slice bp0 bk0.lib.length bq0) := cell_keep (w0 := w4.alloc (Obj.cells #[.slice bp0 bk0.lib.length bq0, .slice bp1 bk0.des.insts.length bq1, .slice bp2 bk0.des.nets.length bq2, .slice bp3 bk0.des.ports.length bq3, .slice bp4 bk0.wires.length bq4] 46)) (by simp [go_sem]) eX
 have ee1 : w6.cell? ⟨w4.heap.size, 1, none⟩ = some (.slice bp1 bk0.des.insts.length bq1) := cell_keep (w0 := w4.alloc (Obj.cells #[.slice bp0 bk0.lib.length bq0, .slice bp1 bk0.des.insts.length bq1, .slice bp2 bk0.des.nets.length bq2, .slice bp3 bk0.des.ports.length bq3, .slice bp4 bk0.wires.length bq4] 46)) (by simp [go_sem]) eX
 have ee2 : w6.cell? ⟨w4.heap.size, 2, none⟩ = some (.slice bp2 bk0.des.nets.length bq2) := cell_keep (w0 := w4.alloc (Obj.cells #[.slice bp0 bk0.lib.length bq0, .slice bp1 bk0.des.insts.length bq1, .slice bp2 bk0.des.nets.length bq2, .slice bp3 bk0.des.ports.length bq3, .slice bp4 bk0.wires.length bq4] 46)) (by simp [go_sem]) eX
 have ee3 : w6.cell? ⟨w4.heap.size, 3, none⟩ = some (.slice bp3 bk0.des.ports.length bq3) := cell_keep (w0 := w4.alloc (Obj.cells #[.slice bp0 bk0.lib.length bq0, .slice bp1 bk0.des.insts.length bq1, .slice bp2 bk0.des.nets.length bq2, .slice bp3 bk0.des.ports.length bq3, .slice bp4 bk0.wires.length bq4] 46)) (by simp [go_sem]) eX
 have ee4 : w6.cell? ⟨w4.heap.size, 4, none⟩ = some (.slice bp4 bk0.wires.length bq4) := cell_keep (w0 := w4.alloc (Obj.cells #[.slice bp0 bk0.lib.length bq0, .slice bp1 bk0.des.insts.length bq1, .slice bp2 bk0.des.nets.length bq2, .slice bp3 bk0.des.ports.length bq3, .slice bp4 bk0.wires.length bq4] 46)) (by simp [go_sem]) eX
 have bU6 := lh (bU.out.up eX : BlkF w6 _ _ _)
 have X6 := lh (X4.out.keep eX : OwnS w6 _ _ _)
 have L4 : w4.heap.size < w6.heap.size := cell_lt ee0
 have B6 : Below w.heap.size w w6 := eX
 clear bU X4
 go_upto_region 13 with fail
 clear hc hf
 go_region_held3 (fun w' => w'.cell? ⟨w.heap.size, 0, none⟩ = some (f0 0) ∧ w'.cell? ⟨w.heap.size, 1, none⟩ = some (f0 1) ∧ w'.cell? ⟨w.heap.size, 2, none⟩ = some (f0 2) ∧ w'.cell? ⟨w.heap.size, 3, none⟩ = some (f0 3) ∧ w'.cell? ⟨w.heap.size, 4, none⟩ = some (f0 4) ∧ w'.cell? ⟨w4.heap.size, 0, none⟩ = some (.slice bp0 bk0.lib.length bq0) ∧ w'.cell? ⟨w4.heap.size, 1, none⟩ = some (.slice bp1 bk0.des.insts.length bq1) ∧ w'.cell? ⟨w4.heap.size, 2, none⟩ = some (.slice bp2 bk0.des.nets.length bq2) ∧ w'.cell? ⟨w4.heap.size, 3, none⟩ = some (.slice bp3 bk0.des.ports.length bq3) ∧ w'.cell? ⟨w4.heap.size, 4, none⟩ = some (.slice bp4 bk0.wires.length bq4) ∧ Below w.heap.size w w' ∧ w4.heap.size < w'.heap.size) (first | exact (Hid.out (by assumption)) | exact keep10 (Hid.out (by assumption)) ((Below.refl _ _).alloc (Nat.le_refl _) _) | exact keep10s (keep10s (Hid.out (by assumption))) | exact keep10s (Hid.out (by assumption)) | ((repeat' apply And.intro) <;> first | assumption | ((exact eX); done) | (simp [go_sem]; done) | (simp [go_sem, *]; done) | (simp; omega) | omega)) (first | ((go_at_call 11; refine (toBlk_any f0 bk0 _ (H0.out.up eX) hm).mono ?_; rintro e w7 ⟨du0, du1, du2, du3, du4, rfl, dh, hb⟩; have hz := hb.size; (try simp at hz)); obtain ⟨dp0, dq0, rfl⟩ := dh.1.slice; obtain ⟨dp1, dq1, rfl⟩ := dh.2.1.1.slice; obtain ⟨dp2, dq2, rfl⟩ := dh.2.1.2.1.slice; obtain ⟨dp3, dq3, rfl⟩ := dh.2.1.2.2.slice; obtain ⟨dp4, dq4, rfl⟩ := dh.2.2.slice; have dU := lh (show BlkF w7 w7.heap.size (vec [.slice dp0 bk0.lib.length dq0, .slice dp1 bk0.des.insts.length dq1, .slice dp2 bk0.des.nets.length dq2, .slice dp3 bk0.des.ports.length dq3, .slice dp4 bk0.wires.length dq4]) bk0 from (OwnBlk.out dh)); clear dh; have hS := lh (keep10 (by assumption) hb); have zL := (Hid.out hS).2.2.2.2.2.2.2.2.2.2.2) | ((go_at_call 15; refine (eqBlk_same (vec [.slice bp0 bk0.lib.length bq0, .slice bp1 bk0.des.insts.length bq1, .slice bp2 bk0.des.nets.length bq2, .slice bp3 bk0.des.ports.length bq3, .slice bp4 bk0.wires.length bq4]) (vec [.slice dp0 bk0.lib.length dq0, .slice dp1 bk0.des.insts.length dq1, .slice dp2 bk0.des.nets.length dq2, .slice dp3 bk0.des.ports.length dq3, .slice dp4 bk0.wires.length dq4]) bk0 _ (bU6.out.up eX) (dU.out.up eX)).mono ?_; rintro e w8 ⟨rfl, hb⟩; have hz := hb.size; (try simp at hz)); have hS := lh (keep10 (by assumption) hb); have zL := (Hid.out hS).2.2.2.2.2.2.2.2.2.2.2))
 all_goals
  have P8 := lh (show Below w6.heap.size w6 w8 by exact eX)
  obtain ⟨q0, q1, q2, q3, q4, q5, q6, q7, q8, q9, B8, _⟩ := hS.out
  have X8 := lh (X6.out.keep P8.out : OwnS w8 _ _ _)
  have B8 := lh B8
  clear hS dU
  go_upto_region 15 with fail
  go_wp2_with fail
  (go_at_call 12; refine (toInt64S_any _ xs1 _ (H1.out.up B8.out) (by omega)).mono ?_; rintro e w8b ⟨yu, rfl, yh, hbe1⟩)
  obtain ⟨yp, yq, rfl⟩ := yh.slice
  have yJ := lh yh.ints
  clear yh
  go_wp2_with fail
  (go_at_call 14; refine (eqInt64S_same _ _ xs1 _ (X8.out.keep hbe1).ints yJ.out).mono ?_; rintro e w8c ⟨rfl, hbe2⟩)
  have B9 := B8.out.trans ((ext_trans hbe1 hbe2).mono B8.out.size)
  go_wp2_with fail
  go_ret
  exact ⟨rfl, B9⟩
set_option maxRecDepth 100000 in
theorem lifted (os : Os) (started : os.Started) (H : Type) (enc : TypeId × Value → H) :
  ReturnsInHanded {} Tryz.checked os 8 .any (Rows.fnExactIsMinimalBreakSpec.pre6 enc Tryz.prog Tryz.f8 Rows.fnExactIsMinimalBreakRow.domain false) (Rows.fnExactIsMinimalBreakSpec.post enc Tryz.prog Tryz.f8 false true false false) := by
 refine returnsInHanded_of_change (C := Tryz.checked) own started (by kernel_rfl) Tryz.func8
  (ChangeSpec.witness6 (enc := enc) (C := Tryz.checked) false ⟨#[], #[.agg #[.slice none 0 0, .slice none 0 0, .slice none 0 0, .slice none 0 0, .slice none 0 0], .slice none 0 0], []⟩ 8 (by kernel_rfl) (by kernel_rfl) (by kernel_rfl) (by kernel_rfl)) ?_
 intro W base args ds gs before hval0 hW hcnd _
 have hval : ∀ (j : Nat) t v, Tryz.f8.params[j]? = some t → args[j]? = some v → Value.okWide Tryz.prog W .any base t v := hval0
 have hW' := hW
 obtain ⟨p, q, hA0, hV, rfl, hfz, hnd⟩ := hW
 have hA : DataW.TrodAll enc Tryz.prog W 0 (fun _ => true) true Tryz.f8.params.toList args.toList ds p := hA0
 rw [Tryz.params8] at hA hval
 obtain ⟨v0, vs0, d0, ds0, p0, q0, hargs, rfl, rfl, h0, r0⟩ := trodAll_cons hA
 obtain ⟨v1, vs1, d1, ds1, p1, q1, rfl, rfl, rfl, h1, r1⟩ := trodAll_cons r0
 obtain ⟨rfl, rfl, rfl⟩ := trodAll_nil r1
 obtain rfl : args = #[v0, v1] := by cases args; simp_all
 obtain ⟨rfl, rfl⟩ := trodVars_none hV
 have k0 := h0
 have hlt0 : ∀ x ∈ p0, x.block < W.heap.size := fun x hx => hW'.lt x (by first | (simp [hx]; done) | (simp at hx; done) | (simpa using hx))
 have k1 := h1
 have hlt1 : ∀ x ∈ p1, x.block < W.heap.size := fun x hx => hW'.lt x (by first | (simp [hx]; done) | (simp at hx; done) | (simpa using hx))
 obtain ⟨f0, bk0, rfl, b0⟩ := Tryz.openBlock (hval 0 32 v0 rfl rfl) h0
 obtain ⟨xs1, b1⟩ := open_ints_top Tryz.underlying33 Tryz.underlying2 (by kernel_rfl) (hval 1 33 v1 rfl rfl) h1
 clear hA0 hval0
 refine (walk f0 bk0 v1 xs1 W b0 b1).mono fun e W' ⟨he, hg⟩ => ?_
 subst he
 exact ⟨_, rfl, post_ext hg (pv := []) hW' (fun _ _ _ => (trodAll_cons_mk (shut_bool Tryz.underlying4 _) trodAll_mk0)) (fun sp hsp => (trodAll_cons_mk (WideElems.Trod_stays laidOut (by kernel_rfl) (of_decide_eq_true (by kernel_rfl)) k0 (fun x hx => hg.same (hlt0 x hx)) (fun x hx => hsp x (by first | (simp [hx]; done) | (simp at hx; done) | (simpa using hx)))) (trodAll_cons_mk (WideElems.Trod_stays laidOut (by kernel_rfl) (of_decide_eq_true (by kernel_rfl)) k1 (fun x hx => hg.same (hlt1 x hx)) (fun x hx => hsp x (by first | (simp [hx]; done) | (simp at hx; done) | (simpa using hx)))) trodAll_mk0))) (fun _ _ => rfl) rfl
  (ok_one (by kernel_rfl) rfl (okWide_bool_mk Tryz.underlying4 _))⟩
set_option maxHeartbeats 8000000 in
/-- The row's closed facts, each by itself (all at once they outgrow the kernel's memory at a program of some hundred functions). -/
theorem closed : joinedFacts Tryz.pinned.checked.prog 8 Tryz.f8 Rows.fnExactIsMinimalBreakSpec Rows.fnExactIsMinimalBreakRow = true := by
 unfold joinedFacts
 simp only [Bool.and_eq_true]
 repeat' apply And.intro
 all_goals (as_aux_lemma => kernel_rfl)
theorem over : Rows.fnExactIsMinimalBreakRow.holds Tryz.pinned (OpenSpec.ofChange Rows.fnExactIsMinimalBreakSpec) :=
 OpenClaim.holds_of_wide 8 Tryz.f8 rfl rfl rfl rfl rfl rfl rfl ⟨rfl, rfl, rfl, rfl, rfl⟩ rfl rfl rfl rfl rfl (by kernel_rfl) Tryz.func8 closed
  (of_decide_eq_true (by kernel_rfl)) (by unfold Func.isWrapper; first | (rw [if_pos (by decide +kernel)]; kernel_rfl) | (rw [if_neg (by decide +kernel)]; exact ⟨rfl, rfl⟩))
  (fun os started H enc _ => lifted os started H enc)
theorem proved : Rows.FnExactIsMinimalBreakSaid :=
 over
end Go.Proofs.YtkpfbnffhhmokaaGreat.fnExactIsMinimalBreak
