/-
The law FnExactSinkSlew answers true at every input of its type and leaves its arguments as they were; no condition.
-/
import Derived.Test.YtodgpjolkfkcpaaGreatRows
import Derived.Test.YtodgpjolkfkcpaaGreatNodeX
import Derived.WalkKit
import Derived.ProofKit
import Derived.OpenShut
import Derived.Carry
import Derived.WideKeyArgs
import Derived.Lib.SmallJoins
namespace Go.Proofs.YtodgpjolkfkcpaaGreat.fnExactSinkSlew
open Go.ChangeShapes Go.WideShapes Go.ChangeAt Go.RowKit Go.Joins
set_option linter.unusedVariables false
set_option linter.unusedSimpArgs false
theorem own : ownKnob Tryz.prog.godebug = none := by kernel_rfl
theorem laidOut : laidOutB Tryz.prog = true := by kernel_rfl
theorem cells32 : Tryz.prog.cellsOf 32 = 5 := by kernel_rfl
set_option maxRecDepth 100000 in
set_option maxHeartbeats 8000000 in
theorem walk (f0 : Nat → Value) (bk0 : BlkD) (a1 : Int) (w1 : (Lit.int .i64 a1).wf = true) (a2 : Int) (w2 : (Lit.int .i64 a2).wf = true) (a3 : Int) (w3 : (Lit.int .i64 a3).wf = true) (a4 : Int) (w4 : (Lit.int .i64 a4).wf = true) (w : World) (h0 : BlkF w w.heap.size f0 bk0) :
    Calls Tryz.prog 7 #[.agg #[f0 0, f0 1, f0 2, f0 3, f0 4], .int .i64 a1, .int .i64 a2, .int .i64 a3, .int .i64 a4] w fun e w' => e = .returned (.bool true) ∧ Below w.heap.size w w' := by
  have H0 := Lib.hid h0
  clear h0
  go_enter Tryz.func7, Tryz.ntmps7
  go_wp2_with fail
  (go_at_call 8; refine (szBlk_any f0 bk0 _ _ (H0.out.up eX) (by omega) (by omega)).mono ?_; rintro e w1 ⟨⟨r, rfl, hr0, hr1, hr⟩, hb⟩; obtain ⟨hc, hf⟩ := bcell hb; have hz := hb.size; (try simp at hz); (try (have hz := Nat.lt_of_succ_le hz)); (try (have y0 : w.heap.size ≤ w1.heap.size := by omega)); (try (have z0 : w.heap.size < w1.heap.size := by omega)); (try (have z1 : w.heap.size + 1 < w1.heap.size := by omega)); (try (have z2 : w.heap.size + 1 + 1 < w1.heap.size := by omega)); (try (have z3 : w.heap.size + 1 + 1 + 1 < w1.heap.size := by omega)); (try (have z4 : w.heap.size + 1 + 1 + 1 + 1 < w1.heap.size := by omega)))
  by_cases hneg : r < 0
  · go_wp2
    go_ret
    exact ⟨rfl, eX⟩
  · have hm := hr (by omega)
    clear hr
    go_wp2_with fail
    (go_at_call 10; refine (toBlk_any f0 bk0 _ (H0.out.up eX) hm).mono ?_; rintro e w2 ⟨au0, au1, au2, au3, au4, rfl, ah, hb⟩; obtain ⟨hc, hf⟩ := bcell hb; have hz := hb.size; (try simp at hz); (try (have hz := Nat.lt_of_succ_le hz)); (try (have y0 : w.heap.size ≤ w2.heap.size := by omega)); (try (have z0 : w.heap.size < w2.heap.size := by omega)); (try (have z1 : w.heap.size + 1 < w2.heap.size := by omega)); (try (have z2 : w.heap.size + 1 + 1 < w2.heap.size := by omega)); (try (have z3 : w.heap.size + 1 + 1 + 1 < w2.heap.size := by omega)); (try (have z4 : w.heap.size + 1 + 1 + 1 + 1 < w2.heap.size := by omega)))
    obtain ⟨ap0, aq0, rfl⟩ := ah.1.slice; obtain ⟨ap1, aq1, rfl⟩ := ah.2.1.1.slice; obtain ⟨ap2, aq2, rfl⟩ := ah.2.1.2.1.slice; obtain ⟨ap3, aq3, rfl⟩ := ah.2.1.2.2.slice; obtain ⟨ap4, aq4, rfl⟩ := ah.2.2.slice
    have aU := Lib.hid (show BlkF w2 w2.heap.size (vec [.slice ap0 bk0.lib.length aq0, .slice ap1 bk0.des.insts.length aq1, .slice ap2 bk0.des.nets.length aq2, .slice ap3 bk0.des.ports.length aq3, .slice ap4 bk0.wires.length aq4]) bk0 from (OwnBlk.out ah))
    clear ah
    go_wp2_with fail
    (go_at_call 23; refine (specSinkSlew_any (vec [.slice ap0 bk0.lib.length aq0, .slice ap1 bk0.des.insts.length aq1, .slice ap2 bk0.des.nets.length aq2, .slice ap3 bk0.des.ports.length aq3, .slice ap4 bk0.wires.length aq4]) bk0 a1 a2 a3 a4 _ (aU.out.up eX)).mono ?_; rintro e w3 ⟨rfl, hb⟩; obtain ⟨hc, hf⟩ := bcell hb; have hz := hb.size; (try simp at hz); (try (have hz := Nat.lt_of_succ_le hz)); (try (have y0 : w.heap.size ≤ w3.heap.size := by omega)); (try (have z0 : w.heap.size < w3.heap.size := by omega)); (try (have z1 : w.heap.size + 1 < w3.heap.size := by omega)); (try (have z2 : w.heap.size + 1 + 1 < w3.heap.size := by omega)); (try (have z3 : w.heap.size + 1 + 1 + 1 < w3.heap.size := by omega)); (try (have z4 : w.heap.size + 1 + 1 + 1 + 1 < w3.heap.size := by omega)))
    go_wp2_with fail
    (go_at_call 10; refine (toBlk_any f0 bk0 _ (H0.out.up eX) hm).mono ?_; rintro e w4 ⟨bu0, bu1, bu2, bu3, bu4, rfl, bh, hb⟩; obtain ⟨hc, hf⟩ := bcell hb; have hz := hb.size; (try simp at hz); (try (have hz := Nat.lt_of_succ_le hz)); (try (have y0 : w.heap.size ≤ w4.heap.size := by omega)); (try (have z0 : w.heap.size < w4.heap.size := by omega)); (try (have z1 : w.heap.size + 1 < w4.heap.size := by omega)); (try (have z2 : w.heap.size + 1 + 1 < w4.heap.size := by omega)); (try (have z3 : w.heap.size + 1 + 1 + 1 < w4.heap.size := by omega)); (try (have z4 : w.heap.size + 1 + 1 + 1 + 1 < w4.heap.size := by omega)))
    obtain ⟨bp0, bq0, rfl⟩ := bh.1.slice; obtain ⟨bp1, bq1, rfl⟩ := bh.2.1.1.slice; obtain ⟨bp2, bq2, rfl⟩ := bh.2.1.2.1.slice; obtain ⟨bp3, bq3, rfl⟩ := bh.2.1.2.2.slice; obtain ⟨bp4, bq4, rfl⟩ := bh.2.2.slice
    have bU := Lib.hid (show BlkF w4 w4.heap.size (vec [.slice bp0 bk0.lib.length bq0, .slice bp1 bk0.des.insts.length bq1, .slice bp2 bk0.des.nets.length bq2, .slice bp3 bk0.des.ports.length bq3, .slice bp4 bk0.wires.length bq4]) bk0 from (OwnBlk.out bh))
    clear bh
    go_wp2_with fail
    (go_at_call 24; refine (implSinkSlew_any (vec [.slice bp0 bk0.lib.length bq0, .slice bp1 bk0.des.insts.length bq1, .slice bp2 bk0.des.nets.length bq2, .slice bp3 bk0.des.ports.length bq3, .slice bp4 bk0.wires.length bq4]) bk0 a1 a2 a3 a4 _ (bU.out.up eX)).mono ?_; rintro e w5 ⟨rfl, hb⟩; obtain ⟨hc, hf⟩ := bcell hb; have hz := hb.size; (try simp at hz); (try (have hz := Nat.lt_of_succ_le hz)); (try (have y0 : w.heap.size ≤ w5.heap.size := by omega)); (try (have z0 : w.heap.size < w5.heap.size := by omega)); (try (have z1 : w.heap.size + 1 < w5.heap.size := by omega)); (try (have z2 : w.heap.size + 1 + 1 < w5.heap.size := by omega)); (try (have z3 : w.heap.size + 1 + 1 + 1 < w5.heap.size := by omega)); (try (have z4 : w.heap.size + 1 + 1 + 1 + 1 < w5.heap.size := by omega)))
    go_upto_region 10 with fail
    have cc0 : w5.cell? ⟨w.heap.size, 0, none⟩ = some (f0 0) := cell_keep (w0 := w.alloc (Obj.cells #[f0 0, f0 1, f0 2, f0 3, f0 4] 32)) (by simp [go_sem]) eX
    have cc1 : w5.cell? ⟨w.heap.size, 1, none⟩ = some (f0 1) := cell_keep (w0 := w.alloc (Obj.cells #[f0 0, f0 1, f0 2, f0 3, f0 4] 32)) (by simp [go_sem]) eX
    have cc2 : w5.cell? ⟨w.heap.size, 2, none⟩ = some (f0 2) := cell_keep (w0 := w.alloc (Obj.cells #[f0 0, f0 1, f0 2, f0 3, f0 4] 32)) (by simp [go_sem]) eX
    have cc3 : w5.cell? ⟨w.heap.size, 3, none⟩ = some (f0 3) := cell_keep (w0 := w.alloc (Obj.cells #[f0 0, f0 1, f0 2, f0 3, f0 4] 32)) (by simp [go_sem]) eX
    have cc4 : w5.cell? ⟨w.heap.size, 4, none⟩ = some (f0 4) := cell_keep (w0 := w.alloc (Obj.cells #[f0 0, f0 1, f0 2, f0 3, f0 4] 32)) (by simp [go_sem]) eX
    have cc5 : w5.cell? ⟨w4.heap.size, 0, none⟩ = some (.slice bp0 bk0.lib.length bq0) := cell_keep (w0 := w4.alloc (Obj.cells #[.slice bp0 bk0.lib.length bq0, .slice bp1 bk0.des.insts.length bq1, .slice bp2 bk0.des.nets.length bq2, .slice bp3 bk0.des.ports.length bq3, .slice bp4 bk0.wires.length bq4] 46)) (by simp [go_sem]) eX
    have cc6 : w5.cell? ⟨w4.heap.size, 1, none⟩ = some (.slice bp1 bk0.des.insts.length bq1) := cell_keep (w0 := w4.alloc (Obj.cells #[.slice bp0 bk0.lib.length bq0, .slice bp1 bk0.des.insts.length bq1, .slice bp2 bk0.des.nets.length bq2, .slice bp3 bk0.des.ports.length bq3, .slice bp4 bk0.wires.length bq4] 46)) (by simp [go_sem]) eX
    have cc7 : w5.cell? ⟨w4.heap.size, 2, none⟩ = some (.slice bp2 bk0.des.nets.length bq2) := cell_keep (w0 := w4.alloc (Obj.cells #[.slice bp0 bk0.lib.length bq0, .slice bp1 bk0.des.insts.length bq1, .slice bp2 bk0.des.nets.length bq2, .slice bp3 bk0.des.ports.length bq3, .slice bp4 bk0.wires.length bq4] 46)) (by simp [go_sem]) eX
    have cc8 : w5.cell? ⟨w4.heap.size, 3, none⟩ = some (.slice bp3 bk0.des.ports.length bq3) := cell_keep (w0 := w4.alloc (Obj.cells #[.slice bp0 bk0.lib.length bq0, .slice bp1 bk0.des.insts.length bq1, .slice bp2 bk0.des.nets.length bq2, .slice bp3 bk0.des.ports.length bq3, .slice bp4 bk0.wires.length bq4] 46)) (by simp [go_sem]) eX
    have cc9 : w5.cell? ⟨w4.heap.size, 4, none⟩ = some (.slice bp4 bk0.wires.length bq4) := cell_keep (w0 := w4.alloc (Obj.cells #[.slice bp0 bk0.lib.length bq0, .slice bp1 bk0.des.insts.length bq1, .slice bp2 bk0.des.nets.length bq2, .slice bp3 bk0.des.ports.length bq3, .slice bp4 bk0.wires.length bq4] 46)) (by simp [go_sem]) eX
    have bU5 := Lib.hid (bU.out.up eX : BlkF w5 _ _ _)
    have B5 : Below w.heap.size w w5 := eX
    go_region_held3 (fun w' => w'.cell? ⟨w.heap.size, 0, none⟩ = some (f0 0) ∧ w'.cell? ⟨w.heap.size, 1, none⟩ = some (f0 1) ∧ w'.cell? ⟨w.heap.size, 2, none⟩ = some (f0 2) ∧ w'.cell? ⟨w.heap.size, 3, none⟩ = some (f0 3) ∧ w'.cell? ⟨w.heap.size, 4, none⟩ = some (f0 4) ∧ w'.cell? ⟨w4.heap.size, 0, none⟩ = some (.slice bp0 bk0.lib.length bq0) ∧ w'.cell? ⟨w4.heap.size, 1, none⟩ = some (.slice bp1 bk0.des.insts.length bq1) ∧ w'.cell? ⟨w4.heap.size, 2, none⟩ = some (.slice bp2 bk0.des.nets.length bq2) ∧ w'.cell? ⟨w4.heap.size, 3, none⟩ = some (.slice bp3 bk0.des.ports.length bq3) ∧ w'.cell? ⟨w4.heap.size, 4, none⟩ = some (.slice bp4 bk0.wires.length bq4) ∧ Below w.heap.size w w' ∧ w4.heap.size < w'.heap.size) (first | exact (Hid.out (by assumption)) | exact keep10 (Hid.out (by assumption)) ((Below.refl _ _).alloc (Nat.le_refl _) _) | exact keep10s (keep10s (Hid.out (by assumption))) | exact keep10s (Hid.out (by assumption)) | ((repeat' apply And.intro) <;> first | assumption | ((exact eX); done) | (simp [go_sem]; done) | (simp [go_sem, *]; done) | (simp; omega) | omega)) (first | ((go_at_call 10; refine (toBlk_any f0 bk0 _ (H0.out.up eX) hm).mono ?_; rintro e w6 ⟨du0, du1, du2, du3, du4, rfl, dh, hb⟩; obtain ⟨hc, hf⟩ := bcell hb; have hz := hb.size; (try simp at hz); (try (have hz := Nat.lt_of_succ_le hz)); (try (have y0 : w.heap.size ≤ w6.heap.size := by omega)); (try (have z0 : w.heap.size < w6.heap.size := by omega)); (try (have z1 : w.heap.size + 1 < w6.heap.size := by omega)); (try (have z2 : w.heap.size + 1 + 1 < w6.heap.size := by omega)); (try (have z3 : w.heap.size + 1 + 1 + 1 < w6.heap.size := by omega)); (try (have z4 : w.heap.size + 1 + 1 + 1 + 1 < w6.heap.size := by omega))); obtain ⟨dp0, dq0, rfl⟩ := dh.1.slice; obtain ⟨dp1, dq1, rfl⟩ := dh.2.1.1.slice; obtain ⟨dp2, dq2, rfl⟩ := dh.2.1.2.1.slice; obtain ⟨dp3, dq3, rfl⟩ := dh.2.1.2.2.slice; obtain ⟨dp4, dq4, rfl⟩ := dh.2.2.slice; have dU := Lib.hid (show BlkF w6 w6.heap.size (vec [.slice dp0 bk0.lib.length dq0, .slice dp1 bk0.des.insts.length dq1, .slice dp2 bk0.des.nets.length dq2, .slice dp3 bk0.des.ports.length dq3, .slice dp4 bk0.wires.length dq4]) bk0 from (OwnBlk.out dh)); clear dh; have hS := Lib.hid (keep10 (by assumption) hb); have zL := (Hid.out hS).2.2.2.2.2.2.2.2.2.2.2) | ((go_at_call 13; refine (eqBlk_same (vec [.slice bp0 bk0.lib.length bq0, .slice bp1 bk0.des.insts.length bq1, .slice bp2 bk0.des.nets.length bq2, .slice bp3 bk0.des.ports.length bq3, .slice bp4 bk0.wires.length bq4]) (vec [.slice dp0 bk0.lib.length dq0, .slice dp1 bk0.des.insts.length dq1, .slice dp2 bk0.des.nets.length dq2, .slice dp3 bk0.des.ports.length dq3, .slice dp4 bk0.wires.length dq4]) bk0 _ (bU5.out.up eX) (dU.out.up eX)).mono ?_; rintro e w7 ⟨rfl, hb⟩; obtain ⟨hc, hf⟩ := bcell hb; have hz := hb.size; (try simp at hz); (try (have hz := Nat.lt_of_succ_le hz)); (try (have y0 : w.heap.size ≤ w7.heap.size := by omega)); (try (have z0 : w.heap.size < w7.heap.size := by omega)); (try (have z1 : w.heap.size + 1 < w7.heap.size := by omega)); (try (have z2 : w.heap.size + 1 + 1 < w7.heap.size := by omega)); (try (have z3 : w.heap.size + 1 + 1 + 1 < w7.heap.size := by omega)); (try (have z4 : w.heap.size + 1 + 1 + 1 + 1 < w7.heap.size := by omega))); have hS := Lib.hid (keep10 (by assumption) hb); have zL := (Hid.out hS).2.2.2.2.2.2.2.2.2.2.2))
    all_goals (go_wp2_with fail; go_ret; exact ⟨rfl, eX⟩)
set_option maxRecDepth 100000 in
theorem lifted (os : Os) (started : os.Started) (H : Type) (enc : TypeId × Value → H) :
    ReturnsInHanded {} Tryz.checked os 7 .any (Rows.fnExactSinkSlewSpec.pre6 enc Tryz.prog Tryz.f7 Rows.fnExactSinkSlewRow.domain false) (Rows.fnExactSinkSlewSpec.post enc Tryz.prog Tryz.f7 false true false false) := by
  refine returnsInHanded_of_change (C := Tryz.checked) own started (by kernel_rfl) Tryz.func7
    (ChangeSpec.witness6 (enc := enc) (C := Tryz.checked) false ⟨#[], #[.agg #[.slice none 0 0, .slice none 0 0, .slice none 0 0, .slice none 0 0, .slice none 0 0], .int .i64 0, .int .i64 0, .int .i64 0, .int .i64 0], []⟩ 8 (by kernel_rfl) (by kernel_rfl) (by kernel_rfl) (by kernel_rfl)) ?_
  intro W base args ds gs before hval0 hW hcnd _
  have hval : ∀ (j : Nat) t v, Tryz.f7.params[j]? = some t → args[j]? = some v → Value.okWide Tryz.prog W .any base t v := hval0
  have hW' := hW
  obtain ⟨p, q, hA0, hV, rfl, hfz, hnd⟩ := hW
  have hA : DataW.TrodAll enc Tryz.prog W 0 (fun _ => true) true Tryz.f7.params.toList args.toList ds p := hA0
  rw [Tryz.params7] at hA hval
  obtain ⟨v0, vs0, d0, ds0, p0, q0, hargs, rfl, rfl, h0, r0⟩ := trodAll_cons hA
  obtain ⟨v1, vs1, d1, ds1, p1, q1, rfl, rfl, rfl, h1, r1⟩ := trodAll_cons r0
  obtain ⟨v2, vs2, d2, ds2, p2, q2, rfl, rfl, rfl, h2, r2⟩ := trodAll_cons r1
  obtain ⟨v3, vs3, d3, ds3, p3, q3, rfl, rfl, rfl, h3, r3⟩ := trodAll_cons r2
  obtain ⟨v4, vs4, d4, ds4, p4, q4, rfl, rfl, rfl, h4, r4⟩ := trodAll_cons r3
  obtain ⟨rfl, rfl, rfl⟩ := trodAll_nil r4
  obtain rfl : args = #[v0, v1, v2, v3, v4] := by cases args; simp_all
  obtain ⟨rfl, rfl⟩ := trodVars_none hV
  have k0 := h0
  have hlt0 : ∀ x ∈ p0, x.block < W.heap.size := fun x hx => hW'.lt x (by first | (simp [hx]; done) | (simp at hx; done) | (simpa using hx))
  have k1 := h1
  have hlt1 : ∀ x ∈ p1, x.block < W.heap.size := fun x hx => hW'.lt x (by first | (simp [hx]; done) | (simp at hx; done) | (simpa using hx))
  have k2 := h2
  have hlt2 : ∀ x ∈ p2, x.block < W.heap.size := fun x hx => hW'.lt x (by first | (simp [hx]; done) | (simp at hx; done) | (simpa using hx))
  have k3 := h3
  have hlt3 : ∀ x ∈ p3, x.block < W.heap.size := fun x hx => hW'.lt x (by first | (simp [hx]; done) | (simp at hx; done) | (simpa using hx))
  have k4 := h4
  have hlt4 : ∀ x ∈ p4, x.block < W.heap.size := fun x hx => hW'.lt x (by first | (simp [hx]; done) | (simp at hx; done) | (simpa using hx))
  obtain ⟨f0, bk0, rfl, b0⟩ := Tryz.openBlock (hval 0 32 v0 rfl rfl) h0
  obtain ⟨a1, rfl, rfl, rfl, w1⟩ := open_int Tryz.underlying2 (hval 1 2 v1 rfl rfl) h1
  obtain ⟨a2, rfl, rfl, rfl, w2⟩ := open_int Tryz.underlying2 (hval 2 2 v2 rfl rfl) h2
  obtain ⟨a3, rfl, rfl, rfl, w3⟩ := open_int Tryz.underlying2 (hval 3 2 v3 rfl rfl) h3
  obtain ⟨a4, rfl, rfl, rfl, w4⟩ := open_int Tryz.underlying2 (hval 4 2 v4 rfl rfl) h4
  clear hA0 hval0
  refine (walk f0 bk0 a1 w1 a2 w2 a3 w3 a4 w4 W b0).mono fun e W' ⟨he, hg⟩ => ?_
  subst he
  exact ⟨_, rfl, post_ext hg (pv := []) hW' (fun _ _ _ => (trodAll_cons_mk (shut_bool Tryz.underlying4 _) trodAll_mk0)) (fun sp hsp => (trodAll_cons_mk (WideElems.Trod_stays laidOut (by kernel_rfl) (of_decide_eq_true (by kernel_rfl)) k0 (fun x hx => hg.same (hlt0 x hx)) (fun x hx => hsp x (by first | (simp [hx]; done) | (simp at hx; done) | (simpa using hx)))) (trodAll_cons_mk (WideElems.Trod_stays laidOut (by kernel_rfl) (of_decide_eq_true (by kernel_rfl)) k1 (fun x hx => hg.same (hlt1 x hx)) (fun x hx => hsp x (by first | (simp [hx]; done) | (simp at hx; done) | (simpa using hx)))) (trodAll_cons_mk (WideElems.Trod_stays laidOut (by kernel_rfl) (of_decide_eq_true (by kernel_rfl)) k2 (fun x hx => hg.same (hlt2 x hx)) (fun x hx => hsp x (by first | (simp [hx]; done) | (simp at hx; done) | (simpa using hx)))) (trodAll_cons_mk (WideElems.Trod_stays laidOut (by kernel_rfl) (of_decide_eq_true (by kernel_rfl)) k3 (fun x hx => hg.same (hlt3 x hx)) (fun x hx => hsp x (by first | (simp [hx]; done) | (simp at hx; done) | (simpa using hx)))) (trodAll_cons_mk (WideElems.Trod_stays laidOut (by kernel_rfl) (of_decide_eq_true (by kernel_rfl)) k4 (fun x hx => hg.same (hlt4 x hx)) (fun x hx => hsp x (by first | (simp [hx]; done) | (simp at hx; done) | (simpa using hx)))) trodAll_mk0)))))) (fun _ _ => rfl) rfl
    (ok_one (by kernel_rfl) rfl (okWide_bool_mk Tryz.underlying4 _))⟩
theorem over : Rows.fnExactSinkSlewRow.holds Tryz.pinned (OpenSpec.ofChange Rows.fnExactSinkSlewSpec) :=
  OpenClaim.holds_of_wide 7 Tryz.f7 rfl rfl rfl rfl rfl rfl rfl ⟨rfl, rfl, rfl, rfl, rfl⟩ rfl rfl rfl rfl rfl (by kernel_rfl) Tryz.func7 (by kernel_rfl)
    (of_decide_eq_true (by kernel_rfl)) (by unfold Func.isWrapper; first | (rw [if_pos (by decide +kernel)]; kernel_rfl) | (rw [if_neg (by decide +kernel)]; exact ⟨rfl, rfl⟩))
    (fun os started H enc _ => lifted os started H enc)
theorem proved : Rows.FnExactSinkSlewSaid :=
  over
end Go.Proofs.YtodgpjolkfkcpaaGreat.fnExactSinkSlew
