/-
The law FnExactWireText answers true at every argument and leaves it as it was; the condition: the library's listed variables read as the program's text lays them (the card ties them to the text).
-/
import Derived.Test.YtohlajoaheaplaaDoorCards
import Derived.Test.YtohlajoaheaplaaDoorTie
import Derived.Test.YtohlajoaheaplaaDoorWirT
import Derived.Test.YtohlajoaheaplaaDoorOpenW
import Derived.WalkKit
import Derived.ProofKit
import Derived.OpenShut
import Derived.Deep.DeepHandedRow
import Derived.Deep.DeepWitnessRowRef
import Derived.Lib.LaidIn
import Derived.ChangeMaps5
import Derived.WalkSmall
import Derived.LaidLaws
import Derived.Lib.LaidTab
import Derived.Stop.LaidErr
import Derived.Carry
import Derived.WideKeyArgs
import Derived.Lib.SmallJoins
namespace Go.Proofs.YtohlajoaheaplaaDoor.fnExactWireText
open Go.ChangeShapes Go.WideShapes Go.ChangeAt Go.RowKit Go.Deep Go.Joins
set_option linter.unusedVariables false
set_option linter.unusedSimpArgs false
set_option maxRecDepth 100000

theorem own : ownKnob Tryd.prog.godebug = none := by kernel_rfl
theorem laidOut : laidOutB Tryd.prog = true := by kernel_rfl
theorem gTabType : (Tryd.prog.globals[0]?).map (·.type) = some 95 := by kernel_rfl
theorem cellsTab : Tryd.prog.cellsOf 95 = 20 := by kernel_rfl
theorem cellsU : Tryd.prog.cellsOf 74 = 1 := by kernel_rfl
theorem table {W : World} (h : laidMetH Tryd.prog Rows.fnExactWireTextRow.laid W) : Tab W := by
  have h' : laidMet Tryd.prog Rows.fnExactWireTextRow.laid W := h
  exact Lib.tabIs_of_head gPow gTabType Tryd.underlying95 Tryd.underlying74 cellsU cellsTab (laidMet.tail (laidMet.tail h'))
set_option maxRecDepth 100000 in
set_option maxHeartbeats 8000000 in
theorem walk (f0 : Nat → Value) (x0 : WireD) (a1 : Int) (w1 : (Lit.int .i64 a1).wf = true) (w : World) (h0 : WireF w w.heap.size f0 x0) (ht : Tab w)  :
    Calls Tryd.prog 3 #[.agg #[f0 0, f0 1, f0 2, f0 3], .int .i64 a1] w fun e w' => e = .returned (.bool true) ∧ Below w.heap.size w w' := by
  have HT := Lib.hid ht
  clear ht
  have H0 := Lib.hid h0
  clear h0
  go_enter Tryd.func3, Tryd.ntmps3
  go_wp2_with fail
  (go_at_call 5; refine (szWire_any f0 x0 _ _ (H0.out.up (by (repeat (with_reducible first | exact eR _ _ | assumption | refine eA ?_ _ | refine eD ?_ | refine eN ?_ _ | refine eS ?_ _ | refine eT ?_ (by assumption))))) (by omega) (by omega)).mono ?_; rintro e w1 ⟨⟨r, rfl, hr0, hr1, hr⟩, hb⟩; obtain ⟨hc, hf⟩ := bcell hb; have hz := hb.size; (try simp at hz); (try (have hz := Nat.lt_of_succ_le hz)); (try (have y0 : w.heap.size ≤ w1.heap.size := by omega)); (try (have z0 : w.heap.size < w1.heap.size := by omega)); (try (have z1 : w.heap.size + 1 < w1.heap.size := by omega)); (try (have z2 : w.heap.size + 1 + 1 < w1.heap.size := by omega)); (try (have z3 : w.heap.size + 1 + 1 + 1 < w1.heap.size := by omega)); (try (have z4 : w.heap.size + 1 + 1 + 1 + 1 < w1.heap.size := by omega)))
  by_cases hneg : r < 0
  · go_wp2
    go_ret
    exact ⟨rfl, by (repeat (with_reducible first | exact eR _ _ | assumption | refine eA ?_ _ | refine eD ?_ | refine eN ?_ _ | refine eS ?_ _ | refine eT ?_ (by assumption)))⟩
  · have hm := hr (by omega)
    clear hr
    go_wp2_with fail
    (go_at_call 7; refine (toWire_any f0 x0 _ (H0.out.up (by (repeat (with_reducible first | exact eR _ _ | assumption | refine eA ?_ _ | refine eD ?_ | refine eN ?_ _ | refine eS ?_ _ | refine eT ?_ (by assumption))))) hm).mono ?_; rintro e w2 ⟨au0, au1, au2, au3, rfl, ah, hb⟩; obtain ⟨hc, hf⟩ := bcell hb; have hz := hb.size; (try simp at hz); (try (have hz := Nat.lt_of_succ_le hz)); (try (have y0 : w.heap.size ≤ w2.heap.size := by omega)); (try (have z0 : w.heap.size < w2.heap.size := by omega)); (try (have z1 : w.heap.size + 1 < w2.heap.size := by omega)); (try (have z2 : w.heap.size + 1 + 1 < w2.heap.size := by omega)); (try (have z3 : w.heap.size + 1 + 1 + 1 < w2.heap.size := by omega)); (try (have z4 : w.heap.size + 1 + 1 + 1 + 1 < w2.heap.size := by omega)))
    obtain ⟨ap0, aq0, rfl⟩ := ah.1.slice; obtain ⟨ap1, aq1, rfl⟩ := ah.2.1.slice; obtain ⟨ap2, aq2, rfl⟩ := ah.2.2.1.slice; obtain ⟨ap3, aq3, rfl⟩ := ah.2.2.2.slice
    have aU := Lib.hid (show WireF w2 w2.heap.size (vec [.slice ap0 x0.parent.length aq0, .slice ap1 x0.res.length aq1, .slice ap2 x0.cap.length aq2, .slice ap3 x0.sink.length aq3]) x0 from ⟨ah.1.ints, ah.2.1.ints, ah.2.2.1.ints, ah.2.2.2.ints⟩)
    clear ah
    go_wp2_with fail
    (go_at_call 6; refine (specWirT_any (vec [.slice ap0 x0.parent.length aq0, .slice ap1 x0.res.length aq1, .slice ap2 x0.cap.length aq2, .slice ap3 x0.sink.length aq3]) x0 a1 _ (aU.out.up (by (repeat (with_reducible first | exact eR _ _ | assumption | refine eA ?_ _ | refine eD ?_ | refine eN ?_ _ | refine eS ?_ _ | refine eT ?_ (by assumption))))) hm.2.2.2).mono ?_; rintro e w3 ⟨rfl, hb⟩; obtain ⟨hc, hf⟩ := bcell hb; have hz := hb.size; (try simp at hz); (try (have hz := Nat.lt_of_succ_le hz)); (try (have y0 : w.heap.size ≤ w3.heap.size := by omega)); (try (have z0 : w.heap.size < w3.heap.size := by omega)); (try (have z1 : w.heap.size + 1 < w3.heap.size := by omega)); (try (have z2 : w.heap.size + 1 + 1 < w3.heap.size := by omega)); (try (have z3 : w.heap.size + 1 + 1 + 1 < w3.heap.size := by omega)); (try (have z4 : w.heap.size + 1 + 1 + 1 + 1 < w3.heap.size := by omega)))
    go_wp2_with fail
    (go_at_call 7; refine (toWire_any f0 x0 _ (H0.out.up (by (repeat (with_reducible first | exact eR _ _ | assumption | refine eA ?_ _ | refine eD ?_ | refine eN ?_ _ | refine eS ?_ _ | refine eT ?_ (by assumption))))) hm).mono ?_; rintro e w4 ⟨bu0, bu1, bu2, bu3, rfl, bh, hb⟩; obtain ⟨hc, hf⟩ := bcell hb; have hz := hb.size; (try simp at hz); (try (have hz := Nat.lt_of_succ_le hz)); (try (have y0 : w.heap.size ≤ w4.heap.size := by omega)); (try (have z0 : w.heap.size < w4.heap.size := by omega)); (try (have z1 : w.heap.size + 1 < w4.heap.size := by omega)); (try (have z2 : w.heap.size + 1 + 1 < w4.heap.size := by omega)); (try (have z3 : w.heap.size + 1 + 1 + 1 < w4.heap.size := by omega)); (try (have z4 : w.heap.size + 1 + 1 + 1 + 1 < w4.heap.size := by omega)))
    obtain ⟨bp0, bq0, rfl⟩ := bh.1.slice; obtain ⟨bp1, bq1, rfl⟩ := bh.2.1.slice; obtain ⟨bp2, bq2, rfl⟩ := bh.2.2.1.slice; obtain ⟨bp3, bq3, rfl⟩ := bh.2.2.2.slice
    have bU := Lib.hid (show WireF w4 w4.heap.size (vec [.slice bp0 x0.parent.length bq0, .slice bp1 x0.res.length bq1, .slice bp2 x0.cap.length bq2, .slice bp3 x0.sink.length bq3]) x0 from ⟨bh.1.ints, bh.2.1.ints, bh.2.2.1.ints, bh.2.2.2.ints⟩)
    clear bh
    go_wp2_with fail
    (go_at_call 8; refine (implWirT_any (vec [.slice bp0 x0.parent.length bq0, .slice bp1 x0.res.length bq1, .slice bp2 x0.cap.length bq2, .slice bp3 x0.sink.length bq3]) x0 a1 _ (bU.out.up (by (repeat (with_reducible first | exact eR _ _ | assumption | refine eA ?_ _ | refine eD ?_ | refine eN ?_ _ | refine eS ?_ _ | refine eT ?_ (by assumption))))) hm.2.2.2 (HT.out.keep (by (repeat (with_reducible first | exact eR _ _ | assumption | refine eA ?_ _ | refine eD ?_ | refine eN ?_ _ | refine eS ?_ _ | refine eT ?_ (by assumption)))))).mono ?_; rintro e w5 ⟨rfl, hb⟩; obtain ⟨hc, hf⟩ := bcell hb; have hz := hb.size; (try simp at hz); (try (have hz := Nat.lt_of_succ_le hz)); (try (have y0 : w.heap.size ≤ w5.heap.size := by omega)); (try (have z0 : w.heap.size < w5.heap.size := by omega)); (try (have z1 : w.heap.size + 1 < w5.heap.size := by omega)); (try (have z2 : w.heap.size + 1 + 1 < w5.heap.size := by omega)); (try (have z3 : w.heap.size + 1 + 1 + 1 < w5.heap.size := by omega)); (try (have z4 : w.heap.size + 1 + 1 + 1 + 1 < w5.heap.size := by omega)))
    go_upto_region 10 with fail
    have cc0 : w5.cell? ⟨w.heap.size, 0, none⟩ = some (f0 0) := cell_keep (w0 := w.alloc (Obj.cells #[f0 0, f0 1, f0 2, f0 3] 24)) (by simp [go_sem]) (by (repeat (with_reducible first | exact eR _ _ | assumption | refine eA ?_ _ | refine eD ?_ | refine eN ?_ _ | refine eS ?_ _ | refine eT ?_ (by assumption))))
    have cc1 : w5.cell? ⟨w.heap.size, 1, none⟩ = some (f0 1) := cell_keep (w0 := w.alloc (Obj.cells #[f0 0, f0 1, f0 2, f0 3] 24)) (by simp [go_sem]) (by (repeat (with_reducible first | exact eR _ _ | assumption | refine eA ?_ _ | refine eD ?_ | refine eN ?_ _ | refine eS ?_ _ | refine eT ?_ (by assumption))))
    have cc2 : w5.cell? ⟨w.heap.size, 2, none⟩ = some (f0 2) := cell_keep (w0 := w.alloc (Obj.cells #[f0 0, f0 1, f0 2, f0 3] 24)) (by simp [go_sem]) (by (repeat (with_reducible first | exact eR _ _ | assumption | refine eA ?_ _ | refine eD ?_ | refine eN ?_ _ | refine eS ?_ _ | refine eT ?_ (by assumption))))
    have cc3 : w5.cell? ⟨w.heap.size, 3, none⟩ = some (f0 3) := cell_keep (w0 := w.alloc (Obj.cells #[f0 0, f0 1, f0 2, f0 3] 24)) (by simp [go_sem]) (by (repeat (with_reducible first | exact eR _ _ | assumption | refine eA ?_ _ | refine eD ?_ | refine eN ?_ _ | refine eS ?_ _ | refine eT ?_ (by assumption))))
    have cc4 : w5.cell? ⟨w4.heap.size, 0, none⟩ = some (.slice bp0 x0.parent.length bq0) := cell_keep (w0 := w4.alloc (Obj.cells #[.slice bp0 x0.parent.length bq0, .slice bp1 x0.res.length bq1, .slice bp2 x0.cap.length bq2, .slice bp3 x0.sink.length bq3] 27)) (by simp [go_sem]) (by (repeat (with_reducible first | exact eR _ _ | assumption | refine eA ?_ _ | refine eD ?_ | refine eN ?_ _ | refine eS ?_ _ | refine eT ?_ (by assumption))))
    have cc5 : w5.cell? ⟨w4.heap.size, 1, none⟩ = some (.slice bp1 x0.res.length bq1) := cell_keep (w0 := w4.alloc (Obj.cells #[.slice bp0 x0.parent.length bq0, .slice bp1 x0.res.length bq1, .slice bp2 x0.cap.length bq2, .slice bp3 x0.sink.length bq3] 27)) (by simp [go_sem]) (by (repeat (with_reducible first | exact eR _ _ | assumption | refine eA ?_ _ | refine eD ?_ | refine eN ?_ _ | refine eS ?_ _ | refine eT ?_ (by assumption))))
    have cc6 : w5.cell? ⟨w4.heap.size, 2, none⟩ = some (.slice bp2 x0.cap.length bq2) := cell_keep (w0 := w4.alloc (Obj.cells #[.slice bp0 x0.parent.length bq0, .slice bp1 x0.res.length bq1, .slice bp2 x0.cap.length bq2, .slice bp3 x0.sink.length bq3] 27)) (by simp [go_sem]) (by (repeat (with_reducible first | exact eR _ _ | assumption | refine eA ?_ _ | refine eD ?_ | refine eN ?_ _ | refine eS ?_ _ | refine eT ?_ (by assumption))))
    have cc7 : w5.cell? ⟨w4.heap.size, 3, none⟩ = some (.slice bp3 x0.sink.length bq3) := cell_keep (w0 := w4.alloc (Obj.cells #[.slice bp0 x0.parent.length bq0, .slice bp1 x0.res.length bq1, .slice bp2 x0.cap.length bq2, .slice bp3 x0.sink.length bq3] 27)) (by simp [go_sem]) (by (repeat (with_reducible first | exact eR _ _ | assumption | refine eA ?_ _ | refine eD ?_ | refine eN ?_ _ | refine eS ?_ _ | refine eT ?_ (by assumption))))
    have bU5 := Lib.hid (bU.out.up (by (repeat (with_reducible first | exact eR _ _ | assumption | refine eA ?_ _ | refine eD ?_ | refine eN ?_ _ | refine eS ?_ _ | refine eT ?_ (by assumption)))) : WireF w5 _ _ _)
    have B5 : Below w.heap.size w w5 := by (repeat (with_reducible first | exact eR _ _ | assumption | refine eA ?_ _ | refine eD ?_ | refine eN ?_ _ | refine eS ?_ _ | refine eT ?_ (by assumption)))
    go_region_held3 (fun w' => w'.cell? ⟨w.heap.size, 0, none⟩ = some (f0 0) ∧ w'.cell? ⟨w.heap.size, 1, none⟩ = some (f0 1) ∧ w'.cell? ⟨w.heap.size, 2, none⟩ = some (f0 2) ∧ w'.cell? ⟨w.heap.size, 3, none⟩ = some (f0 3) ∧ w'.cell? ⟨w4.heap.size, 0, none⟩ = some (.slice bp0 x0.parent.length bq0) ∧ w'.cell? ⟨w4.heap.size, 1, none⟩ = some (.slice bp1 x0.res.length bq1) ∧ w'.cell? ⟨w4.heap.size, 2, none⟩ = some (.slice bp2 x0.cap.length bq2) ∧ w'.cell? ⟨w4.heap.size, 3, none⟩ = some (.slice bp3 x0.sink.length bq3) ∧ Below w.heap.size w w' ∧ w4.heap.size < w'.heap.size) (first | exact (Hid.out (by assumption)) | exact keep8 (Hid.out (by assumption)) ((Below.refl _ _).alloc (Nat.le_refl _) _) | exact keep8s (keep8s (Hid.out (by assumption)) (by first | assumption | (simp; done) | (simp; omega) | omega) (by first | assumption | (simp; done) | (simp; omega) | omega) (by first | assumption | (simp; done) | (simp; omega) | omega) (by first | assumption | (simp; done) | (simp; omega) | omega) (by first | assumption | (simp; done) | (simp; omega) | omega) (by first | assumption | (simp; done) | (simp; omega) | omega) (by first | assumption | (simp; done) | (simp; omega) | omega) (by first | assumption | (simp; done) | (simp; omega) | omega) (by first | assumption | (simp; done) | (simp; omega) | omega) (by first | assumption | (simp; done) | (simp; omega) | omega)) (by first | assumption | (simp; done) | (simp; omega) | omega) (by first | assumption | (simp; done) | (simp; omega) | omega) (by first | assumption | (simp; done) | (simp; omega) | omega) (by first | assumption | (simp; done) | (simp; omega) | omega) (by first | assumption | (simp; done) | (simp; omega) | omega) (by first | assumption | (simp; done) | (simp; omega) | omega) (by first | assumption | (simp; done) | (simp; omega) | omega) (by first | assumption | (simp; done) | (simp; omega) | omega) (by first | assumption | (simp; done) | (simp; omega) | omega) (by first | assumption | (simp; done) | (simp; omega) | omega) | exact keep8s (Hid.out (by assumption)) (by first | assumption | (simp; done) | (simp; omega) | omega) (by first | assumption | (simp; done) | (simp; omega) | omega) (by first | assumption | (simp; done) | (simp; omega) | omega) (by first | assumption | (simp; done) | (simp; omega) | omega) (by first | assumption | (simp; done) | (simp; omega) | omega) (by first | assumption | (simp; done) | (simp; omega) | omega) (by first | assumption | (simp; done) | (simp; omega) | omega) (by first | assumption | (simp; done) | (simp; omega) | omega) (by first | assumption | (simp; done) | (simp; omega) | omega) (by first | assumption | (simp; done) | (simp; omega) | omega) | ((repeat' apply And.intro) <;> first | assumption | ((repeat (with_reducible first | exact eR _ _ | assumption | refine eA ?_ _ | refine eD ?_ | refine eN ?_ _ | refine eS ?_ _ | refine eT ?_ (by assumption))); done) | (simp [go_sem]; done) | (simp [go_sem, *]; done) | (simp; omega) | omega)) (first | ((go_at_call 7; refine (toWire_any f0 x0 _ (H0.out.up (by (repeat (with_reducible first | exact eR _ _ | assumption | refine eA ?_ _ | refine eD ?_ | refine eN ?_ _ | refine eS ?_ _ | refine eT ?_ (by assumption))))) hm).mono ?_; rintro e w6 ⟨du0, du1, du2, du3, rfl, dh, hb⟩; obtain ⟨hc, hf⟩ := bcell hb; have hz := hb.size; (try simp at hz); (try (have hz := Nat.lt_of_succ_le hz)); (try (have y0 : w.heap.size ≤ w6.heap.size := by omega)); (try (have z0 : w.heap.size < w6.heap.size := by omega)); (try (have z1 : w.heap.size + 1 < w6.heap.size := by omega)); (try (have z2 : w.heap.size + 1 + 1 < w6.heap.size := by omega)); (try (have z3 : w.heap.size + 1 + 1 + 1 < w6.heap.size := by omega)); (try (have z4 : w.heap.size + 1 + 1 + 1 + 1 < w6.heap.size := by omega))); obtain ⟨dp0, dq0, rfl⟩ := dh.1.slice; obtain ⟨dp1, dq1, rfl⟩ := dh.2.1.slice; obtain ⟨dp2, dq2, rfl⟩ := dh.2.2.1.slice; obtain ⟨dp3, dq3, rfl⟩ := dh.2.2.2.slice; have dU := Lib.hid (show WireF w6 w6.heap.size (vec [.slice dp0 x0.parent.length dq0, .slice dp1 x0.res.length dq1, .slice dp2 x0.cap.length dq2, .slice dp3 x0.sink.length dq3]) x0 from ⟨dh.1.ints, dh.2.1.ints, dh.2.2.1.ints, dh.2.2.2.ints⟩); clear dh; have hS := Lib.hid (keep8 (by assumption) hb); have zL := (Hid.out hS).2.2.2.2.2.2.2.2.2) | ((go_at_call 9; refine (eqWire_same (vec [.slice bp0 x0.parent.length bq0, .slice bp1 x0.res.length bq1, .slice bp2 x0.cap.length bq2, .slice bp3 x0.sink.length bq3]) (vec [.slice dp0 x0.parent.length dq0, .slice dp1 x0.res.length dq1, .slice dp2 x0.cap.length dq2, .slice dp3 x0.sink.length dq3]) x0 _ (bU5.out.up (by (repeat (with_reducible first | exact eR _ _ | assumption | refine eA ?_ _ | refine eD ?_ | refine eN ?_ _ | refine eS ?_ _ | refine eT ?_ (by assumption))))) (dU.out.up (by (repeat (with_reducible first | exact eR _ _ | assumption | refine eA ?_ _ | refine eD ?_ | refine eN ?_ _ | refine eS ?_ _ | refine eT ?_ (by assumption)))))).mono ?_; rintro e w7 ⟨rfl, hb⟩; obtain ⟨hc, hf⟩ := bcell hb; have hz := hb.size; (try simp at hz); (try (have hz := Nat.lt_of_succ_le hz)); (try (have y0 : w.heap.size ≤ w7.heap.size := by omega)); (try (have z0 : w.heap.size < w7.heap.size := by omega)); (try (have z1 : w.heap.size + 1 < w7.heap.size := by omega)); (try (have z2 : w.heap.size + 1 + 1 < w7.heap.size := by omega)); (try (have z3 : w.heap.size + 1 + 1 + 1 < w7.heap.size := by omega)); (try (have z4 : w.heap.size + 1 + 1 + 1 + 1 < w7.heap.size := by omega))); have hS := Lib.hid (keep8 (by assumption) hb); have zL := (Hid.out hS).2.2.2.2.2.2.2.2.2))
    all_goals (go_wp2_with fail; go_ret; exact ⟨rfl, by (repeat (with_reducible first | exact eR _ _ | assumption | refine eA ?_ _ | refine eD ?_ | refine eN ?_ _ | refine eS ?_ _ | refine eT ?_ (by assumption)))⟩)

theorem contract (H : Type) (enc : TypeId × Value → H) (W : World) (base : Nat) (args : Array Value) (ds gs : List (DataW H)) (before : List MemPlace)
    (hval : ∀ (j : Nat) t v, Tryd.f3.params[j]? = some t → args[j]? = some v → Value.okWide Tryd.prog W .any base t v)
    (hW : DataW.Whole enc Tryd.prog Tryd.f3.params.toList Rows.fnExactWireTextSpec.vars false W args.toList ds gs before) (hL : laidMetH Tryd.prog Rows.fnExactWireTextRow.laid W) (hsh : W.ShapedOpen Tryd.prog) :
    Calls Tryd.prog 3 args W fun e W' => ∃ v, e = .returned v ∧ Rows.fnExactWireTextSpec.post enc Tryd.prog Tryd.f3 false true false false W args v W' := by
  have hW' := hW
  obtain ⟨p, q, hA0, hV, rfl, hfz, hnd⟩ := hW
  have hA : DataW.TrodAll enc Tryd.prog W 0 (fun _ => true) true Tryd.f3.params.toList args.toList ds p := hA0
  rw [Tryd.params3] at hA hval
  obtain ⟨v0, vs0, d0, ds0, p0, q0, hargs, rfl, rfl, h0, r0⟩ := trodAll_cons hA
  obtain ⟨v1, vs1, d1, ds1, p1, q1, rfl, rfl, rfl, h1, r1⟩ := trodAll_cons r0
  obtain ⟨rfl, rfl, rfl⟩ := trodAll_nil r1
  obtain rfl : args = #[v0, v1] := by cases args; simp_all
  obtain ⟨rfl, rfl⟩ := trodVars_none hV
  have k0 := h0
  have hlt0 : ∀ x ∈ p0, x.block < W.heap.size := fun x hx => hW'.lt x (by first | (simp [hx]; done) | (simp at hx; done) | (simpa using hx))
  have k1 := h1
  have hlt1 : ∀ x ∈ p1, x.block < W.heap.size := fun x hx => hW'.lt x (by first | (simp [hx]; done) | (simp at hx; done) | (simpa using hx))
  obtain ⟨f0, x0, rfl, b0⟩ := Tryd.openWire (hval 0 24 v0 rfl rfl) h0
  obtain ⟨a1, rfl, rfl, rfl, w1⟩ := open_int Tryd.underlying2 (hval 1 2 v1 rfl rfl) h1
  clear hA0
  refine (walk f0 x0 a1 w1 W b0 (table hL)).mono fun e W' ⟨he, hg⟩ => ?_
  subst he
  exact ⟨_, rfl, post_ext hg (pv := []) hW' (fun _ _ _ => (trodAll_cons_mk (shut_bool Tryd.underlying4 _) trodAll_mk0)) (fun sp hsp => (trodAll_cons_mk (WideElems.Trod_stays laidOut (by kernel_rfl) (of_decide_eq_true (by kernel_rfl)) k0 (fun x hx => hg.same (hlt0 x hx)) (fun x hx => hsp x (by first | (simp [hx]; done) | (simp at hx; done) | (simpa using hx)))) (trodAll_cons_mk (WideElems.Trod_stays laidOut (by kernel_rfl) (of_decide_eq_true (by kernel_rfl)) k1 (fun x hx => hg.same (hlt1 x hx)) (fun x hx => hsp x (by first | (simp [hx]; done) | (simp at hx; done) | (simpa using hx)))) trodAll_mk0))) (fun _ _ => rfl) rfl
    (ok_one (by kernel_rfl) rfl (okWide_bool_mk Tryd.underlying4 _))⟩

/-- A block with other cells. -/
def withCells (cs : Array Value) : Obj → Obj
  | .cells _ t frozen => .cells cs t frozen
  | o => o
noncomputable abbrev N0 : Nat := (World.settled Tryd.prog default).heap.size
/-- A world for the witness: the settled one, the listed variables holding what their initialisers lay. -/
noncomputable def laidWorld (os : Os) : World :=
  let N := (World.settled Tryd.prog os).heap.size
  let w0 := World.holding Tryd.prog os ⟨#[], #[], []⟩
  let h0 := w0.heap.modify 6 (withCells #[.int .u8 0, .int .u8 1, .int .u8 28, .int .u8 2, .int .u8 29, .int .u8 14, .int .u8 24, .int .u8 3, .int .u8 30, .int .u8 22, .int .u8 20, .int .u8 15, .int .u8 25, .int .u8 17, .int .u8 4, .int .u8 8, .int .u8 31, .int .u8 27, .int .u8 13, .int .u8 23, .int .u8 21, .int .u8 19, .int .u8 16, .int .u8 7, .int .u8 26, .int .u8 12, .int .u8 18, .int .u8 6, .int .u8 11, .int .u8 5, .int .u8 10, .int .u8 9])
  let h1 := h0.modify 7 (withCells #[.int .u8 0, .int .u8 1, .int .u8 56, .int .u8 2, .int .u8 57, .int .u8 49, .int .u8 28, .int .u8 3, .int .u8 61, .int .u8 58, .int .u8 42, .int .u8 50, .int .u8 38, .int .u8 29, .int .u8 17, .int .u8 4, .int .u8 62, .int .u8 47, .int .u8 59, .int .u8 36, .int .u8 45, .int .u8 43, .int .u8 51, .int .u8 22, .int .u8 53, .int .u8 39, .int .u8 33, .int .u8 30, .int .u8 24, .int .u8 18, .int .u8 12, .int .u8 5, .int .u8 63, .int .u8 55, .int .u8 48, .int .u8 27, .int .u8 60, .int .u8 41, .int .u8 37, .int .u8 16, .int .u8 46, .int .u8 35, .int .u8 44, .int .u8 21, .int .u8 52, .int .u8 32, .int .u8 23, .int .u8 11, .int .u8 54, .int .u8 26, .int .u8 40, .int .u8 15, .int .u8 34, .int .u8 20, .int .u8 31, .int .u8 10, .int .u8 25, .int .u8 14, .int .u8 19, .int .u8 9, .int .u8 13, .int .u8 8, .int .u8 7, .int .u8 6])
  let h2 := h1.modify 0 (withCells #[.int .u64 1, .int .u64 10, .int .u64 100, .int .u64 1000, .int .u64 10000, .int .u64 100000, .int .u64 1000000, .int .u64 10000000, .int .u64 100000000, .int .u64 1000000000, .int .u64 10000000000, .int .u64 100000000000, .int .u64 1000000000000, .int .u64 10000000000000, .int .u64 100000000000000, .int .u64 1000000000000000, .int .u64 10000000000000000, .int .u64 100000000000000000, .int .u64 1000000000000000000, .int .u64 10000000000000000000])
  { w0 with heap := h2 }
theorem laid_met (os : Os) : laidMet Tryd.prog Rows.fnExactWireTextRow.laid ((laidWorld os).forCall (fun _ _ => 0) ⟨#[], #[.agg #[.slice none 0 0, .slice none 0 0, .slice none 0 0, .slice none 0 0], .int .i64 0], []⟩).memory :=
  (LaidIn.of_run [6, 7, 0] 8 (by kernel_rfl) (by kernel_rfl) (by kernel_rfl) (by kernel_rfl)).met
theorem reads (os : Os) {H : Type} (enc : TypeId × Value → H) : ∃ places, DataW.whole enc Tryd.prog ((laidWorld os).forCall (fun _ _ => 0) ⟨#[], #[.agg #[.slice none 0 0, .slice none 0 0, .slice none 0 0, .slice none 0 0], .int .i64 0], []⟩).memory Tryd.f3.params.toList Rows.fnExactWireTextSpec.vars false #[(Value.agg #[.slice none 0 0, .slice none 0 0, .slice none 0 0, .slice none 0 0]), (Value.int .i64 0)].toList 8 = some ([.agg [.nil, .nil, .nil, .nil], .lit (.int .i64 0)], [], places) :=
  ⟨[], by kernel_rfl⟩

theorem lifted (os : Os) (started : os.Started) (H : Type) (enc : TypeId × Value → H) (F : Stop.Interp) :
    ReturnsInHanded {} Tryd.checked os 3 .any ((OpenSpec.ofChange Rows.fnExactWireTextSpec).preRow enc Tryd.prog Tryd.f3 Rows.fnExactWireTextRow.domain false Rows.fnExactWireTextRow.laid) (((OpenSpec.ofChange Rows.fnExactWireTextSpec).at F).post enc Tryd.prog Tryd.f3 false true false false) := by
  obtain ⟨places, hx⟩ := reads os enc
  refine returnsInHanded_of_row (C := Tryd.checked) (s := OpenSpec.ofChange Rows.fnExactWireTextSpec) own started (by kernel_rfl) Tryd.func3
    (witness_row_atRef (enc := enc) (C := Tryd.checked) false (laidWorld os) #[.agg #[.slice none 0 0, .slice none 0 0, .slice none 0 0, .slice none 0 0], .int .i64 0] rfl (by kernel_rfl) (by kernel_rfl) (by kernel_rfl)
      (OpenSpec.preRow_of_cond 8 hx (by kernel_rfl) (fun k hk => by cases hk) (by kernel_rfl) (laid_met os))) ?_
  intro W base args ds gs before hval hW _ _ _ hL hsh _
  exact contract H enc W base args ds gs before hval hW hL hsh

set_option maxHeartbeats 8000000 in
/-- The row's closed facts, each by itself (all at once they outgrow the kernel's memory at a program of some hundred functions). -/
theorem closed : joinedFacts Tryd.pinned.checked.prog 3 Tryd.f3 (OpenSpec.ofChange Rows.fnExactWireTextSpec).bare Rows.fnExactWireTextRow = true := by
  unfold joinedFacts
  simp only [Bool.and_eq_true]
  repeat' apply And.intro
  all_goals (as_aux_lemma => kernel_rfl)

theorem said : Rows.FnExactWireTextSaid :=
  OpenClaim.holds_of_cond 3 Tryd.f3 rfl rfl rfl rfl rfl rfl rfl ⟨rfl, rfl, rfl, rfl, rfl⟩ rfl rfl rfl rfl rfl (by kernel_rfl) Tryd.func3 closed
    (of_decide_eq_true (by kernel_rfl)) (by unfold Func.isWrapper; first | (rw [if_pos (by decide +kernel)]; kernel_rfl) | (rw [if_neg (by decide +kernel)]; exact ⟨rfl, rfl⟩))
    (fun os started H enc _ F => by rw [OpenClaim.pre_eq_preRow]; exact lifted os started H enc F)

/-- No parameter wants a stand-in; the program's own looks are on. -/
theorem plain (f : FuncId) (fn : Func) (hf : Tryd.pinned.checked.prog.funcNamed "loop.example/g00861/laws.FnExactWireText" = some f) (hfn : Tryd.pinned.checked.prog.funcs[f]? = some fn) :
    true = Tryd.pinned.checked.prog.looks [] ∧ ∀ (j : Nat) t, fn.params[j]? = some t → Tryd.pinned.checked.prog.wantsStandIn t = false := by
  obtain rfl : f = 3 := Option.some.inj ((show Tryd.prog.funcNamed "loop.example/g00861/laws.FnExactWireText" = some 3 by kernel_rfl).symm.trans hf) |>.symm
  obtain rfl : fn = Tryd.f3 := (Option.some.inj (Tryd.func3.symm.trans hfn)).symm
  refine ⟨by kernel_rfl, fun j t ht => ?_⟩
  rw [Tryd.params3] at ht
  have hm := Array.mem_of_getElem? ht
  simp only [List.mem_toArray, List.mem_cons, List.not_mem_nil, or_false] at hm
  rcases hm with rfl | rfl
  · exact (show Tryd.prog.wantsStandIn 24 = false by kernel_rfl)
  · exact (show Tryd.prog.wantsStandIn 2 = false by kernel_rfl)

theorem card : Rows.FnExactWireTextCardSaid :=
  Claim7.holds_tied_plain_at .later [] _ _ _ _ said (fun _ h => by cases h) (by kernel_rfl) (fun _ h => by cases h) fnExactWireText_row_tie rfl ⟨rfl, rfl⟩ (by kernel_rfl) rfl plain (by kernel_rfl)
end Go.Proofs.YtohlajoaheaplaaDoor.fnExactWireText
