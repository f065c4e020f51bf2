/-
The law FnExactSinksOf answers true at every input of its type and leaves its arguments as they were; no condition.
-/
import Derived.Test.YtejomclnagakoabGreatRows
import Derived.Test.YtejomclnagakoabGreatNetZ
import Derived.Test.YtejomclnagakoabGreatMarkD
import Derived.Test.YtejomclnagakoabGreatMark
import Derived.WalkKit
import Derived.ProofKit
import Derived.OpenShut
import Derived.Carry
import Derived.WideKeyArgs
import Derived.Lib.SmallJoins
namespace Go.Proofs.YtejomclnagakoabGreat.fnExactSinksOf
open Go.ChangeShapes Go.WideShapes Go.ChangeAt Go.RowKit Go.Joins
set_option linter.unusedVariables false
set_option linter.unusedSimpArgs false

theorem own : ownKnob Tryz.prog.godebug = none := by kernel_rfl
theorem laidOut : laidOutB Tryz.prog = true := by kernel_rfl
theorem cells24 : Tryz.prog.cellsOf 24 = 1 := by kernel_rfl
theorem cells29 : Tryz.prog.cellsOf 29 = 3 := by kernel_rfl
theorem snk_len (ts : List CellD) (d : DesD) (n : Int) : (endsL (placesY ts d) n false).length ≤ 100 := Nat.le_trans (endsL_le _ _ _) (placesZ_len ts d)
set_option maxRecDepth 100000 in
set_option maxHeartbeats 16000000 in
theorem walk (v0x0 : Value) (ts0 : List CellD) (f1 : Nat → Value) (d1 : DesD) (a2 : Int) (w2 : (Lit.int .i64 a2).wf = true) (w : World) (h0 : CellsS w w.heap.size v0x0 ts0) (h1 : DesF w w.heap.size f1 d1) :
    Calls Tryz.prog 8 #[.agg #[v0x0], .agg #[f1 0, f1 1, f1 2], .int .i64 a2] w fun e w' => e = .returned (.bool true) ∧ Below w.heap.size w w' := by
  have WF2 := Lib.hid w2
  have H0 := Lib.hid h0
  have H1 := Lib.hid h1
  clear h0 h1 w2
  have hlen := snk_len ts0 d1 a2
  obtain ⟨xs, hxs⟩ : ∃ xs, xs = endsL (placesY ts0 d1) a2 false := ⟨_, rfl⟩
  have HSP := Lib.hid (fun (v : Value) (f : Nat → Value) (w1 : World) (h : CellsS w1 w1.heap.size v ts0) (h' : DesF w1 w1.heap.size f d1) => (show Calls Tryz.prog 28 #[.agg #[v], .agg #[f 0, f 1, f 2], .int .i64 a2] w1 fun e w' => ∃ u, e = .returned u ∧ OwnS w' w1.heap.size u xs ∧ Below w1.heap.size w1 w' by rw [hxs]; exact specSinksOf_any v f ts0 d1 a2 w1 h h'))
  have HIM := Lib.hid (fun (v : Value) (f : Nat → Value) (w1 : World) (h : CellsS w1 w1.heap.size v ts0) (h' : DesF w1 w1.heap.size f d1) => (show Calls Tryz.prog 31 #[.agg #[v], .agg #[f 0, f 1, f 2], .int .i64 a2] w1 fun e w' => ∃ u, e = .returned u ∧ OwnS w' w1.heap.size u xs ∧ Below w1.heap.size w1 w' by rw [hxs, ← snk_is]; exact implSinksOf_any v f ts0 d1 a2 w1 h h' WF2.out))
  rw [← hxs] at hlen
  clear hxs
  go_enter Tryz.func8, Tryz.ntmps8
  go_wp2_with fail
  (go_at_call 26; refine (szLibrary_w _ ts0 _ _ (H0.out.up (by (repeat (with_reducible first | exact eR _ _ | assumption | refine eA ?_ _ | refine eD ?_ | refine eN ?_ _ | refine eS ?_ _ | refine eT ?_ (by assumption))))) (by omega) (by omega)).mono ?_; rintro e w1 ⟨⟨r, rfl, hr0, hr1, hr⟩, hb⟩; obtain ⟨hc, hf⟩ := bcell hb; have hz := hb.size; (try simp at hz); (try (have hz := Nat.lt_of_succ_le hz)); (try (have y0 : w.heap.size ≤ w1.heap.size := by omega)); (try (have z0 : w.heap.size < w1.heap.size := by omega)); (try (have z1 : w.heap.size + 1 < w1.heap.size := by omega)); (try (have z2 : w.heap.size + 1 + 1 < w1.heap.size := by omega)); (try (have z3 : w.heap.size + 1 + 1 + 1 < w1.heap.size := by omega)); (try (have z4 : w.heap.size + 1 + 1 + 1 + 1 < w1.heap.size := by omega)))
  by_cases hneg : r < 0
  · go_wp2
    go_ret
    exact ⟨rfl, by (repeat (with_reducible first | exact eR _ _ | assumption | refine eA ?_ _ | refine eD ?_ | refine eN ?_ _ | refine eS ?_ _ | refine eT ?_ (by assumption)))⟩
  have ⟨hm, hwl⟩ := hr (by omega)
  clear hr
  go_wp2_with fail
  (go_at_call 27; refine (szDes_w f1 d1 _ _ (H1.out.up (by (repeat (with_reducible first | exact eR _ _ | assumption | refine eA ?_ _ | refine eD ?_ | refine eN ?_ _ | refine eS ?_ _ | refine eT ?_ (by assumption))))) (by omega) (by omega)).mono ?_; rintro e w2 ⟨⟨r2, rfl, hr20, hr21, hr2⟩, hb⟩; obtain ⟨hc, hf⟩ := bcell hb; have hz := hb.size; (try simp at hz); (try (have hz := Nat.lt_of_succ_le hz)); (try (have y0 : w.heap.size ≤ w2.heap.size := by omega)); (try (have z0 : w.heap.size < w2.heap.size := by omega)); (try (have z1 : w.heap.size + 1 < w2.heap.size := by omega)); (try (have z2 : w.heap.size + 1 + 1 < w2.heap.size := by omega)); (try (have z3 : w.heap.size + 1 + 1 + 1 < w2.heap.size := by omega)); (try (have z4 : w.heap.size + 1 + 1 + 1 + 1 < w2.heap.size := by omega)))
  by_cases hneg2 : r2 < 0
  · go_wp2
    go_ret
    exact ⟨rfl, by (repeat (with_reducible first | exact eR _ _ | assumption | refine eA ?_ _ | refine eD ?_ | refine eN ?_ _ | refine eS ?_ _ | refine eT ?_ (by assumption)))⟩
  have ⟨hm1, hwd⟩ := hr2 (by omega)
  clear hr2
  go_wp2
  have cc0 : w2.cell? ⟨w.heap.size, 0, none⟩ = some v0x0 := cell_keep (w0 := (w.alloc (Obj.cells #[v0x0] 24)).alloc (Obj.cells #[f1 0, f1 1, f1 2] 29)) (by simp [go_sem]) (by (repeat (with_reducible first | exact eR _ _ | assumption | refine eA ?_ _ | refine eD ?_ | refine eN ?_ _ | refine eS ?_ _ | refine eT ?_ (by assumption))))
  have cc1 : w2.cell? ⟨w.heap.size + 1, 0, none⟩ = some (f1 0) := cell_keep (w0 := (w.alloc (Obj.cells #[v0x0] 24)).alloc (Obj.cells #[f1 0, f1 1, f1 2] 29)) (by simp [go_sem]) (by (repeat (with_reducible first | exact eR _ _ | assumption | refine eA ?_ _ | refine eD ?_ | refine eN ?_ _ | refine eS ?_ _ | refine eT ?_ (by assumption))))
  have cc2 : w2.cell? ⟨w.heap.size + 1, 1, none⟩ = some (f1 1) := cell_keep (w0 := (w.alloc (Obj.cells #[v0x0] 24)).alloc (Obj.cells #[f1 0, f1 1, f1 2] 29)) (by simp [go_sem]) (by (repeat (with_reducible first | exact eR _ _ | assumption | refine eA ?_ _ | refine eD ?_ | refine eN ?_ _ | refine eS ?_ _ | refine eT ?_ (by assumption))))
  have cc3 : w2.cell? ⟨w.heap.size + 1, 2, none⟩ = some (f1 2) := cell_keep (w0 := (w.alloc (Obj.cells #[v0x0] 24)).alloc (Obj.cells #[f1 0, f1 1, f1 2] 29)) (by simp [go_sem]) (by (repeat (with_reducible first | exact eR _ _ | assumption | refine eA ?_ _ | refine eD ?_ | refine eN ?_ _ | refine eS ?_ _ | refine eT ?_ (by assumption))))
  have B2 : Below w.heap.size w w2 := by (repeat (with_reducible first | exact eR _ _ | assumption | refine eA ?_ _ | refine eD ?_ | refine eN ?_ _ | refine eS ?_ _ | refine eT ?_ (by assumption)))
  have l2 : w.heap.size + 1 < w2.heap.size := cell_lt cc1
  go_region_held3 (fun w' => w'.cell? ⟨w.heap.size, 0, none⟩ = some v0x0 ∧ w'.cell? ⟨w.heap.size + 1, 0, none⟩ = some (f1 0) ∧ w'.cell? ⟨w.heap.size + 1, 1, none⟩ = some (f1 1) ∧ w'.cell? ⟨w.heap.size + 1, 2, none⟩ = some (f1 2) ∧ Below w.heap.size w w' ∧ w.heap.size + 1 < w'.heap.size) (first | exact (Hid.out (by assumption)) | exact keep4 (Hid.out (by assumption)) ((Below.refl _ _).alloc (Nat.le_refl _) _) | exact keep4s (keep4s (Hid.out (by assumption)) (by first | assumption | (simp; done) | (simp; omega) | omega) (by first | assumption | (simp; done) | (simp; omega) | omega) (by first | assumption | (simp; done) | (simp; omega) | omega) (by first | assumption | (simp; done) | (simp; omega) | omega) (by first | assumption | (simp; done) | (simp; omega) | omega) (by first | assumption | (simp; done) | (simp; omega) | omega)) (by first | assumption | (simp; done) | (simp; omega) | omega) (by first | assumption | (simp; done) | (simp; omega) | omega) (by first | assumption | (simp; done) | (simp; omega) | omega) (by first | assumption | (simp; done) | (simp; omega) | omega) (by first | assumption | (simp; done) | (simp; omega) | omega) (by first | assumption | (simp; done) | (simp; omega) | omega) | exact keep4s (Hid.out (by assumption)) (by first | assumption | (simp; done) | (simp; omega) | omega) (by first | assumption | (simp; done) | (simp; omega) | omega) (by first | assumption | (simp; done) | (simp; omega) | omega) (by first | assumption | (simp; done) | (simp; omega) | omega) (by first | assumption | (simp; done) | (simp; omega) | omega) (by first | assumption | (simp; done) | (simp; omega) | omega) | ((repeat' apply And.intro) <;> first | assumption | ((repeat (with_reducible first | exact eR _ _ | assumption | refine eA ?_ _ | refine eD ?_ | refine eN ?_ _ | refine eS ?_ _ | refine eT ?_ (by assumption))); done) | (simp [go_sem]; done) | (simp [go_sem, *]; done) | (simp; omega) | omega)) (first | ((go_at_call 29; refine (toLibrary_any _ ts0 _ (H0.out.up (by (repeat (with_reducible first | exact eR _ _ | assumption | refine eA ?_ _ | refine eD ?_ | refine eN ?_ _ | refine eS ?_ _ | refine eT ?_ (by assumption))))) hm).mono ?_; rintro e w3 ⟨au, rfl, ah, hb⟩; have hz := hb.size; (try simp at hz)); obtain ⟨ap, aq, rfl⟩ := ah.slice; have aU := Lib.hid (show CellsS w3 w3.heap.size (.slice ap ts0.length aq) ts0 from ah.out); clear ah; have hS := Lib.hid (keep4 (by assumption) hb); have zL := (Hid.out hS).2.2.2.2.2) | ((go_at_call 30; refine (toDes_any f1 d1 _ (H1.out.up (by (repeat (with_reducible first | exact eR _ _ | assumption | refine eA ?_ _ | refine eD ?_ | refine eN ?_ _ | refine eS ?_ _ | refine eT ?_ (by assumption))))) hm1).mono ?_; rintro e w4 ⟨av0, av1, av2, rfl, ah, hb⟩; have hz := hb.size; (try simp at hz)); obtain ⟨a0p, a0q, rfl⟩ := ah.1.slice; obtain ⟨a1p, a1q, rfl⟩ := ah.2.1.slice; obtain ⟨a2p, a2q, rfl⟩ := ah.2.2.slice; have aV := Lib.hid (show DesF w4 w4.heap.size (vec [.slice a0p d1.insts.length a0q, .slice a1p d1.nets.length a1q, .slice a2p d1.ports.length a2q]) d1 from ⟨ah.1.out, ah.2.1.out, ah.2.2.out⟩); clear ah; have hS := Lib.hid (keep4 (by assumption) hb); have zL := (Hid.out hS).2.2.2.2.2) | ((go_at_call 28; refine (HSP.out _ (vec [.slice a0p d1.insts.length a0q, .slice a1p d1.nets.length a1q, .slice a2p d1.ports.length a2q]) _ (aU.out.up (by (repeat (with_reducible first | exact eR _ _ | assumption | refine eA ?_ _ | refine eD ?_ | refine eN ?_ _ | refine eS ?_ _ | refine eT ?_ (by assumption))))) (aV.out.up (by (repeat (with_reducible first | exact eR _ _ | assumption | refine eA ?_ _ | refine eD ?_ | refine eN ?_ _ | refine eS ?_ _ | refine eT ?_ (by assumption)))))).mono ?_; rintro e w5 ⟨sv, rfl, hs, hb⟩; have hz := hb.size; (try simp at hz)); obtain ⟨sp, sq, rfl⟩ := hs.slice; have S5 := Lib.hid hs.ints; clear hs; have hS := Lib.hid (keep4 (by assumption) hb); have zL := (Hid.out hS).2.2.2.2.2))
  all_goals
    obtain ⟨s0, s1, s2, s3, B5w, _⟩ := hS.out
    go_wp2_with fail
    (go_at_call 29; refine (toLibrary_any _ ts0 _ (H0.out.up (by (repeat (with_reducible first | exact eR _ _ | assumption | refine eA ?_ _ | refine eD ?_ | refine eN ?_ _ | refine eS ?_ _ | refine eT ?_ (by assumption))))) hm).mono ?_; rintro e w6 ⟨bu, rfl, bh, hb⟩; obtain ⟨hc, hf⟩ := bcell hb; have hz := hb.size; (try simp at hz); (try (have hz := Nat.lt_of_succ_le hz)); (try (have y0 : w.heap.size ≤ w6.heap.size := by omega)); (try (have z0 : w.heap.size < w6.heap.size := by omega)); (try (have z1 : w.heap.size + 1 < w6.heap.size := by omega)); (try (have z2 : w.heap.size + 1 + 1 < w6.heap.size := by omega)); (try (have z3 : w.heap.size + 1 + 1 + 1 < w6.heap.size := by omega)); (try (have z4 : w.heap.size + 1 + 1 + 1 + 1 < w6.heap.size := by omega))); obtain ⟨bp, bq, rfl⟩ := bh.slice; have bU := Lib.hid (show CellsS w6 w6.heap.size (.slice bp ts0.length bq) ts0 from bh.out); have BK := Lib.hid (show CellsZ w6 w5.heap.size w6.heap.size (.slice bp ts0.length bq) ts0 from bh.marking hm); clear bh
    go_wp2_with fail
    (go_at_call 30; refine (toDes_any f1 d1 _ (H1.out.up (by (repeat (with_reducible first | exact eR _ _ | assumption | refine eA ?_ _ | refine eD ?_ | refine eN ?_ _ | refine eS ?_ _ | refine eT ?_ (by assumption))))) hm1).mono ?_; rintro e w7 ⟨bv0, bv1, bv2, rfl, bh, hb⟩; obtain ⟨hc, hf⟩ := bcell hb; have hz := hb.size; (try simp at hz); (try (have hz := Nat.lt_of_succ_le hz)); (try (have y0 : w.heap.size ≤ w7.heap.size := by omega)); (try (have z0 : w.heap.size < w7.heap.size := by omega)); (try (have z1 : w.heap.size + 1 < w7.heap.size := by omega)); (try (have z2 : w.heap.size + 1 + 1 < w7.heap.size := by omega)); (try (have z3 : w.heap.size + 1 + 1 + 1 < w7.heap.size := by omega)); (try (have z4 : w.heap.size + 1 + 1 + 1 + 1 < w7.heap.size := by omega))); obtain ⟨b0p, b0q, rfl⟩ := bh.1.slice; obtain ⟨b1p, b1q, rfl⟩ := bh.2.1.slice; obtain ⟨b2p, b2q, rfl⟩ := bh.2.2.slice; have bV := Lib.hid (show DesF w7 w7.heap.size (vec [.slice b0p d1.insts.length b0q, .slice b1p d1.nets.length b1q, .slice b2p d1.ports.length b2q]) d1 from ⟨bh.1.out, bh.2.1.out, bh.2.2.out⟩); have DK := Lib.hid (show DesZ w7 (w6.heap.size + 1) w7.heap.size (vec [.slice b0p d1.insts.length b0q, .slice b1p d1.nets.length b1q, .slice b2p d1.ports.length b2q]) d1 from OwnDes.marking (OwnDes.mono (show OwnDes w7 _ (vec [.slice b0p d1.insts.length b0q, .slice b1p d1.nets.length b1q, .slice b2p d1.ports.length b2q]) d1 from bh) (by simp)) hm1); clear bh
    go_wp2_with fail
    (go_at_call 31; refine (HIM.out _ (vec [.slice b0p d1.insts.length b0q, .slice b1p d1.nets.length b1q, .slice b2p d1.ports.length b2q]) _ (bU.out.up (by (repeat (with_reducible first | exact eR _ _ | assumption | refine eA ?_ _ | refine eD ?_ | refine eN ?_ _ | refine eS ?_ _ | refine eT ?_ (by assumption))))) (bV.out.up (by (repeat (with_reducible first | exact eR _ _ | assumption | refine eA ?_ _ | refine eD ?_ | refine eN ?_ _ | refine eS ?_ _ | refine eT ?_ (by assumption)))))).mono ?_; rintro e w8 ⟨gv, rfl, hg, hb⟩; obtain ⟨hc, hf⟩ := bcell hb; have hz := hb.size; (try simp at hz); (try (have hz := Nat.lt_of_succ_le hz)); (try (have y0 : w.heap.size ≤ w8.heap.size := by omega)); (try (have z0 : w.heap.size < w8.heap.size := by omega)); (try (have z1 : w.heap.size + 1 < w8.heap.size := by omega)); (try (have z2 : w.heap.size + 1 + 1 < w8.heap.size := by omega)); (try (have z3 : w.heap.size + 1 + 1 + 1 < w8.heap.size := by omega)); (try (have z4 : w.heap.size + 1 + 1 + 1 + 1 < w8.heap.size := by omega)))
    obtain ⟨gp, gq, rfl⟩ := hg.slice
    have G8 := Lib.hid (OwnS.mono (C := w7.heap.size + 1) hg (by simp))
    clear hg
    go_wp2_with fail
    (go_at_call 16; refine (eqInt64S_same _ _ xs _ (G8.out.ints) (S5.out.up (by (repeat (with_reducible first | exact eR _ _ | assumption | refine eA ?_ _ | refine eD ?_ | refine eN ?_ _ | refine eS ?_ _ | refine eT ?_ (by assumption)))))).mono ?_; rintro e w8b ⟨rfl, hb⟩; obtain ⟨hc, hf⟩ := bcell hb; have hz := hb.size; (try simp at hz); (try (have hz := Nat.lt_of_succ_le hz)); (try (have y0 : w.heap.size ≤ w8b.heap.size := by omega)); (try (have z0 : w.heap.size < w8b.heap.size := by omega)); (try (have z1 : w.heap.size + 1 < w8b.heap.size := by omega)); (try (have z2 : w.heap.size + 1 + 1 < w8b.heap.size := by omega)); (try (have z3 : w.heap.size + 1 + 1 + 1 < w8b.heap.size := by omega)); (try (have z4 : w.heap.size + 1 + 1 + 1 + 1 < w8b.heap.size := by omega)))
    have dd0 : w8b.cell? ⟨w.heap.size, 0, none⟩ = some v0x0 := cell_keep s0 (by (repeat (with_reducible first | exact eR _ _ | assumption | refine eA ?_ _ | refine eD ?_ | refine eN ?_ _ | refine eS ?_ _ | refine eT ?_ (by assumption))))
    have dd1 : w8b.cell? ⟨w.heap.size + 1, 0, none⟩ = some (f1 0) := cell_keep s1 (by (repeat (with_reducible first | exact eR _ _ | assumption | refine eA ?_ _ | refine eD ?_ | refine eN ?_ _ | refine eS ?_ _ | refine eT ?_ (by assumption))))
    have dd2 : w8b.cell? ⟨w.heap.size + 1, 1, none⟩ = some (f1 1) := cell_keep s2 (by (repeat (with_reducible first | exact eR _ _ | assumption | refine eA ?_ _ | refine eD ?_ | refine eN ?_ _ | refine eS ?_ _ | refine eT ?_ (by assumption))))
    have dd3 : w8b.cell? ⟨w.heap.size + 1, 2, none⟩ = some (f1 2) := cell_keep s3 (by (repeat (with_reducible first | exact eR _ _ | assumption | refine eA ?_ _ | refine eD ?_ | refine eN ?_ _ | refine eS ?_ _ | refine eT ?_ (by assumption))))
    have ee0 : w8b.cell? ⟨w6.heap.size, 0, none⟩ = some (.slice bp ts0.length bq) := cell_keep (w0 := w6.alloc (Obj.cells #[.slice bp ts0.length bq] 38)) (by simp [go_sem]) (by (repeat (with_reducible first | exact eR _ _ | assumption | refine eA ?_ _ | refine eD ?_ | refine eN ?_ _ | refine eS ?_ _ | refine eT ?_ (by assumption))))
    have ee1 : w8b.cell? ⟨w7.heap.size, 0, none⟩ = some (.slice b0p d1.insts.length b0q) := cell_keep (w0 := w7.alloc (Obj.cells #[.slice b0p d1.insts.length b0q, .slice b1p d1.nets.length b1q, .slice b2p d1.ports.length b2q] 42)) (by simp [go_sem]) (by (repeat (with_reducible first | exact eR _ _ | assumption | refine eA ?_ _ | refine eD ?_ | refine eN ?_ _ | refine eS ?_ _ | refine eT ?_ (by assumption))))
    have ee2 : w8b.cell? ⟨w7.heap.size, 1, none⟩ = some (.slice b1p d1.nets.length b1q) := cell_keep (w0 := w7.alloc (Obj.cells #[.slice b0p d1.insts.length b0q, .slice b1p d1.nets.length b1q, .slice b2p d1.ports.length b2q] 42)) (by simp [go_sem]) (by (repeat (with_reducible first | exact eR _ _ | assumption | refine eA ?_ _ | refine eD ?_ | refine eN ?_ _ | refine eS ?_ _ | refine eT ?_ (by assumption))))
    have ee3 : w8b.cell? ⟨w7.heap.size, 2, none⟩ = some (.slice b2p d1.ports.length b2q) := cell_keep (w0 := w7.alloc (Obj.cells #[.slice b0p d1.insts.length b0q, .slice b1p d1.nets.length b1q, .slice b2p d1.ports.length b2q] 42)) (by simp [go_sem]) (by (repeat (with_reducible first | exact eR _ _ | assumption | refine eA ?_ _ | refine eD ?_ | refine eN ?_ _ | refine eS ?_ _ | refine eT ?_ (by assumption))))
    have bU8 := Lib.hid (bU.out.up (by (repeat (with_reducible first | exact eR _ _ | assumption | refine eA ?_ _ | refine eD ?_ | refine eN ?_ _ | refine eS ?_ _ | refine eT ?_ (by assumption)))) : CellsS w8b _ _ _)
    have bV8 := Lib.hid (bV.out.up (by (repeat (with_reducible first | exact eR _ _ | assumption | refine eA ?_ _ | refine eD ?_ | refine eN ?_ _ | refine eS ?_ _ | refine eT ?_ (by assumption)))) : DesF w8b _ _ _)
    have BK8 := Lib.hid (BK.out.sk (Sk.below (L := 0) (R := 0) (by (repeat (with_reducible first | exact eR _ _ | assumption | refine eA ?_ _ | refine eD ?_ | refine eN ?_ _ | refine eS ?_ _ | refine eT ?_ (by assumption))))) : CellsZ w8b _ _ _ _)
    have DK8 := Lib.hid (DK.out.sk (Sk.below (L := 0) (R := 0) (by (repeat (with_reducible first | exact eR _ _ | assumption | refine eA ?_ _ | refine eD ?_ | refine eN ?_ _ | refine eS ?_ _ | refine eT ?_ (by assumption))))) : DesZ w8b _ _ _ _)
    have G8b := Lib.hid (G8.out.keep (by (repeat (with_reducible first | exact eR _ _ | assumption | refine eA ?_ _ | refine eD ?_ | refine eN ?_ _ | refine eS ?_ _ | refine eT ?_ (by assumption)))) : OwnS w8b _ _ _)
    have P8 := Lib.hid (show Below w5.heap.size w5 w8b by (repeat (with_reducible first | exact eR _ _ | assumption | refine eA ?_ _ | refine eD ?_ | refine eN ?_ _ | refine eS ?_ _ | refine eT ?_ (by assumption))))
    have S8 := Lib.hid (IntS.keep (C := w5.heap.size) S5.out P8.out (Nat.le_refl _))
    have L6 : w6.heap.size < w8b.heap.size := cell_lt ee0
    have L7 : w7.heap.size < w8b.heap.size := cell_lt ee1
    have L5 : w.heap.size + 1 < w5.heap.size := cell_lt s1
    have L56 : w5.heap.size ≤ w6.heap.size := by omega
    have L67 : w6.heap.size + 1 ≤ w7.heap.size := by omega
    have B8 : Below w.heap.size w w8b := by (repeat (with_reducible first | exact eR _ _ | assumption | refine eA ?_ _ | refine eD ?_ | refine eN ?_ _ | refine eS ?_ _ | refine eT ?_ (by assumption)))
    clear G8 S5 BK DK bU bV
    go_wp2
    clear hc hf
    go_region_held3 (fun w' => w'.cell? ⟨w.heap.size, 0, none⟩ = some v0x0 ∧ w'.cell? ⟨w.heap.size + 1, 0, none⟩ = some (f1 0) ∧ w'.cell? ⟨w.heap.size + 1, 1, none⟩ = some (f1 1) ∧ w'.cell? ⟨w.heap.size + 1, 2, none⟩ = some (f1 2) ∧ w'.cell? ⟨w6.heap.size, 0, none⟩ = some (.slice bp ts0.length bq) ∧ w'.cell? ⟨w7.heap.size, 0, none⟩ = some (.slice b0p d1.insts.length b0q) ∧ w'.cell? ⟨w7.heap.size, 1, none⟩ = some (.slice b1p d1.nets.length b1q) ∧ w'.cell? ⟨w7.heap.size, 2, none⟩ = some (.slice b2p d1.ports.length b2q) ∧ Below w.heap.size w w' ∧ w7.heap.size < w'.heap.size) (first | exact (Hid.out (by assumption)) | exact keep8 (Hid.out (by assumption)) ((Below.refl _ _).alloc (Nat.le_refl _) _) | exact keep8s (keep8s (Hid.out (by assumption)) (by first | assumption | (simp; done) | (simp; omega) | omega) (by first | assumption | (simp; done) | (simp; omega) | omega) (by first | assumption | (simp; done) | (simp; omega) | omega) (by first | assumption | (simp; done) | (simp; omega) | omega) (by first | assumption | (simp; done) | (simp; omega) | omega) (by first | assumption | (simp; done) | (simp; omega) | omega) (by first | assumption | (simp; done) | (simp; omega) | omega) (by first | assumption | (simp; done) | (simp; omega) | omega) (by first | assumption | (simp; done) | (simp; omega) | omega) (by first | assumption | (simp; done) | (simp; omega) | omega)) (by first | assumption | (simp; done) | (simp; omega) | omega) (by first | assumption | (simp; done) | (simp; omega) | omega) (by first | assumption | (simp; done) | (simp; omega) | omega) (by first | assumption | (simp; done) | (simp; omega) | omega) (by first | assumption | (simp; done) | (simp; omega) | omega) (by first | assumption | (simp; done) | (simp; omega) | omega) (by first | assumption | (simp; done) | (simp; omega) | omega) (by first | assumption | (simp; done) | (simp; omega) | omega) (by first | assumption | (simp; done) | (simp; omega) | omega) (by first | assumption | (simp; done) | (simp; omega) | omega) | exact keep8s (Hid.out (by assumption)) (by first | assumption | (simp; done) | (simp; omega) | omega) (by first | assumption | (simp; done) | (simp; omega) | omega) (by first | assumption | (simp; done) | (simp; omega) | omega) (by first | assumption | (simp; done) | (simp; omega) | omega) (by first | assumption | (simp; done) | (simp; omega) | omega) (by first | assumption | (simp; done) | (simp; omega) | omega) (by first | assumption | (simp; done) | (simp; omega) | omega) (by first | assumption | (simp; done) | (simp; omega) | omega) (by first | assumption | (simp; done) | (simp; omega) | omega) (by first | assumption | (simp; done) | (simp; omega) | omega) | ((repeat' apply And.intro) <;> first | assumption | ((repeat (with_reducible first | exact eR _ _ | assumption | refine eA ?_ _ | refine eD ?_ | refine eN ?_ _ | refine eS ?_ _ | refine eT ?_ (by assumption))); done) | (simp [go_sem]; done) | (simp [go_sem, *]; done) | (simp; omega) | omega)) (first | ((go_at_call 29; refine (toLibrary_any _ ts0 _ (H0.out.up (by (repeat (with_reducible first | exact eR _ _ | assumption | refine eA ?_ _ | refine eD ?_ | refine eN ?_ _ | refine eS ?_ _ | refine eT ?_ (by assumption))))) hm).mono ?_; rintro e w9 ⟨cu, rfl, ch, hb⟩; have hz := hb.size; (try simp at hz)); obtain ⟨cp, cq, rfl⟩ := ch.slice; have cU := Lib.hid (show CellsS w9 w9.heap.size (.slice cp ts0.length cq) ts0 from ch.out); clear ch; have hS := Lib.hid (keep8 (by assumption) hb); have zL := (Hid.out hS).2.2.2.2.2.2.2.2.2) | ((go_at_call 32; refine (eqLibrary_same _ _ ts0 _ (bU8.out.up (by (repeat (with_reducible first | exact eR _ _ | assumption | refine eA ?_ _ | refine eD ?_ | refine eN ?_ _ | refine eS ?_ _ | refine eT ?_ (by assumption))))) (cU.out.up (by (repeat (with_reducible first | exact eR _ _ | assumption | refine eA ?_ _ | refine eD ?_ | refine eN ?_ _ | refine eS ?_ _ | refine eT ?_ (by assumption)))))).mono ?_; rintro e w10 ⟨rfl, hb⟩; have hz := hb.size; (try simp at hz)); have hS := Lib.hid (keep8 (by assumption) hb); have zL := (Hid.out hS).2.2.2.2.2.2.2.2.2))
    all_goals
      have bV10 := Lib.hid (bV8.out.up (by (repeat (with_reducible first | exact eR _ _ | assumption | refine eA ?_ _ | refine eD ?_ | refine eN ?_ _ | refine eS ?_ _ | refine eT ?_ (by assumption)))) : DesF w10 _ _ _)
      have P10 := Lib.hid (show Below w8b.heap.size w8b w10 by (repeat (with_reducible first | exact eR _ _ | assumption | refine eA ?_ _ | refine eD ?_ | refine eN ?_ _ | refine eS ?_ _ | refine eT ?_ (by assumption))))
      obtain ⟨t0, t1, t2, t3, t4, t5, t6, t7, B10, _⟩ := hS.out
      clear s0 s1 s2 s3
      go_wp2
      go_region_held3 (fun w' => w'.cell? ⟨w.heap.size, 0, none⟩ = some v0x0 ∧ w'.cell? ⟨w.heap.size + 1, 0, none⟩ = some (f1 0) ∧ w'.cell? ⟨w.heap.size + 1, 1, none⟩ = some (f1 1) ∧ w'.cell? ⟨w.heap.size + 1, 2, none⟩ = some (f1 2) ∧ w'.cell? ⟨w6.heap.size, 0, none⟩ = some (.slice bp ts0.length bq) ∧ w'.cell? ⟨w7.heap.size, 0, none⟩ = some (.slice b0p d1.insts.length b0q) ∧ w'.cell? ⟨w7.heap.size, 1, none⟩ = some (.slice b1p d1.nets.length b1q) ∧ w'.cell? ⟨w7.heap.size, 2, none⟩ = some (.slice b2p d1.ports.length b2q) ∧ Below w.heap.size w w' ∧ w7.heap.size < w'.heap.size) (first | exact (Hid.out (by assumption)) | exact keep8 (Hid.out (by assumption)) ((Below.refl _ _).alloc (Nat.le_refl _) _) | exact keep8s (keep8s (Hid.out (by assumption)) (by first | assumption | (simp; done) | (simp; omega) | omega) (by first | assumption | (simp; done) | (simp; omega) | omega) (by first | assumption | (simp; done) | (simp; omega) | omega) (by first | assumption | (simp; done) | (simp; omega) | omega) (by first | assumption | (simp; done) | (simp; omega) | omega) (by first | assumption | (simp; done) | (simp; omega) | omega) (by first | assumption | (simp; done) | (simp; omega) | omega) (by first | assumption | (simp; done) | (simp; omega) | omega) (by first | assumption | (simp; done) | (simp; omega) | omega) (by first | assumption | (simp; done) | (simp; omega) | omega)) (by first | assumption | (simp; done) | (simp; omega) | omega) (by first | assumption | (simp; done) | (simp; omega) | omega) (by first | assumption | (simp; done) | (simp; omega) | omega) (by first | assumption | (simp; done) | (simp; omega) | omega) (by first | assumption | (simp; done) | (simp; omega) | omega) (by first | assumption | (simp; done) | (simp; omega) | omega) (by first | assumption | (simp; done) | (simp; omega) | omega) (by first | assumption | (simp; done) | (simp; omega) | omega) (by first | assumption | (simp; done) | (simp; omega) | omega) (by first | assumption | (simp; done) | (simp; omega) | omega) | exact keep8s (Hid.out (by assumption)) (by first | assumption | (simp; done) | (simp; omega) | omega) (by first | assumption | (simp; done) | (simp; omega) | omega) (by first | assumption | (simp; done) | (simp; omega) | omega) (by first | assumption | (simp; done) | (simp; omega) | omega) (by first | assumption | (simp; done) | (simp; omega) | omega) (by first | assumption | (simp; done) | (simp; omega) | omega) (by first | assumption | (simp; done) | (simp; omega) | omega) (by first | assumption | (simp; done) | (simp; omega) | omega) (by first | assumption | (simp; done) | (simp; omega) | omega) (by first | assumption | (simp; done) | (simp; omega) | omega) | ((repeat' apply And.intro) <;> first | assumption | ((repeat (with_reducible first | exact eR _ _ | assumption | refine eA ?_ _ | refine eD ?_ | refine eN ?_ _ | refine eS ?_ _ | refine eT ?_ (by assumption))); done) | (simp [go_sem]; done) | (simp [go_sem, *]; done) | (simp; omega) | omega)) (first | ((go_at_call 30; refine (toDes_any f1 d1 _ (H1.out.up (by (repeat (with_reducible first | exact eR _ _ | assumption | refine eA ?_ _ | refine eD ?_ | refine eN ?_ _ | refine eS ?_ _ | refine eT ?_ (by assumption))))) hm1).mono ?_; rintro e w11 ⟨dv0, dv1, dv2, rfl, dh, hb⟩; have hz := hb.size; (try simp at hz)); obtain ⟨d0p, d0q, rfl⟩ := dh.1.slice; obtain ⟨d1p, d1q, rfl⟩ := dh.2.1.slice; obtain ⟨d2p, d2q, rfl⟩ := dh.2.2.slice; have dV := Lib.hid (show DesF w11 w11.heap.size (vec [.slice d0p d1.insts.length d0q, .slice d1p d1.nets.length d1q, .slice d2p d1.ports.length d2q]) d1 from ⟨dh.1.out, dh.2.1.out, dh.2.2.out⟩); clear dh; have hS := Lib.hid (keep8 (by assumption) hb); have zL := (Hid.out hS).2.2.2.2.2.2.2.2.2) | ((go_at_call 33; refine (eqDes_same (vec [.slice b0p d1.insts.length b0q, .slice b1p d1.nets.length b1q, .slice b2p d1.ports.length b2q]) (vec [.slice d0p d1.insts.length d0q, .slice d1p d1.nets.length d1q, .slice d2p d1.ports.length d2q]) d1 _ (bV10.out.up (by (repeat (with_reducible first | exact eR _ _ | assumption | refine eA ?_ _ | refine eD ?_ | refine eN ?_ _ | refine eS ?_ _ | refine eT ?_ (by assumption))))) (dV.out.up (by (repeat (with_reducible first | exact eR _ _ | assumption | refine eA ?_ _ | refine eD ?_ | refine eN ?_ _ | refine eS ?_ _ | refine eT ?_ (by assumption)))))).mono ?_; rintro e w12 ⟨rfl, hb⟩; have hz := hb.size; (try simp at hz)); have hS := Lib.hid (keep8 (by assumption) hb); have zL := (Hid.out hS).2.2.2.2.2.2.2.2.2))
      all_goals
        have P12 := Lib.hid (P10.out.trans ((show Below w10.heap.size w10 w12 by (repeat (with_reducible first | exact eR _ _ | assumption | refine eA ?_ _ | refine eD ?_ | refine eN ?_ _ | refine eS ?_ _ | refine eT ?_ (by assumption)))).mono P10.out.size))
        have n12 := P12.out.size
        obtain ⟨q0, q1, q2, q3, q4, q5, q6, q7, B12, _⟩ := hS.out
        have BK12 := Lib.hid (BK8.out.sk (Sk.below (L := 0) (R := 0) P12.out) : CellsZ w12 _ _ _ _)
        have DK12 := Lib.hid (DK8.out.sk (Sk.below (L := 0) (R := 0) P12.out) : DesZ w12 _ _ _ _)
        have G12 := Lib.hid (G8b.out.keep P12.out : OwnS w12 _ _ _)
        have S12 := Lib.hid (IntS.keep (C := w5.heap.size) S8.out (P12.out.mono (by omega)) (Nat.le_refl _))
        clear hS BK8 DK8 G8b S8 dV cU bU8 bV8 bV10
        go_upto_region 19 with fail
        go_wp2_with fail
        go_at_call 34
        refine (markLibrary_w _ ts0 1 w5.heap.size w6.heap.size _ BK12.out (by omega) (by omega) (by omega)).mono ?_
        rintro e w13 ⟨kq, rfl, kq0, kq1, sk⟩
        have n13 := sk.size
        have DK13 := Lib.hid (DK12.out.sk sk)
        have G13 := Lib.hid (OwnS.sk G12.out sk (by omega))
        have S13 := Lib.hid (IntS.sk S12.out sk (Nat.le_refl _) (by omega))
        have B13 := Lib.hid (B12.trans (sk.out (by omega) (by omega)))
        have x0 := Lib.hid (sk.keepC q0 (.inl (by omega)))
        have x1 := Lib.hid (sk.keepC q1 (.inl (by omega)))
        have x2 := Lib.hid (sk.keepC q2 (.inl (by omega)))
        have x3 := Lib.hid (sk.keepC q3 (.inl (by omega)))
        have x4 := Lib.hid (sk.keepC q4 (.inr (by omega)))
        have x5 := Lib.hid (sk.keepC q5 (.inr (by omega)))
        have x6 := Lib.hid (sk.keepC q6 (.inr (by omega)))
        have x7 := Lib.hid (sk.keepC q7 (.inr (by omega)))
        have y4 := x4.out
        have y5 := x5.out
        have y6 := x6.out
        have y7 := x7.out
        clear sk BK12 DK12 G12 S12 q0 q1 q2 q3 q4 q5 q6 q7
        go_wp2_with fail
        go_at_call 35
        refine (markDes_w (vec [.slice b0p d1.insts.length b0q, .slice b1p d1.nets.length b1q, .slice b2p d1.ports.length b2q]) d1 kq (w6.heap.size + 1) w7.heap.size _ DK13.out (by omega) (by omega) (by omega) (by omega)).mono ?_
        rintro e w14 ⟨kp, rfl, kp0, kp1, sk⟩
        have n14 := sk.size
        have G14 := Lib.hid (OwnS.sk G13.out sk (by omega))
        have S14 := Lib.hid (IntS.sk S13.out sk (by omega) (by omega))
        have B14 := Lib.hid (B13.out.trans (sk.out (by omega) (by have := B13.out.size; omega)))
        have kk : ¬ kp < 0 := by omega
        have zk0 := Lib.hid (sk.keepC x0.out (.inl (by omega)))
        have zk1 := Lib.hid (sk.keepC x1.out (.inl (by omega)))
        have zk2 := Lib.hid (sk.keepC x2.out (.inl (by omega)))
        have zk3 := Lib.hid (sk.keepC x3.out (.inl (by omega)))
        clear sk DK13 G13 S13 B13 y4 y5 y6 y7
        go_wp2_with fail
        (go_at_call 16; refine (eqInt64S_same _ _ xs _ (IntS.keep G14.out.ints (Below.refl _ _) (Nat.le_refl _)) (IntS.keep S14.out (Below.refl _ _) (by omega))).mono ?_; rintro e w15 ⟨rfl, hb⟩; obtain ⟨hc, hf⟩ := bcell hb; have hz := hb.size; (try simp at hz); (try (have hz := Nat.lt_of_succ_le hz)); (try (have y0 : w.heap.size ≤ w15.heap.size := by omega)); (try (have z0 : w.heap.size < w15.heap.size := by omega)); (try (have z1 : w.heap.size + 1 < w15.heap.size := by omega)); (try (have z2 : w.heap.size + 1 + 1 < w15.heap.size := by omega)); (try (have z3 : w.heap.size + 1 + 1 + 1 < w15.heap.size := by omega)); (try (have z4 : w.heap.size + 1 + 1 + 1 + 1 < w15.heap.size := by omega)))
        have S15 := Lib.hid (IntS.keep (C := w5.heap.size) S14.out (hb.mono (by omega)) (Nat.le_refl _))
        have G15 := Lib.hid (G14.out.keep hb)
        have n15 := hb.size
        have B15 := Lib.hid (B14.out.trans (hb.mono B14.out.size))
        have u0 := Lib.hid (cell_keep zk0.out hb)
        have u1 := Lib.hid (cell_keep zk1.out hb)
        have u2 := Lib.hid (cell_keep zk2.out hb)
        have u3 := Lib.hid (cell_keep zk3.out hb)
        clear hc hf hb S14 G14 B14
        go_wp2_with fail
        go_at_call 18
        refine (markInt64S_any _ xs 1 (w7.heap.size + 1) _ G15.out (by omega) (by omega)).mono ?_
        rintro e w16 ⟨rfl, hm16, mk⟩
        have b16 : Below (w7.heap.size + 1) w15 w16 := mk.below G15.out
        have M16 := Lib.hid hm16
        have S16 := Lib.hid (IntS.keep (C := w5.heap.size) S15.out (b16.mono (by omega)) (Nat.le_refl _))
        have n16 := b16.size
        have B16 := B15.out.trans (b16.mono (by omega))
        have v0 : w16.cell? ⟨w.heap.size, 0, none⟩ = some v0x0 := by rw [b16.cell (by show w.heap.size < _; omega)]; exact u0.out
        have v1 : w16.cell? ⟨w.heap.size + 1, 0, none⟩ = some (f1 0) := by rw [b16.cell (by show w.heap.size + 1 < _; omega)]; exact u1.out
        have v2 : w16.cell? ⟨w.heap.size + 1, 1, none⟩ = some (f1 1) := by rw [b16.cell (by show w.heap.size + 1 < _; omega)]; exact u2.out
        have v3 : w16.cell? ⟨w.heap.size + 1, 2, none⟩ = some (f1 2) := by rw [b16.cell (by show w.heap.size + 1 < _; omega)]; exact u3.out
        clear mk hm16 b16 G15 S15 B15
        go_wp2_with fail
        go_at_call 19
        refine (heldInt64S_any _ 1 xs.length (w7.heap.size + 1) _ M16.out (by omega) (by omega)).mono ?_
        rintro e w17 ⟨rfl, rfl⟩
        have hq : ¬ (1 : Int) + xs.length < 0 := by omega
        have l16 : w.heap.size + 1 < w17.heap.size := by omega
        go_upto_region 31 with fail
        go_region_held3 (fun w' => w'.cell? ⟨w.heap.size, 0, none⟩ = some v0x0 ∧ w'.cell? ⟨w.heap.size + 1, 0, none⟩ = some (f1 0) ∧ w'.cell? ⟨w.heap.size + 1, 1, none⟩ = some (f1 1) ∧ w'.cell? ⟨w.heap.size + 1, 2, none⟩ = some (f1 2) ∧ Below w.heap.size w w' ∧ w.heap.size + 1 < w'.heap.size) (first | exact (Hid.out (by assumption)) | exact keep4 (Hid.out (by assumption)) ((Below.refl _ _).alloc (Nat.le_refl _) _) | exact keep4s (keep4s (Hid.out (by assumption)) (by first | assumption | (simp; done) | (simp; omega) | omega) (by first | assumption | (simp; done) | (simp; omega) | omega) (by first | assumption | (simp; done) | (simp; omega) | omega) (by first | assumption | (simp; done) | (simp; omega) | omega) (by first | assumption | (simp; done) | (simp; omega) | omega) (by first | assumption | (simp; done) | (simp; omega) | omega)) (by first | assumption | (simp; done) | (simp; omega) | omega) (by first | assumption | (simp; done) | (simp; omega) | omega) (by first | assumption | (simp; done) | (simp; omega) | omega) (by first | assumption | (simp; done) | (simp; omega) | omega) (by first | assumption | (simp; done) | (simp; omega) | omega) (by first | assumption | (simp; done) | (simp; omega) | omega) | exact keep4s (Hid.out (by assumption)) (by first | assumption | (simp; done) | (simp; omega) | omega) (by first | assumption | (simp; done) | (simp; omega) | omega) (by first | assumption | (simp; done) | (simp; omega) | omega) (by first | assumption | (simp; done) | (simp; omega) | omega) (by first | assumption | (simp; done) | (simp; omega) | omega) (by first | assumption | (simp; done) | (simp; omega) | omega) | ((repeat' apply And.intro) <;> first | assumption | ((repeat (with_reducible first | exact eR _ _ | assumption | refine eA ?_ _ | refine eD ?_ | refine eN ?_ _ | refine eS ?_ _ | refine eT ?_ (by assumption))); done) | (simp [go_sem]; done) | (simp [go_sem, *]; done) | (simp; omega) | omega)) (first | ((go_at_call 29; refine (toLibrary_any _ ts0 _ (H0.out.up (by (repeat (with_reducible first | exact eR _ _ | assumption | refine eA ?_ _ | refine eD ?_ | refine eN ?_ _ | refine eS ?_ _ | refine eT ?_ (by assumption))))) hm).mono ?_; rintro e w18 ⟨mu, rfl, mh, hb⟩; have hz := hb.size; (try simp at hz)); obtain ⟨mp, mq, rfl⟩ := mh.slice; have mU := Lib.hid (show CellsS w18 w18.heap.size (.slice mp ts0.length mq) ts0 from mh.out); clear mh; have hS := Lib.hid (keep4 (by assumption) hb); have zL := (Hid.out hS).2.2.2.2.2) | ((go_at_call 30; refine (toDes_any f1 d1 _ (H1.out.up (by (repeat (with_reducible first | exact eR _ _ | assumption | refine eA ?_ _ | refine eD ?_ | refine eN ?_ _ | refine eS ?_ _ | refine eT ?_ (by assumption))))) hm1).mono ?_; rintro e w19 ⟨mv0, mv1, mv2, rfl, mh, hb⟩; have hz := hb.size; (try simp at hz)); obtain ⟨m0p, m0q, rfl⟩ := mh.1.slice; obtain ⟨m1p, m1q, rfl⟩ := mh.2.1.slice; obtain ⟨m2p, m2q, rfl⟩ := mh.2.2.slice; have mV := Lib.hid (show DesF w19 w19.heap.size (vec [.slice m0p d1.insts.length m0q, .slice m1p d1.nets.length m1q, .slice m2p d1.ports.length m2q]) d1 from ⟨mh.1.out, mh.2.1.out, mh.2.2.out⟩); clear mh; have hS := Lib.hid (keep4 (by assumption) hb); have zL := (Hid.out hS).2.2.2.2.2) | ((go_at_call 31; refine (HIM.out _ (vec [.slice m0p d1.insts.length m0q, .slice m1p d1.nets.length m1q, .slice m2p d1.ports.length m2q]) _ (mU.out.up (by (repeat (with_reducible first | exact eR _ _ | assumption | refine eA ?_ _ | refine eD ?_ | refine eN ?_ _ | refine eS ?_ _ | refine eT ?_ (by assumption))))) (mV.out.up (by (repeat (with_reducible first | exact eR _ _ | assumption | refine eA ?_ _ | refine eD ?_ | refine eN ?_ _ | refine eS ?_ _ | refine eT ?_ (by assumption)))))).mono ?_; rintro e w20 ⟨kv, rfl, hk, hb⟩; have hz := hb.size; (try simp at hz)); obtain ⟨kvp, kvq, rfl⟩ := hk.slice; have K20 := Lib.hid hk.ints; clear hk; have hS := Lib.hid (keep4 (by assumption) hb); have zL := (Hid.out hS).2.2.2.2.2))
        all_goals
          have P20 := Lib.hid (show Below w17.heap.size w17 w20 by (repeat (with_reducible first | exact eR _ _ | assumption | refine eA ?_ _ | refine eD ?_ | refine eN ?_ _ | refine eS ?_ _ | refine eT ?_ (by assumption))))
          have B20 := hS.out.2.2.2.2.1
          have S20 := Lib.hid (IntS.keep (C := w20.heap.size) S16.out (P20.out.mono (by omega)) (by have := P20.out.size; omega))
          have M20 := Lib.hid (M16.out.keep P20.out)
          clear hS
          go_wp2_with fail
          (go_at_call 16; refine (eqInt64S_same _ _ xs _ (K20.out) (S20.out)).mono ?_; rintro e w21 ⟨rfl, hb⟩; obtain ⟨hc, hf⟩ := bcell hb; have hz := hb.size; (try simp at hz); (try (have hz := Nat.lt_of_succ_le hz)); (try (have y0 : w.heap.size ≤ w21.heap.size := by omega)); (try (have z0 : w.heap.size < w21.heap.size := by omega)); (try (have z1 : w.heap.size + 1 < w21.heap.size := by omega)); (try (have z2 : w.heap.size + 1 + 1 < w21.heap.size := by omega)); (try (have z3 : w.heap.size + 1 + 1 + 1 < w21.heap.size := by omega)); (try (have z4 : w.heap.size + 1 + 1 + 1 + 1 < w21.heap.size := by omega)))
          go_wp2_with fail
          go_at_call 19
          refine (heldInt64S_any _ 1 xs.length (w7.heap.size + 1) _ (M20.out.keep (by (repeat (with_reducible first | exact eR _ _ | assumption | refine eA ?_ _ | refine eD ?_ | refine eN ?_ _ | refine eS ?_ _ | refine eT ?_ (by assumption))))) (by omega) (by omega)).mono ?_
          rintro e w22 ⟨rfl, rfl⟩
          go_wp2_with fail
          go_ret
          exact ⟨rfl, by (repeat (with_reducible first | exact eR _ _ | assumption | refine eA ?_ _ | refine eD ?_ | refine eN ?_ _ | refine eS ?_ _ | refine eT ?_ (by assumption)))⟩

set_option maxRecDepth 100000 in
theorem lifted (os : Os) (started : os.Started) (H : Type) (enc : TypeId × Value → H) :
    ReturnsInHanded {} Tryz.checked os 8 .any (Rows.fnExactSinksOfSpec.pre6 enc Tryz.prog Tryz.f8 Rows.fnExactSinksOfRow.domain false) (Rows.fnExactSinksOfSpec.post enc Tryz.prog Tryz.f8 false true false false) := by
  refine returnsInHanded_of_change (C := Tryz.checked) own started (by kernel_rfl) Tryz.func8
    (ChangeSpec.witness6 (enc := enc) (C := Tryz.checked) false ⟨#[], #[.agg #[.slice none 0 0], .agg #[.slice none 0 0, .slice none 0 0, .slice none 0 0], .int .i64 0], []⟩ 8 (by kernel_rfl) (by kernel_rfl) (by kernel_rfl) (by kernel_rfl)) ?_
  intro W base args ds gs before hval0 hW hcnd _
  have hval : ∀ (j : Nat) t v, Tryz.f8.params[j]? = some t → args[j]? = some v → Value.okWide Tryz.prog W .any base t v := hval0
  have hW' := hW
  obtain ⟨p, q, hA0, hV, rfl, hfz, hnd⟩ := hW
  have hA : DataW.TrodAll enc Tryz.prog W 0 (fun _ => true) true Tryz.f8.params.toList args.toList ds p := hA0
  rw [Tryz.params8] at hA hval
  obtain ⟨v0, vs0, d0, ds0, p0, q0, hargs, rfl, rfl, h0, r0⟩ := trodAll_cons hA
  obtain ⟨v1, vs1, d1, ds1, p1, q1, rfl, rfl, rfl, h1, r1⟩ := trodAll_cons r0
  obtain ⟨v2, vs2, d2, ds2, p2, q2, rfl, rfl, rfl, h2, r2⟩ := trodAll_cons r1
  obtain ⟨rfl, rfl, rfl⟩ := trodAll_nil r2
  obtain rfl : args = #[v0, v1, v2] := by cases args; simp_all
  obtain ⟨rfl, rfl⟩ := trodVars_none hV
  have k0 := h0
  have hlt0 : ∀ x ∈ p0, x.block < W.heap.size := fun x hx => hW'.lt x (by first | (simp [hx]; done) | (simp at hx; done) | (simpa using hx))
  have k1 := h1
  have hlt1 : ∀ x ∈ p1, x.block < W.heap.size := fun x hx => hW'.lt x (by first | (simp [hx]; done) | (simp at hx; done) | (simpa using hx))
  have k2 := h2
  have hlt2 : ∀ x ∈ p2, x.block < W.heap.size := fun x hx => hW'.lt x (by first | (simp [hx]; done) | (simp at hx; done) | (simpa using hx))
  obtain ⟨v0x0, ts0, rfl, b0⟩ := Tryz.openLibrary (hval 0 24 v0 rfl rfl) h0
  obtain ⟨f1, d1, rfl, b1⟩ := Tryz.openDesign (hval 1 29 v1 rfl rfl) h1
  obtain ⟨a2, rfl, rfl, rfl, w2⟩ := open_int Tryz.underlying2 (hval 2 2 v2 rfl rfl) h2
  clear hA0 hval0
  refine (walk v0x0 ts0 f1 d1 a2 w2 W b0 b1).mono fun e W' ⟨he, hg⟩ => ?_
  subst he
  exact ⟨_, rfl, post_ext hg (pv := []) hW' (fun _ _ _ => (trodAll_cons_mk (shut_bool Tryz.underlying4 _) trodAll_mk0)) (fun sp hsp => (trodAll_cons_mk (WideElems.Trod_stays laidOut (by kernel_rfl) (of_decide_eq_true (by kernel_rfl)) k0 (fun x hx => hg.same (hlt0 x hx)) (fun x hx => hsp x (by first | (simp [hx]; done) | (simp at hx; done) | (simpa using hx)))) (trodAll_cons_mk (WideElems.Trod_stays laidOut (by kernel_rfl) (of_decide_eq_true (by kernel_rfl)) k1 (fun x hx => hg.same (hlt1 x hx)) (fun x hx => hsp x (by first | (simp [hx]; done) | (simp at hx; done) | (simpa using hx)))) (trodAll_cons_mk (WideElems.Trod_stays laidOut (by kernel_rfl) (of_decide_eq_true (by kernel_rfl)) k2 (fun x hx => hg.same (hlt2 x hx)) (fun x hx => hsp x (by first | (simp [hx]; done) | (simp at hx; done) | (simpa using hx)))) trodAll_mk0)))) (fun _ _ => rfl) rfl
    (ok_one (by kernel_rfl) rfl (okWide_bool_mk Tryz.underlying4 _))⟩

theorem over : Rows.fnExactSinksOfRow.holds Tryz.pinned (OpenSpec.ofChange Rows.fnExactSinksOfSpec) :=
  OpenClaim.holds_of_wide 8 Tryz.f8 rfl rfl rfl rfl rfl rfl rfl ⟨rfl, rfl, rfl, rfl, rfl⟩ rfl rfl rfl rfl rfl (by kernel_rfl) Tryz.func8 (by kernel_rfl)
    (of_decide_eq_true (by kernel_rfl)) (by unfold Func.isWrapper; first | (rw [if_pos (by decide +kernel)]; kernel_rfl) | (rw [if_neg (by decide +kernel)]; exact ⟨rfl, rfl⟩))
    (fun os started H enc _ => lifted os started H enc)

theorem proved : Rows.FnExactSinksOfSaid :=
  over
end Go.Proofs.YtejomclnagakoabGreat.fnExactSinksOf
