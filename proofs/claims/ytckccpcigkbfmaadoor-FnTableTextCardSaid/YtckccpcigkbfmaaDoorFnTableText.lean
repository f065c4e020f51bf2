/-
The law FnTableText answers true at every argument and leaves it as it was; the condition: the library's listed variables read as the program's text lays them (the card ties them to the text).
-/
import Derived.Test.YtckccpcigkbfmaaDoorCards
import Derived.Test.YtckccpcigkbfmaaDoorTie
import Derived.Test.YtckccpcigkbfmaaDoorTabW
import Derived.Test.YtckccpcigkbfmaaDoorScaleI
import Derived.WalkKit
import Derived.ProofKit
import Derived.OpenShut
import Derived.Deep.DeepHandedRow
import Derived.Deep.DeepWitnessRowRef
import Derived.Lib.LaidIn
import Derived.ChangeMaps5
import Derived.WalkSmall
import Derived.LaidLaws
import Derived.Lib.LaidTab
import Derived.Stop.LaidErr
import Derived.Carry
import Derived.WideKeyArgs
import Derived.Lib.SmallJoins
import Derived.Lib.AtoiAllCases
import Derived.Lib.LaidU8
namespace Go.Proofs.YtckccpcigkbfmaaDoor.fnTableText
open Go.ChangeShapes Go.WideShapes Go.ChangeAt Go.RowKit Go.Deep Go.Joins
set_option linter.unusedVariables false
set_option maxRecDepth 100000

theorem own : ownKnob Tryd.prog.godebug = none := by kernel_rfl
theorem laidOut : laidOutB Tryd.prog = true := by kernel_rfl
theorem cellsB : Tryd.prog.cellsOf 5 = 1 := by kernel_rfl
theorem gTabType : (Tryd.prog.globals[3]?).map (·.type) = some 112 := by kernel_rfl
theorem cellsTab : Tryd.prog.cellsOf 112 = 20 := by kernel_rfl
theorem cellsU : Tryd.prog.cellsOf 87 = 1 := by kernel_rfl
theorem table {W : World} (h : laidMetH Tryd.prog Rows.fnTableTextRow.laid W) : Tab W := by
  have h' : laidMet Tryd.prog Rows.fnTableTextRow.laid W := h
  exact Lib.tabIs_of_head gPow gTabType Tryd.underlying112 Tryd.underlying87 cellsU cellsTab (laidMet.tail (laidMet.tail h'))
theorem row_err (u : TypeId) (h : Tryd.prog.typeName? 3 u = some "*errors.errorString") : u = 119 :=
  typeName_ptr_named (nm := "errors.errorString") (by rw [show "*" ++ "errors.errorString" = "*errors.errorString" by decide]; kernel_rfl) (by kernel_rfl) (by decide) u (by rw [show "*" ++ "errors.errorString" = "*errors.errorString" by decide]; exact h)
theorem gSyn : Tryd.prog.globalNamed "strconv.ErrSyntax" = some 1 := by kernel_rfl
theorem gRan : Tryd.prog.globalNamed "strconv.ErrRange" = some 2 := by kernel_rfl
theorem gSynT : (Tryd.prog.globals[1]?).map (·.type) = some 60 := by kernel_rfl
theorem gRanT : (Tryd.prog.globals[2]?).map (·.type) = some 60 := by kernel_rfl
theorem cellsE : Tryd.prog.cellsOf 121 = 1 := by kernel_rfl
theorem cellsS : Tryd.prog.cellsOf 9 = 1 := by kernel_rfl
theorem errs {W : World} (h : laidMetH Tryd.prog Rows.fnTableTextRow.laid W) : Errs W := by
  have h' : laidMet Tryd.prog Rows.fnTableTextRow.laid W := h
  obtain ⟨a0, t0, hv0, _⟩ := laid_sentinel (laidMet.tail (laidMet.tail (laidMet.tail (laidMet.tail h')))) gRan gRanT Tryd.underlying60 row_err Tryd.underlying119 Tryd.underlying121 rfl rfl Tryd.underlying9 cellsE cellsS
  obtain ⟨a1, t1, hv1, _⟩ := laid_sentinel (laidMet.tail (laidMet.tail (laidMet.tail (laidMet.tail (laidMet.tail h'))))) gSyn gSynT Tryd.underlying60 row_err Tryd.underlying119 Tryd.underlying121 rfl rfl Tryd.underlying9 cellsE cellsS
  exact ⟨⟨_, _, hv1⟩, _, _, hv0⟩
theorem tab_data {ss ls vs : List Int} (h : tabB ss ls vs = true) : IsRd (tabS ss ls vs).data.toList ss ls vs := ⟨h, by unfold tabS; rw [if_pos h]⟩
theorem tab_none {ss ls vs : List Int} (h : tabB ss ls vs = false) : ∀ a b c, ¬ IsRd (tabS ss ls vs).data.toList a b c := by
  intro a b c hr
  have e : tabS ss ls vs = ByteArray.mk #[] := by simp [tabS, h]
  exact rd_some hr (by rw [e])
theorem tab_size (ss ls vs : List Int) : (tabS ss ls vs).size ≤ 1048576 := by
  cases h : tabB ss ls vs
  · have e : tabS ss ls vs = ByteArray.mk #[] := by simp [tabS, h]
    rw [e]
    exact Nat.zero_le _
  · have ⟨k0, k1, k2⟩ := tab_small h
    have ⟨e0, e1, e2, _⟩ := tab_get h
    have ⟨_, n0, _⟩ := ax_get e0
    have ⟨_, n1, _⟩ := ax_get e1
    have n2 : vs.length ≤ 16 := by rw [e2]; exact Nat.le_trans (Nat.mul_le_mul n0 n1) (by omega)
    have l0 := lk_len k0 _ (Nat.le_refl _)
    have l1 := lk_len k1 _ (Nat.le_refl _)
    have l2 := lk_len k2 _ (Nat.le_refl _)
    rw [← sz, (tab_data h).2]
    simp only [List.length_append, List.length_cons, List.length_nil]
    unfold listL
    omega
theorem scl_same (vs : List Int) : scl 1000 0 vs = vs := by
  unfold scl
  refine (List.map_congr_left (g := id) (fun x _ => ?_)).trans (List.map_id _)
  have e1 : (x * 1000).tmod 1000 = 0 := Int.mul_tmod_left _ _
  have e2 : (x * 1000).tdiv 1000 = x := Int.mul_tdiv_cancel _ (by omega)
  simp [qd, e1, e2]
set_option maxHeartbeats 8000000 in
theorem walk (v : Value) (n : Nat) (m : Int) (w : World) (h0 : BytesAt w w.heap.size v n) (ht : Tab w) (he : Errs w) (hm : MaxLen w m) :
    Calls Tryd.prog 3 #[v] w fun e w' => e = .returned (.bool true) ∧ Below w.heap.size w w' := by
  have HT := Lib.hid ht; have HE := Lib.hid he; have HM := Lib.hid hm
  clear ht he hm
  by_cases hbig : 4096 < n
  · have hd : decide (4096 < n) = true := by simpa using hbig
    go_enter Tryd.func3, Tryd.ntmps3
    go_wp2_with (go_at_call 5; refine (big_any _ _ _ _ h0).mono ?_; rintro e w1 ⟨rfl, rfl⟩)
    go_ret
    exact ⟨rfl, by (repeat (first | (with_reducible exact Below.refl _ _) | (with_reducible assumption) | (with_reducible refine ext_alloc ?_ _) | (with_reducible refine ext_drew ?_) | (with_reducible refine ext_drewN ?_ _) | (with_reducible refine ext_set ?_ (by first | exact Nat.le_refl _ | (simp; done) | (simp; omega) | omega) _) | (with_reducible refine ext_trans ?_ (by assumption))))⟩
  · have hd : decide (4096 < n) = false := by simpa using hbig
    have HB0 := Lib.hid h0
    clear h0 hbig
    go_enter Tryd.func3, Tryd.ntmps3
    go_wp2_with fail
    go_at_call 5
    refine (big_any _ _ _ _ HB0.out).mono ?_
    rintro e wz ⟨rfl, hwz⟩
    rw [hwz]
    clear hwz wz
    go_wp2_with fail
    go_at_call 6
    refine (drawTT_any _ _ _ HB0.out).mono ?_
    rintro e w1 ⟨t0, t1, t2, ss, ls, vs, rfl, ⟨i0, i1, i2⟩, hb1⟩
    have H0 := Lib.hid i0; have H1 := Lib.hid i1; have H2 := Lib.hid i2
    obtain ⟨_, a0, c0, rfl, _⟩ := i0; obtain ⟨_, a1, c1, rfl, _⟩ := i1; obtain ⟨_, a2, c2, rfl, _⟩ := i2
    have A0 := Lib.hid (show (w1.alloc (Obj.cells #[.slice a0 ss.length c0, .slice a1 ls.length c1, .slice a2 vs.length c2] 26)).cell? ⟨w1.heap.size, 0, none⟩ = some (.slice a0 ss.length c0) by simp [go_sem])
    have A1 := Lib.hid (show (w1.alloc (Obj.cells #[.slice a0 ss.length c0, .slice a1 ls.length c1, .slice a2 vs.length c2] 26)).cell? ⟨w1.heap.size, 1, none⟩ = some (.slice a1 ls.length c1) by simp [go_sem])
    have A2 := Lib.hid (show (w1.alloc (Obj.cells #[.slice a0 ss.length c0, .slice a1 ls.length c1, .slice a2 vs.length c2] 26)).cell? ⟨w1.heap.size, 2, none⟩ = some (.slice a2 vs.length c2) by simp [go_sem])
    clear hd HB0
    go_wp2_with fail
    go_at_call 8
    refine (implTabT_any _ _ _ ss ls vs _ (H0.out.up (by (repeat (first | (with_reducible exact Below.refl _ _) | (with_reducible assumption) | (with_reducible refine ext_alloc ?_ _) | (with_reducible refine ext_drew ?_) | (with_reducible refine ext_drewN ?_ _) | (with_reducible refine ext_set ?_ (by first | exact Nat.le_refl _ | (simp; done) | (simp; omega) | omega) _) | (with_reducible refine ext_trans ?_ (by assumption)))))) (H1.out.up (by (repeat (first | (with_reducible exact Below.refl _ _) | (with_reducible assumption) | (with_reducible refine ext_alloc ?_ _) | (with_reducible refine ext_drew ?_) | (with_reducible refine ext_drewN ?_ _) | (with_reducible refine ext_set ?_ (by first | exact Nat.le_refl _ | (simp; done) | (simp; omega) | omega) _) | (with_reducible refine ext_trans ?_ (by assumption)))))) (H2.out.up (by (repeat (first | (with_reducible exact Below.refl _ _) | (with_reducible assumption) | (with_reducible refine ext_alloc ?_ _) | (with_reducible refine ext_drew ?_) | (with_reducible refine ext_drewN ?_ _) | (with_reducible refine ext_set ?_ (by first | exact Nat.le_refl _ | (simp; done) | (simp; omega) | omega) _) | (with_reducible refine ext_trans ?_ (by assumption)))))) (HT.out.keep (by (repeat (first | (with_reducible exact Below.refl _ _) | (with_reducible assumption) | (with_reducible refine ext_alloc ?_ _) | (with_reducible refine ext_drew ?_) | (with_reducible refine ext_drewN ?_ _) | (with_reducible refine ext_set ?_ (by first | exact Nat.le_refl _ | (simp; done) | (simp; omega) | omega) _) | (with_reducible refine ext_trans ?_ (by assumption))))))).mono ?_
    rintro e w2 ⟨rfl, hb2⟩
    have b2 : Below w1.heap.size w1 w2 := by (repeat (first | (with_reducible exact Below.refl _ _) | (with_reducible assumption) | (with_reducible refine ext_alloc ?_ _) | (with_reducible refine ext_drew ?_) | (with_reducible refine ext_drewN ?_ _) | (with_reducible refine ext_set ?_ (by first | exact Nat.le_refl _ | (simp; done) | (simp; omega) | omega) _) | (with_reducible refine ext_trans ?_ (by assumption))))
    have x2 : Below w.heap.size w w2 := hb1.trans (b2.mono hb1.size)
    have d0 := Lib.hid (cell_keep A0.out hb2)
    have d1 := Lib.hid (cell_keep A1.out hb2)
    have d2 := Lib.hid (cell_keep A2.out hb2)
    clear A0 A1 A2 hb2 hb1
    cases htb : tabB ss ls vs
    · have HN := Lib.hid (tab_none htb)
      have hf3 := Lib.hid htb
      go_wp2_with fail
      go_at_call 7
      refine ((implReadT_any (tabS ss ls vs) m _ (tab_size ss ls vs) (HM.out.keep (by (repeat (first | (with_reducible exact Below.refl _ _) | (with_reducible assumption) | (with_reducible refine ext_alloc ?_ _) | (with_reducible refine ext_drew ?_) | (with_reducible refine ext_drewN ?_ _) | (with_reducible refine ext_set ?_ (by first | exact Nat.le_refl _ | (simp; done) | (simp; omega) | omega) _) | (with_reducible refine ext_trans ?_ (by assumption)))))) (HT.out.keep (by (repeat (first | (with_reducible exact Below.refl _ _) | (with_reducible assumption) | (with_reducible refine ext_alloc ?_ _) | (with_reducible refine ext_drew ?_) | (with_reducible refine ext_drewN ?_ _) | (with_reducible refine ext_set ?_ (by first | exact Nat.le_refl _ | (simp; done) | (simp; omega) | omega) _) | (with_reducible refine ext_trans ?_ (by assumption)))))) (HE.out.keep (by (repeat (first | (with_reducible exact Below.refl _ _) | (with_reducible assumption) | (with_reducible refine ext_alloc ?_ _) | (with_reducible refine ext_drew ?_) | (with_reducible refine ext_drewN ?_ _) | (with_reducible refine ext_set ?_ (by first | exact Nat.le_refl _ | (simp; done) | (simp; omega) | omega) _) | (with_reducible refine ext_trans ?_ (by assumption))))))).mono fun e w' h => readT_no h HN.out).mono ?_
      rintro e w3 ⟨u0, u1, u2, rfl, hu, hb3⟩
      obtain ⟨⟨_, p0, q0, rfl, _⟩, ⟨_, p1, q1, rfl, _⟩, ⟨_, p2, q2, rfl, _⟩, _⟩ := hu
      have x3 : Below w.heap.size w w3 := x2.trans (hb3.mono x2.size)
      have b3 : Below w1.heap.size w1 w3 := b2.trans (hb3.mono b2.size)
      have g0 := cell_keep d0.out hb3
      have g1 := cell_keep d1.out hb3
      have g2 := cell_keep d2.out hb3
      have s3 := cell_lt g0
      clear hb3 x2 b2 d0 d1 d2
      go_wp2_with fail
      go_at_call 9
      refine (specIsTable_any _ _ _ ss ls vs _ (H0.out.up (by (repeat (first | (with_reducible exact Below.refl _ _) | (with_reducible assumption) | (with_reducible refine ext_alloc ?_ _) | (with_reducible refine ext_drew ?_) | (with_reducible refine ext_drewN ?_ _) | (with_reducible refine ext_set ?_ (by first | exact Nat.le_refl _ | (simp; done) | (simp; omega) | omega) _) | (with_reducible refine ext_trans ?_ (by assumption)))))) (H1.out.up (by (repeat (first | (with_reducible exact Below.refl _ _) | (with_reducible assumption) | (with_reducible refine ext_alloc ?_ _) | (with_reducible refine ext_drew ?_) | (with_reducible refine ext_drewN ?_ _) | (with_reducible refine ext_set ?_ (by first | exact Nat.le_refl _ | (simp; done) | (simp; omega) | omega) _) | (with_reducible refine ext_trans ?_ (by assumption)))))) (H2.out.up (by (repeat (first | (with_reducible exact Below.refl _ _) | (with_reducible assumption) | (with_reducible refine ext_alloc ?_ _) | (with_reducible refine ext_drew ?_) | (with_reducible refine ext_drewN ?_ _) | (with_reducible refine ext_set ?_ (by first | exact Nat.le_refl _ | (simp; done) | (simp; omega) | omega) _) | (with_reducible refine ext_trans ?_ (by assumption))))))).mono ?_
      rintro e w4 ⟨rfl, hb4⟩
      rw [hf3.out]
      obtain ⟨hc, hf⟩ := bcell hb4
      have hz := hb4.size
      (try simp at hz)
      have s4 : w1.heap.size < w3.heap.size + 1 := by omega
      go_wp2_with (go_at_call 10; refine (implIsTable_any _ _ _ ss ls vs _ (H0.out.up (by (repeat (first | (with_reducible exact Below.refl _ _) | (with_reducible assumption) | (with_reducible refine ext_alloc ?_ _) | (with_reducible refine ext_drew ?_) | (with_reducible refine ext_drewN ?_ _) | (with_reducible refine ext_set ?_ (by first | exact Nat.le_refl _ | (simp; done) | (simp; omega) | omega) _) | (with_reducible refine ext_trans ?_ (by assumption)))))) (H1.out.up (by (repeat (first | (with_reducible exact Below.refl _ _) | (with_reducible assumption) | (with_reducible refine ext_alloc ?_ _) | (with_reducible refine ext_drew ?_) | (with_reducible refine ext_drewN ?_ _) | (with_reducible refine ext_set ?_ (by first | exact Nat.le_refl _ | (simp; done) | (simp; omega) | omega) _) | (with_reducible refine ext_trans ?_ (by assumption)))))) (H2.out.up (by (repeat (first | (with_reducible exact Below.refl _ _) | (with_reducible assumption) | (with_reducible refine ext_alloc ?_ _) | (with_reducible refine ext_drew ?_) | (with_reducible refine ext_drewN ?_ _) | (with_reducible refine ext_set ?_ (by first | exact Nat.le_refl _ | (simp; done) | (simp; omega) | omega) _) | (with_reducible refine ext_trans ?_ (by assumption))))))).mono ?_; rintro e w5 ⟨rfl, hb5⟩; rw [hf3.out])
      go_ret
      exact ⟨rfl, by (repeat (first | (with_reducible exact Below.refl _ _) | (with_reducible assumption) | (with_reducible refine ext_alloc ?_ _) | (with_reducible refine ext_drew ?_) | (with_reducible refine ext_drewN ?_ _) | (with_reducible refine ext_set ?_ (by first | exact Nat.le_refl _ | (simp; done) | (simp; omega) | omega) _) | (with_reducible refine ext_trans ?_ (by assumption))))⟩
    · have HN := Lib.hid (tab_data htb)
      have hf3 := Lib.hid htb
      have hss : ss.length ≤ 4 ∧ ls.length ≤ 4 := ⟨(ax_get (tab_get htb).1).2.1, (ax_get (tab_get htb).2.1).2.1⟩
      have hvl : valB vs = true := allB_yes (fun i hi => inB_yes ((tab_get htb).2.2.2 i hi).1 ((tab_get htb).2.2.2 i hi).2)
      have HV := Lib.hid hvl
      clear hvl
      go_wp2_with fail
      go_at_call 7
      refine ((implReadT_any (tabS ss ls vs) m _ (tab_size ss ls vs) (HM.out.keep (by (repeat (first | (with_reducible exact Below.refl _ _) | (with_reducible assumption) | (with_reducible refine ext_alloc ?_ _) | (with_reducible refine ext_drew ?_) | (with_reducible refine ext_drewN ?_ _) | (with_reducible refine ext_set ?_ (by first | exact Nat.le_refl _ | (simp; done) | (simp; omega) | omega) _) | (with_reducible refine ext_trans ?_ (by assumption)))))) (HT.out.keep (by (repeat (first | (with_reducible exact Below.refl _ _) | (with_reducible assumption) | (with_reducible refine ext_alloc ?_ _) | (with_reducible refine ext_drew ?_) | (with_reducible refine ext_drewN ?_ _) | (with_reducible refine ext_set ?_ (by first | exact Nat.le_refl _ | (simp; done) | (simp; omega) | omega) _) | (with_reducible refine ext_trans ?_ (by assumption)))))) (HE.out.keep (by (repeat (first | (with_reducible exact Below.refl _ _) | (with_reducible assumption) | (with_reducible refine ext_alloc ?_ _) | (with_reducible refine ext_drew ?_) | (with_reducible refine ext_drewN ?_ _) | (with_reducible refine ext_set ?_ (by first | exact Nat.le_refl _ | (simp; done) | (simp; omega) | omega) _) | (with_reducible refine ext_trans ?_ (by assumption))))))).mono fun e w' h => readT_yes h HN.out).mono ?_
      rintro e w3 ⟨u0, u1, u2, rfl, hu, hb3⟩
      have U := Lib.hid hu
      obtain ⟨⟨_, p0, q0, rfl, _⟩, ⟨_, p1, q1, rfl, _⟩, ⟨_, p2, q2, rfl, _⟩, _⟩ := hu
      have x3 : Below w.heap.size w w3 := x2.trans (hb3.mono x2.size)
      have b3 : Below w1.heap.size w1 w3 := b2.trans (hb3.mono b2.size)
      have g0 := cell_keep d0.out hb3
      have g1 := cell_keep d1.out hb3
      have g2 := cell_keep d2.out hb3
      have s3 := cell_lt g0
      clear hb3 x2 b2 d0 d1 d2
      have E0 := Lib.hid (show (w3.alloc (Obj.cells #[.slice p0 ss.length q0, .slice p1 ls.length q1, .slice p2 vs.length q2] 26)).cell? ⟨w3.heap.size, 0, none⟩ = some (.slice p0 ss.length q0) by simp [go_sem])
      have E1 := Lib.hid (show (w3.alloc (Obj.cells #[.slice p0 ss.length q0, .slice p1 ls.length q1, .slice p2 vs.length q2] 26)).cell? ⟨w3.heap.size, 1, none⟩ = some (.slice p1 ls.length q1) by simp [go_sem])
      have E2 := Lib.hid (show (w3.alloc (Obj.cells #[.slice p0 ss.length q0, .slice p1 ls.length q1, .slice p2 vs.length q2] 26)).cell? ⟨w3.heap.size, 2, none⟩ = some (.slice p2 vs.length q2) by simp [go_sem])
      go_wp2_with fail
      go_at_call 9
      refine (specIsTable_any _ _ _ ss ls vs _ (H0.out.up (by (repeat (first | (with_reducible exact Below.refl _ _) | (with_reducible assumption) | (with_reducible refine ext_alloc ?_ _) | (with_reducible refine ext_drew ?_) | (with_reducible refine ext_drewN ?_ _) | (with_reducible refine ext_set ?_ (by first | exact Nat.le_refl _ | (simp; done) | (simp; omega) | omega) _) | (with_reducible refine ext_trans ?_ (by assumption)))))) (H1.out.up (by (repeat (first | (with_reducible exact Below.refl _ _) | (with_reducible assumption) | (with_reducible refine ext_alloc ?_ _) | (with_reducible refine ext_drew ?_) | (with_reducible refine ext_drewN ?_ _) | (with_reducible refine ext_set ?_ (by first | exact Nat.le_refl _ | (simp; done) | (simp; omega) | omega) _) | (with_reducible refine ext_trans ?_ (by assumption)))))) (H2.out.up (by (repeat (first | (with_reducible exact Below.refl _ _) | (with_reducible assumption) | (with_reducible refine ext_alloc ?_ _) | (with_reducible refine ext_drew ?_) | (with_reducible refine ext_drewN ?_ _) | (with_reducible refine ext_set ?_ (by first | exact Nat.le_refl _ | (simp; done) | (simp; omega) | omega) _) | (with_reducible refine ext_trans ?_ (by assumption))))))).mono ?_
      rintro e w4 ⟨rfl, hb4⟩
      rw [hf3.out]
      have b34 : Below w3.heap.size w3 w4 := by (repeat (first | (with_reducible exact Below.refl _ _) | (with_reducible assumption) | (with_reducible refine ext_alloc ?_ _) | (with_reducible refine ext_drew ?_) | (with_reducible refine ext_drewN ?_ _) | (with_reducible refine ext_set ?_ (by first | exact Nat.le_refl _ | (simp; done) | (simp; omega) | omega) _) | (with_reducible refine ext_trans ?_ (by assumption))))
      have b4 : Below w1.heap.size w1 w4 := b3.trans (b34.mono b3.size)
      have x4 : Below w.heap.size w w4 := x3.trans (b34.mono x3.size)
      have k0 := cell_keep g0 b34
      have k1 := cell_keep g1 b34
      have k2 := cell_keep g2 b34
      have F0 := Lib.hid (cell_keep E0.out hb4)
      have F1 := Lib.hid (cell_keep E1.out hb4)
      have F2 := Lib.hid (cell_keep E2.out hb4)
      have U4 := Lib.hid (U.out.keep b34)
      clear hb4 E0 E1 E2 g0 g1 g2 U x3 b3 b34
      go_wp2_with fail
      go_at_call 11
      refine ((implScale_end _ _ _ ss ls vs 1000 0 _ (H0.out.up (by (repeat (first | (with_reducible exact Below.refl _ _) | (with_reducible assumption) | (with_reducible refine ext_alloc ?_ _) | (with_reducible refine ext_drew ?_) | (with_reducible refine ext_drewN ?_ _) | (with_reducible refine ext_set ?_ (by first | exact Nat.le_refl _ | (simp; done) | (simp; omega) | omega) _) | (with_reducible refine ext_trans ?_ (by assumption)))))) (H1.out.up (by (repeat (first | (with_reducible exact Below.refl _ _) | (with_reducible assumption) | (with_reducible refine ext_alloc ?_ _) | (with_reducible refine ext_drew ?_) | (with_reducible refine ext_drewN ?_ _) | (with_reducible refine ext_set ?_ (by first | exact Nat.le_refl _ | (simp; done) | (simp; omega) | omega) _) | (with_reducible refine ext_trans ?_ (by assumption)))))) (H2.out.up (by (repeat (first | (with_reducible exact Below.refl _ _) | (with_reducible assumption) | (with_reducible refine ext_alloc ?_ _) | (with_reducible refine ext_drew ?_) | (with_reducible refine ext_drewN ?_ _) | (with_reducible refine ext_set ?_ (by first | exact Nat.le_refl _ | (simp; done) | (simp; omega) | omega) _) | (with_reducible refine ext_trans ?_ (by assumption)))))) hf3.out).mono fun e w' h => h.1 ⟨rfl, by rw [scl_same]; exact HV.out⟩).mono ?_
      rw [scl_same]
      rintro e w5 ⟨y0, y1, y2, rfl, hy, hb5⟩
      have Y := Lib.hid hy
      obtain ⟨⟨_, m0, n0, rfl, _⟩, ⟨_, m1, n1, rfl, _⟩, ⟨_, m2, n2, rfl, _⟩, _⟩ := hy
      have b5 : Below w1.heap.size w1 w5 := b4.trans (hb5.mono b4.size)
      have x5 : Below w.heap.size w w5 := x4.trans (hb5.mono x4.size)
      have j0 := cell_keep k0 hb5
      have j1 := cell_keep k1 hb5
      have j2 := cell_keep k2 hb5
      have G0 := cell_keep F0.out hb5
      have G1 := cell_keep F1.out hb5
      have G2 := cell_keep F2.out hb5
      have U5 := Lib.hid (U4.out.keep hb5)
      have s5 := cell_lt G0
      have s6 := cell_lt j0
      clear hb5 F0 F1 F2 k0 k1 k2 U4 x4 b4
      go_wp2_with fail
      go_at_call 12
      refine (w5Table_same _ _ _ _ _ _ ss ls vs _ (U5.out.keep (by (repeat (first | (with_reducible exact Below.refl _ _) | (with_reducible assumption) | (with_reducible refine ext_alloc ?_ _) | (with_reducible refine ext_drew ?_) | (with_reducible refine ext_drewN ?_ _) | (with_reducible refine ext_set ?_ (by first | exact Nat.le_refl _ | (simp; done) | (simp; omega) | omega) _) | (with_reducible refine ext_trans ?_ (by assumption)))))).ints.1 (U5.out.keep (by (repeat (first | (with_reducible exact Below.refl _ _) | (with_reducible assumption) | (with_reducible refine ext_alloc ?_ _) | (with_reducible refine ext_drew ?_) | (with_reducible refine ext_drewN ?_ _) | (with_reducible refine ext_set ?_ (by first | exact Nat.le_refl _ | (simp; done) | (simp; omega) | omega) _) | (with_reducible refine ext_trans ?_ (by assumption)))))).ints.2.1 (U5.out.keep (by (repeat (first | (with_reducible exact Below.refl _ _) | (with_reducible assumption) | (with_reducible refine ext_alloc ?_ _) | (with_reducible refine ext_drew ?_) | (with_reducible refine ext_drewN ?_ _) | (with_reducible refine ext_set ?_ (by first | exact Nat.le_refl _ | (simp; done) | (simp; omega) | omega) _) | (with_reducible refine ext_trans ?_ (by assumption)))))).ints.2.2 (H0.out.up (by (repeat (first | (with_reducible exact Below.refl _ _) | (with_reducible assumption) | (with_reducible refine ext_alloc ?_ _) | (with_reducible refine ext_drew ?_) | (with_reducible refine ext_drewN ?_ _) | (with_reducible refine ext_set ?_ (by first | exact Nat.le_refl _ | (simp; done) | (simp; omega) | omega) _) | (with_reducible refine ext_trans ?_ (by assumption)))))) (H1.out.up (by (repeat (first | (with_reducible exact Below.refl _ _) | (with_reducible assumption) | (with_reducible refine ext_alloc ?_ _) | (with_reducible refine ext_drew ?_) | (with_reducible refine ext_drewN ?_ _) | (with_reducible refine ext_set ?_ (by first | exact Nat.le_refl _ | (simp; done) | (simp; omega) | omega) _) | (with_reducible refine ext_trans ?_ (by assumption)))))) (H2.out.up (by (repeat (first | (with_reducible exact Below.refl _ _) | (with_reducible assumption) | (with_reducible refine ext_alloc ?_ _) | (with_reducible refine ext_drew ?_) | (with_reducible refine ext_drewN ?_ _) | (with_reducible refine ext_set ?_ (by first | exact Nat.le_refl _ | (simp; done) | (simp; omega) | omega) _) | (with_reducible refine ext_trans ?_ (by assumption))))))).mono ?_
      rintro e w6 ⟨rfl, hb6⟩
      obtain ⟨hc, hf⟩ := bcell hb6
      have hz := hb6.size
      (try simp at hz)
      have s7 : w1.heap.size < w5.heap.size + 1 := by omega
      have s8 : w5.heap.size < w6.heap.size := by omega
      go_wp2_with fail
      go_at_call 12
      refine (w5Table_same _ _ _ _ _ _ ss ls vs _ (Y.out.keep (by (repeat (first | (with_reducible exact Below.refl _ _) | (with_reducible assumption) | (with_reducible refine ext_alloc ?_ _) | (with_reducible refine ext_drew ?_) | (with_reducible refine ext_drewN ?_ _) | (with_reducible refine ext_set ?_ (by first | exact Nat.le_refl _ | (simp; done) | (simp; omega) | omega) _) | (with_reducible refine ext_trans ?_ (by assumption)))))).ints.1 (Y.out.keep (by (repeat (first | (with_reducible exact Below.refl _ _) | (with_reducible assumption) | (with_reducible refine ext_alloc ?_ _) | (with_reducible refine ext_drew ?_) | (with_reducible refine ext_drewN ?_ _) | (with_reducible refine ext_set ?_ (by first | exact Nat.le_refl _ | (simp; done) | (simp; omega) | omega) _) | (with_reducible refine ext_trans ?_ (by assumption)))))).ints.2.1 (Y.out.keep (by (repeat (first | (with_reducible exact Below.refl _ _) | (with_reducible assumption) | (with_reducible refine ext_alloc ?_ _) | (with_reducible refine ext_drew ?_) | (with_reducible refine ext_drewN ?_ _) | (with_reducible refine ext_set ?_ (by first | exact Nat.le_refl _ | (simp; done) | (simp; omega) | omega) _) | (with_reducible refine ext_trans ?_ (by assumption)))))).ints.2.2 (H0.out.up (by (repeat (first | (with_reducible exact Below.refl _ _) | (with_reducible assumption) | (with_reducible refine ext_alloc ?_ _) | (with_reducible refine ext_drew ?_) | (with_reducible refine ext_drewN ?_ _) | (with_reducible refine ext_set ?_ (by first | exact Nat.le_refl _ | (simp; done) | (simp; omega) | omega) _) | (with_reducible refine ext_trans ?_ (by assumption)))))) (H1.out.up (by (repeat (first | (with_reducible exact Below.refl _ _) | (with_reducible assumption) | (with_reducible refine ext_alloc ?_ _) | (with_reducible refine ext_drew ?_) | (with_reducible refine ext_drewN ?_ _) | (with_reducible refine ext_set ?_ (by first | exact Nat.le_refl _ | (simp; done) | (simp; omega) | omega) _) | (with_reducible refine ext_trans ?_ (by assumption)))))) (H2.out.up (by (repeat (first | (with_reducible exact Below.refl _ _) | (with_reducible assumption) | (with_reducible refine ext_alloc ?_ _) | (with_reducible refine ext_drew ?_) | (with_reducible refine ext_drewN ?_ _) | (with_reducible refine ext_set ?_ (by first | exact Nat.le_refl _ | (simp; done) | (simp; omega) | omega) _) | (with_reducible refine ext_trans ?_ (by assumption))))))).mono ?_
      rintro e w7 ⟨rfl, hb7⟩
      go_wp2_with fail
      go_ret
      exact ⟨rfl, by (repeat (first | (with_reducible exact Below.refl _ _) | (with_reducible assumption) | (with_reducible refine ext_alloc ?_ _) | (with_reducible refine ext_drew ?_) | (with_reducible refine ext_drewN ?_ _) | (with_reducible refine ext_set ?_ (by first | exact Nat.le_refl _ | (simp; done) | (simp; omega) | omega) _) | (with_reducible refine ext_trans ?_ (by assumption))))⟩

theorem contract (H : Type) (enc : TypeId × Value → H) (W : World) (base : Nat) (args : Array Value) (ds gs : List (DataW H)) (before : List MemPlace)
    (hval : ∀ (j : Nat) t v, Tryd.f3.params[j]? = some t → args[j]? = some v → Value.okWide Tryd.prog W .any base t v)
    (hW : DataW.Whole enc Tryd.prog Tryd.f3.params.toList Rows.fnTableTextSpec.vars false W args.toList ds gs before) (hL : laidMetH Tryd.prog Rows.fnTableTextRow.laid W) (hsh : W.ShapedOpen Tryd.prog) :
    Calls Tryd.prog 3 args W fun e W' => ∃ v, e = .returned v ∧ Rows.fnTableTextSpec.post enc Tryd.prog Tryd.f3 false true false false W args v W' := by
  have hW' := hW
  obtain ⟨p, q, hA0, hV, rfl, hfz, hnd⟩ := hW
  have hA : DataW.TrodAll enc Tryd.prog W 0 (fun _ => true) true Tryd.f3.params.toList args.toList ds p := hA0
  rw [Tryd.params3] at hA hval
  obtain ⟨v0, vs0, d0, ds0, p0, q0, hargs, rfl, rfl, h0, r0⟩ := trodAll_cons hA
  obtain ⟨rfl, rfl, rfl⟩ := trodAll_nil r0
  obtain rfl : args = #[v0] := by cases args; simp_all
  obtain ⟨rfl, rfl⟩ := trodVars_none hV
  have k0 := h0
  have hlt0 : ∀ x ∈ p0, x.block < W.heap.size := fun x hx => hW'.lt x (by simp [hx])
  obtain ⟨n0, b0⟩ := open_code Tryd.underlying22 Tryd.underlying5 cellsB (hval 0 22 v0 rfl rfl) h0
  obtain ⟨m, hm⟩ := maxLen_of hsh
  clear hA0
  refine (walk v0 n0 m W b0 (table hL) (errs hL) hm).mono fun e W' ⟨he, hg⟩ => ?_
  subst he
  exact ⟨_, rfl, post_ext hg (pv := []) hW' (fun _ _ _ => (trodAll_cons_mk (shut_bool Tryd.underlying4 _) trodAll_mk0)) (fun sp hsp => (trodAll_cons_mk (WideElems.Trod_stays laidOut (by kernel_rfl) (of_decide_eq_true (by kernel_rfl)) k0 (fun x hx => hg.same (hlt0 x hx)) (fun x hx => hsp x (by simp [hx]))) trodAll_mk0)) (fun _ _ => rfl) rfl
    (ok_one (by kernel_rfl) rfl (okWide_bool_mk Tryd.underlying4 _))⟩

/-- A block with other cells. -/
def withCells (cs : Array Value) : Obj → Obj
  | .cells _ t frozen => .cells cs t frozen
  | o => o
noncomputable abbrev N0 : Nat := (World.settled Tryd.prog default).heap.size
/-- A world for the witness: the settled one, the listed variables holding what their initialisers lay. -/
noncomputable def laidWorld (os : Os) : World :=
  let N := (World.settled Tryd.prog os).heap.size
  let w0 := World.holding Tryd.prog os ⟨#[.cells #[.string ⟨#[105, 110, 118, 97, 108, 105, 100, 32, 115, 121, 110, 116, 97, 120]⟩] 121, .cells #[.string ⟨#[118, 97, 108, 117, 101, 32, 111, 117, 116, 32, 111, 102, 32, 114, 97, 110, 103, 101]⟩] 121], #[], []⟩
  let h0 := w0.heap.modify 6 (withCells #[.int .u8 0, .int .u8 1, .int .u8 28, .int .u8 2, .int .u8 29, .int .u8 14, .int .u8 24, .int .u8 3, .int .u8 30, .int .u8 22, .int .u8 20, .int .u8 15, .int .u8 25, .int .u8 17, .int .u8 4, .int .u8 8, .int .u8 31, .int .u8 27, .int .u8 13, .int .u8 23, .int .u8 21, .int .u8 19, .int .u8 16, .int .u8 7, .int .u8 26, .int .u8 12, .int .u8 18, .int .u8 6, .int .u8 11, .int .u8 5, .int .u8 10, .int .u8 9])
  let h1 := h0.modify 7 (withCells #[.int .u8 0, .int .u8 1, .int .u8 56, .int .u8 2, .int .u8 57, .int .u8 49, .int .u8 28, .int .u8 3, .int .u8 61, .int .u8 58, .int .u8 42, .int .u8 50, .int .u8 38, .int .u8 29, .int .u8 17, .int .u8 4, .int .u8 62, .int .u8 47, .int .u8 59, .int .u8 36, .int .u8 45, .int .u8 43, .int .u8 51, .int .u8 22, .int .u8 53, .int .u8 39, .int .u8 33, .int .u8 30, .int .u8 24, .int .u8 18, .int .u8 12, .int .u8 5, .int .u8 63, .int .u8 55, .int .u8 48, .int .u8 27, .int .u8 60, .int .u8 41, .int .u8 37, .int .u8 16, .int .u8 46, .int .u8 35, .int .u8 44, .int .u8 21, .int .u8 52, .int .u8 32, .int .u8 23, .int .u8 11, .int .u8 54, .int .u8 26, .int .u8 40, .int .u8 15, .int .u8 34, .int .u8 20, .int .u8 31, .int .u8 10, .int .u8 25, .int .u8 14, .int .u8 19, .int .u8 9, .int .u8 13, .int .u8 8, .int .u8 7, .int .u8 6])
  let h2 := h1.modify 3 (withCells #[.int .u64 1, .int .u64 10, .int .u64 100, .int .u64 1000, .int .u64 10000, .int .u64 100000, .int .u64 1000000, .int .u64 10000000, .int .u64 100000000, .int .u64 1000000000, .int .u64 10000000000, .int .u64 100000000000, .int .u64 1000000000000, .int .u64 10000000000000, .int .u64 100000000000000, .int .u64 1000000000000000, .int .u64 10000000000000000, .int .u64 100000000000000000, .int .u64 1000000000000000000, .int .u64 10000000000000000000])
  let h3 := h2.modify 5 (withCells (((List.range 16).flatMap fun i => [Value.int .u8 (Lib.accLo i), Value.int .u8 (Lib.accHi i)]).toArray))
  let h4 := h3.modify 2 (withCells #[.iface 119 (.pointer (some ⟨N + 1, 0, none⟩))])
  let h5 := h4.modify 1 (withCells #[.iface 119 (.pointer (some ⟨N, 0, none⟩))])
  let h6 := h5.modify 4 (withCells ((Lib.firstTab.map fun z => Value.int .u8 z).toArray))
  { w0 with heap := h6 }
theorem laid_met (os : Os) : laidMet Tryd.prog Rows.fnTableTextRow.laid ((laidWorld os).forCall (fun _ _ => 0) ⟨#[], #[.slice none 0 0], []⟩).memory :=
  (LaidIn.of_run [6, 7, 3, 5, 2, 1, 4, N0, N0 + 1] 8 (by kernel_rfl) (by kernel_rfl) (by kernel_rfl) (by kernel_rfl)).met
theorem reads (os : Os) {H : Type} (enc : TypeId × Value → H) : ∃ places, DataW.whole enc Tryd.prog ((laidWorld os).forCall (fun _ _ => 0) ⟨#[], #[.slice none 0 0], []⟩).memory Tryd.f3.params.toList Rows.fnTableTextSpec.vars false #[Value.slice none 0 0].toList 8 = some ([.nil], [], places) :=
  ⟨[], by kernel_rfl⟩

theorem lifted (os : Os) (started : os.Started) (H : Type) (enc : TypeId × Value → H) (F : Stop.Interp) :
    ReturnsInHanded {} Tryd.checked os 3 .any ((OpenSpec.ofChange Rows.fnTableTextSpec).preRow enc Tryd.prog Tryd.f3 Rows.fnTableTextRow.domain false Rows.fnTableTextRow.laid) (((OpenSpec.ofChange Rows.fnTableTextSpec).at F).post enc Tryd.prog Tryd.f3 false true false false) := by
  obtain ⟨places, hx⟩ := reads os enc
  refine returnsInHanded_of_row (C := Tryd.checked) (s := OpenSpec.ofChange Rows.fnTableTextSpec) own started (by kernel_rfl) Tryd.func3
    (witness_row_atRef (enc := enc) (C := Tryd.checked) false (laidWorld os) #[.slice none 0 0] rfl (by kernel_rfl) (by kernel_rfl) (by kernel_rfl)
      (OpenSpec.preRow_of_cond 8 hx (by kernel_rfl) (fun k hk => by cases hk) (by kernel_rfl) (laid_met os))) ?_
  intro W base args ds gs before hval hW _ _ _ hL hsh _
  exact contract H enc W base args ds gs before hval hW hL hsh

theorem said : Rows.FnTableTextSaid :=
  OpenClaim.holds_of_cond 3 Tryd.f3 rfl rfl rfl rfl rfl rfl rfl ⟨rfl, rfl, rfl, rfl, rfl⟩ rfl rfl rfl rfl rfl (by kernel_rfl) Tryd.func3 (by kernel_rfl)
    (of_decide_eq_true (by kernel_rfl)) (by unfold Func.isWrapper; first | (rw [if_pos (by decide +kernel)]; kernel_rfl) | (rw [if_neg (by decide +kernel)]; exact ⟨rfl, rfl⟩))
    (fun os started H enc _ F => by rw [OpenClaim.pre_eq_preRow]; exact lifted os started H enc F)

/-- No parameter wants a stand-in; the program's own looks are on. -/
theorem plain (f : FuncId) (fn : Func) (hf : Tryd.pinned.checked.prog.funcNamed "loop.example/g00861/laws.FnTableText" = some f) (hfn : Tryd.pinned.checked.prog.funcs[f]? = some fn) :
    true = Tryd.pinned.checked.prog.looks [] ∧ ∀ (j : Nat) t, fn.params[j]? = some t → Tryd.pinned.checked.prog.wantsStandIn t = false := by
  obtain rfl : f = 3 := Option.some.inj ((show Tryd.prog.funcNamed "loop.example/g00861/laws.FnTableText" = some 3 by kernel_rfl).symm.trans hf) |>.symm
  obtain rfl : fn = Tryd.f3 := (Option.some.inj (Tryd.func3.symm.trans hfn)).symm
  refine ⟨by kernel_rfl, fun j t ht => ?_⟩
  rw [Tryd.params3] at ht
  obtain rfl : t = 22 := by simpa using Array.mem_of_getElem? ht
  exact (show Tryd.prog.wantsStandIn 22 = false by kernel_rfl)

theorem card : Rows.FnTableTextCardSaid :=
  Claim7.holds_tied_plain_at .later [] _ _ _ _ said (fun _ h => by cases h) (by kernel_rfl) (fun _ h => by cases h) fnTableText_row_tie rfl ⟨rfl, rfl⟩ (by kernel_rfl) rfl plain (by kernel_rfl)
end Go.Proofs.YtckccpcigkbfmaaDoor.fnTableText
