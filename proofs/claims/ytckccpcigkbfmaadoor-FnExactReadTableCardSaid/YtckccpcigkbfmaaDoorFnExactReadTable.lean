/-
The law FnExactReadTable answers true at every argument and leaves it as it was; the condition: the library's listed variables read as the program's text lays them (the card ties them to the text).
-/
import Derived.Test.YtckccpcigkbfmaaDoorCards
import Derived.Test.YtckccpcigkbfmaaDoorTie
import Derived.Test.YtckccpcigkbfmaaDoorReadTI
import Derived.Test.YtckccpcigkbfmaaDoorMark
import Derived.WalkKit
import Derived.ProofKit
import Derived.OpenShut
import Derived.Deep.DeepHandedRow
import Derived.Deep.DeepWitnessRowRef
import Derived.Lib.LaidIn
import Derived.ChangeMaps5
import Derived.WalkSmall
import Derived.LaidLaws
import Derived.Lib.LaidTab
import Derived.Stop.LaidErr
import Derived.Carry
import Derived.WideKeyArgs
import Derived.Lib.SmallJoins
import Derived.Lib.AtoiAllCases
import Derived.Lib.LaidU8
namespace Go.Proofs.YtckccpcigkbfmaaDoor.fnExactReadTable
open Go.ChangeShapes Go.WideShapes Go.ChangeAt Go.RowKit Go.Deep Go.Joins
set_option linter.unusedVariables false
set_option maxRecDepth 100000

theorem own : ownKnob Tryd.prog.godebug = none := by kernel_rfl
theorem laidOut : laidOutB Tryd.prog = true := by kernel_rfl
theorem gTabType : (Tryd.prog.globals[3]?).map (·.type) = some 112 := by kernel_rfl
theorem cellsTab : Tryd.prog.cellsOf 112 = 20 := by kernel_rfl
theorem cellsU : Tryd.prog.cellsOf 87 = 1 := by kernel_rfl
theorem table {W : World} (h : laidMetH Tryd.prog Rows.fnExactReadTableRow.laid W) : Tab W := by
  have h' : laidMet Tryd.prog Rows.fnExactReadTableRow.laid W := h
  exact Lib.tabIs_of_head gPow gTabType Tryd.underlying112 Tryd.underlying87 cellsU cellsTab (laidMet.tail (laidMet.tail h'))
theorem row_err (u : TypeId) (h : Tryd.prog.typeName? 3 u = some "*errors.errorString") : u = 119 :=
  typeName_ptr_named (nm := "errors.errorString") (by rw [show "*" ++ "errors.errorString" = "*errors.errorString" by decide]; kernel_rfl) (by kernel_rfl) (by decide) u (by rw [show "*" ++ "errors.errorString" = "*errors.errorString" by decide]; exact h)
theorem gSyn : Tryd.prog.globalNamed "strconv.ErrSyntax" = some 1 := by kernel_rfl
theorem gRan : Tryd.prog.globalNamed "strconv.ErrRange" = some 2 := by kernel_rfl
theorem gSynT : (Tryd.prog.globals[1]?).map (·.type) = some 60 := by kernel_rfl
theorem gRanT : (Tryd.prog.globals[2]?).map (·.type) = some 60 := by kernel_rfl
theorem cellsE : Tryd.prog.cellsOf 121 = 1 := by kernel_rfl
theorem cellsS : Tryd.prog.cellsOf 9 = 1 := by kernel_rfl
theorem errs {W : World} (h : laidMetH Tryd.prog Rows.fnExactReadTableRow.laid W) : Errs W := by
  have h' : laidMet Tryd.prog Rows.fnExactReadTableRow.laid W := h
  obtain ⟨a0, t0, hv0, _⟩ := laid_sentinel (laidMet.tail (laidMet.tail (laidMet.tail (laidMet.tail h')))) gRan gRanT Tryd.underlying60 row_err Tryd.underlying119 Tryd.underlying121 rfl rfl Tryd.underlying9 cellsE cellsS
  obtain ⟨a1, t1, hv1, _⟩ := laid_sentinel (laidMet.tail (laidMet.tail (laidMet.tail (laidMet.tail (laidMet.tail h'))))) gSyn gSynT Tryd.underlying60 row_err Tryd.underlying119 Tryd.underlying121 rfl rfl Tryd.underlying9 cellsE cellsS
  exact ⟨⟨_, _, hv1⟩, _, _, hv0⟩
set_option maxHeartbeats 4000000 in
theorem walk (s : ByteArray) (m : Int) (w : World)  (ht : Tab w) (he : Errs w) (hm : MaxLen w m) :
    Calls Tryd.prog 4 #[.string s] w fun e w' => e = .returned (.bool true) ∧ Below w.heap.size w w' := by
  have HT := Lib.hid ht; have HE := Lib.hid he; have HM := Lib.hid hm
  clear ht he hm
  by_cases hlong : 1048576 < s.size
  · have hl : (1048576 : Int) < (s.size : Int) := by omega
    go_enter Tryd.func4, Tryd.ntmps4
    go_wp2
    go_ret
    exact ⟨rfl, by (repeat (first | (with_reducible exact Below.refl _ _) | (with_reducible assumption) | (with_reducible refine ext_alloc ?_ _) | (with_reducible refine ext_drew ?_) | (with_reducible refine ext_drewN ?_ _) | (with_reducible refine ext_set ?_ (by first | exact Nat.le_refl _ | (simp; done) | (simp; omega) | omega) _) | (with_reducible refine ext_trans ?_ (by assumption))))⟩
  have hl : ¬ (1048576 : Int) < (s.size : Int) := by omega
  have hs : s.size ≤ 1048576 := by omega
  obtain ⟨ss, ls, vs, c, hsm, hspec, himpl⟩ : ∃ (ss ls vs : List Int) (c : Bool), ss.length + ls.length + vs.length ≤ 1000 ∧ (∀ w, Calls Tryd.prog 13 #[.string s] w (NewR ss ls vs c w)) ∧ (∀ w, MaxLen w m → Tab w → Errs w → Calls Tryd.prog 7 #[.string s] w (NewR ss ls vs c w)) := by
    by_cases hx : ∃ ss ls vs, IsRd s.data.toList ss ls vs
    · obtain ⟨ss, ls, vs, hx⟩ := hx
      have ⟨e0, e1, e2, _⟩ := tab_get hx.1
      have ⟨_, n0, _⟩ := ax_get e0
      have ⟨_, n1, _⟩ := ax_get e1
      have n2 : vs.length ≤ 16 := by rw [e2]; exact Nat.le_trans (Nat.mul_le_mul n0 n1) (by omega)
      exact ⟨ss, ls, vs, true, by omega, fun w => (specReadT_any s w hs).mono fun e w' h => readT_yes h hx, fun w a b d => (implReadT_any s m w hs a b d).mono fun e w' h => readT_yes h hx⟩
    · have hn : ∀ ss ls vs, ¬ IsRd s.data.toList ss ls vs := fun a b d h => hx ⟨a, b, d, h⟩
      exact ⟨[], [], [], false, by simp, fun w => (specReadT_any s w hs).mono fun e w' h => readT_no h hn, fun w a b d => (implReadT_any s m w hs a b d).mono fun e w' h => readT_no h hn⟩
  have HS := Lib.hid hspec; have HI := Lib.hid himpl
  clear hspec himpl hs hlong
  go_enter Tryd.func4, Tryd.ntmps4
  go_wp2_with fail
  (go_at_call 13; refine (HS.out _).mono ?_; rintro e w1 ⟨t0, t1, t2, rfl, ht, hb⟩; obtain ⟨hc, hf⟩ := bcell hb; have hz := hb.size; (try simp at hz); (try (have hz := Nat.lt_of_succ_le hz)); (try (have y0 : w.heap.size ≤ w1.heap.size := by omega)); (try (have z0 : w.heap.size < w1.heap.size := by omega)); (try (have z1 : w.heap.size + 1 < w1.heap.size := by omega)); (try (have z2 : w.heap.size + 1 + 1 < w1.heap.size := by omega)); (try (have z3 : w.heap.size + 1 + 1 + 1 < w1.heap.size := by omega)); (try (have z4 : w.heap.size + 1 + 1 + 1 + 1 < w1.heap.size := by omega)))
  have T := Lib.hid ht
  obtain ⟨⟨_, p0, q0, rfl, _⟩, ⟨_, p1, q1, rfl, _⟩, ⟨_, p2, q2, rfl, _⟩, _⟩ := ht
  have C0 := Lib.hid (show (w1.alloc (Obj.cells #[.slice p0 ss.length q0, .slice p1 ls.length q1, .slice p2 vs.length q2] 26)).cell? ⟨w1.heap.size, 0, none⟩ = some (.slice p0 ss.length q0) by simp [go_sem])
  have C1 := Lib.hid (show (w1.alloc (Obj.cells #[.slice p0 ss.length q0, .slice p1 ls.length q1, .slice p2 vs.length q2] 26)).cell? ⟨w1.heap.size, 1, none⟩ = some (.slice p1 ls.length q1) by simp [go_sem])
  have C2 := Lib.hid (show (w1.alloc (Obj.cells #[.slice p0 ss.length q0, .slice p1 ls.length q1, .slice p2 vs.length q2] 26)).cell? ⟨w1.heap.size, 2, none⟩ = some (.slice p2 vs.length q2) by simp [go_sem])
  go_wp2_with fail
  (go_at_call 7; refine (HI.out _ (HM.out.keep (by (repeat (first | (with_reducible exact Below.refl _ _) | (with_reducible assumption) | (with_reducible refine ext_alloc ?_ _) | (with_reducible refine ext_drew ?_) | (with_reducible refine ext_drewN ?_ _) | (with_reducible refine ext_set ?_ (by first | exact Nat.le_refl _ | (simp; done) | (simp; omega) | omega) _) | (with_reducible refine ext_trans ?_ (by assumption)))))) (HT.out.keep (by (repeat (first | (with_reducible exact Below.refl _ _) | (with_reducible assumption) | (with_reducible refine ext_alloc ?_ _) | (with_reducible refine ext_drew ?_) | (with_reducible refine ext_drewN ?_ _) | (with_reducible refine ext_set ?_ (by first | exact Nat.le_refl _ | (simp; done) | (simp; omega) | omega) _) | (with_reducible refine ext_trans ?_ (by assumption)))))) (HE.out.keep (by (repeat (first | (with_reducible exact Below.refl _ _) | (with_reducible assumption) | (with_reducible refine ext_alloc ?_ _) | (with_reducible refine ext_drew ?_) | (with_reducible refine ext_drewN ?_ _) | (with_reducible refine ext_set ?_ (by first | exact Nat.le_refl _ | (simp; done) | (simp; omega) | omega) _) | (with_reducible refine ext_trans ?_ (by assumption))))))).mono ?_; rintro e w2 ⟨u0, u1, u2, rfl, hu, hb⟩; obtain ⟨hc, hf⟩ := bcell hb; have hz := hb.size; (try simp at hz); (try (have hz := Nat.lt_of_succ_le hz)); (try (have y0 : w.heap.size ≤ w2.heap.size := by omega)); (try (have z0 : w.heap.size < w2.heap.size := by omega)); (try (have z1 : w.heap.size + 1 < w2.heap.size := by omega)); (try (have z2 : w.heap.size + 1 + 1 < w2.heap.size := by omega)); (try (have z3 : w.heap.size + 1 + 1 + 1 < w2.heap.size := by omega)); (try (have z4 : w.heap.size + 1 + 1 + 1 + 1 < w2.heap.size := by omega)))
  have U := Lib.hid hu
  obtain ⟨⟨_, p0', q0', rfl, _⟩, ⟨_, p1', q1', rfl, _⟩, ⟨_, p2', q2', rfl, _⟩, _⟩ := hu
  have D0 := Lib.hid (show (w2.alloc (Obj.cells #[.slice p0' ss.length q0', .slice p1' ls.length q1', .slice p2' vs.length q2'] 26)).cell? ⟨w2.heap.size, 0, none⟩ = some (.slice p0' ss.length q0') by simp [go_sem])
  have D1 := Lib.hid (show (w2.alloc (Obj.cells #[.slice p0' ss.length q0', .slice p1' ls.length q1', .slice p2' vs.length q2'] 26)).cell? ⟨w2.heap.size, 1, none⟩ = some (.slice p1' ls.length q1') by simp [go_sem])
  have D2 := Lib.hid (show (w2.alloc (Obj.cells #[.slice p0' ss.length q0', .slice p1' ls.length q1', .slice p2' vs.length q2'] 26)).cell? ⟨w2.heap.size, 2, none⟩ = some (.slice p2' vs.length q2') by simp [go_sem])
  have c0 := cell_keep (w1 := w2) C0.out (by (repeat (first | (with_reducible exact Below.refl _ _) | (with_reducible assumption) | (with_reducible refine ext_alloc ?_ _) | (with_reducible refine ext_drew ?_) | (with_reducible refine ext_drewN ?_ _) | (with_reducible refine ext_set ?_ (by first | exact Nat.le_refl _ | (simp; done) | (simp; omega) | omega) _) | (with_reducible refine ext_trans ?_ (by assumption)))))
  have c1 := cell_keep (w1 := w2) C1.out (by (repeat (first | (with_reducible exact Below.refl _ _) | (with_reducible assumption) | (with_reducible refine ext_alloc ?_ _) | (with_reducible refine ext_drew ?_) | (with_reducible refine ext_drewN ?_ _) | (with_reducible refine ext_set ?_ (by first | exact Nat.le_refl _ | (simp; done) | (simp; omega) | omega) _) | (with_reducible refine ext_trans ?_ (by assumption)))))
  have c2 := cell_keep (w1 := w2) C2.out (by (repeat (first | (with_reducible exact Below.refl _ _) | (with_reducible assumption) | (with_reducible refine ext_alloc ?_ _) | (with_reducible refine ext_drew ?_) | (with_reducible refine ext_drewN ?_ _) | (with_reducible refine ext_set ?_ (by first | exact Nat.le_refl _ | (simp; done) | (simp; omega) | omega) _) | (with_reducible refine ext_trans ?_ (by assumption)))))
  go_wp2_with fail
  (go_at_call 14; refine (eqTable_same _ _ _ _ _ _ _ _ _ _ (U.out.keep (by (repeat (first | (with_reducible exact Below.refl _ _) | (with_reducible assumption) | (with_reducible refine ext_alloc ?_ _) | (with_reducible refine ext_drew ?_) | (with_reducible refine ext_drewN ?_ _) | (with_reducible refine ext_set ?_ (by first | exact Nat.le_refl _ | (simp; done) | (simp; omega) | omega) _) | (with_reducible refine ext_trans ?_ (by assumption)))))).ints.1 (U.out.keep (by (repeat (first | (with_reducible exact Below.refl _ _) | (with_reducible assumption) | (with_reducible refine ext_alloc ?_ _) | (with_reducible refine ext_drew ?_) | (with_reducible refine ext_drewN ?_ _) | (with_reducible refine ext_set ?_ (by first | exact Nat.le_refl _ | (simp; done) | (simp; omega) | omega) _) | (with_reducible refine ext_trans ?_ (by assumption)))))).ints.2.1 (U.out.keep (by (repeat (first | (with_reducible exact Below.refl _ _) | (with_reducible assumption) | (with_reducible refine ext_alloc ?_ _) | (with_reducible refine ext_drew ?_) | (with_reducible refine ext_drewN ?_ _) | (with_reducible refine ext_set ?_ (by first | exact Nat.le_refl _ | (simp; done) | (simp; omega) | omega) _) | (with_reducible refine ext_trans ?_ (by assumption)))))).ints.2.2 (T.out.keep (by (repeat (first | (with_reducible exact Below.refl _ _) | (with_reducible assumption) | (with_reducible refine ext_alloc ?_ _) | (with_reducible refine ext_drew ?_) | (with_reducible refine ext_drewN ?_ _) | (with_reducible refine ext_set ?_ (by first | exact Nat.le_refl _ | (simp; done) | (simp; omega) | omega) _) | (with_reducible refine ext_trans ?_ (by assumption)))))).ints.1 (T.out.keep (by (repeat (first | (with_reducible exact Below.refl _ _) | (with_reducible assumption) | (with_reducible refine ext_alloc ?_ _) | (with_reducible refine ext_drew ?_) | (with_reducible refine ext_drewN ?_ _) | (with_reducible refine ext_set ?_ (by first | exact Nat.le_refl _ | (simp; done) | (simp; omega) | omega) _) | (with_reducible refine ext_trans ?_ (by assumption)))))).ints.2.1 (T.out.keep (by (repeat (first | (with_reducible exact Below.refl _ _) | (with_reducible assumption) | (with_reducible refine ext_alloc ?_ _) | (with_reducible refine ext_drew ?_) | (with_reducible refine ext_drewN ?_ _) | (with_reducible refine ext_set ?_ (by first | exact Nat.le_refl _ | (simp; done) | (simp; omega) | omega) _) | (with_reducible refine ext_trans ?_ (by assumption)))))).ints.2.2).mono ?_; rintro e w3 ⟨rfl, hb⟩; obtain ⟨hc, hf⟩ := bcell hb; have hz := hb.size; (try simp at hz); (try (have hz := Nat.lt_of_succ_le hz)); (try (have y0 : w.heap.size ≤ w3.heap.size := by omega)); (try (have z0 : w.heap.size < w3.heap.size := by omega)); (try (have z1 : w.heap.size + 1 < w3.heap.size := by omega)); (try (have z2 : w.heap.size + 1 + 1 < w3.heap.size := by omega)); (try (have z3 : w.heap.size + 1 + 1 + 1 < w3.heap.size := by omega)); (try (have z4 : w.heap.size + 1 + 1 + 1 + 1 < w3.heap.size := by omega)))
  have d0 := cell_keep (w1 := w3) D0.out (by (repeat (first | (with_reducible exact Below.refl _ _) | (with_reducible assumption) | (with_reducible refine ext_alloc ?_ _) | (with_reducible refine ext_drew ?_) | (with_reducible refine ext_drewN ?_ _) | (with_reducible refine ext_set ?_ (by first | exact Nat.le_refl _ | (simp; done) | (simp; omega) | omega) _) | (with_reducible refine ext_trans ?_ (by assumption)))))
  have d1 := cell_keep (w1 := w3) D1.out (by (repeat (first | (with_reducible exact Below.refl _ _) | (with_reducible assumption) | (with_reducible refine ext_alloc ?_ _) | (with_reducible refine ext_drew ?_) | (with_reducible refine ext_drewN ?_ _) | (with_reducible refine ext_set ?_ (by first | exact Nat.le_refl _ | (simp; done) | (simp; omega) | omega) _) | (with_reducible refine ext_trans ?_ (by assumption)))))
  have d2 := cell_keep (w1 := w3) D2.out (by (repeat (first | (with_reducible exact Below.refl _ _) | (with_reducible assumption) | (with_reducible refine ext_alloc ?_ _) | (with_reducible refine ext_drew ?_) | (with_reducible refine ext_drewN ?_ _) | (with_reducible refine ext_set ?_ (by first | exact Nat.le_refl _ | (simp; done) | (simp; omega) | omega) _) | (with_reducible refine ext_trans ?_ (by assumption)))))
  have g0 := Lib.hid (cell_keep (w1 := w3) c0 (by (repeat (first | (with_reducible exact Below.refl _ _) | (with_reducible assumption) | (with_reducible refine ext_alloc ?_ _) | (with_reducible refine ext_drew ?_) | (with_reducible refine ext_drewN ?_ _) | (with_reducible refine ext_set ?_ (by first | exact Nat.le_refl _ | (simp; done) | (simp; omega) | omega) _) | (with_reducible refine ext_trans ?_ (by assumption))))))
  have g1 := Lib.hid (cell_keep (w1 := w3) c1 (by (repeat (first | (with_reducible exact Below.refl _ _) | (with_reducible assumption) | (with_reducible refine ext_alloc ?_ _) | (with_reducible refine ext_drew ?_) | (with_reducible refine ext_drewN ?_ _) | (with_reducible refine ext_set ?_ (by first | exact Nat.le_refl _ | (simp; done) | (simp; omega) | omega) _) | (with_reducible refine ext_trans ?_ (by assumption))))))
  have g2 := Lib.hid (cell_keep (w1 := w3) c2 (by (repeat (first | (with_reducible exact Below.refl _ _) | (with_reducible assumption) | (with_reducible refine ext_alloc ?_ _) | (with_reducible refine ext_drew ?_) | (with_reducible refine ext_drewN ?_ _) | (with_reducible refine ext_set ?_ (by first | exact Nat.le_refl _ | (simp; done) | (simp; omega) | omega) _) | (with_reducible refine ext_trans ?_ (by assumption))))))
  go_wp2_with fail
  go_at_call 15
  have U3 := Lib.hid (U.out.keep (by (repeat (first | (with_reducible exact Below.refl _ _) | (with_reducible assumption) | (with_reducible refine ext_alloc ?_ _) | (with_reducible refine ext_drew ?_) | (with_reducible refine ext_drewN ?_ _) | (with_reducible refine ext_set ?_ (by first | exact Nat.le_refl _ | (simp; done) | (simp; omega) | omega) _) | (with_reducible refine ext_trans ?_ (by assumption))))) : Tab3 w3 _ _ _ _ _ _ _)
  have T3 := Lib.hid (T.out.keep (by (repeat (first | (with_reducible exact Below.refl _ _) | (with_reducible assumption) | (with_reducible refine ext_alloc ?_ _) | (with_reducible refine ext_drew ?_) | (with_reducible refine ext_drewN ?_ _) | (with_reducible refine ext_set ?_ (by first | exact Nat.le_refl _ | (simp; done) | (simp; omega) | omega) _) | (with_reducible refine ext_trans ?_ (by assumption))))) : Tab3 w3 _ _ _ _ _ _ _)
  have x3 : Below w.heap.size w w3 := by (repeat (first | (with_reducible exact Below.refl _ _) | (with_reducible assumption) | (with_reducible refine ext_alloc ?_ _) | (with_reducible refine ext_drew ?_) | (with_reducible refine ext_drewN ?_ _) | (with_reducible refine ext_set ?_ (by first | exact Nat.le_refl _ | (simp; done) | (simp; omega) | omega) _) | (with_reducible refine ext_trans ?_ (by assumption))))
  have s2 : w2.heap.size + 1 ≤ w3.heap.size := by simpa using hb.size
  have s1 : w1.heap.size + 1 ≤ w2.heap.size := by omega
  refine (markTable_any _ _ _ _ _ _ 1 _ _ U3.out (by omega) (by omega)).mono ?_
  rintro e w4 ⟨rfl, hm, hbut⟩
  have M := Lib.hid hm
  have NB : ∀ g, B3 _ _ _ g → _ ∧ _ := fun g => U.out.blk (g := g)
  have e0 := hbut.cell d0 (fun h => by have := NB _ h; omega)
  have e1 := hbut.cell d1 (fun h => by have := NB _ h; omega)
  have e2 := hbut.cell d2 (fun h => by have := NB _ h; omega)
  have f0 := hbut.cell g0.out (fun h => by have := NB _ h; simp at this; omega)
  have f1 := hbut.cell g1.out (fun h => by have := NB _ h; simp at this; omega)
  have f2 := hbut.cell g2.out (fun h => by have := NB _ h; simp at this; omega)
  have T4 := Lib.hid (T3.out.but hbut (fun g h1 h2 => by have a := T.out.blk h1; have b := NB _ h2; simp at b; omega))
  have x4 : Below w.heap.size w w4 := x3.trans (hbut.below x3.size (fun g h => by have := NB _ h; simp at this; omega))
  clear d0 d1 d2 c0 c1 c2 hc hf hb hbut NB hm x3
  go_wp2_with fail
  (go_at_call 16; refine (heldTable_any _ _ _ 1 _ _ _ _ _ M.out (by omega) (by omega)).mono ?_; rintro e w5 ⟨rfl, hb⟩; obtain ⟨hc, hf⟩ := bcell hb; have hz := hb.size; (try simp at hz); (try (have hz := Nat.lt_of_succ_le hz)); (try (have y0 : w.heap.size ≤ w5.heap.size := by omega)); (try (have z0 : w.heap.size < w5.heap.size := by omega)); (try (have z1 : w.heap.size + 1 < w5.heap.size := by omega)); (try (have z2 : w.heap.size + 1 + 1 < w5.heap.size := by omega)); (try (have z3 : w.heap.size + 1 + 1 + 1 < w5.heap.size := by omega)); (try (have z4 : w.heap.size + 1 + 1 + 1 + 1 < w5.heap.size := by omega)))
  have hq : ¬ (1 : Int) + ss.length + ls.length + vs.length < 0 := by omega
  go_wp2_with fail
  (go_at_call 7; refine (HI.out _ (HM.out.keep (by (repeat (first | (with_reducible exact Below.refl _ _) | (with_reducible assumption) | (with_reducible refine ext_alloc ?_ _) | (with_reducible refine ext_drew ?_) | (with_reducible refine ext_drewN ?_ _) | (with_reducible refine ext_set ?_ (by first | exact Nat.le_refl _ | (simp; done) | (simp; omega) | omega) _) | (with_reducible refine ext_trans ?_ (by assumption)))))) (HT.out.keep (by (repeat (first | (with_reducible exact Below.refl _ _) | (with_reducible assumption) | (with_reducible refine ext_alloc ?_ _) | (with_reducible refine ext_drew ?_) | (with_reducible refine ext_drewN ?_ _) | (with_reducible refine ext_set ?_ (by first | exact Nat.le_refl _ | (simp; done) | (simp; omega) | omega) _) | (with_reducible refine ext_trans ?_ (by assumption)))))) (HE.out.keep (by (repeat (first | (with_reducible exact Below.refl _ _) | (with_reducible assumption) | (with_reducible refine ext_alloc ?_ _) | (with_reducible refine ext_drew ?_) | (with_reducible refine ext_drewN ?_ _) | (with_reducible refine ext_set ?_ (by first | exact Nat.le_refl _ | (simp; done) | (simp; omega) | omega) _) | (with_reducible refine ext_trans ?_ (by assumption))))))).mono ?_; rintro e w6 ⟨k0, k1, k2, rfl, hk, hb⟩; obtain ⟨hc, hf⟩ := bcell hb; have hz := hb.size; (try simp at hz); (try (have hz := Nat.lt_of_succ_le hz)); (try (have y0 : w.heap.size ≤ w6.heap.size := by omega)); (try (have z0 : w.heap.size < w6.heap.size := by omega)); (try (have z1 : w.heap.size + 1 < w6.heap.size := by omega)); (try (have z2 : w.heap.size + 1 + 1 < w6.heap.size := by omega)); (try (have z3 : w.heap.size + 1 + 1 + 1 < w6.heap.size := by omega)); (try (have z4 : w.heap.size + 1 + 1 + 1 + 1 < w6.heap.size := by omega)))
  have K := Lib.hid hk
  obtain ⟨⟨_, p0'', q0'', rfl, _⟩, ⟨_, p1'', q1'', rfl, _⟩, ⟨_, p2'', q2'', rfl, _⟩, _⟩ := hk
  have b5 : Below w4.heap.size w4 w6 := by (repeat (first | (with_reducible exact Below.refl _ _) | (with_reducible assumption) | (with_reducible refine ext_alloc ?_ _) | (with_reducible refine ext_drew ?_) | (with_reducible refine ext_drewN ?_ _) | (with_reducible refine ext_set ?_ (by first | exact Nat.le_refl _ | (simp; done) | (simp; omega) | omega) _) | (with_reducible refine ext_trans ?_ (by assumption))))
  have r0 := cell_keep (w1 := w6) e0 b5
  have r1 := cell_keep (w1 := w6) e1 b5
  have r2 := cell_keep (w1 := w6) e2 b5
  have R0 := cell_keep (w1 := w6) f0 b5
  have R1 := cell_keep (w1 := w6) f1 b5
  have R2 := cell_keep (w1 := w6) f2 b5
  have n0 := cell_lt R0
  have n1 := cell_lt r0
  have x6 : Below w.heap.size w w6 := x4.trans (b5.mono x4.size)
  have S0 := Lib.hid (show (w6.alloc (Obj.cells #[.slice p0'' ss.length q0'', .slice p1'' ls.length q1'', .slice p2'' vs.length q2''] 26)).cell? ⟨w2.heap.size, 0, none⟩ = some (.slice p0' ss.length q0') from cell_keep r0 (by (repeat (first | (with_reducible exact Below.refl _ _) | (with_reducible assumption) | (with_reducible refine ext_alloc ?_ _) | (with_reducible refine ext_drew ?_) | (with_reducible refine ext_drewN ?_ _) | (with_reducible refine ext_set ?_ (by first | exact Nat.le_refl _ | (simp; done) | (simp; omega) | omega) _) | (with_reducible refine ext_trans ?_ (by assumption))))))
  have S1 := Lib.hid (show (w6.alloc (Obj.cells #[.slice p0'' ss.length q0'', .slice p1'' ls.length q1'', .slice p2'' vs.length q2''] 26)).cell? ⟨w2.heap.size, 1, none⟩ = some (.slice p1' ls.length q1') from cell_keep r1 (by (repeat (first | (with_reducible exact Below.refl _ _) | (with_reducible assumption) | (with_reducible refine ext_alloc ?_ _) | (with_reducible refine ext_drew ?_) | (with_reducible refine ext_drewN ?_ _) | (with_reducible refine ext_set ?_ (by first | exact Nat.le_refl _ | (simp; done) | (simp; omega) | omega) _) | (with_reducible refine ext_trans ?_ (by assumption))))))
  have S2 := Lib.hid (show (w6.alloc (Obj.cells #[.slice p0'' ss.length q0'', .slice p1'' ls.length q1'', .slice p2'' vs.length q2''] 26)).cell? ⟨w2.heap.size, 2, none⟩ = some (.slice p2' vs.length q2') from cell_keep r2 (by (repeat (first | (with_reducible exact Below.refl _ _) | (with_reducible assumption) | (with_reducible refine ext_alloc ?_ _) | (with_reducible refine ext_drew ?_) | (with_reducible refine ext_drewN ?_ _) | (with_reducible refine ext_set ?_ (by first | exact Nat.le_refl _ | (simp; done) | (simp; omega) | omega) _) | (with_reducible refine ext_trans ?_ (by assumption))))))
  have M6 := Lib.hid (M.out.keep b5 : Tab3 w6 _ _ _ _ _ _ _)
  have T6 := Lib.hid (T4.out.keep b5 : Tab3 w6 _ _ _ _ _ _ _)
  clear b5 x4
  go_wp2_with fail
  (go_at_call 14; refine (eqTable_same _ _ _ _ _ _ _ _ _ _ (K.out.keep (by (repeat (first | (with_reducible exact Below.refl _ _) | (with_reducible assumption) | (with_reducible refine ext_alloc ?_ _) | (with_reducible refine ext_drew ?_) | (with_reducible refine ext_drewN ?_ _) | (with_reducible refine ext_set ?_ (by first | exact Nat.le_refl _ | (simp; done) | (simp; omega) | omega) _) | (with_reducible refine ext_trans ?_ (by assumption)))))).ints.1 (K.out.keep (by (repeat (first | (with_reducible exact Below.refl _ _) | (with_reducible assumption) | (with_reducible refine ext_alloc ?_ _) | (with_reducible refine ext_drew ?_) | (with_reducible refine ext_drewN ?_ _) | (with_reducible refine ext_set ?_ (by first | exact Nat.le_refl _ | (simp; done) | (simp; omega) | omega) _) | (with_reducible refine ext_trans ?_ (by assumption)))))).ints.2.1 (K.out.keep (by (repeat (first | (with_reducible exact Below.refl _ _) | (with_reducible assumption) | (with_reducible refine ext_alloc ?_ _) | (with_reducible refine ext_drew ?_) | (with_reducible refine ext_drewN ?_ _) | (with_reducible refine ext_set ?_ (by first | exact Nat.le_refl _ | (simp; done) | (simp; omega) | omega) _) | (with_reducible refine ext_trans ?_ (by assumption)))))).ints.2.2 (T6.out.keep (by (repeat (first | (with_reducible exact Below.refl _ _) | (with_reducible assumption) | (with_reducible refine ext_alloc ?_ _) | (with_reducible refine ext_drew ?_) | (with_reducible refine ext_drewN ?_ _) | (with_reducible refine ext_set ?_ (by first | exact Nat.le_refl _ | (simp; done) | (simp; omega) | omega) _) | (with_reducible refine ext_trans ?_ (by assumption)))))).ints.1 (T6.out.keep (by (repeat (first | (with_reducible exact Below.refl _ _) | (with_reducible assumption) | (with_reducible refine ext_alloc ?_ _) | (with_reducible refine ext_drew ?_) | (with_reducible refine ext_drewN ?_ _) | (with_reducible refine ext_set ?_ (by first | exact Nat.le_refl _ | (simp; done) | (simp; omega) | omega) _) | (with_reducible refine ext_trans ?_ (by assumption)))))).ints.2.1 (T6.out.keep (by (repeat (first | (with_reducible exact Below.refl _ _) | (with_reducible assumption) | (with_reducible refine ext_alloc ?_ _) | (with_reducible refine ext_drew ?_) | (with_reducible refine ext_drewN ?_ _) | (with_reducible refine ext_set ?_ (by first | exact Nat.le_refl _ | (simp; done) | (simp; omega) | omega) _) | (with_reducible refine ext_trans ?_ (by assumption)))))).ints.2.2).mono ?_; rintro e w7 ⟨rfl, hb⟩; obtain ⟨hc, hf⟩ := bcell hb; have hz := hb.size; (try simp at hz); (try (have hz := Nat.lt_of_succ_le hz)); (try (have y0 : w.heap.size ≤ w7.heap.size := by omega)); (try (have z0 : w.heap.size < w7.heap.size := by omega)); (try (have z1 : w.heap.size + 1 < w7.heap.size := by omega)); (try (have z2 : w.heap.size + 1 + 1 < w7.heap.size := by omega)); (try (have z3 : w.heap.size + 1 + 1 + 1 < w7.heap.size := by omega)); (try (have z4 : w.heap.size + 1 + 1 + 1 + 1 < w7.heap.size := by omega)))
  have s0 := cell_keep (w1 := w7) S0.out (by (repeat (first | (with_reducible exact Below.refl _ _) | (with_reducible assumption) | (with_reducible refine ext_alloc ?_ _) | (with_reducible refine ext_drew ?_) | (with_reducible refine ext_drewN ?_ _) | (with_reducible refine ext_set ?_ (by first | exact Nat.le_refl _ | (simp; done) | (simp; omega) | omega) _) | (with_reducible refine ext_trans ?_ (by assumption)))))
  have s1 := cell_keep (w1 := w7) S1.out (by (repeat (first | (with_reducible exact Below.refl _ _) | (with_reducible assumption) | (with_reducible refine ext_alloc ?_ _) | (with_reducible refine ext_drew ?_) | (with_reducible refine ext_drewN ?_ _) | (with_reducible refine ext_set ?_ (by first | exact Nat.le_refl _ | (simp; done) | (simp; omega) | omega) _) | (with_reducible refine ext_trans ?_ (by assumption)))))
  have s2 := cell_keep (w1 := w7) S2.out (by (repeat (first | (with_reducible exact Below.refl _ _) | (with_reducible assumption) | (with_reducible refine ext_alloc ?_ _) | (with_reducible refine ext_drew ?_) | (with_reducible refine ext_drewN ?_ _) | (with_reducible refine ext_set ?_ (by first | exact Nat.le_refl _ | (simp; done) | (simp; omega) | omega) _) | (with_reducible refine ext_trans ?_ (by assumption)))))
  go_wp2_with fail
  (go_at_call 16; refine (heldTable_any _ _ _ 1 _ _ _ _ _ (M6.out.keep (by (repeat (first | (with_reducible exact Below.refl _ _) | (with_reducible assumption) | (with_reducible refine ext_alloc ?_ _) | (with_reducible refine ext_drew ?_) | (with_reducible refine ext_drewN ?_ _) | (with_reducible refine ext_set ?_ (by first | exact Nat.le_refl _ | (simp; done) | (simp; omega) | omega) _) | (with_reducible refine ext_trans ?_ (by assumption)))))) (by omega) (by omega)).mono ?_; rintro e w8 ⟨rfl, hb⟩; obtain ⟨hc, hf⟩ := bcell hb; have hz := hb.size; (try simp at hz); (try (have hz := Nat.lt_of_succ_le hz)); (try (have y0 : w.heap.size ≤ w8.heap.size := by omega)); (try (have z0 : w.heap.size < w8.heap.size := by omega)); (try (have z1 : w.heap.size + 1 < w8.heap.size := by omega)); (try (have z2 : w.heap.size + 1 + 1 < w8.heap.size := by omega)); (try (have z3 : w.heap.size + 1 + 1 + 1 < w8.heap.size := by omega)); (try (have z4 : w.heap.size + 1 + 1 + 1 + 1 < w8.heap.size := by omega)))
  go_wp2_with fail
  go_ret
  exact ⟨rfl, by (repeat (first | (with_reducible exact Below.refl _ _) | (with_reducible assumption) | (with_reducible refine ext_alloc ?_ _) | (with_reducible refine ext_drew ?_) | (with_reducible refine ext_drewN ?_ _) | (with_reducible refine ext_set ?_ (by first | exact Nat.le_refl _ | (simp; done) | (simp; omega) | omega) _) | (with_reducible refine ext_trans ?_ (by assumption))))⟩

theorem contract (H : Type) (enc : TypeId × Value → H) (W : World) (base : Nat) (args : Array Value) (ds gs : List (DataW H)) (before : List MemPlace)
    (hval : ∀ (j : Nat) t v, Tryd.f4.params[j]? = some t → args[j]? = some v → Value.okWide Tryd.prog W .any base t v)
    (hW : DataW.Whole enc Tryd.prog Tryd.f4.params.toList Rows.fnExactReadTableSpec.vars false W args.toList ds gs before) (hL : laidMetH Tryd.prog Rows.fnExactReadTableRow.laid W) (hsh : W.ShapedOpen Tryd.prog) :
    Calls Tryd.prog 4 args W fun e W' => ∃ v, e = .returned v ∧ Rows.fnExactReadTableSpec.post enc Tryd.prog Tryd.f4 false true false false W args v W' := by
  have hW' := hW
  obtain ⟨p, q, hA0, hV, rfl, hfz, hnd⟩ := hW
  have hA : DataW.TrodAll enc Tryd.prog W 0 (fun _ => true) true Tryd.f4.params.toList args.toList ds p := hA0
  rw [Tryd.params4] at hA hval
  obtain ⟨v0, vs0, d0, ds0, p0, q0, hargs, rfl, rfl, h0, r0⟩ := trodAll_cons hA
  obtain ⟨rfl, rfl, rfl⟩ := trodAll_nil r0
  obtain rfl : args = #[v0] := by cases args; simp_all
  obtain ⟨rfl, rfl⟩ := trodVars_none hV
  have k0 := h0
  have hlt0 : ∀ x ∈ p0, x.block < W.heap.size := fun x hx => hW'.lt x (by simp [hx])
  obtain ⟨a0, rfl, rfl, rfl, w0⟩ := ChangeMaps.open_string Tryd.underlying9 (hval 0 9 v0 rfl rfl) h0
  obtain ⟨m, hm⟩ := maxLen_of hsh
  clear hA0
  refine (walk a0 m W  (table hL) (errs hL) hm).mono fun e W' ⟨he, hg⟩ => ?_
  subst he
  exact ⟨_, rfl, post_ext hg (pv := []) hW' (fun _ _ _ => (trodAll_cons_mk (shut_bool Tryd.underlying4 _) trodAll_mk0)) (fun sp hsp => (trodAll_cons_mk (WideElems.Trod_stays laidOut (by kernel_rfl) (of_decide_eq_true (by kernel_rfl)) k0 (fun x hx => hg.same (hlt0 x hx)) (fun x hx => hsp x (by simp [hx]))) trodAll_mk0)) (fun _ _ => rfl) rfl
    (ok_one (by kernel_rfl) rfl (okWide_bool_mk Tryd.underlying4 _))⟩

/-- A block with other cells. -/
def withCells (cs : Array Value) : Obj → Obj
  | .cells _ t frozen => .cells cs t frozen
  | o => o
noncomputable abbrev N0 : Nat := (World.settled Tryd.prog default).heap.size
/-- A world for the witness: the settled one, the listed variables holding what their initialisers lay. -/
noncomputable def laidWorld (os : Os) : World :=
  let N := (World.settled Tryd.prog os).heap.size
  let w0 := World.holding Tryd.prog os ⟨#[.cells #[.string ⟨#[105, 110, 118, 97, 108, 105, 100, 32, 115, 121, 110, 116, 97, 120]⟩] 121, .cells #[.string ⟨#[118, 97, 108, 117, 101, 32, 111, 117, 116, 32, 111, 102, 32, 114, 97, 110, 103, 101]⟩] 121], #[], []⟩
  let h0 := w0.heap.modify 6 (withCells #[.int .u8 0, .int .u8 1, .int .u8 28, .int .u8 2, .int .u8 29, .int .u8 14, .int .u8 24, .int .u8 3, .int .u8 30, .int .u8 22, .int .u8 20, .int .u8 15, .int .u8 25, .int .u8 17, .int .u8 4, .int .u8 8, .int .u8 31, .int .u8 27, .int .u8 13, .int .u8 23, .int .u8 21, .int .u8 19, .int .u8 16, .int .u8 7, .int .u8 26, .int .u8 12, .int .u8 18, .int .u8 6, .int .u8 11, .int .u8 5, .int .u8 10, .int .u8 9])
  let h1 := h0.modify 7 (withCells #[.int .u8 0, .int .u8 1, .int .u8 56, .int .u8 2, .int .u8 57, .int .u8 49, .int .u8 28, .int .u8 3, .int .u8 61, .int .u8 58, .int .u8 42, .int .u8 50, .int .u8 38, .int .u8 29, .int .u8 17, .int .u8 4, .int .u8 62, .int .u8 47, .int .u8 59, .int .u8 36, .int .u8 45, .int .u8 43, .int .u8 51, .int .u8 22, .int .u8 53, .int .u8 39, .int .u8 33, .int .u8 30, .int .u8 24, .int .u8 18, .int .u8 12, .int .u8 5, .int .u8 63, .int .u8 55, .int .u8 48, .int .u8 27, .int .u8 60, .int .u8 41, .int .u8 37, .int .u8 16, .int .u8 46, .int .u8 35, .int .u8 44, .int .u8 21, .int .u8 52, .int .u8 32, .int .u8 23, .int .u8 11, .int .u8 54, .int .u8 26, .int .u8 40, .int .u8 15, .int .u8 34, .int .u8 20, .int .u8 31, .int .u8 10, .int .u8 25, .int .u8 14, .int .u8 19, .int .u8 9, .int .u8 13, .int .u8 8, .int .u8 7, .int .u8 6])
  let h2 := h1.modify 3 (withCells #[.int .u64 1, .int .u64 10, .int .u64 100, .int .u64 1000, .int .u64 10000, .int .u64 100000, .int .u64 1000000, .int .u64 10000000, .int .u64 100000000, .int .u64 1000000000, .int .u64 10000000000, .int .u64 100000000000, .int .u64 1000000000000, .int .u64 10000000000000, .int .u64 100000000000000, .int .u64 1000000000000000, .int .u64 10000000000000000, .int .u64 100000000000000000, .int .u64 1000000000000000000, .int .u64 10000000000000000000])
  let h3 := h2.modify 5 (withCells (((List.range 16).flatMap fun i => [Value.int .u8 (Lib.accLo i), Value.int .u8 (Lib.accHi i)]).toArray))
  let h4 := h3.modify 2 (withCells #[.iface 119 (.pointer (some ⟨N + 1, 0, none⟩))])
  let h5 := h4.modify 1 (withCells #[.iface 119 (.pointer (some ⟨N, 0, none⟩))])
  let h6 := h5.modify 4 (withCells ((Lib.firstTab.map fun z => Value.int .u8 z).toArray))
  { w0 with heap := h6 }
theorem laid_met (os : Os) : laidMet Tryd.prog Rows.fnExactReadTableRow.laid ((laidWorld os).forCall (fun _ _ => 0) ⟨#[], #[.string ⟨#[]⟩], []⟩).memory :=
  (LaidIn.of_run [6, 7, 3, 5, 2, 1, 4, N0, N0 + 1] 8 (by kernel_rfl) (by kernel_rfl) (by kernel_rfl) (by kernel_rfl)).met
theorem reads (os : Os) {H : Type} (enc : TypeId × Value → H) : ∃ places, DataW.whole enc Tryd.prog ((laidWorld os).forCall (fun _ _ => 0) ⟨#[], #[.string ⟨#[]⟩], []⟩).memory Tryd.f4.params.toList Rows.fnExactReadTableSpec.vars false #[Value.string ⟨#[]⟩].toList 8 = some ([.lit (.string [])], [], places) :=
  ⟨[], by kernel_rfl⟩

theorem lifted (os : Os) (started : os.Started) (H : Type) (enc : TypeId × Value → H) (F : Stop.Interp) :
    ReturnsInHanded {} Tryd.checked os 4 .any ((OpenSpec.ofChange Rows.fnExactReadTableSpec).preRow enc Tryd.prog Tryd.f4 Rows.fnExactReadTableRow.domain false Rows.fnExactReadTableRow.laid) (((OpenSpec.ofChange Rows.fnExactReadTableSpec).at F).post enc Tryd.prog Tryd.f4 false true false false) := by
  obtain ⟨places, hx⟩ := reads os enc
  refine returnsInHanded_of_row (C := Tryd.checked) (s := OpenSpec.ofChange Rows.fnExactReadTableSpec) own started (by kernel_rfl) Tryd.func4
    (witness_row_atRef (enc := enc) (C := Tryd.checked) false (laidWorld os) #[.string ⟨#[]⟩] rfl (by kernel_rfl) (by kernel_rfl) (by kernel_rfl)
      (OpenSpec.preRow_of_cond 8 hx (by kernel_rfl) (fun k hk => by cases hk) (by kernel_rfl) (laid_met os))) ?_
  intro W base args ds gs before hval hW _ _ _ hL hsh _
  exact contract H enc W base args ds gs before hval hW hL hsh

theorem said : Rows.FnExactReadTableSaid :=
  OpenClaim.holds_of_cond 4 Tryd.f4 rfl rfl rfl rfl rfl rfl rfl ⟨rfl, rfl, rfl, rfl, rfl⟩ rfl rfl rfl rfl rfl (by kernel_rfl) Tryd.func4 (by kernel_rfl)
    (of_decide_eq_true (by kernel_rfl)) (by unfold Func.isWrapper; first | (rw [if_pos (by decide +kernel)]; kernel_rfl) | (rw [if_neg (by decide +kernel)]; exact ⟨rfl, rfl⟩))
    (fun os started H enc _ F => by rw [OpenClaim.pre_eq_preRow]; exact lifted os started H enc F)

/-- No parameter wants a stand-in; the program's own looks are on. -/
theorem plain (f : FuncId) (fn : Func) (hf : Tryd.pinned.checked.prog.funcNamed "loop.example/g00861/laws.FnExactReadTable" = some f) (hfn : Tryd.pinned.checked.prog.funcs[f]? = some fn) :
    true = Tryd.pinned.checked.prog.looks [] ∧ ∀ (j : Nat) t, fn.params[j]? = some t → Tryd.pinned.checked.prog.wantsStandIn t = false := by
  obtain rfl : f = 4 := Option.some.inj ((show Tryd.prog.funcNamed "loop.example/g00861/laws.FnExactReadTable" = some 4 by kernel_rfl).symm.trans hf) |>.symm
  obtain rfl : fn = Tryd.f4 := (Option.some.inj (Tryd.func4.symm.trans hfn)).symm
  refine ⟨by kernel_rfl, fun j t ht => ?_⟩
  rw [Tryd.params4] at ht
  obtain rfl : t = 9 := by simpa using Array.mem_of_getElem? ht
  exact (show Tryd.prog.wantsStandIn 9 = false by kernel_rfl)

theorem card : Rows.FnExactReadTableCardSaid :=
  Claim7.holds_tied_plain_at .later [] _ _ _ _ said (fun _ h => by cases h) (by kernel_rfl) (fun _ h => by cases h) fnExactReadTable_row_tie rfl ⟨rfl, rfl⟩ (by kernel_rfl) rfl plain (by kernel_rfl)
end Go.Proofs.YtckccpcigkbfmaaDoor.fnExactReadTable
