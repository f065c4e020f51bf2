/-
The law FnExactArcsTo answers true at every input of its type and leaves its arguments as they were; no condition.
-/
import Derived.Test.YtnmjfbloedmgeaaRows
import Derived.Test.YtnmjfbloedmgeaaTo
import Derived.Test.YtnmjfbloedmgeaaMarkC
import Derived.Test.YtnmjfbloedmgeaaMark
import Derived.Test.YtnmjfbloedmgeaaCellE
import Derived.Test.YtnmjfbloedmgeaaOpen
import Derived.WalkKit
import Derived.ProofKit
import Derived.OpenShut
import Derived.Carry
import Derived.WideKeyArgs
import Derived.Lib.SmallJoins
namespace Go.Proofs.Ytnmjfbloedmgeaa.fnExactArcsTo
open Go.ChangeShapes Go.WideShapes Go.ChangeAt Go.RowKit Go.Joins
set_option linter.unusedVariables false
set_option linter.unusedSimpArgs false

theorem own : ownKnob Try.prog.godebug = none := by kernel_rfl
theorem laidOut : laidOutB Try.prog = true := by kernel_rfl
theorem cells26 : Try.prog.cellsOf 26 = 7 := by kernel_rfl
theorem toV_len (c : CellD) (p q : Int) : (toV c p q).length ≤ c.arcs.length := by
  unfold toV
  split
  · exact arcL_len _ _ _ _
  · simp
set_option maxRecDepth 100000 in
set_option maxHeartbeats 8000000 in
theorem walk (f0 : Nat → Value) (c0 : CellD) (a1 : Int) (w1 : (Lit.int .i64 a1).wf = true) (a2 : Int) (w2 : (Lit.int .i64 a2).wf = true) (w : World) (h0 : CellF w w.heap.size f0 c0) :
    Calls Try.prog 8 #[.agg #[f0 0, f0 1, f0 2, f0 3, f0 4, f0 5, f0 6], .int .i64 a1, .int .i64 a2] w fun e w' => e = .returned (.bool true) ∧ Below w.heap.size w w' := by
  have H0 := Lib.hid h0
  have hsz := h0.2.2.2.2.2.2.2
  clear h0 w1 w2
  go_enter Try.func8, Try.ntmps8
  go_wp2_with fail
  (go_at_call 9; refine (szCell_any f0 c0 _ _ (H0.out.up (by (repeat (first | (with_reducible exact Below.refl _ _) | (with_reducible assumption) | (with_reducible refine ext_alloc ?_ _) | (with_reducible refine ext_drew ?_) | (with_reducible refine ext_drewN ?_ _) | (with_reducible refine ext_set ?_ (by first | exact Nat.le_refl _ | (simp; done) | (simp; omega) | omega) _) | (with_reducible refine ext_trans ?_ (by assumption)))))) (by omega) (by omega)).mono ?_; rintro e w1 ⟨⟨r, rfl, hr0, hr1, hr⟩, hb⟩; obtain ⟨hc, hf⟩ := bcell hb; have hz := hb.size; (try simp at hz); (try (have hz := Nat.lt_of_succ_le hz)); (try (have y0 : w.heap.size ≤ w1.heap.size := by omega)); (try (have z0 : w.heap.size < w1.heap.size := by omega)); (try (have z1 : w.heap.size + 1 < w1.heap.size := by omega)); (try (have z2 : w.heap.size + 1 + 1 < w1.heap.size := by omega)); (try (have z3 : w.heap.size + 1 + 1 + 1 < w1.heap.size := by omega)); (try (have z4 : w.heap.size + 1 + 1 + 1 + 1 < w1.heap.size := by omega)))
  by_cases hneg : r < 0
  · go_wp2
    go_ret
    exact ⟨rfl, by (repeat (first | (with_reducible exact Below.refl _ _) | (with_reducible assumption) | (with_reducible refine ext_alloc ?_ _) | (with_reducible refine ext_drew ?_) | (with_reducible refine ext_drewN ?_ _) | (with_reducible refine ext_set ?_ (by first | exact Nat.le_refl _ | (simp; done) | (simp; omega) | omega) _) | (with_reducible refine ext_trans ?_ (by assumption))))⟩
  · have hm := hr (by omega)
    have hlen : (toV c0 a1 a2).length ≤ 1048576 := Nat.le_trans (toV_len _ _ _) hm.2.1.1
    obtain ⟨xs, hxs⟩ : ∃ xs, xs = toV c0 a1 a2 := ⟨_, rfl⟩
    have HX := Lib.hid hxs
    rw [← hxs] at hlen
    clear hr hxs
    go_wp2_with fail
    (go_at_call 11; refine (toCell_any f0 c0 _ (H0.out.up (by (repeat (first | (with_reducible exact Below.refl _ _) | (with_reducible assumption) | (with_reducible refine ext_alloc ?_ _) | (with_reducible refine ext_drew ?_) | (with_reducible refine ext_drewN ?_ _) | (with_reducible refine ext_set ?_ (by first | exact Nat.le_refl _ | (simp; done) | (simp; omega) | omega) _) | (with_reducible refine ext_trans ?_ (by assumption)))))) hm).mono ?_; rintro e w2 ⟨au2, au3, au4, rfl, ah, hb⟩; obtain ⟨hc, hf⟩ := bcell hb; have hz := hb.size; (try simp at hz); (try (have hz := Nat.lt_of_succ_le hz)); (try (have y0 : w.heap.size ≤ w2.heap.size := by omega)); (try (have z0 : w.heap.size < w2.heap.size := by omega)); (try (have z1 : w.heap.size + 1 < w2.heap.size := by omega)); (try (have z2 : w.heap.size + 1 + 1 < w2.heap.size := by omega)); (try (have z3 : w.heap.size + 1 + 1 + 1 < w2.heap.size := by omega)); (try (have z4 : w.heap.size + 1 + 1 + 1 + 1 < w2.heap.size := by omega)))
    obtain ⟨ap2, aq2, rfl⟩ := ah.1.slice; obtain ⟨ap3, aq3, rfl⟩ := ah.2.1.slice; obtain ⟨ap4, aq4, rfl⟩ := ah.2.2.slice
    have aU := Lib.hid (show CellF w2 w2.heap.size (vec [.string c0.name, .int .i64 c0.kind, .slice ap2 c0.pins.length aq2, .slice ap3 c0.arcs.length aq3, .slice ap4 c0.truth.length aq4, .int .i64 c0.leak, .int .i64 c0.energy]) c0 from ⟨rfl, rfl, ah.1.out, ah.2.1.out, ah.2.2.ints, rfl, rfl, hsz⟩)
    clear ah
    go_wp2_with fail
    (go_at_call 25; refine ((HX.out ▸ specArcsTo_any (vec [.string c0.name, .int .i64 c0.kind, .slice ap2 c0.pins.length aq2, .slice ap3 c0.arcs.length aq3, .slice ap4 c0.truth.length aq4, .int .i64 c0.leak, .int .i64 c0.energy]) c0 a1 a2 _ (aU.out.up (by (repeat (first | (with_reducible exact Below.refl _ _) | (with_reducible assumption) | (with_reducible refine ext_alloc ?_ _) | (with_reducible refine ext_drew ?_) | (with_reducible refine ext_drewN ?_ _) | (with_reducible refine ext_set ?_ (by first | exact Nat.le_refl _ | (simp; done) | (simp; omega) | omega) _) | (with_reducible refine ext_trans ?_ (by assumption)))))) : Calls Try.prog _ _ _ (NewI xs _))).mono ?_; rintro e w3 ⟨sv, rfl, hs, hb⟩; obtain ⟨hc, hf⟩ := bcell hb; have hz := hb.size; (try simp at hz); (try (have hz := Nat.lt_of_succ_le hz)); (try (have y0 : w.heap.size ≤ w3.heap.size := by omega)); (try (have z0 : w.heap.size < w3.heap.size := by omega)); (try (have z1 : w.heap.size + 1 < w3.heap.size := by omega)); (try (have z2 : w.heap.size + 1 + 1 < w3.heap.size := by omega)); (try (have z3 : w.heap.size + 1 + 1 + 1 < w3.heap.size := by omega)); (try (have z4 : w.heap.size + 1 + 1 + 1 + 1 < w3.heap.size := by omega)))
    obtain ⟨sp, sq, rfl⟩ := hs.slice
    have S3 := Lib.hid hs.ints
    clear hs
    go_wp2_with fail
    (go_at_call 11; refine (toCell_any f0 c0 _ (H0.out.up (by (repeat (first | (with_reducible exact Below.refl _ _) | (with_reducible assumption) | (with_reducible refine ext_alloc ?_ _) | (with_reducible refine ext_drew ?_) | (with_reducible refine ext_drewN ?_ _) | (with_reducible refine ext_set ?_ (by first | exact Nat.le_refl _ | (simp; done) | (simp; omega) | omega) _) | (with_reducible refine ext_trans ?_ (by assumption)))))) hm).mono ?_; rintro e w4 ⟨bu2, bu3, bu4, rfl, bh, hb⟩; obtain ⟨hc, hf⟩ := bcell hb; have hz := hb.size; (try simp at hz); (try (have hz := Nat.lt_of_succ_le hz)); (try (have y0 : w.heap.size ≤ w4.heap.size := by omega)); (try (have z0 : w.heap.size < w4.heap.size := by omega)); (try (have z1 : w.heap.size + 1 < w4.heap.size := by omega)); (try (have z2 : w.heap.size + 1 + 1 < w4.heap.size := by omega)); (try (have z3 : w.heap.size + 1 + 1 + 1 < w4.heap.size := by omega)); (try (have z4 : w.heap.size + 1 + 1 + 1 + 1 < w4.heap.size := by omega)))
    obtain ⟨bp2, bq2, rfl⟩ := bh.1.slice; obtain ⟨bp3, bq3, rfl⟩ := bh.2.1.slice; obtain ⟨bp4, bq4, rfl⟩ := bh.2.2.slice
    have bU := Lib.hid (show CellF w4 w4.heap.size (vec [.string c0.name, .int .i64 c0.kind, .slice bp2 c0.pins.length bq2, .slice bp3 c0.arcs.length bq3, .slice bp4 c0.truth.length bq4, .int .i64 c0.leak, .int .i64 c0.energy]) c0 from ⟨rfl, rfl, bh.1.out, bh.2.1.out, bh.2.2.ints, rfl, rfl, hsz⟩)
    have BK := Lib.hid (show CellK w4 w3.heap.size w4.heap.size (vec [.string c0.name, .int .i64 c0.kind, .slice bp2 c0.pins.length bq2, .slice bp3 c0.arcs.length bq3, .slice bp4 c0.truth.length bq4, .int .i64 c0.leak, .int .i64 c0.energy]) c0 from ⟨bh.1.marking hm.1, bh.2.1.marking hm.2.1, bh.2.2.marking hm.2.2⟩)
    clear bh
    go_wp2_with fail
    (go_at_call 26; refine ((HX.out ▸ implArcsTo_any (vec [.string c0.name, .int .i64 c0.kind, .slice bp2 c0.pins.length bq2, .slice bp3 c0.arcs.length bq3, .slice bp4 c0.truth.length bq4, .int .i64 c0.leak, .int .i64 c0.energy]) c0 a1 a2 _ (bU.out.up (by (repeat (first | (with_reducible exact Below.refl _ _) | (with_reducible assumption) | (with_reducible refine ext_alloc ?_ _) | (with_reducible refine ext_drew ?_) | (with_reducible refine ext_drewN ?_ _) | (with_reducible refine ext_set ?_ (by first | exact Nat.le_refl _ | (simp; done) | (simp; omega) | omega) _) | (with_reducible refine ext_trans ?_ (by assumption)))))) : Calls Try.prog _ _ _ (NewI xs _))).mono ?_; rintro e w5 ⟨gv, rfl, hg, hb⟩; obtain ⟨hc, hf⟩ := bcell hb; have hz := hb.size; (try simp at hz); (try (have hz := Nat.lt_of_succ_le hz)); (try (have y0 : w.heap.size ≤ w5.heap.size := by omega)); (try (have z0 : w.heap.size < w5.heap.size := by omega)); (try (have z1 : w.heap.size + 1 < w5.heap.size := by omega)); (try (have z2 : w.heap.size + 1 + 1 < w5.heap.size := by omega)); (try (have z3 : w.heap.size + 1 + 1 + 1 < w5.heap.size := by omega)); (try (have z4 : w.heap.size + 1 + 1 + 1 + 1 < w5.heap.size := by omega)))
    obtain ⟨gp, gq, rfl⟩ := hg.slice
    have G5 := Lib.hid (OwnS.mono (C := w4.heap.size + 1) hg (by simp))
    clear hg
    have b45 : w4.heap.size + 1 ≤ w5.heap.size := by simpa using hb.size
    go_wp2_with fail
    (go_at_call 27; refine (eqInt64S_same _ _ xs _ (G5.out.ints) (S3.out.up (by (repeat (first | (with_reducible exact Below.refl _ _) | (with_reducible assumption) | (with_reducible refine ext_alloc ?_ _) | (with_reducible refine ext_drew ?_) | (with_reducible refine ext_drewN ?_ _) | (with_reducible refine ext_set ?_ (by first | exact Nat.le_refl _ | (simp; done) | (simp; omega) | omega) _) | (with_reducible refine ext_trans ?_ (by assumption))))))).mono ?_; rintro e w5b ⟨rfl, hb⟩; obtain ⟨hc, hf⟩ := bcell hb; have hz := hb.size; (try simp at hz); (try (have hz := Nat.lt_of_succ_le hz)); (try (have y0 : w.heap.size ≤ w5b.heap.size := by omega)); (try (have z0 : w.heap.size < w5b.heap.size := by omega)); (try (have z1 : w.heap.size + 1 < w5b.heap.size := by omega)); (try (have z2 : w.heap.size + 1 + 1 < w5b.heap.size := by omega)); (try (have z3 : w.heap.size + 1 + 1 + 1 < w5b.heap.size := by omega)); (try (have z4 : w.heap.size + 1 + 1 + 1 + 1 < w5b.heap.size := by omega)))
    go_upto_region 10 with fail
    have cc0 : w5b.cell? ⟨w.heap.size, 0, none⟩ = some (f0 0) := cell_keep (w0 := w.alloc (Obj.cells #[f0 0, f0 1, f0 2, f0 3, f0 4, f0 5, f0 6] 26)) (by simp [go_sem]) (by (repeat (first | (with_reducible exact Below.refl _ _) | (with_reducible assumption) | (with_reducible refine ext_alloc ?_ _) | (with_reducible refine ext_drew ?_) | (with_reducible refine ext_drewN ?_ _) | (with_reducible refine ext_set ?_ (by first | exact Nat.le_refl _ | (simp; done) | (simp; omega) | omega) _) | (with_reducible refine ext_trans ?_ (by assumption)))))
    have cc1 : w5b.cell? ⟨w.heap.size, 1, none⟩ = some (f0 1) := cell_keep (w0 := w.alloc (Obj.cells #[f0 0, f0 1, f0 2, f0 3, f0 4, f0 5, f0 6] 26)) (by simp [go_sem]) (by (repeat (first | (with_reducible exact Below.refl _ _) | (with_reducible assumption) | (with_reducible refine ext_alloc ?_ _) | (with_reducible refine ext_drew ?_) | (with_reducible refine ext_drewN ?_ _) | (with_reducible refine ext_set ?_ (by first | exact Nat.le_refl _ | (simp; done) | (simp; omega) | omega) _) | (with_reducible refine ext_trans ?_ (by assumption)))))
    have cc2 : w5b.cell? ⟨w.heap.size, 2, none⟩ = some (f0 2) := cell_keep (w0 := w.alloc (Obj.cells #[f0 0, f0 1, f0 2, f0 3, f0 4, f0 5, f0 6] 26)) (by simp [go_sem]) (by (repeat (first | (with_reducible exact Below.refl _ _) | (with_reducible assumption) | (with_reducible refine ext_alloc ?_ _) | (with_reducible refine ext_drew ?_) | (with_reducible refine ext_drewN ?_ _) | (with_reducible refine ext_set ?_ (by first | exact Nat.le_refl _ | (simp; done) | (simp; omega) | omega) _) | (with_reducible refine ext_trans ?_ (by assumption)))))
    have cc3 : w5b.cell? ⟨w.heap.size, 3, none⟩ = some (f0 3) := cell_keep (w0 := w.alloc (Obj.cells #[f0 0, f0 1, f0 2, f0 3, f0 4, f0 5, f0 6] 26)) (by simp [go_sem]) (by (repeat (first | (with_reducible exact Below.refl _ _) | (with_reducible assumption) | (with_reducible refine ext_alloc ?_ _) | (with_reducible refine ext_drew ?_) | (with_reducible refine ext_drewN ?_ _) | (with_reducible refine ext_set ?_ (by first | exact Nat.le_refl _ | (simp; done) | (simp; omega) | omega) _) | (with_reducible refine ext_trans ?_ (by assumption)))))
    have cc4 : w5b.cell? ⟨w.heap.size, 4, none⟩ = some (f0 4) := cell_keep (w0 := w.alloc (Obj.cells #[f0 0, f0 1, f0 2, f0 3, f0 4, f0 5, f0 6] 26)) (by simp [go_sem]) (by (repeat (first | (with_reducible exact Below.refl _ _) | (with_reducible assumption) | (with_reducible refine ext_alloc ?_ _) | (with_reducible refine ext_drew ?_) | (with_reducible refine ext_drewN ?_ _) | (with_reducible refine ext_set ?_ (by first | exact Nat.le_refl _ | (simp; done) | (simp; omega) | omega) _) | (with_reducible refine ext_trans ?_ (by assumption)))))
    have cc5 : w5b.cell? ⟨w.heap.size, 5, none⟩ = some (f0 5) := cell_keep (w0 := w.alloc (Obj.cells #[f0 0, f0 1, f0 2, f0 3, f0 4, f0 5, f0 6] 26)) (by simp [go_sem]) (by (repeat (first | (with_reducible exact Below.refl _ _) | (with_reducible assumption) | (with_reducible refine ext_alloc ?_ _) | (with_reducible refine ext_drew ?_) | (with_reducible refine ext_drewN ?_ _) | (with_reducible refine ext_set ?_ (by first | exact Nat.le_refl _ | (simp; done) | (simp; omega) | omega) _) | (with_reducible refine ext_trans ?_ (by assumption)))))
    have cc6 : w5b.cell? ⟨w.heap.size, 6, none⟩ = some (f0 6) := cell_keep (w0 := w.alloc (Obj.cells #[f0 0, f0 1, f0 2, f0 3, f0 4, f0 5, f0 6] 26)) (by simp [go_sem]) (by (repeat (first | (with_reducible exact Below.refl _ _) | (with_reducible assumption) | (with_reducible refine ext_alloc ?_ _) | (with_reducible refine ext_drew ?_) | (with_reducible refine ext_drewN ?_ _) | (with_reducible refine ext_set ?_ (by first | exact Nat.le_refl _ | (simp; done) | (simp; omega) | omega) _) | (with_reducible refine ext_trans ?_ (by assumption)))))
    have cc7 : w5b.cell? ⟨w4.heap.size, 0, none⟩ = some (.string c0.name) := cell_keep (w0 := w4.alloc (Obj.cells #[.string c0.name, .int .i64 c0.kind, .slice bp2 c0.pins.length bq2, .slice bp3 c0.arcs.length bq3, .slice bp4 c0.truth.length bq4, .int .i64 c0.leak, .int .i64 c0.energy] 32)) (by simp [go_sem]) (by (repeat (first | (with_reducible exact Below.refl _ _) | (with_reducible assumption) | (with_reducible refine ext_alloc ?_ _) | (with_reducible refine ext_drew ?_) | (with_reducible refine ext_drewN ?_ _) | (with_reducible refine ext_set ?_ (by first | exact Nat.le_refl _ | (simp; done) | (simp; omega) | omega) _) | (with_reducible refine ext_trans ?_ (by assumption)))))
    have cc8 : w5b.cell? ⟨w4.heap.size, 1, none⟩ = some (.int .i64 c0.kind) := cell_keep (w0 := w4.alloc (Obj.cells #[.string c0.name, .int .i64 c0.kind, .slice bp2 c0.pins.length bq2, .slice bp3 c0.arcs.length bq3, .slice bp4 c0.truth.length bq4, .int .i64 c0.leak, .int .i64 c0.energy] 32)) (by simp [go_sem]) (by (repeat (first | (with_reducible exact Below.refl _ _) | (with_reducible assumption) | (with_reducible refine ext_alloc ?_ _) | (with_reducible refine ext_drew ?_) | (with_reducible refine ext_drewN ?_ _) | (with_reducible refine ext_set ?_ (by first | exact Nat.le_refl _ | (simp; done) | (simp; omega) | omega) _) | (with_reducible refine ext_trans ?_ (by assumption)))))
    have cc9 : w5b.cell? ⟨w4.heap.size, 2, none⟩ = some (.slice bp2 c0.pins.length bq2) := cell_keep (w0 := w4.alloc (Obj.cells #[.string c0.name, .int .i64 c0.kind, .slice bp2 c0.pins.length bq2, .slice bp3 c0.arcs.length bq3, .slice bp4 c0.truth.length bq4, .int .i64 c0.leak, .int .i64 c0.energy] 32)) (by simp [go_sem]) (by (repeat (first | (with_reducible exact Below.refl _ _) | (with_reducible assumption) | (with_reducible refine ext_alloc ?_ _) | (with_reducible refine ext_drew ?_) | (with_reducible refine ext_drewN ?_ _) | (with_reducible refine ext_set ?_ (by first | exact Nat.le_refl _ | (simp; done) | (simp; omega) | omega) _) | (with_reducible refine ext_trans ?_ (by assumption)))))
    have cc10 : w5b.cell? ⟨w4.heap.size, 3, none⟩ = some (.slice bp3 c0.arcs.length bq3) := cell_keep (w0 := w4.alloc (Obj.cells #[.string c0.name, .int .i64 c0.kind, .slice bp2 c0.pins.length bq2, .slice bp3 c0.arcs.length bq3, .slice bp4 c0.truth.length bq4, .int .i64 c0.leak, .int .i64 c0.energy] 32)) (by simp [go_sem]) (by (repeat (first | (with_reducible exact Below.refl _ _) | (with_reducible assumption) | (with_reducible refine ext_alloc ?_ _) | (with_reducible refine ext_drew ?_) | (with_reducible refine ext_drewN ?_ _) | (with_reducible refine ext_set ?_ (by first | exact Nat.le_refl _ | (simp; done) | (simp; omega) | omega) _) | (with_reducible refine ext_trans ?_ (by assumption)))))
    have cc11 : w5b.cell? ⟨w4.heap.size, 4, none⟩ = some (.slice bp4 c0.truth.length bq4) := cell_keep (w0 := w4.alloc (Obj.cells #[.string c0.name, .int .i64 c0.kind, .slice bp2 c0.pins.length bq2, .slice bp3 c0.arcs.length bq3, .slice bp4 c0.truth.length bq4, .int .i64 c0.leak, .int .i64 c0.energy] 32)) (by simp [go_sem]) (by (repeat (first | (with_reducible exact Below.refl _ _) | (with_reducible assumption) | (with_reducible refine ext_alloc ?_ _) | (with_reducible refine ext_drew ?_) | (with_reducible refine ext_drewN ?_ _) | (with_reducible refine ext_set ?_ (by first | exact Nat.le_refl _ | (simp; done) | (simp; omega) | omega) _) | (with_reducible refine ext_trans ?_ (by assumption)))))
    have cc12 : w5b.cell? ⟨w4.heap.size, 5, none⟩ = some (.int .i64 c0.leak) := cell_keep (w0 := w4.alloc (Obj.cells #[.string c0.name, .int .i64 c0.kind, .slice bp2 c0.pins.length bq2, .slice bp3 c0.arcs.length bq3, .slice bp4 c0.truth.length bq4, .int .i64 c0.leak, .int .i64 c0.energy] 32)) (by simp [go_sem]) (by (repeat (first | (with_reducible exact Below.refl _ _) | (with_reducible assumption) | (with_reducible refine ext_alloc ?_ _) | (with_reducible refine ext_drew ?_) | (with_reducible refine ext_drewN ?_ _) | (with_reducible refine ext_set ?_ (by first | exact Nat.le_refl _ | (simp; done) | (simp; omega) | omega) _) | (with_reducible refine ext_trans ?_ (by assumption)))))
    have cc13 : w5b.cell? ⟨w4.heap.size, 6, none⟩ = some (.int .i64 c0.energy) := cell_keep (w0 := w4.alloc (Obj.cells #[.string c0.name, .int .i64 c0.kind, .slice bp2 c0.pins.length bq2, .slice bp3 c0.arcs.length bq3, .slice bp4 c0.truth.length bq4, .int .i64 c0.leak, .int .i64 c0.energy] 32)) (by simp [go_sem]) (by (repeat (first | (with_reducible exact Below.refl _ _) | (with_reducible assumption) | (with_reducible refine ext_alloc ?_ _) | (with_reducible refine ext_drew ?_) | (with_reducible refine ext_drewN ?_ _) | (with_reducible refine ext_set ?_ (by first | exact Nat.le_refl _ | (simp; done) | (simp; omega) | omega) _) | (with_reducible refine ext_trans ?_ (by assumption)))))
    have BK5 := Lib.hid (BK.out.sk (Sk.below (L := 0) (R := 0) (by (repeat (first | (with_reducible exact Below.refl _ _) | (with_reducible assumption) | (with_reducible refine ext_alloc ?_ _) | (with_reducible refine ext_drew ?_) | (with_reducible refine ext_drewN ?_ _) | (with_reducible refine ext_set ?_ (by first | exact Nat.le_refl _ | (simp; done) | (simp; omega) | omega) _) | (with_reducible refine ext_trans ?_ (by assumption)))))) : CellK w5b _ _ _ _)
    have S5 := Lib.hid (IntS.keep (C := w3.heap.size) S3.out (show Below w3.heap.size w3 w5b by (repeat (first | (with_reducible exact Below.refl _ _) | (with_reducible assumption) | (with_reducible refine ext_alloc ?_ _) | (with_reducible refine ext_drew ?_) | (with_reducible refine ext_drewN ?_ _) | (with_reducible refine ext_set ?_ (by first | exact Nat.le_refl _ | (simp; done) | (simp; omega) | omega) _) | (with_reducible refine ext_trans ?_ (by assumption))))) (Nat.le_refl _))
    have G5b := Lib.hid (G5.out.keep (by (repeat (first | (with_reducible exact Below.refl _ _) | (with_reducible assumption) | (with_reducible refine ext_alloc ?_ _) | (with_reducible refine ext_drew ?_) | (with_reducible refine ext_drewN ?_ _) | (with_reducible refine ext_set ?_ (by first | exact Nat.le_refl _ | (simp; done) | (simp; omega) | omega) _) | (with_reducible refine ext_trans ?_ (by assumption))))) : OwnS w5b _ _ _)
    have bU5 := Lib.hid (bU.out.up (by (repeat (first | (with_reducible exact Below.refl _ _) | (with_reducible assumption) | (with_reducible refine ext_alloc ?_ _) | (with_reducible refine ext_drew ?_) | (with_reducible refine ext_drewN ?_ _) | (with_reducible refine ext_set ?_ (by first | exact Nat.le_refl _ | (simp; done) | (simp; omega) | omega) _) | (with_reducible refine ext_trans ?_ (by assumption))))) : CellF w5b _ _ _)
    have B5 : Below w.heap.size w w5b := by (repeat (first | (with_reducible exact Below.refl _ _) | (with_reducible assumption) | (with_reducible refine ext_alloc ?_ _) | (with_reducible refine ext_drew ?_) | (with_reducible refine ext_drewN ?_ _) | (with_reducible refine ext_set ?_ (by first | exact Nat.le_refl _ | (simp; done) | (simp; omega) | omega) _) | (with_reducible refine ext_trans ?_ (by assumption))))
    have n3 : w.heap.size < w3.heap.size := by omega
    have n34 : w3.heap.size ≤ w4.heap.size := by omega
    have n4 : w4.heap.size < w5b.heap.size := by omega
    clear G5 S3 BK
    go_region_held3 (fun w' => w'.cell? ⟨w.heap.size, 0, none⟩ = some (f0 0) ∧ w'.cell? ⟨w.heap.size, 1, none⟩ = some (f0 1) ∧ w'.cell? ⟨w.heap.size, 2, none⟩ = some (f0 2) ∧ w'.cell? ⟨w.heap.size, 3, none⟩ = some (f0 3) ∧ w'.cell? ⟨w.heap.size, 4, none⟩ = some (f0 4) ∧ w'.cell? ⟨w.heap.size, 5, none⟩ = some (f0 5) ∧ w'.cell? ⟨w.heap.size, 6, none⟩ = some (f0 6) ∧ w'.cell? ⟨w4.heap.size, 0, none⟩ = some (.string c0.name) ∧ w'.cell? ⟨w4.heap.size, 1, none⟩ = some (.int .i64 c0.kind) ∧ w'.cell? ⟨w4.heap.size, 2, none⟩ = some (.slice bp2 c0.pins.length bq2) ∧ w'.cell? ⟨w4.heap.size, 3, none⟩ = some (.slice bp3 c0.arcs.length bq3) ∧ w'.cell? ⟨w4.heap.size, 4, none⟩ = some (.slice bp4 c0.truth.length bq4) ∧ w'.cell? ⟨w4.heap.size, 5, none⟩ = some (.int .i64 c0.leak) ∧ w'.cell? ⟨w4.heap.size, 6, none⟩ = some (.int .i64 c0.energy) ∧ Below w.heap.size w w' ∧ w4.heap.size < w'.heap.size) (first | exact (Hid.out (by assumption)) | exact keep14 (Hid.out (by assumption)) ((Below.refl _ _).alloc (Nat.le_refl _) _) | exact keep14s (keep14s (Hid.out (by assumption)) (by first | assumption | (simp; done) | (simp; omega) | omega) (by first | assumption | (simp; done) | (simp; omega) | omega) (by first | assumption | (simp; done) | (simp; omega) | omega) (by first | assumption | (simp; done) | (simp; omega) | omega) (by first | assumption | (simp; done) | (simp; omega) | omega) (by first | assumption | (simp; done) | (simp; omega) | omega) (by first | assumption | (simp; done) | (simp; omega) | omega) (by first | assumption | (simp; done) | (simp; omega) | omega) (by first | assumption | (simp; done) | (simp; omega) | omega) (by first | assumption | (simp; done) | (simp; omega) | omega) (by first | assumption | (simp; done) | (simp; omega) | omega) (by first | assumption | (simp; done) | (simp; omega) | omega) (by first | assumption | (simp; done) | (simp; omega) | omega) (by first | assumption | (simp; done) | (simp; omega) | omega) (by first | assumption | (simp; done) | (simp; omega) | omega) (by first | assumption | (simp; done) | (simp; omega) | omega)) (by first | assumption | (simp; done) | (simp; omega) | omega) (by first | assumption | (simp; done) | (simp; omega) | omega) (by first | assumption | (simp; done) | (simp; omega) | omega) (by first | assumption | (simp; done) | (simp; omega) | omega) (by first | assumption | (simp; done) | (simp; omega) | omega) (by first | assumption | (simp; done) | (simp; omega) | omega) (by first | assumption | (simp; done) | (simp; omega) | omega) (by first | assumption | (simp; done) | (simp; omega) | omega) (by first | assumption | (simp; done) | (simp; omega) | omega) (by first | assumption | (simp; done) | (simp; omega) | omega) (by first | assumption | (simp; done) | (simp; omega) | omega) (by first | assumption | (simp; done) | (simp; omega) | omega) (by first | assumption | (simp; done) | (simp; omega) | omega) (by first | assumption | (simp; done) | (simp; omega) | omega) (by first | assumption | (simp; done) | (simp; omega) | omega) (by first | assumption | (simp; done) | (simp; omega) | omega) | exact keep14s (Hid.out (by assumption)) (by first | assumption | (simp; done) | (simp; omega) | omega) (by first | assumption | (simp; done) | (simp; omega) | omega) (by first | assumption | (simp; done) | (simp; omega) | omega) (by first | assumption | (simp; done) | (simp; omega) | omega) (by first | assumption | (simp; done) | (simp; omega) | omega) (by first | assumption | (simp; done) | (simp; omega) | omega) (by first | assumption | (simp; done) | (simp; omega) | omega) (by first | assumption | (simp; done) | (simp; omega) | omega) (by first | assumption | (simp; done) | (simp; omega) | omega) (by first | assumption | (simp; done) | (simp; omega) | omega) (by first | assumption | (simp; done) | (simp; omega) | omega) (by first | assumption | (simp; done) | (simp; omega) | omega) (by first | assumption | (simp; done) | (simp; omega) | omega) (by first | assumption | (simp; done) | (simp; omega) | omega) (by first | assumption | (simp; done) | (simp; omega) | omega) (by first | assumption | (simp; done) | (simp; omega) | omega) | ((repeat' apply And.intro) <;> first | assumption | ((repeat (first | (with_reducible exact Below.refl _ _) | (with_reducible assumption) | (with_reducible refine ext_alloc ?_ _) | (with_reducible refine ext_drew ?_) | (with_reducible refine ext_drewN ?_ _) | (with_reducible refine ext_set ?_ (by first | exact Nat.le_refl _ | (simp; done) | (simp; omega) | omega) _) | (with_reducible refine ext_trans ?_ (by assumption)))); done) | (simp [go_sem]; done) | (simp [go_sem, *]; done) | (simp; omega) | omega)) (first | ((go_at_call 11; refine (toCell_any f0 c0 _ (H0.out.up (by (repeat (first | (with_reducible exact Below.refl _ _) | (with_reducible assumption) | (with_reducible refine ext_alloc ?_ _) | (with_reducible refine ext_drew ?_) | (with_reducible refine ext_drewN ?_ _) | (with_reducible refine ext_set ?_ (by first | exact Nat.le_refl _ | (simp; done) | (simp; omega) | omega) _) | (with_reducible refine ext_trans ?_ (by assumption)))))) hm).mono ?_; rintro e w6 ⟨du2, du3, du4, rfl, dh, hb⟩; obtain ⟨hc, hf⟩ := bcell hb; have hz := hb.size; (try simp at hz); (try (have hz := Nat.lt_of_succ_le hz)); (try (have y0 : w.heap.size ≤ w6.heap.size := by omega)); (try (have z0 : w.heap.size < w6.heap.size := by omega)); (try (have z1 : w.heap.size + 1 < w6.heap.size := by omega)); (try (have z2 : w.heap.size + 1 + 1 < w6.heap.size := by omega)); (try (have z3 : w.heap.size + 1 + 1 + 1 < w6.heap.size := by omega)); (try (have z4 : w.heap.size + 1 + 1 + 1 + 1 < w6.heap.size := by omega))); obtain ⟨dp2, dq2, rfl⟩ := dh.1.slice; obtain ⟨dp3, dq3, rfl⟩ := dh.2.1.slice; obtain ⟨dp4, dq4, rfl⟩ := dh.2.2.slice; have dU := Lib.hid (show CellF w6 w6.heap.size (vec [.string c0.name, .int .i64 c0.kind, .slice dp2 c0.pins.length dq2, .slice dp3 c0.arcs.length dq3, .slice dp4 c0.truth.length dq4, .int .i64 c0.leak, .int .i64 c0.energy]) c0 from ⟨rfl, rfl, dh.1.out, dh.2.1.out, dh.2.2.ints, rfl, rfl, hsz⟩); clear dh; have hS := Lib.hid (keep14 (by assumption) hb); have zL := (Hid.out hS).2.2.2.2.2.2.2.2.2.2.2.2.2.2.2) | ((go_at_call 13; refine (eqCell_same (vec [.string c0.name, .int .i64 c0.kind, .slice bp2 c0.pins.length bq2, .slice bp3 c0.arcs.length bq3, .slice bp4 c0.truth.length bq4, .int .i64 c0.leak, .int .i64 c0.energy]) (vec [.string c0.name, .int .i64 c0.kind, .slice dp2 c0.pins.length dq2, .slice dp3 c0.arcs.length dq3, .slice dp4 c0.truth.length dq4, .int .i64 c0.leak, .int .i64 c0.energy]) c0 _ (bU5.out.up (by (repeat (first | (with_reducible exact Below.refl _ _) | (with_reducible assumption) | (with_reducible refine ext_alloc ?_ _) | (with_reducible refine ext_drew ?_) | (with_reducible refine ext_drewN ?_ _) | (with_reducible refine ext_set ?_ (by first | exact Nat.le_refl _ | (simp; done) | (simp; omega) | omega) _) | (with_reducible refine ext_trans ?_ (by assumption)))))) (dU.out.up (by (repeat (first | (with_reducible exact Below.refl _ _) | (with_reducible assumption) | (with_reducible refine ext_alloc ?_ _) | (with_reducible refine ext_drew ?_) | (with_reducible refine ext_drewN ?_ _) | (with_reducible refine ext_set ?_ (by first | exact Nat.le_refl _ | (simp; done) | (simp; omega) | omega) _) | (with_reducible refine ext_trans ?_ (by assumption))))))).mono ?_; rintro e w7 ⟨rfl, hb⟩; obtain ⟨hc, hf⟩ := bcell hb; have hz := hb.size; (try simp at hz); (try (have hz := Nat.lt_of_succ_le hz)); (try (have y0 : w.heap.size ≤ w7.heap.size := by omega)); (try (have z0 : w.heap.size < w7.heap.size := by omega)); (try (have z1 : w.heap.size + 1 < w7.heap.size := by omega)); (try (have z2 : w.heap.size + 1 + 1 < w7.heap.size := by omega)); (try (have z3 : w.heap.size + 1 + 1 + 1 < w7.heap.size := by omega)); (try (have z4 : w.heap.size + 1 + 1 + 1 + 1 < w7.heap.size := by omega))); have hS := Lib.hid (keep14 (by assumption) hb); have zL := (Hid.out hS).2.2.2.2.2.2.2.2.2.2.2.2.2.2.2))
    all_goals
      have B57 : Below w5b.heap.size w5b w7 := by (repeat (first | (with_reducible exact Below.refl _ _) | (with_reducible assumption) | (with_reducible refine ext_alloc ?_ _) | (with_reducible refine ext_drew ?_) | (with_reducible refine ext_drewN ?_ _) | (with_reducible refine ext_set ?_ (by first | exact Nat.le_refl _ | (simp; done) | (simp; omega) | omega) _) | (with_reducible refine ext_trans ?_ (by assumption))))
      have s57 := B57.size
      have d0 := cell_keep cc7 B57
      have d1 := cell_keep cc8 B57
      have d2 := cell_keep cc9 B57
      have d3 := cell_keep cc10 B57
      have d4 := cell_keep cc11 B57
      have d5 := cell_keep cc12 B57
      have d6 := cell_keep cc13 B57
      clear hc hf hb
      go_upto_region 13 with fail
      go_wp2_with fail
      go_at_call 28
      have BK7 := Lib.hid (BK5.out.sk (Sk.below (L := 0) (R := 0) B57) : CellK w7 _ _ _ _)
      refine (markCell_k (vec [.string c0.name, .int .i64 c0.kind, .slice bp2 c0.pins.length bq2, .slice bp3 c0.arcs.length bq3, .slice bp4 c0.truth.length bq4, .int .i64 c0.leak, .int .i64 c0.energy]) c0 1 w3.heap.size w4.heap.size _ BK7.out hm (by omega) (by omega) (by omega)).mono ?_
      rintro e w8 ⟨kq, rfl, kq0, kq1, sk⟩
      have x8 : Below w.heap.size w w8 := (B5.trans (B57.mono B5.size)).trans (sk.out (by omega) (by omega))
      have S8 := Lib.hid (IntS.sk (IntS.keep (C := w3.heap.size) S5.out (B57.mono (by omega)) (Nat.le_refl _)) sk (Nat.le_refl _) (by omega))
      have G8 := Lib.hid (OwnS.sk (G5b.out.keep B57) sk (by omega))
      have n8 : w7.heap.size ≤ w8.heap.size := sk.size
      have kk : ¬ kq < 0 := by omega
      have e0 := Lib.hid (sk.keepC (cell_keep cc0 B57) (.inl (by omega)))
      have e1 := Lib.hid (sk.keepC (cell_keep cc1 B57) (.inl (by omega)))
      have e2 := Lib.hid (sk.keepC (cell_keep cc2 B57) (.inl (by omega)))
      have e3 := Lib.hid (sk.keepC (cell_keep cc3 B57) (.inl (by omega)))
      have e4 := Lib.hid (sk.keepC (cell_keep cc4 B57) (.inl (by omega)))
      have e5 := Lib.hid (sk.keepC (cell_keep cc5 B57) (.inl (by omega)))
      have e6 := Lib.hid (sk.keepC (cell_keep cc6 B57) (.inl (by omega)))
      clear sk BK7 BK5 d0 d1 d2 d3 d4 d5 d6 B57 dU
      go_wp2_with fail
      (go_at_call 27; refine (eqInt64S_same _ _ xs _ (IntS.keep G8.out.ints (Below.refl _ _) (Nat.le_refl _)) (IntS.keep S8.out (Below.refl _ _) (by omega))).mono ?_; rintro e w9 ⟨rfl, hb⟩; obtain ⟨hc, hf⟩ := bcell hb; have hz := hb.size; (try simp at hz); (try (have hz := Nat.lt_of_succ_le hz)); (try (have y0 : w.heap.size ≤ w9.heap.size := by omega)); (try (have z0 : w.heap.size < w9.heap.size := by omega)); (try (have z1 : w.heap.size + 1 < w9.heap.size := by omega)); (try (have z2 : w.heap.size + 1 + 1 < w9.heap.size := by omega)); (try (have z3 : w.heap.size + 1 + 1 + 1 < w9.heap.size := by omega)); (try (have z4 : w.heap.size + 1 + 1 + 1 + 1 < w9.heap.size := by omega)))
      have S9 := Lib.hid (IntS.keep (C := w3.heap.size) S8.out (hb.mono (by omega)) (Nat.le_refl _))
      have G9 := Lib.hid (G8.out.keep hb)
      have n9 := hb.size
      have x9 : Below w.heap.size w w9 := x8.trans (hb.mono x8.size)
      have g0 := Lib.hid (cell_keep e0.out hb)
      have g1 := Lib.hid (cell_keep e1.out hb)
      have g2 := Lib.hid (cell_keep e2.out hb)
      have g3 := Lib.hid (cell_keep e3.out hb)
      have g4 := Lib.hid (cell_keep e4.out hb)
      have g5 := Lib.hid (cell_keep e5.out hb)
      have g6 := Lib.hid (cell_keep e6.out hb)
      clear hc hf hb e0 e1 e2 e3 e4 e5 e6 S8 G8
      go_wp2_with fail
      go_at_call 29
      refine (markInt64S_any _ xs 1 (w4.heap.size + 1) _ G9.out (by omega) (by omega)).mono ?_
      rintro e w10 ⟨rfl, hm10, mk⟩
      have b10 : Below (w4.heap.size + 1) w9 w10 := mk.below G9.out
      have M10 := Lib.hid hm10
      have S10 := Lib.hid (IntS.keep (C := w3.heap.size) S9.out (b10.mono (by omega)) (Nat.le_refl _))
      have n10 := b10.size
      have x10 : Below w.heap.size w w10 := x9.trans (b10.mono (by omega))
      have k0 : w10.cell? ⟨w.heap.size, 0, none⟩ = some (f0 0) := by rw [b10.cell (by show w.heap.size < _; omega)]; exact g0.out
      have k1 : w10.cell? ⟨w.heap.size, 1, none⟩ = some (f0 1) := by rw [b10.cell (by show w.heap.size < _; omega)]; exact g1.out
      have k2 : w10.cell? ⟨w.heap.size, 2, none⟩ = some (f0 2) := by rw [b10.cell (by show w.heap.size < _; omega)]; exact g2.out
      have k3 : w10.cell? ⟨w.heap.size, 3, none⟩ = some (f0 3) := by rw [b10.cell (by show w.heap.size < _; omega)]; exact g3.out
      have k4 : w10.cell? ⟨w.heap.size, 4, none⟩ = some (f0 4) := by rw [b10.cell (by show w.heap.size < _; omega)]; exact g4.out
      have k5 : w10.cell? ⟨w.heap.size, 5, none⟩ = some (f0 5) := by rw [b10.cell (by show w.heap.size < _; omega)]; exact g5.out
      have k6 : w10.cell? ⟨w.heap.size, 6, none⟩ = some (f0 6) := by rw [b10.cell (by show w.heap.size < _; omega)]; exact g6.out
      clear mk hm10 b10 G9 S9 g0 g1 g2 g3 g4 g5 g6
      go_wp2_with fail
      go_at_call 30
      refine (heldInt64S_any _ 1 xs.length (w4.heap.size + 1) _ M10.out (by omega) (by omega)).mono ?_
      rintro e w11 ⟨rfl, rfl⟩
      have hq : ¬ (1 : Int) + xs.length < 0 := by omega
      go_wp2_with fail
      (go_at_call 11; refine (toCell_any f0 c0 _ (H0.out.up (by (repeat (first | (with_reducible exact Below.refl _ _) | (with_reducible assumption) | (with_reducible refine ext_alloc ?_ _) | (with_reducible refine ext_drew ?_) | (with_reducible refine ext_drewN ?_ _) | (with_reducible refine ext_set ?_ (by first | exact Nat.le_refl _ | (simp; done) | (simp; omega) | omega) _) | (with_reducible refine ext_trans ?_ (by assumption)))))) hm).mono ?_; rintro e w12 ⟨eu2, eu3, eu4, rfl, eh, hb⟩; obtain ⟨hc, hf⟩ := bcell hb; have hz := hb.size; (try simp at hz); (try (have hz := Nat.lt_of_succ_le hz)); (try (have y0 : w.heap.size ≤ w12.heap.size := by omega)); (try (have z0 : w.heap.size < w12.heap.size := by omega)); (try (have z1 : w.heap.size + 1 < w12.heap.size := by omega)); (try (have z2 : w.heap.size + 1 + 1 < w12.heap.size := by omega)); (try (have z3 : w.heap.size + 1 + 1 + 1 < w12.heap.size := by omega)); (try (have z4 : w.heap.size + 1 + 1 + 1 + 1 < w12.heap.size := by omega)))
      obtain ⟨ep2, eq2, rfl⟩ := eh.1.slice; obtain ⟨ep3, eq3, rfl⟩ := eh.2.1.slice; obtain ⟨ep4, eq4, rfl⟩ := eh.2.2.slice
      have eU := Lib.hid (show CellF w12 w12.heap.size (vec [.string c0.name, .int .i64 c0.kind, .slice ep2 c0.pins.length eq2, .slice ep3 c0.arcs.length eq3, .slice ep4 c0.truth.length eq4, .int .i64 c0.leak, .int .i64 c0.energy]) c0 from ⟨rfl, rfl, eh.1.out, eh.2.1.out, eh.2.2.ints, rfl, rfl, hsz⟩)
      clear eh
      go_wp2_with fail
      (go_at_call 26; refine ((HX.out ▸ implArcsTo_any (vec [.string c0.name, .int .i64 c0.kind, .slice ep2 c0.pins.length eq2, .slice ep3 c0.arcs.length eq3, .slice ep4 c0.truth.length eq4, .int .i64 c0.leak, .int .i64 c0.energy]) c0 a1 a2 _ (eU.out.up (by (repeat (first | (with_reducible exact Below.refl _ _) | (with_reducible assumption) | (with_reducible refine ext_alloc ?_ _) | (with_reducible refine ext_drew ?_) | (with_reducible refine ext_drewN ?_ _) | (with_reducible refine ext_set ?_ (by first | exact Nat.le_refl _ | (simp; done) | (simp; omega) | omega) _) | (with_reducible refine ext_trans ?_ (by assumption)))))) : Calls Try.prog _ _ _ (NewI xs _))).mono ?_; rintro e w13 ⟨kv, rfl, hk, hb⟩; obtain ⟨hc, hf⟩ := bcell hb; have hz := hb.size; (try simp at hz); (try (have hz := Nat.lt_of_succ_le hz)); (try (have y0 : w.heap.size ≤ w13.heap.size := by omega)); (try (have z0 : w.heap.size < w13.heap.size := by omega)); (try (have z1 : w.heap.size + 1 < w13.heap.size := by omega)); (try (have z2 : w.heap.size + 1 + 1 < w13.heap.size := by omega)); (try (have z3 : w.heap.size + 1 + 1 + 1 < w13.heap.size := by omega)); (try (have z4 : w.heap.size + 1 + 1 + 1 + 1 < w13.heap.size := by omega)))
      obtain ⟨kp, kq', rfl⟩ := hk.slice
      have K13 := Lib.hid hk.ints
      clear hk
      go_wp2_with fail
      (go_at_call 27; refine (eqInt64S_same _ _ xs _ (K13.out) (IntS.keep (IntS.keep (C := w3.heap.size) S10.out (show Below w3.heap.size _ _ from Below.mono (by (repeat (first | (with_reducible exact Below.refl _ _) | (with_reducible assumption) | (with_reducible refine ext_alloc ?_ _) | (with_reducible refine ext_drew ?_) | (with_reducible refine ext_drewN ?_ _) | (with_reducible refine ext_set ?_ (by first | exact Nat.le_refl _ | (simp; done) | (simp; omega) | omega) _) | (with_reducible refine ext_trans ?_ (by assumption))))) (by omega)) (Nat.le_refl _)) (Below.refl _ _) (by omega))).mono ?_; rintro e w14 ⟨rfl, hb⟩; obtain ⟨hc, hf⟩ := bcell hb; have hz := hb.size; (try simp at hz); (try (have hz := Nat.lt_of_succ_le hz)); (try (have y0 : w.heap.size ≤ w14.heap.size := by omega)); (try (have z0 : w.heap.size < w14.heap.size := by omega)); (try (have z1 : w.heap.size + 1 < w14.heap.size := by omega)); (try (have z2 : w.heap.size + 1 + 1 < w14.heap.size := by omega)); (try (have z3 : w.heap.size + 1 + 1 + 1 < w14.heap.size := by omega)); (try (have z4 : w.heap.size + 1 + 1 + 1 + 1 < w14.heap.size := by omega)))
      go_wp2_with fail
      go_at_call 30
      refine (heldInt64S_any _ 1 xs.length (w4.heap.size + 1) _ (M10.out.keep (by (repeat (first | (with_reducible exact Below.refl _ _) | (with_reducible assumption) | (with_reducible refine ext_alloc ?_ _) | (with_reducible refine ext_drew ?_) | (with_reducible refine ext_drewN ?_ _) | (with_reducible refine ext_set ?_ (by first | exact Nat.le_refl _ | (simp; done) | (simp; omega) | omega) _) | (with_reducible refine ext_trans ?_ (by assumption)))))) (by omega) (by omega)).mono ?_
      rintro e w15 ⟨rfl, rfl⟩
      go_wp2_with fail
      go_ret
      exact ⟨rfl, by (repeat (first | (with_reducible exact Below.refl _ _) | (with_reducible assumption) | (with_reducible refine ext_alloc ?_ _) | (with_reducible refine ext_drew ?_) | (with_reducible refine ext_drewN ?_ _) | (with_reducible refine ext_set ?_ (by first | exact Nat.le_refl _ | (simp; done) | (simp; omega) | omega) _) | (with_reducible refine ext_trans ?_ (by assumption))))⟩

set_option maxRecDepth 100000 in
theorem lifted (os : Os) (started : os.Started) (H : Type) (enc : TypeId × Value → H) :
    ReturnsInHanded {} Try.checked os 8 .any (Rows.fnExactArcsToSpec.pre6 enc Try.prog Try.f8 Rows.fnExactArcsToRow.domain false) (Rows.fnExactArcsToSpec.post enc Try.prog Try.f8 false true false false) := by
  refine returnsInHanded_of_change (C := Try.checked) own started (by kernel_rfl) Try.func8
    (ChangeSpec.witness6 (enc := enc) (C := Try.checked) false ⟨#[], #[.agg #[.string .empty, .int .i64 0, .slice none 0 0, .slice none 0 0, .slice none 0 0, .int .i64 0, .int .i64 0], .int .i64 0, .int .i64 0], []⟩ 8 (by kernel_rfl) (by kernel_rfl) (by kernel_rfl) (by kernel_rfl)) ?_
  intro W base args ds gs before hval0 hW hcnd _
  have hval : ∀ (j : Nat) t v, Try.f8.params[j]? = some t → args[j]? = some v → Value.okWide Try.prog W .any base t v := hval0
  have hW' := hW
  obtain ⟨p, q, hA0, hV, rfl, hfz, hnd⟩ := hW
  have hA : DataW.TrodAll enc Try.prog W 0 (fun _ => true) true Try.f8.params.toList args.toList ds p := hA0
  rw [Try.params8] at hA hval
  obtain ⟨v0, vs0, d0, ds0, p0, q0, hargs, rfl, rfl, h0, r0⟩ := trodAll_cons hA
  obtain ⟨v1, vs1, d1, ds1, p1, q1, rfl, rfl, rfl, h1, r1⟩ := trodAll_cons r0
  obtain ⟨v2, vs2, d2, ds2, p2, q2, rfl, rfl, rfl, h2, r2⟩ := trodAll_cons r1
  obtain ⟨rfl, rfl, rfl⟩ := trodAll_nil r2
  obtain rfl : args = #[v0, v1, v2] := by cases args; simp_all
  obtain ⟨rfl, rfl⟩ := trodVars_none hV
  have k0 := h0
  have hlt0 : ∀ x ∈ p0, x.block < W.heap.size := fun x hx => hW'.lt x (by first | (simp [hx]; done) | (simp at hx; done) | (simpa using hx))
  have k1 := h1
  have hlt1 : ∀ x ∈ p1, x.block < W.heap.size := fun x hx => hW'.lt x (by first | (simp [hx]; done) | (simp at hx; done) | (simpa using hx))
  have k2 := h2
  have hlt2 : ∀ x ∈ p2, x.block < W.heap.size := fun x hx => hW'.lt x (by first | (simp [hx]; done) | (simp at hx; done) | (simpa using hx))
  obtain ⟨f0, c0, rfl, b0⟩ := Try.openCell (hval 0 26 v0 rfl rfl) h0
  obtain ⟨a1, rfl, rfl, rfl, w1⟩ := open_int Try.underlying2 (hval 1 2 v1 rfl rfl) h1
  obtain ⟨a2, rfl, rfl, rfl, w2⟩ := open_int Try.underlying2 (hval 2 2 v2 rfl rfl) h2
  clear hA0 hval0
  refine (walk f0 c0 a1 w1 a2 w2 W b0).mono fun e W' ⟨he, hg⟩ => ?_
  subst he
  exact ⟨_, rfl, post_ext hg (pv := []) hW' (fun _ _ _ => (trodAll_cons_mk (shut_bool Try.underlying4 _) trodAll_mk0)) (fun sp hsp => (trodAll_cons_mk (WideElems.Trod_stays laidOut (by kernel_rfl) (of_decide_eq_true (by kernel_rfl)) k0 (fun x hx => hg.same (hlt0 x hx)) (fun x hx => hsp x (by first | (simp [hx]; done) | (simp at hx; done) | (simpa using hx)))) (trodAll_cons_mk (WideElems.Trod_stays laidOut (by kernel_rfl) (of_decide_eq_true (by kernel_rfl)) k1 (fun x hx => hg.same (hlt1 x hx)) (fun x hx => hsp x (by first | (simp [hx]; done) | (simp at hx; done) | (simpa using hx)))) (trodAll_cons_mk (WideElems.Trod_stays laidOut (by kernel_rfl) (of_decide_eq_true (by kernel_rfl)) k2 (fun x hx => hg.same (hlt2 x hx)) (fun x hx => hsp x (by first | (simp [hx]; done) | (simp at hx; done) | (simpa using hx)))) trodAll_mk0)))) (fun _ _ => rfl) rfl
    (ok_one (by kernel_rfl) rfl (okWide_bool_mk Try.underlying4 _))⟩

theorem over : Rows.fnExactArcsToRow.holds Try.pinned (OpenSpec.ofChange Rows.fnExactArcsToSpec) :=
  OpenClaim.holds_of_wide 8 Try.f8 rfl rfl rfl rfl rfl rfl rfl ⟨rfl, rfl, rfl, rfl, rfl⟩ rfl rfl rfl rfl rfl (by kernel_rfl) Try.func8 (by kernel_rfl)
    (of_decide_eq_true (by kernel_rfl)) (by unfold Func.isWrapper; first | (rw [if_pos (by decide +kernel)]; kernel_rfl) | (rw [if_neg (by decide +kernel)]; exact ⟨rfl, rfl⟩))
    (fun os started H enc _ => lifted os started H enc)

theorem proved : Rows.FnExactArcsToSaid :=
  over
end Go.Proofs.Ytnmjfbloedmgeaa.fnExactArcsTo
