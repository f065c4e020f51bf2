/-
The program's number of nodes of a block.
-/
import Derived.Test.YtmlbpfbdhhkfkaaGreatLinkF
namespace Go.Proofs.YtmlbpfbdhhkfkaaGreat
open Go.ChangeShapes Go.WideShapes Go.ChangeAt Go.RowKit Go.Deep
set_option linter.unusedVariables false
set_option linter.unusedSimpArgs false
set_option maxRecDepth 100000
theorem implNodeCount_any (f : Nat → Value) (z : BlkD) (w : World) (h : BlkF w w.heap.size f z) :
  Calls Tryz.prog 21 #[.agg #[f 0, f 1, f 2, f 3, f 4]] w fun e w' => e = .returned (.int .i64 (ndCount z)) ∧ Below w.heap.size w w' := by
 have HB := Lib.hid (fun (w1 : World) (hb : Below w.heap.size w w1) => netBlk_all f z w1 (h.up hb))
 obtain ⟨p0, q0, p1, q1, p2, q2, p3, q3, p4, q4, e0, e1, e2, e3, e4⟩ := h.five
 rw [e0, e1, e2, e3, e4] at HB
 rw [e0, e1, e2, e3, e4]
 clear e0 e1 e2 e3 e4 h
 unfold BlkNet at HB
 cases hb : blkB z
 ·rw [show ndCount z = -1 by simp [ndCount, hb]]
  rw [hb] at HB
  clear hb
  go_enter Tryz.func21, Tryz.ntmps21
  go_wp2_with fail
  (go_at_call 55; refine (HB.out _ eX).mono ?_; rintro e w1 ⟨a, n, c, m, rfl, hb, _⟩)
  go_wp2
  go_ret
  exact ⟨rfl, eX⟩
 ·have h100 := placesM (blk_get hb).1
  have HN := Lib.hid (show ndCount z = 2 * ((places z.lib z.des).length : Int) by simp [ndCount, hb, ndN])
  rw [hb] at HB
  clear hb
  go_enter Tryz.func21, Tryz.ntmps21
  go_wp2_with fail
  (go_at_call 55; refine (HB.out _ eX).mono ?_; rintro e w1 ⟨a, n, c, m, rfl, hb, hk⟩)
  obtain ⟨rfl, _, _⟩ := (hk (by trivial)).look (by omega)
  clear hk
  go_wp2
  go_ret
  exact ⟨ret_int (by rw [HN.out]), eX⟩
end Go.Proofs.YtmlbpfbdhhkfkaaGreat
