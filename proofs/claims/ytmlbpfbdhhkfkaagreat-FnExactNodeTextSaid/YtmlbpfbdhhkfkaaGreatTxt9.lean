/-
The text of a node: of the program and of the model.
-/
import Derived.Test.YtmlbpfbdhhkfkaaGreatLinkF
import Derived.Test.YtmlbpfbdhhkfkaaGreatNetQ
namespace Go.Proofs.YtmlbpfbdhhkfkaaGreat
open Go.ChangeShapes Go.WideShapes Go.ChangeAt Go.RowKit Go.Deep
set_option linter.unusedVariables false
set_option linter.unusedSimpArgs false
set_option maxRecDepth 100000
def trTxt (n : Nat) : ByteArray := if n % 2 = 0 then ⟨#[114]⟩ else ⟨#[102]⟩
def ndTxt (z : BlkD) (x : Int) : ByteArray := if blkB z && inB x 0 (ndN z - 1) then ((pll (places z.lib z.des) (x.toNat / 2)).name ++ ⟨#[58]⟩) ++ trTxt x.toNat else .empty
theorem name_bd {z : BlkD} (h : blkB z = true) {k : Nat} (hk : k < (places z.lib z.des).length) : (pll (places z.lib z.des) k).name.size ≤ 17 := by
 obtain ⟨hl, _, hn, hc, _⟩ := desG (blk_get h).1
 simp only [hasNm, Bool.and_eq_true] at hn
 rcases pll_cases hk with ⟨i, j, hi, hj, e⟩ | ⟨j, hj, e⟩
 ·rw [e]
  obtain ⟨i1, i2, _, _⟩ := conn_inst hc hi
  have a := names_size (nm := fun i => (inn z.des.insts i).name) hn.1.1 hi
  have b := pin_name (lib_cell hl i1 i2) hj
  simp only [plI, pinNm, ByteArray.size_append]
  have e1 : (⟨#[47]⟩ : ByteArray).size = 1 := rfl
  omega
 ·rw [e]
  have a := names_size (nm := fun i => (ptn z.des.ports i).name) hn.2 hj
  show (ptn z.des.ports j).name.size ≤ 17
  omega
set_option maxHeartbeats 8000000 in
theorem textOfNode_any (a : Option Addr) (c : Nat) (P : List PlD) (n : Nat) (w : World) (h : PlS w w.heap.size (.slice a P.length c) P) (hn : n < 2 * P.length) (hP : P.length ≤ 1000) (hl : (pll P (n / 2)).name.size ≤ 17) :
  Calls Tryz.prog 59 #[.slice a P.length c, .int .i64 (n : Int)] w fun e w' => e = .returned (.string (((pll P (n / 2)).name ++ ⟨#[58]⟩) ++ trTxt n)) ∧ Below w.heap.size w w' := by
 have hk : n / 2 < P.length := by omega
 obtain ⟨F, hc, hf⟩ := h
 obtain ⟨b, off, rfl, hlt, hx⟩ := hc.at (Below.refl _ _) hk
 have y2 := hx 2 (by omega)
 rw [(hf _ hk).2.2.1] at y2
 have d0 : (n : Int).tdiv 2 = ((n / 2 : Nat) : Int) := by rw [Int.tdiv_eq_ediv_of_nonneg (by omega)]; simp
 have d1 : (n : Int).tmod 2 = ((n % 2 : Nat) : Int) := by rw [Int.tmod_eq_emod_of_nonneg (by omega)]; simp
 have i0 : (0 : Int) ≤ ((n / 2 : Nat) : Int) := by omega
 have i1 : ((n / 2 : Nat) : Int) < (P.length : Int) := by omega
 obtain ⟨nm, hnm⟩ : ∃ s, s = (pll P (n / 2)).name := ⟨_, rfl⟩
 rw [← hnm] at y2 hl ⊢
 have sz1 : (nm ++ ⟨#[58]⟩ : ByteArray).size = nm.size + 1 := by rw [ByteArray.size_append]; rfl
 clear hx hc hf hnm
 by_cases h2 : n % 2 = 0
 ·rw [h2] at d1
  have HT := Lib.hid (show trTxt n = ⟨#[114]⟩ by simp [trTxt, h2])
  have sz2 : ((nm ++ ⟨#[58]⟩) ++ ⟨#[114]⟩ : ByteArray).size = nm.size + 1 + 1 := by rw [ByteArray.size_append, sz1]; rfl
  clear h2
  go_enter Tryz.func59, Tryz.ntmps59
  go_wp2
  go_region
  all_goals (go_wp2; rw [HT.out]; go_ret; exact ⟨rfl, eX⟩)
 ·have h2 : n % 2 = 1 := by omega
  rw [h2] at d1
  have HT := Lib.hid (show trTxt n = ⟨#[102]⟩ by simp [trTxt, h2])
  have sz2 : ((nm ++ ⟨#[58]⟩) ++ ⟨#[102]⟩ : ByteArray).size = nm.size + 1 + 1 := by rw [ByteArray.size_append, sz1]; rfl
  clear h2
  go_enter Tryz.func59, Tryz.ntmps59
  go_wp2
  go_region
  all_goals (go_wp2; rw [HT.out]; go_ret; exact ⟨rfl, eX⟩)
theorem ndTxt_no {z : BlkD} {x : Int} (h : (blkB z && inB x 0 (ndN z - 1)) = false) : ndTxt z x = .empty := by unfold ndTxt; rw [h]; rfl
set_option maxHeartbeats 8000000 in
theorem implNodeText_any (f : Nat → Value) (z : BlkD) (x : Int) (w : World) (h : BlkF w w.heap.size f z) :
  Calls Tryz.prog 23 #[.agg #[f 0, f 1, f 2, f 3, f 4], .int .i64 x] w fun e w' => e = .returned (.string (ndTxt z x)) ∧ Below w.heap.size w w' := by
 have HB := Lib.hid (fun (w1 : World) (hb : Below w.heap.size w w1) => netBlk_all0 f z w1 (h.up hb))
 obtain ⟨p0, q0, p1, q1, p2, q2, p3, q3, p4, q4, e0, e1, e2, e3, e4⟩ := h.five
 rw [e0, e1, e2, e3, e4] at HB
 rw [e0, e1, e2, e3, e4]
 clear e0 e1 e2 e3 e4 h
 unfold BlkNet0 BlkNet at HB
 cases hb : blkB z
 ·have HQ := Lib.hid (ndTxt_no (z := z) (x := x) (by rw [hb]; rfl))
  rw [hb] at HB
  clear hb
  have HI := Lib.hid (fun (w1 : World) => (show Calls Tryz.prog 58 #[.int .i64 x, .int .i64 0, .int .i64 (-1)] w1 fun e w' => e = .returned (.bool false) ∧ w' = w1 from by
   have := inRange_any x 0 (-1) w1
   rw [show inB x 0 (-1) = false by unfold inB; rw [Bool.and_eq_false_iff]; by_cases hx : 0 ≤ x; (right; simp; omega); (left; simp; omega)] at this
   exact this))
  go_enter Tryz.func23, Tryz.ntmps23
  go_wp2_with fail
  (go_at_call 55; refine (HB.out _ eX).mono ?_; rintro e w1 ⟨⟨a, n, c, m, he, hb, _⟩, h0⟩)
  obtain rfl := h0 (by trivial)
  clear he h0
  go_wp2_with (go_at_call 58; refine (HI.out _).mono ?_; rintro e w' ⟨rfl, hw'⟩; rw [hw']; clear hw' w')
  rw [HQ.out]
  go_ret
  exact ⟨rfl, eX⟩
 ·have h100 := placesM (blk_get hb).1
  have HNM := Lib.hid (fun k hk => name_bd hb (k := k) hk)
  have HND := Lib.hid (show ndTxt z x = if inB x 0 (2 * ((places z.lib z.des).length : Int) - 1) then ((pll (places z.lib z.des) (x.toNat / 2)).name ++ ⟨#[58]⟩) ++ trTxt x.toNat else .empty by unfold ndTxt; rw [hb]; rfl)
  rw [hb] at HB
  clear hb
  obtain ⟨P, hP⟩ : ∃ P, P = places z.lib z.des := ⟨_, rfl⟩
  rw [← hP] at h100 HNM HND HB
  clear hP
  have s0 : IntKind.i64.wrap (2 * (P.length : Int)) = 2 * (P.length : Int) := IntWalk.i64_in _ (by omega)
  have s1 : IntKind.i64.wrap (2 * (P.length : Int) - 1) = 2 * (P.length : Int) - 1 := IntWalk.i64_in _ (by omega)
  cases hin : inB x 0 (2 * (P.length : Int) - 1)
  ·have HI := Lib.hid (fun (w1 : World) => (show Calls Tryz.prog 58 #[.int .i64 x, .int .i64 0, .int .i64 (2 * (P.length : Int) - 1)] w1 fun e w' => e = .returned (.bool false) ∧ w' = w1 from by have := inRange_any x 0 (2 * (P.length : Int) - 1) w1; rw [hin] at this; exact this))
   have HQ := Lib.hid (show ndTxt z x = .empty by rw [HND.out, hin]; rfl)
   clear hin
   go_enter Tryz.func23, Tryz.ntmps23
   go_wp2_with fail
   (go_at_call 55; refine (HB.out _ eX).mono ?_; rintro e w1 ⟨⟨a, n, c, m, rfl, hb, hk⟩, _⟩)
   obtain ⟨rfl, _, _⟩ := (hk (by trivial)).look (by omega)
   clear hk
   go_wp2_with (go_at_call 58; refine (HI.out _).mono ?_; rintro e w' ⟨rfl, hw'⟩; rw [hw']; clear hw' w')
   rw [HQ.out]
   go_ret
   exact ⟨rfl, eX⟩
  ·have ⟨x0, x1⟩ := inB_get hin
   have HI := Lib.hid (fun (w1 : World) => (show Calls Tryz.prog 58 #[.int .i64 x, .int .i64 0, .int .i64 (2 * (P.length : Int) - 1)] w1 fun e w' => e = .returned (.bool true) ∧ w' = w1 from by have := inRange_any x 0 (2 * (P.length : Int) - 1) w1; rw [hin] at this; exact this))
   obtain ⟨n9, rfl⟩ := Int.eq_ofNat_of_zero_le x0
   have hn9 : n9 < 2 * P.length := by omega
   have HQ := Lib.hid (show ndTxt z (n9 : Int) = ((pll P (n9 / 2)).name ++ ⟨#[58]⟩) ++ trTxt n9 by rw [HND.out, hin]; rfl)
   clear hin
   go_enter Tryz.func23, Tryz.ntmps23
   go_wp2_with fail
   (go_at_call 55; refine (HB.out _ eX).mono ?_; rintro e w1 ⟨⟨a, n, c, m, rfl, hb, hk⟩, _⟩)
   obtain ⟨rfl, hPl, _⟩ := (hk (by trivial)).look (by omega)
   have HPL := Lib.hid hPl
   clear hk hPl
   go_wp2_with (first | (go_at_call 58; refine (HI.out _).mono ?_; rintro e w' ⟨rfl, hw'⟩; rw [hw']; clear hw' w') | (go_at_call 59; refine (textOfNode_any a c P n9 _ (HPL.out.up (by exact eX)) hn9 (by omega) (HNM.out _ (by omega))).mono ?_; rintro e w2 ⟨rfl, hb2⟩))
   rw [HQ.out]
   go_ret
   exact ⟨rfl, eX⟩
theorem txt_r (nm : ByteArray) : nm ++ ⟨#[58, 114]⟩ = (nm ++ ⟨#[58]⟩) ++ ⟨#[114]⟩ := by rw [ByteArray.append_assoc]; rfl
theorem txt_f (nm : ByteArray) : nm ++ ⟨#[58, 102]⟩ = (nm ++ ⟨#[58]⟩) ++ ⟨#[102]⟩ := by rw [ByteArray.append_assoc]; rfl
set_option maxHeartbeats 16000000 in
theorem specNodeText_any (f : Nat → Value) (z : BlkD) (x : Int) (w : World) (h : BlkF w w.heap.size f z) :
  Calls Tryz.prog 22 #[.agg #[f 0, f 1, f 2, f 3, f 4], .int .i64 x] w fun e w' => e = .returned (.string (ndTxt z x)) ∧ Below w.heap.size w w' := by
 have HB := Lib.hid (fun (w1 : World) (hb : Below w.heap.size w w1) => specIsBlock_any f z w1 (h.up hb))
 have HC := Lib.hid (fun (hb : blkB z = true) (w1 : World) (hb' : Below w.heap.size w w1) => specCount_any f z w1 (h.up hb') hb)
 have HPN := Lib.hid (fun (y : Int) (w1 : World) (hb' : Below w.heap.size w w1) => (show Calls Tryz.prog 57 #[.agg #[f 0], .agg #[f 1, f 2, f 3], .int .i64 y] w1 fun e w' => e = .returned (.string (placeNameY (placesY z.lib z.des) y)) ∧ Below w1.heap.size w1 w' from specPlaceName_any (f 0) (vec [f 1, f 2, f 3]) z.lib z.des y w1 (h.1.up hb') (h.2.1.up hb')))
 obtain ⟨p0, q0, p1, q1, p2, q2, p3, q3, p4, q4, e0, e1, e2, e3, e4⟩ := h.five
 rw [e0, e1, e2, e3, e4] at HB HC
 rw [e0, e1, e2, e3] at HPN
 rw [e0, e1, e2, e3, e4]
 clear e0 e1 e2 e3 e4 h
 cases hb : blkB z
 ·have HQ := Lib.hid (ndTxt_no (z := z) (x := x) (by rw [hb]; rfl))
  rw [hb] at HB
  clear hb HC HPN
  go_enter Tryz.func22, Tryz.ntmps22
  go_wp2_with fail
  (go_at_call 41; refine (HB.out _ eX).mono ?_; rintro e w1 ⟨rfl, hb⟩; have ⟨hc, hf⟩ := bcell hb; have hz := hb.size; (try simp at hz); (try have hz := Nat.lt_of_succ_le hz); (try have y0 := wy w w1); (try have z0 := wz0 w w1); (try have z1 := wz1 w w1); (try have z2 := wz2 w w1); (try have z3 := wz3 w w1); (try have z4 := wz4 w w1))
  go_wp2
  rw [HQ.out]
  go_ret
  exact ⟨rfl, eX⟩
 ·have HC := Lib.hid (HC.out hb)
  have n200 := ndN_le hb
  have hd := (blk_get hb).1
  have HNM := Lib.hid (fun k hk => name_bd hb (k := k) hk)
  have HPY := Lib.hid (placesY_yes hd)
  have HND := Lib.hid (show ndTxt z x = if inB x 0 (ndN z - 1) then ((pll (places z.lib z.des) (x.toNat / 2)).name ++ ⟨#[58]⟩) ++ trTxt x.toNat else .empty by unfold ndTxt; rw [hb]; rfl)
  have HNN := Lib.hid (show ndN z = 2 * ((places z.lib z.des).length : Int) from rfl)
  rw [hb] at HB
  clear hb hd
  obtain ⟨N, hN⟩ : ∃ N, N = ndN z := ⟨_, rfl⟩
  rw [← hN] at HC n200 HND HNN
  clear hN
  cases hin : inB x 0 (N - 1)
  ·have HI := Lib.hid (fun (w1 : World) => (show Calls Tryz.prog 56 #[.int .i64 x, .int .i64 0, .int .i64 (N - 1)] w1 fun e w' => e = .returned (.bool false) ∧ w' = w1 from by have := l01In_any x 0 (N - 1) w1; rw [hin] at this; exact this))
   have HQ := Lib.hid (show ndTxt z x = .empty by rw [HND.out, hin]; rfl)
   clear hin HPN
   go_enter Tryz.func22, Tryz.ntmps22
   go_wp2_with fail
   (go_at_call 41; refine (HB.out _ eX).mono ?_; rintro e w1 ⟨rfl, hb⟩; have ⟨hc, hf⟩ := bcell hb; have hz := hb.size; (try simp at hz); (try have hz := Nat.lt_of_succ_le hz); (try have y0 := wy w w1); (try have z0 := wz0 w w1); (try have z1 := wz1 w w1); (try have z2 := wz2 w w1); (try have z3 := wz3 w w1); (try have z4 := wz4 w w1))
   go_wp2_with fail
   (go_at_call 54; refine (HC.out _ eX).mono ?_; rintro e w2 ⟨rfl, hb⟩; have ⟨hc, hf⟩ := bcell hb; have hz := hb.size; (try simp at hz); (try have hz := Nat.lt_of_succ_le hz); (try have y0 := wy w w2); (try have z0 := wz0 w w2); (try have z1 := wz1 w w2); (try have z2 := wz2 w w2); (try have z3 := wz3 w w2); (try have z4 := wz4 w w2))
   go_wp2_with (go_at_call 56; refine (HI.out _).mono ?_; rintro e w' ⟨rfl, hw'⟩; rw [hw']; clear hw' w')
   rw [HQ.out]
   go_ret
   exact ⟨rfl, eX⟩
  ·have ⟨x0, x1⟩ := inB_get hin
   have HI := Lib.hid (fun (w1 : World) => (show Calls Tryz.prog 56 #[.int .i64 x, .int .i64 0, .int .i64 (N - 1)] w1 fun e w' => e = .returned (.bool true) ∧ w' = w1 from by have := l01In_any x 0 (N - 1) w1; rw [hin] at this; exact this))
   obtain ⟨n9, rfl⟩ := Int.eq_ofNat_of_zero_le x0
   have hk9 : n9 / 2 < (places z.lib z.des).length := by have := HNN.out; omega
   have HQ := Lib.hid (show ndTxt z (n9 : Int) = ((pll (places z.lib z.des) (n9 / 2)).name ++ ⟨#[58]⟩) ++ trTxt n9 by rw [HND.out, hin]; rfl)
   have hl := HNM.out _ hk9
   have HNY := Lib.hid (show placeNameY (placesY z.lib z.des) ((n9 : Int) / 2) = (pll (places z.lib z.des) (n9 / 2)).name by
    rw [show (n9 : Int) / 2 = ((n9 / 2 : Nat) : Int) by omega, HPY.out]; unfold placeNameY
    rw [inB_yes (by omega) (by omega)]; rfl)
   have HPN := Lib.hid (fun (w1 : World) (hb' : Below w.heap.size w w1) => HPN.out ((n9 : Int) / 2) w1 hb')
   rw [HNY.out] at HPN
   obtain ⟨nm, hnm⟩ : ∃ s, s = (pll (places z.lib z.des) (n9 / 2)).name := ⟨_, rfl⟩
   rw [← hnm] at HPN HQ hl
   have d0 : (n9 : Int).tdiv 2 = ((n9 / 2 : Nat) : Int) := by rw [Int.tdiv_eq_ediv_of_nonneg (by omega)]; simp
   have d1 : (n9 : Int).tmod 2 = ((n9 % 2 : Nat) : Int) := by rw [Int.tmod_eq_emod_of_nonneg (by omega)]; simp
   have sN : IntKind.i64.wrap (N - 1) = N - 1 := IntWalk.i64_in _ (by omega)
   have sW : IntKind.i64.wrap ((n9 : Int) / 2) = (n9 : Int) / 2 := IntWalk.i64_in _ (by omega)
   clear hin HND HPY HNY hnm x1
   by_cases h2 : n9 % 2 = 0
   ·rw [h2] at d1
    have HT := Lib.hid (show ndTxt z (n9 : Int) = nm ++ ⟨#[58, 114]⟩ by rw [HQ.out, txt_r, show trTxt n9 = ⟨#[114]⟩ by simp [trTxt, h2]])
    have sz2 : (nm ++ ⟨#[58, 114]⟩ : ByteArray).size = nm.size + 2 := by rw [ByteArray.size_append]; rfl
    have sB : ¬ 9223372036854775807 < nm.size + 2 := by omega
    clear h2 HQ
    go_enter Tryz.func22, Tryz.ntmps22
    go_wp2_with fail
    (go_at_call 41; refine (HB.out _ eX).mono ?_; rintro e w1 ⟨rfl, hb⟩; have ⟨hc, hf⟩ := bcell hb; have hz := hb.size; (try simp at hz); (try have hz := Nat.lt_of_succ_le hz); (try have y0 := wy w w1); (try have z0 := wz0 w w1); (try have z1 := wz1 w w1); (try have z2 := wz2 w w1); (try have z3 := wz3 w w1); (try have z4 := wz4 w w1))
    go_wp2_with fail
    (go_at_call 54; refine (HC.out _ eX).mono ?_; rintro e w2 ⟨rfl, hb⟩; have ⟨hc, hf⟩ := bcell hb; have hz := hb.size; (try simp at hz); (try have hz := Nat.lt_of_succ_le hz); (try have y0 := wy w w2); (try have z0 := wz0 w w2); (try have z1 := wz1 w w2); (try have z2 := wz2 w w2); (try have z3 := wz3 w w2); (try have z4 := wz4 w w2))
    have c0 : w2.cell? ⟨w.heap.size, 0, none⟩ = some (.slice p0 z.lib.length q0) := cell_keep (w0 := w.alloc (Obj.cells #[.slice p0 z.lib.length q0, .slice p1 z.des.insts.length q1, .slice p2 z.des.nets.length q2, .slice p3 z.des.ports.length q3, .slice p4 z.wires.length q4] 46)) (by simp [go_sem]) (by exact eX)
    have c1 : w2.cell? ⟨w.heap.size, 1, none⟩ = some (.slice p1 z.des.insts.length q1) := cell_keep (w0 := w.alloc (Obj.cells #[.slice p0 z.lib.length q0, .slice p1 z.des.insts.length q1, .slice p2 z.des.nets.length q2, .slice p3 z.des.ports.length q3, .slice p4 z.wires.length q4] 46)) (by simp [go_sem]) (by exact eX)
    have c2 : w2.cell? ⟨w.heap.size, 2, none⟩ = some (.slice p2 z.des.nets.length q2) := cell_keep (w0 := w.alloc (Obj.cells #[.slice p0 z.lib.length q0, .slice p1 z.des.insts.length q1, .slice p2 z.des.nets.length q2, .slice p3 z.des.ports.length q3, .slice p4 z.wires.length q4] 46)) (by simp [go_sem]) (by exact eX)
    have c3 : w2.cell? ⟨w.heap.size, 3, none⟩ = some (.slice p3 z.des.ports.length q3) := cell_keep (w0 := w.alloc (Obj.cells #[.slice p0 z.lib.length q0, .slice p1 z.des.insts.length q1, .slice p2 z.des.nets.length q2, .slice p3 z.des.ports.length q3, .slice p4 z.wires.length q4] 46)) (by simp [go_sem]) (by exact eX)
    have B2 : Below w.heap.size w w2 := by exact eX
    have l2 : w.heap.size < w2.heap.size := cell_lt c0
    clear hc hf
    go_upto_region 3 with (go_at_call 56; refine (HI.out _).mono ?_; rintro e w' ⟨rfl, hw'⟩; rw [hw']; clear hw' w')
    refine wp_region_held_drew (S := (fun w' => w'.cell? ⟨w.heap.size, 0, none⟩ = some (.slice p0 z.lib.length q0) ∧ w'.cell? ⟨w.heap.size, 1, none⟩ = some (.slice p1 z.des.insts.length q1) ∧ w'.cell? ⟨w.heap.size, 2, none⟩ = some (.slice p2 z.des.nets.length q2) ∧ w'.cell? ⟨w.heap.size, 3, none⟩ = some (.slice p3 z.des.ports.length q3))) (by kernel_rfl) ?_ (fun hHeld => ?_)
    ·(try dsimp only); exact ⟨c0, c1, c2, c3⟩
    (try dsimp only at hHeld)
    refine takeH 0 (v := ?_) rfl ?_ ?_; rotate_left; focus (intro w' hSw; (try dsimp only at hSw); go_simp; try (with_reducible rfl))
    (try simp only [actP])
    refine takeH 1 (v := ?_) rfl ?_ ?_; rotate_left; focus (intro w' hSw; (try dsimp only at hSw); go_simp; try (with_reducible rfl))
    (try simp only [actP])
    refine takeH 2 (v := ?_) rfl ?_ ?_; rotate_left; focus (intro w' hSw; (try dsimp only at hSw); go_simp; try (with_reducible rfl))
    (try simp only [actP])
    refine takeH 3 (v := ?_) rfl ?_ ?_; rotate_left; focus (intro w' hSw; (try dsimp only at hSw); go_simp; try (with_reducible rfl))
    (try simp only [actP])
    refine takeH 4 (v := ?_) rfl ?_ ?_; rotate_left; focus (intro w' hSw; (try dsimp only at hSw); go_simp; try (with_reducible rfl))
    (try simp only [actP])
    refine takeH 5 (v := ?_) rfl ?_ ?_; rotate_left; focus (intro w' hSw; (try dsimp only at hSw); go_simp; try (with_reducible rfl))
    (try simp only [actP])
    refine takeH 8 (v := ?_) rfl ?_ ?_; rotate_left; focus (intro w' hSw; (try dsimp only at hSw); go_simp; try (with_reducible rfl))
    (try simp only [actP])
    refine takeH 9 (v := ?_) rfl ?_ ?_; rotate_left; focus (intro w' hSw; (try dsimp only at hSw); go_simp; try (with_reducible rfl))
    (try simp only [actP])
    refine wpAnyH_ready (rs := [6, 7]) (by kernel_rfl) (by simp) ?_
    refine AllReadyH.cons rfl (fun K hK => ?_) (AllReadyH.cons rfl (fun K hK => ?_) AllReadyH.nil)
    ·go_simp
     (go_at_call 57; refine (HPN.out _ (by exact eX)).mono ?_; rintro e w3 ⟨rfl, hb3⟩)
     refine hK.out _ _ (⟨cell_keep hHeld.1 hb3, cell_keep hHeld.2.1 hb3, cell_keep hHeld.2.2.1 hb3, cell_keep hHeld.2.2.2 hb3⟩) (fun hHeld' => ?_)
     clear hK K hHeld
     have hHeld := hHeld'
     clear hHeld'
     (try simp only [actP])
     have l3 := hb3.size
     simp at l3
     refine wpAnyH_ready (rs := [7]) (by kernel_rfl) (by simp) ?_
     refine AllReadyH.cons rfl (fun K hK => ?_) AllReadyH.nil
     go_simp
     have bA : Below w3.heap.size w3 (w3.alloc (Obj.cells #[.string ⟨#[58, 114]⟩, .string ⟨#[58, 102]⟩] 9)) := (Below.refl _ _).alloc (Nat.le_refl _) _
     refine hK.out _ _ (⟨cell_keep hHeld.1 bA, cell_keep hHeld.2.1 bA, cell_keep hHeld.2.2.1 bA, cell_keep hHeld.2.2.2 bA⟩) (fun hHeld' => ?_)
     clear hK K hHeld
     have hHeld := hHeld'
     clear hHeld'
     (try simp only [actP])
     refine wpAnyH_ready (rs := [10]) (by kernel_rfl) (by simp) ?_
     refine AllReadyH.cons rfl (fun K hK => ?_) AllReadyH.nil
     go_simp
     refine hK.out _ _ (hHeld) (fun hHeld' => ?_)
     clear hK K hHeld
     have hHeld := hHeld'
     clear hHeld'
     (try simp only [actP])
     refine wpAnyH_ready (rs := [11]) (by kernel_rfl) (by simp) ?_
     refine AllReadyH.cons rfl (fun K hK => ?_) AllReadyH.nil
     go_simp
     refine hK.out _ _ (hHeld) (fun hHeld' => ?_)
     clear hK K hHeld
     have hHeld := hHeld'
     clear hHeld'
     (try simp only [actP])
     refine wpAnyH_ready (rs := [12]) (by kernel_rfl) (by simp) ?_
     refine AllReadyH.cons rfl (fun K hK => ?_) AllReadyH.nil
     go_simp
     refine hK.out _ _ (hHeld) (fun hHeld' => ?_)
     clear hK K hHeld
     have hHeld := hHeld'
     clear hHeld'
     (try simp only [actP])
     refine takeH 13 (v := ?_) rfl ?_ ?_; rotate_left; focus (intro w' hSw; (try dsimp only at hSw); go_simp; try (with_reducible rfl))
     (try simp only [actP])
     refine wpAnyH_done (by kernel_rfl) ?_ _
     clear hHeld
     go_wp2
     rw [HT.out]
     go_ret
     exact ⟨rfl, eX⟩
    ·go_simp
     have bA : Below w2.heap.size w2 ((w2.alloc (Obj.cells #[.string ⟨#[58, 114]⟩, .string ⟨#[58, 102]⟩] 9)).drew) := by exact eX
     refine hK.out _ _ (⟨cell_keep c0 bA, cell_keep c1 bA, cell_keep c2 bA, cell_keep c3 bA⟩) (fun hHeld' => ?_)
     clear hK K hHeld
     have hHeld := hHeld'
     clear hHeld'
     (try simp only [actP])
     refine takeH 10 (v := ?_) rfl ?_ ?_; rotate_left; focus (intro w' hSw; (try dsimp only at hSw); go_simp; try (with_reducible rfl))
     (try simp only [actP])
     refine wpAnyH_ready (rs := [6, 11]) (by kernel_rfl) (by simp) ?_
     refine AllReadyH.cons rfl (fun K hK => ?_) (AllReadyH.cons rfl (fun K hK => ?_) AllReadyH.nil)
     ·go_simp
      (go_at_call 57; refine (HPN.out _ (by exact eX)).mono ?_; rintro e w3 ⟨rfl, hb3⟩)
      refine hK.out _ _ (⟨cell_keep hHeld.1 hb3, cell_keep hHeld.2.1 hb3, cell_keep hHeld.2.2.1 hb3, cell_keep hHeld.2.2.2 hb3⟩) (fun hHeld' => ?_)
      clear hK K hHeld
      have hHeld := hHeld'
      clear hHeld'
      (try simp only [actP])
      have z0 : w3.cell? ⟨w2.heap.size, 0, none⟩ = some (.string ⟨#[58, 114]⟩) := cell_keep (w0 := (w2.alloc (Obj.cells #[.string ⟨#[58, 114]⟩, .string ⟨#[58, 102]⟩] 9)).drew) (by simp [go_sem]) hb3
      have z1 : w3.cell? ⟨w2.heap.size, 1, none⟩ = some (.string ⟨#[58, 102]⟩) := cell_keep (w0 := (w2.alloc (Obj.cells #[.string ⟨#[58, 114]⟩, .string ⟨#[58, 102]⟩] 9)).drew) (by simp [go_sem]) hb3
      refine wpAnyH_ready (rs := [11]) (by kernel_rfl) (by simp) ?_
      refine AllReadyH.cons rfl (fun K hK => ?_) AllReadyH.nil
      go_simp
      refine hK.out _ _ (hHeld) (fun hHeld' => ?_)
      clear hK K hHeld
      have hHeld := hHeld'
      clear hHeld'
      (try simp only [actP])
      refine wpAnyH_ready (rs := [12]) (by kernel_rfl) (by simp) ?_
      refine AllReadyH.cons rfl (fun K hK => ?_) AllReadyH.nil
      go_simp
      refine hK.out _ _ (hHeld) (fun hHeld' => ?_)
      clear hK K hHeld
      have hHeld := hHeld'
      clear hHeld'
      (try simp only [actP])
      refine takeH 13 (v := ?_) rfl ?_ ?_; rotate_left; focus (intro w' hSw; (try dsimp only at hSw); go_simp; try (with_reducible rfl))
      (try simp only [actP])
      refine wpAnyH_done (by kernel_rfl) ?_ _
      clear hHeld
      go_wp2
      rw [HT.out]
      go_ret
      exact ⟨rfl, eX⟩
     ·go_simp
      refine hK.out _ _ (hHeld) (fun hHeld' => ?_)
      clear hK K hHeld
      have hHeld := hHeld'
      clear hHeld'
      (try simp only [actP])
      refine wpAnyH_ready (rs := [6]) (by kernel_rfl) (by simp) ?_
      refine AllReadyH.cons rfl (fun K hK => ?_) AllReadyH.nil
      go_simp
      (go_at_call 57; refine (HPN.out _ (by exact eX)).mono ?_; rintro e w3 ⟨rfl, hb3⟩)
      refine hK.out _ _ (⟨cell_keep hHeld.1 hb3, cell_keep hHeld.2.1 hb3, cell_keep hHeld.2.2.1 hb3, cell_keep hHeld.2.2.2 hb3⟩) (fun hHeld' => ?_)
      clear hK K hHeld
      have hHeld := hHeld'
      clear hHeld'
      (try simp only [actP])
      refine wpAnyH_ready (rs := [12]) (by kernel_rfl) (by simp) ?_
      refine AllReadyH.cons rfl (fun K hK => ?_) AllReadyH.nil
      go_simp
      refine hK.out _ _ (hHeld) (fun hHeld' => ?_)
      clear hK K hHeld
      have hHeld := hHeld'
      clear hHeld'
      (try simp only [actP])
      refine takeH 13 (v := ?_) rfl ?_ ?_; rotate_left; focus (intro w' hSw; (try dsimp only at hSw); go_simp; try (with_reducible rfl))
      (try simp only [actP])
      refine wpAnyH_done (by kernel_rfl) ?_ _
      clear hHeld
      go_wp2
      rw [HT.out]
      go_ret
      exact ⟨rfl, eX⟩
   ·have h2 : n9 % 2 = 1 := by omega
    rw [h2] at d1
    have HT := Lib.hid (show ndTxt z (n9 : Int) = nm ++ ⟨#[58, 102]⟩ by rw [HQ.out, txt_f, show trTxt n9 = ⟨#[102]⟩ by simp [trTxt, h2]])
    have sz2 : (nm ++ ⟨#[58, 102]⟩ : ByteArray).size = nm.size + 2 := by rw [ByteArray.size_append]; rfl
    have sB : ¬ 9223372036854775807 < nm.size + 2 := by omega
    clear h2 HQ
    go_enter Tryz.func22, Tryz.ntmps22
    go_wp2_with fail
    (go_at_call 41; refine (HB.out _ eX).mono ?_; rintro e w1 ⟨rfl, hb⟩; have ⟨hc, hf⟩ := bcell hb; have hz := hb.size; (try simp at hz); (try have hz := Nat.lt_of_succ_le hz); (try have y0 := wy w w1); (try have z0 := wz0 w w1); (try have z1 := wz1 w w1); (try have z2 := wz2 w w1); (try have z3 := wz3 w w1); (try have z4 := wz4 w w1))
    go_wp2_with fail
    (go_at_call 54; refine (HC.out _ eX).mono ?_; rintro e w2 ⟨rfl, hb⟩; have ⟨hc, hf⟩ := bcell hb; have hz := hb.size; (try simp at hz); (try have hz := Nat.lt_of_succ_le hz); (try have y0 := wy w w2); (try have z0 := wz0 w w2); (try have z1 := wz1 w w2); (try have z2 := wz2 w w2); (try have z3 := wz3 w w2); (try have z4 := wz4 w w2))
    have c0 : w2.cell? ⟨w.heap.size, 0, none⟩ = some (.slice p0 z.lib.length q0) := cell_keep (w0 := w.alloc (Obj.cells #[.slice p0 z.lib.length q0, .slice p1 z.des.insts.length q1, .slice p2 z.des.nets.length q2, .slice p3 z.des.ports.length q3, .slice p4 z.wires.length q4] 46)) (by simp [go_sem]) (by exact eX)
    have c1 : w2.cell? ⟨w.heap.size, 1, none⟩ = some (.slice p1 z.des.insts.length q1) := cell_keep (w0 := w.alloc (Obj.cells #[.slice p0 z.lib.length q0, .slice p1 z.des.insts.length q1, .slice p2 z.des.nets.length q2, .slice p3 z.des.ports.length q3, .slice p4 z.wires.length q4] 46)) (by simp [go_sem]) (by exact eX)
    have c2 : w2.cell? ⟨w.heap.size, 2, none⟩ = some (.slice p2 z.des.nets.length q2) := cell_keep (w0 := w.alloc (Obj.cells #[.slice p0 z.lib.length q0, .slice p1 z.des.insts.length q1, .slice p2 z.des.nets.length q2, .slice p3 z.des.ports.length q3, .slice p4 z.wires.length q4] 46)) (by simp [go_sem]) (by exact eX)
    have c3 : w2.cell? ⟨w.heap.size, 3, none⟩ = some (.slice p3 z.des.ports.length q3) := cell_keep (w0 := w.alloc (Obj.cells #[.slice p0 z.lib.length q0, .slice p1 z.des.insts.length q1, .slice p2 z.des.nets.length q2, .slice p3 z.des.ports.length q3, .slice p4 z.wires.length q4] 46)) (by simp [go_sem]) (by exact eX)
    have B2 : Below w.heap.size w w2 := by exact eX
    have l2 : w.heap.size < w2.heap.size := cell_lt c0
    clear hc hf
    go_upto_region 3 with (go_at_call 56; refine (HI.out _).mono ?_; rintro e w' ⟨rfl, hw'⟩; rw [hw']; clear hw' w')
    refine wp_region_held_drew (S := (fun w' => w'.cell? ⟨w.heap.size, 0, none⟩ = some (.slice p0 z.lib.length q0) ∧ w'.cell? ⟨w.heap.size, 1, none⟩ = some (.slice p1 z.des.insts.length q1) ∧ w'.cell? ⟨w.heap.size, 2, none⟩ = some (.slice p2 z.des.nets.length q2) ∧ w'.cell? ⟨w.heap.size, 3, none⟩ = some (.slice p3 z.des.ports.length q3))) (by kernel_rfl) ?_ (fun hHeld => ?_)
    ·(try dsimp only); exact ⟨c0, c1, c2, c3⟩
    (try dsimp only at hHeld)
    refine takeH 0 (v := ?_) rfl ?_ ?_; rotate_left; focus (intro w' hSw; (try dsimp only at hSw); go_simp; try (with_reducible rfl))
    (try simp only [actP])
    refine takeH 1 (v := ?_) rfl ?_ ?_; rotate_left; focus (intro w' hSw; (try dsimp only at hSw); go_simp; try (with_reducible rfl))
    (try simp only [actP])
    refine takeH 2 (v := ?_) rfl ?_ ?_; rotate_left; focus (intro w' hSw; (try dsimp only at hSw); go_simp; try (with_reducible rfl))
    (try simp only [actP])
    refine takeH 3 (v := ?_) rfl ?_ ?_; rotate_left; focus (intro w' hSw; (try dsimp only at hSw); go_simp; try (with_reducible rfl))
    (try simp only [actP])
    refine takeH 4 (v := ?_) rfl ?_ ?_; rotate_left; focus (intro w' hSw; (try dsimp only at hSw); go_simp; try (with_reducible rfl))
    (try simp only [actP])
    refine takeH 5 (v := ?_) rfl ?_ ?_; rotate_left; focus (intro w' hSw; (try dsimp only at hSw); go_simp; try (with_reducible rfl))
    (try simp only [actP])
    refine takeH 8 (v := ?_) rfl ?_ ?_; rotate_left; focus (intro w' hSw; (try dsimp only at hSw); go_simp; try (with_reducible rfl))
    (try simp only [actP])
    refine takeH 9 (v := ?_) rfl ?_ ?_; rotate_left; focus (intro w' hSw; (try dsimp only at hSw); go_simp; try (with_reducible rfl))
    (try simp only [actP])
    refine wpAnyH_ready (rs := [6, 7]) (by kernel_rfl) (by simp) ?_
    refine AllReadyH.cons rfl (fun K hK => ?_) (AllReadyH.cons rfl (fun K hK => ?_) AllReadyH.nil)
    ·go_simp
     (go_at_call 57; refine (HPN.out _ (by exact eX)).mono ?_; rintro e w3 ⟨rfl, hb3⟩)
     refine hK.out _ _ (⟨cell_keep hHeld.1 hb3, cell_keep hHeld.2.1 hb3, cell_keep hHeld.2.2.1 hb3, cell_keep hHeld.2.2.2 hb3⟩) (fun hHeld' => ?_)
     clear hK K hHeld
     have hHeld := hHeld'
     clear hHeld'
     (try simp only [actP])
     have l3 := hb3.size
     simp at l3
     refine wpAnyH_ready (rs := [7]) (by kernel_rfl) (by simp) ?_
     refine AllReadyH.cons rfl (fun K hK => ?_) AllReadyH.nil
     go_simp
     have bA : Below w3.heap.size w3 (w3.alloc (Obj.cells #[.string ⟨#[58, 114]⟩, .string ⟨#[58, 102]⟩] 9)) := (Below.refl _ _).alloc (Nat.le_refl _) _
     refine hK.out _ _ (⟨cell_keep hHeld.1 bA, cell_keep hHeld.2.1 bA, cell_keep hHeld.2.2.1 bA, cell_keep hHeld.2.2.2 bA⟩) (fun hHeld' => ?_)
     clear hK K hHeld
     have hHeld := hHeld'
     clear hHeld'
     (try simp only [actP])
     refine wpAnyH_ready (rs := [10]) (by kernel_rfl) (by simp) ?_
     refine AllReadyH.cons rfl (fun K hK => ?_) AllReadyH.nil
     go_simp
     refine hK.out _ _ (hHeld) (fun hHeld' => ?_)
     clear hK K hHeld
     have hHeld := hHeld'
     clear hHeld'
     (try simp only [actP])
     refine wpAnyH_ready (rs := [11]) (by kernel_rfl) (by simp) ?_
     refine AllReadyH.cons rfl (fun K hK => ?_) AllReadyH.nil
     go_simp
     refine hK.out _ _ (hHeld) (fun hHeld' => ?_)
     clear hK K hHeld
     have hHeld := hHeld'
     clear hHeld'
     (try simp only [actP])
     refine wpAnyH_ready (rs := [12]) (by kernel_rfl) (by simp) ?_
     refine AllReadyH.cons rfl (fun K hK => ?_) AllReadyH.nil
     go_simp
     refine hK.out _ _ (hHeld) (fun hHeld' => ?_)
     clear hK K hHeld
     have hHeld := hHeld'
     clear hHeld'
     (try simp only [actP])
     refine takeH 13 (v := ?_) rfl ?_ ?_; rotate_left; focus (intro w' hSw; (try dsimp only at hSw); go_simp; try (with_reducible rfl))
     (try simp only [actP])
     refine wpAnyH_done (by kernel_rfl) ?_ _
     clear hHeld
     go_wp2
     rw [HT.out]
     go_ret
     exact ⟨rfl, eX⟩
    ·go_simp
     have bA : Below w2.heap.size w2 ((w2.alloc (Obj.cells #[.string ⟨#[58, 114]⟩, .string ⟨#[58, 102]⟩] 9)).drew) := by exact eX
     refine hK.out _ _ (⟨cell_keep c0 bA, cell_keep c1 bA, cell_keep c2 bA, cell_keep c3 bA⟩) (fun hHeld' => ?_)
     clear hK K hHeld
     have hHeld := hHeld'
     clear hHeld'
     (try simp only [actP])
     refine takeH 10 (v := ?_) rfl ?_ ?_; rotate_left; focus (intro w' hSw; (try dsimp only at hSw); go_simp; try (with_reducible rfl))
     (try simp only [actP])
     refine wpAnyH_ready (rs := [6, 11]) (by kernel_rfl) (by simp) ?_
     refine AllReadyH.cons rfl (fun K hK => ?_) (AllReadyH.cons rfl (fun K hK => ?_) AllReadyH.nil)
     ·go_simp
      (go_at_call 57; refine (HPN.out _ (by exact eX)).mono ?_; rintro e w3 ⟨rfl, hb3⟩)
      refine hK.out _ _ (⟨cell_keep hHeld.1 hb3, cell_keep hHeld.2.1 hb3, cell_keep hHeld.2.2.1 hb3, cell_keep hHeld.2.2.2 hb3⟩) (fun hHeld' => ?_)
      clear hK K hHeld
      have hHeld := hHeld'
      clear hHeld'
      (try simp only [actP])
      have z0 : w3.cell? ⟨w2.heap.size, 0, none⟩ = some (.string ⟨#[58, 114]⟩) := cell_keep (w0 := (w2.alloc (Obj.cells #[.string ⟨#[58, 114]⟩, .string ⟨#[58, 102]⟩] 9)).drew) (by simp [go_sem]) hb3
      have z1 : w3.cell? ⟨w2.heap.size, 1, none⟩ = some (.string ⟨#[58, 102]⟩) := cell_keep (w0 := (w2.alloc (Obj.cells #[.string ⟨#[58, 114]⟩, .string ⟨#[58, 102]⟩] 9)).drew) (by simp [go_sem]) hb3
      refine wpAnyH_ready (rs := [11]) (by kernel_rfl) (by simp) ?_
      refine AllReadyH.cons rfl (fun K hK => ?_) AllReadyH.nil
      go_simp
      refine hK.out _ _ (hHeld) (fun hHeld' => ?_)
      clear hK K hHeld
      have hHeld := hHeld'
      clear hHeld'
      (try simp only [actP])
      refine wpAnyH_ready (rs := [12]) (by kernel_rfl) (by simp) ?_
      refine AllReadyH.cons rfl (fun K hK => ?_) AllReadyH.nil
      go_simp
      refine hK.out _ _ (hHeld) (fun hHeld' => ?_)
      clear hK K hHeld
      have hHeld := hHeld'
      clear hHeld'
      (try simp only [actP])
      refine takeH 13 (v := ?_) rfl ?_ ?_; rotate_left; focus (intro w' hSw; (try dsimp only at hSw); go_simp; try (with_reducible rfl))
      (try simp only [actP])
      refine wpAnyH_done (by kernel_rfl) ?_ _
      clear hHeld
      go_wp2
      rw [HT.out]
      go_ret
      exact ⟨rfl, eX⟩
     ·go_simp
      refine hK.out _ _ (hHeld) (fun hHeld' => ?_)
      clear hK K hHeld
      have hHeld := hHeld'
      clear hHeld'
      (try simp only [actP])
      refine wpAnyH_ready (rs := [6]) (by kernel_rfl) (by simp) ?_
      refine AllReadyH.cons rfl (fun K hK => ?_) AllReadyH.nil
      go_simp
      (go_at_call 57; refine (HPN.out _ (by exact eX)).mono ?_; rintro e w3 ⟨rfl, hb3⟩)
      refine hK.out _ _ (⟨cell_keep hHeld.1 hb3, cell_keep hHeld.2.1 hb3, cell_keep hHeld.2.2.1 hb3, cell_keep hHeld.2.2.2 hb3⟩) (fun hHeld' => ?_)
      clear hK K hHeld
      have hHeld := hHeld'
      clear hHeld'
      (try simp only [actP])
      refine wpAnyH_ready (rs := [12]) (by kernel_rfl) (by simp) ?_
      refine AllReadyH.cons rfl (fun K hK => ?_) AllReadyH.nil
      go_simp
      refine hK.out _ _ (hHeld) (fun hHeld' => ?_)
      clear hK K hHeld
      have hHeld := hHeld'
      clear hHeld'
      (try simp only [actP])
      refine takeH 13 (v := ?_) rfl ?_ ?_; rotate_left; focus (intro w' hSw; (try dsimp only at hSw); go_simp; try (with_reducible rfl))
      (try simp only [actP])
      refine wpAnyH_done (by kernel_rfl) ?_ _
      clear hHeld
      go_wp2
      rw [HT.out]
      go_ret
      exact ⟨rfl, eX⟩
end Go.Proofs.YtmlbpfbdhhkfkaaGreat
