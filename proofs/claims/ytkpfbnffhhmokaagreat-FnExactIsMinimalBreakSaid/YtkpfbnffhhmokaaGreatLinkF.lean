/-
What functions answer: a list of its own and a code.
-/
import Derived.Test.YtkpfbnffhhmokaaGreatTabL
import Derived.Test.YtkpfbnffhhmokaaGreatLink
import Derived.Test.YtkpfbnffhhmokaaGreatGrow
import Derived.Deep.QuietTactic
import Derived.BigQuiet
namespace Go.Proofs.YtkpfbnffhhmokaaGreat
open Go.ChangeShapes Go.WideShapes Go.ChangeAt Go.RowKit Go.Deep
/-- A list of its own, and a code. -/
def ListR (w : World) (xs : List Int) (c : Int) (e : Ending) (w' : World) : Prop := ∃ u, e = .returned (.tuple #[u, .int .i64 c]) ∧ OwnS w' w.heap.size u xs ∧ Below w.heap.size w w'
theorem own_nil (w : World) (B : Nat) : OwnS w B (.slice none 0 0) [] := ⟨by simp, none, 0, rfl, fun hp => absurd hp (by simp)⟩
end Go.Proofs.YtkpfbnffhhmokaaGreat
namespace Go.Proofs.YtkpfbnffhhmokaaGreat
open Go.ChangeShapes Go.WideShapes Go.ChangeAt Go.RowKit Go.Deep
set_option linter.unusedVariables false
set_option linter.unusedSimpArgs false
set_option maxRecDepth 100000
def hasI (bs : List Int) (x : Int) : Bool := !allB (fun i => !(iv bs i == x)) bs.length
theorem has_yes {bs : List Int} {x : Int} {k : Nat} (hk : k < bs.length) (h : (iv bs k == x) = true) : hasI bs x = true := by simp [hasI, allB_no (p := fun i => !(iv bs i == x)) hk (by simp [h])]
theorem has_no {bs : List Int} {x : Int} (h : ∀ k, k < bs.length → (iv bs k == x) = false) : hasI bs x = false := by simp [hasI, allB_yes (p := fun i => !(iv bs i == x)) (n := bs.length) (fun i hi => by simp [h i hi])]
def risOk (bs : List Int) (n : Int) (i : Nat) : Bool := inB (iv bs i) 0 (n - 1) && (decide (i = 0) || decide (iv bs (i - 1) < iv bs i))
def risB (bs : List Int) (n : Int) : Bool := allB (risOk bs n) bs.length
def grCode (z : BlkD) (bs : List Int) : Int := if blkB z then (if risB bs ((linksL z).length : Int) then 0 else 2) else 1
def ndN (z : BlkD) : Int := 2 * ((places z.lib z.des).length : Int)
def ndCode (z : BlkD) (bs : List Int) (x : Int) : Int := if grCode z bs = 0 then (if inB x 0 (ndN z - 1) then 0 else 4) else grCode z bs
theorem grCode_valid {z : BlkD} {bs : List Int} (h : grCode z bs = 0) : blkB z = true := by
 cases hb : blkB z
 ·simp [grCode, hb] at h
 ·rfl
theorem grCode_cases (z : BlkD) (bs : List Int) : grCode z bs = 0 ∨ grCode z bs = 1 ∨ grCode z bs = 2 := by
 unfold grCode
 cases blkB z
 ·simp
 ·cases risB bs ((linksL z).length : Int)
  ·simp
  ·simp
theorem ndCode_cases (z : BlkD) (bs : List Int) (x : Int) : (ndCode z bs x = 0 ∧ grCode z bs = 0) ∨ ndCode z bs x = 1 ∨ ndCode z bs x = 2 ∨ ndCode z bs x = 4 := by
 unfold ndCode
 by_cases h : grCode z bs = 0
 ·rw [if_pos h]
  cases inB x 0 (ndN z - 1)
  ·exact .inr (.inr (.inr (by simp)))
  ·exact .inl ⟨by simp, h⟩
 ·rw [if_neg h]
  rcases grCode_cases z bs with e | e | e
  ·exact absurd e h
  ·exact .inr (.inl e)
  ·exact .inr (.inr (.inl e))
theorem specCount_any (f : Nat → Value) (z : BlkD) (w : World) (h : BlkF w w.heap.size f z) (hb : blkB z = true) :
  Calls Tryz.prog 49 #[.agg #[f 0, f 1, f 2, f 3, f 4]] w fun e w' => e = .returned (.int .i64 (ndN z)) ∧ Below w.heap.size w w' := by
 have hd := (blk_get hb).1
 have HPV := lh (fun (w1 : World) (hb' : Below w.heap.size w w1) => specPlacesV_any (vec [f 1, f 2, f 3]) z.lib z.des w1 (h.2.1.up hb') hd)
 have hp := placesM hd
 obtain ⟨p0, q0, p1, q1, p2, q2, p3, q3, p4, q4, e0, e1, e2, e3, e4⟩ := h.five
 rw [e1, e2, e3] at HPV
 rw [e0, e1, e2, e3, e4]
 clear e0 e1 e2 e3 e4 h hd hb
 unfold PlacesV at HPV
 have HN := lh (show ndN z = 2 * ((places z.lib z.des).length : Int) from rfl)
 go_enter Tryz.func49, Tryz.ntmps49
 go_wp2_with fail
 (go_at_call 88; refine (HPV.out _ eX).mono ?_; rintro e w1 ⟨a, c, rfl, hP, hG, hb⟩)
 have B1 : Below w.heap.size w w1 := by exact eX
 clear hP hG hb
 go_wp2
 go_ret
 exact ⟨ret_int (by rw [HN.out]), B1⟩
theorem has_any (v : Value) (bs : List Int) (x : Int) (w : World) (h : IntS w w.heap.size v bs) :
  Calls Tryz.prog 89 #[v, .int .i64 x] w fun e w' => e = .returned (.bool (hasI bs x)) ∧ w' = w := by
 have hln := h.1
 obtain ⟨a, c, rfl⟩ := h.slice
 have HB := lh h
 clear h
 obtain ⟨n, hn⟩ : ∃ n, n = bs.length := ⟨_, rfl⟩
 rw [← hn] at hln HB ⊢
 have HN := lh hn
 clear hn
 go_enter Tryz.func89, Tryz.ntmps89
 go_wp2_with fail
 go_loop [5] (fun i => ∃ k : Nat, k ≤ n ∧ i = .int .i64 k ∧ Hid (∀ j, j < k → (iv bs j == x) = false)) (fun i => n - (intOf i).toNat)
 case atStart => exact ⟨0, by omega, rfl, lh (fun j hj => absurd hj (Nat.not_lt_zero j))⟩
 case round =>
  obtain ⟨k, hk, rfl, hall⟩ := hrel
  by_cases hkn : k < n
  ·obtain ⟨b, off, rfl, hlt, y0⟩ := ints_at HB.out (Below.refl _ _) (show k < bs.length by rw [← HN.out]; exact hkn)
   have i0 : (0 : Int) ≤ (k : Int) := by omega
   have i1 : (k : Int) < (n : Int) := by omega
   cases hd : (iv bs k == x)
   ·have hok := lh (all_more (p := fun j => (iv bs j == x) = false) hall.out hd)
    go_wp2
    go_round
    case rel => exact ⟨k + 1, by omega, by go_num, hok⟩
    case measure => simp [intOf]; omega
   ·have hQ := lh (has_yes (bs := bs) (x := x) (k := k) (by rw [← HN.out]; exact hkn) hd)
    go_wp2
    rw [hQ.out]
    go_ret
    exact ⟨rfl, rfl⟩
  ·obtain rfl : k = n := by omega
   have hI : ¬ (k : Int) < (k : Int) := by omega
   have hQ := lh (has_no (bs := bs) (x := x) (by rw [← HN.out]; exact hall.out))
   go_wp2
   rw [hQ.out]
   go_ret
   exact ⟨rfl, rfl⟩
theorem ris_bad {bs : List Int} {n : Int} {k : Nat} (hk : k < bs.length) (h : risOk bs n k = false) : risB bs n = false := allB_no (p := risOk bs n) hk h
theorem ris_all {bs : List Int} {n : Int} (h : ∀ k, k < bs.length → risOk bs n k = true) : risB bs n = true := allB_yes (p := risOk bs n) h
set_option maxHeartbeats 8000000 in
theorem rising_any (v : Value) (bs : List Int) (x : Int) (w : World) (h : IntS w w.heap.size v bs) (x0 : 0 ≤ x) (x1 : x ≤ 1000000) :
  Calls Tryz.prog 82 #[v, .int .i64 x] w fun e w' => e = .returned (.bool (risB bs x)) ∧ Below w.heap.size w w' := by
 have hln := h.1
 obtain ⟨a, c, rfl⟩ := h.slice
 have HB := lh h
 clear h
 obtain ⟨n, hn⟩ : ∃ n, n = bs.length := ⟨_, rfl⟩
 rw [← hn] at hln HB ⊢
 have HN := lh hn
 clear hn
 go_enter Tryz.func82, Tryz.ntmps82
 go_wp2_with fail
 go_loopw [5] (fun i wr => ∃ k : Nat, k ≤ n ∧ i = .int .i64 k ∧ Hid (∀ j, j < k → risOk bs x j = true) ∧ Below w.heap.size w wr) (fun i _ => n - (intOf i).toNat)
 case atStart => exact ⟨0, by omega, rfl, lh (fun j hj => absurd hj (Nat.not_lt_zero j)), Below.refl _ _⟩
 case round =>
  obtain ⟨k, hk, rfl, hall, hbr⟩ := hrel
  by_cases hkn : k < n
  ·obtain ⟨b, off, rfl, hlt, y0⟩ := ints_at HB.out hbr (show k < bs.length by rw [← HN.out]; exact hkn)
   have i0 : (0 : Int) ≤ (k : Int) := by omega
   have i1 : (k : Int) < (n : Int) := by omega
   have lb : b < wr.heap.size := cell_lt y0
   cases hin : inB (iv bs k) 0 (x - 1)
   ·have HI := lh (fun (w1 : World) => (show Calls Tryz.prog 102 #[.int .i64 (iv bs k), .int .i64 0, .int .i64 (x - 1)] w1 fun e w' => e = .returned (.bool false) ∧ w' = w1 from by have := l01In_any (iv bs k) 0 (x - 1) w1; rw [hin] at this; exact this))
    have hQ := lh (ris_bad (bs := bs) (n := x) (k := k) (by rw [← HN.out]; exact hkn) (by simp [risOk, hin]))
    clear hin
    go_wp2
    go_quiet ((go_at_call 102; exact Calls.quiet_of_same (HI.out _)))
    go_wp2
    rw [hQ.out]
    go_ret
    exact ⟨rfl, eX⟩
   ·have HI := lh (fun (w1 : World) => (show Calls Tryz.prog 102 #[.int .i64 (iv bs k), .int .i64 0, .int .i64 (x - 1)] w1 fun e w' => e = .returned (.bool true) ∧ w' = w1 from by have := l01In_any (iv bs k) 0 (x - 1) w1; rw [hin] at this; exact this))
    by_cases hk0 : k = 0
    ·have hok := lh (all_more (p := fun j => risOk bs x j = true) hall.out (by simp only [risOk, hin, Bool.true_and]; simp [hk0]))
     have g0 : decide (0 < (k : Int)) = false := by simp; omega
     have g1 : ¬ 0 < k := by omega
     have HK0 := lh hk0
     clear hin hk0
     go_wp2
     go_quiet ((go_at_call 102; exact Calls.quiet_of_same (HI.out _)))
     go_wp2
     go_roundw
     case rel => exact ⟨k + 1, by omega, by go_num, hok, eX⟩
     case measure => simp [intOf]; omega
    ·obtain ⟨b', off', eb, _, y1⟩ := ints_at HB.out hbr (show k - 1 < bs.length by rw [← HN.out]; omega)
     simp only [Option.some.injEq, Addr.mk.injEq, and_true] at eb
     obtain ⟨rfl, rfl⟩ := eb
     have g1 : 0 < k := by omega
     have w1 : IntKind.i64.wrap ((k : Int) - 1) = (k : Int) - 1 := IntWalk.i64_in _ (by omega)
     have w2 : (0 : Int) ≤ (k : Int) - 1 := by omega
     have w3 : ((k : Int) - 1).toNat = k - 1 := by omega
     have w4 : (k : Int) - 1 < (n : Int) := by omega
     by_cases hlt2 : iv bs (k - 1) < iv bs k
     ·have hok := lh (all_more (p := fun j => risOk bs x j = true) hall.out (by simp [risOk, hin, hlt2]))
      have t0 : decide (iv bs k ≤ iv bs (k - 1)) = false := by simp; omega
      clear hin hk0
      go_wp2
      go_quiet ((go_at_call 102; exact Calls.quiet_of_same (HI.out _)))
      clear w1 w2 w3 w4
      go_wp2
      go_roundw
      case rel => exact ⟨k + 1, by omega, by go_num, hok, eX⟩
      case measure => simp [intOf]; omega
     ·have hQ := lh (ris_bad (bs := bs) (n := x) (k := k) (by rw [← HN.out]; exact hkn) (by simp [risOk, hin, hk0]; omega))
      have t0 : decide (iv bs k ≤ iv bs (k - 1)) = true := by simp; omega
      clear hin hk0
      go_wp2
      go_quiet ((go_at_call 102; exact Calls.quiet_of_same (HI.out _)))
      clear w1 w2 w3 w4
      go_wp2
      rw [hQ.out]
      go_ret
      exact ⟨rfl, eX⟩
  ·obtain rfl : k = n := by omega
   have hI : ¬ (k : Int) < (k : Int) := by omega
   have hQ := lh (ris_all (bs := bs) (n := x) (by rw [← HN.out]; exact hall.out))
   go_wp2
   rw [hQ.out]
   go_ret
   exact ⟨rfl, hbr⟩
set_option maxHeartbeats 4000000 in
theorem specGr_any (f : Nat → Value) (z : BlkD) (v : Value) (bs : List Int) (w : World) (h : BlkF w w.heap.size f z) (hv : IntS w w.heap.size v bs) :
  Calls Tryz.prog 46 #[.agg #[f 0, f 1, f 2, f 3, f 4], v] w fun e w' => e = .returned (.int .i64 (grCode z bs)) ∧ Below w.heap.size w w' := by
 have HB := lh (fun (w1 : World) (hb : Below w.heap.size w w1) => specIsBlock_any f z w1 (h.up hb))
 have HC := lh (fun (hb : blkB z = true) (w1 : World) (hb' : Below w.heap.size w w1) => specLinks_any f z w1 (h.up hb') hb)
 have HR := lh (fun (hb : blkB z = true) (w1 : World) (hb' : Below w.heap.size w w1) => rising_any v bs ((linksL z).length : Int) w1 (hv.up hb') (by omega) (by have := linksL_len hb; omega))
 obtain ⟨a, c, rfl⟩ := hv.slice
 obtain ⟨p0, q0, p1, q1, p2, q2, p3, q3, p4, q4, e0, e1, e2, e3, e4⟩ := h.five
 rw [e0, e1, e2, e3, e4] at HB HC
 rw [e0, e1, e2, e3, e4]
 clear e0 e1 e2 e3 e4 h
 clear hv
 cases hb : blkB z
 ·rw [show grCode z bs = 1 by simp [grCode, hb]]
  rw [hb] at HB
  clear hb HC HR
  go_enter Tryz.func46, Tryz.ntmps46
  go_wp2_with fail
  (go_at_call 81; refine (HB.out _ eX).mono ?_; rintro e w1 ⟨rfl, hb⟩; have ⟨hc, hf⟩ := bcell hb; have hz := hb.size; (try simp at hz); (try have hz := Nat.lt_of_succ_le hz); (try have y0 := wy w w1); (try have z0 := wz0 w w1); (try have z1 := wz1 w w1); (try have z2 := wz2 w w1); (try have z3 := wz3 w w1); (try have z4 := wz4 w w1))
  go_wp2
  go_ret
  exact ⟨rfl, eX⟩
 ·have HC := lh (HC.out hb)
  have HR := lh (HR.out hb)
  have HLL := lh (linksL_len hb)
  unfold LinksR at HC
  cases hr : risB bs ((linksL z).length : Int)
  ·rw [show grCode z bs = 2 by simp [grCode, hb, hr]]
   rw [hb] at HB
   rw [hr] at HR
   clear hb hr
   go_enter Tryz.func46, Tryz.ntmps46
   go_wp2_with fail
   (go_at_call 81; refine (HB.out _ eX).mono ?_; rintro e w1 ⟨rfl, hb⟩; have ⟨hc, hf⟩ := bcell hb; have hz := hb.size; (try simp at hz); (try have hz := Nat.lt_of_succ_le hz); (try have y0 := wy w w1); (try have z0 := wz0 w w1); (try have z1 := wz1 w w1); (try have z2 := wz2 w w1); (try have z3 := wz3 w w1); (try have z4 := wz4 w w1))
   have B1 : Below w.heap.size w w1 := by exact eX
   go_wp2_with fail
   (go_at_call 47; refine (HC.out _ B1).mono ?_; rintro e w2 ⟨v, rfl, hG, hb2⟩)
   have B2 : Below w.heap.size w w2 := B1.trans (hb2.mono B1.size)
   obtain ⟨va, vc, rfl⟩ := (GL.lks hG (by have := HLL.out; omega)).slice
   clear hG hb2
   go_wp2_with fail
   (go_at_call 82; refine (HR.out _ B2).mono ?_; rintro e w3 ⟨rfl, hb3⟩)
   have B3 : Below w.heap.size w w3 := B2.trans (hb3.mono B2.size)
   clear hb3
   go_wp2
   go_ret
   exact ⟨rfl, B3⟩
  ·rw [show grCode z bs = 0 by simp [grCode, hb, hr]]
   rw [hb] at HB
   rw [hr] at HR
   clear hb hr
   go_enter Tryz.func46, Tryz.ntmps46
   go_wp2_with fail
   (go_at_call 81; refine (HB.out _ eX).mono ?_; rintro e w1 ⟨rfl, hb⟩; have ⟨hc, hf⟩ := bcell hb; have hz := hb.size; (try simp at hz); (try have hz := Nat.lt_of_succ_le hz); (try have y0 := wy w w1); (try have z0 := wz0 w w1); (try have z1 := wz1 w w1); (try have z2 := wz2 w w1); (try have z3 := wz3 w w1); (try have z4 := wz4 w w1))
   have B1 : Below w.heap.size w w1 := by exact eX
   go_wp2_with fail
   (go_at_call 47; refine (HC.out _ B1).mono ?_; rintro e w2 ⟨v, rfl, hG, hb2⟩)
   have B2 : Below w.heap.size w w2 := B1.trans (hb2.mono B1.size)
   obtain ⟨va, vc, rfl⟩ := (GL.lks hG (by have := HLL.out; omega)).slice
   clear hG hb2
   go_wp2_with fail
   (go_at_call 82; refine (HR.out _ B2).mono ?_; rintro e w3 ⟨rfl, hb3⟩)
   have B3 : Below w.heap.size w w3 := B2.trans (hb3.mono B2.size)
   clear hb3
   go_wp2
   go_ret
   exact ⟨rfl, B3⟩
set_option maxHeartbeats 4000000 in
theorem specNd_any (f : Nat → Value) (z : BlkD) (v : Value) (bs : List Int) (x : Int) (w : World) (h : BlkF w w.heap.size f z) (hv : IntS w w.heap.size v bs) :
  Calls Tryz.prog 62 #[.agg #[f 0, f 1, f 2, f 3, f 4], v, .int .i64 x] w fun e w' => e = .returned (.int .i64 (ndCode z bs x)) ∧ Below w.heap.size w w' := by
 have HG := lh (fun (w1 : World) (hb : Below w.heap.size w w1) => specGr_any f z v bs w1 (h.up hb) (hv.up hb))
 have HC := lh (fun (hb : blkB z = true) (w1 : World) (hb' : Below w.heap.size w w1) => specCount_any f z w1 (h.up hb') hb)
 obtain ⟨a, c, rfl⟩ := hv.slice
 obtain ⟨p0, q0, p1, q1, p2, q2, p3, q3, p4, q4, e0, e1, e2, e3, e4⟩ := h.five
 rw [e0, e1, e2, e3, e4] at HG HC
 rw [e0, e1, e2, e3, e4]
 clear e0 e1 e2 e3 e4 h
 clear hv
 by_cases hg : grCode z bs = 0
 ·have HC := lh (HC.out (grCode_valid hg))
  have HPL := placesM (blk_get (grCode_valid hg)).1
  have hnd : 0 ≤ ndN z ∧ ndN z ≤ 200 := by unfold ndN; omega
  have ⟨n0, n1⟩ := hnd
  rw [hg] at HG
  cases hi : inB x 0 (ndN z - 1)
  ·rw [show ndCode z bs x = 4 by simp [ndCode, hg, hi]]
   clear hg hnd
   go_enter Tryz.func62, Tryz.ntmps62
   go_wp2_with fail
   (go_at_call 46; refine (HG.out _ eX).mono ?_; rintro e w1 ⟨rfl, hb⟩; have ⟨hc, hf⟩ := bcell hb; have hz := hb.size; (try simp at hz); (try have hz := Nat.lt_of_succ_le hz); (try have y0 := wy w w1); (try have z0 := wz0 w w1); (try have z1 := wz1 w w1); (try have z2 := wz2 w w1); (try have z3 := wz3 w w1); (try have z4 := wz4 w w1))
   go_wp2_with fail
   (go_at_call 49; refine (HC.out _ eX).mono ?_; rintro e w2 ⟨rfl, hb⟩; have ⟨hc, hf⟩ := bcell hb; have hz := hb.size; (try simp at hz); (try have hz := Nat.lt_of_succ_le hz); (try have y0 := wy w w2); (try have z0 := wz0 w w2); (try have z1 := wz1 w w2); (try have z2 := wz2 w w2); (try have z3 := wz3 w w2); (try have z4 := wz4 w w2))
   go_wp2_with (go_at_call 102; refine (l01In_any _ _ _ _).mono ?_; rintro e w' ⟨rfl, hw'⟩; rw [hw', hi]; clear hw' w')
   go_ret
   exact ⟨rfl, eX⟩
  ·rw [show ndCode z bs x = 0 by simp [ndCode, hg, hi]]
   clear hg hnd
   go_enter Tryz.func62, Tryz.ntmps62
   go_wp2_with fail
   (go_at_call 46; refine (HG.out _ eX).mono ?_; rintro e w1 ⟨rfl, hb⟩; have ⟨hc, hf⟩ := bcell hb; have hz := hb.size; (try simp at hz); (try have hz := Nat.lt_of_succ_le hz); (try have y0 := wy w w1); (try have z0 := wz0 w w1); (try have z1 := wz1 w w1); (try have z2 := wz2 w w1); (try have z3 := wz3 w w1); (try have z4 := wz4 w w1))
   go_wp2_with fail
   (go_at_call 49; refine (HC.out _ eX).mono ?_; rintro e w2 ⟨rfl, hb⟩; have ⟨hc, hf⟩ := bcell hb; have hz := hb.size; (try simp at hz); (try have hz := Nat.lt_of_succ_le hz); (try have y0 := wy w w2); (try have z0 := wz0 w w2); (try have z1 := wz1 w w2); (try have z2 := wz2 w w2); (try have z3 := wz3 w w2); (try have z4 := wz4 w w2))
   go_wp2_with (go_at_call 102; refine (l01In_any _ _ _ _).mono ?_; rintro e w' ⟨rfl, hw'⟩; rw [hw', hi]; clear hw' w')
   go_ret
   exact ⟨rfl, eX⟩
 ·rw [show ndCode z bs x = grCode z bs by simp [ndCode, hg]]
  obtain ⟨cd, hcd⟩ : ∃ cd, cd = grCode z bs := ⟨_, rfl⟩
  rw [← hcd] at HG hg ⊢
  have hne : (cd != 0) = true := by simpa using hg
  have hne2 : (cd == 0) = false := by simpa using hg
  clear hcd hg HC
  go_enter Tryz.func62, Tryz.ntmps62
  go_wp2_with fail
  (go_at_call 46; refine (HG.out _ eX).mono ?_; rintro e w1 ⟨rfl, hb⟩; have ⟨hc, hf⟩ := bcell hb; have hz := hb.size; (try simp at hz); (try have hz := Nat.lt_of_succ_le hz); (try have y0 := wy w w1); (try have z0 := wz0 w w1); (try have z1 := wz1 w w1); (try have z2 := wz2 w w1); (try have z3 := wz3 w w1); (try have z4 := wz4 w w1))
  go_wp2
  go_ret
  exact ⟨rfl, eX⟩
def froLN (z : BlkD) (bs : List Int) (x : Int) (m : Nat) : List Int := ((List.range m).filter (fun k : Nat => (lkn (linksL z) k).src == x && !hasI bs (k : Int))).map (fun k : Nat => (k : Int))
theorem froLN_succ (z : BlkD) (bs : List Int) (x : Int) (m : Nat) : froLN z bs x (m + 1) = if ((lkn (linksL z) m).src == x && !hasI bs (m : Int)) = true then froLN z bs x m ++ [(m : Int)] else froLN z bs x m := by
 unfold froLN
 rw [List.range_succ, List.filter_append]
 by_cases e : ((lkn (linksL z) m).src == x && !hasI bs (m : Int)) = true
 ·rw [if_pos e, List.filter_cons, if_pos e]; simp
 ·rw [if_neg e, List.filter_cons, if_neg e]; simp
theorem froLN_len (z : BlkD) (bs : List Int) (x : Int) (m : Nat) : (froLN z bs x m).length ≤ m := by
 unfold froLN
 rw [List.length_map]
 exact Nat.le_trans (List.length_filter_le _ _) (by simp)
def froL (z : BlkD) (bs : List Int) (x : Int) : List Int := if ndCode z bs x = 0 then froLN z bs x (linksL z).length else []
def toLN (z : BlkD) (bs : List Int) (x : Int) (m : Nat) : List Int := ((List.range m).filter (fun k : Nat => (lkn (linksL z) k).dst == x && !hasI bs (k : Int))).map (fun k : Nat => (k : Int))
theorem toLN_succ (z : BlkD) (bs : List Int) (x : Int) (m : Nat) : toLN z bs x (m + 1) = if ((lkn (linksL z) m).dst == x && !hasI bs (m : Int)) = true then toLN z bs x m ++ [(m : Int)] else toLN z bs x m := by
 unfold toLN
 rw [List.range_succ, List.filter_append]
 by_cases e : ((lkn (linksL z) m).dst == x && !hasI bs (m : Int)) = true
 ·rw [if_pos e, List.filter_cons, if_pos e]; simp
 ·rw [if_neg e, List.filter_cons, if_neg e]; simp
theorem toLN_len (z : BlkD) (bs : List Int) (x : Int) (m : Nat) : (toLN z bs x m).length ≤ m := by
 unfold toLN
 rw [List.length_map]
 exact Nat.le_trans (List.length_filter_le _ _) (by simp)
def toL (z : BlkD) (bs : List Int) (x : Int) : List Int := if ndCode z bs x = 0 then toLN z bs x (linksL z).length else []
end Go.Proofs.YtkpfbnffhhmokaaGreat
namespace Go.Proofs.YtkpfbnffhhmokaaGreat
open Go.ChangeShapes Go.WideShapes Go.ChangeAt Go.RowKit Go.Deep
set_option linter.unusedVariables false
set_option linter.unusedSimpArgs false
theorem ix_in {q : Nat → Bool} {n k : Nat} (hk : k < n) (h : q k = true) : 0 ≤ Go.Proofs.YtkpfbnffhhmokaaGreat.ix q n ∧ Go.Proofs.YtkpfbnffhhmokaaGreat.ix q n < n := by
 rcases first_or q n with ⟨k', h1, h2, h3⟩ | h'
 ·rw [ix_at h1 h2 h3]; omega
 ·rw [h' k hk] at h; cases h
theorem mem_pll {P : List PlD} {p : PlD} (h : p ∈ P) : ∃ j, j < P.length ∧ pll P j = p := by
 obtain ⟨j, hj, e⟩ := List.getElem_of_mem h
 exact ⟨j, hj, by simp [pll, List.getD, hj, e]⟩
theorem find_in {ts : List CellD} {d : DesD} {i : Nat} {p : Int} (hi : i < d.insts.length) (h0 : 0 ≤ p) (h1 : p < (xcell ts (inn d.insts i)).pins.length) : 0 ≤ findP (places ts d) (i : Int) p ∧ findP (places ts d) (i : Int) p < (places ts d).length := by
 obtain ⟨q, rfl⟩ := Int.eq_ofNat_of_zero_le h0
 have hm : plI ts (inn d.insts i) i q ∈ places ts d := by
  refine List.mem_append_left _ (List.mem_flatMap.2 ⟨i, List.mem_range.2 hi, List.mem_map.2 ⟨q, List.mem_range.2 (by omega), rfl⟩⟩)
 obtain ⟨j, hj, e⟩ := mem_pll hm
 exact ix_in (q := fun j => ((pll (places ts d) j).inst == (i : Int) && (pll (places ts d) j).pin == (q : Int))) hj (by simp [e, plI])
theorem drv_in {P : List PlD} {n : Int} (h : (endsL P n true).length = 1) : 0 ≤ drvP P n ∧ drvP P n < P.length := by
 obtain ⟨y, hy⟩ : ∃ y, y ∈ endsL P n true := by
  cases hh : endsL P n true with
  | nil => rw [hh] at h; simp at h
  | cons a r => exact ⟨a, List.mem_cons_self ..⟩
 obtain ⟨k, hk, _⟩ := List.mem_map.1 hy
 have hf := List.mem_filter.1 hk
 have hk := List.mem_range.1 hf.1
 have ha := hf.2
 refine ix_in (q := fun j => ((pll P j).net == n && (pll P j).drv)) hk ?_
 simpa [atEnd] using ha
def LkIn (n : Int) (l : LkD) : Prop := (0 ≤ l.src ∧ l.src < n) ∧ 0 ≤ l.dst ∧ l.dst < n
theorem arcN_in {kind sense f t ix n : Int} {m : Nat} (hm : m ≤ 4) (f0 : 0 ≤ f) (f1 : f < n) (t0 : 0 ≤ t) (t1 : t < n) : ∀ l ∈ arcN kind sense f t ix m, LkIn (2 * n) l := by
 intro l hl
 obtain ⟨j, hj, rfl⟩ := List.mem_map.1 hl
 have hj' := List.mem_range.1 (List.mem_filter.1 hj).1
 have h1 : j / 2 < 2 := by omega
 have h2 : j % 2 < 2 := by omega
 refine ⟨⟨?_, ?_⟩, ?_, ?_⟩ <;> simp only [lkOf] <;> omega
theorem links_in {z : BlkD} (hb : blkB z = true) : ∀ l ∈ linksL z, LkIn (ndN z) l := by
 obtain ⟨hl, _, _, hc, hd⟩ := des_get (blk_get hb).1
 intro l h
 rcases List.mem_append.1 h with h | h
 ·obtain ⟨i, hi, h⟩ := List.mem_flatMap.1 h
  have hi' := List.mem_range.1 hi
  obtain ⟨k, hk, h⟩ := List.mem_flatMap.1 h
  have hk' := List.mem_range.1 hk
  have ⟨c0, c1, _, _⟩ := conn_inst hc hi'
  have hcell := lib_cell hl c0 c1
  have ha := (arcs_get (cell_get hcell).2.2.1).2.1 k hk'
  simp only [sArc, inB, Bool.and_eq_true, decide_eq_true_eq] at ha
  have a := ha.1.1
  have b := ha.1.2
  unfold arcLk at h
  split at h
  ·have q1 := find_in (ts := z.lib) (d := z.des) (p := (an (xcell z.lib (inn z.des.insts i)).arcs k).src) hi' a.1 (by omega)
   have q2 := find_in (ts := z.lib) (d := z.des) (p := (an (xcell z.lib (inn z.des.insts i)).arcs k).dst) hi' b.1 (by omega)
   exact arcN_in (Nat.le_refl 4) q1.1 q1.2 q2.1 q2.2 l h
  ·cases h
 ·obtain ⟨n, hn, h⟩ := List.mem_flatMap.1 h
  have hn' := List.mem_range.1 hn
  obtain ⟨k, hk, h⟩ := List.mem_flatMap.1 h
  have hk' := List.mem_range.1 hk
  have h1 := allB_get (p := fun n : Nat => decide ((endsL (places z.lib z.des) n true).length = 1)) hd n hn'
  have q1 := drv_in (P := places z.lib z.des) (n := (n : Int)) (by simpa using h1)
  obtain ⟨e, he, hek⟩ := ends_in2 (places z.lib z.des) (n : Int) false k hk'
  unfold sinkLk at h
  rw [he] at h
  unfold ndN
  rcases List.mem_cons.1 h with rfl | h
  ·refine ⟨⟨?_, ?_⟩, ?_, ?_⟩ <;> simp only [] <;> omega
  ·rcases List.mem_cons.1 h with rfl | h
   ·refine ⟨⟨?_, ?_⟩, ?_, ?_⟩ <;> simp only [] <;> omega
   ·cases h
theorem links_at {z : BlkD} (hb : blkB z = true) {k : Nat} (hk : k < (linksL z).length) : 0 ≤ (lkn (linksL z) k).src ∧ (lkn (linksL z) k).src < ndN z ∧ 0 ≤ (lkn (linksL z) k).dst ∧ (lkn (linksL z) k).dst < ndN z := by
 have e : lkn (linksL z) k = (linksL z)[k] := by simp [lkn, List.getD, hk]
 have h := links_in hb (linksL z)[k] (List.getElem_mem hk)
 rw [← e] at h
 exact ⟨h.1.1, h.1.2, h.2.1, h.2.2⟩
theorem nd_in {z : BlkD} {bs : List Int} {x : Int} (h : ndCode z bs x = 0) : 0 ≤ x ∧ x < ndN z := by
 rcases ndCode_cases z bs x with ⟨_, e⟩ | e | e | e
 ·have h2 := h
  unfold ndCode at h2
  rw [if_pos e] at h2
  split at h2
  ·next q => simp only [inB, Bool.and_eq_true, decide_eq_true_eq] at q; omega
  ·cases h2
 all_goals omega
theorem ndN_le {z : BlkD} (hb : blkB z = true) : 0 ≤ ndN z ∧ ndN z ≤ 200 := by
 have := placesM (blk_get hb).1
 unfold ndN
 omega
end Go.Proofs.YtkpfbnffhhmokaaGreat
