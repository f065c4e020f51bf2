/-
The pins of a cell: the model's and the program's own check of them, and the number of clock pins.
-/
import Derived.Test.YtkpfbnffhhmokaaGreatIndex
namespace Go.Proofs.YtkpfbnffhhmokaaGreat
open Go.ChangeShapes Go.WideShapes Go.ChangeAt Go.RowKit
set_option linter.unusedVariables false
def pinOk (ps : List PinD) (i : Nat) : Bool :=
 nameB (pn ps i).name && inB (pn ps i).cap 0 500 && (if i + 1 = ps.length then decide ((pn ps i).dir = 2) && decide ((pn ps i).cap = 0) && !(pn ps i).clock else decide ((pn ps i).dir = 1))
def pinsB (ps : List PinD) : Bool := decide (2 ≤ ps.length) && decide (ps.length ≤ 5) && allB (pinOk ps) ps.length && allB (difPn ps) ps.length
def clk (ps : List PinD) : Nat → Nat
 | 0 => 0
 | k + 1 => clk ps k + if (pn ps k).clock then 1 else 0
theorem clk_le (ps : List PinD) : ∀ k, clk ps k ≤ k
 | 0 => Nat.le_refl _
 | k + 1 => by
  have := clk_le ps k
  unfold clk
  split <;> omega
theorem pins_short {ps : List PinD} (h : ps.length < 2) : pinsB ps = false := by
 have : ¬ 2 ≤ ps.length := by omega
 simp [pinsB, this]
theorem pins_long {ps : List PinD} (h : 5 < ps.length) : pinsB ps = false := by
 have : ¬ ps.length ≤ 5 := by omega
 simp [pinsB, this]
theorem pins_bad {ps : List PinD} {k : Nat} (hk : k < ps.length) (h : pinOk ps k = false) : pinsB ps = false := by simp [pinsB, allB_no hk h]
theorem pins_dup {ps : List PinD} {k : Nat} (hk : k < ps.length) (h : difPn ps k = false) : pinsB ps = false := by simp [pinsB, allB_no hk h]
theorem pins_dif {ps : List PinD} (h : allB (difPn ps) ps.length = false) : pinsB ps = false := by simp [pinsB, h]
theorem pins_all {ps : List PinD} (h0 : 2 ≤ ps.length) (h1 : ps.length ≤ 5) (h : ∀ i, i < ps.length → pinOk ps i = true) (h2 : allB (difPn ps) ps.length = true) : pinsB ps = true := by simp [pinsB, h0, h1, allB_yes h, h2]
theorem pins_get {ps : List PinD} (h : pinsB ps = true) : 2 ≤ ps.length ∧ ps.length ≤ 5 ∧ (∀ i, i < ps.length → pinOk ps i = true) ∧ ∀ i, i < ps.length → difPn ps i = true := by
 simp only [pinsB, Bool.and_eq_true, decide_eq_true_eq] at h
 exact ⟨h.1.1.1, h.1.1.2, allB_get h.1.2, allB_get h.2⟩
theorem pinOk_last {ps : List PinD} {k : Nat} (h : k + 1 = ps.length) : pinOk ps k = (nameB (pn ps k).name && inB (pn ps k).cap 0 500 && (decide ((pn ps k).dir = 2) && decide ((pn ps k).cap = 0) && !(pn ps k).clock)) := by unfold pinOk; rw [if_pos h]
theorem pinOk_in {ps : List PinD} {k : Nat} (h : ¬ k + 1 = ps.length) : pinOk ps k = (nameB (pn ps k).name && inB (pn ps k).cap 0 500 && decide ((pn ps k).dir = 1)) := by unfold pinOk; rw [if_neg h]
/-- The number of clock pins, and whether the pins are valid. -/
def PinsR (ps : List PinD) : Value := .tuple #[.int .i64 (if pinsB ps then (clk ps ps.length : Int) else 0), .bool (pinsB ps)]
theorem pinsR_no {ps : List PinD} (h : pinsB ps = false) : PinsR ps = .tuple #[.int .i64 0, .bool false] := by simp [PinsR, h]
theorem pinsR_yes {ps : List PinD} (h : pinsB ps = true) : PinsR ps = .tuple #[.int .i64 (clk ps ps.length : Int), .bool true] := by simp [PinsR, h]
set_option maxRecDepth 100000 in
set_option maxHeartbeats 4000000 in
theorem specPins_any (f : Nat → Value) (c : CellD) (w : World) (h : CellF w w.heap.size f c) : Calls Tryz.prog 193 #[.agg #[f 0, f 1, f 2, f 3, f 4, f 5, f 6]] w fun e w' => e = .returned (PinsR c.pins) ∧ Below w.heap.size w w' := by
 obtain ⟨ps, hps⟩ : ∃ ps, ps = c.pins := ⟨_, rfl⟩
 obtain ⟨e0, e1, x2, x3, x4, e5, e6, hsz⟩ := h
 obtain ⟨p3, q3, e3⟩ := x3.slice; obtain ⟨p4, q4, e4⟩ := x4.slice
 rw [← hps] at x2 ⊢
 obtain ⟨F, hc, hf⟩ := x2
 obtain ⟨n, hnn⟩ : ∃ n, n = ps.length := ⟨_, rfl⟩
 rw [← hnn] at hc hf
 have HC := hc
 obtain ⟨hn, a, cap, e2, _⟩ := hc
 rw [e2] at HC
 rw [e0, e1, e2, e3, e4, e5, e6]
 have HC := lh HC; have HF := lh hf; have HN := lh hnn
 clear hf hnn e0 e1 e2 e3 e4 e5 e6 x3 x4 hps
 by_cases c2 : n < 2
 ·have hQ := lh (pinsR_no (pins_short (ps := ps) (by have := HN.out; omega)))
  have c2' : (n : Int) < 2 := by omega
  go_enter Tryz.func193, Tryz.ntmps193
  go_wp2
  exact bodyPost_ret (v := .tuple #[.int .i64 0, .bool false]) (by simp [results, Tryz.results193, go_sem]) rfl ⟨by rw [hQ.out], eX⟩
 ·have c2' : ¬ (n : Int) < 2 := by omega
  by_cases c5 : 5 < n
  ·have hQ := lh (pinsR_no (pins_long (ps := ps) (by have := HN.out; omega)))
   have c5' : (5 : Int) < (n : Int) := by omega
   go_enter Tryz.func193, Tryz.ntmps193
   go_wp2
   exact bodyPost_ret (v := .tuple #[.int .i64 0, .bool false]) (by simp [results, Tryz.results193, go_sem]) rfl ⟨by rw [hQ.out], eX⟩
  ·have c5' : ¬ (5 : Int) < (n : Int) := by omega
   go_enter Tryz.func193, Tryz.ntmps193
   go_wp2
   go_loopw [5, 6] (fun cl i wr => ∃ k : Nat, k ≤ n ∧ i = .int .i64 k ∧ cl = .int .i64 (clk ps k) ∧ Hid (∀ j, j < k → pinOk ps j = true) ∧ Hid (∀ j, j < k → difPn ps j = true) ∧ wr.cell? ⟨w.heap.size, 2, none⟩ = some (.slice a n cap) ∧ Below w.heap.size w wr) (fun _ i _ => n - (intOf i).toNat)
   case atStart => exact ⟨0, by omega, rfl, rfl, lh (fun j hj => absurd hj (Nat.not_lt_zero j)), lh (fun j hj => absurd hj (Nat.not_lt_zero j)), by simp [go_sem], eX⟩
   case round =>
    obtain ⟨k, hk, rfl, rfl, hall, hdif, r2, hbw⟩ := hrel
    by_cases hkn : k < n
    ·obtain ⟨b, off, rfl, hlt, hx⟩ := HC.out.at hbw hkn
     have y0 := hx 0 (by omega); have y1 := hx 1 (by omega); have y2 := hx 2 (by omega); have y3 := hx 3 (by omega)
     simp only [Nat.add_zero] at y0
     have ⟨e0, e1, e2, e3, hsz⟩ := HF.out k hkn
     rw [e0] at y0; rw [e1] at y1; rw [e2] at y2; rw [e3] at y3
     have hI : (k : Int) < (n : Int) := by omega
     have i0 : (0 : Int) ≤ (k : Int) := by omega
     clear hx e0 e1 e2 e3
     go_wp2
     go_loopw [8] (fun j wi => ∃ q : Nat, q ≤ k ∧ j = .int .i64 q ∧ Hid (∀ r, r < q → ((pn ps r).name.toList == (pn ps k).name.toList) = false) ∧ wi.cell? ⟨w.heap.size, 2, none⟩ = some (.slice (some ⟨b, off, none⟩) n cap) ∧
      wi.cell? ⟨wr.heap.size, 0, none⟩ = some (.string (pn ps k).name) ∧ wi.cell? ⟨wr.heap.size, 1, none⟩ = some (.int .i64 (pn ps k).dir) ∧ wi.cell? ⟨wr.heap.size, 2, none⟩ = some (.int .i64 (pn ps k).cap) ∧ wi.cell? ⟨wr.heap.size, 3, none⟩ = some (.bool (pn ps k).clock) ∧ Below w.heap.size w wi) (fun j _ => k - (intOf j).toNat)
     case atStart => exact ⟨0, by omega, rfl, lh (fun j hj => absurd hj (Nat.not_lt_zero j)), cell_keep r2 eX, by simp [go_sem], by simp [go_sem], by simp [go_sem], by simp [go_sem], eX⟩
     case round =>
      clear y0 y1 y2 y3 r2
      obtain ⟨q, hq, rfl, hne, r2, y0, y1, y2, y3, hbi⟩ := hrel
      by_cases hqk : q < k
      ·obtain ⟨b', off', e', hlt', hx⟩ := HC.out.at hbi (show q < n by omega)
       obtain ⟨rfl, rfl⟩ : b' = b ∧ off' = off := by simpa using e'.symm
       have z0 := hx 0 (by omega)
       simp only [Nat.add_zero] at z0
       rw [(HF.out q (by omega)).1] at z0
       have hqI : (q : Int) < (n : Int) := by omega
       have hqkI : (q : Int) < (k : Int) := by omega
       have q0 : (0 : Int) ≤ (q : Int) := by omega
       clear hx e'
       cases hd : ((pn ps q).name.toList == (pn ps k).name.toList)
       ·have hok := lh (all_more hne.out hd)
        go_wp2
        go_region
        go_wp2
        go_roundw
        case rel => exact ⟨q + 1, by omega, by go_num, hok, by first | assumption | (simp [go_sem, *]; done), by first | assumption | (simp [go_sem, *]; done), by first | assumption | (simp [go_sem, *]; done), by first | assumption | (simp [go_sem, *]; done), by first | assumption | (simp [go_sem, *]; done), eX⟩
        case measure => simp [intOf]; omega
       ·have hQ := lh (pinsR_no (pins_dup (ps := ps) (k := k) (by have := HN.out; omega) (allB_no (p := fun j => !((pn ps j).name.toList == (pn ps k).name.toList)) hqk (by simp only [hd]; rfl))))
        go_wp2
        go_region
        go_wp2
        exact bodyPost_ret (v := .tuple #[.int .i64 0, .bool false]) (by simp [results, Tryz.results193, go_sem]) rfl ⟨by rw [hQ.out], eX⟩
      ·obtain rfl : q = k := by omega
       have hd := all_more hdif.out (show difPn ps q = true from allB_yes (fun j hj => by rw [hne.out j hj]; rfl))
       have HD := lh hd
       have hqI : ¬ (q : Int) < (q : Int) := by omega
       clear hd hqk
       cases hnm : nameB (pn ps q).name
       ·have hQ := lh (pinsR_no (pins_bad (ps := ps) (k := q) (by have := HN.out; omega) (by simp [pinOk, hnm])))
        go_wp2_with (go_at_call 173; refine (specName_any _ _ hsz).mono ?_; rintro e w' ⟨rfl, rfl⟩)
        exact bodyPost_ret (v := .tuple #[.int .i64 0, .bool false]) (by simp [results, Tryz.results193, go_sem]) rfl ⟨by rw [hQ.out], eX⟩
       ·cases hin : inB (pn ps q).cap 0 500
        ·have hQ := lh (pinsR_no (pins_bad (ps := ps) (k := q) (by have := HN.out; omega) (by simp [pinOk, hin])))
         go_wp2_with (first | (go_at_call 173; refine (specName_any _ _ hsz).mono ?_; rintro e w' ⟨rfl, rfl⟩) | (go_at_call 102; refine (l01In_any _ _ _ _).mono ?_; rintro e w' ⟨rfl, rfl⟩))
         exact bodyPost_ret (v := .tuple #[.int .i64 0, .bool false]) (by simp [results, Tryz.results193, go_sem]) rfl ⟨by rw [hQ.out], eX⟩
        ·by_cases hl : q + 1 = n
         ·have hpl := pinOk_last (ps := ps) (k := q) (by have := HN.out; omega)
          have hlI : ((q : Int) == (n : Int) - 1) = true := by simp; omega
          have hlJ : ¬ (q : Int) < (n : Int) - 1 := by omega
          by_cases d2 : (pn ps q).dir = 2
          ·by_cases c0 : (pn ps q).cap = 0
           ·cases ck : (pn ps q).clock
            ·have hok := lh (all_more hall.out (show pinOk ps q = true by rw [hpl, hnm, hin]; simp [d2, c0, ck]))
             have hclk := lh (show clk ps (q + 1) = clk ps q by simp [clk, ck])
             rw [d2] at y1
             rw [c0] at y2 hin
             rw [ck] at y3
             clear hpl
             go_wp2_with (first | (go_at_call 173; refine (specName_any _ _ hsz).mono ?_; rintro e w' ⟨rfl, rfl⟩) | (go_at_call 102; refine (l01In_any _ _ _ _).mono ?_; rintro e w' ⟨rfl, rfl⟩))
             go_roundw
             case rel => exact ⟨q + 1, by omega, by go_num, by rw [hclk.out], hok, HD, by first | assumption | (simp [go_sem, *]; done), eX⟩
             case measure => simp [intOf]; omega
            ·have hQ := lh (pinsR_no (pins_bad (ps := ps) (k := q) (by have := HN.out; omega) (by rw [hpl]; simp [ck])))
             rw [d2] at y1
             rw [c0] at y2 hin
             rw [ck] at y3
             clear hpl
             go_wp2_with (first | (go_at_call 173; refine (specName_any _ _ hsz).mono ?_; rintro e w' ⟨rfl, rfl⟩) | (go_at_call 102; refine (l01In_any _ _ _ _).mono ?_; rintro e w' ⟨rfl, rfl⟩))
             exact bodyPost_ret (v := .tuple #[.int .i64 0, .bool false]) (by simp [results, Tryz.results193, go_sem]) rfl ⟨by rw [hQ.out], eX⟩
           ·have hQ := lh (pinsR_no (pins_bad (ps := ps) (k := q) (by have := HN.out; omega) (by rw [hpl]; simp [c0])))
            have c0' : ((pn ps q).cap != 0) = true := by simpa using c0
            rw [d2] at y1
            clear hpl
            go_wp2_with (first | (go_at_call 173; refine (specName_any _ _ hsz).mono ?_; rintro e w' ⟨rfl, rfl⟩) | (go_at_call 102; refine (l01In_any _ _ _ _).mono ?_; rintro e w' ⟨rfl, rfl⟩))
            exact bodyPost_ret (v := .tuple #[.int .i64 0, .bool false]) (by simp [results, Tryz.results193, go_sem]) rfl ⟨by rw [hQ.out], eX⟩
          ·have hQ := lh (pinsR_no (pins_bad (ps := ps) (k := q) (by have := HN.out; omega) (by rw [hpl]; simp [d2])))
           have d2' : ((pn ps q).dir != 2) = true := by simpa using d2
           clear hpl
           go_wp2_with (first | (go_at_call 173; refine (specName_any _ _ hsz).mono ?_; rintro e w' ⟨rfl, rfl⟩) | (go_at_call 102; refine (l01In_any _ _ _ _).mono ?_; rintro e w' ⟨rfl, rfl⟩))
           exact bodyPost_ret (v := .tuple #[.int .i64 0, .bool false]) (by simp [results, Tryz.results193, go_sem]) rfl ⟨by rw [hQ.out], eX⟩
         ·have hpl := pinOk_in (ps := ps) (k := q) (by have := HN.out; omega)
          have hlI : ((q : Int) == (n : Int) - 1) = false := by simp; omega
          have hlJ : (q : Int) < (n : Int) - 1 := by omega
          by_cases d1 : (pn ps q).dir = 1
          ·have hok := lh (all_more hall.out (show pinOk ps q = true by rw [hpl]; simp [hnm, hin, d1]))
           rw [d1] at y1
           clear hpl
           cases ck : (pn ps q).clock
           ·have hclk := lh (show clk ps (q + 1) = clk ps q by simp [clk, ck])
            rw [ck] at y3
            go_wp2_with (first | (go_at_call 173; refine (specName_any _ _ hsz).mono ?_; rintro e w' ⟨rfl, rfl⟩) | (go_at_call 102; refine (l01In_any _ _ _ _).mono ?_; rintro e w' ⟨rfl, rfl⟩))
            go_roundw
            case rel => exact ⟨q + 1, by omega, by go_num, by rw [hclk.out], hok, HD, by first | assumption | (simp [go_sem, *]; done), eX⟩
            case measure => simp [intOf]; omega
           ·have hclk := lh (show clk ps (q + 1) = clk ps q + 1 by simp [clk, ck])
            have hcl := clk_le ps q
            rw [ck] at y3
            go_wp2_with (first | (go_at_call 173; refine (specName_any _ _ hsz).mono ?_; rintro e w' ⟨rfl, rfl⟩) | (go_at_call 102; refine (l01In_any _ _ _ _).mono ?_; rintro e w' ⟨rfl, rfl⟩))
            go_roundw
            case rel => exact ⟨q + 1, by omega, by go_num, by rw [hclk.out]; simp, hok, HD, by first | assumption | (simp [go_sem, *]; done), eX⟩
            case measure => simp [intOf]; omega
          ·have hQ := lh (pinsR_no (pins_bad (ps := ps) (k := q) (by have := HN.out; omega) (by rw [hpl]; simp [d1])))
           have d1' : ((pn ps q).dir != 1) = true := by simpa using d1
           clear hpl
           go_wp2_with (first | (go_at_call 173; refine (specName_any _ _ hsz).mono ?_; rintro e w' ⟨rfl, rfl⟩) | (go_at_call 102; refine (l01In_any _ _ _ _).mono ?_; rintro e w' ⟨rfl, rfl⟩))
           exact bodyPost_ret (v := .tuple #[.int .i64 0, .bool false]) (by simp [results, Tryz.results193, go_sem]) rfl ⟨by rw [hQ.out], eX⟩
    ·obtain rfl : k = n := by omega
     have hI : ¬ (k : Int) < (k : Int) := by omega
     have hQ := lh (pinsR_yes (pins_all (ps := ps) (by have := HN.out; omega) (by have := HN.out; omega) (by rw [← HN.out]; exact hall.out) (allB_yes (by rw [← HN.out]; exact hdif.out))))
     rw [← HN.out] at hQ
     go_wp2
     exact bodyPost_ret (v := .tuple #[.int .i64 (clk ps k : Int), .bool true]) (by simp [results, Tryz.results193, go_sem]) rfl ⟨by rw [hQ.out], hbw⟩
end Go.Proofs.YtkpfbnffhhmokaaGreat
namespace Go.Proofs.YtkpfbnffhhmokaaGreat
open Go.ChangeShapes Go.WideShapes Go.ChangeAt Go.RowKit
set_option linter.unusedVariables false
def inpB (p : PinD) : Bool := decide (p.dir = 1) && inB p.cap 0 500
def outB (p : PinD) : Bool := decide (p.dir = 2) && decide (p.cap = 0) && !p.clock
theorem isInput_any (f : Nat → Value) (p : PinD) (w : World) (h : PinF f p) : Calls Tryz.prog 214 #[.agg #[f 0, f 1, f 2, f 3]] w fun e w' => e = .returned (.bool (inpB p)) ∧ Below w.heap.size w w' := by
 obtain ⟨e0, e1, e2, e3, hs⟩ := h
 rw [e0, e1, e2, e3]
 clear e0 e1 e2 e3
 unfold inpB
 by_cases d : p.dir = 1
 ·have d' : decide (p.dir = 1) = true := by simpa using d
  rw [d'] 
  rw [d]
  go_enter Tryz.func214, Tryz.ntmps214
  go_wp2_with (go_at_call 106; refine (inRange_any _ _ _ _).mono ?_; rintro e w' ⟨rfl, rfl⟩)
  go_ret
  exact ⟨rfl, eX⟩
 ·have d' : decide (p.dir = 1) = false := by simpa using d
  have d2 : (p.dir == 1) = false := by simpa using d
  rw [d']
  go_enter Tryz.func214, Tryz.ntmps214
  go_wp2_with (go_at_call 106; refine (inRange_any _ _ _ _).mono ?_; rintro e w' ⟨rfl, rfl⟩)
  go_ret
  exact ⟨rfl, eX⟩
theorem isOutput_any (f : Nat → Value) (p : PinD) (w : World) (h : PinF f p) : Calls Tryz.prog 215 #[.agg #[f 0, f 1, f 2, f 3]] w fun e w' => e = .returned (.bool (outB p)) ∧ Below w.heap.size w w' := by
 obtain ⟨e0, e1, e2, e3, hs⟩ := h
 rw [e0, e1, e2, e3]
 clear e0 e1 e2 e3
 unfold outB
 by_cases d : p.dir = 2
 ·have d' : decide (p.dir = 2) = true := by simpa using d
  rw [d']
  rw [d]
  by_cases c : p.cap = 0
  ·have c' : decide (p.cap = 0) = true := by simpa using c
   rw [c']
   rw [c]
   go_enter Tryz.func215, Tryz.ntmps215
   go_wp2
   go_ret
   exact ⟨rfl, eX⟩
  ·have c' : decide (p.cap = 0) = false := by simpa using c
   have c2 : (p.cap == 0) = false := by simpa using c
   rw [c']
   go_enter Tryz.func215, Tryz.ntmps215
   go_wp2
   go_ret
   exact ⟨rfl, eX⟩
 ·have d' : decide (p.dir = 2) = false := by simpa using d
  have d2 : (p.dir == 2) = false := by simpa using d
  rw [d']
  go_enter Tryz.func215, Tryz.ntmps215
  go_wp2
  go_ret
  exact ⟨rfl, eX⟩
theorem inB_zero : inB 0 0 500 = true := by decide
theorem pinOk_out {ps : List PinD} {k : Nat} (h : k + 1 = ps.length) : pinOk ps k = (nameB (pn ps k).name && outB (pn ps k)) := by
 rw [pinOk_last h]
 unfold outB
 by_cases c : (pn ps k).cap = 0
 ·rw [c, inB_zero]; simp
 ·simp [c]
theorem pinOk_inp {ps : List PinD} {k : Nat} (h : ¬ k + 1 = ps.length) : pinOk ps k = (nameB (pn ps k).name && inpB (pn ps k)) := by
 rw [pinOk_in h]
 unfold inpB
 cases nameB (pn ps k).name <;> cases inB (pn ps k).cap 0 500 <;> simp
set_option maxRecDepth 100000 in
set_option maxHeartbeats 4000000 in
theorem arePins_any (v : Value) (ps : List PinD) (w : World) (h : PinsS w w.heap.size v ps) : Calls Tryz.prog 199 #[v] w fun e w' => e = .returned (.bool (pinsB ps)) ∧ Below w.heap.size w w' := by
 have H := lh h
 obtain ⟨F, hc, hf⟩ := h
 obtain ⟨n, hnn⟩ : ∃ n, n = ps.length := ⟨_, rfl⟩
 rw [← hnn] at hc hf
 have HC := hc
 obtain ⟨hn, a, cap, rfl, _⟩ := hc
 have HC := lh HC; have HF := lh hf; have HN := lh hnn
 clear hf hnn
 cases hr : inB (n : Int) 2 5
 ·have hQ := lh (show pinsB ps = false by
   have hnn := HN.out
   by_cases c2 : n < 2
   ·exact pins_short (by omega)
   ·by_cases c5 : 5 < n
    ·exact pins_long (by omega)
    ·rw [inB_yes (by omega) (by omega)] at hr; cases hr)
  go_enter Tryz.func199, Tryz.ntmps199
  go_wp2_with (go_at_call 106; refine (inRange_any _ _ _ _).mono ?_; rintro e w' ⟨rfl, hw'⟩; rw [hw']; clear hw' w')
  rw [hQ.out]
  go_ret
  exact ⟨rfl, eX⟩
 ·have ⟨c2, c5⟩ := inB_get hr
  go_enter Tryz.func199, Tryz.ntmps199
  go_wp2_with (go_at_call 106; refine (inRange_any _ _ _ _).mono ?_; rintro e w' ⟨rfl, hw'⟩; rw [hw']; clear hw' w')
  go_loopw [15] (fun i wr => ∃ k : Nat, k ≤ n ∧ i = .int .i64 k ∧ Hid (∀ j, j < k → pinOk ps j = true) ∧ Below w.heap.size w wr) (fun i _ => n - (intOf i).toNat)
  case atStart => exact ⟨0, by omega, rfl, lh (fun j hj => absurd hj (Nat.not_lt_zero j)), eX⟩
  case round =>
   obtain ⟨k, hk, rfl, hall, hbw⟩ := hrel
   by_cases hkn : k < n
   ·obtain ⟨b, off, rfl, hlt, hx⟩ := HC.out.at hbw hkn
    have y0 := hx 0 (by omega); have y1 := hx 1 (by omega); have y2 := hx 2 (by omega); have y3 := hx 3 (by omega)
    simp only [Nat.add_zero] at y0
    have ⟨e0, e1, e2, e3, hsz⟩ := HF.out k hkn
    rw [e0] at y0; rw [e1] at y1; rw [e2] at y2; rw [e3] at y3
    have HP := lh (show PinF (vec [.string (pn ps k).name, .int .i64 (pn ps k).dir, .int .i64 (pn ps k).cap, .bool (pn ps k).clock]) (pn ps k) from ⟨rfl, rfl, rfl, rfl, hsz⟩)
    have hI : (k : Int) < (n : Int) := by omega
    have i0 : (0 : Int) ≤ (k : Int) := by omega
    clear hx e0 e1 e2 e3
    by_cases hl : k + 1 = n
    ·have hpl := pinOk_out (ps := ps) (k := k) (by have := HN.out; omega)
     have hlI : ((k : Int) == (n : Int) - 1) = true := by simp; omega
     have hlJ : ¬ (k : Int) < (n : Int) - 1 := by omega
     cases hok : pinOk ps k
     ·have hQ := lh (pins_bad (ps := ps) (k := k) (by have := HN.out; omega) hok)
      rw [hpl] at hok
      clear hpl hl
      cases hnm : nameB (pn ps k).name
      ·go_wp2_with (go_at_call 197; refine (implName_any _ _ hsz).mono ?_; rintro e w1 ⟨rfl, hb⟩; have ⟨hc, hf⟩ := bcell hb; have hz := hb.size; (try simp at hz); (try have hz := Nat.lt_of_succ_le hz); (try have y0 := wy w w1); (try have z0 := wz0 w w1); (try have z1 := wz1 w w1); (try have z2 := wz2 w w1); (try have z3 := wz3 w w1); (try have z4 := wz4 w w1); (try have x0 := wz0 wc w1); (try have x1 := wy wc w1))
       rw [hQ.out]
       go_ret
       exact ⟨rfl, eX⟩
      ·have ho : outB (pn ps k) = false := by simpa [hnm] using hok
       clear hok
       go_wp2_with (first | (go_at_call 197; refine (implName_any _ _ hsz).mono ?_; rintro e w1 ⟨rfl, hb⟩; have ⟨hc, hf⟩ := bcell hb; have hz := hb.size; (try simp at hz); (try have hz := Nat.lt_of_succ_le hz); (try have y0 := wy w w1); (try have z0 := wz0 w w1); (try have z1 := wz1 w w1); (try have z2 := wz2 w w1); (try have z3 := wz3 w w1); (try have z4 := wz4 w w1); (try have x0 := wz0 wc w1); (try have x1 := wy wc w1)) | (go_at_call 215; refine (isOutput_any _ _ _ HP.out).mono ?_; rintro e w1 ⟨rfl, hb⟩; have ⟨hc, hf⟩ := bcell hb; have hz := hb.size; (try simp at hz); (try have hz := Nat.lt_of_succ_le hz); (try have y0 := wy w w1); (try have z0 := wz0 w w1); (try have z1 := wz1 w w1); (try have z2 := wz2 w w1); (try have z3 := wz3 w w1); (try have z4 := wz4 w w1); (try have x0 := wz0 wc w1); (try have x1 := wy wc w1)))
       rw [hQ.out]
       go_ret
       exact ⟨rfl, eX⟩
     ·have hok' := lh (all_more hall.out hok)
      rw [hpl] at hok
      obtain ⟨hnm, ho⟩ : nameB (pn ps k).name = true ∧ outB (pn ps k) = true := by simpa using hok
      clear hpl hok
      go_wp2_with (first | (go_at_call 197; refine (implName_any _ _ hsz).mono ?_; rintro e w1 ⟨rfl, hb⟩; have ⟨hc, hf⟩ := bcell hb; have hz := hb.size; (try simp at hz); (try have hz := Nat.lt_of_succ_le hz); (try have y0 := wy w w1); (try have z0 := wz0 w w1); (try have z1 := wz1 w w1); (try have z2 := wz2 w w1); (try have z3 := wz3 w w1); (try have z4 := wz4 w w1); (try have x0 := wz0 wc w1); (try have x1 := wy wc w1)) | (go_at_call 215; refine (isOutput_any _ _ _ HP.out).mono ?_; rintro e w1 ⟨rfl, hb⟩; have ⟨hc, hf⟩ := bcell hb; have hz := hb.size; (try simp at hz); (try have hz := Nat.lt_of_succ_le hz); (try have y0 := wy w w1); (try have z0 := wz0 w w1); (try have z1 := wz1 w w1); (try have z2 := wz2 w w1); (try have z3 := wz3 w w1); (try have z4 := wz4 w w1); (try have x0 := wz0 wc w1); (try have x1 := wy wc w1)))
      go_roundw
      case rel => exact ⟨k + 1, by omega, by go_num, hok', eX⟩
      case measure => simp [intOf]; omega
    ·have hpl := pinOk_inp (ps := ps) (k := k) (by have := HN.out; omega)
     have hlI : ((k : Int) == (n : Int) - 1) = false := by simp; omega
     have hlJ : (k : Int) < (n : Int) - 1 := by omega
     cases hok : pinOk ps k
     ·have hQ := lh (pins_bad (ps := ps) (k := k) (by have := HN.out; omega) hok)
      rw [hpl] at hok
      clear hpl hl
      cases hnm : nameB (pn ps k).name
      ·go_wp2_with (go_at_call 197; refine (implName_any _ _ hsz).mono ?_; rintro e w1 ⟨rfl, hb⟩; have ⟨hc, hf⟩ := bcell hb; have hz := hb.size; (try simp at hz); (try have hz := Nat.lt_of_succ_le hz); (try have y0 := wy w w1); (try have z0 := wz0 w w1); (try have z1 := wz1 w w1); (try have z2 := wz2 w w1); (try have z3 := wz3 w w1); (try have z4 := wz4 w w1); (try have x0 := wz0 wc w1); (try have x1 := wy wc w1))
       rw [hQ.out]
       go_ret
       exact ⟨rfl, eX⟩
      ·have ho : inpB (pn ps k) = false := by simpa [hnm] using hok
       clear hok
       go_wp2_with (first | (go_at_call 197; refine (implName_any _ _ hsz).mono ?_; rintro e w1 ⟨rfl, hb⟩; have ⟨hc, hf⟩ := bcell hb; have hz := hb.size; (try simp at hz); (try have hz := Nat.lt_of_succ_le hz); (try have y0 := wy w w1); (try have z0 := wz0 w w1); (try have z1 := wz1 w w1); (try have z2 := wz2 w w1); (try have z3 := wz3 w w1); (try have z4 := wz4 w w1); (try have x0 := wz0 wc w1); (try have x1 := wy wc w1)) | (go_at_call 214; refine (isInput_any _ _ _ HP.out).mono ?_; rintro e w1 ⟨rfl, hb⟩; have ⟨hc, hf⟩ := bcell hb; have hz := hb.size; (try simp at hz); (try have hz := Nat.lt_of_succ_le hz); (try have y0 := wy w w1); (try have z0 := wz0 w w1); (try have z1 := wz1 w w1); (try have z2 := wz2 w w1); (try have z3 := wz3 w w1); (try have z4 := wz4 w w1); (try have x0 := wz0 wc w1); (try have x1 := wy wc w1)))
       rw [hQ.out]
       go_ret
       exact ⟨rfl, eX⟩
     ·have hok' := lh (all_more hall.out hok)
      rw [hpl] at hok
      obtain ⟨hnm, ho⟩ : nameB (pn ps k).name = true ∧ inpB (pn ps k) = true := by simpa using hok
      clear hpl hok
      go_wp2_with (first | (go_at_call 197; refine (implName_any _ _ hsz).mono ?_; rintro e w1 ⟨rfl, hb⟩; have ⟨hc, hf⟩ := bcell hb; have hz := hb.size; (try simp at hz); (try have hz := Nat.lt_of_succ_le hz); (try have y0 := wy w w1); (try have z0 := wz0 w w1); (try have z1 := wz1 w w1); (try have z2 := wz2 w w1); (try have z3 := wz3 w w1); (try have z4 := wz4 w w1); (try have x0 := wz0 wc w1); (try have x1 := wy wc w1)) | (go_at_call 214; refine (isInput_any _ _ _ HP.out).mono ?_; rintro e w1 ⟨rfl, hb⟩; have ⟨hc, hf⟩ := bcell hb; have hz := hb.size; (try simp at hz); (try have hz := Nat.lt_of_succ_le hz); (try have y0 := wy w w1); (try have z0 := wz0 w w1); (try have z1 := wz1 w w1); (try have z2 := wz2 w w1); (try have z3 := wz3 w w1); (try have z4 := wz4 w w1); (try have x0 := wz0 wc w1); (try have x1 := wy wc w1)))
      go_roundw
      case rel => exact ⟨k + 1, by omega, by go_num, hok', eX⟩
      case measure => simp [intOf]; omega
   ·obtain rfl : k = n := by omega
    have hI : ¬ (k : Int) < (k : Int) := by omega
    have HB := lh (show pinsB ps = allB (difPn ps) ps.length by
     have hnn := HN.out
     cases hd : allB (difPn ps) ps.length
     ·exact pins_dif hd
     ·exact pins_all (by omega) (by omega) (by rw [← hnn]; exact hall.out) hd)
    have HX := lh (difPn_any _ ps wr (H.out.up hbw))
    rw [← HB.out] at HX
    go_wp2_with fail
    (go_at_call 216; refine (HX.out).mono ?_; rintro e w1 ⟨rfl, hb⟩; have ⟨hc, hf⟩ := bcell hb; have hz := hb.size; (try simp at hz); (try have hz := Nat.lt_of_succ_le hz); (try have y0 := wy w w1); (try have z0 := wz0 w w1); (try have z1 := wz1 w w1); (try have z2 := wz2 w w1); (try have z3 := wz3 w w1); (try have z4 := wz4 w w1))
    go_wp2_with fail
    go_ret
    exact ⟨rfl, eX⟩
set_option maxHeartbeats 1000000 in
theorem countClocks_any (v : Value) (ps : List PinD) (w : World) (h : PinsS w w.heap.size v ps) (hm : ps.length ≤ 5) : Calls Tryz.prog 200 #[v] w fun e w' => e = .returned (.int .i64 (clk ps ps.length : Int)) ∧ Below w.heap.size w w' := by
 obtain ⟨F, hc, hf⟩ := h
 obtain ⟨n, hnn⟩ : ∃ n, n = ps.length := ⟨_, rfl⟩
 rw [← hnn] at hc hf hm ⊢
 have HC := hc
 obtain ⟨hn, a, cap, rfl, _⟩ := hc
 have HC := lh HC; have HF := lh hf
 clear hf hnn
 go_enter Tryz.func200, Tryz.ntmps200
 go_wp2
 go_loopw [3, 8] (fun cl i wr => ∃ k : Nat, k ≤ n ∧ i = .int .i64 k ∧ cl = .int .i64 (clk ps k) ∧ Below w.heap.size w wr) (fun _ i _ => n - (intOf i).toNat)
 case atStart => exact ⟨0, by omega, rfl, rfl, eX⟩
 case round =>
  obtain ⟨k, hk, rfl, rfl, hbw⟩ := hrel
  by_cases hkn : k < n
  ·obtain ⟨b, off, rfl, hlt, hx⟩ := HC.out.at hbw hkn
   have y0 := hx 0 (by omega); have y1 := hx 1 (by omega); have y2 := hx 2 (by omega); have y3 := hx 3 (by omega)
   simp only [Nat.add_zero] at y0
   have ⟨e0, e1, e2, e3, hsz⟩ := HF.out k hkn
   rw [e0] at y0; rw [e1] at y1; rw [e2] at y2; rw [e3] at y3
   have hI : (k : Int) < (n : Int) := by omega
   have i0 : (0 : Int) ≤ (k : Int) := by omega
   have hcl := clk_le ps k
   clear hx e0 e1 e2 e3
   cases ck : (pn ps k).clock
   ·have hclk := lh (show clk ps (k + 1) = clk ps k by simp [clk, ck])
    rw [ck] at y3
    go_wp2
    go_roundw
    case rel => exact ⟨k + 1, by omega, by go_num, by rw [hclk.out], eX⟩
    case measure => simp [intOf]; omega
   ·have hclk := lh (show clk ps (k + 1) = clk ps k + 1 by simp [clk, ck])
    rw [ck] at y3
    go_wp2
    go_roundw
    case rel => exact ⟨k + 1, by omega, by go_num, by rw [hclk.out]; simp, eX⟩
    case measure => simp [intOf]; omega
  ·obtain rfl : k = n := by omega
   have hI : ¬ (k : Int) < (k : Int) := by omega
   go_wp2
   go_ret
   exact ⟨rfl, hbw⟩
end Go.Proofs.YtkpfbnffhhmokaaGreat
