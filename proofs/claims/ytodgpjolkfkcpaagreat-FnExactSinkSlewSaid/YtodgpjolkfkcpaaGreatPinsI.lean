/-
The pins of a cell: the program's own check of them, and its number of clock pins.
-/
import Derived.Test.YtodgpjolkfkcpaaGreatPins
namespace Go.Proofs.YtodgpjolkfkcpaaGreat
open Go.ChangeShapes Go.WideShapes Go.ChangeAt Go.RowKit
set_option linter.unusedVariables false
def inpB (p : PinD) : Bool := decide (p.dir = 1) && inB p.cap 0 500
def outB (p : PinD) : Bool := decide (p.dir = 2) && decide (p.cap = 0) && !p.clock
theorem isInput_any (f : Nat → Value) (p : PinD) (w : World) (h : PinF f p) : Calls Tryz.prog 164 #[.agg #[f 0, f 1, f 2, f 3]] w fun e w' => e = .returned (.bool (inpB p)) ∧ Below w.heap.size w w' := by
  obtain ⟨e0, e1, e2, e3, hs⟩ := h
  rw [e0, e1, e2, e3]
  clear e0 e1 e2 e3
  unfold inpB
  by_cases d : p.dir = 1
  · have d' : decide (p.dir = 1) = true := by simpa using d
    rw [d'] 
    rw [d]
    go_enter Tryz.func164, Tryz.ntmps164
    go_wp2_with (go_at_call 49; refine (inRange_any _ _ _ _).mono ?_; rintro e w' ⟨rfl, rfl⟩)
    go_ret
    exact ⟨rfl, eX⟩
  · have d' : decide (p.dir = 1) = false := by simpa using d
    have d2 : (p.dir == 1) = false := by simpa using d
    rw [d']
    go_enter Tryz.func164, Tryz.ntmps164
    go_wp2_with (go_at_call 49; refine (inRange_any _ _ _ _).mono ?_; rintro e w' ⟨rfl, rfl⟩)
    go_ret
    exact ⟨rfl, eX⟩
theorem isOutput_any (f : Nat → Value) (p : PinD) (w : World) (h : PinF f p) : Calls Tryz.prog 165 #[.agg #[f 0, f 1, f 2, f 3]] w fun e w' => e = .returned (.bool (outB p)) ∧ Below w.heap.size w w' := by
  obtain ⟨e0, e1, e2, e3, hs⟩ := h
  rw [e0, e1, e2, e3]
  clear e0 e1 e2 e3
  unfold outB
  by_cases d : p.dir = 2
  · have d' : decide (p.dir = 2) = true := by simpa using d
    rw [d']
    rw [d]
    by_cases c : p.cap = 0
    · have c' : decide (p.cap = 0) = true := by simpa using c
      rw [c']
      rw [c]
      go_enter Tryz.func165, Tryz.ntmps165
      go_wp2
      go_ret
      exact ⟨rfl, eX⟩
    · have c' : decide (p.cap = 0) = false := by simpa using c
      have c2 : (p.cap == 0) = false := by simpa using c
      rw [c']
      go_enter Tryz.func165, Tryz.ntmps165
      go_wp2
      go_ret
      exact ⟨rfl, eX⟩
  · have d' : decide (p.dir = 2) = false := by simpa using d
    have d2 : (p.dir == 2) = false := by simpa using d
    rw [d']
    go_enter Tryz.func165, Tryz.ntmps165
    go_wp2
    go_ret
    exact ⟨rfl, eX⟩
theorem inB_zero : inB 0 0 500 = true := by decide
theorem pinOk_out {ps : List PinD} {k : Nat} (h : k + 1 = ps.length) : pinOk ps k = (nameB (pn ps k).name && outB (pn ps k)) := by
  rw [pinOk_last h]
  unfold outB
  by_cases c : (pn ps k).cap = 0
  · rw [c, inB_zero]; simp
  · simp [c]
theorem pinOk_inp {ps : List PinD} {k : Nat} (h : ¬ k + 1 = ps.length) : pinOk ps k = (nameB (pn ps k).name && inpB (pn ps k)) := by
  rw [pinOk_in h]
  unfold inpB
  cases nameB (pn ps k).name <;> cases inB (pn ps k).cap 0 500 <;> simp
set_option maxRecDepth 100000 in
set_option maxHeartbeats 4000000 in
theorem arePins_any (v : Value) (ps : List PinD) (w : World) (h : PinsS w w.heap.size v ps) : Calls Tryz.prog 150 #[v] w fun e w' => e = .returned (.bool (pinsB ps)) ∧ Below w.heap.size w w' := by
  have H := Lib.hid h
  obtain ⟨F, hc, hf⟩ := h
  obtain ⟨n, hnn⟩ : ∃ n, n = ps.length := ⟨_, rfl⟩
  rw [← hnn] at hc hf
  have HC := hc
  obtain ⟨hn, a, cap, rfl, _⟩ := hc
  have HC := Lib.hid HC; have HF := Lib.hid hf; have HN := Lib.hid hnn
  clear hf hnn
  cases hr : inB (n : Int) 2 5
  · have hQ := Lib.hid (show pinsB ps = false by
      have hnn := HN.out
      by_cases c2 : n < 2
      · exact pins_short (by omega)
      · by_cases c5 : 5 < n
        · exact pins_long (by omega)
        · rw [inB_yes (by omega) (by omega)] at hr; cases hr)
    go_enter Tryz.func150, Tryz.ntmps150
    go_wp2_with (go_at_call 49; refine (inRange_any _ _ _ _).mono ?_; rintro e w' ⟨rfl, hw'⟩; rw [hw']; clear hw' w')
    rw [hQ.out]
    go_ret
    exact ⟨rfl, eX⟩
  · have ⟨c2, c5⟩ := inB_get hr
    go_enter Tryz.func150, Tryz.ntmps150
    go_wp2_with (go_at_call 49; refine (inRange_any _ _ _ _).mono ?_; rintro e w' ⟨rfl, hw'⟩; rw [hw']; clear hw' w')
    go_loopw [15] (fun i wr => ∃ k : Nat, k ≤ n ∧ i = .int .i64 k ∧ Hid (∀ j, j < k → pinOk ps j = true) ∧ Below w.heap.size w wr) (fun i _ => n - (intOf i).toNat)
    case atStart => exact ⟨0, by omega, rfl, Lib.hid (fun j hj => absurd hj (Nat.not_lt_zero j)), eX⟩
    case round =>
      obtain ⟨k, hk, rfl, hall, hbw⟩ := hrel
      by_cases hkn : k < n
      · obtain ⟨b, off, rfl, hlt, hx⟩ := HC.out.at hbw hkn
        have y0 := hx 0 (by omega); have y1 := hx 1 (by omega); have y2 := hx 2 (by omega); have y3 := hx 3 (by omega)
        simp only [Nat.add_zero] at y0
        have ⟨e0, e1, e2, e3, hsz⟩ := HF.out k hkn
        rw [e0] at y0; rw [e1] at y1; rw [e2] at y2; rw [e3] at y3
        have HP := Lib.hid (show PinF (vec [.string (pn ps k).name, .int .i64 (pn ps k).dir, .int .i64 (pn ps k).cap, .bool (pn ps k).clock]) (pn ps k) from ⟨rfl, rfl, rfl, rfl, hsz⟩)
        have hI : (k : Int) < (n : Int) := by omega
        have i0 : (0 : Int) ≤ (k : Int) := by omega
        clear hx e0 e1 e2 e3
        by_cases hl : k + 1 = n
        · have hpl := pinOk_out (ps := ps) (k := k) (by have := HN.out; omega)
          have hlI : ((k : Int) == (n : Int) - 1) = true := by simp; omega
          have hlJ : ¬ (k : Int) < (n : Int) - 1 := by omega
          cases hok : pinOk ps k
          · have hQ := Lib.hid (pins_bad (ps := ps) (k := k) (by have := HN.out; omega) hok)
            rw [hpl] at hok
            clear hpl hl
            cases hnm : nameB (pn ps k).name
            · go_wp2_with (go_at_call 148; refine (implName_any _ _ hsz).mono ?_; rintro e w1 ⟨rfl, hb⟩; obtain ⟨hc, hf⟩ := bcell hb; have hz := hb.size; (try simp at hz); (try (have hz := Nat.lt_of_succ_le hz)); (try (have y0 : w.heap.size ≤ w1.heap.size := by omega)); (try (have z0 : w.heap.size < w1.heap.size := by omega)); (try (have z1 : w.heap.size + 1 < w1.heap.size := by omega)); (try (have z2 : w.heap.size + 1 + 1 < w1.heap.size := by omega)); (try (have z3 : w.heap.size + 1 + 1 + 1 < w1.heap.size := by omega)); (try (have z4 : w.heap.size + 1 + 1 + 1 + 1 < w1.heap.size := by omega)); (try (have x0 : wc.heap.size < w1.heap.size := by omega)); (try (have x1 : wc.heap.size ≤ w1.heap.size := by omega)))
              rw [hQ.out]
              go_ret
              exact ⟨rfl, eX⟩
            · have ho : outB (pn ps k) = false := by simpa [hnm] using hok
              clear hok
              go_wp2_with (first | (go_at_call 148; refine (implName_any _ _ hsz).mono ?_; rintro e w1 ⟨rfl, hb⟩; obtain ⟨hc, hf⟩ := bcell hb; have hz := hb.size; (try simp at hz); (try (have hz := Nat.lt_of_succ_le hz)); (try (have y0 : w.heap.size ≤ w1.heap.size := by omega)); (try (have z0 : w.heap.size < w1.heap.size := by omega)); (try (have z1 : w.heap.size + 1 < w1.heap.size := by omega)); (try (have z2 : w.heap.size + 1 + 1 < w1.heap.size := by omega)); (try (have z3 : w.heap.size + 1 + 1 + 1 < w1.heap.size := by omega)); (try (have z4 : w.heap.size + 1 + 1 + 1 + 1 < w1.heap.size := by omega)); (try (have x0 : wc.heap.size < w1.heap.size := by omega)); (try (have x1 : wc.heap.size ≤ w1.heap.size := by omega))) | (go_at_call 165; refine (isOutput_any _ _ _ HP.out).mono ?_; rintro e w1 ⟨rfl, hb⟩; obtain ⟨hc, hf⟩ := bcell hb; have hz := hb.size; (try simp at hz); (try (have hz := Nat.lt_of_succ_le hz)); (try (have y0 : w.heap.size ≤ w1.heap.size := by omega)); (try (have z0 : w.heap.size < w1.heap.size := by omega)); (try (have z1 : w.heap.size + 1 < w1.heap.size := by omega)); (try (have z2 : w.heap.size + 1 + 1 < w1.heap.size := by omega)); (try (have z3 : w.heap.size + 1 + 1 + 1 < w1.heap.size := by omega)); (try (have z4 : w.heap.size + 1 + 1 + 1 + 1 < w1.heap.size := by omega)); (try (have x0 : wc.heap.size < w1.heap.size := by omega)); (try (have x1 : wc.heap.size ≤ w1.heap.size := by omega))))
              rw [hQ.out]
              go_ret
              exact ⟨rfl, eX⟩
          · have hok' := Lib.hid (all_more hall.out hok)
            rw [hpl] at hok
            obtain ⟨hnm, ho⟩ : nameB (pn ps k).name = true ∧ outB (pn ps k) = true := by simpa using hok
            clear hpl hok
            go_wp2_with (first | (go_at_call 148; refine (implName_any _ _ hsz).mono ?_; rintro e w1 ⟨rfl, hb⟩; obtain ⟨hc, hf⟩ := bcell hb; have hz := hb.size; (try simp at hz); (try (have hz := Nat.lt_of_succ_le hz)); (try (have y0 : w.heap.size ≤ w1.heap.size := by omega)); (try (have z0 : w.heap.size < w1.heap.size := by omega)); (try (have z1 : w.heap.size + 1 < w1.heap.size := by omega)); (try (have z2 : w.heap.size + 1 + 1 < w1.heap.size := by omega)); (try (have z3 : w.heap.size + 1 + 1 + 1 < w1.heap.size := by omega)); (try (have z4 : w.heap.size + 1 + 1 + 1 + 1 < w1.heap.size := by omega)); (try (have x0 : wc.heap.size < w1.heap.size := by omega)); (try (have x1 : wc.heap.size ≤ w1.heap.size := by omega))) | (go_at_call 165; refine (isOutput_any _ _ _ HP.out).mono ?_; rintro e w1 ⟨rfl, hb⟩; obtain ⟨hc, hf⟩ := bcell hb; have hz := hb.size; (try simp at hz); (try (have hz := Nat.lt_of_succ_le hz)); (try (have y0 : w.heap.size ≤ w1.heap.size := by omega)); (try (have z0 : w.heap.size < w1.heap.size := by omega)); (try (have z1 : w.heap.size + 1 < w1.heap.size := by omega)); (try (have z2 : w.heap.size + 1 + 1 < w1.heap.size := by omega)); (try (have z3 : w.heap.size + 1 + 1 + 1 < w1.heap.size := by omega)); (try (have z4 : w.heap.size + 1 + 1 + 1 + 1 < w1.heap.size := by omega)); (try (have x0 : wc.heap.size < w1.heap.size := by omega)); (try (have x1 : wc.heap.size ≤ w1.heap.size := by omega))))
            go_roundw
            case rel => exact ⟨k + 1, by omega, by go_num, hok', eX⟩
            case measure => simp [intOf]; omega
        · have hpl := pinOk_inp (ps := ps) (k := k) (by have := HN.out; omega)
          have hlI : ((k : Int) == (n : Int) - 1) = false := by simp; omega
          have hlJ : (k : Int) < (n : Int) - 1 := by omega
          cases hok : pinOk ps k
          · have hQ := Lib.hid (pins_bad (ps := ps) (k := k) (by have := HN.out; omega) hok)
            rw [hpl] at hok
            clear hpl hl
            cases hnm : nameB (pn ps k).name
            · go_wp2_with (go_at_call 148; refine (implName_any _ _ hsz).mono ?_; rintro e w1 ⟨rfl, hb⟩; obtain ⟨hc, hf⟩ := bcell hb; have hz := hb.size; (try simp at hz); (try (have hz := Nat.lt_of_succ_le hz)); (try (have y0 : w.heap.size ≤ w1.heap.size := by omega)); (try (have z0 : w.heap.size < w1.heap.size := by omega)); (try (have z1 : w.heap.size + 1 < w1.heap.size := by omega)); (try (have z2 : w.heap.size + 1 + 1 < w1.heap.size := by omega)); (try (have z3 : w.heap.size + 1 + 1 + 1 < w1.heap.size := by omega)); (try (have z4 : w.heap.size + 1 + 1 + 1 + 1 < w1.heap.size := by omega)); (try (have x0 : wc.heap.size < w1.heap.size := by omega)); (try (have x1 : wc.heap.size ≤ w1.heap.size := by omega)))
              rw [hQ.out]
              go_ret
              exact ⟨rfl, eX⟩
            · have ho : inpB (pn ps k) = false := by simpa [hnm] using hok
              clear hok
              go_wp2_with (first | (go_at_call 148; refine (implName_any _ _ hsz).mono ?_; rintro e w1 ⟨rfl, hb⟩; obtain ⟨hc, hf⟩ := bcell hb; have hz := hb.size; (try simp at hz); (try (have hz := Nat.lt_of_succ_le hz)); (try (have y0 : w.heap.size ≤ w1.heap.size := by omega)); (try (have z0 : w.heap.size < w1.heap.size := by omega)); (try (have z1 : w.heap.size + 1 < w1.heap.size := by omega)); (try (have z2 : w.heap.size + 1 + 1 < w1.heap.size := by omega)); (try (have z3 : w.heap.size + 1 + 1 + 1 < w1.heap.size := by omega)); (try (have z4 : w.heap.size + 1 + 1 + 1 + 1 < w1.heap.size := by omega)); (try (have x0 : wc.heap.size < w1.heap.size := by omega)); (try (have x1 : wc.heap.size ≤ w1.heap.size := by omega))) | (go_at_call 164; refine (isInput_any _ _ _ HP.out).mono ?_; rintro e w1 ⟨rfl, hb⟩; obtain ⟨hc, hf⟩ := bcell hb; have hz := hb.size; (try simp at hz); (try (have hz := Nat.lt_of_succ_le hz)); (try (have y0 : w.heap.size ≤ w1.heap.size := by omega)); (try (have z0 : w.heap.size < w1.heap.size := by omega)); (try (have z1 : w.heap.size + 1 < w1.heap.size := by omega)); (try (have z2 : w.heap.size + 1 + 1 < w1.heap.size := by omega)); (try (have z3 : w.heap.size + 1 + 1 + 1 < w1.heap.size := by omega)); (try (have z4 : w.heap.size + 1 + 1 + 1 + 1 < w1.heap.size := by omega)); (try (have x0 : wc.heap.size < w1.heap.size := by omega)); (try (have x1 : wc.heap.size ≤ w1.heap.size := by omega))))
              rw [hQ.out]
              go_ret
              exact ⟨rfl, eX⟩
          · have hok' := Lib.hid (all_more hall.out hok)
            rw [hpl] at hok
            obtain ⟨hnm, ho⟩ : nameB (pn ps k).name = true ∧ inpB (pn ps k) = true := by simpa using hok
            clear hpl hok
            go_wp2_with (first | (go_at_call 148; refine (implName_any _ _ hsz).mono ?_; rintro e w1 ⟨rfl, hb⟩; obtain ⟨hc, hf⟩ := bcell hb; have hz := hb.size; (try simp at hz); (try (have hz := Nat.lt_of_succ_le hz)); (try (have y0 : w.heap.size ≤ w1.heap.size := by omega)); (try (have z0 : w.heap.size < w1.heap.size := by omega)); (try (have z1 : w.heap.size + 1 < w1.heap.size := by omega)); (try (have z2 : w.heap.size + 1 + 1 < w1.heap.size := by omega)); (try (have z3 : w.heap.size + 1 + 1 + 1 < w1.heap.size := by omega)); (try (have z4 : w.heap.size + 1 + 1 + 1 + 1 < w1.heap.size := by omega)); (try (have x0 : wc.heap.size < w1.heap.size := by omega)); (try (have x1 : wc.heap.size ≤ w1.heap.size := by omega))) | (go_at_call 164; refine (isInput_any _ _ _ HP.out).mono ?_; rintro e w1 ⟨rfl, hb⟩; obtain ⟨hc, hf⟩ := bcell hb; have hz := hb.size; (try simp at hz); (try (have hz := Nat.lt_of_succ_le hz)); (try (have y0 : w.heap.size ≤ w1.heap.size := by omega)); (try (have z0 : w.heap.size < w1.heap.size := by omega)); (try (have z1 : w.heap.size + 1 < w1.heap.size := by omega)); (try (have z2 : w.heap.size + 1 + 1 < w1.heap.size := by omega)); (try (have z3 : w.heap.size + 1 + 1 + 1 < w1.heap.size := by omega)); (try (have z4 : w.heap.size + 1 + 1 + 1 + 1 < w1.heap.size := by omega)); (try (have x0 : wc.heap.size < w1.heap.size := by omega)); (try (have x1 : wc.heap.size ≤ w1.heap.size := by omega))))
            go_roundw
            case rel => exact ⟨k + 1, by omega, by go_num, hok', eX⟩
            case measure => simp [intOf]; omega
      · obtain rfl : k = n := by omega
        have hI : ¬ (k : Int) < (k : Int) := by omega
        have HB := Lib.hid (show pinsB ps = allB (difPn ps) ps.length by
          have hnn := HN.out
          cases hd : allB (difPn ps) ps.length
          · exact pins_dif hd
          · exact pins_all (by omega) (by omega) (by rw [← hnn]; exact hall.out) hd)
        have HX := Lib.hid (difPn_any _ ps wr (H.out.up hbw))
        rw [← HB.out] at HX
        go_wp2_with fail
        (go_at_call 166; refine (HX.out).mono ?_; rintro e w1 ⟨rfl, hb⟩; obtain ⟨hc, hf⟩ := bcell hb; have hz := hb.size; (try simp at hz); (try (have hz := Nat.lt_of_succ_le hz)); (try (have y0 : w.heap.size ≤ w1.heap.size := by omega)); (try (have z0 : w.heap.size < w1.heap.size := by omega)); (try (have z1 : w.heap.size + 1 < w1.heap.size := by omega)); (try (have z2 : w.heap.size + 1 + 1 < w1.heap.size := by omega)); (try (have z3 : w.heap.size + 1 + 1 + 1 < w1.heap.size := by omega)); (try (have z4 : w.heap.size + 1 + 1 + 1 + 1 < w1.heap.size := by omega)))
        go_wp2_with fail
        go_ret
        exact ⟨rfl, eX⟩
set_option maxHeartbeats 1000000 in
theorem countClocks_any (v : Value) (ps : List PinD) (w : World) (h : PinsS w w.heap.size v ps) (hm : ps.length ≤ 5) : Calls Tryz.prog 151 #[v] w fun e w' => e = .returned (.int .i64 (clk ps ps.length : Int)) ∧ Below w.heap.size w w' := by
  obtain ⟨F, hc, hf⟩ := h
  obtain ⟨n, hnn⟩ : ∃ n, n = ps.length := ⟨_, rfl⟩
  rw [← hnn] at hc hf hm ⊢
  have HC := hc
  obtain ⟨hn, a, cap, rfl, _⟩ := hc
  have HC := Lib.hid HC; have HF := Lib.hid hf
  clear hf hnn
  go_enter Tryz.func151, Tryz.ntmps151
  go_wp2
  go_loopw [3, 8] (fun cl i wr => ∃ k : Nat, k ≤ n ∧ i = .int .i64 k ∧ cl = .int .i64 (clk ps k) ∧ Below w.heap.size w wr) (fun _ i _ => n - (intOf i).toNat)
  case atStart => exact ⟨0, by omega, rfl, rfl, eX⟩
  case round =>
    obtain ⟨k, hk, rfl, rfl, hbw⟩ := hrel
    by_cases hkn : k < n
    · obtain ⟨b, off, rfl, hlt, hx⟩ := HC.out.at hbw hkn
      have y0 := hx 0 (by omega); have y1 := hx 1 (by omega); have y2 := hx 2 (by omega); have y3 := hx 3 (by omega)
      simp only [Nat.add_zero] at y0
      have ⟨e0, e1, e2, e3, hsz⟩ := HF.out k hkn
      rw [e0] at y0; rw [e1] at y1; rw [e2] at y2; rw [e3] at y3
      have hI : (k : Int) < (n : Int) := by omega
      have i0 : (0 : Int) ≤ (k : Int) := by omega
      have hcl := clk_le ps k
      clear hx e0 e1 e2 e3
      cases ck : (pn ps k).clock
      · have hclk := Lib.hid (show clk ps (k + 1) = clk ps k by simp [clk, ck])
        rw [ck] at y3
        go_wp2
        go_roundw
        case rel => exact ⟨k + 1, by omega, by go_num, by rw [hclk.out], eX⟩
        case measure => simp [intOf]; omega
      · have hclk := Lib.hid (show clk ps (k + 1) = clk ps k + 1 by simp [clk, ck])
        rw [ck] at y3
        go_wp2
        go_roundw
        case rel => exact ⟨k + 1, by omega, by go_num, by rw [hclk.out]; simp, eX⟩
        case measure => simp [intOf]; omega
    · obtain rfl : k = n := by omega
      have hI : ¬ (k : Int) < (k : Int) := by omega
      go_wp2
      go_ret
      exact ⟨rfl, hbw⟩
end Go.Proofs.YtodgpjolkfkcpaaGreat
