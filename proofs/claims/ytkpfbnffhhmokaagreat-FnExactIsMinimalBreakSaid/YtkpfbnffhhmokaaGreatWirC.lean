/-
Contracts of IsWire (program and model), for all wires and numbers.
-/
import Derived.Test.YtkpfbnffhhmokaaGreatWir
import Derived.Test.YtkpfbnffhhmokaaGreatName
import Derived.Test.YtkpfbnffhhmokaaGreatIndex
import Derived.BigQuiet
namespace Go.Proofs.YtkpfbnffhhmokaaGreat
open Go.ChangeShapes Go.WideShapes Go.ChangeAt Go.RowKit
set_option linter.unusedVariables false
set_option linter.unusedSimpArgs false
def topOk (p : WireD) (i : Nat) : Bool := if i = 0 then (iv p.parent i == -1 && iv p.res i == 0) else inB (iv p.parent i) 0 ((i : Int) - 1)
def nodeOk (p : WireD) (i : Nat) : Bool := inB (iv p.cap i) 0 500 && inB (iv p.res i) 0 1000 && topOk p i
def snkOk (p : WireD) (i : Nat) : Bool := inB (iv p.sink i) 0 ((p.parent.length : Int) - 1)
def lensB (p : WireD) (s : Int) : Bool := decide (1 ≤ p.parent.length) && decide (p.parent.length ≤ 8) && decide (p.res.length = p.parent.length) && decide (p.cap.length = p.parent.length) && decide ((p.sink.length : Int) = s)
def wireB (p : WireD) (s : Int) : Bool := lensB p s && allB (nodeOk p) p.parent.length && allB (snkOk p) p.sink.length
theorem lens_get {p : WireD} {s : Int} (h : lensB p s = true) : 1 ≤ p.parent.length ∧ p.parent.length ≤ 8 ∧ p.res.length = p.parent.length ∧ p.cap.length = p.parent.length ∧ (p.sink.length : Int) = s := by
 simp only [lensB, Bool.and_eq_true, decide_eq_true_eq] at h
 exact ⟨h.1.1.1.1, h.1.1.1.2, h.1.1.2, h.1.2, h.2⟩
theorem wire_lens {p : WireD} {s : Int} (h : lensB p s = false) : wireB p s = false := by simp [wireB, h]
theorem wire_node {p : WireD} {s : Int} {k : Nat} (hk : k < p.parent.length) (h : nodeOk p k = false) : wireB p s = false := by simp [wireB, allB_no hk h]
theorem wire_snk {p : WireD} {s : Int} {k : Nat} (hk : k < p.sink.length) (h : snkOk p k = false) : wireB p s = false := by simp [wireB, allB_no hk h]
theorem wire_all {p : WireD} {s : Int} (h : lensB p s = true) (h1 : ∀ i, i < p.parent.length → nodeOk p i = true) (h2 : ∀ i, i < p.sink.length → snkOk p i = true) : wireB p s = true := by simp [wireB, h, allB_yes h1, allB_yes h2]
/-- A list in a later world, at one of its indices. -/
theorem ints_at {w wr : World} {a : Option Addr} {n c : Nat} {xs : List Int} {k : Nat} (h : IntS w w.heap.size (.slice a n c) xs) (hb : Below w.heap.size w wr) (hk : k < xs.length) : ∃ b off, a = some ⟨b, off, none⟩ ∧ b < w.heap.size ∧ wr.cell? ⟨b, off + k, none⟩ = some (.int .i64 (iv xs k)) := by
 obtain ⟨_, a', cap, e, hx⟩ := h
 obtain ⟨b, off, e', hlt, hx⟩ := hx (by omega)
 injection e with e _ _
 exact ⟨b, off, e.trans e', hlt, by rw [hb.cell (by show b < _; omega)]; exact hx k hk⟩
set_option maxHeartbeats 4000000 in
set_option maxRecDepth 100000 in
theorem specIsWire_any (f : Nat → Value) (p : WireD) (s : Int) (w : World) (h : WireF w w.heap.size f p) : Calls Tryz.prog 116 #[.agg #[f 0, f 1, f 2, f 3], .int .i64 s] w fun e w' => e = .returned (.bool (wireB p s)) ∧ Below w.heap.size w w' := by
 obtain ⟨x0, x1, x2, x3⟩ := h
 have H0 := lh x0; have H1 := lh x1; have H2 := lh x2; have H3 := lh x3
 obtain ⟨a0, c0, e0⟩ := x0.slice; obtain ⟨a1, c1, e1⟩ := x1.slice; obtain ⟨a2, c2, e2⟩ := x2.slice; obtain ⟨a3, c3, e3⟩ := x3.slice
 rw [e0] at H0; rw [e1] at H1; rw [e2] at H2; rw [e3] at H3
 rw [e0, e1, e2, e3]
 clear e0 e1 e2 e3 x0 x1 x2 x3
 obtain ⟨n, hn⟩ : ∃ n, n = p.parent.length := ⟨_, rfl⟩
 obtain ⟨n1, hn1⟩ : ∃ n, n = p.res.length := ⟨_, rfl⟩
 obtain ⟨n2, hn2⟩ : ∃ n, n = p.cap.length := ⟨_, rfl⟩
 obtain ⟨n3, hn3⟩ : ∃ n, n = p.sink.length := ⟨_, rfl⟩
 have l0 := H0.out.1; have l1 := H1.out.1; have l2 := H2.out.1; have l3 := H3.out.1
 rw [← hn] at l0; rw [← hn1] at l1; rw [← hn2] at l2; rw [← hn3] at l3
 cases hl : lensB p s
 ·have hQ := lh (wire_lens hl)
  simp only [lensB, Bool.and_eq_false_iff, decide_eq_false_iff_not, ← hn, ← hn1, ← hn2, ← hn3] at hl
  rw [← hn, ← hn1, ← hn2, ← hn3]
  clear hn hn1 hn2 hn3 H0 H1 H2 H3
  rw [hQ.out]
  clear hQ
  by_cases k0 : n < 1
  ·have z00 : decide ((n : Int) < 1) = true := by simp; omega
   have z01 : ((n : Int) == 0) = true := by simp; omega
   clear hl
   go_enter Tryz.func116, Tryz.ntmps116
   go_wp2
   go_ret
   exact ⟨rfl, eX⟩
  have z00 : decide ((n : Int) < 1) = false := by simp; omega
  have z01 : ((n : Int) == 0) = false := by simp; omega
  by_cases k1 : 8 < n
  ·have z10 : decide (8 < (n : Int)) = true := by simp; omega
   clear hl
   go_enter Tryz.func116, Tryz.ntmps116
   go_wp2
   go_ret
   exact ⟨rfl, eX⟩
  have z10 : decide (8 < (n : Int)) = false := by simp; omega
  by_cases k2 : ¬ n1 = n
  ·have z20 : (!((n1 : Int) == (n : Int))) = true := by simp; omega
   have z21 : ((n1 : Int) == (n : Int)) = false := by simp; omega
   clear hl
   go_enter Tryz.func116, Tryz.ntmps116
   go_wp2
   go_ret
   exact ⟨rfl, eX⟩
  have z20 : (!((n1 : Int) == (n : Int))) = false := by simp; omega
  have z21 : ((n1 : Int) == (n : Int)) = true := by simp; omega
  by_cases k3 : ¬ n2 = n
  ·have z30 : (!((n2 : Int) == (n : Int))) = true := by simp; omega
   have z31 : ((n2 : Int) == (n : Int)) = false := by simp; omega
   clear hl
   go_enter Tryz.func116, Tryz.ntmps116
   go_wp2
   go_ret
   exact ⟨rfl, eX⟩
  have z30 : (!((n2 : Int) == (n : Int))) = false := by simp; omega
  have z31 : ((n2 : Int) == (n : Int)) = true := by simp; omega
  by_cases k4 : ¬ (n3 : Int) = s
  ·have z40 : (!((n3 : Int) == s)) = true := by simp; omega
   have z41 : ((n3 : Int) == s) = false := by simp; omega
   clear hl
   go_enter Tryz.func116, Tryz.ntmps116
   go_wp2
   go_ret
   exact ⟨rfl, eX⟩
  exact absurd hl (by omega)
 ·have hw := lh hl
  have ⟨t0, t1, t2, t3, t4⟩ := lens_get hl
  clear hl
  have HN := lh hn; have HN3 := lh hn3
  have HN1 := lh (hn.trans t2.symm); have HN2 := lh (hn.trans t3.symm)
  rw [← hn1, ← hn] at t2; rw [← hn2, ← hn] at t3; rw [← hn3] at t4
  rw [← hn] at t0 t1
  rw [← hn] at H0; rw [← hn1] at H1; rw [← hn2] at H2; rw [← hn3] at H3
  rw [← hn, ← hn1, ← hn2, ← hn3]
  clear hn hn1 hn2 hn3
  rw [t2] at H1; rw [t3] at H2
  rw [t2, t3]
  clear t2 t3 l1 l2 n1 n2
  subst t4
  have z0 : decide ((n : Int) < 1) = false := by simp; omega
  have z0' : ((n : Int) == 0) = false := by simp; omega
  have z1 : decide (8 < (n : Int)) = false := by simp; omega
  go_enter Tryz.func116, Tryz.ntmps116
  go_wp2
  go_loopw [6] (fun i wr => ∃ k : Nat, k ≤ n ∧ i = .int .i64 k ∧ Hid (∀ j, j < k → nodeOk p j = true) ∧ Below w.heap.size w wr ∧ wr.cell? ⟨w.heap.size, 0, none⟩ = some (.slice a0 n c0) ∧ wr.cell? ⟨w.heap.size, 1, none⟩ = some (.slice a1 n c1) ∧ wr.cell? ⟨w.heap.size, 2, none⟩ = some (.slice a2 n c2) ∧ wr.cell? ⟨w.heap.size, 3, none⟩ = some (.slice a3 n3 c3)) (fun i _ => n - (intOf i).toNat)
  case atStart => exact ⟨0, by omega, rfl, lh (fun j hj => absurd hj (Nat.not_lt_zero j)), eX, by simp [go_sem], by simp [go_sem], by simp [go_sem], by simp [go_sem]⟩
  case round =>
   obtain ⟨k, hk, rfl, hall, hbw, r0, r1, r2, r3⟩ := hrel
   by_cases hkn : k < n
   ·have hkp : k < p.parent.length := by have := HN.out; omega
    obtain ⟨b0, o0, rfl, hl0, y0⟩ := ints_at H0.out hbw hkp
    have hk1 : k < p.res.length := by have := HN1.out; omega
    have hk2 : k < p.cap.length := by have := HN2.out; omega
    obtain ⟨b1, o1, rfl, hl1, y1⟩ := ints_at H1.out hbw hk1
    obtain ⟨b2, o2, rfl, hl2, y2⟩ := ints_at H2.out hbw hk2
    have i0 : (0 : Int) ≤ (k : Int) := by omega
    have i1 : (k : Int) < (n : Int) := by omega
    cases hc : inB (iv p.cap k) 0 500
    ·have hQ := lh (wire_node (s := (n3 : Int)) hkp (by simp [nodeOk, hc]))
     go_wp2_with (go_at_call 102; refine (l01In_any _ _ _ _).mono ?_; rintro e w' ⟨rfl, rfl⟩)
     rw [hQ.out]
     go_ret
     exact ⟨rfl, eX⟩
    ·cases hr : inB (iv p.res k) 0 1000
     ·have hQ := lh (wire_node (s := (n3 : Int)) hkp (by simp [nodeOk, hc, hr]))
      go_wp2_with (go_at_call 102; refine (l01In_any _ _ _ _).mono ?_; rintro e w' ⟨rfl, rfl⟩)
      rw [hQ.out]
      go_ret
      exact ⟨rfl, eX⟩
     ·by_cases hk0 : k = 0
      ·have g0 : ((k : Int) == 0) = true := by simp; omega
       have g1 : ¬ 0 < k := by omega
       cases hp : (iv p.parent k == -1)
       ·have hQ := lh (wire_node (s := (n3 : Int)) hkp (by simp [nodeOk, topOk, hk0, hk0 ▸ hp]))
        have hp : ¬ iv p.parent k = -1 := by simpa using hp
        clear hk0
        go_wp2_with (go_at_call 102; refine (l01In_any _ _ _ _).mono ?_; rintro e w' ⟨rfl, rfl⟩)
        rw [hQ.out]
        go_ret
        exact ⟨rfl, eX⟩
       ·have hp' : iv p.parent k = -1 := by simpa using hp
        cases hz : (iv p.res k == 0)
        ·have hQ := lh (wire_node (s := (n3 : Int)) hkp (by simp [nodeOk, topOk, hk0, hk0 ▸ hz]))
         have hz : ¬ iv p.res k = 0 := by simpa using hz
         clear hk0 hp
         go_wp2_with (go_at_call 102; refine (l01In_any _ _ _ _).mono ?_; rintro e w' ⟨rfl, rfl⟩)
         rw [hQ.out]
         go_ret
         exact ⟨rfl, eX⟩
        ·have hok := lh (all_next hall.out (show nodeOk p k = true by unfold nodeOk topOk; rw [hc, hr, if_pos hk0, hp, hz]; rfl))
         have hz : iv p.res k = 0 := by simpa using hz
         clear hk0 hp
         go_wp2_with (go_at_call 102; refine (l01In_any _ _ _ _).mono ?_; rintro e w' ⟨rfl, rfl⟩)
         go_roundw
         case rel => exact ⟨k + 1, by omega, by go_num, hok, eX, by simp [go_sem, *], by simp [go_sem, *], by simp [go_sem, *], by simp [go_sem, *]⟩
         case measure => simp [intOf]; omega
      ·have g0 : ((k : Int) == 0) = false := by simp; omega
       have g1 : 0 < k := by omega
       have i2 : -9223372036854775808 ≤ (k : Int) - 1 := by omega
       have i3 : (k : Int) - 1 ≤ 9223372036854775807 := by omega
       cases hp : inB (iv p.parent k) 0 ((k : Int) - 1)
       ·have hQ := lh (wire_node (s := (n3 : Int)) hkp (show nodeOk p k = false by unfold nodeOk topOk; rw [hc, hr, if_neg hk0, hp]; rfl))
        clear hk0
        go_wp2_with (go_at_call 102; refine (l01In_any _ _ _ _).mono ?_; rintro e w' ⟨rfl, rfl⟩)
        rw [hQ.out]
        go_ret
        exact ⟨rfl, eX⟩
       ·have hok := lh (all_next hall.out (show nodeOk p k = true by unfold nodeOk topOk; rw [hc, hr, if_neg hk0, hp]; rfl))
        clear hk0
        go_wp2_with (go_at_call 102; refine (l01In_any _ _ _ _).mono ?_; rintro e w' ⟨rfl, rfl⟩)
        go_roundw
        case rel => exact ⟨k + 1, by omega, by go_num, hok, eX, by simp [go_sem, *], by simp [go_sem, *], by simp [go_sem, *], by simp [go_sem, *]⟩
        case measure => simp [intOf]; omega
   ·obtain rfl : k = n := by omega
    have hI : ¬ (k : Int) < (k : Int) := by omega
    have hno := lh (HN.out ▸ hall.out : ∀ j, j < p.parent.length → nodeOk p j = true)
    clear hall
    go_wp2
    go_loopw [7] (fun i wr => ∃ j : Nat, j ≤ n3 ∧ i = .int .i64 j ∧ Hid (∀ q, q < j → snkOk p q = true) ∧ Below w.heap.size w wr ∧ wr.cell? ⟨w.heap.size, 0, none⟩ = some (.slice a0 k c0) ∧ wr.cell? ⟨w.heap.size, 1, none⟩ = some (.slice a1 k c1) ∧ wr.cell? ⟨w.heap.size, 2, none⟩ = some (.slice a2 k c2) ∧ wr.cell? ⟨w.heap.size, 3, none⟩ = some (.slice a3 n3 c3)) (fun i _ => n3 - (intOf i).toNat)
    case atStart => exact ⟨0, by omega, rfl, lh (fun j hj => absurd hj (Nat.not_lt_zero j)), eX, by simp [go_sem, *], by simp [go_sem, *], by simp [go_sem, *], by simp [go_sem, *]⟩
    case round =>
     clear hbw r0 r1 r2 r3
     obtain ⟨j, hj, rfl, hall, hbw, r0, r1, r2, r3⟩ := hrel
     by_cases hjn : j < n3
     ·have hk3 : j < p.sink.length := by have := HN3.out; omega
      obtain ⟨b3, o3, rfl, hl3, y3⟩ := ints_at H3.out hbw hk3
      have i0 : (0 : Int) ≤ (j : Int) := by omega
      have i1 : (j : Int) < (n3 : Int) := by omega
      have i2 : -9223372036854775808 ≤ (k : Int) - 1 := by omega
      have i3 : (k : Int) - 1 ≤ 9223372036854775807 := by omega
      cases hc : inB (iv p.sink j) 0 ((k : Int) - 1)
      ·have hQ := lh (wire_snk (s := (n3 : Int)) hk3 (show snkOk p j = false by unfold snkOk; rw [← HN.out]; exact hc))
       go_wp2_with (go_at_call 102; refine (l01In_any _ _ _ _).mono ?_; rintro e w' ⟨rfl, rfl⟩)
       rw [hQ.out]
       go_ret
       exact ⟨rfl, eX⟩
      ·have hok := lh (all_next hall.out (show snkOk p j = true by unfold snkOk; rw [← HN.out]; exact hc))
       go_wp2_with (go_at_call 102; refine (l01In_any _ _ _ _).mono ?_; rintro e w' ⟨rfl, rfl⟩)
       go_roundw
       case rel => exact ⟨j + 1, by omega, by go_num, hok, eX, by simp [go_sem, *], by simp [go_sem, *], by simp [go_sem, *], by simp [go_sem, *]⟩
       case measure => simp [intOf]; omega
     ·obtain rfl : j = n3 := by omega
      have hI : ¬ (j : Int) < (j : Int) := by omega
      have hQ := lh (wire_all (s := (j : Int)) hw.out hno.out (by rw [← HN3.out]; exact hall.out))
      go_wp2
      rw [hQ.out]
      go_ret
      exact ⟨rfl, eX⟩
set_option maxHeartbeats 2000000 in
theorem isWireNode_any (f : Nat → Value) (p : WireD) (k : Nat) (w : World) (h : WireF w w.heap.size f p) (hk : k < p.parent.length) (hk1 : p.res.length = p.parent.length) (hk2 : p.cap.length = p.parent.length) : Calls Tryz.prog 152 #[.agg #[f 0, f 1, f 2, f 3], .int .i64 k] w fun e w' => e = .returned (.bool (nodeOk p k)) ∧ Below w.heap.size w w' := by
 obtain ⟨x0, x1, x2, x3⟩ := h
 have H0 := lh x0; have H1 := lh x1; have H2 := lh x2
 obtain ⟨a0, c0, e0⟩ := x0.slice; obtain ⟨a1, c1, e1⟩ := x1.slice; obtain ⟨a2, c2, e2⟩ := x2.slice; obtain ⟨a3, c3, e3⟩ := x3.slice
 rw [e0] at H0; rw [e1] at H1; rw [e2] at H2
 rw [e0, e1, e2, e3]
 clear e0 e1 e2 e3 x0 x1 x2 x3
 have l0 := H0.out.1
 rw [hk1] at H1; rw [hk2] at H2
 rw [hk1, hk2]
 obtain ⟨b0, o0, rfl, hl0, y0⟩ := ints_at H0.out (Below.refl _ _) hk
 have j1 : k < p.res.length := by omega
 have j2 : k < p.cap.length := by omega
 obtain ⟨b1, o1, rfl, hl1, y1⟩ := ints_at H1.out (Below.refl _ _) j1
 obtain ⟨b2, o2, rfl, hl2, y2⟩ := ints_at H2.out (Below.refl _ _) j2
 clear hk1 hk2 j1 j2
 generalize p.parent.length = n at *
 have i0 : (0 : Int) ≤ (k : Int) := by omega
 have i1 : (k : Int) < (n : Int) := by omega
 cases hc : inB (iv p.cap k) 0 500
 ·have hQ := lh (show nodeOk p k = false by simp [nodeOk, hc])
  go_enter Tryz.func152, Tryz.ntmps152
  go_wp2
  go_quiet (fail)
  go_wp2_with (go_at_call 106; refine (inRange_any _ _ _ _).mono ?_; rintro e w' ⟨rfl, rfl⟩)
  rw [hQ.out]
  go_ret
  exact ⟨rfl, eX⟩
 ·by_cases hk0 : k = 0
  ·have g0 : ((k : Int) == 0) = true := by simp; omega
   by_cases hp : iv p.parent k = -1
   ·by_cases hz : iv p.res k = 0
    ·have hQ := lh (show nodeOk p k = true by simp only [nodeOk, topOk, hc, if_pos hk0, hp, hz]; rfl)
     clear hk0
     go_enter Tryz.func152, Tryz.ntmps152
     go_wp2
     go_quiet (fail)
     go_wp2_with (go_at_call 106; refine (inRange_any _ _ _ _).mono ?_; rintro e w' ⟨rfl, rfl⟩)
     rw [hQ.out]
     go_ret
     exact ⟨rfl, eX⟩
    ·have hQ := lh (show nodeOk p k = false by simp [nodeOk, topOk, hc, hk0, hk0 ▸ hp, hk0 ▸ hz])
     have hz' : (iv p.res k == 0) = false := by simpa using hz
     have hz'' : decide (iv p.res k = 0) = false := by simpa using hz
     clear hk0
     go_enter Tryz.func152, Tryz.ntmps152
     go_wp2
     go_quiet (fail)
     go_wp2_with (go_at_call 106; refine (inRange_any _ _ _ _).mono ?_; rintro e w' ⟨rfl, rfl⟩)
     rw [hQ.out]
     go_ret
     exact ⟨rfl, eX⟩
   ·have hQ := lh (show nodeOk p k = false by simp [nodeOk, topOk, hc, hk0, hk0 ▸ hp])
    clear hk0
    go_enter Tryz.func152, Tryz.ntmps152
    go_wp2
    go_quiet (fail)
    go_wp2_with (go_at_call 106; refine (inRange_any _ _ _ _).mono ?_; rintro e w' ⟨rfl, rfl⟩)
    rw [hQ.out]
    go_ret
    exact ⟨rfl, eX⟩
  ·have g0 : ((k : Int) == 0) = false := by simp; omega
   have i2 : -9223372036854775808 ≤ (k : Int) - 1 := by omega
   have i3 : (k : Int) - 1 ≤ 9223372036854775807 := by omega
   cases hp : inB (iv p.parent k) 0 ((k : Int) - 1)
   ·have hQ := lh (show nodeOk p k = false by simp [nodeOk, topOk, hc, hk0, hp])
    clear hk0
    go_enter Tryz.func152, Tryz.ntmps152
    go_wp2
    go_quiet (fail)
    go_wp2_with (go_at_call 106; refine (inRange_any _ _ _ _).mono ?_; rintro e w' ⟨rfl, rfl⟩)
    rw [hQ.out]
    go_ret
    exact ⟨rfl, eX⟩
   ·cases hr : inB (iv p.res k) 0 1000
    all_goals
     have hQ := lh (show nodeOk p k = _ by simp only [nodeOk, topOk, hc, if_neg hk0, hp, hr]; rfl)
     clear hk0
     go_enter Tryz.func152, Tryz.ntmps152
     go_wp2
     go_quiet (fail)
     go_wp2_with (go_at_call 106; refine (inRange_any _ _ _ _).mono ?_; rintro e w' ⟨rfl, rfl⟩)
     rw [hQ.out]
     go_ret
     exact ⟨rfl, eX⟩
theorem hasIxI_any (a : Option Addr) (n cap : Nat) (x : Int) (w : World) (hn : n ≤ 9223372036854775807) : Calls Tryz.prog 155 #[.slice a n cap, .int .i64 x] w fun e w' => e = .returned (.bool (inB x 0 ((n : Int) - 1))) ∧ w' = w := by
 have b0 : -9223372036854775808 ≤ (n : Int) - 1 := by omega
 have b1 : (n : Int) - 1 ≤ 9223372036854775807 := by omega
 go_enter Tryz.func155, Tryz.ntmps155
 go_wp2_with (go_at_call 106; refine (inRange_any _ _ _ _).mono ?_; rintro e w' ⟨rfl, rfl⟩)
 go_ret
 exact ⟨rfl, rfl⟩
theorem snkC_any (x : Int) (g n : Nat) (a : Option Addr) (cap : Nat) (w : World) (hn : n ≤ 9223372036854775807) (hc : w.cell? ⟨g, 0, none⟩ = some (.slice a n cap)) : Calls Tryz.prog 154 #[.int .i64 x, .pointer (some ⟨g, 0, none⟩)] w fun e w' => e = .returned (.bool (!inB x 0 ((n : Int) - 1))) ∧ w' = w := by
 have HQ := lh (hasIxI_any a n cap x w hn)
 cases h : inB x 0 ((n : Int) - 1)
 all_goals
  rw [h] at HQ
  clear h
  go_enter Tryz.func154, Tryz.ntmps154
  go_wp2_with (go_at_call 155; refine HQ.out.mono ?_; rintro e w' ⟨rfl, hw'⟩; rw [hw']; clear hw' w')
  go_ret
  exact ⟨rfl, rfl⟩
set_option maxHeartbeats 2000000 in
theorem snkF_any (v : Value) (xs : List Int) (g m : Nat) (a' : Option Addr) (cap' : Nat) (w : World) (h : IntS w w.heap.size v xs) (hm : m ≤ 9223372036854775807) (hc : w.cell? ⟨g, 0, none⟩ = some (.slice a' m cap')) :
  Calls Tryz.prog 187 #[v, .func (.func 154) #[] #[.pointer (some ⟨g, 0, none⟩)]] w fun e w' => e = .returned (.int .i64 (ix (fun i => !inB (iv xs i) 0 ((m : Int) - 1)) xs.length)) ∧ w' = w := by
 obtain ⟨hn, a, cap, rfl, hx0⟩ := h
 obtain ⟨n, hnn⟩ : ∃ n, n = xs.length := ⟨_, rfl⟩
 rw [← hnn] at hn hx0 ⊢
 have HX := lh hx0
 have HC := lh hc
 clear hx0 hnn hc
 go_enter Tryz.func187, Tryz.ntmps187
 go_wp2
 go_loopw [5, 8] (fun _ i wr => ∃ k : Nat, k ≤ n ∧ i = .int .i64 k ∧ Hid (∀ j, j < k → (!inB (iv xs j) 0 ((m : Int) - 1)) = false) ∧ wr = w) (fun _ i _ => n - (intOf i).toNat)
 case atStart => exact ⟨0, by omega, rfl, lh (fun j hj => absurd hj (Nat.not_lt_zero j)), rfl⟩
 case round =>
  obtain ⟨k, hk, rfl, hall, rfl⟩ := hrel
  by_cases hkn : k < n
  ·obtain ⟨b, off, rfl, hlt, hx⟩ := HX.out (by omega)
   have y0 := hx k hkn
   have hI : (k : Int) < (n : Int) := by omega
   have i0 : (0 : Int) ≤ (k : Int) := by omega
   clear hx
   have hB := lh (snkC_any (iv xs k) g m a' cap' wr hm HC.out)
   cases hd : (!inB (iv xs k) 0 ((m : Int) - 1))
   ·have hok := lh (all_more hall.out hd)
    rw [hd] at hB
    clear hd
    go_wp2_with (go_at_call 154; refine hB.out.mono ?_; rintro e w' ⟨rfl, hw'⟩; rw [hw']; clear hw' w')
    go_roundw
    case rel => exact ⟨k + 1, by omega, by go_num, hok, by first | rfl | trivial⟩
    case measure => simp [intOf]; omega
   ·have hok := lh (ix_at (q := fun i => !inB (iv xs i) 0 ((m : Int) - 1)) hkn hd hall.out)
    rw [hd] at hB
    clear hd
    go_wp2_with (go_at_call 154; refine hB.out.mono ?_; rintro e w' ⟨rfl, hw'⟩; rw [hw']; clear hw' w')
    rw [hok.out]
    go_ret
    exact ⟨rfl, rfl⟩
  ·obtain rfl : k = n := by omega
   have hok := lh (ix_none (q := fun i => !inB (iv xs i) 0 ((m : Int) - 1)) hall.out)
   have hI : ¬ (k : Int) < (k : Int) := by omega
   go_wp2
   rw [hok.out]
   go_ret
   exact ⟨rfl, rfl⟩
theorem ix_snk (p : WireD) : decide (0 ≤ ix (fun i => !inB (iv p.sink i) 0 ((p.parent.length : Int) - 1)) p.sink.length) = !allB (snkOk p) p.sink.length := by
 rcases first_or (fun i => !inB (iv p.sink i) 0 ((p.parent.length : Int) - 1)) p.sink.length with ⟨k, h1, h2, h3⟩ | h
 ·rw [ix_at h1 h2 h3, allB_no (p := snkOk p) h1 (by unfold snkOk; simpa using h2)]
  simp
 ·rw [ix_none h, allB_yes (p := snkOk p) (fun i hi => by unfold snkOk; simpa using h i hi)]
  rfl
theorem snkX_any (v : Value) (p : WireD) (g : Nat) (a' : Option Addr) (cap' : Nat) (w : World) (h : IntS w w.heap.size v p.sink) (hm : p.parent.length ≤ 9223372036854775807) (hc : w.cell? ⟨g, 0, none⟩ = some (.slice a' p.parent.length cap')) :
  Calls Tryz.prog 153 #[v, .func (.func 154) #[] #[.pointer (some ⟨g, 0, none⟩)]] w fun e w' => e = .returned (.bool (!allB (snkOk p) p.sink.length)) ∧ w' = w := by
 have H := lh (snkF_any v p.sink g p.parent.length a' cap' w h hm hc)
 have e := ix_snk p
 obtain ⟨X, hX⟩ : ∃ X, X = ix (fun i => !inB (iv p.sink i) 0 ((p.parent.length : Int) - 1)) p.sink.length := ⟨_, rfl⟩
 rw [← hX] at H e
 rw [← e]
 clear hX e hc
 go_enter Tryz.func153, Tryz.ntmps153
 go_wp2_with (go_at_call 187; refine H.out.mono ?_; rintro e w' ⟨rfl, hw'⟩; rw [hw']; clear hw' w')
 go_ret
 exact ⟨rfl, rfl⟩
set_option maxHeartbeats 4000000 in
set_option maxRecDepth 100000 in
theorem implIsWire_any (f : Nat → Value) (p : WireD) (s : Int) (w : World) (h : WireF w w.heap.size f p) : Calls Tryz.prog 118 #[.agg #[f 0, f 1, f 2, f 3], .int .i64 s] w fun e w' => e = .returned (.bool (wireB p s)) ∧ Below w.heap.size w w' := by
 have CN := lh (fun (k : Nat) (w1 : World) (hb : Below w.heap.size w w1) => isWireNode_any f p k w1 (h.up hb))
 obtain ⟨x0, x1, x2, x3⟩ := h
 have H0 := lh x0; have H1 := lh x1; have H2 := lh x2; have H3 := lh x3
 obtain ⟨a0, c0, e0⟩ := x0.slice; obtain ⟨a1, c1, e1⟩ := x1.slice; obtain ⟨a2, c2, e2⟩ := x2.slice; obtain ⟨a3, c3, e3⟩ := x3.slice
 rw [e0] at H0; rw [e1] at H1; rw [e2] at H2; rw [e3] at H3
 rw [e0, e1, e2, e3] at CN
 rw [e0, e1, e2, e3]
 clear e0 e1 e2 e3 x0 x1 x2 x3
 obtain ⟨n, hn⟩ : ∃ n, n = p.parent.length := ⟨_, rfl⟩
 obtain ⟨n1, hn1⟩ : ∃ n, n = p.res.length := ⟨_, rfl⟩
 obtain ⟨n2, hn2⟩ : ∃ n, n = p.cap.length := ⟨_, rfl⟩
 obtain ⟨n3, hn3⟩ : ∃ n, n = p.sink.length := ⟨_, rfl⟩
 have l0 := H0.out.1; have l1 := H1.out.1; have l2 := H2.out.1; have l3 := H3.out.1
 rw [← hn] at l0; rw [← hn1] at l1; rw [← hn2] at l2; rw [← hn3] at l3
 cases hl : lensB p s
 ·have hQ := lh (wire_lens hl)
  simp only [lensB, Bool.and_eq_false_iff, decide_eq_false_iff_not, ← hn, ← hn1, ← hn2, ← hn3] at hl
  rw [← hn, ← hn1, ← hn2, ← hn3]
  clear hn hn1 hn2 hn3 H0 H1 H2 H3 CN
  rw [hQ.out]
  clear hQ
  by_cases k0 : n < 1
  ·have z00 : decide ((n : Int) < 1) = true := by simp; omega
   have z01 : ((n : Int) == 0) = true := by simp; omega
   clear hl
   go_enter Tryz.func118, Tryz.ntmps118
   go_wp2
   go_ret
   exact ⟨rfl, eX⟩
  have z00 : decide ((n : Int) < 1) = false := by simp; omega
  have z01 : ((n : Int) == 0) = false := by simp; omega
  by_cases k1 : 8 < n
  ·have z10 : decide (8 < (n : Int)) = true := by simp; omega
   clear hl
   go_enter Tryz.func118, Tryz.ntmps118
   go_wp2
   go_ret
   exact ⟨rfl, eX⟩
  have z10 : decide (8 < (n : Int)) = false := by simp; omega
  by_cases k2 : ¬ n1 = n
  ·have z20 : (!((n1 : Int) == (n : Int))) = true := by simp; omega
   have z21 : ((n1 : Int) == (n : Int)) = false := by simp; omega
   clear hl
   go_enter Tryz.func118, Tryz.ntmps118
   go_wp2
   go_ret
   exact ⟨rfl, eX⟩
  have z20 : (!((n1 : Int) == (n : Int))) = false := by simp; omega
  have z21 : ((n1 : Int) == (n : Int)) = true := by simp; omega
  by_cases k3 : ¬ n2 = n
  ·have z30 : (!((n2 : Int) == (n : Int))) = true := by simp; omega
   have z31 : ((n2 : Int) == (n : Int)) = false := by simp; omega
   clear hl
   go_enter Tryz.func118, Tryz.ntmps118
   go_wp2
   go_ret
   exact ⟨rfl, eX⟩
  have z30 : (!((n2 : Int) == (n : Int))) = false := by simp; omega
  have z31 : ((n2 : Int) == (n : Int)) = true := by simp; omega
  by_cases k4 : ¬ (n3 : Int) = s
  ·have z40 : (!((n3 : Int) == s)) = true := by simp; omega
   have z41 : ((n3 : Int) == s) = false := by simp; omega
   clear hl
   go_enter Tryz.func118, Tryz.ntmps118
   go_wp2
   go_ret
   exact ⟨rfl, eX⟩
  exact absurd hl (by omega)
 ·have hw := lh hl
  have ⟨t0, t1, t2, t3, t4⟩ := lens_get hl
  clear hl
  have HN := lh hn; have HN3 := lh hn3
  have HN1 := lh (hn.trans t2.symm); have HN2 := lh (hn.trans t3.symm)
  rw [← hn1, ← hn] at t2; rw [← hn2, ← hn] at t3; rw [← hn3] at t4
  rw [← hn] at t0 t1
  rw [← hn] at H0; rw [← hn1] at H1; rw [← hn2] at H2; rw [← hn3] at H3
  rw [← hn, ← hn1, ← hn2, ← hn3] at CN ⊢
  clear hn hn1 hn2 hn3
  rw [t2, t3] at CN
  rw [t2] at H1; rw [t3] at H2
  rw [t2, t3]
  clear t2 t3 l1 l2 n1 n2
  subst t4
  have z0 : decide ((n : Int) < 1) = false := by simp; omega
  have z0' : ((n : Int) == 0) = false := by simp; omega
  have z1 : decide (8 < (n : Int)) = false := by simp; omega
  go_enter Tryz.func118, Tryz.ntmps118
  go_wp2
  go_loopw [6, 38] (fun _ i wr => ∃ k : Nat, k ≤ n ∧ i = .int .i64 k ∧ Hid (∀ j, j < k → nodeOk p j = true) ∧ Below w.heap.size w wr ∧ w.heap.size < wr.heap.size ∧ wr.cell? ⟨w.heap.size, 0, none⟩ = some (.slice a0 n c0) ∧ wr.cell? ⟨w.heap.size, 1, none⟩ = some (.slice a1 n c1) ∧ wr.cell? ⟨w.heap.size, 2, none⟩ = some (.slice a2 n c2) ∧ wr.cell? ⟨w.heap.size, 3, none⟩ = some (.slice a3 n3 c3)) (fun _ i _ => n - (intOf i).toNat)
  case atStart => exact ⟨0, by omega, rfl, lh (fun j hj => absurd hj (Nat.not_lt_zero j)), eX, by simp, by simp [go_sem], by simp [go_sem], by simp [go_sem], by simp [go_sem]⟩
  case round =>
   obtain ⟨k, hk, rfl, hall, hbw, hlt, r0, r1, r2, r3⟩ := hrel
   by_cases hkn : k < n
   ·have hkp : k < p.parent.length := by have := HN.out; omega
    have i0 : (0 : Int) ≤ (k : Int) := by omega
    have i1 : (k : Int) < (n : Int) := by omega
    have HC := lh (fun (w1 : World) (hb : Below w.heap.size w w1) => CN.out k w1 hb hkn (by first | trivial | rfl) (by first | trivial | rfl))
    cases hc : nodeOk p k
    ·have hQ := lh (wire_node (s := (n3 : Int)) hkp hc)
     rw [hc] at HC
     clear hc
     go_wp2_with (go_at_call 152; refine (HC.out _ eX).mono ?_; rintro e w1 ⟨rfl, hb⟩; have ⟨hc, hf⟩ := bcell hb; have hz := hb.size; (try simp at hz); (try have hz := Nat.lt_of_succ_le hz); (try have y0 := wy w w1); (try have z0 := wz0 w w1); (try have z1 := wz1 w w1); (try have z2 := wz2 w w1); (try have z3 := wz3 w w1); (try have z4 := wz4 w w1); (try have x0 := wz0 wc w1); (try have x1 := wy wc w1))
     rw [hQ.out]
     go_ret
     exact ⟨rfl, eX⟩
    ·have hok := lh (all_next hall.out hc)
     rw [hc] at HC
     clear hc
     go_wp2_with (go_at_call 152; refine (HC.out _ eX).mono ?_; rintro e w1 ⟨rfl, hb⟩; have s0 := cell_keep r0 hb; have s1 := cell_keep r1 hb; have s2 := cell_keep r2 hb; have s3 := cell_keep r3 hb; have hz := hb.size)
     go_roundw
     case rel => exact ⟨k + 1, by omega, by go_num, hok, eX, by omega, by assumption, by assumption, by assumption, by assumption⟩
     case measure => simp [intOf]; omega
   ·obtain rfl : k = n := by omega
    have hI : ¬ (k : Int) < (k : Int) := by omega
    have hno := lh (HN.out ▸ hall.out : ∀ j, j < p.parent.length → nodeOk p j = true)
    have HX := lh (fun (w1 : World) (hb : Below w.heap.size w w1) (hc : w1.cell? ⟨w.heap.size, 0, none⟩ = some (.slice a0 p.parent.length c0)) => snkX_any _ p w.heap.size a0 c0 w1 (H3.out.up hb) (by have := HN.out; omega) hc)
    rw [← HN.out] at HX
    clear hall
    cases hs : allB (snkOk p) p.sink.length
    ·have hQ := lh (show wireB p (n3 : Int) = false by simp [wireB, hs])
     rw [hs] at HX
     clear hs
     go_wp2_with (go_at_call 153; refine (HX.out _ eX (by assumption)).mono ?_; rintro e w1 ⟨rfl, hw1⟩; rw [hw1]; clear hw1 w1)
     rw [hQ.out]
     go_ret
     exact ⟨rfl, eX⟩
    ·have hQ := lh (wire_all (s := (n3 : Int)) hw.out hno.out (allB_get hs))
     rw [hs] at HX
     clear hs
     go_wp2_with (go_at_call 153; refine (HX.out _ eX (by assumption)).mono ?_; rintro e w1 ⟨rfl, hw1⟩; rw [hw1]; clear hw1 w1)
     rw [hQ.out]
     go_ret
     exact ⟨rfl, eX⟩
end Go.Proofs.YtkpfbnffhhmokaaGreat
