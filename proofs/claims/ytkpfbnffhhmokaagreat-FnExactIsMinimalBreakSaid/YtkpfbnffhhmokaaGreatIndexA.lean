/-
The program's indexWith and allDiffer over arcs.
-/
import Derived.Test.YtkpfbnffhhmokaaGreatIndex
namespace Go.Proofs.YtkpfbnffhhmokaaGreat
open Go.ChangeShapes Go.WideShapes Go.ChangeAt Go.RowKit
set_option linter.unusedVariables false
theorem keyOfArc_any (f : Nat → Value) (p : ArcD) (w : World) (h : ArcF w w.heap.size f p) : Calls Tryz.prog 222 #[.agg #[f 0, f 1, f 2, f 3, f 4, f 5]] w fun e w' => e = .returned (.agg #[.int .i64 p.kind, .int .i64 p.src, .int .i64 p.dst]) ∧ Below w.heap.size w w' := by
 obtain ⟨e0, e1, e2, e3, x4, x5⟩ := h
 obtain ⟨p4, q4, e4⟩ := x4.slice; obtain ⟨p5, q5, e5⟩ := x5.slice
 rw [e0, e1, e2, e3, e4, e5]
 clear e0 e1 e2 e3 e4 e5 x4 x5
 go_enter Tryz.func222, Tryz.ntmps222
 go_wp2
 exact bodyPost_ret (v := .agg #[.int .i64 p.kind, .int .i64 p.src, .int .i64 p.dst]) (by simp [results, Tryz.results222, go_sem, *]) rfl ⟨rfl, eX⟩
set_option maxHeartbeats 2000000 in
theorem ixArC_any (f : Nat → Value) (p : ArcD) (g1 g2 : Nat) (k1 k2 k3 : Int) (w : World) (h : ArcF w w.heap.size f p) (h1 : w.cell? ⟨g1, 0, none⟩ = some (.func (.func 222) #[] #[])) (h2 : w.cell? ⟨g2, 0, none⟩ = some (.int .i64 k1)) (h3 : w.cell? ⟨g2, 1, none⟩ = some (.int .i64 k2)) (h4 : w.cell? ⟨g2, 2, none⟩ = some (.int .i64 k3)) :
  Calls Tryz.prog 247 #[.agg #[f 0, f 1, f 2, f 3, f 4, f 5], .pointer (some ⟨g1, 0, none⟩), .pointer (some ⟨g2, 0, none⟩)] w fun e w' => e = .returned (.bool ((p.kind == k1 && (p.src == k2 && p.dst == k3)))) ∧ Below w.heap.size w w' := by
 have l1 := cell_lt h1
 have l2 := cell_lt h2
 have HP := lh h
 obtain ⟨e0, e1, e2, e3, x4, x5⟩ := h
 obtain ⟨p4, q4, e4⟩ := x4.slice; obtain ⟨p5, q5, e5⟩ := x5.slice
 rw [e4] at x4; rw [e5] at x5
 rw [e0, e1, e2, e3, e4, e5]
 have HP := lh (show ArcF w w.heap.size (vec [.int .i64 p.kind, .int .i64 p.src, .int .i64 p.dst, .int .i64 p.sense, .slice p4 p.delay.length q4, .slice p5 p.slew.length q5]) p from ⟨rfl, rfl, rfl, rfl, x4, x5⟩)
 clear e0 e1 e2 e3 e4 e5 x4 x5
 cases c0 : (p.kind == k1)
 ·go_enter Tryz.func247, Tryz.ntmps247
  go_wp2
  go_region_held3 (fun w' => w'.cell? ⟨w.heap.size, 0, none⟩ = some (.int .i64 p.kind) ∧ w'.cell? ⟨w.heap.size, 1, none⟩ = some (.int .i64 p.src) ∧ w'.cell? ⟨w.heap.size, 2, none⟩ = some (.int .i64 p.dst) ∧ w'.cell? ⟨w.heap.size, 3, none⟩ = some (.int .i64 p.sense) ∧ w'.cell? ⟨w.heap.size, 4, none⟩ = some (.slice p4 p.delay.length q4) ∧ w'.cell? ⟨w.heap.size, 5, none⟩ = some (.slice p5 p.slew.length q5) ∧ w'.cell? ⟨g1, 0, none⟩ = some (.func (.func 222) #[] #[]) ∧ w'.cell? ⟨g2, 0, none⟩ = some (.int .i64 k1) ∧ w'.cell? ⟨g2, 1, none⟩ = some (.int .i64 k2) ∧ w'.cell? ⟨g2, 2, none⟩ = some (.int .i64 k3) ∧ Below w.heap.size w w' ∧ w.heap.size < w'.heap.size) (first | exact (Hid.out (by assumption)) | exact keep10 (Hid.out (by assumption)) ((Below.refl _ _).alloc (Nat.le_refl _) _) | exact keep10s (keep10s (Hid.out (by assumption))) | exact keep10s (Hid.out (by assumption)) | ((repeat' apply And.intro) <;> first | assumption | ((exact eX); done) | (simp [go_sem]; done) | (simp [go_sem, *]; done) | (simp; omega) | omega)) (first | ((go_at_call 222; refine (keyOfArc_any (vec [.int .i64 p.kind, .int .i64 p.src, .int .i64 p.dst, .int .i64 p.sense, .slice p4 p.delay.length q4, .slice p5 p.slew.length q5]) p _ (HP.out.up eX)).mono ?_; rintro e w1 ⟨rfl, hb⟩; have ⟨hc, hf⟩ := bcell hb; have hz := hb.size; (try simp at hz); (try have hz := Nat.lt_of_succ_le hz); (try have y0 := wy w w1); (try have z0 := wz0 w w1); (try have z1 := wz1 w w1); (try have z2 := wz2 w w1); (try have z3 := wz3 w w1); (try have z4 := wz4 w w1); (try have x0 := wz0 wc w1); (try have x1 := wy wc w1)); have hS := lh (keep10 (by assumption) hb); have zL := (Hid.out hS).2.2.2.2.2.2.2.2.2.2.2))
  all_goals
   go_wp2_with fail
   go_ret
   exact ⟨rfl, eX⟩
 ·cases c1 : (p.src == k2)
  ·go_enter Tryz.func247, Tryz.ntmps247
   go_wp2
   go_region_held3 (fun w' => w'.cell? ⟨w.heap.size, 0, none⟩ = some (.int .i64 p.kind) ∧ w'.cell? ⟨w.heap.size, 1, none⟩ = some (.int .i64 p.src) ∧ w'.cell? ⟨w.heap.size, 2, none⟩ = some (.int .i64 p.dst) ∧ w'.cell? ⟨w.heap.size, 3, none⟩ = some (.int .i64 p.sense) ∧ w'.cell? ⟨w.heap.size, 4, none⟩ = some (.slice p4 p.delay.length q4) ∧ w'.cell? ⟨w.heap.size, 5, none⟩ = some (.slice p5 p.slew.length q5) ∧ w'.cell? ⟨g1, 0, none⟩ = some (.func (.func 222) #[] #[]) ∧ w'.cell? ⟨g2, 0, none⟩ = some (.int .i64 k1) ∧ w'.cell? ⟨g2, 1, none⟩ = some (.int .i64 k2) ∧ w'.cell? ⟨g2, 2, none⟩ = some (.int .i64 k3) ∧ Below w.heap.size w w' ∧ w.heap.size < w'.heap.size) (first | exact (Hid.out (by assumption)) | exact keep10 (Hid.out (by assumption)) ((Below.refl _ _).alloc (Nat.le_refl _) _) | exact keep10s (keep10s (Hid.out (by assumption))) | exact keep10s (Hid.out (by assumption)) | ((repeat' apply And.intro) <;> first | assumption | ((exact eX); done) | (simp [go_sem]; done) | (simp [go_sem, *]; done) | (simp; omega) | omega)) (first | ((go_at_call 222; refine (keyOfArc_any (vec [.int .i64 p.kind, .int .i64 p.src, .int .i64 p.dst, .int .i64 p.sense, .slice p4 p.delay.length q4, .slice p5 p.slew.length q5]) p _ (HP.out.up eX)).mono ?_; rintro e w1 ⟨rfl, hb⟩; have ⟨hc, hf⟩ := bcell hb; have hz := hb.size; (try simp at hz); (try have hz := Nat.lt_of_succ_le hz); (try have y0 := wy w w1); (try have z0 := wz0 w w1); (try have z1 := wz1 w w1); (try have z2 := wz2 w w1); (try have z3 := wz3 w w1); (try have z4 := wz4 w w1); (try have x0 := wz0 wc w1); (try have x1 := wy wc w1)); have hS := lh (keep10 (by assumption) hb); have zL := (Hid.out hS).2.2.2.2.2.2.2.2.2.2.2))
   all_goals
    go_wp2_with fail
    go_ret
    exact ⟨rfl, eX⟩
  ·cases c2 : (p.dst == k3)
   ·go_enter Tryz.func247, Tryz.ntmps247
    go_wp2
    go_region_held3 (fun w' => w'.cell? ⟨w.heap.size, 0, none⟩ = some (.int .i64 p.kind) ∧ w'.cell? ⟨w.heap.size, 1, none⟩ = some (.int .i64 p.src) ∧ w'.cell? ⟨w.heap.size, 2, none⟩ = some (.int .i64 p.dst) ∧ w'.cell? ⟨w.heap.size, 3, none⟩ = some (.int .i64 p.sense) ∧ w'.cell? ⟨w.heap.size, 4, none⟩ = some (.slice p4 p.delay.length q4) ∧ w'.cell? ⟨w.heap.size, 5, none⟩ = some (.slice p5 p.slew.length q5) ∧ w'.cell? ⟨g1, 0, none⟩ = some (.func (.func 222) #[] #[]) ∧ w'.cell? ⟨g2, 0, none⟩ = some (.int .i64 k1) ∧ w'.cell? ⟨g2, 1, none⟩ = some (.int .i64 k2) ∧ w'.cell? ⟨g2, 2, none⟩ = some (.int .i64 k3) ∧ Below w.heap.size w w' ∧ w.heap.size < w'.heap.size) (first | exact (Hid.out (by assumption)) | exact keep10 (Hid.out (by assumption)) ((Below.refl _ _).alloc (Nat.le_refl _) _) | exact keep10s (keep10s (Hid.out (by assumption))) | exact keep10s (Hid.out (by assumption)) | ((repeat' apply And.intro) <;> first | assumption | ((exact eX); done) | (simp [go_sem]; done) | (simp [go_sem, *]; done) | (simp; omega) | omega)) (first | ((go_at_call 222; refine (keyOfArc_any (vec [.int .i64 p.kind, .int .i64 p.src, .int .i64 p.dst, .int .i64 p.sense, .slice p4 p.delay.length q4, .slice p5 p.slew.length q5]) p _ (HP.out.up eX)).mono ?_; rintro e w1 ⟨rfl, hb⟩; have ⟨hc, hf⟩ := bcell hb; have hz := hb.size; (try simp at hz); (try have hz := Nat.lt_of_succ_le hz); (try have y0 := wy w w1); (try have z0 := wz0 w w1); (try have z1 := wz1 w w1); (try have z2 := wz2 w w1); (try have z3 := wz3 w w1); (try have z4 := wz4 w w1); (try have x0 := wz0 wc w1); (try have x1 := wy wc w1)); have hS := lh (keep10 (by assumption) hb); have zL := (Hid.out hS).2.2.2.2.2.2.2.2.2.2.2))
    all_goals
     go_wp2_with fail
     go_ret
     exact ⟨rfl, eX⟩
   ·go_enter Tryz.func247, Tryz.ntmps247
    go_wp2
    go_region_held3 (fun w' => w'.cell? ⟨w.heap.size, 0, none⟩ = some (.int .i64 p.kind) ∧ w'.cell? ⟨w.heap.size, 1, none⟩ = some (.int .i64 p.src) ∧ w'.cell? ⟨w.heap.size, 2, none⟩ = some (.int .i64 p.dst) ∧ w'.cell? ⟨w.heap.size, 3, none⟩ = some (.int .i64 p.sense) ∧ w'.cell? ⟨w.heap.size, 4, none⟩ = some (.slice p4 p.delay.length q4) ∧ w'.cell? ⟨w.heap.size, 5, none⟩ = some (.slice p5 p.slew.length q5) ∧ w'.cell? ⟨g1, 0, none⟩ = some (.func (.func 222) #[] #[]) ∧ w'.cell? ⟨g2, 0, none⟩ = some (.int .i64 k1) ∧ w'.cell? ⟨g2, 1, none⟩ = some (.int .i64 k2) ∧ w'.cell? ⟨g2, 2, none⟩ = some (.int .i64 k3) ∧ Below w.heap.size w w' ∧ w.heap.size < w'.heap.size) (first | exact (Hid.out (by assumption)) | exact keep10 (Hid.out (by assumption)) ((Below.refl _ _).alloc (Nat.le_refl _) _) | exact keep10s (keep10s (Hid.out (by assumption))) | exact keep10s (Hid.out (by assumption)) | ((repeat' apply And.intro) <;> first | assumption | ((exact eX); done) | (simp [go_sem]; done) | (simp [go_sem, *]; done) | (simp; omega) | omega)) (first | ((go_at_call 222; refine (keyOfArc_any (vec [.int .i64 p.kind, .int .i64 p.src, .int .i64 p.dst, .int .i64 p.sense, .slice p4 p.delay.length q4, .slice p5 p.slew.length q5]) p _ (HP.out.up eX)).mono ?_; rintro e w1 ⟨rfl, hb⟩; have ⟨hc, hf⟩ := bcell hb; have hz := hb.size; (try simp at hz); (try have hz := Nat.lt_of_succ_le hz); (try have y0 := wy w w1); (try have z0 := wz0 w w1); (try have z1 := wz1 w w1); (try have z2 := wz2 w w1); (try have z3 := wz3 w w1); (try have z4 := wz4 w w1); (try have x0 := wz0 wc w1); (try have x1 := wy wc w1)); have hS := lh (keep10 (by assumption) hb); have zL := (Hid.out hS).2.2.2.2.2.2.2.2.2.2.2))
    all_goals
     go_wp2_with fail
     go_ret
     exact ⟨rfl, eX⟩
set_option maxHeartbeats 2000000 in
theorem ixArF_any (v : Value) (ps : List ArcD) (g1 g2 : Nat) (k1 k2 k3 : Int) (w : World) (h : ArcsS w w.heap.size v ps) (h1 : w.cell? ⟨g1, 0, none⟩ = some (.func (.func 222) #[] #[])) (h2 : w.cell? ⟨g2, 0, none⟩ = some (.int .i64 k1)) (h3 : w.cell? ⟨g2, 1, none⟩ = some (.int .i64 k2)) (h4 : w.cell? ⟨g2, 2, none⟩ = some (.int .i64 k3)) :
  Calls Tryz.prog 246 #[v, .func (.func 247) #[] #[.pointer (some ⟨g1, 0, none⟩), .pointer (some ⟨g2, 0, none⟩)]] w fun e w' => e = .returned (.int .i64 (ix (fun i => ((an ps i).kind == k1 && ((an ps i).src == k2 && (an ps i).dst == k3))) ps.length)) ∧ Below w.heap.size w w' := by
 obtain ⟨F, hc, hf⟩ := h
 obtain ⟨n, hnn⟩ : ∃ n, n = ps.length := ⟨_, rfl⟩
 rw [← hnn] at hc hf ⊢
 have HC := hc
 obtain ⟨hn, a, cap, rfl, _⟩ := hc
 have HC := lh HC; have HF := lh hf; have HN := lh hnn
 clear hf hnn
 go_enter Tryz.func246, Tryz.ntmps246
 go_wp2
 go_loopw [5, 8] (fun _ i wr => ∃ k : Nat, k ≤ n ∧ i = .int .i64 k ∧ Hid (∀ j, j < k → (((an ps j).kind == k1 && ((an ps j).src == k2 && (an ps j).dst == k3))) = false) ∧ Below w.heap.size w wr) (fun _ i _ => n - (intOf i).toNat)
 case atStart => exact ⟨0, by omega, rfl, lh (fun j hj => absurd hj (Nat.not_lt_zero j)), eX⟩
 case round =>
  obtain ⟨k, hk, rfl, hall, hbw⟩ := hrel
  by_cases hkn : k < n
  ·obtain ⟨b, off, rfl, hlt, hx⟩ := HC.out.at hbw hkn
   have y0 := hx 0 (by omega)
   have y1 := hx 1 (by omega)
   have y2 := hx 2 (by omega)
   have y3 := hx 3 (by omega)
   have y4 := hx 4 (by omega)
   have y5 := hx 5 (by omega)
   simp only [Nat.add_zero] at y0
   have hI : (k : Int) < (n : Int) := by omega
   have i0 : (0 : Int) ≤ (k : Int) := by omega
   have HQ := lh (ixArC_any (F k) (an ps k) g1 g2 k1 k2 k3 wr ((HF.out k hkn).up hbw) (cell_keep h1 hbw) (cell_keep h2 hbw) (cell_keep h3 hbw) (cell_keep h4 hbw))
   clear hx h1 h2 h3 h4
   cases hd : (((an ps k).kind == k1 && ((an ps k).src == k2 && (an ps k).dst == k3)))
   ·have hok := lh (all_more hall.out hd)
    rw [hd] at HQ
    clear hd
    go_wp2_with (go_at_call 247; refine (HQ.out).mono ?_; rintro e w1 ⟨rfl, hb⟩; have ⟨hc, hf⟩ := bcell hb; have hz := hb.size; (try simp at hz); (try have hz := Nat.lt_of_succ_le hz); (try have y0 := wy w w1); (try have z0 := wz0 w w1); (try have z1 := wz1 w w1); (try have z2 := wz2 w w1); (try have z3 := wz3 w w1); (try have z4 := wz4 w w1); (try have x0 := wz0 wc w1); (try have x1 := wy wc w1))
    go_roundw
    case rel => exact ⟨k + 1, by omega, by go_num, hok, eX⟩
    case measure => simp [intOf]; omega
   ·have hok := lh (ix_at (q := fun i => ((an ps i).kind == k1 && ((an ps i).src == k2 && (an ps i).dst == k3))) hkn hd hall.out)
    rw [hd] at HQ
    clear hd
    go_wp2_with (go_at_call 247; refine (HQ.out).mono ?_; rintro e w1 ⟨rfl, hb⟩; have ⟨hc, hf⟩ := bcell hb; have hz := hb.size; (try simp at hz); (try have hz := Nat.lt_of_succ_le hz); (try have y0 := wy w w1); (try have z0 := wz0 w w1); (try have z1 := wz1 w w1); (try have z2 := wz2 w w1); (try have z3 := wz3 w w1); (try have z4 := wz4 w w1); (try have x0 := wz0 wc w1); (try have x1 := wy wc w1))
    rw [hok.out]
    go_ret
    exact ⟨rfl, eX⟩
  ·obtain rfl : k = n := by omega
   have hok := lh (ix_none (q := fun i => ((an ps i).kind == k1 && ((an ps i).src == k2 && (an ps i).dst == k3))) hall.out)
   have hI : ¬ (k : Int) < (k : Int) := by omega
   go_wp2
   rw [hok.out]
   go_ret
   exact ⟨rfl, hbw⟩
theorem ixAr_any (v : Value) (ps : List ArcD) (k1 k2 k3 : Int) (w : World) (h : ArcsS w w.heap.size v ps) :
  Calls Tryz.prog 233 #[v, .func (.func 222) #[] #[], .agg #[.int .i64 k1, .int .i64 k2, .int .i64 k3]] w fun e w' => e = .returned (.int .i64 (ix (fun i => ((an ps i).kind == k1 && ((an ps i).src == k2 && (an ps i).dst == k3))) ps.length)) ∧ Below w.heap.size w w' := by
 have H := lh h
 obtain ⟨p, q, rfl⟩ := h.slice
 clear h
 go_enter Tryz.func233, Tryz.ntmps233
 go_wp2_with fail
 (go_at_call 246; refine (ixArF_any _ ps w.heap.size (w.heap.size + 1) k1 k2 k3 _ (H.out.up eX) (by simp [go_sem]) (by simp [go_sem]) (by simp [go_sem]) (by simp [go_sem])).mono ?_; rintro e w1 ⟨rfl, hb⟩; have ⟨hc, hf⟩ := bcell hb; have hz := hb.size; (try simp at hz); (try have hz := Nat.lt_of_succ_le hz); (try have y0 := wy w w1); (try have z0 := wz0 w w1); (try have z1 := wz1 w w1); (try have z2 := wz2 w w1); (try have z3 := wz3 w w1); (try have z4 := wz4 w w1))
 go_wp2_with fail
 go_ret
 exact ⟨rfl, eX⟩
def difAr (ps : List ArcD) (k : Nat) : Bool := allB (fun j => !(((an ps j).kind == (an ps k).kind && ((an ps j).src == (an ps k).src && (an ps j).dst == (an ps k).dst)))) k
set_option maxHeartbeats 2000000 in
theorem difAr_any (v : Value) (ps : List ArcD) (w : World) (h : ArcsS w w.heap.size v ps) :
  Calls Tryz.prog 221 #[v, .func (.func 222) #[] #[]] w fun e w' => e = .returned (.bool (allB (difAr ps) ps.length)) ∧ Below w.heap.size w w' := by
 have H := lh h
 obtain ⟨F, hc, hf⟩ := h
 obtain ⟨n, hnn⟩ : ∃ n, n = ps.length := ⟨_, rfl⟩
 rw [← hnn] at hc hf ⊢
 have HC := hc
 obtain ⟨hn, a, cap, rfl, _⟩ := hc
 have HC := lh HC; have HF := lh hf; have HN := lh hnn
 clear hf hnn
 go_enter Tryz.func221, Tryz.ntmps221
 go_wp2
 go_loopw [9] (fun i wr => ∃ k : Nat, k ≤ n ∧ i = .int .i64 k ∧ Hid (∀ j, j < k → difAr ps j = true) ∧ Below w.heap.size w wr) (fun i _ => n - (intOf i).toNat)
 case atStart => exact ⟨0, by omega, rfl, lh (fun j hj => absurd hj (Nat.not_lt_zero j)), eX⟩
 case round =>
  obtain ⟨k, hk, rfl, hall, hbw⟩ := hrel
  by_cases hkn : k < n
  ·obtain ⟨b, off, rfl, hlt, hx⟩ := HC.out.at hbw hkn
   have y0 := hx 0 (by omega)
   have y1 := hx 1 (by omega)
   have y2 := hx 2 (by omega)
   have y3 := hx 3 (by omega)
   have y4 := hx 4 (by omega)
   have y5 := hx 5 (by omega)
   simp only [Nat.add_zero] at y0
   have hI : (k : Int) < (n : Int) := by omega
   have i0 : (0 : Int) ≤ (k : Int) := by omega
   clear hx
   have ⟨e0, e1, e2, e3, x4, x5⟩ := (HF.out k hkn).up hbw
   obtain ⟨p4, q4, e4⟩ := x4.slice; obtain ⟨p5, q5, e5⟩ := x5.slice
   rw [e4] at x4; rw [e5] at x5
   rw [e0] at y0; rw [e1] at y1; rw [e2] at y2; rw [e3] at y3; rw [e4] at y4; rw [e5] at y5
   have HA := lh (show ArcF wr wr.heap.size (vec [.int .i64 (an ps k).kind, .int .i64 (an ps k).src, .int .i64 (an ps k).dst, .int .i64 (an ps k).sense, .slice p4 (an ps k).delay.length q4, .slice p5 (an ps k).slew.length q5]) (an ps k) from ⟨rfl, rfl, rfl, rfl, x4, x5⟩)
   clear e0 e1 e2 e3 e4 e5 x4 x5
   obtain ⟨X, hX⟩ : ∃ X, X = ix (fun i => ((an ps i).kind == (an ps k).kind && ((an ps i).src == (an ps k).src && (an ps i).dst == (an ps k).dst))) n := ⟨_, rfl⟩
   have HQ := lh (fun (w1 : World) (hb : Below w.heap.size w w1) => ixAr_any _ ps (an ps k).kind (an ps k).src (an ps k).dst w1 (H.out.up hb))
   rw [← HN.out, ← hX] at HQ
   cases hd : difAr ps k
   ·have hQ := lh (allB_no hkn hd)
    have hne : ¬ X = (k : Int) := by
     intro hc
     rw [hX] at hc
     have := ix_is hkn hc
     unfold difAr at hd
     rw [allB_yes (fun j hj => by rw [this j hj]; rfl)] at hd
     cases hd
    have hne' : (X != (k : Int)) = true := by simpa using hne
    clear hd hX
    go_wp2_with (first | (go_at_call 222; refine (keyOfArc_any (vec [.int .i64 (an ps k).kind, .int .i64 (an ps k).src, .int .i64 (an ps k).dst, .int .i64 (an ps k).sense, .slice p4 (an ps k).delay.length q4, .slice p5 (an ps k).slew.length q5]) (an ps k) _ (HA.out.up eX)).mono ?_; rintro e w1 ⟨rfl, hb⟩; have ⟨hc, hf⟩ := bcell hb; have hz := hb.size; (try simp at hz); (try have hz := Nat.lt_of_succ_le hz); (try have y0 := wy w w1); (try have z0 := wz0 w w1); (try have z1 := wz1 w w1); (try have z2 := wz2 w w1); (try have z3 := wz3 w w1); (try have z4 := wz4 w w1); (try have x0 := wz0 wc w1); (try have x1 := wy wc w1)) | (go_at_call 233; refine (HQ.out _ eX).mono ?_; rintro e w1 ⟨rfl, hb⟩; have ⟨hc, hf⟩ := bcell hb; have hz := hb.size; (try simp at hz); (try have hz := Nat.lt_of_succ_le hz); (try have y0 := wy w w1); (try have z0 := wz0 w w1); (try have z1 := wz1 w w1); (try have z2 := wz2 w w1); (try have z3 := wz3 w w1); (try have z4 := wz4 w w1); (try have x0 := wz0 wc w1); (try have x1 := wy wc w1)))
    rw [hQ.out]
    go_ret
    exact ⟨rfl, eX⟩
   ·have hok := lh (all_more hall.out hd)
    obtain rfl : X = (k : Int) := by
     rw [hX]
     refine ix_at hkn (by simp) (fun j hj => ?_)
     have := allB_get hd j hj
     first | simpa using this | (simp only [Bool.not_eq_true'] at this; exact this)
    clear hd hX
    go_wp2_with (first | (go_at_call 222; refine (keyOfArc_any (vec [.int .i64 (an ps k).kind, .int .i64 (an ps k).src, .int .i64 (an ps k).dst, .int .i64 (an ps k).sense, .slice p4 (an ps k).delay.length q4, .slice p5 (an ps k).slew.length q5]) (an ps k) _ (HA.out.up eX)).mono ?_; rintro e w1 ⟨rfl, hb⟩; have ⟨hc, hf⟩ := bcell hb; have hz := hb.size; (try simp at hz); (try have hz := Nat.lt_of_succ_le hz); (try have y0 := wy w w1); (try have z0 := wz0 w w1); (try have z1 := wz1 w w1); (try have z2 := wz2 w w1); (try have z3 := wz3 w w1); (try have z4 := wz4 w w1); (try have x0 := wz0 wc w1); (try have x1 := wy wc w1)) | (go_at_call 233; refine (HQ.out _ eX).mono ?_; rintro e w1 ⟨rfl, hb⟩; have ⟨hc, hf⟩ := bcell hb; have hz := hb.size; (try simp at hz); (try have hz := Nat.lt_of_succ_le hz); (try have y0 := wy w w1); (try have z0 := wz0 w w1); (try have z1 := wz1 w w1); (try have z2 := wz2 w w1); (try have z3 := wz3 w w1); (try have z4 := wz4 w w1); (try have x0 := wz0 wc w1); (try have x1 := wy wc w1)))
    go_roundw
    case rel => exact ⟨k + 1, by omega, by go_num, hok, eX⟩
    case measure => simp [intOf]; omega
  ·obtain rfl : k = n := by omega
   have hok := lh (allB_yes (p := difAr ps) hall.out)
   have hI : ¬ (k : Int) < (k : Int) := by omega
   go_wp2
   rw [hok.out]
   go_ret
   exact ⟨rfl, hbw⟩
end Go.Proofs.YtkpfbnffhhmokaaGreat
