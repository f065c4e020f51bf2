/-
The program's indexWith and allDiffer over instances, names of nets and ports.
-/
import Derived.Test.YtkpfbnffhhmokaaGreatIndex
import Derived.Test.YtkpfbnffhhmokaaGreatDes
namespace Go.Proofs.YtkpfbnffhhmokaaGreat
open Go.ChangeShapes Go.WideShapes Go.ChangeAt Go.RowKit
set_option linter.unusedVariables false
set_option linter.unusedSimpArgs false
theorem keep5 {w w0 w1 : World} {L g0 g1 g2 g3 g4 o0 o1 o2 o3 o4 : Nat} {v0 v1 v2 v3 v4 : Value} (h : w0.cell? ⟨g0, o0, none⟩ = some v0 ∧ w0.cell? ⟨g1, o1, none⟩ = some v1 ∧ w0.cell? ⟨g2, o2, none⟩ = some v2 ∧ w0.cell? ⟨g3, o3, none⟩ = some v3 ∧ w0.cell? ⟨g4, o4, none⟩ = some v4 ∧ Below w.heap.size w w0 ∧ L < w0.heap.size) (hb : Below w0.heap.size w0 w1) : w1.cell? ⟨g0, o0, none⟩ = some v0 ∧ w1.cell? ⟨g1, o1, none⟩ = some v1 ∧ w1.cell? ⟨g2, o2, none⟩ = some v2 ∧ w1.cell? ⟨g3, o3, none⟩ = some v3 ∧ w1.cell? ⟨g4, o4, none⟩ = some v4 ∧ Below w.heap.size w w1 ∧ L < w1.heap.size := by
 obtain ⟨h0, h1, h2, h3, h4, hw, hL⟩ := h
 exact ⟨cell_keep h0 hb, cell_keep h1 hb, cell_keep h2 hb, cell_keep h3 hb, cell_keep h4 hb, ext_trans hw hb, Nat.lt_of_lt_of_le hL hb.size⟩
theorem keep5s {w w0 : World} {L g0 g1 g2 g3 g4 o0 o1 o2 o3 o4 : Nat} {v0 v1 v2 v3 v4 : Value} {p : Addr} {u : Value} (h : w0.cell? ⟨g0, o0, none⟩ = some v0 ∧ w0.cell? ⟨g1, o1, none⟩ = some v1 ∧ w0.cell? ⟨g2, o2, none⟩ = some v2 ∧ w0.cell? ⟨g3, o3, none⟩ = some v3 ∧ w0.cell? ⟨g4, o4, none⟩ = some v4 ∧ Below w.heap.size w w0 ∧ L < w0.heap.size) (hw : w.heap.size ≤ L + 1 := by first | assumption | (simp; done) | (simp; omega) | omega) (hp : L < p.block := by first | assumption | (simp; done) | (simp; omega) | omega) (q0 : g0 ≤ L := by first | assumption | (simp; done) | (simp; omega) | omega) (q1 : g1 ≤ L := by first | assumption | (simp; done) | (simp; omega) | omega) (q2 : g2 ≤ L := by first | assumption | (simp; done) | (simp; omega) | omega) (q3 : g3 ≤ L := by first | assumption | (simp; done) | (simp; omega) | omega) (q4 : g4 ≤ L := by first | assumption | (simp; done) | (simp; omega) | omega) : (w0.setCell p u).cell? ⟨g0, o0, none⟩ = some v0 ∧ (w0.setCell p u).cell? ⟨g1, o1, none⟩ = some v1 ∧ (w0.setCell p u).cell? ⟨g2, o2, none⟩ = some v2 ∧ (w0.setCell p u).cell? ⟨g3, o3, none⟩ = some v3 ∧ (w0.setCell p u).cell? ⟨g4, o4, none⟩ = some v4 ∧ Below w.heap.size w (w0.setCell p u) ∧ L < (w0.setCell p u).heap.size := by
 obtain ⟨h0, h1, h2, h3, h4, hb, hL⟩ := h
 exact ⟨cell_keep_set h0 (by omega), cell_keep_set h1 (by omega), cell_keep_set h2 (by omega), cell_keep_set h3 (by omega), cell_keep_set h4 (by omega), hb.setCell (by omega) u, by simpa [World.setCell] using hL⟩
theorem nameOfInstance_any (f : Nat → Value) (p : InstD) (w : World) (h : InstF w w.heap.size f p) : Calls Tryz.prog 178 #[.agg #[f 0, f 1, f 2]] w fun e w' => e = .returned (.string p.name) ∧ Below w.heap.size w w' := by
 obtain ⟨e0, e1, x2, hs⟩ := h
 obtain ⟨p2, q2, e2⟩ := x2.slice
 rw [e2] at x2
 rw [e0, e1, e2]
 have HP := lh (show InstF w w.heap.size (vec [.string p.name, .int .i64 p.cell, .slice p2 p.nets.length q2]) p from ⟨rfl, rfl, x2, hs⟩)
 clear e0 e1 e2 x2
 go_enter Tryz.func178, Tryz.ntmps178
 go_wp2
 go_ret
 exact ⟨rfl, eX⟩
set_option maxHeartbeats 2000000 in
theorem ixInC_any (f : Nat → Value) (p : InstD) (g1 g2 : Nat) (s : ByteArray) (w : World) (h : InstF w w.heap.size f p) (h1 : w.cell? ⟨g1, 0, none⟩ = some (.func (.func 178) #[] #[])) (h2 : w.cell? ⟨g2, 0, none⟩ = some (.string s)) :
  Calls Tryz.prog 235 #[.agg #[f 0, f 1, f 2], .pointer (some ⟨g1, 0, none⟩), .pointer (some ⟨g2, 0, none⟩)] w fun e w' => e = .returned (.bool (p.name.toList == s.toList)) ∧ Below w.heap.size w w' := by
 have l1 := cell_lt h1
 have l2 := cell_lt h2
 have HP := lh h
 obtain ⟨e0, e1, x2, hs⟩ := h
 obtain ⟨p2, q2, e2⟩ := x2.slice
 rw [e2] at x2
 rw [e0, e1, e2]
 have HP := lh (show InstF w w.heap.size (vec [.string p.name, .int .i64 p.cell, .slice p2 p.nets.length q2]) p from ⟨rfl, rfl, x2, hs⟩)
 clear e0 e1 e2 x2
 go_enter Tryz.func235, Tryz.ntmps235
 go_wp2
 go_region_held3 (fun w' => w'.cell? ⟨w.heap.size, 0, none⟩ = some (.string p.name) ∧ w'.cell? ⟨w.heap.size, 1, none⟩ = some (.int .i64 p.cell) ∧ w'.cell? ⟨w.heap.size, 2, none⟩ = some (.slice p2 p.nets.length q2) ∧ w'.cell? ⟨g1, 0, none⟩ = some (.func (.func 178) #[] #[]) ∧ w'.cell? ⟨g2, 0, none⟩ = some (.string s) ∧ Below w.heap.size w w' ∧ w.heap.size < w'.heap.size) (first | exact (Hid.out (by assumption)) | exact keep5 (Hid.out (by assumption)) ((Below.refl _ _).alloc (Nat.le_refl _) _) | exact keep5s (keep5s (Hid.out (by assumption))) | exact keep5s (Hid.out (by assumption)) | ((repeat' apply And.intro) <;> first | assumption | ((exact eX); done) | (simp [go_sem]; done) | (simp [go_sem, *]; done) | (simp; omega) | omega)) (first | ((go_at_call 178; refine (nameOfInstance_any (vec [.string p.name, .int .i64 p.cell, .slice p2 p.nets.length q2]) p _ (HP.out.up eX)).mono ?_; rintro e w1 ⟨rfl, hb⟩; have ⟨hc, hf⟩ := bcell hb; have hz := hb.size; (try simp at hz); (try have hz := Nat.lt_of_succ_le hz); (try have y0 := wy w w1); (try have z0 := wz0 w w1); (try have z1 := wz1 w w1); (try have z2 := wz2 w w1); (try have z3 := wz3 w w1); (try have z4 := wz4 w w1); (try have x0 := wz0 wc w1); (try have x1 := wy wc w1)); have hS := lh (keep5 (by assumption) hb); have zL := (Hid.out hS).2.2.2.2.2.2))
 all_goals
  go_wp2_with fail
  go_ret
  exact ⟨rfl, eX⟩
set_option maxHeartbeats 2000000 in
theorem ixInF_any (v : Value) (ps : List InstD) (g1 g2 : Nat) (s : ByteArray) (w : World) (h : InstsS w w.heap.size v ps) (h1 : w.cell? ⟨g1, 0, none⟩ = some (.func (.func 178) #[] #[])) (h2 : w.cell? ⟨g2, 0, none⟩ = some (.string s)) :
  Calls Tryz.prog 234 #[v, .func (.func 235) #[] #[.pointer (some ⟨g1, 0, none⟩), .pointer (some ⟨g2, 0, none⟩)]] w fun e w' => e = .returned (.int .i64 (ix (fun i => (inn ps i).name.toList == s.toList) ps.length)) ∧ Below w.heap.size w w' := by
 obtain ⟨F, hc, hf⟩ := h
 obtain ⟨n, hnn⟩ : ∃ n, n = ps.length := ⟨_, rfl⟩
 rw [← hnn] at hc hf ⊢
 have HC := hc
 obtain ⟨hn, a, cap, rfl, _⟩ := hc
 have HC := lh HC; have HF := lh hf; have HN := lh hnn
 clear hf hnn
 go_enter Tryz.func234, Tryz.ntmps234
 go_wp2
 go_loopw [5, 8] (fun _ i wr => ∃ k : Nat, k ≤ n ∧ i = .int .i64 k ∧ Hid (∀ j, j < k → ((inn ps j).name.toList == s.toList) = false) ∧ Below w.heap.size w wr) (fun _ i _ => n - (intOf i).toNat)
 case atStart => exact ⟨0, by omega, rfl, lh (fun j hj => absurd hj (Nat.not_lt_zero j)), eX⟩
 case round =>
  obtain ⟨k, hk, rfl, hall, hbw⟩ := hrel
  by_cases hkn : k < n
  ·obtain ⟨b, off, rfl, hlt, hx⟩ := HC.out.at hbw hkn
   have y0 := hx 0 (by omega)
   have y1 := hx 1 (by omega)
   have y2 := hx 2 (by omega)
   simp only [Nat.add_zero] at y0
   have hI : (k : Int) < (n : Int) := by omega
   have i0 : (0 : Int) ≤ (k : Int) := by omega
   have HQ := lh (ixInC_any (F k) (inn ps k) g1 g2 s wr ((HF.out k hkn).up hbw) (cell_keep h1 hbw) (cell_keep h2 hbw))
   clear hx h1 h2
   cases hd : ((inn ps k).name.toList == s.toList)
   ·have hok := lh (all_more hall.out hd)
    rw [hd] at HQ
    clear hd
    go_wp2_with (go_at_call 235; refine (HQ.out).mono ?_; rintro e w1 ⟨rfl, hb⟩; have ⟨hc, hf⟩ := bcell hb; have hz := hb.size; (try simp at hz); (try have hz := Nat.lt_of_succ_le hz); (try have y0 := wy w w1); (try have z0 := wz0 w w1); (try have z1 := wz1 w w1); (try have z2 := wz2 w w1); (try have z3 := wz3 w w1); (try have z4 := wz4 w w1); (try have x0 := wz0 wc w1); (try have x1 := wy wc w1))
    go_roundw
    case rel => exact ⟨k + 1, by omega, by go_num, hok, eX⟩
    case measure => simp [intOf]; omega
   ·have hok := lh (ix_at (q := fun i => (inn ps i).name.toList == s.toList) hkn hd hall.out)
    rw [hd] at HQ
    clear hd
    go_wp2_with (go_at_call 235; refine (HQ.out).mono ?_; rintro e w1 ⟨rfl, hb⟩; have ⟨hc, hf⟩ := bcell hb; have hz := hb.size; (try simp at hz); (try have hz := Nat.lt_of_succ_le hz); (try have y0 := wy w w1); (try have z0 := wz0 w w1); (try have z1 := wz1 w w1); (try have z2 := wz2 w w1); (try have z3 := wz3 w w1); (try have z4 := wz4 w w1); (try have x0 := wz0 wc w1); (try have x1 := wy wc w1))
    rw [hok.out]
    go_ret
    exact ⟨rfl, eX⟩
  ·obtain rfl : k = n := by omega
   have hok := lh (ix_none (q := fun i => (inn ps i).name.toList == s.toList) hall.out)
   have hI : ¬ (k : Int) < (k : Int) := by omega
   go_wp2
   rw [hok.out]
   go_ret
   exact ⟨rfl, hbw⟩
theorem ixIn_any (v : Value) (ps : List InstD) (s : ByteArray) (w : World) (h : InstsS w w.heap.size v ps) :
  Calls Tryz.prog 225 #[v, .func (.func 178) #[] #[], .string s] w fun e w' => e = .returned (.int .i64 (ix (fun i => (inn ps i).name.toList == s.toList) ps.length)) ∧ Below w.heap.size w w' := by
 have H := lh h
 obtain ⟨p, q, rfl⟩ := h.slice
 clear h
 go_enter Tryz.func225, Tryz.ntmps225
 go_wp2_with fail
 (go_at_call 234; refine (ixInF_any _ ps w.heap.size (w.heap.size + 1) s _ (H.out.up eX) (by simp [go_sem]) (by simp [go_sem])).mono ?_; rintro e w1 ⟨rfl, hb⟩; have ⟨hc, hf⟩ := bcell hb; have hz := hb.size; (try simp at hz); (try have hz := Nat.lt_of_succ_le hz); (try have y0 := wy w w1); (try have z0 := wz0 w w1); (try have z1 := wz1 w w1); (try have z2 := wz2 w w1); (try have z3 := wz3 w w1); (try have z4 := wz4 w w1))
 go_wp2_with fail
 go_ret
 exact ⟨rfl, eX⟩
def difIn (ps : List InstD) (k : Nat) : Bool := allB (fun j => !((inn ps j).name.toList == (inn ps k).name.toList)) k
set_option maxHeartbeats 2000000 in
theorem difIn_any (v : Value) (ps : List InstD) (w : World) (h : InstsS w w.heap.size v ps) :
  Calls Tryz.prog 206 #[v, .func (.func 178) #[] #[]] w fun e w' => e = .returned (.bool (allB (difIn ps) ps.length)) ∧ Below w.heap.size w w' := by
 have H := lh h
 obtain ⟨F, hc, hf⟩ := h
 obtain ⟨n, hnn⟩ : ∃ n, n = ps.length := ⟨_, rfl⟩
 rw [← hnn] at hc hf ⊢
 have HC := hc
 obtain ⟨hn, a, cap, rfl, _⟩ := hc
 have HC := lh HC; have HF := lh hf; have HN := lh hnn
 clear hf hnn
 go_enter Tryz.func206, Tryz.ntmps206
 go_wp2
 go_loopw [9] (fun i wr => ∃ k : Nat, k ≤ n ∧ i = .int .i64 k ∧ Hid (∀ j, j < k → difIn ps j = true) ∧ Below w.heap.size w wr) (fun i _ => n - (intOf i).toNat)
 case atStart => exact ⟨0, by omega, rfl, lh (fun j hj => absurd hj (Nat.not_lt_zero j)), eX⟩
 case round =>
  obtain ⟨k, hk, rfl, hall, hbw⟩ := hrel
  by_cases hkn : k < n
  ·obtain ⟨b, off, rfl, hlt, hx⟩ := HC.out.at hbw hkn
   have y0 := hx 0 (by omega)
   have y1 := hx 1 (by omega)
   have y2 := hx 2 (by omega)
   simp only [Nat.add_zero] at y0
   have hI : (k : Int) < (n : Int) := by omega
   have i0 : (0 : Int) ≤ (k : Int) := by omega
   clear hx
   have ⟨e0, e1, x2, hs⟩ := (HF.out k hkn).up hbw
   obtain ⟨p2, q2, e2⟩ := x2.slice
   rw [e2] at x2
   rw [e0] at y0; rw [e1] at y1; rw [e2] at y2
   have HA := lh (show InstF wr wr.heap.size (vec [.string (inn ps k).name, .int .i64 (inn ps k).cell, .slice p2 (inn ps k).nets.length q2]) (inn ps k) from ⟨rfl, rfl, x2, hs⟩)
   clear e0 e1 e2 x2
   obtain ⟨X, hX⟩ : ∃ X, X = ix (fun i => (inn ps i).name.toList == (inn ps k).name.toList) n := ⟨_, rfl⟩
   have HQ := lh (fun (w1 : World) (hb : Below w.heap.size w w1) => ixIn_any _ ps (inn ps k).name w1 (H.out.up hb))
   rw [← HN.out, ← hX] at HQ
   cases hd : difIn ps k
   ·have hQ := lh (allB_no hkn hd)
    have hne : ¬ X = (k : Int) := by
     intro hc
     rw [hX] at hc
     have := ix_is hkn hc
     unfold difIn at hd
     rw [allB_yes (fun j hj => by rw [this j hj]; rfl)] at hd
     cases hd
    have hne' : (X != (k : Int)) = true := by simpa using hne
    clear hd hX
    go_wp2_with (first | (go_at_call 178; refine (nameOfInstance_any (vec [.string (inn ps k).name, .int .i64 (inn ps k).cell, .slice p2 (inn ps k).nets.length q2]) (inn ps k) _ (HA.out.up eX)).mono ?_; rintro e w1 ⟨rfl, hb⟩; have ⟨hc, hf⟩ := bcell hb; have hz := hb.size; (try simp at hz); (try have hz := Nat.lt_of_succ_le hz); (try have y0 := wy w w1); (try have z0 := wz0 w w1); (try have z1 := wz1 w w1); (try have z2 := wz2 w w1); (try have z3 := wz3 w w1); (try have z4 := wz4 w w1); (try have x0 := wz0 wc w1); (try have x1 := wy wc w1)) | (go_at_call 225; refine (HQ.out _ eX).mono ?_; rintro e w1 ⟨rfl, hb⟩; have ⟨hc, hf⟩ := bcell hb; have hz := hb.size; (try simp at hz); (try have hz := Nat.lt_of_succ_le hz); (try have y0 := wy w w1); (try have z0 := wz0 w w1); (try have z1 := wz1 w w1); (try have z2 := wz2 w w1); (try have z3 := wz3 w w1); (try have z4 := wz4 w w1); (try have x0 := wz0 wc w1); (try have x1 := wy wc w1)))
    rw [hQ.out]
    go_ret
    exact ⟨rfl, eX⟩
   ·have hok := lh (all_more hall.out hd)
    obtain rfl : X = (k : Int) := by
     rw [hX]
     refine ix_at hkn (by simp) (fun j hj => ?_)
     have := allB_get hd j hj
     first | simpa using this | (simp only [Bool.not_eq_true'] at this; exact this)
    clear hd hX
    go_wp2_with (first | (go_at_call 178; refine (nameOfInstance_any (vec [.string (inn ps k).name, .int .i64 (inn ps k).cell, .slice p2 (inn ps k).nets.length q2]) (inn ps k) _ (HA.out.up eX)).mono ?_; rintro e w1 ⟨rfl, hb⟩; have ⟨hc, hf⟩ := bcell hb; have hz := hb.size; (try simp at hz); (try have hz := Nat.lt_of_succ_le hz); (try have y0 := wy w w1); (try have z0 := wz0 w w1); (try have z1 := wz1 w w1); (try have z2 := wz2 w w1); (try have z3 := wz3 w w1); (try have z4 := wz4 w w1); (try have x0 := wz0 wc w1); (try have x1 := wy wc w1)) | (go_at_call 225; refine (HQ.out _ eX).mono ?_; rintro e w1 ⟨rfl, hb⟩; have ⟨hc, hf⟩ := bcell hb; have hz := hb.size; (try simp at hz); (try have hz := Nat.lt_of_succ_le hz); (try have y0 := wy w w1); (try have z0 := wz0 w w1); (try have z1 := wz1 w w1); (try have z2 := wz2 w w1); (try have z3 := wz3 w w1); (try have z4 := wz4 w w1); (try have x0 := wz0 wc w1); (try have x1 := wy wc w1)))
    go_roundw
    case rel => exact ⟨k + 1, by omega, by go_num, hok, eX⟩
    case measure => simp [intOf]; omega
  ·obtain rfl : k = n := by omega
   have hok := lh (allB_yes (p := difIn ps) hall.out)
   have hI : ¬ (k : Int) < (k : Int) := by omega
   go_wp2
   rw [hok.out]
   go_ret
   exact ⟨rfl, hbw⟩
theorem nameOfPort_any (f : Nat → Value) (p : PortD) (w : World) (h : PortF f p) : Calls Tryz.prog 182 #[.agg #[f 0, f 1, f 2]] w fun e w' => e = .returned (.string p.name) ∧ Below w.heap.size w w' := by
 obtain ⟨e0, e1, e2, hs⟩ := h
 rw [e0, e1, e2]
 clear e0 e1 e2
 go_enter Tryz.func182, Tryz.ntmps182
 go_wp2
 go_ret
 exact ⟨rfl, eX⟩
set_option maxHeartbeats 2000000 in
theorem ixPoC_any (f : Nat → Value) (p : PortD) (g1 g2 : Nat) (s : ByteArray) (w : World) (h : PortF f p) (h1 : w.cell? ⟨g1, 0, none⟩ = some (.func (.func 182) #[] #[])) (h2 : w.cell? ⟨g2, 0, none⟩ = some (.string s)) :
  Calls Tryz.prog 239 #[.agg #[f 0, f 1, f 2], .pointer (some ⟨g1, 0, none⟩), .pointer (some ⟨g2, 0, none⟩)] w fun e w' => e = .returned (.bool (p.name.toList == s.toList)) ∧ Below w.heap.size w w' := by
 have l1 := cell_lt h1
 have l2 := cell_lt h2
 have HP := lh h
 obtain ⟨e0, e1, e2, hs⟩ := h
 rw [e0, e1, e2]
 clear e0 e1 e2
 go_enter Tryz.func239, Tryz.ntmps239
 go_wp2
 go_region_held3 (fun w' => w'.cell? ⟨w.heap.size, 0, none⟩ = some (.string p.name) ∧ w'.cell? ⟨w.heap.size, 1, none⟩ = some (.int .i64 p.dir) ∧ w'.cell? ⟨w.heap.size, 2, none⟩ = some (.int .i64 p.net) ∧ w'.cell? ⟨g1, 0, none⟩ = some (.func (.func 182) #[] #[]) ∧ w'.cell? ⟨g2, 0, none⟩ = some (.string s) ∧ Below w.heap.size w w' ∧ w.heap.size < w'.heap.size) (first | exact (Hid.out (by assumption)) | exact keep5 (Hid.out (by assumption)) ((Below.refl _ _).alloc (Nat.le_refl _) _) | exact keep5s (keep5s (Hid.out (by assumption))) | exact keep5s (Hid.out (by assumption)) | ((repeat' apply And.intro) <;> first | assumption | ((exact eX); done) | (simp [go_sem]; done) | (simp [go_sem, *]; done) | (simp; omega) | omega)) (first | ((go_at_call 182; refine (nameOfPort_any (vec [.string p.name, .int .i64 p.dir, .int .i64 p.net]) p _ ⟨rfl, rfl, rfl, HP.out.2.2.2⟩).mono ?_; rintro e w1 ⟨rfl, hb⟩; have ⟨hc, hf⟩ := bcell hb; have hz := hb.size; (try simp at hz); (try have hz := Nat.lt_of_succ_le hz); (try have y0 := wy w w1); (try have z0 := wz0 w w1); (try have z1 := wz1 w w1); (try have z2 := wz2 w w1); (try have z3 := wz3 w w1); (try have z4 := wz4 w w1); (try have x0 := wz0 wc w1); (try have x1 := wy wc w1)); have hS := lh (keep5 (by assumption) hb); have zL := (Hid.out hS).2.2.2.2.2.2))
 all_goals
  go_wp2_with fail
  go_ret
  exact ⟨rfl, eX⟩
set_option maxHeartbeats 2000000 in
theorem ixPoF_any (v : Value) (ps : List PortD) (g1 g2 : Nat) (s : ByteArray) (w : World) (h : PortsS w w.heap.size v ps) (h1 : w.cell? ⟨g1, 0, none⟩ = some (.func (.func 182) #[] #[])) (h2 : w.cell? ⟨g2, 0, none⟩ = some (.string s)) :
  Calls Tryz.prog 238 #[v, .func (.func 239) #[] #[.pointer (some ⟨g1, 0, none⟩), .pointer (some ⟨g2, 0, none⟩)]] w fun e w' => e = .returned (.int .i64 (ix (fun i => (ptn ps i).name.toList == s.toList) ps.length)) ∧ Below w.heap.size w w' := by
 obtain ⟨F, hc, hf⟩ := h
 obtain ⟨n, hnn⟩ : ∃ n, n = ps.length := ⟨_, rfl⟩
 rw [← hnn] at hc hf ⊢
 have HC := hc
 obtain ⟨hn, a, cap, rfl, _⟩ := hc
 have HC := lh HC; have HF := lh hf; have HN := lh hnn
 clear hf hnn
 go_enter Tryz.func238, Tryz.ntmps238
 go_wp2
 go_loopw [5, 8] (fun _ i wr => ∃ k : Nat, k ≤ n ∧ i = .int .i64 k ∧ Hid (∀ j, j < k → ((ptn ps j).name.toList == s.toList) = false) ∧ Below w.heap.size w wr) (fun _ i _ => n - (intOf i).toNat)
 case atStart => exact ⟨0, by omega, rfl, lh (fun j hj => absurd hj (Nat.not_lt_zero j)), eX⟩
 case round =>
  obtain ⟨k, hk, rfl, hall, hbw⟩ := hrel
  by_cases hkn : k < n
  ·obtain ⟨b, off, rfl, hlt, hx⟩ := HC.out.at hbw hkn
   have y0 := hx 0 (by omega)
   have y1 := hx 1 (by omega)
   have y2 := hx 2 (by omega)
   simp only [Nat.add_zero] at y0
   have hI : (k : Int) < (n : Int) := by omega
   have i0 : (0 : Int) ≤ (k : Int) := by omega
   have HQ := lh (ixPoC_any (F k) (ptn ps k) g1 g2 s wr (HF.out k hkn) (cell_keep h1 hbw) (cell_keep h2 hbw))
   clear hx h1 h2
   cases hd : ((ptn ps k).name.toList == s.toList)
   ·have hok := lh (all_more hall.out hd)
    rw [hd] at HQ
    clear hd
    go_wp2_with (go_at_call 239; refine (HQ.out).mono ?_; rintro e w1 ⟨rfl, hb⟩; have ⟨hc, hf⟩ := bcell hb; have hz := hb.size; (try simp at hz); (try have hz := Nat.lt_of_succ_le hz); (try have y0 := wy w w1); (try have z0 := wz0 w w1); (try have z1 := wz1 w w1); (try have z2 := wz2 w w1); (try have z3 := wz3 w w1); (try have z4 := wz4 w w1); (try have x0 := wz0 wc w1); (try have x1 := wy wc w1))
    go_roundw
    case rel => exact ⟨k + 1, by omega, by go_num, hok, eX⟩
    case measure => simp [intOf]; omega
   ·have hok := lh (ix_at (q := fun i => (ptn ps i).name.toList == s.toList) hkn hd hall.out)
    rw [hd] at HQ
    clear hd
    go_wp2_with (go_at_call 239; refine (HQ.out).mono ?_; rintro e w1 ⟨rfl, hb⟩; have ⟨hc, hf⟩ := bcell hb; have hz := hb.size; (try simp at hz); (try have hz := Nat.lt_of_succ_le hz); (try have y0 := wy w w1); (try have z0 := wz0 w w1); (try have z1 := wz1 w w1); (try have z2 := wz2 w w1); (try have z3 := wz3 w w1); (try have z4 := wz4 w w1); (try have x0 := wz0 wc w1); (try have x1 := wy wc w1))
    rw [hok.out]
    go_ret
    exact ⟨rfl, eX⟩
  ·obtain rfl : k = n := by omega
   have hok := lh (ix_none (q := fun i => (ptn ps i).name.toList == s.toList) hall.out)
   have hI : ¬ (k : Int) < (k : Int) := by omega
   go_wp2
   rw [hok.out]
   go_ret
   exact ⟨rfl, hbw⟩
theorem ixPo_any (v : Value) (ps : List PortD) (s : ByteArray) (w : World) (h : PortsS w w.heap.size v ps) :
  Calls Tryz.prog 227 #[v, .func (.func 182) #[] #[], .string s] w fun e w' => e = .returned (.int .i64 (ix (fun i => (ptn ps i).name.toList == s.toList) ps.length)) ∧ Below w.heap.size w w' := by
 have H := lh h
 obtain ⟨p, q, rfl⟩ := h.slice
 clear h
 go_enter Tryz.func227, Tryz.ntmps227
 go_wp2_with fail
 (go_at_call 238; refine (ixPoF_any _ ps w.heap.size (w.heap.size + 1) s _ (H.out.up eX) (by simp [go_sem]) (by simp [go_sem])).mono ?_; rintro e w1 ⟨rfl, hb⟩; have ⟨hc, hf⟩ := bcell hb; have hz := hb.size; (try simp at hz); (try have hz := Nat.lt_of_succ_le hz); (try have y0 := wy w w1); (try have z0 := wz0 w w1); (try have z1 := wz1 w w1); (try have z2 := wz2 w w1); (try have z3 := wz3 w w1); (try have z4 := wz4 w w1))
 go_wp2_with fail
 go_ret
 exact ⟨rfl, eX⟩
def difPo (ps : List PortD) (k : Nat) : Bool := allB (fun j => !((ptn ps j).name.toList == (ptn ps k).name.toList)) k
set_option maxHeartbeats 2000000 in
theorem difPo_any (v : Value) (ps : List PortD) (w : World) (h : PortsS w w.heap.size v ps) :
  Calls Tryz.prog 208 #[v, .func (.func 182) #[] #[]] w fun e w' => e = .returned (.bool (allB (difPo ps) ps.length)) ∧ Below w.heap.size w w' := by
 have H := lh h
 obtain ⟨F, hc, hf⟩ := h
 obtain ⟨n, hnn⟩ : ∃ n, n = ps.length := ⟨_, rfl⟩
 rw [← hnn] at hc hf ⊢
 have HC := hc
 obtain ⟨hn, a, cap, rfl, _⟩ := hc
 have HC := lh HC; have HF := lh hf; have HN := lh hnn
 clear hf hnn
 go_enter Tryz.func208, Tryz.ntmps208
 go_wp2
 go_loopw [9] (fun i wr => ∃ k : Nat, k ≤ n ∧ i = .int .i64 k ∧ Hid (∀ j, j < k → difPo ps j = true) ∧ Below w.heap.size w wr) (fun i _ => n - (intOf i).toNat)
 case atStart => exact ⟨0, by omega, rfl, lh (fun j hj => absurd hj (Nat.not_lt_zero j)), eX⟩
 case round =>
  obtain ⟨k, hk, rfl, hall, hbw⟩ := hrel
  by_cases hkn : k < n
  ·obtain ⟨b, off, rfl, hlt, hx⟩ := HC.out.at hbw hkn
   have y0 := hx 0 (by omega)
   have y1 := hx 1 (by omega)
   have y2 := hx 2 (by omega)
   simp only [Nat.add_zero] at y0
   have hI : (k : Int) < (n : Int) := by omega
   have i0 : (0 : Int) ≤ (k : Int) := by omega
   clear hx
   have ⟨e0, e1, e2, hs⟩ := HF.out k hkn
   rw [e0] at y0; rw [e1] at y1; rw [e2] at y2
   have HA := lh (show PortF (vec [.string (ptn ps k).name, .int .i64 (ptn ps k).dir, .int .i64 (ptn ps k).net]) (ptn ps k) from ⟨rfl, rfl, rfl, hs⟩)
   clear e0 e1 e2
   obtain ⟨X, hX⟩ : ∃ X, X = ix (fun i => (ptn ps i).name.toList == (ptn ps k).name.toList) n := ⟨_, rfl⟩
   have HQ := lh (fun (w1 : World) (hb : Below w.heap.size w w1) => ixPo_any _ ps (ptn ps k).name w1 (H.out.up hb))
   rw [← HN.out, ← hX] at HQ
   cases hd : difPo ps k
   ·have hQ := lh (allB_no hkn hd)
    have hne : ¬ X = (k : Int) := by
     intro hc
     rw [hX] at hc
     have := ix_is hkn hc
     unfold difPo at hd
     rw [allB_yes (fun j hj => by rw [this j hj]; rfl)] at hd
     cases hd
    have hne' : (X != (k : Int)) = true := by simpa using hne
    clear hd hX
    go_wp2_with (first | (go_at_call 182; refine (nameOfPort_any (vec [.string (ptn ps k).name, .int .i64 (ptn ps k).dir, .int .i64 (ptn ps k).net]) (ptn ps k) _ HA.out).mono ?_; rintro e w1 ⟨rfl, hb⟩; have ⟨hc, hf⟩ := bcell hb; have hz := hb.size; (try simp at hz); (try have hz := Nat.lt_of_succ_le hz); (try have y0 := wy w w1); (try have z0 := wz0 w w1); (try have z1 := wz1 w w1); (try have z2 := wz2 w w1); (try have z3 := wz3 w w1); (try have z4 := wz4 w w1); (try have x0 := wz0 wc w1); (try have x1 := wy wc w1)) | (go_at_call 227; refine (HQ.out _ eX).mono ?_; rintro e w1 ⟨rfl, hb⟩; have ⟨hc, hf⟩ := bcell hb; have hz := hb.size; (try simp at hz); (try have hz := Nat.lt_of_succ_le hz); (try have y0 := wy w w1); (try have z0 := wz0 w w1); (try have z1 := wz1 w w1); (try have z2 := wz2 w w1); (try have z3 := wz3 w w1); (try have z4 := wz4 w w1); (try have x0 := wz0 wc w1); (try have x1 := wy wc w1)))
    rw [hQ.out]
    go_ret
    exact ⟨rfl, eX⟩
   ·have hok := lh (all_more hall.out hd)
    obtain rfl : X = (k : Int) := by
     rw [hX]
     refine ix_at hkn (by simp) (fun j hj => ?_)
     have := allB_get hd j hj
     first | simpa using this | (simp only [Bool.not_eq_true'] at this; exact this)
    clear hd hX
    go_wp2_with (first | (go_at_call 182; refine (nameOfPort_any (vec [.string (ptn ps k).name, .int .i64 (ptn ps k).dir, .int .i64 (ptn ps k).net]) (ptn ps k) _ HA.out).mono ?_; rintro e w1 ⟨rfl, hb⟩; have ⟨hc, hf⟩ := bcell hb; have hz := hb.size; (try simp at hz); (try have hz := Nat.lt_of_succ_le hz); (try have y0 := wy w w1); (try have z0 := wz0 w w1); (try have z1 := wz1 w w1); (try have z2 := wz2 w w1); (try have z3 := wz3 w w1); (try have z4 := wz4 w w1); (try have x0 := wz0 wc w1); (try have x1 := wy wc w1)) | (go_at_call 227; refine (HQ.out _ eX).mono ?_; rintro e w1 ⟨rfl, hb⟩; have ⟨hc, hf⟩ := bcell hb; have hz := hb.size; (try simp at hz); (try have hz := Nat.lt_of_succ_le hz); (try have y0 := wy w w1); (try have z0 := wz0 w w1); (try have z1 := wz1 w w1); (try have z2 := wz2 w w1); (try have z3 := wz3 w w1); (try have z4 := wz4 w w1); (try have x0 := wz0 wc w1); (try have x1 := wy wc w1)))
    go_roundw
    case rel => exact ⟨k + 1, by omega, by go_num, hok, eX⟩
    case measure => simp [intOf]; omega
  ·obtain rfl : k = n := by omega
   have hok := lh (allB_yes (p := difPo ps) hall.out)
   have hI : ¬ (k : Int) < (k : Int) := by omega
   go_wp2
   rw [hok.out]
   go_ret
   exact ⟨rfl, hbw⟩
def StrF (f : Nat → Value) (p : ByteArray) : Prop := f 0 = .string p ∧ p.size ≤ 9223372036854775807
def TxQ (w : World) (B : Nat) (v : Value) (us : List ByteArray) : Prop := ∃ F, CellS w B v us.length 1 F ∧ ∀ i, i < us.length → StrF (F i) (sn us i)
theorem TxS.q {w : World} {B : Nat} {v : Value} {us : List ByteArray} (h : TxS w B v us) : TxQ w B v us := by
 obtain ⟨⟨F, h0, h1⟩, h2⟩ := h
 exact ⟨F, h0, fun i hi => ⟨h1 i hi, h2 i hi⟩⟩
theorem TxQ.x {w : World} {B : Nat} {v : Value} {us : List ByteArray} (h : TxQ w B v us) : TxS w B v us := by
 obtain ⟨F, h0, h1⟩ := h
 exact ⟨⟨F, h0, fun i hi => (h1 i hi).1⟩, fun i hi => (h1 i hi).2⟩
theorem TxQ.keep {w w' : World} {B C : Nat} {v : Value} {us : List ByteArray} (h : TxQ w B v us) (hb : Below B w w') (hB : B ≤ C) : TxQ w' C v us := (h.x.keep hb hB).q
theorem TxQ.up {w w' : World} {v : Value} {us : List ByteArray} (h : TxQ w w.heap.size v us) (hb : Below w.heap.size w w') : TxQ w' w'.heap.size v us := h.keep hb hb.size
theorem TxQ.slice {w : World} {L : Nat} {v : Value} {us : List ByteArray} (h : TxQ w L v us) : ∃ p q, v = .slice p us.length q := h.x.slice
theorem nameOfNet_any (f : Nat → Value) (p : ByteArray) (w : World) (h : StrF f p) : Calls Tryz.prog 180 #[f 0] w fun e w' => e = .returned (.string p) ∧ Below w.heap.size w w' := by
 obtain ⟨e0, hs⟩ := h
 rw [e0]
 clear e0
 go_enter Tryz.func180, Tryz.ntmps180
 go_wp2
 go_ret
 exact ⟨rfl, eX⟩
theorem nameOfNet_s (p : ByteArray) (w : World) (h : p.size ≤ 9223372036854775807) : Calls Tryz.prog 180 #[.string p] w fun e w' => e = .returned (.string p) ∧ Below w.heap.size w w' := nameOfNet_any (vec [.string p]) p w ⟨rfl, h⟩
set_option maxHeartbeats 2000000 in
theorem ixStC_any (f : Nat → Value) (p : ByteArray) (g1 g2 : Nat) (s : ByteArray) (w : World) (h : StrF f p) (h1 : w.cell? ⟨g1, 0, none⟩ = some (.func (.func 180) #[] #[])) (h2 : w.cell? ⟨g2, 0, none⟩ = some (.string s)) :
  Calls Tryz.prog 237 #[f 0, .pointer (some ⟨g1, 0, none⟩), .pointer (some ⟨g2, 0, none⟩)] w fun e w' => e = .returned (.bool (p.toList == s.toList)) ∧ Below w.heap.size w w' := by
 have l1 := cell_lt h1
 have l2 := cell_lt h2
 have HP := lh h
 obtain ⟨e0, hs⟩ := h
 rw [e0]
 clear e0
 go_enter Tryz.func237, Tryz.ntmps237
 go_wp2
 go_region_held3 (fun w' => w'.cell? ⟨g1, 0, none⟩ = some (.func (.func 180) #[] #[]) ∧ w'.cell? ⟨g2, 0, none⟩ = some (.string s) ∧ Below w.heap.size w w' ∧ g1 < w'.heap.size) (first | exact (Hid.out (by assumption)) | exact keep2 (Hid.out (by assumption)) ((Below.refl _ _).alloc (Nat.le_refl _) _) | exact keep2s (keep2s (Hid.out (by assumption))) | exact keep2s (Hid.out (by assumption)) | ((repeat' apply And.intro) <;> first | assumption | ((exact eX); done) | (simp [go_sem]; done) | (simp [go_sem, *]; done) | (simp; omega) | omega)) (first | ((go_at_call 180; refine (nameOfNet_s p _ HP.out.2).mono ?_; rintro e w1 ⟨rfl, hb⟩; have ⟨hc, hf⟩ := bcell hb; have hz := hb.size; (try simp at hz); (try have hz := Nat.lt_of_succ_le hz); (try have y0 := wy w w1); (try have z0 := wz0 w w1); (try have z1 := wz1 w w1); (try have z2 := wz2 w w1); (try have z3 := wz3 w w1); (try have z4 := wz4 w w1); (try have x0 := wz0 wc w1); (try have x1 := wy wc w1)); have hS := lh (keep2 (by assumption) hb); have zL := (Hid.out hS).2.2.2))
 all_goals
  go_wp2_with fail
  go_ret
  exact ⟨rfl, eX⟩
set_option maxHeartbeats 2000000 in
theorem ixStF_any (v : Value) (ps : List ByteArray) (g1 g2 : Nat) (s : ByteArray) (w : World) (h : TxQ w w.heap.size v ps) (h1 : w.cell? ⟨g1, 0, none⟩ = some (.func (.func 180) #[] #[])) (h2 : w.cell? ⟨g2, 0, none⟩ = some (.string s)) :
  Calls Tryz.prog 236 #[v, .func (.func 237) #[] #[.pointer (some ⟨g1, 0, none⟩), .pointer (some ⟨g2, 0, none⟩)]] w fun e w' => e = .returned (.int .i64 (ix (fun i => (sn ps i).toList == s.toList) ps.length)) ∧ Below w.heap.size w w' := by
 obtain ⟨F, hc, hf⟩ := h
 obtain ⟨n, hnn⟩ : ∃ n, n = ps.length := ⟨_, rfl⟩
 rw [← hnn] at hc hf ⊢
 have HC := hc
 obtain ⟨hn, a, cap, rfl, _⟩ := hc
 have HC := lh HC; have HF := lh hf; have HN := lh hnn
 clear hf hnn
 go_enter Tryz.func236, Tryz.ntmps236
 go_wp2
 go_loopw [5, 8] (fun _ i wr => ∃ k : Nat, k ≤ n ∧ i = .int .i64 k ∧ Hid (∀ j, j < k → ((sn ps j).toList == s.toList) = false) ∧ Below w.heap.size w wr) (fun _ i _ => n - (intOf i).toNat)
 case atStart => exact ⟨0, by omega, rfl, lh (fun j hj => absurd hj (Nat.not_lt_zero j)), eX⟩
 case round =>
  obtain ⟨k, hk, rfl, hall, hbw⟩ := hrel
  by_cases hkn : k < n
  ·obtain ⟨b, off, rfl, hlt, hx⟩ := HC.out.at hbw hkn
   have y0 := hx 0 (by omega)
   simp only [Nat.add_zero, Nat.mul_one] at y0
   have hI : (k : Int) < (n : Int) := by omega
   have i0 : (0 : Int) ≤ (k : Int) := by omega
   have HQ := lh (ixStC_any (F k) (sn ps k) g1 g2 s wr (HF.out k hkn) (cell_keep h1 hbw) (cell_keep h2 hbw))
   clear hx h1 h2
   cases hd : ((sn ps k).toList == s.toList)
   ·have hok := lh (all_more hall.out hd)
    rw [hd] at HQ
    clear hd
    go_wp2_with (go_at_call 237; refine (HQ.out).mono ?_; rintro e w1 ⟨rfl, hb⟩; have ⟨hc, hf⟩ := bcell hb; have hz := hb.size; (try simp at hz); (try have hz := Nat.lt_of_succ_le hz); (try have y0 := wy w w1); (try have z0 := wz0 w w1); (try have z1 := wz1 w w1); (try have z2 := wz2 w w1); (try have z3 := wz3 w w1); (try have z4 := wz4 w w1); (try have x0 := wz0 wc w1); (try have x1 := wy wc w1))
    go_roundw
    case rel => exact ⟨k + 1, by omega, by go_num, hok, eX⟩
    case measure => simp [intOf]; omega
   ·have hok := lh (ix_at (q := fun i => (sn ps i).toList == s.toList) hkn hd hall.out)
    rw [hd] at HQ
    clear hd
    go_wp2_with (go_at_call 237; refine (HQ.out).mono ?_; rintro e w1 ⟨rfl, hb⟩; have ⟨hc, hf⟩ := bcell hb; have hz := hb.size; (try simp at hz); (try have hz := Nat.lt_of_succ_le hz); (try have y0 := wy w w1); (try have z0 := wz0 w w1); (try have z1 := wz1 w w1); (try have z2 := wz2 w w1); (try have z3 := wz3 w w1); (try have z4 := wz4 w w1); (try have x0 := wz0 wc w1); (try have x1 := wy wc w1))
    rw [hok.out]
    go_ret
    exact ⟨rfl, eX⟩
  ·obtain rfl : k = n := by omega
   have hok := lh (ix_none (q := fun i => (sn ps i).toList == s.toList) hall.out)
   have hI : ¬ (k : Int) < (k : Int) := by omega
   go_wp2
   rw [hok.out]
   go_ret
   exact ⟨rfl, hbw⟩
theorem ixSt_any (v : Value) (ps : List ByteArray) (s : ByteArray) (w : World) (h : TxQ w w.heap.size v ps) :
  Calls Tryz.prog 226 #[v, .func (.func 180) #[] #[], .string s] w fun e w' => e = .returned (.int .i64 (ix (fun i => (sn ps i).toList == s.toList) ps.length)) ∧ Below w.heap.size w w' := by
 have H := lh h
 obtain ⟨p, q, rfl⟩ := h.slice
 clear h
 go_enter Tryz.func226, Tryz.ntmps226
 go_wp2_with fail
 (go_at_call 236; refine (ixStF_any _ ps w.heap.size (w.heap.size + 1) s _ (H.out.up eX) (by simp [go_sem]) (by simp [go_sem])).mono ?_; rintro e w1 ⟨rfl, hb⟩; have ⟨hc, hf⟩ := bcell hb; have hz := hb.size; (try simp at hz); (try have hz := Nat.lt_of_succ_le hz); (try have y0 := wy w w1); (try have z0 := wz0 w w1); (try have z1 := wz1 w w1); (try have z2 := wz2 w w1); (try have z3 := wz3 w w1); (try have z4 := wz4 w w1))
 go_wp2_with fail
 go_ret
 exact ⟨rfl, eX⟩
def difSt (ps : List ByteArray) (k : Nat) : Bool := allB (fun j => !((sn ps j).toList == (sn ps k).toList)) k
set_option maxHeartbeats 2000000 in
theorem difSt_any (v : Value) (ps : List ByteArray) (w : World) (h : TxQ w w.heap.size v ps) :
  Calls Tryz.prog 207 #[v, .func (.func 180) #[] #[]] w fun e w' => e = .returned (.bool (allB (difSt ps) ps.length)) ∧ Below w.heap.size w w' := by
 have H := lh h
 obtain ⟨F, hc, hf⟩ := h
 obtain ⟨n, hnn⟩ : ∃ n, n = ps.length := ⟨_, rfl⟩
 rw [← hnn] at hc hf ⊢
 have HC := hc
 obtain ⟨hn, a, cap, rfl, _⟩ := hc
 have HC := lh HC; have HF := lh hf; have HN := lh hnn
 clear hf hnn
 go_enter Tryz.func207, Tryz.ntmps207
 go_wp2
 go_loopw [9] (fun i wr => ∃ k : Nat, k ≤ n ∧ i = .int .i64 k ∧ Hid (∀ j, j < k → difSt ps j = true) ∧ Below w.heap.size w wr) (fun i _ => n - (intOf i).toNat)
 case atStart => exact ⟨0, by omega, rfl, lh (fun j hj => absurd hj (Nat.not_lt_zero j)), eX⟩
 case round =>
  obtain ⟨k, hk, rfl, hall, hbw⟩ := hrel
  by_cases hkn : k < n
  ·obtain ⟨b, off, rfl, hlt, hx⟩ := HC.out.at hbw hkn
   have y0 := hx 0 (by omega)
   simp only [Nat.add_zero, Nat.mul_one] at y0
   have hI : (k : Int) < (n : Int) := by omega
   have i0 : (0 : Int) ≤ (k : Int) := by omega
   clear hx
   have ⟨e0, hs⟩ := HF.out k hkn
   rw [e0] at y0
   have HA := lh (show StrF (vec [.string (sn ps k)]) (sn ps k) from ⟨rfl, hs⟩)
   clear e0
   obtain ⟨X, hX⟩ : ∃ X, X = ix (fun i => (sn ps i).toList == (sn ps k).toList) n := ⟨_, rfl⟩
   have HQ := lh (fun (w1 : World) (hb : Below w.heap.size w w1) => ixSt_any _ ps (sn ps k) w1 (H.out.up hb))
   rw [← HN.out, ← hX] at HQ
   cases hd : difSt ps k
   ·have hQ := lh (allB_no hkn hd)
    have hne : ¬ X = (k : Int) := by
     intro hc
     rw [hX] at hc
     have := ix_is hkn hc
     unfold difSt at hd
     rw [allB_yes (fun j hj => by rw [this j hj]; rfl)] at hd
     cases hd
    have hne' : (X != (k : Int)) = true := by simpa using hne
    clear hd hX
    go_wp2_with (first | (go_at_call 180; refine (nameOfNet_s (sn ps k) _ HA.out.2).mono ?_; rintro e w1 ⟨rfl, hb⟩; have ⟨hc, hf⟩ := bcell hb; have hz := hb.size; (try simp at hz); (try have hz := Nat.lt_of_succ_le hz); (try have y0 := wy w w1); (try have z0 := wz0 w w1); (try have z1 := wz1 w w1); (try have z2 := wz2 w w1); (try have z3 := wz3 w w1); (try have z4 := wz4 w w1); (try have x0 := wz0 wc w1); (try have x1 := wy wc w1)) | (go_at_call 226; refine (HQ.out _ eX).mono ?_; rintro e w1 ⟨rfl, hb⟩; have ⟨hc, hf⟩ := bcell hb; have hz := hb.size; (try simp at hz); (try have hz := Nat.lt_of_succ_le hz); (try have y0 := wy w w1); (try have z0 := wz0 w w1); (try have z1 := wz1 w w1); (try have z2 := wz2 w w1); (try have z3 := wz3 w w1); (try have z4 := wz4 w w1); (try have x0 := wz0 wc w1); (try have x1 := wy wc w1)))
    rw [hQ.out]
    go_ret
    exact ⟨rfl, eX⟩
   ·have hok := lh (all_more hall.out hd)
    obtain rfl : X = (k : Int) := by
     rw [hX]
     refine ix_at hkn (by simp) (fun j hj => ?_)
     have := allB_get hd j hj
     first | simpa using this | (simp only [Bool.not_eq_true'] at this; exact this)
    clear hd hX
    go_wp2_with (first | (go_at_call 180; refine (nameOfNet_s (sn ps k) _ HA.out.2).mono ?_; rintro e w1 ⟨rfl, hb⟩; have ⟨hc, hf⟩ := bcell hb; have hz := hb.size; (try simp at hz); (try have hz := Nat.lt_of_succ_le hz); (try have y0 := wy w w1); (try have z0 := wz0 w w1); (try have z1 := wz1 w w1); (try have z2 := wz2 w w1); (try have z3 := wz3 w w1); (try have z4 := wz4 w w1); (try have x0 := wz0 wc w1); (try have x1 := wy wc w1)) | (go_at_call 226; refine (HQ.out _ eX).mono ?_; rintro e w1 ⟨rfl, hb⟩; have ⟨hc, hf⟩ := bcell hb; have hz := hb.size; (try simp at hz); (try have hz := Nat.lt_of_succ_le hz); (try have y0 := wy w w1); (try have z0 := wz0 w w1); (try have z1 := wz1 w w1); (try have z2 := wz2 w w1); (try have z3 := wz3 w w1); (try have z4 := wz4 w w1); (try have x0 := wz0 wc w1); (try have x1 := wy wc w1)))
    go_roundw
    case rel => exact ⟨k + 1, by omega, by go_num, hok, eX⟩
    case measure => simp [intOf]; omega
  ·obtain rfl : k = n := by omega
   have hok := lh (allB_yes (p := difSt ps) hall.out)
   have hI : ¬ (k : Int) < (k : Int) := by omega
   go_wp2
   rw [hok.out]
   go_ret
   exact ⟨rfl, hbw⟩
end Go.Proofs.YtkpfbnffhhmokaaGreat
