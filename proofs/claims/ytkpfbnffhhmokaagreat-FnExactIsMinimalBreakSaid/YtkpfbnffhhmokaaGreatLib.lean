/-
The program's indexWith and allDiffer over cells.
-/
import Derived.Test.YtkpfbnffhhmokaaGreatIndex
import Derived.Test.YtkpfbnffhhmokaaGreatCellS
namespace Go.Proofs.YtkpfbnffhhmokaaGreat
open Go.ChangeShapes Go.WideShapes Go.ChangeAt Go.RowKit
set_option linter.unusedVariables false
theorem nameOfCell_any (f : Nat → Value) (p : CellD) (w : World) (h : CellF w w.heap.size f p) : Calls Tryz.prog 176 #[.agg #[f 0, f 1, f 2, f 3, f 4, f 5, f 6]] w fun e w' => e = .returned (.string p.name) ∧ Below w.heap.size w w' := by
 obtain ⟨e0, e1, x2, x3, x4, e5, e6, hs⟩ := h
 obtain ⟨p2, q2, e2⟩ := x2.slice; obtain ⟨p3, q3, e3⟩ := x3.slice; obtain ⟨p4, q4, e4⟩ := x4.slice
 rw [e0, e1, e2, e3, e4, e5, e6]
 clear e0 e1 e2 e3 e4 e5 e6 x2 x3 x4
 go_enter Tryz.func176, Tryz.ntmps176
 go_wp2
 go_ret
 exact ⟨rfl, eX⟩
set_option maxHeartbeats 2000000 in
theorem ixClC_any (f : Nat → Value) (p : CellD) (g1 g2 : Nat) (s : ByteArray) (w : World) (h : CellF w w.heap.size f p) (h1 : w.cell? ⟨g1, 0, none⟩ = some (.func (.func 176) #[] #[])) (h2 : w.cell? ⟨g2, 0, none⟩ = some (.string s)) :
  Calls Tryz.prog 224 #[.agg #[f 0, f 1, f 2, f 3, f 4, f 5, f 6], .pointer (some ⟨g1, 0, none⟩), .pointer (some ⟨g2, 0, none⟩)] w fun e w' => e = .returned (.bool (p.name.toList == s.toList)) ∧ Below w.heap.size w w' := by
 have l1 := cell_lt h1
 have l2 := cell_lt h2
 have HP := lh h
 obtain ⟨e0, e1, x2, x3, x4, e5, e6, hs⟩ := h
 obtain ⟨p2, q2, e2⟩ := x2.slice; obtain ⟨p3, q3, e3⟩ := x3.slice; obtain ⟨p4, q4, e4⟩ := x4.slice
 rw [e2] at x2; rw [e3] at x3; rw [e4] at x4
 rw [e0, e1, e2, e3, e4, e5, e6]
 have HP := lh (show CellF w w.heap.size (vec [.string p.name, .int .i64 p.kind, .slice p2 p.pins.length q2, .slice p3 p.arcs.length q3, .slice p4 p.truth.length q4, .int .i64 p.leak, .int .i64 p.energy]) p from ⟨rfl, rfl, x2, x3, x4, rfl, rfl, hs⟩)
 clear e0 e1 e2 e3 e4 e5 e6 x2 x3 x4
 go_enter Tryz.func224, Tryz.ntmps224
 go_wp2
 go_region_held3 (fun w' => w'.cell? ⟨w.heap.size, 0, none⟩ = some (.string p.name) ∧ w'.cell? ⟨w.heap.size, 1, none⟩ = some (.int .i64 p.kind) ∧ w'.cell? ⟨w.heap.size, 2, none⟩ = some (.slice p2 p.pins.length q2) ∧ w'.cell? ⟨w.heap.size, 3, none⟩ = some (.slice p3 p.arcs.length q3) ∧ w'.cell? ⟨w.heap.size, 4, none⟩ = some (.slice p4 p.truth.length q4) ∧ w'.cell? ⟨w.heap.size, 5, none⟩ = some (.int .i64 p.leak) ∧ w'.cell? ⟨w.heap.size, 6, none⟩ = some (.int .i64 p.energy) ∧ w'.cell? ⟨g1, 0, none⟩ = some (.func (.func 176) #[] #[]) ∧ w'.cell? ⟨g2, 0, none⟩ = some (.string s) ∧ Below w.heap.size w w' ∧ w.heap.size < w'.heap.size) (first | exact (Hid.out (by assumption)) | exact keep9 (Hid.out (by assumption)) ((Below.refl _ _).alloc (Nat.le_refl _) _) | exact keep9s (keep9s (Hid.out (by assumption))) | exact keep9s (Hid.out (by assumption)) | ((repeat' apply And.intro) <;> first | assumption | ((exact eX); done) | (simp [go_sem]; done) | (simp [go_sem, *]; done) | (simp; omega) | omega)) (first | ((go_at_call 176; refine (nameOfCell_any (vec [.string p.name, .int .i64 p.kind, .slice p2 p.pins.length q2, .slice p3 p.arcs.length q3, .slice p4 p.truth.length q4, .int .i64 p.leak, .int .i64 p.energy]) p _ (HP.out.up eX)).mono ?_; rintro e w1 ⟨rfl, hb⟩; have ⟨hc, hf⟩ := bcell hb; have hz := hb.size; (try simp at hz); (try have hz := Nat.lt_of_succ_le hz); (try have y0 := wy w w1); (try have z0 := wz0 w w1); (try have z1 := wz1 w w1); (try have z2 := wz2 w w1); (try have z3 := wz3 w w1); (try have z4 := wz4 w w1); (try have x0 := wz0 wc w1); (try have x1 := wy wc w1)); have hS := lh (keep9 (by assumption) hb); have zL := (Hid.out hS).2.2.2.2.2.2.2.2.2.2))
 all_goals
  go_wp2_with fail
  go_ret
  exact ⟨rfl, eX⟩
set_option maxHeartbeats 2000000 in
theorem ixClF_any (v : Value) (ps : List CellD) (g1 g2 : Nat) (s : ByteArray) (w : World) (h : CellsS w w.heap.size v ps) (h1 : w.cell? ⟨g1, 0, none⟩ = some (.func (.func 176) #[] #[])) (h2 : w.cell? ⟨g2, 0, none⟩ = some (.string s)) :
  Calls Tryz.prog 223 #[v, .func (.func 224) #[] #[.pointer (some ⟨g1, 0, none⟩), .pointer (some ⟨g2, 0, none⟩)]] w fun e w' => e = .returned (.int .i64 (ix (fun i => (cn ps i).name.toList == s.toList) ps.length)) ∧ Below w.heap.size w w' := by
 obtain ⟨F, hc, hf⟩ := h
 obtain ⟨n, hnn⟩ : ∃ n, n = ps.length := ⟨_, rfl⟩
 rw [← hnn] at hc hf ⊢
 have HC := hc
 obtain ⟨hn, a, cap, rfl, _⟩ := hc
 have HC := lh HC; have HF := lh hf; have HN := lh hnn
 clear hf hnn
 go_enter Tryz.func223, Tryz.ntmps223
 go_wp2
 go_loopw [5, 8] (fun _ i wr => ∃ k : Nat, k ≤ n ∧ i = .int .i64 k ∧ Hid (∀ j, j < k → ((cn ps j).name.toList == s.toList) = false) ∧ Below w.heap.size w wr) (fun _ i _ => n - (intOf i).toNat)
 case atStart => exact ⟨0, by omega, rfl, lh (fun j hj => absurd hj (Nat.not_lt_zero j)), eX⟩
 case round =>
  obtain ⟨k, hk, rfl, hall, hbw⟩ := hrel
  by_cases hkn : k < n
  ·obtain ⟨b, off, rfl, hlt, hx⟩ := HC.out.at hbw hkn
   have y0 := hx 0 (by omega)
   have y1 := hx 1 (by omega)
   have y2 := hx 2 (by omega)
   have y3 := hx 3 (by omega)
   have y4 := hx 4 (by omega)
   have y5 := hx 5 (by omega)
   have y6 := hx 6 (by omega)
   simp only [Nat.add_zero] at y0
   have hI : (k : Int) < (n : Int) := by omega
   have i0 : (0 : Int) ≤ (k : Int) := by omega
   have HQ := lh (ixClC_any (F k) (cn ps k) g1 g2 s wr ((HF.out k hkn).up hbw) (cell_keep h1 hbw) (cell_keep h2 hbw))
   clear hx h1 h2
   cases hd : ((cn ps k).name.toList == s.toList)
   ·have hok := lh (all_more hall.out hd)
    rw [hd] at HQ
    clear hd
    go_wp2_with (go_at_call 224; refine (HQ.out).mono ?_; rintro e w1 ⟨rfl, hb⟩; have ⟨hc, hf⟩ := bcell hb; have hz := hb.size; (try simp at hz); (try have hz := Nat.lt_of_succ_le hz); (try have y0 := wy w w1); (try have z0 := wz0 w w1); (try have z1 := wz1 w w1); (try have z2 := wz2 w w1); (try have z3 := wz3 w w1); (try have z4 := wz4 w w1); (try have x0 := wz0 wc w1); (try have x1 := wy wc w1))
    go_roundw
    case rel => exact ⟨k + 1, by omega, by go_num, hok, eX⟩
    case measure => simp [intOf]; omega
   ·have hok := lh (ix_at (q := fun i => (cn ps i).name.toList == s.toList) hkn hd hall.out)
    rw [hd] at HQ
    clear hd
    go_wp2_with (go_at_call 224; refine (HQ.out).mono ?_; rintro e w1 ⟨rfl, hb⟩; have ⟨hc, hf⟩ := bcell hb; have hz := hb.size; (try simp at hz); (try have hz := Nat.lt_of_succ_le hz); (try have y0 := wy w w1); (try have z0 := wz0 w w1); (try have z1 := wz1 w w1); (try have z2 := wz2 w w1); (try have z3 := wz3 w w1); (try have z4 := wz4 w w1); (try have x0 := wz0 wc w1); (try have x1 := wy wc w1))
    rw [hok.out]
    go_ret
    exact ⟨rfl, eX⟩
  ·obtain rfl : k = n := by omega
   have hok := lh (ix_none (q := fun i => (cn ps i).name.toList == s.toList) hall.out)
   have hI : ¬ (k : Int) < (k : Int) := by omega
   go_wp2
   rw [hok.out]
   go_ret
   exact ⟨rfl, hbw⟩
theorem ixCl_any (v : Value) (ps : List CellD) (s : ByteArray) (w : World) (h : CellsS w w.heap.size v ps) :
  Calls Tryz.prog 205 #[v, .func (.func 176) #[] #[], .string s] w fun e w' => e = .returned (.int .i64 (ix (fun i => (cn ps i).name.toList == s.toList) ps.length)) ∧ Below w.heap.size w w' := by
 have H := lh h
 obtain ⟨p, q, rfl⟩ := h.slice
 clear h
 go_enter Tryz.func205, Tryz.ntmps205
 go_wp2_with fail
 (go_at_call 223; refine (ixClF_any _ ps w.heap.size (w.heap.size + 1) s _ (H.out.up eX) (by simp [go_sem]) (by simp [go_sem])).mono ?_; rintro e w1 ⟨rfl, hb⟩; have ⟨hc, hf⟩ := bcell hb; have hz := hb.size; (try simp at hz); (try have hz := Nat.lt_of_succ_le hz); (try have y0 := wy w w1); (try have z0 := wz0 w w1); (try have z1 := wz1 w w1); (try have z2 := wz2 w w1); (try have z3 := wz3 w w1); (try have z4 := wz4 w w1))
 go_wp2_with fail
 go_ret
 exact ⟨rfl, eX⟩
def difCl (ps : List CellD) (k : Nat) : Bool := allB (fun j => !((cn ps j).name.toList == (cn ps k).name.toList)) k
set_option maxHeartbeats 2000000 in
theorem difCl_any (v : Value) (ps : List CellD) (w : World) (h : CellsS w w.heap.size v ps) :
  Calls Tryz.prog 175 #[v, .func (.func 176) #[] #[]] w fun e w' => e = .returned (.bool (allB (difCl ps) ps.length)) ∧ Below w.heap.size w w' := by
 have H := lh h
 obtain ⟨F, hc, hf⟩ := h
 obtain ⟨n, hnn⟩ : ∃ n, n = ps.length := ⟨_, rfl⟩
 rw [← hnn] at hc hf ⊢
 have HC := hc
 obtain ⟨hn, a, cap, rfl, _⟩ := hc
 have HC := lh HC; have HF := lh hf; have HN := lh hnn
 clear hf hnn
 go_enter Tryz.func175, Tryz.ntmps175
 go_wp2
 go_loopw [9] (fun i wr => ∃ k : Nat, k ≤ n ∧ i = .int .i64 k ∧ Hid (∀ j, j < k → difCl ps j = true) ∧ Below w.heap.size w wr) (fun i _ => n - (intOf i).toNat)
 case atStart => exact ⟨0, by omega, rfl, lh (fun j hj => absurd hj (Nat.not_lt_zero j)), eX⟩
 case round =>
  obtain ⟨k, hk, rfl, hall, hbw⟩ := hrel
  by_cases hkn : k < n
  ·obtain ⟨b, off, rfl, hlt, hx⟩ := HC.out.at hbw hkn
   have y0 := hx 0 (by omega)
   have y1 := hx 1 (by omega)
   have y2 := hx 2 (by omega)
   have y3 := hx 3 (by omega)
   have y4 := hx 4 (by omega)
   have y5 := hx 5 (by omega)
   have y6 := hx 6 (by omega)
   simp only [Nat.add_zero] at y0
   have hI : (k : Int) < (n : Int) := by omega
   have i0 : (0 : Int) ≤ (k : Int) := by omega
   clear hx
   have ⟨e0, e1, x2, x3, x4, e5, e6, hs⟩ := (HF.out k hkn).up hbw
   obtain ⟨p2, q2, e2⟩ := x2.slice; obtain ⟨p3, q3, e3⟩ := x3.slice; obtain ⟨p4, q4, e4⟩ := x4.slice
   rw [e2] at x2; rw [e3] at x3; rw [e4] at x4
   rw [e0] at y0; rw [e1] at y1; rw [e2] at y2; rw [e3] at y3; rw [e4] at y4; rw [e5] at y5; rw [e6] at y6
   have HA := lh (show CellF wr wr.heap.size (vec [.string (cn ps k).name, .int .i64 (cn ps k).kind, .slice p2 (cn ps k).pins.length q2, .slice p3 (cn ps k).arcs.length q3, .slice p4 (cn ps k).truth.length q4, .int .i64 (cn ps k).leak, .int .i64 (cn ps k).energy]) (cn ps k) from ⟨rfl, rfl, x2, x3, x4, rfl, rfl, hs⟩)
   clear e0 e1 e2 e3 e4 e5 e6 x2 x3 x4
   obtain ⟨X, hX⟩ : ∃ X, X = ix (fun i => (cn ps i).name.toList == (cn ps k).name.toList) n := ⟨_, rfl⟩
   have HQ := lh (fun (w1 : World) (hb : Below w.heap.size w w1) => ixCl_any _ ps (cn ps k).name w1 (H.out.up hb))
   rw [← HN.out, ← hX] at HQ
   cases hd : difCl ps k
   ·have hQ := lh (allB_no hkn hd)
    have hne : ¬ X = (k : Int) := by
     intro hc
     rw [hX] at hc
     have := ix_is hkn hc
     unfold difCl at hd
     rw [allB_yes (fun j hj => by rw [this j hj]; rfl)] at hd
     cases hd
    have hne' : (X != (k : Int)) = true := by simpa using hne
    clear hd hX
    go_wp2_with (first | (go_at_call 176; refine (nameOfCell_any (vec [.string (cn ps k).name, .int .i64 (cn ps k).kind, .slice p2 (cn ps k).pins.length q2, .slice p3 (cn ps k).arcs.length q3, .slice p4 (cn ps k).truth.length q4, .int .i64 (cn ps k).leak, .int .i64 (cn ps k).energy]) (cn ps k) _ (HA.out.up eX)).mono ?_; rintro e w1 ⟨rfl, hb⟩; have ⟨hc, hf⟩ := bcell hb; have hz := hb.size; (try simp at hz); (try have hz := Nat.lt_of_succ_le hz); (try have y0 := wy w w1); (try have z0 := wz0 w w1); (try have z1 := wz1 w w1); (try have z2 := wz2 w w1); (try have z3 := wz3 w w1); (try have z4 := wz4 w w1); (try have x0 := wz0 wc w1); (try have x1 := wy wc w1)) | (go_at_call 205; refine (HQ.out _ eX).mono ?_; rintro e w1 ⟨rfl, hb⟩; have ⟨hc, hf⟩ := bcell hb; have hz := hb.size; (try simp at hz); (try have hz := Nat.lt_of_succ_le hz); (try have y0 := wy w w1); (try have z0 := wz0 w w1); (try have z1 := wz1 w w1); (try have z2 := wz2 w w1); (try have z3 := wz3 w w1); (try have z4 := wz4 w w1); (try have x0 := wz0 wc w1); (try have x1 := wy wc w1)))
    rw [hQ.out]
    go_ret
    exact ⟨rfl, eX⟩
   ·have hok := lh (all_more hall.out hd)
    obtain rfl : X = (k : Int) := by
     rw [hX]
     refine ix_at hkn (by simp) (fun j hj => ?_)
     have := allB_get hd j hj
     first | simpa using this | (simp only [Bool.not_eq_true'] at this; exact this)
    clear hd hX
    go_wp2_with (first | (go_at_call 176; refine (nameOfCell_any (vec [.string (cn ps k).name, .int .i64 (cn ps k).kind, .slice p2 (cn ps k).pins.length q2, .slice p3 (cn ps k).arcs.length q3, .slice p4 (cn ps k).truth.length q4, .int .i64 (cn ps k).leak, .int .i64 (cn ps k).energy]) (cn ps k) _ (HA.out.up eX)).mono ?_; rintro e w1 ⟨rfl, hb⟩; have ⟨hc, hf⟩ := bcell hb; have hz := hb.size; (try simp at hz); (try have hz := Nat.lt_of_succ_le hz); (try have y0 := wy w w1); (try have z0 := wz0 w w1); (try have z1 := wz1 w w1); (try have z2 := wz2 w w1); (try have z3 := wz3 w w1); (try have z4 := wz4 w w1); (try have x0 := wz0 wc w1); (try have x1 := wy wc w1)) | (go_at_call 205; refine (HQ.out _ eX).mono ?_; rintro e w1 ⟨rfl, hb⟩; have ⟨hc, hf⟩ := bcell hb; have hz := hb.size; (try simp at hz); (try have hz := Nat.lt_of_succ_le hz); (try have y0 := wy w w1); (try have z0 := wz0 w w1); (try have z1 := wz1 w w1); (try have z2 := wz2 w w1); (try have z3 := wz3 w w1); (try have z4 := wz4 w w1); (try have x0 := wz0 wc w1); (try have x1 := wy wc w1)))
    go_roundw
    case rel => exact ⟨k + 1, by omega, by go_num, hok, eX⟩
    case measure => simp [intOf]; omega
  ·obtain rfl : k = n := by omega
   have hok := lh (allB_yes (p := difCl ps) hall.out)
   have hI : ¬ (k : Int) < (k : Int) := by omega
   go_wp2
   rw [hok.out]
   go_ret
   exact ⟨rfl, hbw⟩
end Go.Proofs.YtkpfbnffhhmokaaGreat
namespace Go.Proofs.YtkpfbnffhhmokaaGreat
open Go.ChangeShapes Go.WideShapes Go.ChangeAt Go.RowKit
set_option linter.unusedVariables false
set_option linter.unusedSimpArgs false
theorem OwnCells.kept {L : Nat} {w w' : World} {v : Value} {ts : List CellD} (h : OwnCells w L v ts) (k : Kept L w w') : OwnCells w' L v ts := by
 obtain ⟨F, h0, h1⟩ := h
 exact ⟨F, h0.kept k, fun i hi => (h1 i hi).kept k⟩
theorem OwnCells.mono {L M : Nat} {w : World} {v : Value} {ts : List CellD} (h : OwnCells w L v ts) (k : M ≤ L) : OwnCells w M v ts := by
 obtain ⟨F, h0, h1⟩ := h
 exact ⟨F, h0.mono k, fun i hi => (h1 i hi).mono k⟩
theorem OwnCells.slice {w : World} {L : Nat} {v : Value} {ts : List CellD} (h : OwnCells w L v ts) : ∃ p q, v = .slice p ts.length q := by
 obtain ⟨F, ⟨_, a, cap, rfl, _⟩, _⟩ := h
 exact ⟨_, _, rfl⟩
theorem Tryz.infoCell : (Tryz.prog.info? 124).map (fun i => (i.zero, i.size, i.bytes)) = some (some (.agg #[.string .empty, .int .i64 0, .slice none 0 0, .slice none 0 0, .slice none 0 0, .int .i64 0, .int .i64 0]), 7, 112) := by kernel_rfl
def ToCells (ts : List CellD) (w : World) (e : Ending) (w' : World) : Prop := ∃ v : Value, e = .returned v ∧ OwnCells w' w.heap.size v ts ∧ Below w.heap.size w w'
set_option maxHeartbeats 2000000 in
theorem toCells_any (v : Value) (ts : List CellD) (w : World) (h : CellsS w w.heap.size v ts) (hm : CellsSm ts) : Calls Tryz.prog 65 #[v] w (ToCells ts w) := by
 obtain ⟨i0, hi, hz0, hz1, hz2⟩ := info_parts Tryz.infoCell
 obtain ⟨F, hc, hf⟩ := h
 obtain ⟨hm, hms⟩ := hm
 obtain ⟨n, hnn⟩ : ∃ n, n = ts.length := ⟨_, rfl⟩
 have HN := lh hnn
 rw [← hnn] at hc hf hm hms
 have HC := hc
 obtain ⟨hn, a, cap, rfl, _⟩ := hc
 have HC := lh HC; have HF := lh hf; have HM := lh hms
 clear hf hnn hms
 go_enter Tryz.func65, Tryz.ntmps65
 go_wp2_with (at_make; refine wpList_make_full _ rfl _ _ 37 rfl w.heap.size 124 i0 (.agg #[.string .empty, .int .i64 0, .slice none 0 0, .slice none 0 0, .slice none 0 0, .int .i64 0, .int .i64 0]) 7 Tryz.underlying37 hi hz0 hz1 .i64 .i64 _ _ n rfl rfl rfl rfl (by rw [hz2]; omega) (by unfold maxLen; omega) (Nat.le_refl _) ?_; intro w0 hown0 hgrow0; have hb0 := below_grown hgrow0; clear hgrow0)
 have hr0 : 0 < n → RowF w0 w.heap.size n 7 0 (fun _ _ => .bool false) := fun hp => (RowF.made hown0 (by omega)).resolve_right (by omega)
 clear hown0
 go_loopw [4] (fun i wr => ∃ (k : Nat) (G : Nat → Nat → Value), k ≤ n ∧ i = .int .i64 k ∧ Hid (0 < n → RowF wr w.heap.size n 7 k G) ∧ Hid (∀ j, j < k → OwnCell wr (w.heap.size + 1) (G j) (cn ts j)) ∧ Below w.heap.size w wr) (fun i _ => n - (intOf i).toNat)
 case atStart => exact ⟨0, _, by omega, rfl, lh hr0, lh (fun j hj => absurd hj (Nat.not_lt_zero j)), hb0⟩
 case round =>
  obtain ⟨k, G, hk, rfl, hr, hg, hbw⟩ := hrel
  by_cases hkn : k < n
  ·obtain ⟨b, off, rfl, hlt, hx⟩ := HC.out.at hbw hkn
   have y0 := hx 0 (by omega); have y1 := hx 1 (by omega); have y2 := hx 2 (by omega); have y3 := hx 3 (by omega); have y4 := hx 4 (by omega); have y5 := hx 5 (by omega); have y6 := hx 6 (by omega)
   simp only [Nat.add_zero] at y0
   clear hx hr0 hb0
   go_wp2_with fail
   go_at_call 103
   refine (toCell_any (F k) _ _ ((HF.out k hkn).up hbw) (HM.out k hkn)).mono ?_
   rintro e w1 ⟨u2, u3, u4, rfl, ht, hb⟩
   obtain ⟨p2, q2, rfl⟩ := ht.1.slice; obtain ⟨p3, q3, rfl⟩ := ht.2.1.slice; obtain ⟨p4, q4, rfl⟩ := ht.2.2.slice
   have hl0 := (hr.out (by omega)).1
   have hr1 := (hr.out (by omega)).below hb
   obtain ⟨v0, e0⟩ := (hr1.2.1 (k * 7) (by omega)).2
   have f0 := (hr1.2.1 (k * 7) (by omega)).1
   obtain ⟨v1, e1⟩ := (hr1.2.1 (k * 7 + 1) (by omega)).2
   have f1 := (hr1.2.1 (k * 7 + 1) (by omega)).1
   obtain ⟨v2, e2⟩ := (hr1.2.1 (k * 7 + 2) (by omega)).2
   have f2 := (hr1.2.1 (k * 7 + 2) (by omega)).1
   obtain ⟨v3, e3⟩ := (hr1.2.1 (k * 7 + 3) (by omega)).2
   have f3 := (hr1.2.1 (k * 7 + 3) (by omega)).1
   obtain ⟨v4, e4⟩ := (hr1.2.1 (k * 7 + 4) (by omega)).2
   have f4 := (hr1.2.1 (k * 7 + 4) (by omega)).1
   obtain ⟨v5, e5⟩ := (hr1.2.1 (k * 7 + 5) (by omega)).2
   have f5 := (hr1.2.1 (k * 7 + 5) (by omega)).1
   obtain ⟨v6, e6⟩ := (hr1.2.1 (k * 7 + 6) (by omega)).2
   have f6 := (hr1.2.1 (k * 7 + 6) (by omega)).1
   have hrs := lh (fun (_ : 0 < n) => hr1.store (vs := [.string (cn ts k).name, .int .i64 (cn ts k).kind, .slice p2 (cn ts k).pins.length q2, .slice p3 (cn ts k).arcs.length q3, .slice p4 (cn ts k).truth.length q4, .int .i64 (cn ts k).leak, .int .i64 (cn ts k).energy]) hkn rfl)
   have hgs := lh (rows_more (Q := fun w' f j => OwnCell w' (w.heap.size + 1) f (cn ts j)) (L := w.heap.size + 1) (w1 := w1) (g := w.heap.size) (o := k * 7) (fun _ _ _ _ h k => h.kept k) (by omega) (fun j hj => (hg.out j hj).kept (Kept.below hb))
    (show OwnCell w1 (w.heap.size + 1) (vec [.string (cn ts k).name, .int .i64 (cn ts k).kind, .slice p2 (cn ts k).pins.length q2, .slice p3 (cn ts k).arcs.length q3, .slice p4 (cn ts k).truth.length q4, .int .i64 (cn ts k).leak, .int .i64 (cn ts k).energy]) _ from OwnCell.mono (L := wr.heap.size) ⟨rfl, rfl, ht.1, ht.2.1, ht.2.2, rfl, rfl, (HF.out k hkn).2.2.2.2.2.2.2⟩ (by omega)))
   clear hr1 hr hg ht
   go_wp2
   go_roundw
   case rel => exact ⟨k + 1, _, by omega, by go_num, hrs, hgs, eX⟩
   case measure => simp [intOf]; omega
  ·obtain rfl : k = n := by omega
   go_wp2
   go_ret
   exact ⟨_, rfl, ⟨G, by rw [← HN.out]; exact RowF.own hr.out (by omega) (Nat.le_refl _), by rw [← HN.out]; exact fun i hi => (hg.out i hi).mono (by omega)⟩, hbw⟩
def ToLib (ts : List CellD) (w : World) (e : Ending) (w' : World) : Prop := ∃ v : Value, e = .returned (.agg #[v]) ∧ OwnCells w' w.heap.size v ts ∧ Below w.heap.size w w'
set_option maxHeartbeats 1000000 in
theorem toLibrary_any (v : Value) (ts : List CellD) (w : World) (h : CellsS w w.heap.size v ts) (hm : CellsSm ts) : Calls Tryz.prog 33 #[.agg #[v]] w (ToLib ts w) := by
 have H := lh h
 clear h
 go_enter Tryz.func33, Tryz.ntmps33
 go_wp2_with fail
 (go_at_call 65; refine (toCells_any v _ _ (H.out.up eX) hm).mono ?_; rintro e w1 ⟨u, rfl, hu, hb⟩; have ⟨hc, hf⟩ := bcell hb; have hz := hb.size; (try simp at hz); (try have hz := Nat.lt_of_succ_le hz); (try have y0 := wy w w1); (try have z0 := wz0 w w1); (try have z1 := wz1 w w1); (try have z2 := wz2 w w1); (try have z3 := wz3 w w1); (try have z4 := wz4 w w1))
 have U := lh hu
 obtain ⟨p, q, rfl⟩ := hu.slice
 clear hu
 go_wp2_with fail
 have q' := U.out.mono (M := w.heap.size + 1 + 1 + 1) (by simp)
 exact bodyPost_ret (v := .agg #[.slice p ts.length q]) (by simp [results, Tryz.results33, go_sem, *]) rfl
  ⟨_, rfl, OwnCells.mono (L := w.heap.size + 1 + 1 + 1) (q'.kept (by (repeat (first | (with_reducible exact Kept.refl _ _) | (with_reducible assumption) | (with_reducible refine Kept.alloc ?_ _) | (with_reducible refine Kept.drew ?_) | (with_reducible refine Kept.drewN ?_ _) | (with_reducible refine Kept.set ?_ (by first | omega | (simp; omega) | simp) _) | (with_reducible refine Kept.call ?_ (by assumption)))))) (by omega), eX⟩
def libB (ts : List CellD) : Bool := decide (ts.length ≤ 8) && allB (fun i => cellB (cn ts i)) ts.length && allB (difCl ts) ts.length
theorem lib_long {ts : List CellD} (h : 8 < ts.length) : libB ts = false := by
 have : ¬ ts.length ≤ 8 := by omega
 simp [libB, this]
theorem lib_bad {ts : List CellD} {k : Nat} (hk : k < ts.length) (h : cellB (cn ts k) = false) : libB ts = false := by
 unfold libB
 rw [allB_no (p := fun i => cellB (cn ts i)) hk h]
 simp
theorem lib_dup {ts : List CellD} {k : Nat} (hk : k < ts.length) (h : difCl ts k = false) : libB ts = false := by
 unfold libB
 rw [allB_no (p := difCl ts) hk h]
 simp
theorem lib_all {ts : List CellD} (h0 : ts.length ≤ 8) (h : ∀ i, i < ts.length → cellB (cn ts i) = true) : libB ts = allB (difCl ts) ts.length := by
 unfold libB
 rw [allB_yes (p := fun i => cellB (cn ts i)) h]
 simp [h0]
set_option maxHeartbeats 4000000 in
theorem implIsLibrary_any (v : Value) (ts : List CellD) (w : World) (h : CellsS w w.heap.size v ts) : Calls Tryz.prog 147 #[.agg #[v]] w fun e w' => e = .returned (.bool (libB ts)) ∧ Below w.heap.size w w' := by
 have H := lh h
 obtain ⟨F, hc, hf⟩ := h
 obtain ⟨n, hnn⟩ : ∃ n, n = ts.length := ⟨_, rfl⟩
 rw [← hnn] at hc hf
 have HC := hc
 obtain ⟨hn, a, cap, rfl, _⟩ := hc
 have HC := lh HC; have HF := lh hf; have HN := lh hnn
 clear hf hnn
 by_cases c8 : 8 < n
 ·have hQ := lh (lib_long (ts := ts) (by have := HN.out; omega))
  have c8' : (8 : Int) < (n : Int) := by omega
  go_enter Tryz.func147, Tryz.ntmps147
  go_wp2
  rw [hQ.out]
  go_ret
  exact ⟨rfl, eX⟩
 ·have c8' : ¬ (8 : Int) < (n : Int) := by omega
  go_enter Tryz.func147, Tryz.ntmps147
  go_wp2
  go_loopw [12] (fun i wr => ∃ k : Nat, k ≤ n ∧ i = .int .i64 k ∧ Hid (∀ j, j < k → cellB (cn ts j) = true) ∧ wr.cell? ⟨w.heap.size, 0, none⟩ = some (.slice a n cap) ∧ Below w.heap.size w wr) (fun i _ => n - (intOf i).toNat)
  case atStart => exact ⟨0, by omega, rfl, lh (fun j hj => absurd hj (Nat.not_lt_zero j)), by simp [go_sem], eX⟩
  case round =>
   obtain ⟨k, hk, rfl, hall, r0, hbw⟩ := hrel
   by_cases hkn : k < n
   ·obtain ⟨b, off, rfl, hlt, hx⟩ := HC.out.at hbw hkn
    have y0 := hx 0 (by omega); have y1 := hx 1 (by omega); have y2 := hx 2 (by omega); have y3 := hx 3 (by omega); have y4 := hx 4 (by omega); have y5 := hx 5 (by omega); have y6 := hx 6 (by omega)
    simp only [Nat.add_zero] at y0
    have ⟨e0, e1, x2, x3, x4, e5, e6, hs⟩ := (HF.out k hkn).up hbw
    obtain ⟨p2, q2, e2⟩ := x2.slice; obtain ⟨p3, q3, e3⟩ := x3.slice; obtain ⟨p4, q4, e4⟩ := x4.slice
    rw [e2] at x2; rw [e3] at x3; rw [e4] at x4
    rw [e0] at y0; rw [e1] at y1; rw [e2] at y2; rw [e3] at y3; rw [e4] at y4; rw [e5] at y5; rw [e6] at y6
    have HA := lh (show CellF wr wr.heap.size (vec [.string (cn ts k).name, .int .i64 (cn ts k).kind, .slice p2 (cn ts k).pins.length q2, .slice p3 (cn ts k).arcs.length q3, .slice p4 (cn ts k).truth.length q4, .int .i64 (cn ts k).leak, .int .i64 (cn ts k).energy]) (cn ts k) from ⟨rfl, rfl, x2, x3, x4, rfl, rfl, hs⟩)
    have HI := lh (fun (w1 : World) (hb : Below wr.heap.size wr w1) => (show Calls Tryz.prog 174 #[.agg #[.string (cn ts k).name, .int .i64 (cn ts k).kind, .slice p2 (cn ts k).pins.length q2, .slice p3 (cn ts k).arcs.length q3, .slice p4 (cn ts k).truth.length q4, .int .i64 (cn ts k).leak, .int .i64 (cn ts k).energy]] w1 _ from implIsCell_any (vec [.string (cn ts k).name, .int .i64 (cn ts k).kind, .slice p2 (cn ts k).pins.length q2, .slice p3 (cn ts k).arcs.length q3, .slice p4 (cn ts k).truth.length q4, .int .i64 (cn ts k).leak, .int .i64 (cn ts k).energy]) (cn ts k) w1 (HA.out.up hb)))
    have hI : (k : Int) < (n : Int) := by omega
    have i0 : (0 : Int) ≤ (k : Int) := by omega
    clear hx e0 e1 e2 e3 e4 e5 e6 x2 x3 x4 hs
    cases hcb : cellB (cn ts k)
    ·have hQ := lh (lib_bad (ts := ts) (k := k) (by have := HN.out; omega) hcb)
     rw [hcb] at HI
     clear hcb
     go_wp2_with (go_at_call 174; refine (HI.out _ eX).mono ?_; rintro e w1 ⟨rfl, hb⟩; have ⟨hc, hf⟩ := bcell hb; have hz := hb.size; (try simp at hz); (try have hz := Nat.lt_of_succ_le hz); (try have y0 := wy w w1); (try have z0 := wz0 w w1); (try have z1 := wz1 w w1); (try have z2 := wz2 w w1); (try have z3 := wz3 w w1); (try have z4 := wz4 w w1); (try have x0 := wz0 wc w1); (try have x1 := wy wc w1))
     rw [hQ.out]
     go_ret
     exact ⟨rfl, eX⟩
    ·have hok := lh (all_more (p := fun j => cellB (cn ts j) = true) hall.out hcb)
     rw [hcb] at HI
     clear hcb
     go_wp2_with (go_at_call 174; refine (HI.out _ eX).mono ?_; rintro e w1 ⟨rfl, hb⟩; have ⟨hc, hf⟩ := bcell hb; have hz := hb.size; (try simp at hz); (try have hz := Nat.lt_of_succ_le hz); (try have y0 := wy w w1); (try have z0 := wz0 w w1); (try have z1 := wz1 w w1); (try have z2 := wz2 w w1); (try have z3 := wz3 w w1); (try have z4 := wz4 w w1); (try have x0 := wz0 wc w1); (try have x1 := wy wc w1))
     go_roundw
     case rel => exact ⟨k + 1, by omega, by go_num, hok, by first | exact cell_keep r0 eX, eX⟩
     case measure => simp [intOf]; omega
   ·obtain rfl : k = n := by omega
    have hI : ¬ (k : Int) < (k : Int) := by omega
    have HB := lh (lib_all (ts := ts) (by have := HN.out; omega) (by rw [← HN.out]; exact hall.out))
    have HX := lh (difCl_any _ ts wr (H.out.up hbw))
    rw [← HB.out] at HX
    go_wp2_with fail
    (go_at_call 175; refine (HX.out).mono ?_; rintro e w1 ⟨rfl, hb⟩; have ⟨hc, hf⟩ := bcell hb; have hz := hb.size; (try simp at hz); (try have hz := Nat.lt_of_succ_le hz); (try have y0 := wy w w1); (try have z0 := wz0 w w1); (try have z1 := wz1 w w1); (try have z2 := wz2 w w1); (try have z3 := wz3 w w1); (try have z4 := wz4 w w1))
    go_wp2_with fail
    go_ret
    exact ⟨rfl, eX⟩
end Go.Proofs.YtkpfbnffhhmokaaGreat
