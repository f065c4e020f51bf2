/-
Valid blocks: contracts of the program's netlistOfBlock (its second answer) and IsBlock, and of the model's IsBlock, for all blocks.
-/
import Derived.Test.YtkpfbnffhhmokaaGreatNetF
import Derived.Test.YtkpfbnffhhmokaaGreatNetG
import Derived.Test.YtkpfbnffhhmokaaGreatWirC
import Derived.Test.YtkpfbnffhhmokaaGreatBlk
namespace Go.Proofs.YtkpfbnffhhmokaaGreat
open Go.ChangeShapes Go.WideShapes Go.ChangeAt Go.RowKit
set_option linter.unusedVariables false
set_option linter.unusedSimpArgs false
def snkN (z : BlkD) (k : Nat) : Nat := (endsL (places z.lib z.des) (k : Int) false).length
def wireAt (z : BlkD) (k : Nat) : Bool := wireB (wrn z.wires k) (snkN z k : Int)
def blkB (z : BlkD) : Bool := desB z.lib z.des && decide (z.wires.length = z.des.nets.length) && allB (wireAt z) z.wires.length
theorem blk_get {z : BlkD} (h : blkB z = true) : desB z.lib z.des = true ∧ z.wires.length = z.des.nets.length ∧ ∀ k, k < z.wires.length → wireAt z k = true := by
 simp only [blkB, Bool.and_eq_true, decide_eq_true_eq] at h
 exact ⟨h.1.1, h.1.2, allB_get h.2⟩
theorem blk_des {z : BlkD} (h : desB z.lib z.des = false) : blkB z = false := by simp [blkB, h]
theorem blk_len {z : BlkD} (h : ¬ z.wires.length = z.des.nets.length) : blkB z = false := by simp [blkB, h]
theorem blk_wire {z : BlkD} {k : Nat} (hk : k < z.wires.length) (h : wireAt z k = false) : blkB z = false := by simp [blkB, allB_no hk h]
theorem blk_all {z : BlkD} (h : desB z.lib z.des = true) (h1 : z.wires.length = z.des.nets.length) (h2 : ∀ k, k < z.wires.length → wireAt z k = true) : blkB z = true := by simp [blkB, h, h1, allB_yes (p := wireAt z) (n := z.des.nets.length) (fun i hi => h2 i (by omega))]
theorem des_nets {ts : List CellD} {d : DesD} (h : desB ts d = true) : d.nets.length ≤ 30 := by
 have h' := (desG h).2.1
 simp only [sizesB, Bool.and_eq_true, decide_eq_true_eq] at h'
 exact h'.1.2
set_option maxHeartbeats 8000000 in
theorem specIsBlock_any (f : Nat → Value) (z : BlkD) (w : World) (h : BlkF w w.heap.size f z) : Calls Tryz.prog 81 #[.agg #[f 0, f 1, f 2, f 3, f 4]] w fun e w' => e = .returned (.bool (blkB z)) ∧ Below w.heap.size w w' := by
 have HD := lh (fun (w1 : World) (hb : Below w.heap.size w w1) => specIsDesign_any (f 0) (vec [f 1, f 2, f 3]) z.lib z.des w1 (h.1.up hb) (h.2.1.up hb))
 have HS := lh (fun (hd : desB z.lib z.des = true) (x : Int) (w1 : World) (hb : Below w.heap.size w w1) => specSinks_any (vec [f 1, f 2, f 3]) z.lib z.des x w1 (h.2.1.up hb) hd)
 obtain ⟨p0, q0, p1, q1, p2, q2, p3, q3, p4, q4, e0, e1, e2, e3, e4⟩ := h.five
 obtain ⟨F, hc, hf⟩ := h.2.2
 rw [e4] at hc
 have HC := lh hc; have HF := lh hf
 have ln4 := hc.1
 have ln2 := h.2.1.2.1.len
 rw [e0, e1, e2, e3] at HD; rw [e1, e2, e3] at HS
 rw [e0, e1, e2, e3, e4]
 clear e0 e1 e2 e3 e4 h hc hf
 cases hd : desB z.lib z.des
 ·have hQ := lh (blk_des hd)
  rw [hd] at HD
  clear hd HS
  go_enter Tryz.func81, Tryz.ntmps81
  go_wp2_with (go_at_call 115; refine (HD.out _ eX).mono ?_; rintro e w1 ⟨rfl, hb⟩; have ⟨hc, hf⟩ := bcell hb; have hz := hb.size; (try simp at hz); (try have hz := Nat.lt_of_succ_le hz); (try have y0 := wy w w1); (try have z0 := wz0 w w1); (try have z1 := wz1 w w1); (try have z2 := wz2 w w1); (try have z3 := wz3 w w1); (try have z4 := wz4 w w1); (try have x0 := wz0 wc w1); (try have x1 := wy wc w1))
  rw [hQ.out]
  go_ret
  exact ⟨rfl, eX⟩
 ·have HS' := lh (HS.out hd)
  have hdd := lh hd
  rw [hd] at HD
  clear hd HS
  by_cases hl : z.wires.length = z.des.nets.length
  ·have hll := lh hl
   have hle := lh (show z.wires.length ≤ 30 by rw [hl]; exact des_nets hdd.out)
   rw [← hl]
   have hz : ((z.wires.length : Int) == (z.wires.length : Int)) = true := by simp
   rw [← hl] at HD HS'
   clear hl
   obtain ⟨n, hn⟩ : ∃ n, n = z.wires.length := ⟨_, rfl⟩
   have HN := lh hn
   rw [← hn] at HD HS' HC HF ln4 hz hle ⊢
   clear hn
   obtain ⟨U, hU⟩ : ∃ U, U = w.alloc (Obj.cells #[.slice p0 z.lib.length q0, .slice p1 z.des.insts.length q1, .slice p2 n q2, .slice p3 z.des.ports.length q3, .slice p4 n q4] 46) := ⟨_, rfl⟩
   have k0 : U.cell? ⟨w.heap.size, 0, none⟩ = some (.slice p0 z.lib.length q0) := by rw [hU]; simp [go_sem]
   have k1 : U.cell? ⟨w.heap.size, 1, none⟩ = some (.slice p1 z.des.insts.length q1) := by rw [hU]; simp [go_sem]
   have k2 : U.cell? ⟨w.heap.size, 2, none⟩ = some (.slice p2 n q2) := by rw [hU]; simp [go_sem]
   have k3 : U.cell? ⟨w.heap.size, 3, none⟩ = some (.slice p3 z.des.ports.length q3) := by rw [hU]; simp [go_sem]
   have k4 : U.cell? ⟨w.heap.size, 4, none⟩ = some (.slice p4 n q4) := by rw [hU]; simp [go_sem]
   have bU : Below w.heap.size w U := by rw [hU]; exact (Below.refl _ _).alloc (Nat.le_refl _) _
   have sU : w.heap.size < U.heap.size := by rw [hU]; simp
   have HU := lh hU
   clear hU
   go_enter Tryz.func81, Tryz.ntmps81
   go_wp2_with fail
   rw [← HU.out]
   go_at_call 115
   refine (HD.out _ bU).mono ?_
   rintro e w1 ⟨rfl, hb⟩
   have b1 := ext_trans bU hb
   have g0 := cell_keep k0 hb
   have g1 := cell_keep k1 hb
   have g2 := cell_keep k2 hb
   have g3 := cell_keep k3 hb
   have g4 := cell_keep k4 hb
   have sz : w.heap.size < w1.heap.size := by have := hb.size; omega
   clear k0 k1 k2 k3 k4
   clear hb bU
   go_wp2
   go_loopw [3] (fun i wr => ∃ k : Nat, k ≤ n ∧ i = .int .i64 k ∧ Hid (∀ j, j < k → wireAt z j = true) ∧ Below w1.heap.size w1 wr) (fun i _ => n - (intOf i).toNat)
   case atStart => exact ⟨0, by omega, rfl, lh (fun j hj => absurd hj (Nat.not_lt_zero j)), eX⟩
   case round =>
    obtain ⟨k, hk, rfl, hall, hbr⟩ := hrel
    have hbw : Below w.heap.size w wr := b1.trans (hbr.mono b1.size)
    have r0 := cell_keep g0 hbr
    have r1 := cell_keep g1 hbr
    have r2 := cell_keep g2 hbr
    have r3 := cell_keep g3 hbr
    have r4 := cell_keep g4 hbr
    by_cases hkn : k < n
    ·obtain ⟨b, off, e, hlt, hx⟩ := HC.out.at hbw hkn
     subst e
     have y0 := hx 0 (by omega); have y1 := hx 1 (by omega); have y2 := hx 2 (by omega); have y3 := hx 3 (by omega)
     simp only [Nat.add_zero] at y0
     have hI : (k : Int) < (n : Int) := by omega
     have i0 : (0 : Int) ≤ (k : Int) := by omega
     have HW := lh (fun (w2 : World) (hb : Below w.heap.size w w2) => specIsWire_any (F k) (wrn z.wires k) (snkN z k : Int) w2 ((HF.out k hkn).up hb))
     have HS2 := lh (fun (w2 : World) (hb : Below w.heap.size w w2) => HS'.out (k : Int) w2 hb)
     have sz1 : w.heap.size < wr.heap.size := by have := hbr.size; omega
     have sz2 : b < wr.heap.size := by omega
     clear hx
     cases hd : wireAt z k
     ·have hQ := lh (blk_wire (by rw [← HN.out]; exact hkn) hd)
      have HW1 := lh (show ∀ (w2 : World), Below w.heap.size w w2 → _ from fun w2 hb => (show wireB (wrn z.wires k) (snkN z k : Int) = false from hd) ▸ HW.out w2 hb)
      clear HW hd
      go_wp2
      go_region_held3 (fun w' => w'.cell? ⟨w.heap.size, 1, none⟩ = some (.slice p1 z.des.insts.length q1) ∧ w'.cell? ⟨w.heap.size, 2, none⟩ = some (.slice p2 n q2) ∧ w'.cell? ⟨w.heap.size, 3, none⟩ = some (.slice p3 z.des.ports.length q3) ∧ w'.cell? ⟨w.heap.size, 4, none⟩ = some (.slice (some ⟨b, off, none⟩) n q4) ∧ w'.cell? ⟨b, off + k * 4, none⟩ = some (F k 0) ∧ w'.cell? ⟨b, off + k * 4 + 1, none⟩ = some (F k 1) ∧ w'.cell? ⟨b, off + k * 4 + 2, none⟩ = some (F k 2) ∧ w'.cell? ⟨b, off + k * 4 + 3, none⟩ = some (F k 3) ∧ Below wr.heap.size wr w' ∧ b < w'.heap.size) (first | exact (Hid.out (by assumption)) | exact keep8 (Hid.out (by assumption)) ((Below.refl _ _).alloc (Nat.le_refl _) _) | exact keep8s (keep8s (Hid.out (by assumption))) | exact keep8s (Hid.out (by assumption)) | ((repeat' apply And.intro) <;> first | assumption | ((exact eX); done) | (simp [go_sem]; done) | (simp [go_sem, *]; done) | (simp; omega) | omega)) (first | ((go_at_call 86; refine (HS2.out _ eX).mono ?_; rintro e w8 ⟨u, rfl, hu, hb⟩; have ⟨hc, hf⟩ := bcell hb; have hz := hb.size; (try simp at hz); (try have hz := Nat.lt_of_succ_le hz); (try have y0 := wy w w8); (try have z0 := wz0 w w8); (try have z1 := wz1 w w8); (try have z2 := wz2 w w8); (try have z3 := wz3 w w8); (try have z4 := wz4 w w8)); obtain ⟨pu, qu, rfl⟩ := hu.slice; clear hu; have hS := lh (keep8 (by assumption) hb); have zL := (Hid.out hS).2.2.2.2.2.2.2.2.2) | ((go_at_call 116; refine (HW1.out _ eX).mono ?_; rintro e w9 ⟨rfl, hb⟩; have ⟨hc, hf⟩ := bcell hb; have hz := hb.size; (try simp at hz); (try have hz := Nat.lt_of_succ_le hz); (try have y0 := wy w w9); (try have z0 := wz0 w w9); (try have z1 := wz1 w w9); (try have z2 := wz2 w w9); (try have z3 := wz3 w w9); (try have z4 := wz4 w w9)); have hS := lh (keep8 (by assumption) hb); have zL := (Hid.out hS).2.2.2.2.2.2.2.2.2))
      all_goals
       go_wp2_with fail
       rw [hQ.out]
       go_ret
       exact ⟨rfl, eX⟩
     ·have hok := lh (all_next hall.out hd)
      have HW1 := lh (show ∀ (w2 : World), Below w.heap.size w w2 → _ from fun w2 hb => (show wireB (wrn z.wires k) (snkN z k : Int) = true from hd) ▸ HW.out w2 hb)
      clear HW hd
      go_wp2
      go_region_held3 (fun w' => w'.cell? ⟨w.heap.size, 1, none⟩ = some (.slice p1 z.des.insts.length q1) ∧ w'.cell? ⟨w.heap.size, 2, none⟩ = some (.slice p2 n q2) ∧ w'.cell? ⟨w.heap.size, 3, none⟩ = some (.slice p3 z.des.ports.length q3) ∧ w'.cell? ⟨w.heap.size, 4, none⟩ = some (.slice (some ⟨b, off, none⟩) n q4) ∧ w'.cell? ⟨b, off + k * 4, none⟩ = some (F k 0) ∧ w'.cell? ⟨b, off + k * 4 + 1, none⟩ = some (F k 1) ∧ w'.cell? ⟨b, off + k * 4 + 2, none⟩ = some (F k 2) ∧ w'.cell? ⟨b, off + k * 4 + 3, none⟩ = some (F k 3) ∧ Below wr.heap.size wr w' ∧ b < w'.heap.size) (first | exact (Hid.out (by assumption)) | exact keep8 (Hid.out (by assumption)) ((Below.refl _ _).alloc (Nat.le_refl _) _) | exact keep8s (keep8s (Hid.out (by assumption))) | exact keep8s (Hid.out (by assumption)) | ((repeat' apply And.intro) <;> first | assumption | ((exact eX); done) | (simp [go_sem]; done) | (simp [go_sem, *]; done) | (simp; omega) | omega)) (first | ((go_at_call 86; refine (HS2.out _ eX).mono ?_; rintro e w8 ⟨u, rfl, hu, hb⟩; have ⟨hc, hf⟩ := bcell hb; have hz := hb.size; (try simp at hz); (try have hz := Nat.lt_of_succ_le hz); (try have y0 := wy w w8); (try have z0 := wz0 w w8); (try have z1 := wz1 w w8); (try have z2 := wz2 w w8); (try have z3 := wz3 w w8); (try have z4 := wz4 w w8)); obtain ⟨pu, qu, rfl⟩ := hu.slice; clear hu; have hS := lh (keep8 (by assumption) hb); have zL := (Hid.out hS).2.2.2.2.2.2.2.2.2) | ((go_at_call 116; refine (HW1.out _ eX).mono ?_; rintro e w9 ⟨rfl, hb⟩; have ⟨hc, hf⟩ := bcell hb; have hz := hb.size; (try simp at hz); (try have hz := Nat.lt_of_succ_le hz); (try have y0 := wy w w9); (try have z0 := wz0 w w9); (try have z1 := wz1 w w9); (try have z2 := wz2 w w9); (try have z3 := wz3 w w9); (try have z4 := wz4 w w9)); have hS := lh (keep8 (by assumption) hb); have zL := (Hid.out hS).2.2.2.2.2.2.2.2.2))
      all_goals
       go_wp2_with fail
       go_roundw
       case rel => exact ⟨k + 1, by omega, by go_num, hok, eX⟩
       case measure => simp [intOf]; omega
    ·obtain rfl : k = n := by omega
     have hI : ¬ (k : Int) < (k : Int) := by omega
     have hQ := lh (blk_all hdd.out hll.out (by rw [← HN.out]; exact hall.out))
     go_wp2
     rw [hQ.out]
     go_ret
     exact ⟨rfl, eX⟩
  ·have hQ := lh (blk_len hl)
   have hz : ((z.wires.length : Int) == (z.des.nets.length : Int)) = false := by simp; omega
   clear hl
   go_enter Tryz.func81, Tryz.ntmps81
   go_wp2_with (go_at_call 115; refine (HD.out _ eX).mono ?_; rintro e w1 ⟨rfl, hb⟩; have ⟨hc, hf⟩ := bcell hb; have hz := hb.size; (try simp at hz); (try have hz := Nat.lt_of_succ_le hz); (try have y0 := wy w w1); (try have z0 := wz0 w w1); (try have z1 := wz1 w w1); (try have z2 := wz2 w w1); (try have z3 := wz3 w w1); (try have z4 := wz4 w w1); (try have x0 := wz0 wc w1); (try have x1 := wy wc w1))
   rw [hQ.out]
   go_ret
   exact ⟨rfl, eX⟩
/-- The netlist of a block: what it answers, and what the netlist of a valid one is. -/
def BlkNet (z : BlkD) (w : World) (e : Ending) (w' : World) : Prop := ∃ a n c m, e = .returned (.tuple #[.agg #[.slice a n c, .map m], .bool (blkB z)]) ∧ Below w.heap.size w w' ∧ (blkB z = true → NetK w' w.heap.size (places z.lib z.des) (.agg #[.slice a n c, .map m]))
/-- And of a block that is not valid it is empty. -/
def BlkNet0 (z : BlkD) (w : World) (e : Ending) (w' : World) : Prop := BlkNet z w e w' ∧ (blkB z = false → e = .returned (.tuple #[.agg #[.slice none 0 0, .map none], .bool false]))
theorem blkNet_no {z : BlkD} {w w' : World} {e : Ending} (h : blkB z = false) (he : e = .returned (.tuple #[.agg #[.slice none 0 0, .map none], .bool false])) (hb : Below w.heap.size w w') : BlkNet0 z w e w' :=
 ⟨⟨none, 0, 0, none, by rw [h]; exact he, hb, fun e => by rw [h] at e; cases e⟩, fun _ => he⟩
set_option maxHeartbeats 16000000 in
theorem netBlk_all0 (f : Nat → Value) (z : BlkD) (w : World) (h : BlkF w w.heap.size f z) : Calls Tryz.prog 90 #[.agg #[f 0, f 1, f 2, f 3, f 4]] w (BlkNet0 z w) := by
 have HD := lh (fun (w1 : World) (hb : Below w.heap.size w w1) => netlistOf_all (f 0) (vec [f 1, f 2, f 3]) z.lib z.des w1 (h.1.up hb) (h.2.1.up hb))
 obtain ⟨p0, q0, p1, q1, p2, q2, p3, q3, p4, q4, e0, e1, e2, e3, e4⟩ := h.five
 obtain ⟨F, hc, hf⟩ := h.2.2
 rw [e4] at hc
 have HC := lh hc; have HF := lh hf
 have ln4 := hc.1
 have ln2 := h.2.1.2.1.len
 rw [e0, e1, e2, e3] at HD
 rw [e0, e1, e2, e3, e4]
 clear e0 e1 e2 e3 e4 h hc hf
 unfold NetOfA at HD
 cases hd : desB z.lib z.des
 ·have hQ := lh (blk_des hd)
  rw [hd] at HD
  clear hd
  obtain ⟨U, hU⟩ : ∃ U, U = (w.alloc (Obj.cells #[.slice p0 z.lib.length q0, .slice p1 z.des.insts.length q1, .slice p2 z.des.nets.length q2, .slice p3 z.des.ports.length q3, .slice p4 z.wires.length q4] 46)).alloc (Obj.cells #[.slice none 0 0, .map none] 140) := ⟨_, rfl⟩
  have k0 : U.cell? ⟨w.heap.size, 0, none⟩ = some (.slice p0 z.lib.length q0) := by rw [hU]; simp [go_sem]
  have k1 : U.cell? ⟨w.heap.size, 1, none⟩ = some (.slice p1 z.des.insts.length q1) := by rw [hU]; simp [go_sem]
  have k2 : U.cell? ⟨w.heap.size, 2, none⟩ = some (.slice p2 z.des.nets.length q2) := by rw [hU]; simp [go_sem]
  have k3 : U.cell? ⟨w.heap.size, 3, none⟩ = some (.slice p3 z.des.ports.length q3) := by rw [hU]; simp [go_sem]
  have k4 : U.cell? ⟨w.heap.size, 4, none⟩ = some (.slice p4 z.wires.length q4) := by rw [hU]; simp [go_sem]
  have v0 : U.cell? ⟨w.heap.size + 1, 0, none⟩ = some (.slice none 0 0) := by rw [hU]; simp [go_sem]
  have v1 : U.cell? ⟨w.heap.size + 1, 1, none⟩ = some (.map none) := by rw [hU]; simp [go_sem]
  have f0 : U.frozen? ⟨w.heap.size + 1, 0, none⟩ = false := by rw [hU]; simp [go_sem]
  have f1 : U.frozen? ⟨w.heap.size + 1, 1, none⟩ = false := by rw [hU]; simp [go_sem]
  have bU : Below w.heap.size w U := by rw [hU]; exact ((Below.refl _ _).alloc (Nat.le_refl _) _).alloc (by simp) _
  have sU : w.heap.size + 1 < U.heap.size := cell_lt v0
  have HU := lh hU
  clear hU
  go_enter Tryz.func90, Tryz.ntmps90
  go_wp2_with fail
  rw [← HU.out]
  go_at_call 117
  refine (HD.out _ bU).mono ?_
  rintro e w1 ⟨v, rfl, ⟨a, cap, m, rfl, hP, hLk, hb⟩, hv⟩
  have HV := lh hv; clear hv
  have HK := lh hLk
  have b1 := ext_trans bU hb
  have g0 := cell_keep k0 hb
  have g1 := cell_keep k1 hb
  have g2 := cell_keep k2 hb
  have g3 := cell_keep k3 hb
  have g4 := cell_keep k4 hb
  have t0 := cell_keep v0 hb
  have t1 := cell_keep v1 hb
  have u0 : w1.frozen? ⟨w.heap.size + 1, 0, none⟩ = false := by rw [hb.frozen (p := ⟨w.heap.size + 1, 0, none⟩) sU]; exact f0
  have u1 : w1.frozen? ⟨w.heap.size + 1, 1, none⟩ = false := by rw [hb.frozen (p := ⟨w.heap.size + 1, 1, none⟩) sU]; exact f1
  have sz : w.heap.size + 1 < w1.heap.size := by have := hb.size; omega
  have sz0 : w.heap.size < w1.heap.size := by omega
  clear hP hLk k0 k1 k2 k3 k4 v0 v1 f0 f1 hb bU
  go_wp2
  exact bodyPost_ret (v := .tuple #[.agg #[.slice none 0 0, .map none], .bool false]) (by simp [results, Tryz.results90, go_sem, *]) rfl (blkNet_no hQ.out rfl eX)
 ·have hdd := lh hd
  rw [hd] at HD
  have hPZ := placesZ_yes hd
  rw [hPZ] at HD
  clear hd hPZ
  have hPl := placesM hdd.out
  by_cases hl : z.wires.length = z.des.nets.length
  ·have hll := lh hl
   have hle := lh (show z.wires.length ≤ 30 by rw [hl]; exact des_nets hdd.out)
   rw [← hl]
   have hz : ((z.wires.length : Int) == (z.wires.length : Int)) = true := by simp
   rw [← hl] at HD
   clear hl
   obtain ⟨n, hn⟩ : ∃ n, n = z.wires.length := ⟨_, rfl⟩
   have HN := lh hn
   rw [← hn] at HD HC HF ln4 hz hle ⊢
   clear hn
   obtain ⟨U, hU⟩ : ∃ U, U = (w.alloc (Obj.cells #[.slice p0 z.lib.length q0, .slice p1 z.des.insts.length q1, .slice p2 n q2, .slice p3 z.des.ports.length q3, .slice p4 n q4] 46)).alloc (Obj.cells #[.slice none 0 0, .map none] 140) := ⟨_, rfl⟩
   have k0 : U.cell? ⟨w.heap.size, 0, none⟩ = some (.slice p0 z.lib.length q0) := by rw [hU]; simp [go_sem]
   have k1 : U.cell? ⟨w.heap.size, 1, none⟩ = some (.slice p1 z.des.insts.length q1) := by rw [hU]; simp [go_sem]
   have k2 : U.cell? ⟨w.heap.size, 2, none⟩ = some (.slice p2 n q2) := by rw [hU]; simp [go_sem]
   have k3 : U.cell? ⟨w.heap.size, 3, none⟩ = some (.slice p3 z.des.ports.length q3) := by rw [hU]; simp [go_sem]
   have k4 : U.cell? ⟨w.heap.size, 4, none⟩ = some (.slice p4 n q4) := by rw [hU]; simp [go_sem]
   have v0 : U.cell? ⟨w.heap.size + 1, 0, none⟩ = some (.slice none 0 0) := by rw [hU]; simp [go_sem]
   have v1 : U.cell? ⟨w.heap.size + 1, 1, none⟩ = some (.map none) := by rw [hU]; simp [go_sem]
   have f0 : U.frozen? ⟨w.heap.size + 1, 0, none⟩ = false := by rw [hU]; simp [go_sem]
   have f1 : U.frozen? ⟨w.heap.size + 1, 1, none⟩ = false := by rw [hU]; simp [go_sem]
   have bU : Below w.heap.size w U := by rw [hU]; exact ((Below.refl _ _).alloc (Nat.le_refl _) _).alloc (by simp) _
   have sU : w.heap.size + 1 < U.heap.size := cell_lt v0
   have HU := lh hU
   clear hU
   go_enter Tryz.func90, Tryz.ntmps90
   go_wp2_with fail
   rw [← HU.out]
   go_at_call 117
   refine (HD.out _ bU).mono ?_
   rintro e w1 ⟨v, rfl, ⟨a, cap, m, rfl, hP, hLk, hb⟩, hv⟩
   have HV := lh hv; clear hv
   have HK := lh hLk
   have b1 := ext_trans bU hb
   have g0 := cell_keep k0 hb
   have g1 := cell_keep k1 hb
   have g2 := cell_keep k2 hb
   have g3 := cell_keep k3 hb
   have g4 := cell_keep k4 hb
   have t0 := cell_keep v0 hb
   have t1 := cell_keep v1 hb
   have u0 : w1.frozen? ⟨w.heap.size + 1, 0, none⟩ = false := by rw [hb.frozen (p := ⟨w.heap.size + 1, 0, none⟩) sU]; exact f0
   have u1 : w1.frozen? ⟨w.heap.size + 1, 1, none⟩ = false := by rw [hb.frozen (p := ⟨w.heap.size + 1, 1, none⟩) sU]; exact f1
   have sz : w.heap.size + 1 < w1.heap.size := by have := hb.size; omega
   have sz0 : w.heap.size < w1.heap.size := by omega
   clear hP hLk k0 k1 k2 k3 k4 v0 v1 f0 f1 hb bU
   obtain ⟨W, hW⟩ : ∃ W, W = w1.alloc (Obj.cells #[.slice a (places z.lib z.des).length cap, .map m] 140) := ⟨_, rfl⟩
   have bA : Below w1.heap.size w1 W := by rw [hW]; exact (Below.refl _ _).alloc (Nat.le_refl _) _
   have n0 : W.cell? ⟨w1.heap.size, 0, none⟩ = some (.slice a (places z.lib z.des).length cap) := by rw [hW]; simp [go_sem]
   have n1 : W.cell? ⟨w1.heap.size, 1, none⟩ = some (.map m) := by rw [hW]; simp [go_sem]
   have h0 := cell_keep g0 bA
   have h1 := cell_keep g1 bA
   have h2 := cell_keep g2 bA
   have h3 := cell_keep g3 bA
   have h4 := cell_keep g4 bA
   have w40 := cell_keep t0 bA
   have w41 := cell_keep t1 bA
   have wf0 : W.frozen? ⟨w.heap.size + 1, 0, none⟩ = false := by rw [bA.frozen (p := ⟨w.heap.size + 1, 0, none⟩) sz]; exact u0
   have wf1 : W.frozen? ⟨w.heap.size + 1, 1, none⟩ = false := by rw [bA.frozen (p := ⟨w.heap.size + 1, 1, none⟩) sz]; exact u1
   have bW := b1.trans (bA.mono b1.size)
   have sW : w1.heap.size < W.heap.size := cell_lt n0
   go_wp2
   rw [← hW]
   have HWW := lh hW
   have BA := lh bA
   have sL : w.heap.size + 1 < U.heap.size := sU
   have HVb := lh ((HV.out (by trivial)).below bA)
   clear hW bA g0 g1 g2 g3 g4 t0 t1 u0 u1
   go_loopw [32] (fun i wr => ∃ k : Nat, k ≤ n ∧ i = .int .i64 k ∧ Hid (∀ j, j < k → wireAt z j = true) ∧ Below W.heap.size W wr) (fun i _ => n - (intOf i).toNat)
   case atStart => exact ⟨0, by omega, rfl, lh (fun j hj => absurd hj (Nat.not_lt_zero j)), eX⟩
   case round =>
    obtain ⟨k, hk, rfl, hall, hbr⟩ := hrel
    have hbw : Below w.heap.size w wr := bW.trans (hbr.mono bW.size)
    have hb1 : Below w1.heap.size w1 wr := BA.out.trans (hbr.mono BA.out.size)
    have r40 := cell_keep w40 hbr
    have r41 := cell_keep w41 hbr
    have rf0 : wr.frozen? ⟨w.heap.size + 1, 0, none⟩ = false := by rw [hbr.frozen (p := ⟨w.heap.size + 1, 0, none⟩) (show w.heap.size + 1 < W.heap.size by omega)]; exact wf0
    have rf1 : wr.frozen? ⟨w.heap.size + 1, 1, none⟩ = false := by rw [hbr.frozen (p := ⟨w.heap.size + 1, 1, none⟩) (show w.heap.size + 1 < W.heap.size by omega)]; exact wf1
    have rn0 := cell_keep n0 hbr
    have rn1 := cell_keep n1 hbr
    by_cases hkn : k < n
    ·obtain ⟨b, off, e, hlt, hx⟩ := HC.out.at hbw hkn
     subst e
     have y0 := hx 0 (by omega); have y1 := hx 1 (by omega); have y2 := hx 2 (by omega); have y3 := hx 3 (by omega)
     simp only [Nat.add_zero] at y0
     have hI : (k : Int) < (n : Int) := by omega
     have i0 : (0 : Int) ≤ (k : Int) := by omega
     have ⟨x0, x1, x2, x3⟩ := HF.out k hkn
     obtain ⟨s0, r0, e0⟩ := x0.slice; obtain ⟨s1, r1, e1⟩ := x1.slice; obtain ⟨s2, r2, e2⟩ := x2.slice; obtain ⟨s3, r3, e3⟩ := x3.slice
     rw [e0] at x0 y0; rw [e1] at x1 y1; rw [e2] at x2 y2; rw [e3] at x3 y3
     have HA := lh (show WireF w w.heap.size (vec [.slice s0 (wrn z.wires k).parent.length r0, .slice s1 (wrn z.wires k).res.length r1, .slice s2 (wrn z.wires k).cap.length r2, .slice s3 (wrn z.wires k).sink.length r3]) (wrn z.wires k) from ⟨x0, x1, x2, x3⟩)
     have HW := lh (fun (w2 : World) (hb : Below w.heap.size w w2) => implIsWire_any (vec [.slice s0 (wrn z.wires k).parent.length r0, .slice s1 (wrn z.wires k).res.length r1, .slice s2 (wrn z.wires k).cap.length r2, .slice s3 (wrn z.wires k).sink.length r3]) (wrn z.wires k) (snkN z k : Int) w2 (HA.out.up hb))
     have HS2 := lh (fun (w2 : World) (hb : Below w1.heap.size w1 w2) => netSinks_any a (places z.lib z.des).length cap m (places z.lib z.des) (k : Int) w2 (WalkArith.wf_i64 (by omega)) (fun wn hwn => HK.out wn (hb.trans (hwn.mono hb.size))))
     have sz1 : w1.heap.size < wr.heap.size := by have := hbr.size; omega
     have sz2 : b < wr.heap.size := by omega
     have sz3 : w.heap.size + 1 < wr.heap.size := by omega
     clear hx x0 x1 x2 x3 e0 e1 e2 e3
     cases hd : wireAt z k
     ·have hQ := lh (blk_wire (by rw [← HN.out]; exact hkn) hd)
      have HW1 := lh (show ∀ (w2 : World), Below w.heap.size w w2 → _ from fun w2 hb => (show wireB (wrn z.wires k) (snkN z k : Int) = false from hd) ▸ HW.out w2 hb)
      clear HW hd
      go_wp2
      go_region_held3 (fun w' => w'.cell? ⟨wr.heap.size, 0, none⟩ = some (.slice s0 (wrn z.wires k).parent.length r0) ∧ w'.cell? ⟨wr.heap.size, 1, none⟩ = some (.slice s1 (wrn z.wires k).res.length r1) ∧ w'.cell? ⟨wr.heap.size, 2, none⟩ = some (.slice s2 (wrn z.wires k).cap.length r2) ∧ w'.cell? ⟨wr.heap.size, 3, none⟩ = some (.slice s3 (wrn z.wires k).sink.length r3) ∧ w'.cell? ⟨w1.heap.size, 0, none⟩ = some (.slice a (places z.lib z.des).length cap) ∧ w'.cell? ⟨w1.heap.size, 1, none⟩ = some (.map m) ∧ Below wr.heap.size wr w' ∧ wr.heap.size < w'.heap.size) (first | exact (Hid.out (by assumption)) | exact keep6 (Hid.out (by assumption)) ((Below.refl _ _).alloc (Nat.le_refl _) _) | exact keep6s (keep6s (Hid.out (by assumption))) | exact keep6s (Hid.out (by assumption)) | ((repeat' apply And.intro) <;> first | assumption | ((exact eX); done) | (simp [go_sem]; done) | (simp [go_sem, *]; done) | (simp; omega) | omega)) (first | ((go_at_call 119; refine (HS2.out _ eX).mono ?_; rintro e w8 ⟨⟨u, rfl, hu, _⟩, hb⟩; have hz := hb.size; (try simp at hz)); obtain ⟨pu, qu, rfl⟩ := hu.slice; clear hu; have hS := lh (keep6 (by assumption) hb); have zL := (Hid.out hS).2.2.2.2.2.2.2) | ((go_at_call 118; refine (HW1.out _ eX).mono ?_; rintro e w9 ⟨rfl, hb⟩; have hz := hb.size; (try simp at hz)); have hS := lh (keep6 (by assumption) hb); have zL := (Hid.out hS).2.2.2.2.2.2.2))
      all_goals
       have B9 : Below W.heap.size W w9 := eX
       have x40 := cell_keep w40 B9
       have x41 := cell_keep w41 B9
       have xf0 : w9.frozen? ⟨w.heap.size + 1, 0, none⟩ = false := by rw [B9.frozen (p := ⟨w.heap.size + 1, 0, none⟩) (show w.heap.size + 1 < W.heap.size by omega)]; exact wf0
       have xf1 : w9.frozen? ⟨w.heap.size + 1, 1, none⟩ = false := by rw [B9.frozen (p := ⟨w.heap.size + 1, 1, none⟩) (show w.heap.size + 1 < W.heap.size by omega)]; exact wf1
       have xs : w.heap.size + 1 < w9.heap.size := cell_lt x40
       clear r40 r41 rf0 rf1
       go_wp2_with fail
       exact bodyPost_ret (v := .tuple #[.agg #[.slice none 0 0, .map none], .bool false]) (by simp [results, Tryz.results90, go_sem, *]) rfl (blkNet_no hQ.out rfl eX)
     ·have hok := lh (all_next hall.out hd)
      have HW1 := lh (show ∀ (w2 : World), Below w.heap.size w w2 → _ from fun w2 hb => (show wireB (wrn z.wires k) (snkN z k : Int) = true from hd) ▸ HW.out w2 hb)
      clear HW hd
      go_wp2
      go_region_held3 (fun w' => w'.cell? ⟨wr.heap.size, 0, none⟩ = some (.slice s0 (wrn z.wires k).parent.length r0) ∧ w'.cell? ⟨wr.heap.size, 1, none⟩ = some (.slice s1 (wrn z.wires k).res.length r1) ∧ w'.cell? ⟨wr.heap.size, 2, none⟩ = some (.slice s2 (wrn z.wires k).cap.length r2) ∧ w'.cell? ⟨wr.heap.size, 3, none⟩ = some (.slice s3 (wrn z.wires k).sink.length r3) ∧ w'.cell? ⟨w1.heap.size, 0, none⟩ = some (.slice a (places z.lib z.des).length cap) ∧ w'.cell? ⟨w1.heap.size, 1, none⟩ = some (.map m) ∧ Below wr.heap.size wr w' ∧ wr.heap.size < w'.heap.size) (first | exact (Hid.out (by assumption)) | exact keep6 (Hid.out (by assumption)) ((Below.refl _ _).alloc (Nat.le_refl _) _) | exact keep6s (keep6s (Hid.out (by assumption))) | exact keep6s (Hid.out (by assumption)) | ((repeat' apply And.intro) <;> first | assumption | ((exact eX); done) | (simp [go_sem]; done) | (simp [go_sem, *]; done) | (simp; omega) | omega)) (first | ((go_at_call 119; refine (HS2.out _ eX).mono ?_; rintro e w8 ⟨⟨u, rfl, hu, _⟩, hb⟩; have hz := hb.size; (try simp at hz)); obtain ⟨pu, qu, rfl⟩ := hu.slice; clear hu; have hS := lh (keep6 (by assumption) hb); have zL := (Hid.out hS).2.2.2.2.2.2.2) | ((go_at_call 118; refine (HW1.out _ eX).mono ?_; rintro e w9 ⟨rfl, hb⟩; have hz := hb.size; (try simp at hz)); have hS := lh (keep6 (by assumption) hb); have zL := (Hid.out hS).2.2.2.2.2.2.2))
      all_goals
       have B9 : Below W.heap.size W w9 := eX
       go_wp2_with fail
       go_roundw
       case rel => exact ⟨k + 1, by omega, by go_num, hok, B9⟩
       case measure => simp [intOf]; omega
    ·obtain rfl : k = n := by omega
     have hI : ¬ (k : Int) < (k : Int) := by omega
     have hQ := lh (blk_all hdd.out hll.out (by rw [← HN.out]; exact hall.out))
     have sz3 : w.heap.size + 1 < wr.heap.size := by have := hbr.size; omega
     go_wp2
     exact bodyPost_ret (v := .tuple #[.agg #[.slice a (places z.lib z.des).length cap, .map m], .bool true]) (by simp [results, Tryz.results90, go_sem, *]) rfl ⟨⟨a, _, cap, m, by rw [hQ.out], eX, fun _ => (((HVb.out.below hbr).set (p := ⟨w.heap.size + 1, 0, none⟩) sL _).set (p := ⟨w.heap.size + 1, 1, none⟩) sL _).low (by omega)⟩, fun h => by rw [hQ.out] at h; cases h⟩
  ·have hQ := lh (blk_len hl)
   have hz : ((z.wires.length : Int) == (z.des.nets.length : Int)) = false := by simp; omega
   clear hl
   obtain ⟨U, hU⟩ : ∃ U, U = (w.alloc (Obj.cells #[.slice p0 z.lib.length q0, .slice p1 z.des.insts.length q1, .slice p2 z.des.nets.length q2, .slice p3 z.des.ports.length q3, .slice p4 z.wires.length q4] 46)).alloc (Obj.cells #[.slice none 0 0, .map none] 140) := ⟨_, rfl⟩
   have k0 : U.cell? ⟨w.heap.size, 0, none⟩ = some (.slice p0 z.lib.length q0) := by rw [hU]; simp [go_sem]
   have k1 : U.cell? ⟨w.heap.size, 1, none⟩ = some (.slice p1 z.des.insts.length q1) := by rw [hU]; simp [go_sem]
   have k2 : U.cell? ⟨w.heap.size, 2, none⟩ = some (.slice p2 z.des.nets.length q2) := by rw [hU]; simp [go_sem]
   have k3 : U.cell? ⟨w.heap.size, 3, none⟩ = some (.slice p3 z.des.ports.length q3) := by rw [hU]; simp [go_sem]
   have k4 : U.cell? ⟨w.heap.size, 4, none⟩ = some (.slice p4 z.wires.length q4) := by rw [hU]; simp [go_sem]
   have v0 : U.cell? ⟨w.heap.size + 1, 0, none⟩ = some (.slice none 0 0) := by rw [hU]; simp [go_sem]
   have v1 : U.cell? ⟨w.heap.size + 1, 1, none⟩ = some (.map none) := by rw [hU]; simp [go_sem]
   have f0 : U.frozen? ⟨w.heap.size + 1, 0, none⟩ = false := by rw [hU]; simp [go_sem]
   have f1 : U.frozen? ⟨w.heap.size + 1, 1, none⟩ = false := by rw [hU]; simp [go_sem]
   have bU : Below w.heap.size w U := by rw [hU]; exact ((Below.refl _ _).alloc (Nat.le_refl _) _).alloc (by simp) _
   have sU : w.heap.size + 1 < U.heap.size := cell_lt v0
   have HU := lh hU
   clear hU
   go_enter Tryz.func90, Tryz.ntmps90
   go_wp2_with fail
   rw [← HU.out]
   go_at_call 117
   refine (HD.out _ bU).mono ?_
   rintro e w1 ⟨v, rfl, ⟨a, cap, m, rfl, hP, hLk, hb⟩, hv⟩
   have HV := lh hv; clear hv
   have HK := lh hLk
   have b1 := ext_trans bU hb
   have g0 := cell_keep k0 hb
   have g1 := cell_keep k1 hb
   have g2 := cell_keep k2 hb
   have g3 := cell_keep k3 hb
   have g4 := cell_keep k4 hb
   have t0 := cell_keep v0 hb
   have t1 := cell_keep v1 hb
   have u0 : w1.frozen? ⟨w.heap.size + 1, 0, none⟩ = false := by rw [hb.frozen (p := ⟨w.heap.size + 1, 0, none⟩) sU]; exact f0
   have u1 : w1.frozen? ⟨w.heap.size + 1, 1, none⟩ = false := by rw [hb.frozen (p := ⟨w.heap.size + 1, 1, none⟩) sU]; exact f1
   have sz : w.heap.size + 1 < w1.heap.size := by have := hb.size; omega
   have sz0 : w.heap.size < w1.heap.size := by omega
   clear hP hLk k0 k1 k2 k3 k4 v0 v1 f0 f1 hb bU
   go_wp2
   exact bodyPost_ret (v := .tuple #[.agg #[.slice none 0 0, .map none], .bool false]) (by simp [results, Tryz.results90, go_sem, *]) rfl (blkNet_no hQ.out rfl eX)
theorem netBlk_all (f : Nat → Value) (z : BlkD) (w : World) (h : BlkF w w.heap.size f z) : Calls Tryz.prog 90 #[.agg #[f 0, f 1, f 2, f 3, f 4]] w (BlkNet z w) :=
 (netBlk_all0 f z w h).mono fun _ _ h => h.1
end Go.Proofs.YtkpfbnffhhmokaaGreat
