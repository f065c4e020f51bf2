/-
The program's isConnected.
-/
import Derived.Test.YtkpfbnffhhmokaaGreatNetN
namespace Go.Proofs.YtkpfbnffhhmokaaGreat
open Go.ChangeShapes Go.WideShapes Go.ChangeAt Go.RowKit
set_option linter.unusedVariables false
set_option linter.unusedSimpArgs false
set_option maxRecDepth 100000 in
set_option maxHeartbeats 8000000 in
theorem implConn_any (v : Value) (ts : List CellD) (f : Nat → Value) (d : DesD) (w : World) (hl : CellsS w w.heap.size v ts) (h : DesF w w.heap.size f d) : Calls Tryz.prog 150 #[v, .agg #[f 0, f 1, f 2]] w fun e w' => e = .returned (.bool (connB ts d)) ∧ Below w.heap.size w w' := by
 obtain ⟨h0, h1, h2⟩ := h
 have L1 := h1.len
 obtain ⟨a1, cap1, e1⟩ := h1.slice
 obtain ⟨Fi, hci, hfi⟩ := h0
 obtain ⟨Fp, hcp, hfp⟩ := h2
 obtain ⟨Fl, hcl, hfl⟩ := hl
 obtain ⟨n, hnn⟩ : ∃ n, n = d.insts.length := ⟨_, rfl⟩
 obtain ⟨m, hmm⟩ : ∃ m, m = d.nets.length := ⟨_, rfl⟩
 obtain ⟨c, hcc⟩ : ∃ c, c = d.ports.length := ⟨_, rfl⟩
 obtain ⟨l, hll⟩ : ∃ l, l = ts.length := ⟨_, rfl⟩
 rw [← hnn] at hci hfi; rw [← hcc] at hcp hfp; rw [← hll] at hcl hfl; rw [← hmm] at e1 L1
 have HI := hci; have HP := hcp; have HL := hcl
 obtain ⟨hn, a0, cap0, e0, _⟩ := hci
 obtain ⟨hc', a2, cap2, e2, _⟩ := hcp
 obtain ⟨hl', al, capl, rfl, _⟩ := hcl
 rw [e0] at HI; rw [e2] at HP
 rw [e0, e1, e2]
 have HI := lh HI; have HP := lh HP; have HL := lh HL
 have HFI := lh hfi; have HFP := lh hfp; have HFL := lh hfl
 have NN := lh hnn; have MM := lh hmm; have CC := lh hcc; have LL := lh hll
 clear hfi hfp hfl hnn hmm hcc hll e0 e1 e2 h1
 go_enter Tryz.func150, Tryz.ntmps150
 go_wp2
 go_loopw [12] (fun i wr => ∃ k : Nat, k ≤ n ∧ i = .int .i64 k ∧ Hid (∀ j, j < k → instOk ts m (inn d.insts j) = true) ∧ wr.cell? ⟨w.heap.size, 1, none⟩ = some (.slice a1 m cap1) ∧ wr.cell? ⟨w.heap.size, 2, none⟩ = some (.slice a2 c cap2) ∧ Below w.heap.size w wr) (fun i _ => n - (intOf i).toNat)
 case atStart => exact ⟨0, by omega, rfl, lh (fun j hj => absurd hj (Nat.not_lt_zero j)), by simp [go_sem], by simp [go_sem], eX⟩
 case round =>
  obtain ⟨k, hk, rfl, hall, r1, r2, hbw⟩ := hrel
  have hw0 := cell_lt r1
  by_cases hkn : k < n
  ·obtain ⟨b, off, rfl, hlt, hx⟩ := HI.out.at hbw hkn
   have y0 := hx 0 (by omega); have y1 := hx 1 (by omega); have y2 := hx 2 (by omega)
   simp only [Nat.add_zero] at y0
   have ⟨e0, e1, x2, hs⟩ := (HFI.out k hkn).up hbw
   obtain ⟨p2, q2, e2⟩ := x2.slice
   rw [e2] at x2
   rw [e0] at y0; rw [e1] at y1; rw [e2] at y2
   have X2 := lh x2
   have hI : (k : Int) < (n : Int) := by omega
   have i0 : (0 : Int) ≤ (k : Int) := by omega
   have HQ := lh (fun (w1 : World) => hasIxCell_any al l capl (inn d.insts k).cell w1 hl')
   have HR := lh (fun (w1 : World) (hb : Below wr.heap.size wr w1) (hc : w1.cell? ⟨w.heap.size, 1, none⟩ = some (.slice a1 m cap1)) => conX_any _ (inn d.insts k) w.heap.size m a1 cap1 w1 (X2.out.up hb) L1 hc)
   clear hx e0 e1 e2 x2 hs X2
   cases hi : inB (inn d.insts k).cell 0 ((l : Int) - 1)
   ·have hQ := lh (conn_bad_i (ts := ts) (d := d) (k := k) (by have := NN.out; omega) (inst_cell (by rw [← LL.out]; exact hi)))
    rw [hi] at HQ
    clear hi HR
    go_wp2
    go_quiet ((go_at_call 183; exact Calls.quiet_of_same (HQ.out _)))
    go_wp2
    rw [hQ.out]
    go_ret
    exact ⟨rfl, eX⟩
   ·have ⟨i1, i2⟩ := inB_get hi
    obtain ⟨kc, hkc⟩ := Int.eq_ofNat_of_zero_le i1
    have hkl : kc < l := by omega
    have hin := lh (show inB (inn d.insts k).cell 0 ((ts.length : Int) - 1) = true by rw [← LL.out]; exact hi)
    have hxc : xcell ts (inn d.insts k) = cn ts kc := by unfold xcell; rw [hkc]; rfl
    rw [hi] at HQ
    rw [hkc] at y1 HQ
    obtain ⟨bl, offl, rfl, hltl, hxl⟩ := HL.out.at hbw hkl
    have z2 := hxl 2 (by omega)
    have hltw : bl < wr.heap.size := Nat.lt_of_lt_of_le hltl hbw.size
    have x2 := (HFL.out kc hkl).2.2.1
    obtain ⟨pl, ql, el⟩ := x2.slice
    rw [el] at z2
    have hIl : (kc : Int) < (l : Int) := by omega
    have il0 : (0 : Int) ≤ (kc : Int) := by omega
    have hXC := lh hxc
    clear hxl x2 el hi i1 i2 hxc hkc
    by_cases ne : (inn d.insts k).nets.length = (cn ts kc).pins.length
    ·have ne1 : (((inn d.insts k).nets.length : Int) == ((cn ts kc).pins.length : Int)) = true := by simp [ne]
     have ne2 : (((inn d.insts k).nets.length : Int) != ((cn ts kc).pins.length : Int)) = false := by simp [ne]
     have hok := lh (inst_nets (m := m) hin.out (by rw [hXC.out]; exact ne))
     clear ne
     cases hno : netsOk m (inn d.insts k)
     ·have hQ := lh (conn_bad_i (ts := ts) (d := d) (k := k) (by have := NN.out; omega) (by rw [← MM.out, hok.out]; exact hno))
      rw [hno] at HR
      clear hno
      go_wp2
      go_quiet ((go_at_call 183; exact Calls.quiet_of_same (HQ.out _)))
      go_wp2_with (go_at_call 153; refine (HR.out _ eX (by simp [go_sem, r1, hw0])).mono ?_; rintro e w' ⟨rfl, hw'⟩; rw [hw']; clear hw' w')
      rw [hQ.out]
      go_ret
      exact ⟨rfl, eX⟩
     ·have hmore := lh (all_more (p := fun j => instOk ts m (inn d.insts j) = true) hall.out (by rw [hok.out]; exact hno))
      rw [hno] at HR
      clear hno
      go_wp2
      go_quiet ((go_at_call 183; exact Calls.quiet_of_same (HQ.out _)))
      go_wp2_with (go_at_call 153; refine (HR.out _ eX (by simp [go_sem, r1, hw0])).mono ?_; rintro e w' ⟨rfl, hw'⟩; rw [hw']; clear hw' w')
      go_roundw
      case rel => exact ⟨k + 1, by omega, by go_num, hmore, by first | exact cell_keep r1 eX, by first | exact cell_keep r2 eX, eX⟩
      case measure => simp [intOf]; omega
    ·have ne1 : (((inn d.insts k).nets.length : Int) == ((cn ts kc).pins.length : Int)) = false := by simp; omega
     have ne2 : (((inn d.insts k).nets.length : Int) != ((cn ts kc).pins.length : Int)) = true := by simp; omega
     have hQ := lh (conn_bad_i (ts := ts) (d := d) (k := k) (by have := NN.out; omega) (inst_len (by rw [hXC.out]; exact ne)))
     clear ne HR
     go_wp2
     go_quiet ((go_at_call 183; exact Calls.quiet_of_same (HQ.out _)))
     go_wp2
     rw [hQ.out]
     go_ret
     exact ⟨rfl, eX⟩
  ·obtain rfl : k = n := by omega
   have hI : ¬ (k : Int) < (k : Int) := by omega
   have hins := lh hall.out
   clear hall
   go_wp2
   go_loopw [42] (fun i wq => ∃ j : Nat, j ≤ c ∧ i = .int .i64 j ∧ Hid (∀ q, q < j → portOk m (ptn d.ports q) = true) ∧ wq.cell? ⟨w.heap.size, 1, none⟩ = some (.slice a1 m cap1) ∧ Below w.heap.size w wq) (fun i _ => c - (intOf i).toNat)
   case atStart => exact ⟨0, by omega, rfl, lh (fun j hj => absurd hj (Nat.not_lt_zero j)), r1, hbw⟩
   case round =>
    clear r1 r2 hbw
    obtain ⟨j, hj, rfl, hall, r1, hbw⟩ := hrel
    have hw0 := cell_lt r1
    by_cases hjn : j < c
    ·obtain ⟨b, off, rfl, hlt, hx⟩ := HP.out.at hbw hjn
     have y0 := hx 0 (by omega); have y1 := hx 1 (by omega); have y2 := hx 2 (by omega)
     simp only [Nat.add_zero] at y0
     have ⟨e0, e1, e2, hs⟩ := HFP.out j hjn
     rw [e0] at y0; rw [e1] at y1; rw [e2] at y2
     have hJ : (j : Int) < (c : Int) := by omega
     have j0 : (0 : Int) ≤ (j : Int) := by omega
     have HQ := lh (fun (w1 : World) => hasIxStr_any a1 m cap1 (ptn d.ports j).net w1 L1)
     clear hx e0 e1 e2 hs
     by_cases d1 : (ptn d.ports j).dir = 1
     ·have hok := lh (port_net (m := m) (p := ptn d.ports j) (Or.inl d1))
      rw [d1] at y1
      clear d1
      cases hi : inB (ptn d.ports j).net 0 ((m : Int) - 1)
      ·have hQ := lh (conn_bad_p (ts := ts) (d := d) (k := j) (by have := CC.out; omega) (by rw [← MM.out, hok.out]; exact hi))
       rw [hi] at HQ
       clear hi
       go_wp2_with (go_at_call 185; refine (HQ.out _).mono ?_; rintro e w' ⟨rfl, hw'⟩; rw [hw']; clear hw' w')
       rw [hQ.out]
       go_ret
       exact ⟨rfl, eX⟩
      ·have hmore := lh (all_more (p := fun j => portOk m (ptn d.ports j) = true) hall.out (by rw [hok.out]; exact hi))
       rw [hi] at HQ
       clear hi
       go_wp2_with (go_at_call 185; refine (HQ.out _).mono ?_; rintro e w' ⟨rfl, hw'⟩; rw [hw']; clear hw' w')
       go_roundw
       case rel => exact ⟨j + 1, by omega, by go_num, hmore, by first | exact cell_keep r1 eX, eX⟩
       case measure => simp [intOf]; omega
     ·by_cases d2 : (ptn d.ports j).dir = 2
      ·have hok := lh (port_net (m := m) (p := ptn d.ports j) (Or.inr d2))
       rw [d2] at y1
       clear d1 d2
       cases hi : inB (ptn d.ports j).net 0 ((m : Int) - 1)
       ·have hQ := lh (conn_bad_p (ts := ts) (d := d) (k := j) (by have := CC.out; omega) (by rw [← MM.out, hok.out]; exact hi))
        rw [hi] at HQ
        clear hi
        go_wp2_with (go_at_call 185; refine (HQ.out _).mono ?_; rintro e w' ⟨rfl, hw'⟩; rw [hw']; clear hw' w')
        rw [hQ.out]
        go_ret
        exact ⟨rfl, eX⟩
       ·have hmore := lh (all_more (p := fun j => portOk m (ptn d.ports j) = true) hall.out (by rw [hok.out]; exact hi))
        rw [hi] at HQ
        clear hi
        go_wp2_with (go_at_call 185; refine (HQ.out _).mono ?_; rintro e w' ⟨rfl, hw'⟩; rw [hw']; clear hw' w')
        go_roundw
        case rel => exact ⟨j + 1, by omega, by go_num, hmore, by first | exact cell_keep r1 eX, eX⟩
        case measure => simp [intOf]; omega
      ·have hQ := lh (conn_bad_p (ts := ts) (d := d) (k := j) (by have := CC.out; omega) (port_dir d1 d2))
       have d1' : ((ptn d.ports j).dir == 1) = false := by simpa using d1
       have d2' : ((ptn d.ports j).dir == 2) = false := by simpa using d2
       have d1'' : ((ptn d.ports j).dir != 1) = true := by simpa using d1
       have d2'' : ((ptn d.ports j).dir != 2) = true := by simpa using d2
       clear d1 d2
       go_wp2
       rw [hQ.out]
       go_ret
       exact ⟨rfl, eX⟩
    ·obtain rfl : j = c := by omega
     have hJ : ¬ (j : Int) < (j : Int) := by omega
     have hok := lh (conn_all (ts := ts) (d := d) (by rw [← NN.out, ← MM.out]; exact hins.out) (by rw [← CC.out, ← MM.out]; exact hall.out))
     go_wp2
     rw [hok.out]
     go_ret
     exact ⟨rfl, hbw⟩
end Go.Proofs.YtkpfbnffhhmokaaGreat
