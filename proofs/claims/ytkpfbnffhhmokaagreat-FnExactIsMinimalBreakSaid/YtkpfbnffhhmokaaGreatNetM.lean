/-
The model's check of names and of parts, and its list of places.
-/
import Derived.Test.YtkpfbnffhhmokaaGreatNetP
import Derived.Test.YtkpfbnffhhmokaaGreatDes
import Derived.Test.YtkpfbnffhhmokaaGreatGrowR
namespace Go.Proofs.YtkpfbnffhhmokaaGreat
open Go.ChangeShapes Go.WideShapes Go.ChangeAt Go.RowKit Go.Deep
set_option linter.unusedVariables false
set_option linter.unusedSimpArgs false
set_option maxRecDepth 100000
theorem difN_hit {nm : Nat → ByteArray} {q k : Nat} (hq : q < k) (h : ((nm q).toList == (nm k).toList) = true) : difN nm k = false := by
 unfold difN
 exact allB_no (p := fun j => !((nm j).toList == (nm k).toList)) hq (by rw [h]; rfl)
theorem difN_miss {nm : Nat → ByteArray} {k : Nat} (h : ∀ q, q < k → ((nm q).toList == (nm k).toList) = false) : difN nm k = true := by
 unfold difN
 exact allB_yes (p := fun j => !((nm j).toList == (nm k).toList)) (fun j hj => by rw [h j hj]; rfl)
theorem names_dup {nm : Nat → ByteArray} {n k : Nat} (hk : k < n) (h : difN nm k = false) : namesB nm n = false := by
 unfold namesB
 rw [allB_no (p := difN nm) hk h, Bool.and_false]
theorem names_end {nm : Nat → ByteArray} {n : Nat} (h : ∀ i, i < n → nameB (nm i) = true) (h2 : ∀ i, i < n → difN nm i = true) : namesB nm n = true := by
 rw [names_all h, allB_yes h2]
set_option maxHeartbeats 4000000 in
theorem specNames_any (v : Value) (us : List ByteArray) (w : World) (h : TxS w w.heap.size v us) :
  Calls Tryz.prog 146 #[v] w fun e w' => e = .returned (.bool (namesB (sn us) us.length)) ∧ Below w.heap.size w w' := by
 have hn := h.len
 obtain ⟨a, cap, rfl⟩ := h.slice
 have H := lh h
 have HS := lh h.2
 obtain ⟨n, hnn⟩ : ∃ n, n = us.length := ⟨_, rfl⟩
 have HN := lh hnn
 rw [← hnn] at hn ⊢
 clear h hnn
 go_enter Tryz.func146, Tryz.ntmps146
 go_wp2
 go_loopw [3] (fun i wr => ∃ k : Nat, k ≤ n ∧ i = .int .i64 k ∧ Hid (∀ j, j < k → nameB (sn us j) = true) ∧ Hid (∀ j, j < k → difN (sn us) j = true) ∧ Below w.heap.size w wr) (fun i _ => n - (intOf i).toNat)
 case atStart => exact ⟨0, by omega, rfl, lh (fun j hj => absurd hj (Nat.not_lt_zero j)), lh (fun j hj => absurd hj (Nat.not_lt_zero j)), eX⟩
 case round =>
  obtain ⟨k, hk, rfl, hall, hdif, hbw⟩ := hrel
  by_cases hkn : k < n
  ·have hku : k < us.length := by have := HN.out; omega
   obtain ⟨b, off, e0, hlt, y0⟩ := H.out.at hbw hku
   have HA := lh e0
   have hI : (k : Int) < (n : Int) := by omega
   have i0 : (0 : Int) ≤ (k : Int) := by omega
   have hs := HS.out k hku
   have HC := lh (specName_any (sn us k) wr hs)
   subst e0
   cases hcb : nameB (sn us k)
   ·have hQ := lh (names_bad (nm := sn us) hkn hcb)
    rw [hcb] at HC
    clear hcb
    go_wp2_with (go_at_call 173; refine HC.out.mono ?_; rintro e w' ⟨rfl, hw'⟩; rw [hw']; clear hw' w')
    rw [hQ.out]
    go_ret
    exact ⟨rfl, eX⟩
   ·have hok := lh (all_more (p := fun j => nameB (sn us j) = true) hall.out hcb)
    rw [hcb] at HC
    clear hcb
    go_wp2_with (go_at_call 173; refine HC.out.mono ?_; rintro e w' ⟨rfl, hw'⟩; rw [hw']; clear hw' w')
    clear y0
    go_loopw [4] (fun j wi => ∃ q : Nat, q ≤ k ∧ j = .int .i64 q ∧ Hid (∀ r, r < q → ((sn us r).toList == (sn us k).toList) = false) ∧ Below w.heap.size w wi) (fun j _ => k - (intOf j).toNat)
    case atStart => exact ⟨0, by omega, rfl, lh (fun j hj => absurd hj (Nat.not_lt_zero j)), hbw⟩
    case round =>
     clear hbw
     obtain ⟨q, hq, rfl, hne, hbi⟩ := hrel
     by_cases hqk : q < k
     ·obtain ⟨b', off', e', _, u0⟩ := H.out.at hbi (show q < us.length by omega)
      obtain ⟨rfl, rfl⟩ : b' = b ∧ off' = off := by simpa using e'.symm
      obtain ⟨_, _, e'', _, z0⟩ := H.out.at hbi hku
      obtain ⟨rfl, rfl⟩ : _ = b' ∧ _ = off' := by simpa using e''.symm
      have hqI : (q : Int) < (n : Int) := by omega
      have hqkI : (q : Int) < (k : Int) := by omega
      have q0 : (0 : Int) ≤ (q : Int) := by omega
      clear e' e''
      cases hd : ((sn us q).toList == (sn us k).toList)
      ·have hn' := lh (all_more (p := fun r => ((sn us r).toList == (sn us k).toList) = false) hne.out hd)
       go_wp2_with fail
       go_quiet (fail)
       go_wp2_with fail
       go_roundw
       case rel => exact ⟨q + 1, by omega, by go_num, hn', eX⟩
       case measure => simp [intOf]; omega
      ·have hQ := lh (names_dup (nm := sn us) hkn (difN_hit hqk hd))
       go_wp2_with fail
       go_quiet (fail)
       go_wp2_with fail
       rw [hQ.out]
       go_ret
       exact ⟨rfl, eX⟩
     ·obtain rfl : q = k := by omega
      have hdd := lh (all_more hdif.out (difN_miss hne.out))
      go_wp2_with fail
      go_roundw
      case rel => exact ⟨q + 1, by omega, by go_num, hok, hdd, hbi⟩
      case measure => simp [intOf]; omega
  ·obtain rfl : k = n := by omega
   have hQ := lh (names_end (nm := sn us) hall.out hdif.out)
   have hI : ¬ (k : Int) < (k : Int) := by omega
   go_wp2_with fail
   rw [hQ.out]
   go_ret
   exact ⟨rfl, hbw⟩
set_option maxHeartbeats 8000000 in
theorem specParts_any (v : Value) (ts : List CellD) (f : Nat → Value) (d : DesD) (w : World) (hl : CellsS w w.heap.size v ts) (h : DesF w w.heap.size f d) : Calls Tryz.prog 145 #[.agg #[v], .agg #[f 0, f 1, f 2]] w fun e w' => e = .returned (.bool (connB ts d)) ∧ Below w.heap.size w w' := by
 obtain ⟨h0, h1, h2⟩ := h
 have L1 := h1.len
 obtain ⟨a1, cap1, e1⟩ := h1.slice
 obtain ⟨Fi, hci, hfi⟩ := h0
 obtain ⟨Fp, hcp, hfp⟩ := h2
 obtain ⟨Fl, hcl, hfl⟩ := hl
 obtain ⟨n, hnn⟩ : ∃ n, n = d.insts.length := ⟨_, rfl⟩
 obtain ⟨m, hmm⟩ : ∃ m, m = d.nets.length := ⟨_, rfl⟩
 obtain ⟨c, hcc⟩ : ∃ c, c = d.ports.length := ⟨_, rfl⟩
 obtain ⟨l, hll⟩ : ∃ l, l = ts.length := ⟨_, rfl⟩
 rw [← hnn] at hci hfi; rw [← hcc] at hcp hfp; rw [← hll] at hcl hfl; rw [← hmm] at e1 L1
 have HI := hci; have HP := hcp; have HL := hcl
 obtain ⟨hn, a0, cap0, e0, _⟩ := hci
 obtain ⟨hc', a2, cap2, e2, _⟩ := hcp
 obtain ⟨hl', al, capl, rfl, _⟩ := hcl
 rw [e0] at HI; rw [e2] at HP
 rw [e0, e1, e2]
 have HI := lh HI; have HP := lh HP; have HL := lh HL
 have HFI := lh hfi; have HFP := lh hfp; have HFL := lh hfl
 have NN := lh hnn; have MM := lh hmm; have CC := lh hcc; have LL := lh hll
 clear hfi hfp hfl hnn hmm hcc hll e0 e1 e2 h1
 go_enter Tryz.func145, Tryz.ntmps145
 go_wp2
 go_loopw [6] (fun i wr => ∃ k : Nat, k ≤ n ∧ i = .int .i64 k ∧ Hid (∀ j, j < k → instOk ts m (inn d.insts j) = true) ∧ wr.cell? ⟨w.heap.size, 0, none⟩ = some (.slice al l capl) ∧ wr.cell? ⟨w.heap.size + 1, 0, none⟩ = some (.slice a0 n cap0) ∧ wr.cell? ⟨w.heap.size + 1, 2, none⟩ = some (.slice a2 c cap2) ∧ Below w.heap.size w wr) (fun i _ => n - (intOf i).toNat)
 case atStart => exact ⟨0, by omega, rfl, lh (fun j hj => absurd hj (Nat.not_lt_zero j)), by simp [go_sem], by simp [go_sem], by simp [go_sem], eX⟩
 case round =>
  obtain ⟨k, hk, rfl, hall, r0, r1, r2, hbw⟩ := hrel
  have hw0 := cell_lt r0
  have hw1 := cell_lt r1
  by_cases hkn : k < n
  ·obtain ⟨b, off, e9, hlt, hx⟩ := HI.out.at hbw hkn
   subst e9
   have y0 := hx 0 (by omega); have y1 := hx 1 (by omega); have y2 := hx 2 (by omega)
   simp only [Nat.add_zero] at y0
   have ⟨e0, e1, x2, hs⟩ := HFI.out k hkn
   obtain ⟨p2, q2, e2⟩ := x2.slice
   rw [e2] at x2
   rw [e0] at y0; rw [e1] at y1; rw [e2] at y2
   have X2 := lh x2
   obtain ⟨x, hxx⟩ : ∃ x, x = inn d.insts k := ⟨_, rfl⟩
   rw [← hxx] at y0 y1 y2 X2
   have XX := lh hxx
   have hI : (k : Int) < (n : Int) := by omega
   have i0 : (0 : Int) ≤ (k : Int) := by omega
   have HQ := lh (fun (w1 : World) => l01In_any x.cell 0 ((l : Int) - 1) w1)
   clear hx e0 e1 e2 x2 hs hxx
   cases hi : inB x.cell 0 ((l : Int) - 1)
   ·have hQ := lh (conn_bad_i (ts := ts) (d := d) (k := k) (by have := NN.out; omega) (inst_cell (by rw [← LL.out, ← XX.out]; exact hi)))
    rw [hi] at HQ
    clear hi
    go_wp2
    go_quiet ((go_at_call 102; exact Calls.quiet_of_same (HQ.out _)))
    go_wp2
    rw [hQ.out]
    go_ret
    exact ⟨rfl, eX⟩
   ·have ⟨i1, i2⟩ := inB_get hi
    obtain ⟨kc, hkc⟩ := Int.eq_ofNat_of_zero_le i1
    have hkl : kc < l := by omega
    have hin := lh (show inB (inn d.insts k).cell 0 ((ts.length : Int) - 1) = true by rw [← LL.out, ← XX.out]; exact hi)
    have hxc : xcell ts (inn d.insts k) = cn ts kc := by unfold xcell; rw [← XX.out, hkc]; rfl
    rw [hi] at HQ
    rw [hkc] at y1 HQ
    obtain ⟨bl, offl, e9, hltl, hxl⟩ := HL.out.at hbw hkl
    subst e9
    have z2 := hxl 2 (by omega)
    have xp := (HFL.out kc hkl).2.2.1
    obtain ⟨pl, ql, el⟩ := xp.slice
    rw [el] at z2
    have hIl : (kc : Int) < (l : Int) := by omega
    have il0 : (0 : Int) ≤ (kc : Int) := by omega
    have hltw : bl < wr.heap.size := Nat.lt_of_lt_of_le hltl hbw.size
    have hXC := lh hxc
    clear hxl xp el hi i1 i2 hxc hkc
    by_cases ne : x.nets.length = (cn ts kc).pins.length
    ·have ne1 : ((x.nets.length : Int) == ((cn ts kc).pins.length : Int)) = true := by simp [ne]
     have ne2 : ((x.nets.length : Int) != ((cn ts kc).pins.length : Int)) = false := by simp [ne]
     have hok := lh (inst_nets (m := m) hin.out (by rw [hXC.out, ← XX.out]; exact ne))
     obtain ⟨wo, hwo⟩ : ∃ wo : World, wo = wr := ⟨_, rfl⟩
     subst hwo
     obtain ⟨np, hnp⟩ : ∃ np, np = x.nets.length := ⟨_, rfl⟩
     have HNP := lh hnp
     have s0 : (wo.alloc (Obj.cells #[.string x.name, .int .i64 (kc : Int), .slice p2 np q2] 126)).cell? ⟨wo.heap.size, 2, none⟩ = some (.slice p2 np q2) := by simp [go_sem]
     have bA : Below wo.heap.size wo (wo.alloc (Obj.cells #[.string x.name, .int .i64 (kc : Int), .slice p2 np q2] 126)) := (Below.refl _ _).alloc (Nat.le_refl _) _
     have R0 := lh (cell_keep r0 bA)
     have R1 := lh (cell_keep r1 bA)
     have R2 := lh (cell_keep r2 bA)
     have S0 := lh s0
     have BW := lh (hbw.trans (bA.mono hbw.size))
     rw [← hnp] at y2 ne1 ne2
     clear ne s0 bA hnp
     go_wp2
     go_quiet ((go_at_call 102; exact Calls.quiet_of_same (HQ.out _)))
     go_wp2
     go_loopw [8] (fun i wi => ∃ j : Nat, j ≤ np ∧ i = .int .i64 j ∧ Hid (∀ q, q < j → inB (iv x.nets q) 0 ((m : Int) - 1) = true) ∧ wi.cell? ⟨w.heap.size, 0, none⟩ = some (.slice (some ⟨bl, offl, none⟩) l capl) ∧ wi.cell? ⟨w.heap.size + 1, 0, none⟩ = some (.slice (some ⟨b, off, none⟩) n cap0) ∧ wi.cell? ⟨w.heap.size + 1, 2, none⟩ = some (.slice a2 c cap2) ∧ wi.cell? ⟨wo.heap.size, 2, none⟩ = some (.slice p2 np q2) ∧ Below w.heap.size w wi) (fun i _ => np - (intOf i).toNat)
     case atStart => exact ⟨0, by omega, rfl, lh (fun j hj => absurd hj (Nat.not_lt_zero j)), by simpa using R0.out, by simpa using R1.out, by simpa using R2.out, by simp, by have := BW.out; (exact eX)⟩
     case round =>
      clear R0 R1 R2 S0 BW r0 r1 r2 hbw y0 y1 y2 z2
      obtain ⟨j, hj, rfl, hnets, r0, r1, r2, s0, hbw⟩ := hrel
      have l0 := cell_lt s0
      by_cases hjn : j < np
      ·obtain ⟨hnp', _, _, ev, hni⟩ := X2.out
       cases ev
       have hnpb : np ≤ 9223372036854775807 := by have := HNP.out; omega
       obtain ⟨bn, offn, en, hltn, hxn⟩ := hni (by have := HNP.out; omega)
       subst en
       have yn : wr.cell? ⟨bn, offn + j, none⟩ = some (.int .i64 (iv x.nets j)) := by rw [hbw.cell (p := ⟨bn, offn + j, none⟩) hltn]; exact hxn j (by have := HNP.out; omega)
       have hJ : (j : Int) < (np : Int) := by omega
       have j0 : (0 : Int) ≤ (j : Int) := by omega
       have HV := lh (fun (w1 : World) => l01In_any (iv x.nets j) 0 ((m : Int) - 1) w1)
       clear hni hxn
       cases hv : inB (iv x.nets j) 0 ((m : Int) - 1)
       ·have hno : netsOk m (inn d.insts k) = false := by rw [← XX.out]; exact allB_no (p := fun q => inB (iv x.nets q) 0 ((m : Int) - 1)) (show j < x.nets.length by have := HNP.out; omega) hv
        have hQ := lh (conn_bad_i (ts := ts) (d := d) (k := k) (by have := NN.out; omega) (by rw [← MM.out, hok.out]; exact hno))
        rw [hv] at HV
        clear hv hno
        go_wp2_with (go_at_call 102; refine (HV.out _).mono ?_; rintro e w' ⟨rfl, hw'⟩; rw [hw']; clear hw' w')
        rw [hQ.out]
        go_ret
        exact ⟨rfl, eX⟩
       ·have hmore := lh (all_more (p := fun q => inB (iv x.nets q) 0 ((m : Int) - 1) = true) hnets.out hv)
        rw [hv] at HV
        clear hv
        go_wp2_with (go_at_call 102; refine (HV.out _).mono ?_; rintro e w' ⟨rfl, hw'⟩; rw [hw']; clear hw' w')
        go_roundw
        case rel => exact ⟨j + 1, by omega, by go_num, hmore, r0, r1, r2, s0, hbw⟩
        case measure => simp [intOf]; omega
      ·obtain rfl : j = np := by omega
       have hJ : ¬ (j : Int) < (j : Int) := by omega
       have hno : netsOk m (inn d.insts k) = true := by rw [← XX.out]; exact allB_yes (p := fun q => inB (iv x.nets q) 0 ((m : Int) - 1)) (fun q hq => hnets.out q (by have := HNP.out; omega))
       have hmore := lh (all_more (p := fun j => instOk ts m (inn d.insts j) = true) hall.out (by rw [hok.out]; exact hno))
       clear hno
       go_wp2
       go_roundw
       case rel => exact ⟨k + 1, by omega, by go_num, hmore, r0, r1, r2, hbw⟩
       case measure => simp [intOf]; omega
    ·have ne1 : ((x.nets.length : Int) == ((cn ts kc).pins.length : Int)) = false := by simp; omega
     have ne2 : ((x.nets.length : Int) != ((cn ts kc).pins.length : Int)) = true := by simp; omega
     have hQ := lh (conn_bad_i (ts := ts) (d := d) (k := k) (by have := NN.out; omega) (inst_len (by rw [hXC.out, ← XX.out]; exact ne)))
     clear ne
     go_wp2
     go_quiet ((go_at_call 102; exact Calls.quiet_of_same (HQ.out _)))
     go_wp2
     rw [hQ.out]
     go_ret
     exact ⟨rfl, eX⟩
  ·obtain rfl : k = n := by omega
   have hI : ¬ (k : Int) < (k : Int) := by omega
   have hins := lh hall.out
   clear hall
   go_wp2
   go_loopw [9] (fun i wq => ∃ j : Nat, j ≤ c ∧ i = .int .i64 j ∧ Hid (∀ q, q < j → portOk m (ptn d.ports q) = true) ∧ wq.cell? ⟨w.heap.size + 1, 2, none⟩ = some (.slice a2 c cap2) ∧ Below w.heap.size w wq) (fun i _ => c - (intOf i).toNat)
   case atStart => exact ⟨0, by omega, rfl, lh (fun j hj => absurd hj (Nat.not_lt_zero j)), r2, hbw⟩
   case round =>
    clear r0 r1 r2 hbw
    obtain ⟨j, hj, rfl, hall, r2, hbw⟩ := hrel
    have hw2 := cell_lt r2
    by_cases hjn : j < c
    ·obtain ⟨b, off, e9, hlt, hx⟩ := HP.out.at hbw hjn
     subst e9
     have y0 := hx 0 (by omega); have y1 := hx 1 (by omega); have y2 := hx 2 (by omega)
     simp only [Nat.add_zero] at y0
     have ⟨e0, e1, e2, hs⟩ := HFP.out j hjn
     rw [e0] at y0; rw [e1] at y1; rw [e2] at y2
     have hJ : (j : Int) < (c : Int) := by omega
     have j0 : (0 : Int) ≤ (j : Int) := by omega
     have HV := lh (fun (w1 : World) => l01In_any (ptn d.ports j).dir 1 2 w1)
     have HQ := lh (fun (w1 : World) => l01In_any (ptn d.ports j).net 0 ((m : Int) - 1) w1)
     clear hx e0 e1 e2 hs
     cases hv : inB (ptn d.ports j).dir 1 2
     ·have hQ := lh (conn_bad_p (ts := ts) (d := d) (k := j) (by have := CC.out; omega) (port_dir (by intro e; rw [e] at hv; cases hv) (by intro e; rw [e] at hv; cases hv)))
      rw [hv] at HV
      clear hv HQ
      go_wp2_with (go_at_call 102; refine (HV.out _).mono ?_; rintro e w' ⟨rfl, hw'⟩; rw [hw']; clear hw' w')
      rw [hQ.out]
      go_ret
      exact ⟨rfl, eX⟩
     ·have hok := lh (port_net (m := m) (p := ptn d.ports j) (by have := inB_get hv; omega))
      rw [hv] at HV
      clear hv
      cases hi : inB (ptn d.ports j).net 0 ((m : Int) - 1)
      ·have hQ := lh (conn_bad_p (ts := ts) (d := d) (k := j) (by have := CC.out; omega) (by rw [← MM.out, hok.out]; exact hi))
       rw [hi] at HQ
       clear hi
       go_wp2_with (go_at_call 102; first | ((with_reducible refine (HV.out _).mono ?_); rintro e w' ⟨rfl, hw'⟩; rw [hw']; clear hw' w') | ((with_reducible refine (HQ.out _).mono ?_); rintro e w' ⟨rfl, hw'⟩; rw [hw']; clear hw' w'))
       rw [hQ.out]
       go_ret
       exact ⟨rfl, eX⟩
      ·have hmore := lh (all_more (p := fun j => portOk m (ptn d.ports j) = true) hall.out (by rw [hok.out]; exact hi))
       rw [hi] at HQ
       clear hi
       go_wp2_with (go_at_call 102; first | ((with_reducible refine (HV.out _).mono ?_); rintro e w' ⟨rfl, hw'⟩; rw [hw']; clear hw' w') | ((with_reducible refine (HQ.out _).mono ?_); rintro e w' ⟨rfl, hw'⟩; rw [hw']; clear hw' w'))
       go_roundw
       case rel => exact ⟨j + 1, by omega, by go_num, hmore, r2, eX⟩
       case measure => simp [intOf]; omega
    ·obtain rfl : j = c := by omega
     have hJ : ¬ (j : Int) < (j : Int) := by omega
     have hok := lh (conn_all (ts := ts) (d := d) (by rw [← NN.out, ← MM.out]; exact hins.out) (by rw [← CC.out, ← MM.out]; exact hall.out))
     go_wp2
     rw [hok.out]
     go_ret
     exact ⟨rfl, hbw⟩
end Go.Proofs.YtkpfbnffhhmokaaGreat
