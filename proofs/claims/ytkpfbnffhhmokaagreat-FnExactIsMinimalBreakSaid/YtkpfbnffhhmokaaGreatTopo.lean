/-
The topological order in the model: the smallest ready node comes next.
-/
import Derived.Test.YtkpfbnffhhmokaaGreatLive
import Derived.Test.YtkpfbnffhhmokaaGreatLinkF
namespace Go.Proofs.YtkpfbnffhhmokaaGreat
open Go.ChangeShapes Go.WideShapes Go.ChangeAt Go.RowKit Go.Deep
set_option linter.unusedVariables false
set_option linter.unusedSimpArgs false
set_option maxRecDepth 100000
/-- Whether a live link among the first m leads to node j from a node that is not listed. -/
def waitsF (L : List LkD) (lv s : Nat → Bool) (m j : Nat) : Bool := (List.range m).any (fun k => lv k && (!s (lkn L k).src.toNat && (lkn L k).dst.toNat == j))
theorem waitsF_succ (L : List LkD) (lv s : Nat → Bool) (m j : Nat) : waitsF L lv s (m + 1) j = (waitsF L lv s m j || (lv m && (!s (lkn L m).src.toNat && (lkn L m).dst.toNat == j))) := by simp [waitsF, List.range_succ]
theorem waitsF_skip {L : List LkD} {lv s : Nat → Bool} {m : Nat} (h : lv m = false ∨ s (lkn L m).src.toNat = true) : waitsF L lv s (m + 1) = waitsF L lv s m := by
 funext j
 rw [waitsF_succ]
 rcases h with h | h <;> simp [h]
theorem waitsF_put {L : List LkD} {lv s : Nat → Bool} {m : Nat} (h : lv m = true) (h' : s (lkn L m).src.toNat = false) : waitsF L lv s (m + 1) = putB (waitsF L lv s m) (lkn L m).dst.toNat := by
 funext j
 rw [waitsF_succ, h, h']
 unfold putB
 by_cases e : j = (lkn L m).dst.toNat
 ·simp [e]
 ·have : ((lkn L m).dst.toNat == j) = false := by simpa using fun q => e q.symm
  simp [e, this]
def readyB (L : List LkD) (lv s : Nat → Bool) (j : Nat) : Bool := !(s j || waitsF L lv s L.length j)
def inO (o : List Nat) (j : Nat) : Bool := o.contains j
/-- The first m nodes of the order, where there is one. -/
def ordN (L : List LkD) (lv : Nat → Bool) (n : Nat) : Nat → Option (List Nat)
 | 0 => some []
 | m + 1 => (ordN L lv n m).bind (fun o => if 0 ≤ Go.Proofs.YtkpfbnffhhmokaaGreat.ix (readyB L lv (inO o)) n then some (o ++ [(Go.Proofs.YtkpfbnffhhmokaaGreat.ix (readyB L lv (inO o)) n).toNat]) else none)
theorem ordN_none {L : List LkD} {lv : Nat → Bool} {n : Nat} : ∀ {m k : Nat}, ordN L lv n m = none → m ≤ k → ordN L lv n k = none
 | m, 0, h, hk => by obtain rfl : m = 0 := (by omega); exact h
 | m, k + 1, h, hk => by
  by_cases e : m = k + 1
  ·subst e; exact h
  ·have := ordN_none (m := m) (k := k) h (by omega)
   simp [ordN, this]
theorem ordN_stop {L : List LkD} {lv : Nat → Bool} {n m : Nat} {o : List Nat} (h : ordN L lv n m = some o) (h0 : ∀ j, j < n → readyB L lv (inO o) j = false) : ordN L lv n (m + 1) = none := by
 simp [ordN, h, ix_none h0]
theorem ordN_go {L : List LkD} {lv : Nat → Bool} {n m k : Nat} {o : List Nat} (h : ordN L lv n m = some o) (hk : k < n) (hq : readyB L lv (inO o) k = true) (h0 : ∀ j, j < k → readyB L lv (inO o) j = false) : ordN L lv n (m + 1) = some (o ++ [k]) := by
 have e := ix_at hk hq h0
 simp [ordN, h, e]
theorem ordN_len {L : List LkD} {lv : Nat → Bool} {n : Nat} : ∀ {m : Nat} {o : List Nat}, ordN L lv n m = some o → o.length = m
 | 0, o, h => by simp [ordN] at h; subst h; rfl
 | m + 1, o, h => by
  cases h1 : ordN L lv n m with
  | none => simp [ordN, h1] at h
  | some o1 =>
   simp only [ordN, h1, Option.bind_some] at h
   split at h
   ·cases h
    simp [ordN_len h1]
   ·cases h
def natsI (o : List Nat) : List Int := o.map (fun k : Nat => (k : Int))
theorem natsI_len (o : List Nat) : (natsI o).length = o.length := by simp [natsI]
theorem natsI_snoc (o : List Nat) (k : Nat) : natsI (o ++ [k]) = natsI o ++ [(k : Int)] := by simp [natsI]
theorem inO_snoc (o : List Nat) (k : Nat) : inO (o ++ [k]) = putB (inO o) k := by
 funext j
 unfold inO putB
 by_cases e : j = k
 ·simp [e]
 ·simp [e]
theorem BRow.grown {w w' : World} {g n : Nat} {s : Nat → Bool} {r : Option Nat} (h : BRow w g n s) (hg : w.grownBy w' r) (hr : some g ≠ r) : BRow w' g n s :=
 ⟨Nat.lt_of_lt_of_le h.1 hg.size, fun j hj => ⟨by rw [World.frozen?_of_block (w := w) (a := ⟨g, j, none⟩) (hg.block g h.1 hr)]; exact (h.2 j hj).1, by rw [World.cell?_of_block (w := w) (a := ⟨g, j, none⟩) (hg.block g h.1 hr)]; exact (h.2 j hj).2⟩⟩
/-- What the order answers. -/
def OrdR (w : World) (r : Option (List Nat)) (e : Ending) (w' : World) : Prop := ∃ v, e = .returned (.tuple #[v, .bool r.isSome]) ∧ OwnS w' w.heap.size v (natsI (r.getD [])) ∧ Below w.heap.size w w'
theorem Tryz.infoOr : (Tryz.prog.info? 2).map (fun i => (i.zero, i.size, i.bytes)) = some (some (.int .i64 0), 1, 8) := by kernel_rfl
set_option maxHeartbeats 16000000 in
theorem order_any (n : Nat) (vl vv : Value) (L : List LkD) (lv : List Bool) (w : World) (hL : LkS w w.heap.size vl L) (hv : BoolS w w.heap.size vv lv) (hlv : lv.length = L.length) (hl : L.length ≤ 7000) (hn : n ≤ 100000)
  (hE : ∀ k, k < L.length → 0 ≤ (lkn L k).src ∧ (lkn L k).src < n ∧ 0 ≤ (lkn L k).dst ∧ (lkn L k).dst < n) :
  Calls Tryz.prog 48 #[.int .i64 (n : Int), vl, vv] w (OrdR w (ordN L (fun k => bvl lv k) n n)) := by
 obtain ⟨ti, hi, hz0, hz1, hz2⟩ := info_parts Tryz.infoB
 obtain ⟨tj, hi', hz0', hz1', hz2'⟩ := info_parts Tryz.infoOr
 obtain ⟨pa', ca, rfl⟩ := hL.slice
 obtain ⟨pb, cb, rfl⟩ := hv.slice
 have HL := lh hL
 have HV := lh hv
 have HE := lh hE
 obtain ⟨m, hm⟩ : ∃ m, m = L.length := ⟨_, rfl⟩
 rw [hlv] at HV ⊢
 rw [← hm] at HL HV hl ⊢
 have HM := lh hm
 have HLV := lh hlv
 clear hm hE hL hv hlv
 have G0 := lh (GI.lit w w.heap.size w.heap.size (Nat.le_refl _) rfl 2 rfl)
 go_enter Tryz.func48, Tryz.ntmps48
 go_wp2_with (at_make; refine wpList_make_full _ rfl _ _ 84 rfl w.heap.size 4 ti (.bool false) 1 Tryz.underlying84 hi hz0 hz1 .i64 .i64 _ _ n rfl rfl rfl rfl (by rw [hz2]; omega) (by unfold maxLen; omega) (by simp) ?_; intro w1 hown0 hgrow0; have B1 := below_grown hgrow0; have R0 := lh (BRow.made hown0); clear hgrow0 hown0)
 have G1 := lh (GI.below G0.out B1)
 have BS : Below w.heap.size w w1 := by exact eX
 have z1 : w.heap.size + 1 < w1.heap.size := by have := R0.out.1; simpa using this
 clear G0 B1
 have R1 : BRow w1 (w.heap.size + 1) n (inO []) := by
  have e : inO [] = fun _ => false := by funext j; simp [inO]
  rw [e]
  have := R0.out
  simpa using this
 obtain ⟨gl, hgl⟩ : ∃ gl, gl = w.heap.size + 1 := ⟨_, rfl⟩
 rw [← hgl] at R1 z1 ⊢
 have g1 : w.heap.size < gl := by omega
 have R1 := lh R1
 have N1 : ∀ k, (Value.slice (some ⟨w.heap.size, 0, none⟩) 0 0).ownBlock = some k → k ≠ gl := fun k hk => by simp [Value.ownBlock] at hk; omega
 have N1 := lh N1
 clear R0 hgl
 obtain ⟨P, hP⟩ : ∃ P, P = ordN L (fun k => bvl lv k) n := ⟨_, rfl⟩
 go_wp2_with fail
 go_loopw [8] (fun u wr => ∃ (mm : Nat) (o : List Nat) (v1 : Value), v1 = u ∧ mm ≤ n ∧ Hid (ordN L (fun k => bvl lv k) n mm = some o) ∧ Hid (GI wr w.heap.size v1 (natsI o)) ∧ Hid (∀ k, v1.ownBlock = some k → k ≠ gl) ∧ Hid (BRow wr gl n (inO o)) ∧ Below w.heap.size w wr) (fun u _ => n - (match u with | .slice _ k _ => k | _ => 0))
 case atStart => exact ⟨0, [], _, rfl, by omega, lh rfl, G1, N1, R1, BS⟩
 case round =>
  clear G1 N1 R1 BS z1
  obtain ⟨mm, o, v1, hv1, hmm, hO, hG, hne, hR, hbw⟩ := hrel
  have hsl : ∃ av cv, v1 = .slice av mm cv := by
   obtain ⟨a, c, e⟩ := (hG.out.own (by rw [natsI_len, ordN_len hO.out]; omega)).slice
   exact ⟨a, c, by rw [e, natsI_len, ordN_len hO.out]⟩
  obtain ⟨av, cv, rfl⟩ := hsl
  subst hv1
  have HNL := lh (show (natsI o).length = mm by rw [natsI_len, ordN_len hO.out])
  by_cases hlt : mm < n
  ·have i1 : (mm : Int) < (n : Int) := by omega
   obtain ⟨W2, hW2⟩ : ∃ W2, W2 = wr := ⟨_, rfl⟩
   rw [← hW2] at hG hR hbw ⊢
   clear hW2
   have hgl2 : gl < W2.heap.size := hR.out.1
   go_wp2_with (at_make; refine wpList_make_full _ rfl _ _ 84 rfl W2.heap.size 4 ti (.bool false) 1 Tryz.underlying84 hi hz0 hz1 .i64 .i64 _ _ n rfl rfl rfl rfl (by rw [hz2]; omega) (by unfold maxLen; omega) (Nat.le_refl _) ?_; intro w3 hown0 hgrow0; have B3 := below_grown hgrow0; have R3 := lh (BRow.made hown0); clear hgrow0 hown0)
   obtain ⟨gw, hgw⟩ : ∃ gw, gw = W2.heap.size := ⟨_, rfl⟩
   rw [← hgw] at R3 ⊢
   have gw1 : gl < gw := by omega
   have gw2 : W2.heap.size ≤ gw := by omega
   have gw3 : gw ≤ W2.heap.size := by omega
   have RS := lh (show BRow w3 gw n (waitsF L (fun k => bvl lv k) (inO o) 0) from by have := R3.out; exact this)
   clear R3 hgw
   have B3 := lh B3
   go_wp2_with fail
   go_loopw [11] (fun i wr => ∃ (k : Nat), k ≤ m ∧ i = .int .i64 k ∧ Hid (BRow wr gw n (waitsF L (fun k => bvl lv k) (inO o) k)) ∧ Hid (Below W2.heap.size W2 wr)) (fun i _ => m - (intOf i).toNat)
   case atStart => exact ⟨0, by omega, rfl, RS, B3⟩
   case round =>
    clear RS B3
    obtain ⟨k, hk, rfl, hWt, hb2⟩ := hrel
    have hbk : Below w.heap.size w wr := hbw.trans (hb2.out.mono hbw.size)
    have hRk := hR.out.below hb2.out
    by_cases hkm : k < m
    ·have hk' : k < L.length := by rw [← HM.out]; exact hkm
     obtain ⟨q, off, rfl, hql, y0, y1, y2, y3⟩ := HL.out.at hbk hk'
     obtain ⟨q2, rfl, hq2, z0⟩ := bools_at HV.out hbk (show k < lv.length by rw [HLV.out]; exact hk')
     obtain ⟨a0, a1, d0, d1⟩ := HE.out k hk'
     have HPUT := lh (fun (h : bvl lv k = true) (h' : inO o (lkn L k).src.toNat = false) => waitsF_put (L := L) (lv := fun k => bvl lv k) (s := inO o) (m := k) h h')
     have HSK := lh (fun (h : bvl lv k = false ∨ inO o (lkn L k).src.toNat = true) => waitsF_skip (L := L) (lv := fun k => bvl lv k) (s := inO o) (m := k) h)
     obtain ⟨a, ha⟩ := Int.eq_ofNat_of_zero_le a0
     obtain ⟨d, hd⟩ := Int.eq_ofNat_of_zero_le d0
     rw [ha] at y0 a0 a1 HPUT HSK; rw [hd] at y1 d0 d1 HPUT
     simp only [Int.ofNat_eq_natCast, Int.toNat_natCast] at HPUT HSK
     clear ha hd y2 y3
     have i0 : (0 : Int) ≤ (k : Int) := by omega
     have i2 : (k : Int) < (m : Int) := by omega
     have ra := (hRk.2 a (by omega)).2
     obtain ⟨fd, rd⟩ := hWt.out.2 d (by omega)
     have lgw := hWt.out.1
     clear hbk hRk
     cases e1 : bvl lv k
     ·have hW9 := lh (show BRow wr gw n (waitsF L (fun k => bvl lv k) (inO o) (k + 1)) by rw [HSK.out (.inl e1)]; exact hWt.out)
      rw [e1] at z0
      clear hWt HSK HPUT e1
      go_wp2
      go_roundw
      case rel => exact ⟨k + 1, by omega, by go_num, hW9, hb2⟩
      case measure => simp [intOf]; omega
     ·cases e2 : inO o a
      ·have hW9 := lh (show BRow (wr.setCell ⟨gw, d, none⟩ (.bool true)) gw n (waitsF L (fun k => bvl lv k) (inO o) (k + 1)) by rw [HPUT.out e1 e2]; exact BRow.store hWt.out (by omega))
       rw [e1] at z0
       rw [e2] at ra
       clear hWt HSK HPUT e1 e2
       go_wp2
       go_roundw
       case rel => exact ⟨k + 1, by omega, by go_num, hW9, lh (by have b2 := hb2.out; exact eX)⟩
       case measure => simp [intOf]; omega
      ·have hW9 := lh (show BRow wr gw n (waitsF L (fun k => bvl lv k) (inO o) (k + 1)) by rw [HSK.out (.inr e2)]; exact hWt.out)
       rw [e1] at z0
       rw [e2] at ra
       clear hWt HSK HPUT e1 e2
       go_wp2
       go_roundw
       case rel => exact ⟨k + 1, by omega, by go_num, hW9, hb2⟩
       case measure => simp [intOf]; omega
    ·obtain rfl : k = m := by omega
     have hI : ¬ (k : Int) < (k : Int) := by omega
     obtain ⟨W4, hW4⟩ : ∃ W4, W4 = wr := ⟨_, rfl⟩
     rw [← hW4] at hWt hb2 hbk hRk ⊢
     clear hW4
     have G4 := lh (GI.below hG.out hb2.out)
     have R4 := lh hRk
     have HRD := lh (fun j => (show readyB L (fun k => bvl lv k) (inO o) j = !(inO o j || waitsF L (fun k => bvl lv k) (inO o) k j) by unfold readyB; rw [HM.out]))
     have l4 : gw < W4.heap.size := hWt.out.1
     clear hRk hG hR hb2
     go_wp2_with fail
     go_loop [12] (fun i => ∃ (j : Nat), j ≤ n ∧ i = .int .i64 j ∧ Hid (∀ x, x < j → readyB L (fun k => bvl lv k) (inO o) x = false)) (fun i => n - (intOf i).toNat)
     case atStart => exact ⟨0, by omega, rfl, lh (fun x hx => absurd hx (Nat.not_lt_zero x))⟩
     case round =>
      obtain ⟨j, hj, rfl, hall⟩ := hrel
      by_cases hjn : j < n
      ·have i3 : (0 : Int) ≤ (j : Int) := by omega
       have i4 : (j : Int) < (n : Int) := by omega
       have i5 : ((j : Int) == (n : Int)) = false := by simp; omega
       have i6 : ¬ j = n := by omega
       obtain ⟨fj, rj⟩ := R4.out.2 j hjn
       have tj' := (hWt.out.2 j hjn).2
       have hrd := HRD.out j
       cases e1 : inO o j
       ·cases e2 : waitsF L (fun k => bvl lv k) (inO o) k j
        ·rw [e1, e2] at hrd
         have HO9 := lh (ordN_go hO.out hjn (by rw [hrd]; rfl) hall.out)
         have HR9 := lh (BRow.store R4.out hjn)
         have HG9 : Hid (GI ((W4.setCell ⟨gl, j, none⟩ (.bool true)).alloc (Obj.cells #[.int .i64 (j : Int)] 2)) w.heap.size (.slice av mm cv) (natsI o)) := lh (GI.below (World.ownsRow.kept G4.out (grown_set W4 ⟨gl, j, none⟩ (.bool true)) (by
          cases hv : (Value.slice av mm cv).ownBlock with
          | none => exact .inl rfl
          | some q => exact .inr (fun e => hne.out q hv (Option.some.inj e)))) ((Below.refl _ _).alloc (Nat.le_refl _) _))
         rw [e1] at rj; rw [e2] at tj'
         have hblk := G4.out.blk
         clear e1 e2 hrd HRD hWt G4
         have hG9 := HG9.out
         unfold GI at hG9
         rw [HNL.out] at hG9
         go_wp2_with (at_builtin; refine wpList_append_at rfl _ _ 33 rfl w.heap.size 2 tj (.int .i64 0) 1 8 Tryz.underlying33 hi' hz0' hz1' hz2' rfl (by decide) _ _ _ rfl hG9 ⟨W4.heap.size, 0, none⟩ 1 1 [.int .i64 (j : Int)] rfl rfl (one_cellG2 _ _ _ _ (by simp)) (fun u hu => by simp at hu; subst hu; rfl) (by unfold maxLen; omega) (by omega) (by simp; omega) ?_; intro v' w9 hown' hgrow hat)
         have G9 : GI w9 w.heap.size v' (natsI (o ++ [j])) := by
          unfold GI
          rw [natsI_snoc, List.map_append, List.length_append, HNL.out]
          exact hown'
         have R9 := lh (show BRow w9 gl n (inO (o ++ [j])) from by
          rw [inO_snoc]
          exact (HR9.out.below ((Below.refl _ _).alloc (Nat.le_refl _) _)).grown hgrow (fun e => hne.out gl e.symm rfl))
         have N9 := lh (show ∀ q, v'.ownBlock = some q → q ≠ gl from fun q hq => by
          rcases hat with e | e
          ·exact hne.out q (e.symm.trans hq)
          ·rw [hq] at e
           have e := Option.some.inj e
           simp at e
           omega)
         have B9 : Below w.heap.size w w9 := grown_in (by exact eX) (by simp; omega) hgrow hblk
         obtain ⟨av', cv', rfl⟩ : ∃ a c, v' = .slice a (mm + 1) c := by
          obtain ⟨a, c, e⟩ := (G9.own (by rw [natsI_snoc, List.length_append, HNL.out]; simp; omega)).slice
          exact ⟨a, c, by rw [e, natsI_snoc, List.length_append, HNL.out]; rfl⟩
         have G9 := lh G9
         clear hown' hgrow hat hG9 HG9 HR9 hO hne
         go_wp2
         go_roundw
         case rel => exact ⟨mm + 1, _, _, rfl, by omega, HO9, G9, N9, R9, B9⟩
         case measure => simp; omega
        ·rw [e1, e2] at hrd
         have hok := lh (all_more (p := fun x => readyB L (fun k => bvl lv k) (inO o) x = false) hall.out (by rw [hrd]; rfl))
         rw [e1] at rj; rw [e2] at tj'
         clear e1 e2 hrd
         go_wp2
         go_round
         case rel => exact ⟨j + 1, by omega, by go_num, hok⟩
         case measure => simp [intOf]; omega
       ·rw [e1] at hrd
        have hok := lh (all_more (p := fun x => readyB L (fun k => bvl lv k) (inO o) x = false) hall.out (by rw [hrd]; rfl))
        rw [e1] at rj
        clear e1 hrd
        go_wp2
        go_round
        case rel => exact ⟨j + 1, by omega, by go_num, hok⟩
        case measure => simp [intOf]; omega
      ·obtain rfl : j = n := by omega
       have hI2 : ¬ (j : Int) < (j : Int) := by omega
       have HNO := lh (ordN_none (k := j) (ordN_stop hO.out hall.out) (by omega))
       go_wp2
       go_ret2
       exact ⟨_, by rw [HNO.out]; rfl, by rw [HNO.out]; exact own_empty _ _ _ _, by exact eX⟩
  ·obtain rfl : mm = n := by omega
   have hI : ¬ (mm : Int) < (mm : Int) := by omega
   have HOw := lh (hG.out.own (by rw [HNL.out]; omega))
   go_wp2
   go_ret2
   exact ⟨_, by rw [hO.out]; rfl, by rw [hO.out]; exact HOw.out, hbw⟩
end Go.Proofs.YtkpfbnffhhmokaaGreat
namespace Go.Proofs.YtkpfbnffhhmokaaGreat
open Go.ChangeShapes Go.WideShapes Go.ChangeAt Go.RowKit Go.Deep
set_option linter.unusedVariables false
set_option linter.unusedSimpArgs false
set_option maxRecDepth 100000
theorem waitsF_like {L : List LkD} {lv lv' s : Nat → Bool} {j : Nat} : ∀ {m : Nat}, (∀ k, k < m → lv k = lv' k) → waitsF L lv s m j = waitsF L lv' s m j
 | 0, _ => rfl
 | m + 1, h => by rw [waitsF_succ, waitsF_succ, waitsF_like (m := m) (fun k hk => h k (by omega)), h m (by omega)]
theorem ready_like {L : List LkD} {lv lv' : Nat → Bool} (h : ∀ k, k < L.length → lv k = lv' k) (s : Nat → Bool) : readyB L lv s = readyB L lv' s := by
 funext j
 unfold readyB
 rw [waitsF_like h]
theorem ordN_like {L : List LkD} {lv lv' : Nat → Bool} (h : ∀ k, k < L.length → lv k = lv' k) (n : Nat) : ∀ m, ordN L lv n m = ordN L lv' n m
 | 0 => rfl
 | m + 1 => by simp only [ordN, ordN_like h n m, ready_like h]
/-- The order of a block's nodes, where there is one. -/
def topoR (z : BlkD) (bs : List Int) : Option (List Nat) := ordN (linksL z) (fun k => !hasI bs (k : Int)) (ndN z).toNat (ndN z).toNat
def topoC (z : BlkD) (bs : List Int) : Int := if grCode z bs = 0 then (if (topoR z bs).isSome then 0 else 7) else grCode z bs
def topoL (z : BlkD) (bs : List Int) : List Int := if grCode z bs = 0 then natsI ((topoR z bs).getD []) else []
set_option maxHeartbeats 8000000 in
theorem specTopo_any (f : Nat → Value) (z : BlkD) (v : Value) (bs : List Int) (w : World) (h : BlkF w w.heap.size f z) (hv : IntS w w.heap.size v bs) :
  Calls Tryz.prog 21 #[.agg #[f 0, f 1, f 2, f 3, f 4], v] w (ListR w (topoL z bs) (topoC z bs)) := by
 have HG := lh (fun (w1 : World) (hb : Below w.heap.size w w1) => specGr_any f z v bs w1 (h.up hb) (hv.up hb))
 have HC := lh (fun (hb : blkB z = true) (w1 : World) (hb' : Below w.heap.size w w1) => specLinks_any f z w1 (h.up hb') hb)
 have HCT := lh (fun (hb : blkB z = true) (w1 : World) (hb' : Below w.heap.size w w1) => specCount_any f z w1 (h.up hb') hb)
 obtain ⟨a, c, rfl⟩ := hv.slice
 have HV := lh (fun (w1 : World) (hb' : Below w.heap.size w w1) => hv.up hb')
 obtain ⟨p0, q0, p1, q1, p2, q2, p3, q3, p4, q4, e0, e1, e2, e3, e4⟩ := h.five
 rw [e0, e1, e2, e3, e4] at HG HC HCT
 rw [e0, e1, e2, e3, e4]
 clear e0 e1 e2 e3 e4 h
 clear hv
 by_cases hg : grCode z bs = 0
 ·have hb := grCode_valid hg
  have HC := lh (HC.out hb)
  have HCT := lh (HCT.out hb)
  have HLL := lh (linksL_len hb)
  obtain ⟨n0, n2⟩ := ndN_le hb
  obtain ⟨N, hN⟩ := Int.eq_ofNat_of_zero_le n0
  have HE := lh (fun k (hk : k < (linksL z).length) => (show 0 ≤ (lkn (linksL z) k).src ∧ (lkn (linksL z) k).src < (N : Int) ∧ 0 ≤ (lkn (linksL z) k).dst ∧ (lkn (linksL z) k).dst < (N : Int) from by have := links_at hb hk; rw [hN] at this; exact this))
  obtain ⟨R, hR⟩ : ∃ R, R = ordN (linksL z) (fun k => !hasI bs (k : Int)) N N := ⟨_, rfl⟩
  have XR := lh (show topoR z bs = R by simp [topoR, hN, hR])
  have XL := lh (show topoL z bs = natsI (R.getD []) by simp [topoL, hg, XR.out])
  have XC := lh (show topoC z bs = if R.isSome then 0 else 7 by simp [topoC, hg, XR.out])
  have XV := lh (show ordN (linksL z) (fun k => bvl (liveN bs (linksL z).length) k) N N = R from by rw [hR]; exact ordN_like (fun k hk => liveN_at bs hk) N N)
  rw [hN] at HCT n2
  have HN2 := lh (show N ≤ 200 by omega)
  rw [hg] at HG
  clear hg hb hN n0 n2 hR XR
  unfold LinksR at HC
  go_enter Tryz.func21, Tryz.ntmps21
  go_wp2_with fail
  (go_at_call 46; refine (HG.out _ eX).mono ?_; rintro e w1 ⟨rfl, hb⟩; have ⟨hc, hf⟩ := bcell hb; have hz := hb.size; (try simp at hz); (try have hz := Nat.lt_of_succ_le hz); (try have y0 := wy w w1); (try have z0 := wz0 w w1); (try have z1 := wz1 w w1); (try have z2 := wz2 w w1); (try have z3 := wz3 w w1); (try have z4 := wz4 w w1))
  have B1 : Below w.heap.size w w1 := by exact eX
  go_wp2_with fail
  (go_at_call 47; refine (HC.out _ B1).mono ?_; rintro e w2 ⟨vl, rfl, hG, hb⟩; have ⟨hc, hf⟩ := bcell hb; have hz := hb.size; (try simp at hz); (try have hz := Nat.lt_of_succ_le hz); (try have y0 := wy w w2); (try have z0 := wz0 w w2); (try have z1 := wz1 w w2); (try have z2 := wz2 w w2); (try have z3 := wz3 w w2); (try have z4 := wz4 w w2))
  have HLk := GL.lks hG (by have := HLL.out; omega)
  obtain ⟨va, vc, rfl⟩ := HLk.slice
  have HLk := lh HLk
  have B2 : Below w.heap.size w w2 := by exact eX
  clear hG
  go_wp2_with fail
  (go_at_call 49; refine (HCT.out _ B2).mono ?_; rintro e w3 ⟨rfl, hb⟩; have ⟨hc, hf⟩ := bcell hb; have hz := hb.size; (try simp at hz); (try have hz := Nat.lt_of_succ_le hz); (try have y0 := wy w w3); (try have z0 := wz0 w w3); (try have z1 := wz1 w w3); (try have z2 := wz2 w w3); (try have z3 := wz3 w w3); (try have z4 := wz4 w w3))
  have B23 : Below w2.heap.size w2 w3 := by exact eX
  have B3 : Below w.heap.size w w3 := by exact eX
  go_wp2_with fail
  (go_at_call 50; refine (live_any va (linksL z).length vc _ bs _ (HV.out w3 B3) HLL.out).mono ?_; rintro e w4 ⟨vv, rfl, hV, hvb, hb⟩; have ⟨hc, hf⟩ := bcell hb; have hz := hb.size; (try simp at hz); (try have hz := Nat.lt_of_succ_le hz); (try have y0 := wy w w4); (try have z0 := wz0 w w4); (try have z1 := wz1 w w4); (try have z2 := wz2 w w4); (try have z3 := wz3 w w4); (try have z4 := wz4 w w4))
  have B4 : Below w.heap.size w w4 := by exact eX
  have HL4 := lh (HLk.out.up (show Below w2.heap.size w2 w4 from B23.trans ((show Below w3.heap.size w3 w4 by exact eX).mono B23.size)))
  have HV4 := lh hV
  clear hV hvb
  go_wp2_with fail
  (go_at_call 48; refine (order_any N _ _ (linksL z) (liveN bs (linksL z).length) _ HL4.out HV4.out (liveN_len _ _) HLL.out (by have := HN2.out; omega) HE.out).mono ?_; rintro e w5 ⟨vo, rfl, hO, hb⟩; have ⟨hc, hf⟩ := bcell hb; have hz := hb.size; (try simp at hz); (try have hz := Nat.lt_of_succ_le hz); (try have y0 := wy w w5); (try have z0 := wz0 w w5); (try have z1 := wz1 w w5); (try have z2 := wz2 w w5); (try have z3 := wz3 w w5); (try have z4 := wz4 w w5))
  have B5 : Below w.heap.size w w5 := by exact eX
  rw [XV.out] at hO ⊢
  cases R with
  | none =>
   go_wp2
   go_ret2
   exact ⟨_, by rw [XC.out]; rfl, by rw [XL.out]; exact own_empty _ _ _ _, by exact eX⟩
  | some o =>
   have HO := lh (hO.mono (C := w.heap.size) B4.size)
   obtain ⟨ua, uc, rfl⟩ := HO.out.slice
   clear hO
   go_wp2
   go_ret2
   exact ⟨_, by rw [XC.out]; rfl, by rw [XL.out]; exact HO.out, B5⟩
 ·have XL := lh (show topoL z bs = [] by simp [topoL, hg])
  have XC := lh (show topoC z bs = grCode z bs by simp [topoC, hg])
  rw [XC.out]
  obtain ⟨cd, hcd⟩ : ∃ cd, cd = grCode z bs := ⟨_, rfl⟩
  rw [← hcd] at HG hg ⊢
  have hne : (cd != 0) = true := by simpa using hg
  have hne2 : (cd == 0) = false := by simpa using hg
  clear hcd hg HC HCT HV XC
  go_enter Tryz.func21, Tryz.ntmps21
  go_wp2_with fail
  (go_at_call 46; refine (HG.out _ eX).mono ?_; rintro e w1 ⟨rfl, hb⟩; have ⟨hc, hf⟩ := bcell hb; have hz := hb.size; (try simp at hz); (try have hz := Nat.lt_of_succ_le hz); (try have y0 := wy w w1); (try have z0 := wz0 w w1); (try have z1 := wz1 w w1); (try have z2 := wz2 w w1); (try have z3 := wz3 w w1); (try have z4 := wz4 w w1))
  go_wp2
  go_ret2
  exact ⟨_, rfl, by rw [XL.out]; exact own_empty _ _ _ _, eX⟩
end Go.Proofs.YtkpfbnffhhmokaaGreat
