/-
Look-ups at the ends of a netlist, in later worlds.
-/
import Derived.Test.YtkpfbnffhhmokaaGreatBlkC
import Derived.Test.YtkpfbnffhhmokaaGreatTurn
namespace Go.Proofs.YtkpfbnffhhmokaaGreat
open Go.ChangeShapes Go.WideShapes Go.ChangeAt Go.RowKit Go.Deep
set_option linter.unusedVariables false
set_option linter.unusedSimpArgs false
set_option maxRecDepth 100000
/-- A look-up at the ends of a netlist, in a later world: what it finds lies where it lay. -/
def LookB (w0 w : World) (m : Option Nat) (P : List PlD) (n : Int) (d : Bool) : Prop :=
 ∃ u, (Instr.lookup 138 (.map m) (endKey n d) false).run Tryz.prog w = .ok u w ∧ IntS w0 w0.heap.size u (endsL P n d)
theorem ends_look2 {w0 w : World} {base B : Nat} {P : List PlD} (h : Ends w0 base B P) (hB : Below w0.heap.size w0 w) (hP : P.length ≤ 1048576) (n : Int) (d : Bool) (hwf : (Lit.int .i64 n).wf = true) : LookB w0 w (some B) P n d := by
 obtain ⟨es, clock, hb, hbb, s1, s2, s3, own, cov, apart⟩ := h
 have K := Tryz.endK
 have ht : Tryz.prog.underlying 138 = some (.map 186 33) := Tryz.underlying138
 have hkey := Tryz.endOf n d hwf
 have keys : ∀ e ∈ es.toList, ∃ l, keyOf Tryz.prog 186 e.key = some l := fun e he => by
  obtain ⟨n, d, k1, k2, _⟩ := own e he
  exact ⟨_, by rw [k1]; exact Tryz.endOf n d k2⟩
 have hle := endsL_le P n d
 have hlb : B < w0.heap.size := by
  apply Classical.byContradiction
  intro hn
  simp [Array.getElem?_eq_none (by omega : w0.heap.size ≤ B)] at hb
 have hb' : w.heap[B]? = some (.map es clock) := by rw [hB.block B hlb]; exact hb
 rcases K.find w hkey es.toList keys with ⟨h1, h2⟩ | ⟨j, e0, h1, h2, h3⟩
 ·have hempty : endsL P n d = [] := by
   apply Classical.byContradiction
   intro hne
   obtain ⟨x, hx, he⟩ := cov _ _ hne
   exact h2 x hx he
  refine ⟨.slice none 0 0, ?_, ?_⟩
  ·simp [Instr.lookup, run_underlying ht, MapKept.run_getObj_map hb', K.check w _ hkey, h1, Tryz.zeroInts, Result.andThen]
  ·rw [hempty]; exact ⟨by simp, none, 0, rfl, fun hp => absurd hp (by simp)⟩
 ·have hm0 : e0 ∈ es.toList := List.mem_of_getElem? h2
  obtain ⟨n0, d0, k1, k2, k3, k4⟩ := own e0 hm0
  obtain ⟨rfl, rfl⟩ := endKey_inj (k1.symm.trans h3)
  refine ⟨e0.val, ?_, ownsInts_IntS k4 (by omega)⟩
  ·simp [Instr.lookup, run_underlying ht, MapKept.run_getObj_map hb', K.check w _ hkey, h1, Result.andThen]
theorem NetK.look2 {w : World} {L : Nat} {P : List PlD} {a : Option Addr} {n cap : Nat} {m : Option Nat} (h : NetK w L P (.agg #[.slice a n cap, .map m])) (hP : P.length ≤ 1048576) {wn : World} (hb : Below w.heap.size w wn) (k : Int) (d : Bool) (hw : (Lit.int .i64 k).wf = true) : LookB w wn m P k d := by
 obtain ⟨a', cap', B, base, e, h0, h1, h2, hG, hE⟩ := h
 simp only [Value.agg.injEq, Array.mk.injEq, List.cons.injEq, Value.slice.injEq, Value.map.injEq, and_true] at e
 obtain ⟨_, rfl⟩ := e
 exact ends_look2 hE hb hP k d hw
def SnkR (w0 w : World) (xs : List Int) (e : Ending) (w' : World) : Prop := ∃ u, e = .returned u ∧ IntS w0 w0.heap.size u xs ∧ Below w.heap.size w w'
theorem netSinks_old (w0 : World) (a : Option Addr) (n cap : Nat) (m : Option Nat) (P : List PlD) (x : Int) (w : World) (hK : ∀ wn, Below w.heap.size w wn → LookB w0 wn m P x false) :
  Calls Tryz.prog 119 #[.agg #[.slice a n cap, .map m], .int .i64 x] w (SnkR w0 w (endsL P x false)) := by
 have bA : Below w.heap.size w (w.alloc (Obj.cells #[.slice a n cap, .map m] 140)) := (Below.refl _ _).alloc (Nat.le_refl _) _
 obtain ⟨u, hrun, hu⟩ := hK _ bA
 have hrun : (Instr.lookup 138 (.map m) (.agg #[.int .i64 x, .bool false]) false).run Tryz.prog (w.alloc (Obj.cells #[.slice a n cap, .map m] 140)) = .ok u _ := hrun
 have HU := lh hu
 have HB := lh bA
 obtain ⟨p, q, rfl⟩ := hu.slice
 clear hu hK bA
 go_enter Tryz.func119, Tryz.ntmps119
 go_wp2
 go_ret
 exact ⟨_, rfl, HU.out, HB.out⟩
end Go.Proofs.YtkpfbnffhhmokaaGreat
namespace Go.Proofs.YtkpfbnffhhmokaaGreat
open Go.ChangeShapes Go.WideShapes Go.ChangeAt Go.RowKit Go.Deep
set_option linter.unusedVariables false
set_option linter.unusedSimpArgs false
set_option maxRecDepth 100000
def WLinksR (z : BlkD) (w : World) (e : Ending) (w' : World) : Prop := ∃ v, e = .returned v ∧ GL w' w.heap.size v (netsLk (places z.lib z.des) z.des.nets.length) ∧ Below w.heap.size w w'
set_option maxHeartbeats 32000000 in
theorem wireLinks_any (z : BlkD) (a : Option Addr) (n cap : Nat) (m : Option Nat) (L : Nat) (w : World) (hb : blkB z = true) (hK : NetK w L (places z.lib z.des) (.agg #[.slice a n cap, .map m])) :
  Calls Tryz.prog 92 #[.agg #[.slice a n cap, .map m], .int .i64 z.des.nets.length] w (WLinksR z w) := by
 obtain ⟨ti, hi, hz0, hz1, hz2⟩ := info_parts Tryz.infoLk
 have h100 := placesM (blk_get hb).1
 have h30 := des_nets (blk_get hb).1
 have HLB := lh (fun (wn : World) (hb' : Below w.heap.size w wn) (k : Int) (d : Bool) (hw : (Lit.int .i64 k).wf = true) => hK.look2 (by omega) hb' k d hw)
 have HD1 := lh (fun k (hk : k < z.des.nets.length) => drv_one hb hk)
 have HDR := lh (fun k (hk : k < z.des.nets.length) => drvP_is (drv_one hb hk))
 have HSL := lh (fun k => snk100 hb k)
 have HNL := lh (fun k (hk : k ≤ z.des.nets.length) => netsLk_len hb hk)
 have RES := lh (show WLinksR z w = fun e w' => ∃ v, e = .returned v ∧ GL w' w.heap.size v (netsLk (places z.lib z.des) z.des.nets.length) ∧ Below w.heap.size w w' from rfl)
 rw [RES.out]
 obtain ⟨P, hP⟩ : ∃ P, P = places z.lib z.des := ⟨_, rfl⟩
 obtain ⟨ns, hns⟩ : ∃ n, n = z.des.nets.length := ⟨_, rfl⟩
 rw [← hP] at h100 HLB HD1 HDR HSL HNL ⊢
 rw [← hns] at h30 HD1 HDR HNL ⊢
 clear RES hb hK hP hns
 obtain ⟨W, hW⟩ : ∃ W, W = w.alloc (Obj.cells #[.slice a n cap, .map m] 140) := ⟨_, rfl⟩
 have bW : Below w.heap.size w W := by rw [hW]; exact eX
 have zW : W.heap.size = w.heap.size + 1 := by rw [hW]; simp
 have a0 : W.cell? ⟨w.heap.size, 0, none⟩ = some (.slice a n cap) := by rw [hW]; simp [go_sem]
 have a1 : W.cell? ⟨w.heap.size, 1, none⟩ = some (.map m) := by rw [hW]; simp [go_sem]
 have G0 : Hid (GL W (w.heap.size + 1) (.slice none 0 0) (netsLk P 0)) := lh (GR.nil _ _ _ _)
 have HW := lh hW
 have BWF := lh (fun (w1 : World) (v1 : Value) (hF : LkF W (.slice none 0 0) w1 v1) => (show Below w.heap.size w w1 from bW.trans (hF.below (by omega) (fun k hk => by simp [Value.ownBlock] at hk))))
 have NEW := lh (fun (w1 : World) (v1 : Value) (hF : LkF W (.slice none 0 0) w1 v1) (g : Nat) (hg : g < w.heap.size + 1) => (show some g ≠ v1.ownBlock from fun e => by
  rcases hF.2 with q | q
  ·rw [q] at e; simp [Value.ownBlock] at e
  ·have := q _ e.symm; omega))
 have lw : w.heap.size < W.heap.size := by omega
 clear hW bW zW
 go_enter Tryz.func92, Tryz.ntmps92
 go_wp2_with fail
 rw [← HW.out]
 go_loopw [5, 12] (fun v i wr => ∃ (k : Nat) (v1 : Value), v1 = v ∧ k ≤ ns ∧ i = .int .i64 k ∧ Hid (GL wr (w.heap.size + 1) v1 (netsLk P k)) ∧ Hid (LkF W (.slice none 0 0) wr v1)) (fun _ i _ => ns - (intOf i).toNat)
 case atStart => exact ⟨0, _, rfl, by omega, rfl, G0, lh (LkF.refl _ _)⟩
 case round =>
  clear G0
  obtain ⟨k, v0, hv0, hk, rfl, hG, hF⟩ := hrel
  subst hv0
  obtain ⟨wo, hwo⟩ : ∃ wo : World, wo = wr := ⟨_, rfl⟩
  subst hwo
  have r0 := hF.out.cell a0 (by simp [Value.ownBlock])
  have r1 := hF.out.cell a1 (by simp [Value.ownBlock])
  have lr : w.heap.size < wo.heap.size := cell_lt r0
  have bww : Below w.heap.size w wo := BWF.out wo _ hF.out
  by_cases hlt : k < ns
  ·have hwf : (Lit.int .i64 (k : Int)).wf = true := WalkArith.wf_i64 (by omega)
   obtain ⟨u, hrun, hu⟩ := HLB.out wo bww (k : Int) true hwf
   have hrun : (Instr.lookup 138 (.map m) (.agg #[.int .i64 (k : Int), .bool true]) false).run Tryz.prog wo = .ok u wo := hrun
   obtain ⟨pu, qu, rfl⟩ := hu.slice
   have e1 := HD1.out k hlt
   obtain ⟨b, off, rfl, hbl, y0⟩ := ints_at hu bww (show 0 < (endsL P (k : Int) true).length by omega)
   have ⟨dr, dr0, dr1⟩ := HDR.out k hlt
   rw [dr] at y0
   rw [e1] at hrun
   obtain ⟨dv, hdv⟩ : ∃ x, x = drvP P (k : Int) := ⟨_, rfl⟩
   rw [← hdv] at y0 dr0 dr1
   have DV := lh hdv
   have i0 : (0 : Int) ≤ (k : Int) := by omega
   have i1 : (k : Int) < (ns : Int) := by omega
   have lb : b < wo.heap.size := by omega
   have HSK := lh (fun (w1 : World) (h1 : Below w.heap.size w w1) => netSinks_old w a n cap m P (k : Int) w1 (fun wn hwn => HLB.out wn (h1.trans (hwn.mono h1.size)) (k : Int) false hwf))
   have HIN := lh (fun i (h : i < (endsL P (k : Int) false).length) => ends_in2 P (k : Int) false i h)
   have HLN := lh (HNL.out k (by omega))
   have l100 := HSL.out k
   have HNX := lh (netsLk_succ P k)
   clear hu e1 hdv dr hwf
   simp only [Nat.zero_add, Nat.add_zero] at y0
   go_wp2_with fail
   (go_at_call 119; refine (HSK.out _ bww).mono ?_; rintro e w3 ⟨u2, rfl, hS, hb3⟩)
   obtain ⟨ps, qs, rfl⟩ := hS.slice
   obtain ⟨nk, hnk⟩ : ∃ x, x = (endsL P (k : Int) false).length := ⟨_, rfl⟩
   rw [← hnk] at l100 HNX
   rw [← hnk]
   have HS := lh hS
   rw [← hnk] at HS
   have NK := lh hnk
   have B3 := lh hb3
   have G1 := lh (show GL w3 (w.heap.size + 1) v0 (netsLk P k ++ netLk P k 0) from by
    have e : netLk P k 0 = [] := rfl
    rw [e, List.append_nil]; exact GR.below hG.out hb3)
   have F1 := lh (hF.out.trans (LkF.call _ hb3))
   have HLL := lh (show ∀ j, (netsLk P k ++ netLk P k j).length ≤ 6000 + j * 2 from fun j => by
    rw [List.length_append]
    have := HLN.out
    have := netLk_len P k j
    omega)
   clear hS hb3 hnk hG hF y0 hrun r0 r1
   go_wp2_with fail
   go_loopw [5, 26] (fun v i wr => ∃ (j : Nat) (v1 : Value), v1 = v ∧ j ≤ nk ∧ i = .int .i64 j ∧ Hid (GL wr (w.heap.size + 1) v1 (netsLk P k ++ netLk P k j)) ∧ Hid (LkF W (.slice none 0 0) wr v1)) (fun _ i _ => nk - (intOf i).toNat)
   case atStart => exact ⟨0, _, rfl, by omega, rfl, G1, F1⟩
   case round =>
    clear G1 F1
    obtain ⟨j, v1, hv1, hj, rfl, hG2, hF2⟩ := hrel
    subst hv1
    obtain ⟨wa, hwa⟩ : ∃ wa : World, wa = wr := ⟨_, rfl⟩
    subst hwa
    have bwa : Below w.heap.size w wa := BWF.out wa _ hF2.out
    by_cases hjt : j < nk
    ·have hjt' : j < (endsL P (k : Int) false).length := by rw [← NK.out]; exact hjt
     obtain ⟨b2, off2, rfl, hbl2, y1⟩ := ints_at HS.out bwa hjt'
     obtain ⟨sk, hsk, hskl⟩ := HIN.out j hjt'
     rw [hsk] at y1
     have HSKL := lh (show sinkLk P k j = [⟨2 * dv, 2 * (sk : Int), 2, j⟩, ⟨2 * dv + 1, 2 * (sk : Int) + 1, 2, j⟩] by unfold sinkLk; rw [hsk, ← DV.out])
     have HNX2 := lh (netLk_succ P k j)
     have j0 : (0 : Int) ≤ (j : Int) := by omega
     have j1 : (j : Int) < (nk : Int) := by omega
     have lb2 : b2 < wa.heap.size := by have := bwa.size; omega
     have G2 := lh (show GL wa (w.heap.size + 1) v1 ((netsLk P k ++ netLk P k j) ++ (sinkLk P k j).take (0 : Int).toNat) from by
      have e : (sinkLk P k j).take (0 : Int).toNat = [] := rfl
      rw [e, List.append_nil]; exact hG2.out)
     clear hsk hjt' hG2
     go_wp2_with fail
     go_loopw [5, 10] (fun v t wr => ∃ (t' : Int) (v1 : Value), v1 = v ∧ 0 ≤ t' ∧ t' ≤ 2 ∧ t = .int .i64 t' ∧ Hid (GL wr (w.heap.size + 1) v1 ((netsLk P k ++ netLk P k j) ++ (sinkLk P k j).take t'.toNat)) ∧ Hid (LkF W (.slice none 0 0) wr v1)) (fun _ t _ => (2 - intOf t).toNat)
     case atStart => exact ⟨0, _, rfl, by omega, by omega, rfl, G2, hF2⟩
     case round =>
      clear G2 hF2
      obtain ⟨t', v2, hv2, t0, t2, rfl, hG3, hF3⟩ := hrel
      subst hv2
      by_cases ht : t' ≤ 1
      ·have TK := lh (show (sinkLk P k j).take (t' + 1).toNat = (sinkLk P k j).take t'.toNat ++ [⟨2 * dv + t', 2 * (sk : Int) + t', 2, j⟩] from by
        rw [HSKL.out]
        have h01 : t' = 0 ∨ t' = 1 := by omega
        rcases h01 with rfl | rfl
        ·simp
        ·rfl)
       have HL3 := lh (show ((netsLk P k ++ netLk P k j) ++ (sinkLk P k j).take t'.toNat).length ≤ 7000 from by
        rw [List.length_append, List.length_take]
        have := HLL.out j
        omega)
       have zb : w.heap.size + 1 ≤ wr.heap.size := by have := (BWF.out wr _ hF3.out).size; have := hF3.out.1.size; omega
       have HA := lh (show Below wr.heap.size wr (wr.alloc (Obj.cells #[.int .i64 (2 * dv + t'), .int .i64 (2 * (sk : Int) + t'), .int .i64 2, .int .i64 (j : Int)] 109)) from (Below.refl _ _).alloc (Nat.le_refl _) _)
       go_wp2_with (first | (go_at_call 121; refine (nodeOf_any _ _ _ (by omega) (by omega) (by omega) (by omega)).mono ?_; rintro e w' ⟨rfl, hw'⟩; rw [hw']; clear hw' w') | (at_builtin; refine wpList_append_at rfl _ _ 65 rfl (w.heap.size + 1) 109 ti (.agg #[.int .i64 0, .int .i64 0, .int .i64 0, .int .i64 0]) 4 32 Tryz.underlying65 hi hz0 hz1 hz2 rfl (by decide) _ _ _ rfl (GR.below hG3.out HA.out).1 ⟨wr.heap.size, 0, none⟩ 1 1 [.int .i64 (2 * dv + t'), .int .i64 (2 * (sk : Int) + t'), .int .i64 2, .int .i64 (j : Int)] rfl rfl (four_new _ _ _ _ _ _ _ rfl) (fun u hu => by simp at hu; rcases hu with rfl | rfl | rfl | rfl <;> rfl) (by have := HL3.out; rw [List.length_map]; unfold maxLen; omega) (by have := HL3.out; rw [List.length_map]; omega) (by simp; omega) ?_; intro v' w9 hown' hgrow hat))
       have hg := (GR.below hG3.out HA.out).snoc (f := [.int .i64 (2 * dv + t'), .int .i64 (2 * (sk : Int) + t'), .int .i64 2, .int .i64 (j : Int)]) hown' rfl
       have G4 := lh (show GL w9 (w.heap.size + 1) v' ((netsLk P k ++ netLk P k j) ++ (sinkLk P k j).take (t' + 1).toNat) by unfold GL; rw [TK.out, ← List.append_assoc, List.map_append]; exact hg)
       have F4 := lh (hF3.out.trans ((LkF.call v2 HA.out).trans ⟨hgrow, hat.elim .inl (fun q => .inr (fun k hk => by rw [q] at hk; exact Nat.le_of_eq (Option.some.inj hk)))⟩))
       clear hg hown' hgrow hat hG3 hF3
       go_wp2
       go_roundw
       case rel => exact ⟨t' + 1, _, rfl, by omega, by omega, by go_num, G4, F4⟩
       case measure => simp [intOf]; omega
      ·obtain rfl : t' = 2 := by omega
       have G4 : Hid (GL wr (w.heap.size + 1) v2 (netsLk P k ++ netLk P k (j + 1))) := by
        have e := hG3.out
        rw [show (sinkLk P k j).take (2 : Int).toNat = sinkLk P k j by rw [HSKL.out]; rfl, List.append_assoc, ← HNX2.out] at e
        exact lh e
       clear hG3
       go_wp2
       go_roundw
       case rel => exact ⟨j + 1, _, rfl, by omega, by go_num, G4, hF3⟩
       case measure => simp [intOf]; omega
    ·obtain rfl : j = nk := by omega
     have hI : ¬ (j : Int) < (j : Int) := by omega
     have G4 : Hid (GL wa (w.heap.size + 1) v1 (netsLk P (k + 1))) := by
      have e := hG2.out
      rw [← HNX.out] at e
      exact lh e
     clear hG2
     go_wp2
     go_roundw
     case rel => exact ⟨k + 1, _, rfl, by omega, by go_num, G4, hF2⟩
     case measure => simp [intOf]; omega
  ·obtain rfl : k = ns := by omega
   have hI : ¬ (k : Int) < (k : Int) := by omega
   have G10 := lh (GR.low hG.out (base' := w.heap.size) (by omega))
   clear hG
   go_wp2
   go_ret
   exact ⟨_, rfl, G10.out, bww⟩
end Go.Proofs.YtkpfbnffhhmokaaGreat
