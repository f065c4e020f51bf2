/-
The program's cone of a node: a search by a list that grows, sorted at its end; FanOut and FanIn.
-/
import Derived.Test.YtkpfbnffhhmokaaGreatGraph
import Derived.Test.YtkpfbnffhhmokaaGreatCone
import Derived.Test.YtkpfbnffhhmokaaGreatLive
import Derived.Test.YtkpfbnffhhmokaaGreatSrt
namespace Go.Proofs.YtkpfbnffhhmokaaGreat
open Go.ChangeShapes Go.WideShapes Go.ChangeAt Go.RowKit Go.Deep
set_option linter.unusedVariables false
set_option linter.unusedSimpArgs false
set_option maxRecDepth 100000
theorem BRow.like {w : World} {g n : Nat} {s t : Nat → Bool} (h : BRow w g n s) (e : ∀ j, j < n → s j = t j) : BRow w g n t := ⟨h.1, fun j hj => by rw [← e j hj]; exact h.2 j hj⟩
theorem BRow.only {w w' : World} {S0 g n : Nat} {s : Nat → Bool} {S : Nat → Prop} (h : BRow w g n s) (ho : OnlyIn w w' S0 S) (hg : g < S0) (hS : ¬ S g) : BRow w' g n s :=
 ⟨Nat.lt_of_lt_of_le h.1 ho.size, fun j hj => ⟨ho.frozen (h.2 j hj).1 hg hS, ho.cell (h.2 j hj).2 hg hS⟩⟩
theorem browGrown {w w' : World} {g n : Nat} {s : Nat → Bool} {r : Option Nat} (h : BRow w g n s) (hg : w.grownBy w' r) (hr : some g ≠ r) : BRow w' g n s :=
 ⟨Nat.lt_of_lt_of_le h.1 hg.size, fun j hj => ⟨by rw [World.frozen?_of_block (w := w) (a := ⟨g, j, none⟩) (hg.block g h.1 hr)]; exact (h.2 j hj).1, by rw [World.cell?_of_block (w := w) (a := ⟨g, j, none⟩) (hg.block g h.1 hr)]; exact (h.2 j hj).2⟩⟩
theorem gset (w : World) (p : Addr) (u : Value) : w.grownBy (w.setCell p u) (some p.block) :=
 ⟨rfl, rfl, rfl, by simp [World.setCell], fun k _ hne => Below.heap_setCell _ _ _ _ (fun e => hne (by rw [e]))⟩
theorem snocGI {w : World} {base : Nat} {v : Value} {xs : List Int} {y : Int} (h : w.ownsRow base 2 1 v (xs.length + 1) (xs.map (Value.int .i64) ++ [.int .i64 y])) : GI w base v (xs ++ [y]) := by
 unfold GI
 rw [List.map_append, List.length_append]
 exact h
theorem iv_mem {xs : List Int} {i : Nat} (h : i < xs.length) : iv xs i ∈ xs := by
 have : iv xs i = xs[i] := by simp [iv, List.getD, h]
 rw [this]; exact List.getElem_mem h
theorem getD_pre {xs ys : List Int} {j : Nat} (h : j < xs.length) (hp : xs <+: ys) : ys.getD j 0 = xs.getD j 0 := by
 obtain ⟨t, rfl⟩ := hp
 simp [List.getD, List.getElem?_append_left h]
theorem getD_mem {xs : List Int} {y : Int} (h : y ∈ xs) : ∃ q, q < xs.length ∧ iv xs q = y := by
 obtain ⟨q, hq, e⟩ := List.getElem_of_mem h
 exact ⟨q, hq, by simp [iv, List.getD, hq, e]⟩
/-- What the search knows of its list while the first i nodes of it are worked off. -/
structure SrcI (L : List LkD) (lv : Nat → Bool) (fw : Bool) (x n : Nat) (xs : List Int) (i : Nat) : Prop where
 start : (x : Int) ∈ xs
 nd : xs.Nodup
 bd : ∀ y, y ∈ xs → 0 ≤ y ∧ y < (n : Int)
 rch : ∀ j : Nat, (j : Int) ∈ xs → Rch L lv fw x j
 led : Led L lv fw xs i
theorem SrcI.len {L : List LkD} {lv : Nat → Bool} {fw : Bool} {x n i : Nat} {xs : List Int} (h : SrcI L lv fw x n xs i) : xs.length ≤ n := nodup_len h.nd h.bd
theorem SrcI.first (L : List LkD) (lv : Nat → Bool) (fw : Bool) {x n : Nat} (hx : x < n) : SrcI L lv fw x n [(x : Int)] 0 :=
 ⟨by simp, by simp, fun y hy => by rw [List.mem_singleton] at hy; omega, fun j hj => by
  rw [List.mem_singleton] at hj
  obtain rfl : j = x := by omega
  exact Rch.here, led_zero _ _ _ _⟩
theorem SrcI.more {L : List LkD} {lv : Nat → Bool} {fw : Bool} {x n i k a d : Nat} {xs : List Int} (h : SrcI L lv fw x n xs i) (hi : i ≤ xs.length) (hk : k < L.length) (hl : lv k = true) (hs : (if fw then (lkn L k).src else (lkn L k).dst) = (a : Int)) (he : (if fw then (lkn L k).dst else (lkn L k).src) = (d : Int)) (ha : (a : Int) ∈ xs) (hd : d < n) (hn : (d : Int) ∉ xs) :
  SrcI L lv fw x n (xs ++ [(d : Int)]) i := by
 refine ⟨List.mem_append_left _ h.start, nodup_snoc h.nd hn, fun y hy => ?_, fun j hj => ?_, led_snoc h.led hi _⟩
 ·rcases List.mem_append.1 hy with q | q
  ·exact h.bd y q
  ·rw [List.mem_singleton] at q; omega
 ·rcases List.mem_append.1 hj with q | q
  ·exact h.rch j q
  ·rw [List.mem_singleton] at q
   obtain rfl : j = d := by omega
   have := Rch.step (L := L) (lv := lv) (fw := fw) (x := x) k hk hl (by rw [hs, Int.toNat_natCast]; exact h.rch a ha)
   rw [he, Int.toNat_natCast] at this
   exact this
/-- slices.Sort at []int64, of a list that the call owns. -/
theorem sort64_any (base : Nat) (v : Value) (xs : List Int) (w : World) (h : OwnS w base v xs) (hp : 0 < xs.length) (hl : xs.length ≤ 100000) :
  Calls Tryz.prog 71 #[v] w fun e w' => e = .returned (.tuple #[]) ∧ OwnS w' base v (xs.mergeSort (fun a b => decide (a ≤ b))) ∧ w.grownBy w' v.ownBlock := by
 obtain ⟨hm, a, cap, rfl, hx⟩ := h
 obtain ⟨g, rfl, hb, hg, hc⟩ := hx hp
 have hat : ∀ (ys : List Int) j, j < ys.length → ys.toArray[j]! = iv ys j := fun ys j hj => by simp [iv, List.getD, hj]
 have hH : Go.Sort.Holds (Value.int .i64) w g 0 xs.toArray := fun j hj => by
  have hj2 : j < xs.length := by simpa using hj
  rw [hat xs j hj2, Nat.zero_add]
  exact hc j hj2
 have hlen : (xs.mergeSort (fun a b => decide (a ≤ b))).length = xs.length := List.length_mergeSort _
 refine (AnyM.slices_Sort_int Tryz.sort64 g 0 cap xs w hH hg (by omega)).mono ?_
 rintro e w' ⟨rfl, n, os, rfl⟩
 have hH1 : Go.Sort.Holds (Value.int .i64) (Go.Sort.ahead w n) g 0 xs.toArray := hH
 have hH2 := Go.Sort.holds_grow (Value.int .i64) _ os g 0 _ (by simpa [Go.Sort.ahead] using hg) (Go.Sort.holds_putRow (Value.int .i64) (Go.Sort.ahead w n) g 0 xs.toArray (xs.mergeSort (fun a b => decide (a ≤ b))).toArray hH1 (by simp))
 refine ⟨rfl, ⟨by omega, _, cap, by rw [hlen], fun _ => ⟨g, rfl, hb, by simp only [Go.Sort.size_grow, Go.Sort.size_putRow]; exact Nat.lt_of_lt_of_le hg (Nat.le_add_right _ _), fun i hi => ?_⟩⟩, ⟨rfl, rfl, rfl, by simp only [Go.Sort.size_grow, Go.Sort.size_putRow]; exact Nat.le_add_right _ _, fun k hk hne => ?_⟩⟩
 ·have := hH2 i (by simpa using hi)
  rw [hat _ i hi, Nat.zero_add] at this
  exact this
 ·rw [Go.Sort.heap_grow_old _ _ (by simpa [Go.Sort.ahead] using hk)]
  have hkg : k ≠ g := fun e => hne (by rw [e]; rfl)
  unfold Go.Sort.putRow Go.Sort.mapBlock
  simp only [Go.Sort.ahead]
  rw [Array.getElem?_modify, if_neg (Ne.symm hkg)]
theorem endOf_any (a b c d : Int) (w : World) : Calls Tryz.prog 38 #[.agg #[.int .i64 a, .int .i64 b, .int .i64 c, .int .i64 d]] w fun e w' => e = .returned (.int .i64 b) ∧ Below w.heap.size w w' := by
 go_enter Tryz.func38, Tryz.ntmps38
 go_wp2
 go_ret
 exact ⟨rfl, eX⟩
theorem startOf_any (a b c d : Int) (w : World) : Calls Tryz.prog 45 #[.agg #[.int .i64 a, .int .i64 b, .int .i64 c, .int .i64 d]] w fun e w' => e = .returned (.int .i64 a) ∧ Below w.heap.size w w' := by
 go_enter Tryz.func45, Tryz.ntmps45
 go_wp2
 go_ret
 exact ⟨rfl, eX⟩
def ConR (z : BlkD) (bs : List Int) (x : Nat) (fw : Bool) (w : World) (e : Ending) (w' : World) : Prop := ∃ v, e = .returned v ∧ OwnS w' w.heap.size v (listN (rchL (linksL z) (fun k => !hasI bs (k : Int)) fw x (nodesN z)) (nodesN z)) ∧ Below w.heap.size w w'
set_option maxHeartbeats 64000000 in
theorem coneI_true (z : BlkD) (bs : List Int) (lv : Value) (bo bi x : Nat) (w : World) (Lb : Nat) (hg : GraphV w Lb z bs (.agg #[lv, .slice (some ⟨bo, 0, none⟩) (nodesN z) (nodesN z), .slice (some ⟨bi, 0, none⟩) (nodesN z) (nodesN z)])) (hb : blkB z = true) (hx : x < nodesN z) :
  Calls Tryz.prog 37 #[.agg #[lv, .slice (some ⟨bo, 0, none⟩) (nodesN z) (nodesN z), .slice (some ⟨bi, 0, none⟩) (nodesN z) (nodesN z)], .int .i64 (x : Int), .slice (some ⟨bo, 0, none⟩) (nodesN z) (nodesN z), .func (.func 38) #[] #[]] w (ConR z bs x true w) := by
 obtain ⟨tj, hi, hz0, hz1, hz2⟩ := info_parts Tryz.infoI64
 obtain ⟨tb, hib, hb0, hb1, hb2⟩ := info_parts Tryz.infoB
 obtain ⟨lv', bo', bi', base, V, e, l0, l1, l2, d1, hGL, hR⟩ := hg
 simp only [Value.agg.injEq, Array.mk.injEq, List.cons.injEq, Value.slice.injEq, Option.some.injEq, Addr.mk.injEq, and_true, true_and] at e
 obtain ⟨rfl, rfl, rfl⟩ := e
 have hll := linksL_len hb
 have hLS := GL.lks hGL (by omega)
 obtain ⟨la, lc, rfl⟩ := hLS.slice
 have n200 := ndN_le hb
 rw [ndN_is] at n200
 have HEN := lh (fun k (hk : k < (linksL z).length) => (show 0 ≤ (lkn (linksL z) k).src ∧ (lkn (linksL z) k).src < (nodesN z : Int) ∧ 0 ≤ (lkn (linksL z) k).dst ∧ (lkn (linksL z) k).dst < (nodesN z : Int) from by have := links_at hb hk; rw [ndN_is] at this; exact this))
 have HC := lh (fun e w' (h : ConR z bs x true w e w') => h)
 unfold ConR
 obtain ⟨N, hN⟩ : ∃ N, N = nodesN z := ⟨_, rfl⟩
 rw [← hN] at n200 hR HEN hx ⊢
 have hN200 : N ≤ 200 := by omega
 have HROW := lh (fun (wr : World) (hbw : Below w.heap.size w wr) (k : Nat) (hk : k < N) => (show ∃ ra rc, wr.cell? ⟨bo, k, none⟩ = some (.slice ra (froLN z bs (k : Int) (linksL z).length).length rc) ∧ ∀ (wq : World), Below w.heap.size w wq → ∀ q, q < (froLN z bs (k : Int) (linksL z).length).length → ∃ rb, ra = some ⟨rb, 0, none⟩ ∧ rb < w.heap.size ∧ wq.cell? ⟨rb, q, none⟩ = some (.int .i64 (iv (froLN z bs (k : Int) (linksL z).length) q)) from by
  have hgr : gR z bs N (linksL z).length (k) = froLN z bs (k : Int) (linksL z).length := if_pos hk
  have hlen := froLN_len z bs (k : Int) (linksL z).length
  obtain ⟨rc0, _, rlt, rown⟩ := hR.2.1 (k) (by omega)
  rw [show gB bo bi N k = bo from if_pos hk, show gO N k = k from if_pos hk] at rc0
  rw [hgr] at rown
  obtain ⟨ra, rc, e⟩ := own_slice rown
  rw [e] at rc0
  refine ⟨ra, rc, cell_keep rc0 hbw, fun wq hq q hql => ?_⟩
  obtain ⟨_, a2, c2, e2, h2⟩ := GI.own rown (by omega)
  rw [e] at e2
  injection e2 with e2 _ _
  obtain ⟨rb, e3, _, hlt, hcell⟩ := h2 (by omega)
  exact ⟨rb, by rw [e2, e3], hlt, cell_keep (hcell q hql).1 hq⟩))
 have HMEM := lh (fun (k : Nat) (y : Int) => (show y ∈ froLN z bs (k : Int) (linksL z).length ↔ ∃ i : Nat, i < (linksL z).length ∧ (!hasI bs (i : Int)) = true ∧ (lkn (linksL z) i).src = (k : Int) ∧ y = (i : Int) from by
  unfold froLN
  simp only [List.mem_map, List.mem_filter, List.mem_range, Bool.and_eq_true, beq_iff_eq]
  constructor
  ·rintro ⟨i, ⟨h1, h2, h3⟩, e⟩; exact ⟨i, h1, h3, h2, e.symm⟩
  ·rintro ⟨i, h1, h2, h3, e⟩; exact ⟨i, ⟨h1, h3, h2⟩, e.symm⟩))
 have HLEN := lh (fun (k : Nat) => froLN_len z bs (k : Int) (linksL z).length)
 have HLS := lh hLS
 obtain ⟨nl, hnl⟩ : ∃ n, n = (linksL z).length := ⟨_, rfl⟩
 rw [← hnl] at hll
 have NL := lh hnl
 have HNL := lh (show (.slice la (linksL z).length lc : Value) = .slice la nl lc from by rw [hnl])
 rw [HNL.out] at HLS ⊢
 have hx0 : (0 : Int) ≤ (x : Int) := by omega
 have hx1 : (x : Int) < (N : Int) := by omega
 clear hR hGL hLS l0 l1 l2 d1 hN hnl HC
 go_enter Tryz.func37, Tryz.ntmps37
 go_upto_region 2 with (at_make; refine wpList_make_full _ rfl _ _ 84 rfl (w.heap.size + 1) 4 tb (.bool false) 1 Tryz.underlying84 hib hb0 hb1 .i64 .i64 _ _ N rfl rfl rfl rfl (by rw [hb2]; omega) (by unfold maxLen; omega) (by simp) ?_; intro w1 hown0 hgrow0)
 have B1 := below_grown hgrow0
 have R0 := BRow.made hown0
 have gb0 : w1.cell? ⟨w.heap.size, 0, none⟩ = some (.slice la nl lc) := cell_keep (w0 := w.alloc (Obj.cells #[.slice la nl lc, .slice (some ⟨bo, 0, none⟩) N N, .slice (some ⟨bi, 0, none⟩) N N] 68)) (by simp [go_sem]) B1
 have bw1 : Below w.heap.size w w1 := (((Below.refl _ _).alloc (Nat.le_refl _) _).trans (B1.mono (by simp)))
 have R1 : BRow w1 (w.heap.size + 1) N (fun _ => false) := by simpa using R0
 clear hown0 hgrow0 R0 B1
 obtain ⟨gs, hgs⟩ : ∃ gs, gs = w.heap.size + 1 := ⟨_, rfl⟩
 have EGS := lh hgs
 rw [← hgs] at R1
 have gs1 : w.heap.size < gs := by omega
 have gs2 : gs < w1.heap.size := R1.1
 clear hgs
 obtain ⟨f0, c0⟩ := R1.2 x hx
 obtain ⟨W0, hW0⟩ : ∃ W0, W0 = w1.setCell ⟨gs, x, none⟩ (.bool true) := ⟨_, rfl⟩
 have R2 : BRow W0 gs N (fun j => decide ((j : Int) ∈ [(x : Int)])) := by
  rw [hW0]
  exact (R1.store hx).like (fun j _ => by
   unfold putB
   by_cases e : j = x
   ·simp [e]
   ·have : ¬ (j : Int) = (x : Int) := by omega
    simp [e, this])
 have bw0 : Below w.heap.size w W0 := by rw [hW0]; exact bw1.setCell (by show w.heap.size ≤ gs; omega) _
 have gb1 : W0.cell? ⟨w.heap.size, 0, none⟩ = some (.slice la nl lc) := by rw [hW0]; exact (gset w1 ⟨gs, x, none⟩ _).cell gb0 (by simp; omega)
 have zW : W0.heap.size = w1.heap.size := by rw [hW0]; simp [World.setCell]
 obtain ⟨S0, hS0⟩ : ∃ S0, S0 = W0.heap.size := ⟨_, rfl⟩
 have S1 : gs < S0 := by omega
 have S2 : S0 ≤ W0.heap.size := by omega
 have hbS : w.heap.size < S0 := by omega
 have HW0 := lh hW0
 have G0 := lh (show GI (W0.alloc (Obj.cells #[.int .i64 (x : Int)] 2)) S0 (.slice (some ⟨W0.heap.size, 0, none⟩) 1 1) [(x : Int)] from World.ownsRow_lit (e := 2) (base := S0) (size := 1) W0 #[.int .i64 (x : Int)] 1 S2 (by unfold maxLen; omega) rfl)
 have bA0 : Below W0.heap.size W0 (W0.alloc (Obj.cells #[.int .i64 (x : Int)] 2)) := (Below.refl _ _).alloc (Nat.le_refl _) _
 have R3 := lh (R2.below bA0)
 have O0 := lh (show OnlyIn W0 (W0.alloc (Obj.cells #[.int .i64 (x : Int)] 2)) S0 (fun k => k = gs) from OnlyIn.call bA0 S2)
 have I0 := lh (SrcI.first (linksL z) (fun k => !hasI bs (k : Int)) true hx)
 have HZ := lh (show W0.heap.size = w1.heap.size from zW)
 rw [zW] at G0
 have BOW := lh (fun (wr : World) (h : OnlyIn W0 wr S0 (fun k => k = gs)) => (show Below w.heap.size w wr from bw0.trans (h.below (B := w.heap.size) (by omega) (fun k hk => by omega))))
 clear hW0 bA0 R2 R1 gb0 zW hS0
 rw [← EGS.out]
 go_wp2_with fail
 rw [← HW0.out]
 go_loopw [10, 11] (fun r i wr => ∃ (xs : List Int) (k : Nat) (v : Value), v = r ∧ k ≤ xs.length ∧ i = .int .i64 k ∧ Hid (SrcI (linksL z) (fun k => !hasI bs (k : Int)) true x N xs k) ∧ Hid (GI wr S0 v xs) ∧ Hid (BRow wr gs N (fun j => decide ((j : Int) ∈ xs))) ∧ Hid (OnlyIn W0 wr S0 (fun k => k = gs))) (fun _ i _ => N - (intOf i).toNat)
 case atStart => exact ⟨_, 0, _, rfl, by omega, rfl, I0, G0, R3, O0⟩
 case round =>
  clear I0 G0 R3 O0
  obtain ⟨xs, k, v, hv, hk, rfl, hI, hG, hR, hO⟩ := hrel
  have hbw := BOW.out _ hO.out
  have zO := hO.out.size
  have S4 : S0 ≤ wr.heap.size := by omega
  have hlN := hI.out.len
  obtain ⟨m, hm⟩ : ∃ m, m = xs.length := ⟨_, rfl⟩
  have hsl : ∃ a c, v = .slice a m c := by
   obtain ⟨a, c, e⟩ := own_slice hG.out
   exact ⟨a, c, by rw [e, hm]⟩
  obtain ⟨av, cv, rfl⟩ := hsl
  subst hv
  have HM := lh hm
  rw [← hm] at hk hlN
  clear hm
  by_cases hkm : k < m
  ·have hkx : k < xs.length := by rw [← HM.out]; exact hkm
   obtain ⟨_, a2, c2, e2, h2⟩ := GI.own hG.out (by have := HM.out; omega)
   obtain ⟨ga, e3, _, hgl, hcell⟩ := h2 (by omega)
   have e4 : av = some ⟨ga, 0, none⟩ := by injection e2 with e2 _ _; rw [e2, e3]
   subst e4
   have hca := (hcell k hkx).1
   obtain ⟨b0, b1⟩ := hI.out.bd _ (iv_mem hkx)
   obtain ⟨a, ha⟩ := Int.eq_ofNat_of_zero_le b0
   rw [ha] at hca b0 b1
   have HA := lh ha
   have haN : a < N := by omega
   have ki0 : (0 : Int) ≤ (k : Int) := by omega
   have ki1 : (k : Int) < (m : Int) := by omega
   obtain ⟨ra, rc, hrow, hel⟩ := HROW.out wr hbw a haN
   have HEL := lh hel
   have hfl := HLEN.out a
   have HMA := lh (HMEM.out a)
   obtain ⟨rs, hrs⟩ : ∃ rs, rs = froLN z bs (a : Int) (linksL z).length := ⟨_, rfl⟩
   rw [← hrs] at HEL hrow hfl HMA
   obtain ⟨nx, hnx⟩ : ∃ nx, nx = rs.length := ⟨_, rfl⟩
   rw [← hnx, ← NL.out] at hfl
   rw [← hnx] at hrow HEL
   have hnxl : nx ≤ 7000 := by omega
   have NX := lh hnx
   have I1 := lh (show (fun ys : List Int => xs <+: ys ∧ SrcI (linksL z) (fun k => !hasI bs (k : Int)) true x N ys k ∧ ∀ p i : Nat, p < 0 → iv rs p = (i : Int) → (lkn (linksL z) i).dst ∈ ys) xs from ⟨List.prefix_refl _, hI.out, fun p i hp => absurd hp (Nat.not_lt_zero p)⟩)
   clear e2 e3 h2 hcell hel hrs hnx ha hkx
   obtain ⟨W3, hW3⟩ : ∃ W3, W3 = wr := ⟨_, rfl⟩
   rw [← hW3] at hG hR hO hbw hrow hca zO hgl ⊢
   clear hW3
   go_wp2_with fail
   go_loopw [10, 37] (fun r i wr => ∃ (ys : List Int) (q : Nat) (v : Value), v = r ∧ q ≤ nx ∧ i = .int .i64 q ∧ Hid (xs <+: ys ∧ SrcI (linksL z) (fun k => !hasI bs (k : Int)) true x N ys k ∧ ∀ p i : Nat, p < q → iv rs p = (i : Int) → (lkn (linksL z) i).dst ∈ ys) ∧ Hid (GI wr S0 v ys) ∧ Hid (BRow wr gs N (fun j => decide ((j : Int) ∈ ys))) ∧ Hid (OnlyIn W0 wr S0 (fun k => k = gs))) (fun _ i _ => nx - (intOf i).toNat)
   case atStart => exact ⟨xs, 0, _, rfl, by omega, rfl, I1, hG, hR, hO⟩
   case round =>
    clear I1 hG hR hO hbw hrow hca zO hgl S4 hI
    obtain ⟨ys, q, v, hv, hq, rfl, hI, hG, hR, hO⟩ := hrel
    have hbw := BOW.out _ hO.out
    have zO := hO.out.size
    have S4 : S0 ≤ wr.heap.size := by omega
    by_cases hqx : q < nx
    ·obtain ⟨rb, rfl, hrbl, hcq⟩ := HEL.out wr hbw q hqx
     have hqx2 : q < rs.length := by rw [← NX.out]; exact hqx
     obtain ⟨kk, hk1, hk2, hk3, hk4⟩ := (HMA.out (iv rs q)).1 (iv_mem hqx2)
     rw [hk4] at hcq
     obtain ⟨lb, lo, rfl, hlb, y0, y1, y2, y3⟩ := HLS.out.at hbw hk1
     obtain ⟨s0, s1, d0, d1⟩ := HEN.out kk hk1
     have hdd : ∃ dd : Nat, (lkn (linksL z) kk).dst = (dd : Int) ∧ dd < N := by
      obtain ⟨dd, e⟩ := Int.eq_ofNat_of_zero_le (show 0 ≤ (lkn (linksL z) kk).dst by omega)
      exact ⟨dd, e, by omega⟩
     obtain ⟨dd, hd1, hdN⟩ := hdd
     have HEND := lh (fun (w1 : World) => (show Calls Tryz.prog 38 #[.agg #[.int .i64 (lkn (linksL z) kk).src, .int .i64 (lkn (linksL z) kk).dst, .int .i64 (lkn (linksL z) kk).kind, .int .i64 (lkn (linksL z) kk).ix]] w1 fun e w' => e = .returned (.int .i64 (dd : Int)) ∧ Below w1.heap.size w1 w' from by rw [← hd1]; exact endOf_any _ _ _ _ w1))
     have gbx := hO.out.cell gb1 hbS (show ¬ w.heap.size = gs by omega)
     have kk0 : (0 : Int) ≤ (kk : Int) := by omega
     have kk1 : (kk : Int) < (nl : Int) := by have := NL.out; omega
     have qi0 : (0 : Int) ≤ (q : Int) := by omega
     have qi1 : (q : Int) < (nx : Int) := by omega
     have dd0 : (0 : Int) ≤ (dd : Int) := by omega
     have dd1 : (dd : Int) < (N : Int) := by omega
     have hlN2 := hI.out.2.1.len
     obtain ⟨my, hmy⟩ : ∃ my, my = ys.length := ⟨_, rfl⟩
     have hsl : ∃ a c, v = .slice a my c := by
      obtain ⟨a, c, e⟩ := own_slice hG.out
      exact ⟨a, c, by rw [e, hmy]⟩
     obtain ⟨ay, cy, rfl⟩ := hsl
     subst hv
     have HMY := lh hmy
     rw [← hmy] at hlN2
     have HK4 := lh hk4
     have HD1 := lh hd1
     have HK3 := lh hk3
     clear hmy hk3 hk4 s0 s1 d0 d1 hd1
     go_upto_region 11 with (first | (go_at_call 38; refine (HEND.out _).mono ?_; rintro e w5 ⟨rfl, hb5⟩))
     have G5 := lh (GI.below hG.out hb5)
     have R5 := hR.out.below hb5
     have O5 := lh (hO.out.trans (OnlyIn.call hb5 S4))
     have z5 := hb5.size
     have S5 : S0 ≤ w5.heap.size := by omega
     obtain ⟨rf, rc5⟩ := R5.2 dd hdN
     dsimp only at rc5
     have gs5 := R5.1
     have R5 := lh R5
     clear hb5 hG hR hO hcq y0 y1 y2 y3 gbx
     by_cases hin : (dd : Int) ∈ ys
     ·have I9 := lh (show xs <+: ys ∧ SrcI (linksL z) (fun k => !hasI bs (k : Int)) true x N ys k ∧ ∀ p i : Nat, p < q + 1 → iv rs p = (i : Int) → (lkn (linksL z) i).dst ∈ ys from ⟨hI.out.1, hI.out.2.1, fun p i hp e => by
       by_cases h : p = q
       ·subst h
        rw [HK4.out] at e
        obtain rfl : kk = i := by omega
        rw [HD1.out]; exact hin
       ·exact hI.out.2.2 p i (by omega) e⟩)
      rw [decide_eq_true hin] at rc5
      clear hI hin
      go_wp2
      go_roundw
      case rel => exact ⟨ys, q + 1, _, rfl, by omega, by go_num, I9, G5, R5, O5⟩
      case measure => simp [intOf]; omega
     ·have I9 := lh (show xs <+: (ys ++ [(dd : Int)]) ∧ SrcI (linksL z) (fun k => !hasI bs (k : Int)) true x N (ys ++ [(dd : Int)]) k ∧ ∀ p i : Nat, p < q + 1 → iv rs p = (i : Int) → (lkn (linksL z) i).dst ∈ (ys ++ [(dd : Int)]) from by
       obtain ⟨t, ht⟩ := hI.out.1
       have hlx : xs.length ≤ ys.length := by rw [← ht]; simp
       have hax : (a : Int) ∈ ys := by
        rw [← ht]
        refine List.mem_append_left _ ?_
        have := iv_mem (xs := xs) (i := k) (by rw [← HM.out]; exact hkm)
        rw [HA.out] at this
        exact this
       refine ⟨⟨t ++ [(dd : Int)], by rw [← List.append_assoc, ht]⟩, hI.out.2.1.more (by have := HM.out; omega) hk1 hk2 HK3.out HD1.out hax hdN hin, fun p i hp e => ?_⟩
       by_cases h : p = q
       ·subst h
        rw [HK4.out] at e
        obtain rfl : kk = i := by omega
        rw [HD1.out]; simp
       ·exact List.mem_append_left _ (hI.out.2.2 p i (by omega) e))
      have R6 := lh (show BRow (w5.setCell ⟨gs, dd, none⟩ (.bool true)) gs N (fun j => decide ((j : Int) ∈ ys ++ [(dd : Int)])) from (R5.out.store hdN).like (fun j _ => by
       unfold putB
       by_cases e : j = dd
       ·simp [e]
       ·have : ¬ (j : Int) = (dd : Int) := by omega
        simp [e, this]))
      have G6 := lh (show GI (w5.setCell ⟨gs, dd, none⟩ (.bool true)) S0 (.slice ay my cy) ys from World.ownsRow.kept G5.out (gset w5 ⟨gs, dd, none⟩ _) (by
       cases hv : (Value.slice ay my cy).ownBlock with
       | none => exact .inl rfl
       | some g => exact .inr (fun e => by have := G5.out.blk g hv; have := Option.some.inj e; simp only at this; omega)))
      have O6 := lh (show OnlyIn W0 (w5.setCell ⟨gs, dd, none⟩ (.bool true)) S0 (fun k => k = gs) from O5.out.trans (OnlyIn.grown (gset w5 ⟨gs, dd, none⟩ _) S5 (fun k hk => .inr (Option.some.inj hk).symm)))
      rw [decide_eq_false hin] at rc5
      clear hI hin
      obtain ⟨w6, hw6⟩ : ∃ w6, w6 = w5.setCell ⟨gs, dd, none⟩ (.bool true) := ⟨_, rfl⟩
      have z6 : w5.heap.size ≤ w6.heap.size := by rw [hw6]; simp [World.setCell]
      rw [← hw6] at R6 G6 O6
      have HW6 := lh hw6
      have bA : Below w6.heap.size w6 (w6.alloc (Obj.cells #[.int .i64 (dd : Int)] 2)) := (Below.refl _ _).alloc (Nat.le_refl _) _
      have hG9 := GI.below G6.out bA
      unfold GI at hG9
      rw [← HMY.out] at hG9
      have S6 : S0 ≤ w6.heap.size := by omega
      go_upto_region 13 with fail
      rw [← HW6.out]
      clear rc5 rf hw6
      go_upto_region 14 with (at_builtin; refine wpList_append_at rfl _ _ 33 rfl S0 2 tj (.int .i64 0) 1 8 Tryz.underlying33 hi hz0 hz1 hz2 rfl (by decide) _ _ _ rfl hG9 ⟨w6.heap.size, 0, none⟩ 1 1 [.int .i64 (dd : Int)] rfl rfl (one_cellG2 _ _ _ _ (by simp)) (fun u hu => by simp at hu; subst hu; rfl) (by unfold maxLen; omega) (by omega) (by simp; omega) ?_; intro v' w9 hown' hgrow hat)
      have G9 := lh (show GI w9 S0 v' (ys ++ [(dd : Int)]) from snocGI (by rw [← HMY.out]; exact hown'))
      have hne : some gs ≠ (Value.slice ay my cy).ownBlock := fun e => by have := G6.out.blk gs e.symm; omega
      have R9 := lh (browGrown (R6.out.below bA) hgrow hne)
      have O9 := lh (O6.out.trans ((OnlyIn.call bA S6).trans (OnlyIn.grown hgrow (Nat.le_trans S6 bA.size) (fun k hk => .inl (G6.out.blk k hk)))))
      clear hown' hgrow hat hG9 G6 R6 O6 G5 R5 O5 hne
      go_wp2
      go_roundw
      case rel => exact ⟨_, q + 1, _, rfl, by omega, by go_num, I9, G9, R9, O9⟩
      case measure => simp [intOf]; omega
    ·have e : nx = q := by omega
     subst e
     have hI2 : ¬ (nx : Int) < (nx : Int) := by omega
     have I9 := lh (show SrcI (linksL z) (fun k => !hasI bs (k : Int)) true x N ys (k + 1) ∧ k + 1 ≤ ys.length from by
      obtain ⟨h1, h2, h3⟩ := hI.out
      have hkx : k < xs.length := by rw [← HM.out]; exact hkm
      refine ⟨⟨h2.start, h2.nd, h2.bd, h2.rch, led_step h2.led (fun i hi hl hs => ?_)⟩, Nat.le_trans hkx h1.length_le⟩
      rw [getD_pre hkx h1] at hs
      have hs2 : (lkn (linksL z) i).src = (a : Int) := by rw [← HA.out]; exact hs.symm
      obtain ⟨p, hp, e⟩ := getD_mem ((HMA.out (i : Int)).2 ⟨i, hi, hl, hs2, rfl⟩)
      exact h3 p i (by rw [NX.out]; exact hp) e)
     subst hv
     clear hI
     go_wp2
     go_roundw
     case rel => exact ⟨ys, k + 1, _, rfl, I9.out.2, by go_num, lh I9.out.1, hG, hR, hO⟩
     case measure => simp [intOf]; omega
  ·have e : k = m := by omega
   subst e
   have hI2 : ¬ (k : Int) < (k : Int) := by omega
   have HS := lh (sort64_any S0 _ xs wr (GI.own hG.out (by have := HM.out; omega)) (List.length_pos_of_mem hI.out.start) (by have := HM.out; omega))
   have HB := lh hG.out.blk
   have HCS := lh (show xs.mergeSort (fun a b => decide (a ≤ b)) = listN (rchL (linksL z) (fun k => !hasI bs (k : Int)) true x N) N from
    cone_sorts hI.out.start hI.out.nd hI.out.bd hI.out.rch (led_done (by have := hI.out.led; rw [HM.out] at this; exact this) (fun k hk => ⟨(HEN.out k hk).1, (HEN.out k hk).2.2.1⟩)))
   clear hG hR hI
   go_wp2_with fail
   (go_at_call 71; refine HS.out.mono ?_; rintro e w5 ⟨rfl, hso, hg5⟩)
   rw [HCS.out] at hso
   have HSO := lh hso
   have b5 : Below w.heap.size w w5 := hbw.grown hg5 hbw.size (fun k hk => by have := HB.out k hk; omega)
   clear hso hg5
   go_wp2
   go_ret
   exact ⟨_, rfl, HSO.out.mono (by omega), b5⟩
set_option maxHeartbeats 64000000 in
theorem coneI_false (z : BlkD) (bs : List Int) (lv : Value) (bo bi x : Nat) (w : World) (Lb : Nat) (hg : GraphV w Lb z bs (.agg #[lv, .slice (some ⟨bo, 0, none⟩) (nodesN z) (nodesN z), .slice (some ⟨bi, 0, none⟩) (nodesN z) (nodesN z)])) (hb : blkB z = true) (hx : x < nodesN z) :
  Calls Tryz.prog 37 #[.agg #[lv, .slice (some ⟨bo, 0, none⟩) (nodesN z) (nodesN z), .slice (some ⟨bi, 0, none⟩) (nodesN z) (nodesN z)], .int .i64 (x : Int), .slice (some ⟨bi, 0, none⟩) (nodesN z) (nodesN z), .func (.func 45) #[] #[]] w (ConR z bs x false w) := by
 obtain ⟨tj, hi, hz0, hz1, hz2⟩ := info_parts Tryz.infoI64
 obtain ⟨tb, hib, hb0, hb1, hb2⟩ := info_parts Tryz.infoB
 obtain ⟨lv', bo', bi', base, V, e, l0, l1, l2, d1, hGL, hR⟩ := hg
 simp only [Value.agg.injEq, Array.mk.injEq, List.cons.injEq, Value.slice.injEq, Option.some.injEq, Addr.mk.injEq, and_true, true_and] at e
 obtain ⟨rfl, rfl, rfl⟩ := e
 have hll := linksL_len hb
 have hLS := GL.lks hGL (by omega)
 obtain ⟨la, lc, rfl⟩ := hLS.slice
 have n200 := ndN_le hb
 rw [ndN_is] at n200
 have HEN := lh (fun k (hk : k < (linksL z).length) => (show 0 ≤ (lkn (linksL z) k).src ∧ (lkn (linksL z) k).src < (nodesN z : Int) ∧ 0 ≤ (lkn (linksL z) k).dst ∧ (lkn (linksL z) k).dst < (nodesN z : Int) from by have := links_at hb hk; rw [ndN_is] at this; exact this))
 have HC := lh (fun e w' (h : ConR z bs x false w e w') => h)
 unfold ConR
 obtain ⟨N, hN⟩ : ∃ N, N = nodesN z := ⟨_, rfl⟩
 rw [← hN] at n200 hR HEN hx ⊢
 have hN200 : N ≤ 200 := by omega
 have HROW := lh (fun (wr : World) (hbw : Below w.heap.size w wr) (k : Nat) (hk : k < N) => (show ∃ ra rc, wr.cell? ⟨bi, k, none⟩ = some (.slice ra (toLN z bs (k : Int) (linksL z).length).length rc) ∧ ∀ (wq : World), Below w.heap.size w wq → ∀ q, q < (toLN z bs (k : Int) (linksL z).length).length → ∃ rb, ra = some ⟨rb, 0, none⟩ ∧ rb < w.heap.size ∧ wq.cell? ⟨rb, q, none⟩ = some (.int .i64 (iv (toLN z bs (k : Int) (linksL z).length) q)) from by
  have hgr : gR z bs N (linksL z).length (N + k) = toLN z bs (k : Int) (linksL z).length := by unfold gR; rw [if_neg (by omega), show N + k - N = k by omega]
  have hlen := toLN_len z bs (k : Int) (linksL z).length
  obtain ⟨rc0, _, rlt, rown⟩ := hR.2.1 (N + k) (by omega)
  rw [show gB bo bi N (N + k) = bi from if_neg (by omega), show gO N (N + k) = k from (if_neg (by omega)).trans (by omega)] at rc0
  rw [hgr] at rown
  obtain ⟨ra, rc, e⟩ := own_slice rown
  rw [e] at rc0
  refine ⟨ra, rc, cell_keep rc0 hbw, fun wq hq q hql => ?_⟩
  obtain ⟨_, a2, c2, e2, h2⟩ := GI.own rown (by omega)
  rw [e] at e2
  injection e2 with e2 _ _
  obtain ⟨rb, e3, _, hlt, hcell⟩ := h2 (by omega)
  exact ⟨rb, by rw [e2, e3], hlt, cell_keep (hcell q hql).1 hq⟩))
 have HMEM := lh (fun (k : Nat) (y : Int) => (show y ∈ toLN z bs (k : Int) (linksL z).length ↔ ∃ i : Nat, i < (linksL z).length ∧ (!hasI bs (i : Int)) = true ∧ (lkn (linksL z) i).dst = (k : Int) ∧ y = (i : Int) from by
  unfold toLN
  simp only [List.mem_map, List.mem_filter, List.mem_range, Bool.and_eq_true, beq_iff_eq]
  constructor
  ·rintro ⟨i, ⟨h1, h2, h3⟩, e⟩; exact ⟨i, h1, h3, h2, e.symm⟩
  ·rintro ⟨i, h1, h2, h3, e⟩; exact ⟨i, ⟨h1, h3, h2⟩, e.symm⟩))
 have HLEN := lh (fun (k : Nat) => toLN_len z bs (k : Int) (linksL z).length)
 have HLS := lh hLS
 obtain ⟨nl, hnl⟩ : ∃ n, n = (linksL z).length := ⟨_, rfl⟩
 rw [← hnl] at hll
 have NL := lh hnl
 have HNL := lh (show (.slice la (linksL z).length lc : Value) = .slice la nl lc from by rw [hnl])
 rw [HNL.out] at HLS ⊢
 have hx0 : (0 : Int) ≤ (x : Int) := by omega
 have hx1 : (x : Int) < (N : Int) := by omega
 clear hR hGL hLS l0 l1 l2 d1 hN hnl HC
 go_enter Tryz.func37, Tryz.ntmps37
 go_upto_region 2 with (at_make; refine wpList_make_full _ rfl _ _ 84 rfl (w.heap.size + 1) 4 tb (.bool false) 1 Tryz.underlying84 hib hb0 hb1 .i64 .i64 _ _ N rfl rfl rfl rfl (by rw [hb2]; omega) (by unfold maxLen; omega) (by simp) ?_; intro w1 hown0 hgrow0)
 have B1 := below_grown hgrow0
 have R0 := BRow.made hown0
 have gb0 : w1.cell? ⟨w.heap.size, 0, none⟩ = some (.slice la nl lc) := cell_keep (w0 := w.alloc (Obj.cells #[.slice la nl lc, .slice (some ⟨bo, 0, none⟩) N N, .slice (some ⟨bi, 0, none⟩) N N] 68)) (by simp [go_sem]) B1
 have bw1 : Below w.heap.size w w1 := (((Below.refl _ _).alloc (Nat.le_refl _) _).trans (B1.mono (by simp)))
 have R1 : BRow w1 (w.heap.size + 1) N (fun _ => false) := by simpa using R0
 clear hown0 hgrow0 R0 B1
 obtain ⟨gs, hgs⟩ : ∃ gs, gs = w.heap.size + 1 := ⟨_, rfl⟩
 have EGS := lh hgs
 rw [← hgs] at R1
 have gs1 : w.heap.size < gs := by omega
 have gs2 : gs < w1.heap.size := R1.1
 clear hgs
 obtain ⟨f0, c0⟩ := R1.2 x hx
 obtain ⟨W0, hW0⟩ : ∃ W0, W0 = w1.setCell ⟨gs, x, none⟩ (.bool true) := ⟨_, rfl⟩
 have R2 : BRow W0 gs N (fun j => decide ((j : Int) ∈ [(x : Int)])) := by
  rw [hW0]
  exact (R1.store hx).like (fun j _ => by
   unfold putB
   by_cases e : j = x
   ·simp [e]
   ·have : ¬ (j : Int) = (x : Int) := by omega
    simp [e, this])
 have bw0 : Below w.heap.size w W0 := by rw [hW0]; exact bw1.setCell (by show w.heap.size ≤ gs; omega) _
 have gb1 : W0.cell? ⟨w.heap.size, 0, none⟩ = some (.slice la nl lc) := by rw [hW0]; exact (gset w1 ⟨gs, x, none⟩ _).cell gb0 (by simp; omega)
 have zW : W0.heap.size = w1.heap.size := by rw [hW0]; simp [World.setCell]
 obtain ⟨S0, hS0⟩ : ∃ S0, S0 = W0.heap.size := ⟨_, rfl⟩
 have S1 : gs < S0 := by omega
 have S2 : S0 ≤ W0.heap.size := by omega
 have hbS : w.heap.size < S0 := by omega
 have HW0 := lh hW0
 have G0 := lh (show GI (W0.alloc (Obj.cells #[.int .i64 (x : Int)] 2)) S0 (.slice (some ⟨W0.heap.size, 0, none⟩) 1 1) [(x : Int)] from World.ownsRow_lit (e := 2) (base := S0) (size := 1) W0 #[.int .i64 (x : Int)] 1 S2 (by unfold maxLen; omega) rfl)
 have bA0 : Below W0.heap.size W0 (W0.alloc (Obj.cells #[.int .i64 (x : Int)] 2)) := (Below.refl _ _).alloc (Nat.le_refl _) _
 have R3 := lh (R2.below bA0)
 have O0 := lh (show OnlyIn W0 (W0.alloc (Obj.cells #[.int .i64 (x : Int)] 2)) S0 (fun k => k = gs) from OnlyIn.call bA0 S2)
 have I0 := lh (SrcI.first (linksL z) (fun k => !hasI bs (k : Int)) false hx)
 have HZ := lh (show W0.heap.size = w1.heap.size from zW)
 rw [zW] at G0
 have BOW := lh (fun (wr : World) (h : OnlyIn W0 wr S0 (fun k => k = gs)) => (show Below w.heap.size w wr from bw0.trans (h.below (B := w.heap.size) (by omega) (fun k hk => by omega))))
 clear hW0 bA0 R2 R1 gb0 zW hS0
 rw [← EGS.out]
 go_wp2_with fail
 rw [← HW0.out]
 go_loopw [10, 11] (fun r i wr => ∃ (xs : List Int) (k : Nat) (v : Value), v = r ∧ k ≤ xs.length ∧ i = .int .i64 k ∧ Hid (SrcI (linksL z) (fun k => !hasI bs (k : Int)) false x N xs k) ∧ Hid (GI wr S0 v xs) ∧ Hid (BRow wr gs N (fun j => decide ((j : Int) ∈ xs))) ∧ Hid (OnlyIn W0 wr S0 (fun k => k = gs))) (fun _ i _ => N - (intOf i).toNat)
 case atStart => exact ⟨_, 0, _, rfl, by omega, rfl, I0, G0, R3, O0⟩
 case round =>
  clear I0 G0 R3 O0
  obtain ⟨xs, k, v, hv, hk, rfl, hI, hG, hR, hO⟩ := hrel
  have hbw := BOW.out _ hO.out
  have zO := hO.out.size
  have S4 : S0 ≤ wr.heap.size := by omega
  have hlN := hI.out.len
  obtain ⟨m, hm⟩ : ∃ m, m = xs.length := ⟨_, rfl⟩
  have hsl : ∃ a c, v = .slice a m c := by
   obtain ⟨a, c, e⟩ := own_slice hG.out
   exact ⟨a, c, by rw [e, hm]⟩
  obtain ⟨av, cv, rfl⟩ := hsl
  subst hv
  have HM := lh hm
  rw [← hm] at hk hlN
  clear hm
  by_cases hkm : k < m
  ·have hkx : k < xs.length := by rw [← HM.out]; exact hkm
   obtain ⟨_, a2, c2, e2, h2⟩ := GI.own hG.out (by have := HM.out; omega)
   obtain ⟨ga, e3, _, hgl, hcell⟩ := h2 (by omega)
   have e4 : av = some ⟨ga, 0, none⟩ := by injection e2 with e2 _ _; rw [e2, e3]
   subst e4
   have hca := (hcell k hkx).1
   obtain ⟨b0, b1⟩ := hI.out.bd _ (iv_mem hkx)
   obtain ⟨a, ha⟩ := Int.eq_ofNat_of_zero_le b0
   rw [ha] at hca b0 b1
   have HA := lh ha
   have haN : a < N := by omega
   have ki0 : (0 : Int) ≤ (k : Int) := by omega
   have ki1 : (k : Int) < (m : Int) := by omega
   obtain ⟨ra, rc, hrow, hel⟩ := HROW.out wr hbw a haN
   have HEL := lh hel
   have hfl := HLEN.out a
   have HMA := lh (HMEM.out a)
   obtain ⟨rs, hrs⟩ : ∃ rs, rs = toLN z bs (a : Int) (linksL z).length := ⟨_, rfl⟩
   rw [← hrs] at HEL hrow hfl HMA
   obtain ⟨nx, hnx⟩ : ∃ nx, nx = rs.length := ⟨_, rfl⟩
   rw [← hnx, ← NL.out] at hfl
   rw [← hnx] at hrow HEL
   have hnxl : nx ≤ 7000 := by omega
   have NX := lh hnx
   have I1 := lh (show (fun ys : List Int => xs <+: ys ∧ SrcI (linksL z) (fun k => !hasI bs (k : Int)) false x N ys k ∧ ∀ p i : Nat, p < 0 → iv rs p = (i : Int) → (lkn (linksL z) i).src ∈ ys) xs from ⟨List.prefix_refl _, hI.out, fun p i hp => absurd hp (Nat.not_lt_zero p)⟩)
   clear e2 e3 h2 hcell hel hrs hnx ha hkx
   obtain ⟨W3, hW3⟩ : ∃ W3, W3 = wr := ⟨_, rfl⟩
   rw [← hW3] at hG hR hO hbw hrow hca zO hgl ⊢
   clear hW3
   go_wp2_with fail
   go_loopw [10, 37] (fun r i wr => ∃ (ys : List Int) (q : Nat) (v : Value), v = r ∧ q ≤ nx ∧ i = .int .i64 q ∧ Hid (xs <+: ys ∧ SrcI (linksL z) (fun k => !hasI bs (k : Int)) false x N ys k ∧ ∀ p i : Nat, p < q → iv rs p = (i : Int) → (lkn (linksL z) i).src ∈ ys) ∧ Hid (GI wr S0 v ys) ∧ Hid (BRow wr gs N (fun j => decide ((j : Int) ∈ ys))) ∧ Hid (OnlyIn W0 wr S0 (fun k => k = gs))) (fun _ i _ => nx - (intOf i).toNat)
   case atStart => exact ⟨xs, 0, _, rfl, by omega, rfl, I1, hG, hR, hO⟩
   case round =>
    clear I1 hG hR hO hbw hrow hca zO hgl S4 hI
    obtain ⟨ys, q, v, hv, hq, rfl, hI, hG, hR, hO⟩ := hrel
    have hbw := BOW.out _ hO.out
    have zO := hO.out.size
    have S4 : S0 ≤ wr.heap.size := by omega
    by_cases hqx : q < nx
    ·obtain ⟨rb, rfl, hrbl, hcq⟩ := HEL.out wr hbw q hqx
     have hqx2 : q < rs.length := by rw [← NX.out]; exact hqx
     obtain ⟨kk, hk1, hk2, hk3, hk4⟩ := (HMA.out (iv rs q)).1 (iv_mem hqx2)
     rw [hk4] at hcq
     obtain ⟨lb, lo, rfl, hlb, y0, y1, y2, y3⟩ := HLS.out.at hbw hk1
     obtain ⟨s0, s1, d0, d1⟩ := HEN.out kk hk1
     have hdd : ∃ dd : Nat, (lkn (linksL z) kk).src = (dd : Int) ∧ dd < N := by
      obtain ⟨dd, e⟩ := Int.eq_ofNat_of_zero_le (show 0 ≤ (lkn (linksL z) kk).src by omega)
      exact ⟨dd, e, by omega⟩
     obtain ⟨dd, hd1, hdN⟩ := hdd
     have HEND := lh (fun (w1 : World) => (show Calls Tryz.prog 45 #[.agg #[.int .i64 (lkn (linksL z) kk).src, .int .i64 (lkn (linksL z) kk).dst, .int .i64 (lkn (linksL z) kk).kind, .int .i64 (lkn (linksL z) kk).ix]] w1 fun e w' => e = .returned (.int .i64 (dd : Int)) ∧ Below w1.heap.size w1 w' from by rw [← hd1]; exact startOf_any _ _ _ _ w1))
     have gbx := hO.out.cell gb1 hbS (show ¬ w.heap.size = gs by omega)
     have kk0 : (0 : Int) ≤ (kk : Int) := by omega
     have kk1 : (kk : Int) < (nl : Int) := by have := NL.out; omega
     have qi0 : (0 : Int) ≤ (q : Int) := by omega
     have qi1 : (q : Int) < (nx : Int) := by omega
     have dd0 : (0 : Int) ≤ (dd : Int) := by omega
     have dd1 : (dd : Int) < (N : Int) := by omega
     have hlN2 := hI.out.2.1.len
     obtain ⟨my, hmy⟩ : ∃ my, my = ys.length := ⟨_, rfl⟩
     have hsl : ∃ a c, v = .slice a my c := by
      obtain ⟨a, c, e⟩ := own_slice hG.out
      exact ⟨a, c, by rw [e, hmy]⟩
     obtain ⟨ay, cy, rfl⟩ := hsl
     subst hv
     have HMY := lh hmy
     rw [← hmy] at hlN2
     have HK4 := lh hk4
     have HD1 := lh hd1
     have HK3 := lh hk3
     clear hmy hk3 hk4 s0 s1 d0 d1 hd1
     go_upto_region 11 with (first | (go_at_call 45; refine (HEND.out _).mono ?_; rintro e w5 ⟨rfl, hb5⟩))
     have G5 := lh (GI.below hG.out hb5)
     have R5 := hR.out.below hb5
     have O5 := lh (hO.out.trans (OnlyIn.call hb5 S4))
     have z5 := hb5.size
     have S5 : S0 ≤ w5.heap.size := by omega
     obtain ⟨rf, rc5⟩ := R5.2 dd hdN
     dsimp only at rc5
     have gs5 := R5.1
     have R5 := lh R5
     clear hb5 hG hR hO hcq y0 y1 y2 y3 gbx
     by_cases hin : (dd : Int) ∈ ys
     ·have I9 := lh (show xs <+: ys ∧ SrcI (linksL z) (fun k => !hasI bs (k : Int)) false x N ys k ∧ ∀ p i : Nat, p < q + 1 → iv rs p = (i : Int) → (lkn (linksL z) i).src ∈ ys from ⟨hI.out.1, hI.out.2.1, fun p i hp e => by
       by_cases h : p = q
       ·subst h
        rw [HK4.out] at e
        obtain rfl : kk = i := by omega
        rw [HD1.out]; exact hin
       ·exact hI.out.2.2 p i (by omega) e⟩)
      rw [decide_eq_true hin] at rc5
      clear hI hin
      go_wp2
      go_roundw
      case rel => exact ⟨ys, q + 1, _, rfl, by omega, by go_num, I9, G5, R5, O5⟩
      case measure => simp [intOf]; omega
     ·have I9 := lh (show xs <+: (ys ++ [(dd : Int)]) ∧ SrcI (linksL z) (fun k => !hasI bs (k : Int)) false x N (ys ++ [(dd : Int)]) k ∧ ∀ p i : Nat, p < q + 1 → iv rs p = (i : Int) → (lkn (linksL z) i).src ∈ (ys ++ [(dd : Int)]) from by
       obtain ⟨t, ht⟩ := hI.out.1
       have hlx : xs.length ≤ ys.length := by rw [← ht]; simp
       have hax : (a : Int) ∈ ys := by
        rw [← ht]
        refine List.mem_append_left _ ?_
        have := iv_mem (xs := xs) (i := k) (by rw [← HM.out]; exact hkm)
        rw [HA.out] at this
        exact this
       refine ⟨⟨t ++ [(dd : Int)], by rw [← List.append_assoc, ht]⟩, hI.out.2.1.more (by have := HM.out; omega) hk1 hk2 HK3.out HD1.out hax hdN hin, fun p i hp e => ?_⟩
       by_cases h : p = q
       ·subst h
        rw [HK4.out] at e
        obtain rfl : kk = i := by omega
        rw [HD1.out]; simp
       ·exact List.mem_append_left _ (hI.out.2.2 p i (by omega) e))
      have R6 := lh (show BRow (w5.setCell ⟨gs, dd, none⟩ (.bool true)) gs N (fun j => decide ((j : Int) ∈ ys ++ [(dd : Int)])) from (R5.out.store hdN).like (fun j _ => by
       unfold putB
       by_cases e : j = dd
       ·simp [e]
       ·have : ¬ (j : Int) = (dd : Int) := by omega
        simp [e, this]))
      have G6 := lh (show GI (w5.setCell ⟨gs, dd, none⟩ (.bool true)) S0 (.slice ay my cy) ys from World.ownsRow.kept G5.out (gset w5 ⟨gs, dd, none⟩ _) (by
       cases hv : (Value.slice ay my cy).ownBlock with
       | none => exact .inl rfl
       | some g => exact .inr (fun e => by have := G5.out.blk g hv; have := Option.some.inj e; simp only at this; omega)))
      have O6 := lh (show OnlyIn W0 (w5.setCell ⟨gs, dd, none⟩ (.bool true)) S0 (fun k => k = gs) from O5.out.trans (OnlyIn.grown (gset w5 ⟨gs, dd, none⟩ _) S5 (fun k hk => .inr (Option.some.inj hk).symm)))
      rw [decide_eq_false hin] at rc5
      clear hI hin
      obtain ⟨w6, hw6⟩ : ∃ w6, w6 = w5.setCell ⟨gs, dd, none⟩ (.bool true) := ⟨_, rfl⟩
      have z6 : w5.heap.size ≤ w6.heap.size := by rw [hw6]; simp [World.setCell]
      rw [← hw6] at R6 G6 O6
      have HW6 := lh hw6
      have bA : Below w6.heap.size w6 (w6.alloc (Obj.cells #[.int .i64 (dd : Int)] 2)) := (Below.refl _ _).alloc (Nat.le_refl _) _
      have hG9 := GI.below G6.out bA
      unfold GI at hG9
      rw [← HMY.out] at hG9
      have S6 : S0 ≤ w6.heap.size := by omega
      go_upto_region 13 with fail
      rw [← HW6.out]
      clear rc5 rf hw6
      go_upto_region 14 with (at_builtin; refine wpList_append_at rfl _ _ 33 rfl S0 2 tj (.int .i64 0) 1 8 Tryz.underlying33 hi hz0 hz1 hz2 rfl (by decide) _ _ _ rfl hG9 ⟨w6.heap.size, 0, none⟩ 1 1 [.int .i64 (dd : Int)] rfl rfl (one_cellG2 _ _ _ _ (by simp)) (fun u hu => by simp at hu; subst hu; rfl) (by unfold maxLen; omega) (by omega) (by simp; omega) ?_; intro v' w9 hown' hgrow hat)
      have G9 := lh (show GI w9 S0 v' (ys ++ [(dd : Int)]) from snocGI (by rw [← HMY.out]; exact hown'))
      have hne : some gs ≠ (Value.slice ay my cy).ownBlock := fun e => by have := G6.out.blk gs e.symm; omega
      have R9 := lh (browGrown (R6.out.below bA) hgrow hne)
      have O9 := lh (O6.out.trans ((OnlyIn.call bA S6).trans (OnlyIn.grown hgrow (Nat.le_trans S6 bA.size) (fun k hk => .inl (G6.out.blk k hk)))))
      clear hown' hgrow hat hG9 G6 R6 O6 G5 R5 O5 hne
      go_wp2
      go_roundw
      case rel => exact ⟨_, q + 1, _, rfl, by omega, by go_num, I9, G9, R9, O9⟩
      case measure => simp [intOf]; omega
    ·have e : nx = q := by omega
     subst e
     have hI2 : ¬ (nx : Int) < (nx : Int) := by omega
     have I9 := lh (show SrcI (linksL z) (fun k => !hasI bs (k : Int)) false x N ys (k + 1) ∧ k + 1 ≤ ys.length from by
      obtain ⟨h1, h2, h3⟩ := hI.out
      have hkx : k < xs.length := by rw [← HM.out]; exact hkm
      refine ⟨⟨h2.start, h2.nd, h2.bd, h2.rch, led_step h2.led (fun i hi hl hs => ?_)⟩, Nat.le_trans hkx h1.length_le⟩
      rw [getD_pre hkx h1] at hs
      have hs2 : (lkn (linksL z) i).dst = (a : Int) := by rw [← HA.out]; exact hs.symm
      obtain ⟨p, hp, e⟩ := getD_mem ((HMA.out (i : Int)).2 ⟨i, hi, hl, hs2, rfl⟩)
      exact h3 p i (by rw [NX.out]; exact hp) e)
     subst hv
     clear hI
     go_wp2
     go_roundw
     case rel => exact ⟨ys, k + 1, _, rfl, I9.out.2, by go_num, lh I9.out.1, hG, hR, hO⟩
     case measure => simp [intOf]; omega
  ·have e : k = m := by omega
   subst e
   have hI2 : ¬ (k : Int) < (k : Int) := by omega
   have HS := lh (sort64_any S0 _ xs wr (GI.own hG.out (by have := HM.out; omega)) (List.length_pos_of_mem hI.out.start) (by have := HM.out; omega))
   have HB := lh hG.out.blk
   have HCS := lh (show xs.mergeSort (fun a b => decide (a ≤ b)) = listN (rchL (linksL z) (fun k => !hasI bs (k : Int)) false x N) N from
    cone_sorts hI.out.start hI.out.nd hI.out.bd hI.out.rch (led_done (by have := hI.out.led; rw [HM.out] at this; exact this) (fun k hk => ⟨(HEN.out k hk).1, (HEN.out k hk).2.2.1⟩)))
   clear hG hR hI
   go_wp2_with fail
   (go_at_call 71; refine HS.out.mono ?_; rintro e w5 ⟨rfl, hso, hg5⟩)
   rw [HCS.out] at hso
   have HSO := lh hso
   have b5 : Below w.heap.size w w5 := hbw.grown hg5 hbw.size (fun k hk => by have := HB.out k hk; omega)
   clear hso hg5
   go_wp2
   go_ret
   exact ⟨_, rfl, HSO.out.mono (by omega), b5⟩
set_option maxHeartbeats 16000000 in
theorem implFanOut_any (f : Nat → Value) (z : BlkD) (v : Value) (bs : List Int) (x : Int) (w : World) (h : BlkF w w.heap.size f z) (hv : IntS w w.heap.size v bs) (hbl : bs.length ≤ 1048576) :
  Calls Tryz.prog 13 #[.agg #[f 0, f 1, f 2, f 3, f 4], v, .int .i64 x] w (ListR w (coneL z bs x true) (ndCode z bs x)) := by
 have HB := lh (fun (w1 : World) (hb : Below w.heap.size w w1) => graphAround_any f z v bs x w1 (h.up hb) (hv.up hb) hbl)
 obtain ⟨p0, q0, p1, q1, p2, q2, p3, q3, p4, q4, e0, e1, e2, e3, e4⟩ := h.five
 obtain ⟨va, vc, rfl⟩ := hv.slice
 rw [e0, e1, e2, e3, e4] at HB
 rw [e0, e1, e2, e3, e4]
 clear e0 e1 e2 e3 e4 h hv
 unfold AroundR at HB
 by_cases hg : ndCode z bs x = 0
 ·have hx := nd_in hg
  have hgc := grCode_valid (show grCode z bs = 0 by rcases ndCode_cases z bs x with ⟨_, e⟩ | e | e | e <;> first | exact e | omega)
  rw [ndN_is] at hx
  obtain ⟨xn, rfl⟩ := Int.eq_ofNat_of_zero_le hx.1
  have XL := lh (show coneL z bs (xn : Int) true = listN (rchL (linksL z) (fun k => !hasI bs (k : Int)) true xn (nodesN z)) (nodesN z) by unfold coneL; rw [if_pos hg, ndN_is, Int.toNat_natCast, Int.toNat_natCast])
  have hxN : xn < nodesN z := by omega
  have HC := lh (fun (lv : Value) (bo bi : Nat) (w1 : World) (L : Nat) (h : GraphV w1 L z bs (.agg #[lv, .slice (some ⟨bo, 0, none⟩) (nodesN z) (nodesN z), .slice (some ⟨bi, 0, none⟩) (nodesN z) (nodesN z)])) => coneI_true z bs lv bo bi xn w1 L h hgc hxN)
  unfold ConR at HC
  have hll := linksL_len hgc
  rw [hg] at HB ⊢
  clear hg hx
  go_enter Tryz.func13, Tryz.ntmps13
  go_wp2_with fail
  (go_at_call 36; refine (HB.out _ (by exact eX)).mono ?_; rintro e w1 ⟨gv, rfl, hyes, hno, hb⟩)
  have hgv := hyes (by trivial)
  obtain ⟨lv, bo, bi, base, V, rfl, l1, l2, l3, d1, hGL, hR⟩ := id hgv
  obtain ⟨la, lc, rfl⟩ := (GL.lks hGL (by omega)).slice
  have GV := lh hgv
  have b1 : Below w.heap.size w w1 := by exact eX
  have bA : Below w1.heap.size w1 (w1.alloc (Obj.cells #[.slice la (linksL z).length lc, .slice (some ⟨bo, 0, none⟩) (nodesN z) (nodesN z), .slice (some ⟨bi, 0, none⟩) (nodesN z) (nodesN z)] 68)) := (Below.refl _ _).alloc (Nat.le_refl _) _
  have GA := lh (GV.out.below bA)
  clear hyes hno hb hgv hGL hR GV bA l1 l2 l3
  go_wp2_with fail
  (go_at_call 37; refine (HC.out _ _ _ _ _ GA.out).mono ?_; rintro e w2 ⟨vo, rfl, hO, hb⟩)
  have HO := lh (hO.mono (C := w.heap.size) (by have := b1.size; simp; omega))
  obtain ⟨ua, uc, rfl⟩ := HO.out.slice
  clear hO
  go_wp2
  go_ret2
  exact ⟨_, rfl, by rw [XL.out]; exact HO.out, by exact eX⟩
 ·have XL := lh (show coneL z bs x true = [] by simp [coneL, hg])
  obtain ⟨cd, hcd⟩ : ∃ cd, cd = ndCode z bs x := ⟨_, rfl⟩
  rw [← hcd] at HB hg ⊢
  have hne : (cd != 0) = true := by simpa using hg
  have hne2 : (cd == 0) = false := by simpa using hg
  have HG0 := lh hg
  clear hcd hg
  go_enter Tryz.func13, Tryz.ntmps13
  go_wp2_with fail
  (go_at_call 36; refine (HB.out _ (by exact eX)).mono ?_; rintro e w1 ⟨gv, rfl, hyes, hno, hb⟩)
  obtain rfl := hno HG0.out
  clear hyes hno
  go_wp2
  go_ret2
  exact ⟨_, rfl, by rw [XL.out]; exact own_nil _ _, eX⟩
set_option maxHeartbeats 16000000 in
theorem implFanIn_any (f : Nat → Value) (z : BlkD) (v : Value) (bs : List Int) (x : Int) (w : World) (h : BlkF w w.heap.size f z) (hv : IntS w w.heap.size v bs) (hbl : bs.length ≤ 1048576) :
  Calls Tryz.prog 20 #[.agg #[f 0, f 1, f 2, f 3, f 4], v, .int .i64 x] w (ListR w (coneL z bs x false) (ndCode z bs x)) := by
 have HB := lh (fun (w1 : World) (hb : Below w.heap.size w w1) => graphAround_any f z v bs x w1 (h.up hb) (hv.up hb) hbl)
 obtain ⟨p0, q0, p1, q1, p2, q2, p3, q3, p4, q4, e0, e1, e2, e3, e4⟩ := h.five
 obtain ⟨va, vc, rfl⟩ := hv.slice
 rw [e0, e1, e2, e3, e4] at HB
 rw [e0, e1, e2, e3, e4]
 clear e0 e1 e2 e3 e4 h hv
 unfold AroundR at HB
 by_cases hg : ndCode z bs x = 0
 ·have hx := nd_in hg
  have hgc := grCode_valid (show grCode z bs = 0 by rcases ndCode_cases z bs x with ⟨_, e⟩ | e | e | e <;> first | exact e | omega)
  rw [ndN_is] at hx
  obtain ⟨xn, rfl⟩ := Int.eq_ofNat_of_zero_le hx.1
  have XL := lh (show coneL z bs (xn : Int) false = listN (rchL (linksL z) (fun k => !hasI bs (k : Int)) false xn (nodesN z)) (nodesN z) by unfold coneL; rw [if_pos hg, ndN_is, Int.toNat_natCast, Int.toNat_natCast])
  have hxN : xn < nodesN z := by omega
  have HC := lh (fun (lv : Value) (bo bi : Nat) (w1 : World) (L : Nat) (h : GraphV w1 L z bs (.agg #[lv, .slice (some ⟨bo, 0, none⟩) (nodesN z) (nodesN z), .slice (some ⟨bi, 0, none⟩) (nodesN z) (nodesN z)])) => coneI_false z bs lv bo bi xn w1 L h hgc hxN)
  unfold ConR at HC
  have hll := linksL_len hgc
  rw [hg] at HB ⊢
  clear hg hx
  go_enter Tryz.func20, Tryz.ntmps20
  go_wp2_with fail
  (go_at_call 36; refine (HB.out _ (by exact eX)).mono ?_; rintro e w1 ⟨gv, rfl, hyes, hno, hb⟩)
  have hgv := hyes (by trivial)
  obtain ⟨lv, bo, bi, base, V, rfl, l1, l2, l3, d1, hGL, hR⟩ := id hgv
  obtain ⟨la, lc, rfl⟩ := (GL.lks hGL (by omega)).slice
  have GV := lh hgv
  have b1 : Below w.heap.size w w1 := by exact eX
  have bA : Below w1.heap.size w1 (w1.alloc (Obj.cells #[.slice la (linksL z).length lc, .slice (some ⟨bo, 0, none⟩) (nodesN z) (nodesN z), .slice (some ⟨bi, 0, none⟩) (nodesN z) (nodesN z)] 68)) := (Below.refl _ _).alloc (Nat.le_refl _) _
  have GA := lh (GV.out.below bA)
  clear hyes hno hb hgv hGL hR GV bA l1 l2 l3
  go_wp2_with fail
  (go_at_call 37; refine (HC.out _ _ _ _ _ GA.out).mono ?_; rintro e w2 ⟨vo, rfl, hO, hb⟩)
  have HO := lh (hO.mono (C := w.heap.size) (by have := b1.size; simp; omega))
  obtain ⟨ua, uc, rfl⟩ := HO.out.slice
  clear hO
  go_wp2
  go_ret2
  exact ⟨_, rfl, by rw [XL.out]; exact HO.out, by exact eX⟩
 ·have XL := lh (show coneL z bs x false = [] by simp [coneL, hg])
  obtain ⟨cd, hcd⟩ : ∃ cd, cd = ndCode z bs x := ⟨_, rfl⟩
  rw [← hcd] at HB hg ⊢
  have hne : (cd != 0) = true := by simpa using hg
  have hne2 : (cd == 0) = false := by simpa using hg
  have HG0 := lh hg
  clear hcd hg
  go_enter Tryz.func20, Tryz.ntmps20
  go_wp2_with fail
  (go_at_call 36; refine (HB.out _ (by exact eX)).mono ?_; rintro e w1 ⟨gv, rfl, hyes, hno, hb⟩)
  obtain rfl := hno HG0.out
  clear hyes hno
  go_wp2
  go_ret2
  exact ⟨_, rfl, by rw [XL.out]; exact own_nil _ _, eX⟩
theorem coneL_bd (z : BlkD) (bs : List Int) (x : Int) (fw : Bool) : (coneL z bs x fw).length ≤ 10000 := by
 unfold coneL
 split
 ·next h =>
  have hb := grCode_valid (show grCode z bs = 0 by rcases ndCode_cases z bs x with ⟨_, e⟩ | e | e | e <;> first | exact e | omega)
  have := ndN_le hb
  exact Nat.le_trans (listN_len _ _) (by omega)
 ·simp
end Go.Proofs.YtkpfbnffhhmokaaGreat
