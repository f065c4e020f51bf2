/-
The program's timing graph: pure.
-/
import Derived.Test.YtkpfbnffhhmokaaGreatLinkF
namespace Go.Proofs.YtkpfbnffhhmokaaGreat
open Go.ChangeShapes Go.WideShapes Go.ChangeAt Go.RowKit Go.Deep
set_option linter.unusedVariables false
set_option linter.unusedSimpArgs false
/-- The turns of an arc: the transitions ahead of it and behind it. -/
def turnsS (sense : Int) : List (Int × Int) := if sense = 1 then [(0, 0), (1, 1)] else if sense = 2 then [(0, 1), (1, 0)] else [(0, 0), (0, 1), (1, 0), (1, 1)]
def turnsL (kind sense : Int) : List (Int × Int) := if kind = 1 then turnsS sense else if kind = 2 then [(0, 0), (0, 1)] else if kind = 3 then [(1, 0), (1, 1)] else []
theorem turnsS_len (s : Int) : (turnsS s).length ≤ 4 := by
 unfold turnsS
 split
 ·simp
 ·split <;> simp
theorem turnsL_len (k s : Int) : (turnsL k s).length ≤ 4 := by
 unfold turnsL
 split
 ·exact turnsS_len s
 ·split
  ·simp
  ·split <;> simp
def trn (L : List (Int × Int)) (i : Nat) : Int × Int := L.getD i (0, 0)
def lkT (f t x : Int) (p : Int × Int) : LkD := ⟨2 * f + p.1, 2 * t + p.2, 1, x⟩
theorem turnsL_bd {k s : Int} {i : Nat} (h : i < (turnsL k s).length) : 0 ≤ (trn (turnsL k s) i).1 ∧ (trn (turnsL k s) i).1 ≤ 1 ∧ 0 ≤ (trn (turnsL k s) i).2 ∧ (trn (turnsL k s) i).2 ≤ 1 := by
 have hm : (turnsL k s)[i] ∈ turnsL k s := List.getElem_mem h
 have e : trn (turnsL k s) i = (turnsL k s)[i] := by simp [trn, List.getD, h]
 rw [e]
 generalize (turnsL k s)[i] = p at hm
 unfold turnsL turnsS at hm
 repeat' split at hm
 all_goals simp at hm
 all_goals (rcases hm with rfl | rfl | rfl | rfl <;> decide) <;> skip
 all_goals (rcases hm with rfl | rfl <;> decide)
theorem arc_turns (k s f t x : Int) (h : k = 1 → s = 1 ∨ s = 2 ∨ s = 3) : (if k ≤ 3 then arcN k s f t x 4 else []) = (turnsL k s).map (lkT f t x) := by
 have r4 : List.range 4 = [0, 1, 2, 3] := rfl
 by_cases k1 : k = 1
 ·subst k1
  rcases h rfl with rfl | rfl | rfl <;> simp [arcN, r4, fitJ, fitsB, turnsL, turnsS, lkT, lkOf, List.filter]
 ·by_cases k2 : k = 2
  ·subst k2
   simp [arcN, r4, fitJ, fitsB, turnsL, turnsS, lkT, lkOf, List.filter]
  ·by_cases k3 : k = 3
   ·subst k3
    simp [arcN, r4, fitJ, fitsB, turnsL, turnsS, lkT, lkOf, List.filter]
   ·have e : turnsL k s = [] := by simp [turnsL, k1, k2, k3]
    rw [e]
    by_cases kl : k ≤ 3
    ·rw [if_pos kl]
     simp [arcN, r4, fitJ, fitsB, k1, k2, k3, List.filter]
    ·rw [if_neg kl]; rfl
/-! The number of a pin's place. -/
theorem pls_split (ts : List CellD) (d : DesD) (i : Nat) : ∀ n, i < n → ∃ R, pls ts d n = pls ts d i ++ (plsI ts (inn d.insts i) i (xcell ts (inn d.insts i)).pins.length ++ R)
 | 0, h => absurd h (Nat.not_lt_zero _)
 | n + 1, h => by
  rw [pls_succ]
  by_cases e : i = n
  ·subst e
   exact ⟨[], by simp⟩
  ·obtain ⟨R, hR⟩ := pls_split ts d i n (by omega)
   exact ⟨R ++ plsI ts (inn d.insts n) n (xcell ts (inn d.insts n)).pins.length, by rw [hR]; simp⟩
theorem pls_inst (ts : List CellD) (d : DesD) (n : Nat) : ∀ p ∈ pls ts d n, ∃ i : Nat, p.inst = (i : Int) ∧ i < n := by
 intro p hp
 simp only [pls, List.mem_flatMap, List.mem_range, plsI, List.mem_map] at hp
 obtain ⟨i, hi, k, _, rfl⟩ := hp
 exact ⟨i, rfl, hi⟩
def firstP (z : BlkD) (i : Nat) : Int := ((pls z.lib z.des i).length : Int)
theorem firstP_succ (z : BlkD) (i : Nat) : firstP z (i + 1) = firstP z i + ((xcell z.lib (inn z.des.insts i)).pins.length : Int) := by
 simp [firstP, pls_succ, plsI]
theorem firstP_bd {z : BlkD} (h : blkB z = true) {i : Nat} (hi : i ≤ z.des.insts.length) : 0 ≤ firstP z i ∧ firstP z i ≤ 100 := by
 have hp := placesM (blk_get h).1
 have : (pls z.lib z.des i).length ≤ (places z.lib z.des).length := by
  rw [places, List.length_append]
  by_cases e : i = z.des.insts.length
  ·subst e; omega
  ·obtain ⟨R, hR⟩ := pls_split z.lib z.des i z.des.insts.length (by omega)
   rw [hR, List.length_append]
   omega
 simp only [firstP]
 omega
theorem findP_is (z : BlkD) {i k : Nat} (hi : i < z.des.insts.length) (hk : k < (xcell z.lib (inn z.des.insts i)).pins.length) : findP (places z.lib z.des) (i : Int) (k : Int) = firstP z i + (k : Int) := by
 obtain ⟨R, hR⟩ := pls_split z.lib z.des i z.des.insts.length hi
 have hP : places z.lib z.des = pls z.lib z.des i ++ (plsI z.lib (inn z.des.insts i) i (xcell z.lib (inn z.des.insts i)).pins.length ++ (R ++ plsP z.des z.des.ports.length)) := by
  rw [places, hR]; simp
 have at_ : ∀ k', k' < (xcell z.lib (inn z.des.insts i)).pins.length → pll (places z.lib z.des) ((pls z.lib z.des i).length + k') = plI z.lib (inn z.des.insts i) i k' := by
  intro k' hk'
  rw [hP]
  have hl : (plsI z.lib (inn z.des.insts i) i (xcell z.lib (inn z.des.insts i)).pins.length).length = (xcell z.lib (inn z.des.insts i)).pins.length := by simp [plsI]
  simp only [pll, List.getD]
  rw [List.getElem?_append_right (by omega), Nat.add_sub_cancel_left, List.getElem?_append_left (by omega)]
  simp [plsI, hk']
 have hlen : (pls z.lib z.des i).length + k < (places z.lib z.des).length := by
  rw [hP]; simp [plsI]; omega
 have e : findP (places z.lib z.des) (i : Int) (k : Int) = (((pls z.lib z.des i).length + k : Nat) : Int) := by
  refine ix_at hlen ?_ (fun j hj => ?_)
  ·simp only [at_ k hk, plI]; simp
  ·by_cases hj2 : j < (pls z.lib z.des i).length
   ·have hm : pll (places z.lib z.des) j ∈ pls z.lib z.des i := by
     rw [hP]
     simp only [pll, List.getD]
     rw [List.getElem?_append_left hj2, List.getElem?_eq_getElem hj2]
     exact List.getElem_mem hj2
    obtain ⟨i', e1, e2⟩ := pls_inst _ _ _ _ hm
    rw [e1]
    simp; omega
   ·have ej : j = (pls z.lib z.des i).length + (j - (pls z.lib z.des i).length) := by omega
    rw [ej, at_ _ (by omega)]
    simp [plI]; omega
 rw [e, firstP]; simp
theorem arc_ok {c : CellD} (h : cellB c = true) {k : Nat} (hk : k < c.arcs.length) : 0 ≤ (an c.arcs k).src ∧ (an c.arcs k).src < c.pins.length ∧ 0 ≤ (an c.arcs k).dst ∧ (an c.arcs k).dst < c.pins.length ∧ ((an c.arcs k).kind = 1 → (an c.arcs k).sense = 1 ∨ (an c.arcs k).sense = 2 ∨ (an c.arcs k).sense = 3) := by
 have h2 := (arcs_get (cell_get h).2.2.1).2.1 k hk
 simp only [sArc, Bool.and_eq_true] at h2
 have a := inB_get h2.1.1
 have b := inB_get h2.1.2
 refine ⟨a.1, by omega, b.1, by omega, fun k1 => ?_⟩
 have h3 := h2.2
 rw [k1, kB_1] at h3
 simp only [Bool.and_eq_true] at h3
 have := inB_get h3.1.1.2
 omega
theorem arcLk_is {z : BlkD} {i m : Nat} (hi : i < z.des.insts.length) (hc : cellB (xcell z.lib (inn z.des.insts i)) = true) (hm : m < (xcell z.lib (inn z.des.insts i)).arcs.length) :
  arcLk (places z.lib z.des) (xcell z.lib (inn z.des.insts i)) i m = (turnsL (an (xcell z.lib (inn z.des.insts i)).arcs m).kind (an (xcell z.lib (inn z.des.insts i)).arcs m).sense).map (lkT (firstP z i + (an (xcell z.lib (inn z.des.insts i)).arcs m).src) (firstP z i + (an (xcell z.lib (inn z.des.insts i)).arcs m).dst) m) := by
 obtain ⟨a0, a1, b0, b1, hs⟩ := arc_ok hc hm
 unfold arcLk
 rw [arc_turns _ _ _ _ _ hs]
 obtain ⟨x, hx⟩ := Int.eq_ofNat_of_zero_le a0
 obtain ⟨y, hy⟩ := Int.eq_ofNat_of_zero_le b0
 rw [hx] at a1 ⊢
 rw [hy] at b1 ⊢
 rw [findP_is z hi (show x < _ by omega), findP_is z hi (show y < _ by omega)]
/-! The driver of a net. -/
theorem drvP_is {P : List PlD} {n : Int} (h : (endsL P n true).length = 1) : iv (endsL P n true) 0 = drvP P n ∧ 0 ≤ drvP P n ∧ drvP P n < P.length := by
 have hb : ∀ i, atEnd n true (pll P i) = ((pll P i).net == n && (pll P i).drv) := fun i => by cases h : (pll P i).drv <;> simp [atEnd, h]
 unfold endsL at h ⊢
 cases e : (List.range P.length).filter (fun i => atEnd n true (pll P i)) with
 | nil => rw [e] at h; simp at h
 | cons k q =>
  have hp : ((List.range P.length).filter (fun i => atEnd n true (pll P i))).Pairwise (· < ·) := List.Pairwise.filter _ List.pairwise_lt_range
  have hk : k ∈ (List.range P.length).filter (fun i => atEnd n true (pll P i)) := by rw [e]; exact List.mem_cons_self ..
  have hk' := List.mem_filter.1 hk
  have hkl := List.mem_range.1 hk'.1
  have ed : drvP P n = (k : Int) := ix_at hkl (by rw [← hb]; exact hk'.2) (fun j hj => by
   rw [← hb]
   cases hq : atEnd n true (pll P j)
   ·rfl
   ·have hjm : j ∈ (List.range P.length).filter (fun i => atEnd n true (pll P i)) := List.mem_filter.2 ⟨List.mem_range.2 (by omega), hq⟩
    rw [e] at hjm hp
    rcases List.mem_cons.1 hjm with rfl | hjm
    ·omega
    ·have := (List.pairwise_cons.1 hp).1 j hjm
     omega)
  rw [ed]
  refine ⟨by simp [iv, List.getD], by omega, by omega⟩
theorem drv_one {z : BlkD} (h : blkB z = true) {n : Nat} (hn : n < z.des.nets.length) : (endsL (places z.lib z.des) (n : Int) true).length = 1 := by
 have hdr := (desG (blk_get h).1).2.2.2.2
 have := allB_get (p := fun n : Nat => decide ((endsL (places z.lib z.des) n true).length = 1)) hdr n hn
 simpa using this
/-- The links of the first m turns of an arc. -/
def arcT (f t x : Int) (L : List (Int × Int)) (m : Nat) : List LkD := (L.take m).map (lkT f t x)
theorem arcT_succ (f t x : Int) (L : List (Int × Int)) {m : Nat} (h : m < L.length) : arcT f t x L (m + 1) = arcT f t x L m ++ [lkT f t x (trn L m)] := by
 simp only [arcT, trn, List.getD]
 rw [List.take_succ_eq_append_getElem h, List.map_append, List.getElem?_eq_getElem h]
 simp
theorem arcT_all (f t x : Int) (L : List (Int × Int)) : arcT f t x L L.length = L.map (lkT f t x) := by simp [arcT]
theorem arcT_zero (f t x : Int) (L : List (Int × Int)) : arcT f t x L 0 = [] := by simp [arcT]
theorem arcT_len (f t x : Int) (L : List (Int × Int)) (m : Nat) : (arcT f t x L m).length ≤ L.length := by
 simp [arcT]; omega
end Go.Proofs.YtkpfbnffhhmokaaGreat
namespace Go.Proofs.YtkpfbnffhhmokaaGreat
open Go.ChangeShapes Go.WideShapes Go.ChangeAt Go.RowKit Go.Deep
set_option linter.unusedVariables false
set_option linter.unusedSimpArgs false
set_option maxRecDepth 100000
theorem nodeOf_any (p t : Int) (w : World) (p0 : -1000 ≤ p) (p1 : p ≤ 1000) (t0 : 0 ≤ t) (t1 : t ≤ 10) : Calls Tryz.prog 121 #[.int .i64 p, .int .i64 t] w fun e w' => e = .returned (.int .i64 (2 * p + t)) ∧ w' = w := by
 go_enter Tryz.func121, Tryz.ntmps121
 go_wp2
 go_ret
 exact ⟨rfl, rfl⟩
def tnC (p : Int × Int) : List Value := [.int .i64 p.1, .int .i64 p.2]
def TnS (w : World) (B : Nat) (v : Value) (L : List (Int × Int)) : Prop := ∃ F, CellS w B v L.length 2 F ∧ ∀ i, i < L.length → F i 0 = .int .i64 (trn L i).1 ∧ F i 1 = .int .i64 (trn L i).2
theorem TnS.slice {w : World} {B : Nat} {v : Value} {L : List (Int × Int)} (h : TnS w B v L) : ∃ p q, v = .slice p L.length q := by
 obtain ⟨F, ⟨_, a, cap, rfl, _⟩, _⟩ := h
 exact ⟨_, _, rfl⟩
theorem TnS.keep {w w' : World} {B C : Nat} {v : Value} {L : List (Int × Int)} (h : TnS w B v L) (hb : Below B w w') (hB : B ≤ C) : TnS w' C v L := by
 obtain ⟨F, h0, h1⟩ := h
 exact ⟨F, h0.keep hb hB, h1⟩
theorem TnS.at {w wr : World} {a : Option Addr} {n cap k : Nat} {L : List (Int × Int)} (h : TnS w w.heap.size (.slice a n cap) L) (hb : Below w.heap.size w wr) (hk : k < L.length) :
  ∃ b off, a = some ⟨b, off, none⟩ ∧ b < w.heap.size ∧ wr.cell? ⟨b, off + k * 2, none⟩ = some (.int .i64 (trn L k).1) ∧ wr.cell? ⟨b, off + k * 2 + 1, none⟩ = some (.int .i64 (trn L k).2) := by
 obtain ⟨F, hc, hf⟩ := h
 obtain ⟨_, a', cap', e, _⟩ := id hc
 cases e
 obtain ⟨b, off, rfl, hlt, hx⟩ := hc.at hb hk
 have y0 := hx 0 (by omega); have y1 := hx 1 (by omega)
 obtain ⟨e0, e1⟩ := hf k hk
 rw [e0] at y0; rw [e1] at y1
 exact ⟨b, off, rfl, hlt, by simpa using y0, y1⟩
theorem TnS.of {w : World} {base : Nat} {t : TypeId} {v : Value} {L : List (Int × Int)} (h : GR w base t 2 v (L.map tnC)) (hl : L.length ≤ 4) : TnS w w.heap.size v L := by
 have hl' : (L.map tnC).length = L.length := List.length_map _
 have hc := (GR.out h (by omega) (by omega)).cells
 rw [hl'] at hc
 refine ⟨_, hc, fun i hi => ?_⟩
 have e : (L.map tnC).getD i [] = tnC (trn L i) := by simp [List.getD, trn, hi]
 simp only [e]
 exact ⟨rfl, rfl⟩
theorem TnS.lit {w : World} {t : TypeId} {cs : Array Value} {n m g : Nat} {L : List (Int × Int)} (hcs : cs.toList = (L.map tnC).flatten) (hl : L.length ≤ 4) (hn : n = L.length) (hm : m = L.length) (hg : g = w.heap.size) : TnS (w.alloc (.cells cs t)) (w.alloc (.cells cs t)).heap.size (.slice (some ⟨g, 0, none⟩) n m) L := by
 subst hn; subst hm; subst hg
 have h := GR.lit (w := w) (base := w.heap.size) (c := 2) (t := t) cs (L.map tnC) hcs (fun f hf => by
  obtain ⟨p, _, rfl⟩ := List.mem_map.1 hf
  rfl) (Nat.le_refl _) (by rw [List.length_map]; omega)
 rw [List.length_map] at h
 exact TnS.of h hl
theorem TnS.nil (w : World) (B : Nat) : TnS w B (.slice none 0 0) [] := ⟨fun _ _ => .bool false, ⟨by simp, none, 0, rfl, fun hp => absurd hp (by simp)⟩, fun i hi => absurd hi (by simp)⟩
theorem own_new1 {a o n m : Nat} {B : Nat} (h : B ≤ a) : ∀ g, (Value.slice (some ⟨a, o, none⟩) n m).ownBlock = some g → B ≤ g := fun g hg => by simp [Value.ownBlock] at hg; omega
theorem own_none {B : Nat} : ∀ g, (Value.slice none 0 0).ownBlock = some g → B ≤ g := fun g hg => by simp [Value.ownBlock] at hg
def TnR (L : List (Int × Int)) (w : World) (e : Ending) (w' : World) : Prop := ∃ v, e = .returned v ∧ TnS w' w'.heap.size v L ∧ (∀ g, v.ownBlock = some g → w.heap.size ≤ g) ∧ Below w.heap.size w w'
theorem turnsSense_any (s : Int) (w : World) : Calls Tryz.prog 156 #[.int .i64 s] w (TnR (turnsS s) w) := by
 by_cases s1 : s = 1
 ·subst s1
  go_enter Tryz.func156, Tryz.ntmps156
  go_wp2
  go_ret
  exact ⟨_, rfl, TnS.lit rfl (by decide) rfl rfl (by simp), own_new1 (by omega), eX⟩
 ·by_cases s2 : s = 2
  ·subst s2
   go_enter Tryz.func156, Tryz.ntmps156
   go_wp2
   go_ret
   exact ⟨_, rfl, TnS.lit rfl (by decide) rfl rfl (by simp), own_new1 (by omega), eX⟩
  ·have HT := lh (show turnsS s = [(0, 0), (0, 1), (1, 0), (1, 1)] by simp [turnsS, s1, s2])
   go_enter Tryz.func156, Tryz.ntmps156
   go_wp2
   go_ret
   exact ⟨_, rfl, by rw [HT.out]; exact TnS.lit rfl (by decide) rfl rfl (by simp), own_new1 (by omega), eX⟩
theorem turnsOf_any (kd sr ds sn : Int) (dl sl : Value) (w : World) : Calls Tryz.prog 120 #[.agg #[.int .i64 kd, .int .i64 sr, .int .i64 ds, .int .i64 sn, dl, sl]] w (TnR (turnsL kd sn) w) := by
 by_cases k1 : kd = 1
 ·subst k1
  have HT := lh (show turnsL 1 sn = turnsS sn by simp [turnsL])
  go_enter Tryz.func120, Tryz.ntmps120
  go_wp2_with fail
  (go_at_call 156; refine (turnsSense_any _ _).mono ?_; rintro e w1 ⟨v, rfl, hT, hO, hb⟩)
  have B1 : Below w.heap.size w w1 := by exact eX
  have T1 := lh hT
  have O1 := lh (show ∀ g, v.ownBlock = some g → w.heap.size ≤ g from fun g hg => by have := hO g hg; simp at this; omega)
  clear hT hO hb
  go_wp2
  go_ret
  exact ⟨_, rfl, by rw [HT.out]; exact T1.out, O1.out, B1⟩
 ·by_cases k2 : kd = 2
  ·subst k2
   go_enter Tryz.func120, Tryz.ntmps120
   go_wp2
   go_ret
   exact ⟨_, rfl, by rw [show turnsL 2 sn = [(0, 0), (0, 1)] from rfl]; exact TnS.lit rfl (by decide) rfl rfl (by simp), own_new1 (by omega), eX⟩
  ·by_cases k3 : kd = 3
   ·subst k3
    go_enter Tryz.func120, Tryz.ntmps120
    go_wp2
    go_ret
    exact ⟨_, rfl, by rw [show turnsL 3 sn = [(1, 0), (1, 1)] from rfl]; exact TnS.lit rfl (by decide) rfl rfl (by simp), own_new1 (by omega), eX⟩
   ·have HT := lh (show turnsL kd sn = [] by simp [turnsL, k1, k2, k3])
    go_enter Tryz.func120, Tryz.ntmps120
    go_wp2
    go_ret
    exact ⟨_, rfl, by rw [HT.out]; exact TnS.nil _ _, own_none, eX⟩
end Go.Proofs.YtkpfbnffhhmokaaGreat
