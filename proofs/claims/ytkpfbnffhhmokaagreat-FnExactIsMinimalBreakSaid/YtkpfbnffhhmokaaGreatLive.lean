/-
Which links are live, and the nodes of a set, in the model.
-/
import Derived.Test.YtkpfbnffhhmokaaGreatLinkF
namespace Go.Proofs.YtkpfbnffhhmokaaGreat
open Go.ChangeShapes Go.WideShapes Go.ChangeAt Go.RowKit Go.Deep
set_option linter.unusedVariables false
set_option linter.unusedSimpArgs false
set_option maxRecDepth 100000
def bvl (xs : List Bool) (k : Nat) : Bool := xs.getD k false
/-- A slice of booleans below B. -/
def BoolS (w : World) (B : Nat) (v : Value) (xs : List Bool) : Prop := xs.length ≤ 9223372036854775807 ∧ ∃ a cap, v = .slice a xs.length cap ∧ (0 < xs.length → ∃ g, a = some ⟨g, 0, none⟩ ∧ g < B ∧ ∀ i, i < xs.length → w.cell? ⟨g, i, none⟩ = some (.bool (bvl xs i)))
theorem BoolS.up {w w' : World} {B : Nat} {v : Value} {xs : List Bool} (h : BoolS w B v xs) (hb : Below B w w') : BoolS w' B v xs := by
 obtain ⟨h0, a, cap, e, hx⟩ := h
 exact ⟨h0, a, cap, e, fun hp => by
  obtain ⟨g, e', hlt, hx⟩ := hx hp
  exact ⟨g, e', hlt, fun i hi => by rw [hb.cell (by show g < _; omega)]; exact hx i hi⟩⟩
theorem BoolS.slice {w : World} {B : Nat} {v : Value} {xs : List Bool} (h : BoolS w B v xs) : ∃ a c, v = .slice a xs.length c := by
 obtain ⟨_, a, c, e, _⟩ := h
 exact ⟨a, c, e⟩
theorem BoolS.wide {w : World} {B C : Nat} {v : Value} {xs : List Bool} (h : BoolS w B v xs) (hc : B ≤ C) : BoolS w C v xs := by
 obtain ⟨h0, a, cap, e, hx⟩ := h
 exact ⟨h0, a, cap, e, fun hp => by
  obtain ⟨g, e', hlt, hx⟩ := hx hp
  exact ⟨g, e', by omega, hx⟩⟩
theorem bools_at {w wr : World} {a : Option Addr} {n c B : Nat} {xs : List Bool} {k : Nat} (h : BoolS w B (.slice a n c) xs) (hb : Below B w wr) (hk : k < xs.length) : ∃ b, a = some ⟨b, 0, none⟩ ∧ b < B ∧ wr.cell? ⟨b, k, none⟩ = some (.bool (bvl xs k)) := by
 obtain ⟨_, a', cap, e, hx⟩ := h
 obtain ⟨b, e', hlt, hx⟩ := hx (by omega)
 injection e with e _ _
 exact ⟨b, e.trans e', hlt, by rw [hb.cell (by show b < _; omega)]; exact hx k hk⟩
/-- A slice of booleans under construction. -/
def GB (w : World) (base : Nat) (v : Value) (xs : List Bool) : Prop := w.ownsRow base 4 1 v xs.length (xs.map Value.bool)
theorem GB.blk {w : World} {base : Nat} {v : Value} {xs : List Bool} (h : GB w base v xs) : ∀ k, v.ownBlock = some k → base ≤ k := fun k hk => (World.ownsRow.lt h k hk).1
theorem GB.below {w w' : World} {base : Nat} {v : Value} {xs : List Bool} (h : GB w base v xs) (hb : Below w.heap.size w w') : GB w' base v xs :=
 World.ownsRow.kept (row := none) h ⟨hb.os, hb.tape, hb.output, hb.size, fun k hk _ => hb.block k hk⟩ (by
  cases hv : v.ownBlock with
  | none => exact .inl rfl
  | some k => exact .inr (by simp))
theorem GB.own {w : World} {base : Nat} {v : Value} {xs : List Bool} (h : GB w base v xs) (hl : xs.length ≤ 9223372036854775807) : BoolS w w.heap.size v xs ∧ ∀ k, v.ownBlock = some k → base ≤ k := by
 refine ⟨⟨hl, ?_⟩, h.blk⟩
 have h2 := h.2
 rcases h2 with ⟨rfl, h0⟩ | ⟨g, cap, cur, rfl, hb, hgg, _, _, _, _⟩
 ·exact ⟨none, 0, by rw [h0], fun hp => absurd hp (by omega)⟩
 ·refine ⟨_, cap, rfl, fun hp => ⟨g, rfl, (Array.getElem?_eq_some_iff.1 hgg).1, fun i hi => ?_⟩⟩
  have hc := World.ownsRow.cellAt h i (by omega)
  rw [hc]
  simp [bvl, List.getD, hi]
theorem GB.lit (w : World) (base g : Nat) (hb : base ≤ w.heap.size) (hg : g = w.heap.size) (t : TypeId) (ht : t = 4) : GB (w.alloc (.cells #[] t)) base (.slice (some ⟨g, 0, none⟩) 0 0) [] := by
 subst ht; subst hg
 exact World.ownsRow_lit (e := 4) (base := base) (size := 1) w #[] 0 hb (by unfold maxLen; omega) rfl
theorem Tryz.infoB : (Tryz.prog.info? 4).map (fun i => (i.zero, i.size, i.bytes)) = some (some (.bool false), 1, 1) := by kernel_rfl
def liveN (bs : List Int) (n : Nat) : List Bool := (List.range n).map (fun k : Nat => !hasI bs (k : Int))
theorem liveN_succ (bs : List Int) (n : Nat) : liveN bs (n + 1) = liveN bs n ++ [!hasI bs (n : Int)] := by simp [liveN, List.range_succ]
theorem liveN_len (bs : List Int) (n : Nat) : (liveN bs n).length = n := by simp [liveN]
theorem liveN_at (bs : List Int) {n k : Nat} (h : k < n) : bvl (liveN bs n) k = !hasI bs (k : Int) := by simp [bvl, liveN, List.getD, h]
/-- What makes a list of booleans of its own. -/
def BoolR (w : World) (xs : List Bool) (e : Ending) (w' : World) : Prop := ∃ v, e = .returned v ∧ BoolS w' w'.heap.size v xs ∧ (∀ k, v.ownBlock = some k → w.heap.size ≤ k) ∧ Below w.heap.size w w'
set_option maxHeartbeats 4000000 in
theorem live_any (va : Option Addr) (n vc : Nat) (v : Value) (bs : List Int) (w : World) (hv : IntS w w.heap.size v bs) (hn : n ≤ 7000) :
  Calls Tryz.prog 50 #[.slice va n vc, v] w (BoolR w (liveN bs n)) := by
 obtain ⟨ti, hi, hz0, hz1, hz2⟩ := info_parts Tryz.infoB
 obtain ⟨a, c, rfl⟩ := hv.slice
 have HH := lh (fun (y : Int) (w1 : World) (hb' : Below w.heap.size w w1) => has_any (.slice a bs.length c) bs y w1 (hv.up hb'))
 clear hv
 have G0 := lh (GB.lit w w.heap.size w.heap.size (Nat.le_refl _) rfl 4 rfl)
 go_enter Tryz.func50, Tryz.ntmps50
 go_wp2_with fail
 go_loopw [5, 6] (fun u i wr => ∃ (k : Nat) (v1 : Value), v1 = u ∧ k ≤ n ∧ i = .int .i64 k ∧ Hid (GB wr w.heap.size v1 (liveN bs k)) ∧ Below w.heap.size w wr) (fun _ i _ => n - (intOf i).toNat)
 case atStart => exact ⟨0, _, rfl, by omega, rfl, G0, eX⟩
 case round =>
  clear G0
  obtain ⟨k, v1, hv, hk, rfl, hG, hbw⟩ := hrel
  subst hv
  by_cases hkn : k < n
  ·have i1 : (k : Int) < (n : Int) := by omega
   have hsz := hbw.size
   have hblk := hG.out.blk
   have HL := lh (liveN_len bs k)
   have NX := lh (liveN_succ bs k)
   obtain ⟨d, hd⟩ : ∃ d, d = hasI bs (k : Int) := ⟨_, rfl⟩
   rw [← hd] at NX
   have HD := lh hd
   clear hd
   go_wp2_with fail
   (go_at_call 89; refine (HH.out (k : Int) wr hbw).mono ?_; rintro e w' ⟨rfl, hw'⟩; rw [hw', ← HD.out]; clear hw' w')
   go_wp2_with (at_builtin; refine wpList_append_own _ rfl _ _ 84 rfl w.heap.size 4 ti (.bool false) 1 1 Tryz.underlying84 hi hz0 hz1 hz2 rfl (by decide) _ _ _ rfl (GB.below hG.out eX) ⟨_, 0, none⟩ 1 1 [.bool (!d)] rfl rfl (one_cellG2 _ _ _ _ (by simp)) (fun u hu => by simp at hu; subst hu; rfl) (by have := HL.out; unfold maxLen; omega) (by have := HL.out; omega) (by have := HL.out; simp; omega) ?_; intro v' w1 hown' hgrow hnil)
   have O1 := lh (show GB w1 w.heap.size v' (liveN bs (k + 1)) by rw [NX.out]; unfold GB; rw [List.map_append, List.length_append]; exact hown')
   have B1 : Below w.heap.size w w1 := grown_in eX (by simp; omega) hgrow hblk
   clear hown' hgrow hnil hblk hG
   go_wp2
   go_roundw
   case rel => exact ⟨k + 1, _, rfl, by omega, by go_num, O1, B1⟩
   case measure => simp [intOf]; omega
  ·obtain rfl : k = n := by omega
   have hI : ¬ (k : Int) < (k : Int) := by omega
   have HO := lh (hG.out.own (by rw [liveN_len]; omega))
   clear hG
   go_wp2
   go_ret
   exact ⟨_, rfl, HO.out.1, HO.out.2, hbw⟩
def listN (s : List Bool) (m : Nat) : List Int := ((List.range m).filter (fun k : Nat => bvl s k)).map (fun k : Nat => (k : Int))
theorem listN_succ (s : List Bool) (m : Nat) : listN s (m + 1) = if bvl s m = true then listN s m ++ [(m : Int)] else listN s m := by
 unfold listN
 rw [List.range_succ, List.filter_append]
 by_cases e : bvl s m = true
 ·rw [if_pos e, List.filter_cons, if_pos e]; simp
 ·rw [if_neg e, List.filter_cons, if_neg e]; simp
theorem listN_len (s : List Bool) (m : Nat) : (listN s m).length ≤ m := by
 unfold listN
 rw [List.length_map]
 exact Nat.le_trans (List.length_filter_le _ _) (by simp)
/-- What makes a list of integers of its own. -/
def IntR (w : World) (xs : List Int) (e : Ending) (w' : World) : Prop := ∃ v, e = .returned v ∧ OwnS w' w.heap.size v xs ∧ Below w.heap.size w w'
theorem Tryz.infoLs : (Tryz.prog.info? 2).map (fun i => (i.zero, i.size, i.bytes)) = some (some (.int .i64 0), 1, 8) := by kernel_rfl
set_option maxHeartbeats 4000000 in
theorem listed_any (v : Value) (s : List Bool) (w : World) (hv : BoolS w w.heap.size v s) (hn : s.length ≤ 100000) :
  Calls Tryz.prog 63 #[v] w (IntR w (listN s s.length)) := by
 obtain ⟨ti, hi, hz0, hz1, hz2⟩ := info_parts Tryz.infoLs
 obtain ⟨a, c, rfl⟩ := hv.slice
 have HB := lh hv
 clear hv
 obtain ⟨n, hnn⟩ : ∃ n, n = s.length := ⟨_, rfl⟩
 rw [← hnn] at HB hn ⊢
 have HN := lh hnn
 clear hnn
 have G0 := lh (GI.lit w w.heap.size w.heap.size (Nat.le_refl _) rfl 2 rfl)
 go_enter Tryz.func63, Tryz.ntmps63
 go_wp2_with fail
 go_loopw [3, 4] (fun u i wr => ∃ (k : Nat) (v1 : Value), v1 = u ∧ k ≤ n ∧ i = .int .i64 k ∧ Hid (GI wr w.heap.size v1 (listN s k)) ∧ Below w.heap.size w wr) (fun _ i _ => n - (intOf i).toNat)
 case atStart => exact ⟨0, _, rfl, by omega, rfl, G0, eX⟩
 case round =>
  clear G0
  obtain ⟨k, v1, hv, hk, rfl, hG, hbw⟩ := hrel
  subst hv
  by_cases hkn : k < n
  ·obtain ⟨b, rfl, hlt, y0⟩ := bools_at HB.out hbw (show k < s.length by rw [← HN.out]; exact hkn)
   have i0 : (0 : Int) ≤ (k : Int) := by omega
   have i1 : (k : Int) < (n : Int) := by omega
   have hsz := hbw.size
   have hblk := hG.out.blk
   have HL := lh (listN_len s k)
   have NX := lh (listN_succ s k)
   cases d : bvl s k
   ·rw [d] at NX y0
    have O1 := lh (show GI wr w.heap.size v1 (listN s (k + 1)) by rw [NX.out]; exact hG.out)
    clear hG hblk d
    go_wp2
    go_roundw
    case rel => exact ⟨k + 1, _, rfl, by omega, by go_num, O1, hbw⟩
    case measure => simp [intOf]; omega
   ·rw [d] at NX y0
    clear d
    go_wp2_with (at_builtin; refine wpList_append_own _ rfl _ _ 33 rfl w.heap.size 2 ti (.int .i64 0) 1 8 Tryz.underlying33 hi hz0 hz1 hz2 rfl (by decide) _ _ _ rfl (GI.below hG.out eX) ⟨_, 0, none⟩ 1 1 [.int .i64 k] rfl rfl (one_cellG2 _ _ _ _ (by simp)) (fun u hu => by simp at hu; subst hu; rfl) (by have := HL.out; unfold maxLen; omega) (by have := HL.out; omega) (by have := HL.out; simp; omega) ?_; intro v' w1 hown' hgrow hnil)
    have O1 := lh (show GI w1 w.heap.size v' (listN s (k + 1)) by rw [NX.out, if_pos rfl]; unfold GI; rw [List.map_append, List.length_append]; exact hown')
    have B1 : Below w.heap.size w w1 := grown_in eX (by simp; omega) hgrow hblk
    clear hown' hgrow hnil hblk hG
    go_wp2
    go_roundw
    case rel => exact ⟨k + 1, _, rfl, by omega, by go_num, O1, B1⟩
    case measure => simp [intOf]; omega
  ·obtain rfl : k = n := by omega
   have hI : ¬ (k : Int) < (k : Int) := by omega
   have HL := listN_len s k
   have HO := lh (hG.out.own (by omega))
   clear hG
   go_wp2
   go_ret
   exact ⟨_, rfl, HO.out, hbw⟩
end Go.Proofs.YtkpfbnffhhmokaaGreat
namespace Go.Proofs.YtkpfbnffhhmokaaGreat
open Go.ChangeShapes Go.WideShapes Go.ChangeAt Go.RowKit Go.Deep
set_option linter.unusedVariables false
set_option linter.unusedSimpArgs false
set_option maxRecDepth 100000
/-- What live links reach from a node; forward where fw. -/
inductive Rch (L : List LkD) (lv : Nat → Bool) (fw : Bool) (x : Nat) : Nat → Prop where
 | here : Rch L lv fw x x
 | step (k : Nat) : k < L.length → lv k = true → Rch L lv fw x (if fw then (lkn L k).src else (lkn L k).dst).toNat → Rch L lv fw x (if fw then (lkn L k).dst else (lkn L k).src).toNat
open Classical in
noncomputable def rchL (L : List LkD) (lv : Nat → Bool) (fw : Bool) (x n : Nat) : List Bool := (List.range n).map (fun i => decide (Rch L lv fw x i))
theorem rchL_len (L : List LkD) (lv : Nat → Bool) (fw : Bool) (x n : Nat) : (rchL L lv fw x n).length = n := by simp [rchL]
open Classical in
theorem rchL_at (L : List LkD) (lv : Nat → Bool) (fw : Bool) (x : Nat) {n i : Nat} (h : i < n) : bvl (rchL L lv fw x n) i = decide (Rch L lv fw x i) := by simp [bvl, rchL, List.getD, h]
/-- The set s holds what links among the first k lead to from it. -/
def ClosedTo (L : List LkD) (lv : Nat → Bool) (fw : Bool) (s : Nat → Bool) (m : Nat) : Prop := ∀ k, k < m → lv k = true → s (if fw then (lkn L k).src else (lkn L k).dst).toNat = true → s (if fw then (lkn L k).dst else (lkn L k).src).toNat = true
theorem rch_closed {L : List LkD} {lv : Nat → Bool} {fw : Bool} {x : Nat} {s : Nat → Bool} (hx : s x = true) (hc : ClosedTo L lv fw s L.length) : ∀ {i : Nat}, Rch L lv fw x i → s i = true := by
 intro i h
 induction h with
 | here => exact hx
 | step k hk hl _ ih => exact hc k hk hl ih
open Classical in
theorem rch_done {L : List LkD} {lv : Nat → Bool} {fw : Bool} {x n : Nat} {s : Nat → Bool} (hx : s x = true) (hc : ClosedTo L lv fw s L.length) (hs : ∀ i, s i = true → Rch L lv fw x i) {i : Nat} (hi : i < n) : s i = bvl (rchL L lv fw x n) i := by
 rw [rchL_at _ _ _ _ hi]
 cases e : s i
 ·have : ¬ Rch L lv fw x i := fun h => by rw [rch_closed hx hc h] at e; cases e
  simp [this]
 ·simp [hs i e]
def cntF : Nat → (Nat → Bool) → Nat
 | 0, _ => 0
 | n + 1, s => cntF n s + (if s n then 0 else 1)
def putB (s : Nat → Bool) (k : Nat) : Nat → Bool := fun j => if j = k then true else s j
theorem putB_same (s : Nat → Bool) (k : Nat) : putB s k k = true := by simp [putB]
theorem putB_up {s : Nat → Bool} {k j : Nat} (h : s j = true) : putB s k j = true := by
 unfold putB
 split
 ·rfl
 ·exact h
theorem cnt_put : ∀ (n : Nat) (s : Nat → Bool) (k : Nat), cntF n (putB s k) ≤ cntF n s
 | 0, s, k => Nat.le_refl _
 | n + 1, s, k => by
  have := cnt_put n s k
  unfold cntF
  by_cases e : s n = true
  ·rw [putB_up e, e]; simpa using this
  ·simp only [Bool.not_eq_true] at e
   rw [e]
   have : (if putB s k n = true then 0 else 1) ≤ 1 := by split <;> omega
   simp only [Bool.false_eq_true, if_false]
   omega
theorem cnt_less : ∀ {n : Nat} {s : Nat → Bool} {k : Nat}, k < n → s k = false → cntF n (putB s k) < cntF n s
 | 0, s, k, h, _ => absurd h (Nat.not_lt_zero k)
 | n + 1, s, k, h, e => by
  unfold cntF
  by_cases hk : k = n
  ·subst hk
   have := cnt_put k s k
   rw [putB_same, e]
   simp
   omega
  ·have := cnt_less (n := n) (by omega) e
   have e2 : putB s k n = s n := by simp [putB, show ¬ n = k by omega]
   rw [e2]
   omega
/-- A row of n booleans in block g. -/
def BRow (w : World) (g n : Nat) (s : Nat → Bool) : Prop := g < w.heap.size ∧ ∀ j, j < n → w.frozen? ⟨g, j, none⟩ = false ∧ w.cell? ⟨g, j, none⟩ = some (.bool (s j))
theorem BRow.store {w : World} {g n k : Nat} {s : Nat → Bool} (h : BRow w g n s) (hk : k < n) : BRow (w.setCell ⟨g, k, none⟩ (.bool true)) g n (putB s k) := by
 obtain ⟨h0, h1⟩ := h
 refine ⟨by simpa [World.setCell] using h0, fun j hj => ⟨by simp [(h1 j hj).1], ?_⟩⟩
 by_cases a : j = k
 ·subst a; rw [putB_same]; exact cs_same (h1 j hj).2
 ·rw [cs_other (by omega), show putB s k j = s j by simp [putB, a]]; exact (h1 j hj).2
theorem BRow.drew {w : World} {g n q : Nat} {s : Nat → Bool} (h : BRow w g n s) : BRow (w.drewN q) g n s := h
theorem BRow.below {w w' : World} {g n : Nat} {s : Nat → Bool} (h : BRow w g n s) (hb : Below w.heap.size w w') : BRow w' g n s :=
 ⟨Nat.lt_of_lt_of_le h.1 hb.size, fun j hj => ⟨by rw [hb.frozen (p := ⟨g, j, none⟩) h.1]; exact (h.2 j hj).1, by rw [hb.cell (p := ⟨g, j, none⟩) h.1]; exact (h.2 j hj).2⟩⟩
theorem BRow.made {w : World} {base g n cap : Nat} {e : TypeId} (h : w.ownsRow base e 1 (.slice (some ⟨g, 0, none⟩) n cap) n (madeCells (Value.bool false).cells (n * 1)).toList) : BRow w g n (fun _ => false) := by
 have hcs : ∀ j, j < n → (madeCells (Value.bool false).cells (n * 1)).toList[j]? = some (.bool false) := fun j hj => by
  rw [show (Value.bool false).cells = #[Value.bool false] from rfl, toList_madeCells_one]
  simp [hj]
 refine ⟨?_, fun j hj => ⟨h.frozenAt j, ?_⟩⟩
 ·rcases h.2 with ⟨e, _⟩ | ⟨g', cap', cur, e, _, hgg, _⟩
  ·cases e
  ·cases e
   exact (Array.getElem?_eq_some_iff.1 hgg).1
 ·have hc := h.cellAt j (by omega)
  rw [hcs j hj] at hc
  exact hc
theorem BRow.bools {w : World} {g n cap : Nat} {s : Nat → Bool} {xs : List Bool} (h : BRow w g n s) (hl : xs.length = n) (hm : n ≤ 9223372036854775807) (he : ∀ i, i < n → s i = bvl xs i) : BoolS w w.heap.size (.slice (some ⟨g, 0, none⟩) n cap) xs := by
 subst hl
 exact ⟨hm, _, cap, rfl, fun hp => ⟨g, rfl, h.1, fun i hi => by rw [(h.2 i hi).2, he i hi]⟩⟩
def isTr : Option Value → Bool
 | some (.bool b) => b
 | _ => false
/-- How many of the row's cells do not hold true. -/
def cntW (w : World) (g n : Nat) : Nat := cntF n (fun j => isTr (w.cell? ⟨g, j, none⟩))
theorem cntF_ext : ∀ {n : Nat} {s t : Nat → Bool}, (∀ j, j < n → s j = t j) → cntF n s = cntF n t
 | 0, _, _, _ => rfl
 | n + 1, s, t, h => by
  unfold cntF
  rw [cntF_ext (n := n) (fun j hj => h j (by omega)), h n (by omega)]
theorem BRow.cnt {w : World} {g n : Nat} {s : Nat → Bool} (h : BRow w g n s) : cntW w g n = cntF n s := cntF_ext fun j hj => by rw [(h.2 j hj).2]; rfl
end Go.Proofs.YtkpfbnffhhmokaaGreat
namespace Go.Proofs.YtkpfbnffhhmokaaGreat
theorem listN_lt (s : List Bool) (m : Nat) : (listN s m).Pairwise (· < ·) := by
 unfold listN
 rw [List.pairwise_map]
 refine List.Pairwise.imp ?_ (List.Pairwise.filter _ List.pairwise_lt_range)
 intro a b h
 exact Int.ofNat_lt.2 h
theorem listN_mem {s : List Bool} {m : Nat} {y : Int} : y ∈ listN s m ↔ ∃ k : Nat, k < m ∧ bvl s k = true ∧ y = (k : Int) := by
 unfold listN
 simp only [List.mem_map, List.mem_filter, List.mem_range]
 constructor
 ·rintro ⟨k, ⟨h1, h2⟩, e⟩
  exact ⟨k, h1, h2, e.symm⟩
 ·rintro ⟨k, h1, h2, e⟩
  exact ⟨k, ⟨h1, h2⟩, e.symm⟩
theorem sorts_to {xs ys : List Int} (nd : xs.Nodup) (hs : ys.Pairwise (· < ·)) (hm : ∀ y, y ∈ xs ↔ y ∈ ys) : xs.mergeSort (fun a b => decide (a ≤ b)) = ys := by
 have ny : ys.Nodup := List.Pairwise.imp (fun h => Int.ne_of_lt h) hs
 have hp : List.Perm (xs.mergeSort (fun a b => decide (a ≤ b))) ys := (List.mergeSort_perm xs _).trans ((List.perm_ext_iff_of_nodup nd ny).2 hm)
 have h1 : (xs.mergeSort (fun a b => decide (a ≤ b))).Pairwise (fun a b : Int => a ≤ b) := by
  have := List.pairwise_mergeSort (le := fun a b : Int => decide (a ≤ b)) (fun a b c h1 h2 => by simp only [decide_eq_true_eq] at *; omega) (fun a b => by simp only [Bool.or_eq_true, decide_eq_true_eq]; omega) xs
  exact this.imp (fun h => by simpa using h)
 have h2 : ys.Pairwise (fun a b : Int => a ≤ b) := hs.imp (fun h => Int.le_of_lt h)
 exact List.Perm.eq_of_pairwise (fun a b _ _ x y => Int.le_antisymm x y) h1 h2 hp
/-- What a search collects, sorted, is the list of the nodes that are marked. -/
theorem listN_sorts {s : List Bool} {m : Nat} {xs : List Int} (nd : xs.Nodup) (hm : ∀ y, y ∈ xs ↔ y ∈ listN s m) : xs.mergeSort (fun a b => decide (a ≤ b)) = listN s m := sorts_to nd (listN_lt s m) hm
open Classical in
/-- A list of nodes without repeats, all of them reached, the start among them and closed under live links, sorts to the list of the nodes that are reached. -/
theorem cone_sorts {L : List LkD} {lv : Nat → Bool} {fw : Bool} {x n : Nat} {xs : List Int} (hx : ((x : Nat) : Int) ∈ xs) (nd : xs.Nodup)
  (hb : ∀ y, y ∈ xs → 0 ≤ y ∧ y < (n : Int)) (hr : ∀ i : Nat, (i : Int) ∈ xs → Rch L lv fw x i)
  (hc : ClosedTo L lv fw (fun i => decide ((i : Int) ∈ xs)) L.length) : xs.mergeSort (fun a b => decide (a ≤ b)) = listN (rchL L lv fw x n) n := by
 refine listN_sorts nd (fun y => ?_)
 have key : ∀ {i : Nat}, i < n → decide ((i : Int) ∈ xs) = bvl (rchL L lv fw x n) i := fun hi =>
  rch_done (s := fun i => decide ((i : Int) ∈ xs)) (by simpa using hx) hc (fun i h => hr i (by simpa using h)) hi
 rw [listN_mem]
 constructor
 ·intro h
  obtain ⟨y0, y1⟩ := hb y h
  obtain ⟨k, rfl⟩ := Int.eq_ofNat_of_zero_le y0
  have hk : k < n := by omega
  exact ⟨k, hk, by rw [← key hk]; simpa using h, rfl⟩
 ·rintro ⟨k, hk, h, rfl⟩
  rw [← key hk] at h
  simpa using h
/-- Numbers below n without repeats are n ones at most: what the outer loop counts down to. -/
theorem nodup_len {n : Nat} {xs : List Int} (nd : xs.Nodup) (hb : ∀ y, y ∈ xs → 0 ≤ y ∧ y < (n : Int)) : xs.length ≤ n := by
 let s : List Bool := (List.range n).map (fun i : Nat => decide ((i : Int) ∈ xs))
 have hs : ∀ {i : Nat}, i < n → bvl s i = decide ((i : Int) ∈ xs) := fun {i} h => by simp [s, bvl, List.getD, h]
 have e : xs.mergeSort (fun a b => decide (a ≤ b)) = listN s n := by
  refine listN_sorts nd (fun y => ?_)
  rw [listN_mem]
  constructor
  ·intro h
   obtain ⟨y0, y1⟩ := hb y h
   obtain ⟨k, rfl⟩ := Int.eq_ofNat_of_zero_le y0
   have hk : k < n := by omega
   exact ⟨k, hk, by rw [hs hk]; simpa using h, rfl⟩
  ·rintro ⟨k, hk, h, rfl⟩
   rw [hs hk] at h
   simpa using h
 have := listN_len s n
 rw [← e, List.length_mergeSort] at this
 exact this
/-- A node that is not in the list yet: the list with it is without repeats. -/
theorem nodup_snoc {xs : List Int} {y : Int} (nd : xs.Nodup) (h : y ∉ xs) : (xs ++ [y]).Nodup := by
 rw [List.nodup_append]
 refine ⟨nd, by simp, ?_⟩
 intro a ha b hb e
 rw [List.mem_singleton] at hb
 exact h (by rw [← hb, ← e]; exact ha)
/-- The live links that start at one of the first i nodes of the list end in the list. -/
def Led (L : List LkD) (lv : Nat → Bool) (fw : Bool) (xs : List Int) (i : Nat) : Prop :=
 ∀ k, k < L.length → lv k = true → ∀ j, j < i → xs.getD j 0 = (if fw then (lkn L k).src else (lkn L k).dst) → (if fw then (lkn L k).dst else (lkn L k).src) ∈ xs
theorem led_zero (L : List LkD) (lv : Nat → Bool) (fw : Bool) (xs : List Int) : Led L lv fw xs 0 := fun _ _ _ j h _ => absurd h (Nat.not_lt_zero j)
theorem led_snoc {L : List LkD} {lv : Nat → Bool} {fw : Bool} {xs : List Int} {i : Nat} (h : Led L lv fw xs i) (hi : i ≤ xs.length) (y : Int) : Led L lv fw (xs ++ [y]) i := by
 intro k hk hl j hj e
 have hg : (xs ++ [y]).getD j 0 = xs.getD j 0 := by
  have : j < xs.length := by omega
  simp [List.getD, List.getElem?_append_left this]
 rw [hg] at e
 exact List.mem_append_left _ (h k hk hl j hj e)
theorem led_step {L : List LkD} {lv : Nat → Bool} {fw : Bool} {xs : List Int} {i : Nat} (h : Led L lv fw xs i)
  (hs : ∀ k, k < L.length → lv k = true → xs.getD i 0 = (if fw then (lkn L k).src else (lkn L k).dst) → (if fw then (lkn L k).dst else (lkn L k).src) ∈ xs) : Led L lv fw xs (i + 1) := by
 intro k hk hl j hj e
 by_cases c : j = i
 ·subst c
  exact hs k hk hl e
 ·exact h k hk hl j (by omega) e
theorem led_done {L : List LkD} {lv : Nat → Bool} {fw : Bool} {xs : List Int} (h : Led L lv fw xs xs.length)
  (hE : ∀ k, k < L.length → 0 ≤ (lkn L k).src ∧ 0 ≤ (lkn L k).dst) : ClosedTo L lv fw (fun i => decide ((i : Int) ∈ xs)) L.length := by
 intro k hk hl hs
 obtain ⟨e1, e2⟩ := hE k hk
 simp only [decide_eq_true_eq] at hs ⊢
 have t1 : (((if fw then (lkn L k).src else (lkn L k).dst).toNat : Nat) : Int) = (if fw then (lkn L k).src else (lkn L k).dst) := by
  cases fw <;> simp <;> omega
 have t2 : (((if fw then (lkn L k).dst else (lkn L k).src).toNat : Nat) : Int) = (if fw then (lkn L k).dst else (lkn L k).src) := by
  cases fw <;> simp <;> omega
 rw [t1] at hs
 rw [t2]
 obtain ⟨j, hj, e⟩ := List.getElem_of_mem hs
 exact h k hk hl j hj (by simp [List.getD, hj, e])
end Go.Proofs.YtkpfbnffhhmokaaGreat
