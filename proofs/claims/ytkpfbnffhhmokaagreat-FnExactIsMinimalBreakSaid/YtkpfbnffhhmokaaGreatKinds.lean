/-
The numbers of arcs of each kind, and what the program's kinds of cells ask.
-/
import Derived.Test.YtkpfbnffhhmokaaGreatArcI
import Derived.Stop.Asserts
import Derived.ChangeKeysEq
namespace Go.Proofs.YtkpfbnffhhmokaaGreat
open Go.ChangeShapes Go.WideShapes Go.ChangeAt Go.RowKit
set_option linter.unusedVariables false
set_option linter.unusedSimpArgs false
/-- How many of the first k arcs have kind q. -/
def cnt (ts : List ArcD) (q : Nat) : Nat → Nat
 | 0 => 0
 | k + 1 => cnt ts q k + if (an ts k).kind = (q : Int) then 1 else 0
theorem cnt_le (ts : List ArcD) (q : Nat) : ∀ k, cnt ts q k ≤ k
 | 0 => Nat.le_refl _
 | k + 1 => by
  have := cnt_le ts q k
  unfold cnt
  split <;> omega
theorem cnt_hit {ts : List ArcD} {k q : Nat} (h : (an ts k).kind = (q : Int)) : cnt ts q (k + 1) = cnt ts q k + 1 := by
 show cnt ts q k + (if (an ts k).kind = (q : Int) then 1 else 0) = _
 rw [if_pos h]
theorem cnt_miss {ts : List ArcD} {k q : Nat} (h : ¬ (an ts k).kind = (q : Int)) : cnt ts q (k + 1) = cnt ts q k := by
 show cnt ts q k + (if (an ts k).kind = (q : Int) then 1 else 0) = _
 rw [if_neg h]
 rfl
theorem sArc_kind {ps : List PinD} {a : ArcD} (h : sArc ps a = true) : 1 ≤ a.kind ∧ a.kind ≤ 5 := by
 unfold sArc at h
 by_cases k1 : a.kind = 1
 ·omega
 ·by_cases k2 : a.kind = 2
  ·omega
  ·by_cases k3 : a.kind = 3
   ·omega
   ·by_cases k4 : a.kind = 4
    ·omega
    ·by_cases k5 : a.kind = 5
     ·omega
     ·rw [kB_no k1 k2 k3 k4 k5] at h
      simp at h
/-- Six cells, not frozen, that hold the numbers of the first k arcs of each kind. -/
def Cnt (w : World) (g : Nat) (ts : List ArcD) (k : Nat) : Prop := ∀ q, q < 6 → w.cell? ⟨g, q, none⟩ = some (.int .i64 (cnt ts q k : Int)) ∧ w.frozen? ⟨g, q, none⟩ = false
theorem Cnt.keep {w w' : World} {g k : Nat} {ts : List ArcD} (h : Cnt w g ts k) (hb : Below w.heap.size w w') : Cnt w' g ts k := fun q hq =>
 ⟨cell_keep (h q hq).1 hb, by rw [hb.frozen (by exact cell_lt (h q hq).1)]; exact (h q hq).2⟩
theorem Cnt.store {w : World} {g k κ : Nat} {ts : List ArcD} (h : Cnt w g ts k) (hκ : κ < 6) (e : (an ts k).kind = (κ : Int)) : Cnt (w.setCell ⟨g, κ, none⟩ (.int .i64 ((cnt ts κ k : Int) + 1))) g ts (k + 1) := by
 intro q hq
 refine ⟨?_, by simp [(h q hq).2]⟩
 by_cases a : q = κ
 ·subst a
  rw [cs_same (h q hq).1, cnt_hit e]
  simp
 ·rw [cs_other (fun x => a x.symm), (h q hq).1, cnt_miss (by omega)]
/-- Six cells, not frozen, of zeros. -/
def Zer (w : World) (g : Nat) : Prop := ∀ q, q < 6 → w.cell? ⟨g, q, none⟩ = some (.int .i64 0) ∧ w.frozen? ⟨g, q, none⟩ = false
theorem Zer.keep {w w' : World} {g : Nat} (h : Zer w g) (hb : Below w.heap.size w w') : Zer w' g := fun q hq =>
 ⟨cell_keep (h q hq).1 hb, by rw [hb.frozen (by exact cell_lt (h q hq).1)]; exact (h q hq).2⟩
theorem Zer.set {w : World} {g : Nat} (h : Zer w g) {p : Addr} (hp : p.block ≠ g) (v : Value) : Zer (w.setCell p v) g := fun q hq =>
 ⟨by rw [World.cell?_setCell_other _ _ _ _ (fun hc => hp (by rw [hc]))]; exact (h q hq).1, by simp [(h q hq).2]⟩
def KindsP (ts : List ArcD) (w : World) (e : Ending) (w' : World) : Prop := ∃ g cap, e = .returned (.slice (some ⟨g, 0, none⟩) 6 cap) ∧ Cnt w' g ts ts.length ∧ Below w.heap.size w w'
set_option maxHeartbeats 2000000 in
theorem specKinds_any (f : Nat → Value) (c : CellD) (w : World) (h : CellF w w.heap.size f c) (hm : c.arcs.length ≤ 8) (hk : ∀ i, i < c.arcs.length → 1 ≤ (an c.arcs i).kind ∧ (an c.arcs i).kind ≤ 5) :
  Calls Tryz.prog 195 #[.agg #[f 0, f 1, f 2, f 3, f 4, f 5, f 6]] w (KindsP c.arcs w) := by
 obtain ⟨i0, hi, hz0, hz1, hz2⟩ := info_parts Tryz.infoInt
 obtain ⟨ts, hts⟩ : ∃ ts, ts = c.arcs := ⟨_, rfl⟩
 obtain ⟨e0, e1, x2, x3, x4, e5, e6, hsz⟩ := h
 obtain ⟨p2, q2, e2⟩ := x2.slice; obtain ⟨p4, q4, e4⟩ := x4.slice
 rw [← hts] at x3 hm hk ⊢
 obtain ⟨F, hc, hf⟩ := x3
 obtain ⟨n, hnn⟩ : ∃ n, n = ts.length := ⟨_, rfl⟩
 rw [← hnn] at hc hf hm hk
 have HN := lh hnn
 have HC := hc
 obtain ⟨hn, a, cap, e3, _⟩ := hc
 rw [e3] at HC
 rw [e0, e1, e2, e3, e4, e5, e6]
 have HC := lh HC; have HF := lh hf; have HK := lh hk
 clear hf hk hnn e0 e1 e2 e3 e4 e5 e6 x2 x4 hts hsz
 go_enter Tryz.func195, Tryz.ntmps195
 go_wp2_with (at_make; refine wpList_make_full _ rfl _ _ 33 rfl (w.heap.size + 1) 2 i0 (.int .i64 0) 1 Tryz.underlying33 hi hz0 hz1 .i64 .i64 _ _ 6 rfl rfl rfl rfl (by rw [hz2]; omega) (by unfold maxLen; omega) (by simp) ?_; intro w0 hown0 hgrow0; have hb0 := below_grown hgrow0; clear hgrow0)
 have hs1 : (w.alloc (Obj.cells #[.string c.name, .int .i64 c.kind, .slice p2 c.pins.length q2, .slice a n cap, .slice p4 c.truth.length q4, .int .i64 c.leak, .int .i64 c.energy] 124)).heap.size = w.heap.size + 1 := by simp
 rw [hs1] at hown0
 have hr0 : Cnt w0 (w.heap.size + 1) ts 0 := by
  intro q hq
  refine ⟨?_, hown0.frozenAt q⟩
  have h1 := hown0.cellAt q (by simpa using hq)
  obtain rfl | rfl | rfl | rfl | rfl | rfl : q = 0 ∨ q = 1 ∨ q = 2 ∨ q = 3 ∨ q = 4 ∨ q = 5 := by omega
  all_goals exact h1.trans (by simp [madeCells, Value.cells, cnt])
 clear hown0
 have hB := ext_trans ((Below.refl w.heap.size w).alloc (Nat.le_refl _) (Obj.cells #[.string c.name, .int .i64 c.kind, .slice p2 c.pins.length q2, .slice a n cap, .slice p4 c.truth.length q4, .int .i64 c.leak, .int .i64 c.energy] 124)) hb0
 have r3 : w0.cell? ⟨w.heap.size, 3, none⟩ = some (.slice a n cap) := cell_keep (w0 := w.alloc (Obj.cells #[.string c.name, .int .i64 c.kind, .slice p2 c.pins.length q2, .slice a n cap, .slice p4 c.truth.length q4, .int .i64 c.leak, .int .i64 c.energy] 124)) (by simp [go_sem]) hb0
 clear hb0
 go_loopw [4] (fun i wr => ∃ k : Nat, k ≤ n ∧ i = .int .i64 k ∧ Hid (Cnt wr (w.heap.size + 1) ts k) ∧ wr.cell? ⟨w.heap.size, 3, none⟩ = some (.slice a n cap) ∧ Below w.heap.size w wr) (fun i _ => n - (intOf i).toNat)
 case atStart => exact ⟨0, by omega, rfl, lh hr0, r3, hB⟩
 case round =>
  clear hr0 hB r3
  obtain ⟨k, hk, rfl, hr, r3, hbw⟩ := hrel
  by_cases hkn : k < n
  ·obtain ⟨b, off, rfl, hlt, hx⟩ := HC.out.at hbw hkn
   have y0 := hx 0 (by omega)
   simp only [Nat.add_zero] at y0
   rw [(HF.out k hkn).1] at y0
   have ⟨k1, k5⟩ := HK.out k hkn
   obtain ⟨κ, hκ⟩ := Int.eq_ofNat_of_zero_le (show 0 ≤ (an ts k).kind by omega)
   rw [hκ] at y0
   have hc1 := hr.out κ (by omega)
   have hlt0 := cell_lt hc1.1
   have hle := cnt_le ts κ k
   have κI : (κ : Int) < 6 := by omega
   have hI : (k : Int) < (n : Int) := by omega
   have i0 : (0 : Int) ≤ (k : Int) := by omega
   have HR := lh (hr.out.store (show κ < 6 by omega) hκ)
   have s0 := hc1.1
   have f0 := hc1.2
   have r3' : (wr.setCell ⟨w.heap.size + 1, κ, none⟩ (.int .i64 ((cnt ts κ k : Int) + 1))).cell? ⟨w.heap.size, 3, none⟩ = some (.slice (some ⟨b, off, none⟩) n cap) := cell_keep_set r3 (by show _ < w.heap.size + 1; omega)
   have R3 := lh r3'
   clear hx hc1 k1 k5 hκ r3'
   go_wp2
   go_roundw
   case rel => exact ⟨k + 1, by omega, by go_num, HR, R3.out, eX⟩
   case measure => simp [intOf]; omega
  ·obtain rfl : k = n := by omega
   have hI : ¬ (k : Int) < (k : Int) := by omega
   go_wp2
   go_ret
   exact ⟨_, _, rfl, by rw [← HN.out]; exact hr.out, hbw⟩
set_option maxHeartbeats 2000000 in
theorem countArcs_any (v : Value) (ts : List ArcD) (w : World) (h : ArcsS w w.heap.size v ts) (hm : ts.length ≤ 8) (hk : ∀ i, i < ts.length → 1 ≤ (an ts i).kind ∧ (an ts i).kind ≤ 5) :
  Calls Tryz.prog 204 #[v] w fun e w' => e = .returned (.agg #[.int .i64 (cnt ts 0 ts.length : Int), .int .i64 (cnt ts 1 ts.length : Int), .int .i64 (cnt ts 2 ts.length : Int), .int .i64 (cnt ts 3 ts.length : Int), .int .i64 (cnt ts 4 ts.length : Int), .int .i64 (cnt ts 5 ts.length : Int)]) ∧ Below w.heap.size w w' := by
 obtain ⟨F, hc, hf⟩ := h
 obtain ⟨n, hnn⟩ : ∃ n, n = ts.length := ⟨_, rfl⟩
 rw [← hnn] at hc hf hm hk ⊢
 have HC := hc
 obtain ⟨hn, a, cap, rfl, _⟩ := hc
 have HC := lh HC; have HF := lh hf; have HK := lh hk
 clear hf hk hnn
 go_enter Tryz.func204, Tryz.ntmps204
 go_wp2
 go_loopw [8] (fun i wr => ∃ k : Nat, k ≤ n ∧ i = .int .i64 k ∧ Hid (Cnt wr (w.heap.size + 1) ts k) ∧ Hid (Zer wr w.heap.size) ∧ Below w.heap.size w wr) (fun i _ => n - (intOf i).toNat)
 case atStart =>
  refine ⟨0, by omega, rfl, lh ?_, lh ?_, eX⟩
  ·intro q hq
   obtain rfl | rfl | rfl | rfl | rfl | rfl : q = 0 ∨ q = 1 ∨ q = 2 ∨ q = 3 ∨ q = 4 ∨ q = 5 := by omega
   all_goals exact ⟨by simp [go_sem, cnt], by simp [go_sem]⟩
  ·intro q hq
   obtain rfl | rfl | rfl | rfl | rfl | rfl : q = 0 ∨ q = 1 ∨ q = 2 ∨ q = 3 ∨ q = 4 ∨ q = 5 := by omega
   all_goals exact ⟨by simp [go_sem], by simp [go_sem]⟩
 case round =>
  obtain ⟨k, hk, rfl, hr, hz, hbw⟩ := hrel
  by_cases hkn : k < n
  ·obtain ⟨b, off, rfl, hlt, hx⟩ := HC.out.at hbw hkn
   have y0 := hx 0 (by omega); have y1 := hx 1 (by omega); have y2 := hx 2 (by omega); have y3 := hx 3 (by omega); have y4 := hx 4 (by omega); have y5 := hx 5 (by omega)
   simp only [Nat.add_zero] at y0
   have ⟨e0, e1, e2, e3, x4, x5⟩ := (HF.out k hkn).up hbw
   obtain ⟨p4, q4, e4⟩ := x4.slice; obtain ⟨p5, q5, e5⟩ := x5.slice
   rw [e0] at y0; rw [e1] at y1; rw [e2] at y2; rw [e3] at y3; rw [e4] at y4; rw [e5] at y5
   have ⟨k1, k5⟩ := HK.out k hkn
   obtain ⟨κ, hκ⟩ := Int.eq_ofNat_of_zero_le (show 0 ≤ (an ts k).kind by omega)
   rw [hκ] at y0
   have hc1 := hr.out κ (by omega)
   have hlt0 := cell_lt hc1.1
   have hle := cnt_le ts κ k
   have κI : (κ : Int) < 6 := by omega
   have hI : (k : Int) < (n : Int) := by omega
   have i0 : (0 : Int) ≤ (k : Int) := by omega
   have HR := hr.out.store (show κ < 6 by omega) hκ
   have HZ := hz.out.set (p := ⟨w.heap.size + 1, κ, none⟩) (by show w.heap.size + 1 ≠ w.heap.size; omega) (.int .i64 ((cnt ts κ k : Int) + 1))
   have HR := lh HR; have HZ := lh HZ
   have s0 := hc1.1
   have f0 := hc1.2
   clear hx e0 e1 e2 e3 e4 e5 x4 x5 hc1 k1 k5 hκ
   go_wp2
   go_roundw
   case rel => exact ⟨k + 1, by omega, by go_num, lh (HR.out.keep eX), lh (HZ.out.keep eX), eX⟩
   case measure => simp [intOf]; omega
  ·obtain rfl : k = n := by omega
   have hI : ¬ (k : Int) < (k : Int) := by omega
   have c0 := (hr.out 0 (by omega)).1; have c1 := (hr.out 1 (by omega)).1; have c2 := (hr.out 2 (by omega)).1; have c3 := (hr.out 3 (by omega)).1; have c4 := (hr.out 4 (by omega)).1; have c5 := (hr.out 5 (by omega)).1
   have z0 := hz.out 0 (by omega); have z1 := hz.out 1 (by omega); have z2 := hz.out 2 (by omega); have z3 := hz.out 3 (by omega); have z4 := hz.out 4 (by omega); have z5 := hz.out 5 (by omega)
   obtain ⟨d0, g0⟩ := z0; obtain ⟨d1, g1⟩ := z1; obtain ⟨d2, g2⟩ := z2; obtain ⟨d3, g3⟩ := z3; obtain ⟨d4, g4⟩ := z4; obtain ⟨d5, g5⟩ := z5
   have hs0 := cell_lt d0
   go_wp2
   exact bodyPost_ret (v := .agg #[.int .i64 (cnt ts 0 k : Int), .int .i64 (cnt ts 1 k : Int), .int .i64 (cnt ts 2 k : Int), .int .i64 (cnt ts 3 k : Int), .int .i64 (cnt ts 4 k : Int), .int .i64 (cnt ts 5 k : Int)]) (by simp [results, Tryz.results204, go_sem, *]) rfl ⟨rfl, eX⟩
def kindI (q : Int) : Value := if q = 1 then .iface 290 (.agg #[]) else if q = 2 then .iface 291 (.agg #[]) else if q = 3 then .iface 292 (.agg #[]) else .nilIface
def kindK (q : Int) : Bool := decide (q = 1) || decide (q = 2) || decide (q = 3)
theorem kindOfCell_any (q : Int) (w : World) : Calls Tryz.prog 196 #[.int .i64 q] w fun e w' => e = .returned (.tuple #[kindI q, .bool (kindK q)]) ∧ w' = w := by
 unfold kindI kindK
 by_cases k1 : q = 1
 ·subst k1
  go_enter Tryz.func196, Tryz.ntmps196
  go_wp2
  exact bodyPost_ret (v := .tuple #[.iface 290 (.agg #[]), .bool true]) (by simp [results, Tryz.results196, go_sem]) rfl ⟨rfl, rfl⟩
 ·by_cases k2 : q = 2
  ·subst k2
   go_enter Tryz.func196, Tryz.ntmps196
   go_wp2
   exact bodyPost_ret (v := .tuple #[.iface 291 (.agg #[]), .bool true]) (by simp [results, Tryz.results196, go_sem]) rfl ⟨rfl, rfl⟩
  ·by_cases k3 : q = 3
   ·subst k3
    go_enter Tryz.func196, Tryz.ntmps196
    go_wp2
    exact bodyPost_ret (v := .tuple #[.iface 292 (.agg #[]), .bool true]) (by simp [results, Tryz.results196, go_sem]) rfl ⟨rfl, rfl⟩
   ·have m1 : (q == 1) = false := by simpa using k1
    have m2 : (q == 2) = false := by simpa using k2
    have m3 : (q == 3) = false := by simpa using k3
    rw [if_neg k1, if_neg k2, if_neg k3, decide_eq_false k1, decide_eq_false k2, decide_eq_false k3]
    go_enter Tryz.func196, Tryz.ntmps196
    go_wp2
    exact bodyPost_ret (v := .tuple #[.nilIface, .bool false]) (by simp [results, Tryz.results196, go_sem]) rfl ⟨rfl, rfl⟩
section
variable {P : Program} {w : World} {t xT asserted : TypeId} {v z : Value} {fs : Array Field} {j : TypeInfo}
theorem run_assert_same (hu : P.underlying asserted = some (.struct fs)) : (Instr.typeAssert (.iface asserted v) xT asserted true).run P w = .ok (.tuple #[v, .bool true]) w := by
 simp [Instr.typeAssert, run_underlying hu]
theorem run_assert_other (hu : P.underlying asserted = some (.struct fs)) (hz : (P.info? asserted).map (·.zero) = some (some z)) (hne : ¬ t = asserted) : (Instr.typeAssert (.iface t v) xT asserted true).run P w = .ok (.tuple #[z, .bool false]) w := by
 obtain ⟨j, hj, hz'⟩ := Option.map_eq_some_iff.1 hz
 simp [Instr.typeAssert, run_underlying hu, hne, zeroValue, hj, hz', typeInfo]
end
theorem eq6_same (c1 : Int) (W : World) : (Op.equalIn 10000 280 (.agg #[.int .i64 0, .int .i64 c1, .int .i64 0, .int .i64 0, .int .i64 0, .int .i64 0]) (.agg #[.int .i64 0, .int .i64 c1, .int .i64 0, .int .i64 0, .int .i64 0, .int .i64 0])).run Tryz.prog W = .ok true W := by
 obtain ⟨i0, hi, hz0, hz1, hz2⟩ := info_parts (show (Tryz.prog.info? 3).map (fun i => (i.zero, i.size, i.bytes)) = some (some (.int .i64 0), 1, 8) by kernel_rfl)
 rw [show (10000 : Nat) = 9999 + 1 from rfl, run_equalIn_array _ 9999 _ _ Tryz.underlying280 hi]
 have hc : Tryz.prog.cellsOf 3 = 1 := by kernel_rfl
 rw [hc]
 have hI : ∀ (a b : Int) (w : World), (Op.equalIn 9999 3 (.int .i64 a) (.int .i64 b)).run Tryz.prog w = .ok (a == b) w := fun a b w => run_equalIn_int w 9998 _ .i64 .i64 a b Tryz.underlying3
 rw [show List.range 6 = [0, 1, 2, 3, 4, 5] from rfl]
 simp [Op.eqItems, part, hI, go_sem]
set_option maxRecDepth 100000 in
set_option maxHeartbeats 4000000 in
/-- A gate's arcs, none of which is of another kind than the first. -/
theorem suitGate_any (c1 : Nat) (w : World) : Calls Tryz.prog 203 #[.iface 290 (.agg #[]), .agg #[.int .i64 0, .int .i64 (c1 : Int), .int .i64 0, .int .i64 0, .int .i64 0, .int .i64 0]] w fun e w' => e = .returned (.bool true) ∧ Below w.heap.size w w' := by
 have a0 : ∀ W, (Instr.typeAssert (.iface 290 (.agg #[])) 269 290 true).run Tryz.prog W = .ok (.tuple #[.agg #[], .bool true]) W := fun W => run_assert_same Tryz.underlying290
 have a1 := eq6_same (c1 : Int)
 go_enter Tryz.func203, Tryz.ntmps203
 go_wp2
 go_ret
 exact ⟨rfl, eX⟩
def flopB (c1 c2 c3 : Nat) : Bool := ((c1 : Int) == 0) && (decide (0 < c2) != decide (0 < c3))
set_option maxRecDepth 100000 in
set_option maxHeartbeats 4000000 in
theorem suitFlop_any (c0 c1 c2 c3 c4 c5 : Nat) (w : World) : Calls Tryz.prog 203 #[.iface 291 (.agg #[]), .agg #[.int .i64 (c0 : Int), .int .i64 (c1 : Int), .int .i64 (c2 : Int), .int .i64 (c3 : Int), .int .i64 (c4 : Int), .int .i64 (c5 : Int)]] w fun e w' => e = .returned (.bool (flopB c1 c2 c3)) ∧ Below w.heap.size w w' := by
 have a0 : ∀ W, (Instr.typeAssert (.iface 291 (.agg #[])) 269 290 true).run Tryz.prog W = .ok (.tuple #[.agg #[], .bool false]) W := fun W => run_assert_other Tryz.underlying290 (by kernel_rfl) (by decide)
 have a1 : ∀ W, (Instr.typeAssert (.iface 291 (.agg #[])) 269 291 true).run Tryz.prog W = .ok (.tuple #[.agg #[], .bool true]) W := fun W => run_assert_same Tryz.underlying291
 unfold flopB
 cases h1 : ((c1 : Int) == 0)
 ·go_enter Tryz.func203, Tryz.ntmps203
  go_wp2
  go_ret
  exact ⟨by first | rfl | (simp [*]; done), eX⟩
 ·cases h2 : decide (0 < c2) <;> cases h3 : decide (0 < c3)
  all_goals
   go_enter Tryz.func203, Tryz.ntmps203
   go_wp2
   go_ret
   exact ⟨by first | rfl | (simp [*]; done), eX⟩
def latchB (c1 c2 c3 : Nat) : Bool := decide (0 < c1) && decide (0 < c2) && ((c3 : Int) == 0)
set_option maxRecDepth 100000 in
set_option maxHeartbeats 4000000 in
theorem suitLatch_any (c0 c1 c2 c3 c4 c5 : Nat) (w : World) : Calls Tryz.prog 203 #[.iface 292 (.agg #[]), .agg #[.int .i64 (c0 : Int), .int .i64 (c1 : Int), .int .i64 (c2 : Int), .int .i64 (c3 : Int), .int .i64 (c4 : Int), .int .i64 (c5 : Int)]] w fun e w' => e = .returned (.bool (latchB c1 c2 c3)) ∧ Below w.heap.size w w' := by
 have a0 : ∀ W, (Instr.typeAssert (.iface 292 (.agg #[])) 269 290 true).run Tryz.prog W = .ok (.tuple #[.agg #[], .bool false]) W := fun W => run_assert_other Tryz.underlying290 (by kernel_rfl) (by decide)
 have a1 : ∀ W, (Instr.typeAssert (.iface 292 (.agg #[])) 269 291 true).run Tryz.prog W = .ok (.tuple #[.agg #[], .bool false]) W := fun W => run_assert_other Tryz.underlying291 (by kernel_rfl) (by decide)
 have a2 : ∀ W, (Instr.typeAssert (.iface 292 (.agg #[])) 269 292 true).run Tryz.prog W = .ok (.tuple #[.agg #[], .bool true]) W := fun W => run_assert_same Tryz.underlying292
 unfold latchB
 cases h1 : decide (0 < c1)
 ·go_enter Tryz.func203, Tryz.ntmps203
  go_wp2
  go_ret
  exact ⟨by first | rfl | (simp [*]; done), eX⟩
 ·cases h2 : decide (0 < c2)
  ·go_enter Tryz.func203, Tryz.ntmps203
   go_wp2
   go_ret
   exact ⟨by first | rfl | (simp [*]; done), eX⟩
  ·cases h3 : ((c3 : Int) == 0)
   all_goals
    go_enter Tryz.func203, Tryz.ntmps203
    go_wp2
    go_ret
    exact ⟨by first | rfl | (simp [*]; done), eX⟩
theorem gatePins_any (w : World) : Calls Tryz.prog 267 #[.agg #[]] w fun e w' => e = .returned (.int .i64 0) ∧ Below w.heap.size w w' := by
 go_enter Tryz.func267, Tryz.ntmps267
 go_wp2
 go_ret
 exact ⟨rfl, eX⟩
theorem flopPins_any (w : World) : Calls Tryz.prog 269 #[.agg #[]] w fun e w' => e = .returned (.int .i64 1) ∧ Below w.heap.size w w' := by
 go_enter Tryz.func269, Tryz.ntmps269
 go_wp2
 go_ret
 exact ⟨rfl, eX⟩
theorem latchPins_any (w : World) : Calls Tryz.prog 271 #[.agg #[]] w fun e w' => e = .returned (.int .i64 1) ∧ Below w.heap.size w w' := by
 go_enter Tryz.func271, Tryz.ntmps271
 go_wp2
 go_ret
 exact ⟨rfl, eX⟩
theorem flopSize_any (x : Int) (w : World) : Calls Tryz.prog 270 #[.agg #[], .int .i64 x] w fun e w' => e = .returned (.int .i64 0) ∧ Below w.heap.size w w' := by
 go_enter Tryz.func270, Tryz.ntmps270
 go_wp2
 go_ret
 exact ⟨rfl, eX⟩
theorem latchSize_any (x : Int) (w : World) : Calls Tryz.prog 272 #[.agg #[], .int .i64 x] w fun e w' => e = .returned (.int .i64 0) ∧ Below w.heap.size w w' := by
 go_enter Tryz.func272, Tryz.ntmps272
 go_wp2
 go_ret
 exact ⟨rfl, eX⟩
theorem gateSize_any (x : Nat) (w : World) (h0 : 1 ≤ x) (h1 : x ≤ 4) : Calls Tryz.prog 268 #[.agg #[], .int .i64 (x : Int)] w fun e w' => e = .returned (.int .i64 ((2 ^ x : Nat) : Int)) ∧ Below w.heap.size w w' := by
 obtain rfl | rfl | rfl | rfl : x = 1 ∨ x = 2 ∨ x = 3 ∨ x = 4 := by omega
 all_goals
  go_enter Tryz.func268, Tryz.ntmps268
  go_wp2
  go_ret
  exact ⟨rfl, eX⟩
theorem bit_any (x : Int) (w : World) : Calls Tryz.prog 218 #[.int .i64 x] w fun e w' => e = .returned (.bool (!inB x 0 1)) ∧ w' = w := by
 cases h : inB x 0 1
 all_goals
  go_enter Tryz.func218, Tryz.ntmps218
  go_wp2_with (go_at_call 106; refine (inRange_any _ _ _ _).mono ?_; rintro e w' ⟨rfl, hw'⟩; rw [hw']; clear hw' w')
  go_ret
  exact ⟨rfl, rfl⟩
set_option maxHeartbeats 2000000 in
theorem bitsF_any (v : Value) (xs : List Int) (w : World) (h : IntS w w.heap.size v xs) :
  Calls Tryz.prog 187 #[v, .func (.func 218) #[] #[]] w fun e w' => e = .returned (.int .i64 (ix (fun i => !inB (iv xs i) 0 1) xs.length)) ∧ w' = w := by
 obtain ⟨hn, a, cap, rfl, hx0⟩ := h
 obtain ⟨n, hnn⟩ : ∃ n, n = xs.length := ⟨_, rfl⟩
 rw [← hnn] at hn hx0 ⊢
 have HX := lh hx0
 clear hx0 hnn
 go_enter Tryz.func187, Tryz.ntmps187
 go_wp2
 go_loopw [5, 8] (fun _ i wr => ∃ k : Nat, k ≤ n ∧ i = .int .i64 k ∧ Hid (∀ j, j < k → (!inB (iv xs j) 0 1) = false) ∧ wr = w) (fun _ i _ => n - (intOf i).toNat)
 case atStart => exact ⟨0, by omega, rfl, lh (fun j hj => absurd hj (Nat.not_lt_zero j)), rfl⟩
 case round =>
  obtain ⟨k, hk, rfl, hall, rfl⟩ := hrel
  by_cases hkn : k < n
  ·obtain ⟨b, off, rfl, hlt, hx⟩ := HX.out (by omega)
   have y0 := hx k hkn
   have hI : (k : Int) < (n : Int) := by omega
   have i0 : (0 : Int) ≤ (k : Int) := by omega
   clear hx
   cases hd : (!inB (iv xs k) 0 1)
   ·have hok := lh (all_more hall.out hd)
    have hB := lh (bit_any (iv xs k) wr)
    rw [hd] at hB
    clear hd
    go_wp2_with (go_at_call 218; refine hB.out.mono ?_; rintro e w' ⟨rfl, hw'⟩; rw [hw']; clear hw' w')
    go_roundw
    case rel => exact ⟨k + 1, by omega, by go_num, hok, by first | rfl | trivial⟩
    case measure => simp [intOf]; omega
   ·have hok := lh (ix_at (q := fun i => !inB (iv xs i) 0 1) hkn hd hall.out)
    have hB := lh (bit_any (iv xs k) wr)
    rw [hd] at hB
    clear hd
    go_wp2_with (go_at_call 218; refine hB.out.mono ?_; rintro e w' ⟨rfl, hw'⟩; rw [hw']; clear hw' w')
    rw [hok.out]
    go_ret
    exact ⟨rfl, rfl⟩
  ·obtain rfl : k = n := by omega
   have hok := lh (ix_none (q := fun i => !inB (iv xs i) 0 1) hall.out)
   have hI : ¬ (k : Int) < (k : Int) := by omega
   go_wp2
   rw [hok.out]
   go_ret
   exact ⟨rfl, rfl⟩
def bitsB (xs : List Int) : Bool := allB (fun i => inB (iv xs i) 0 1) xs.length
theorem ix_bits (xs : List Int) : decide (0 ≤ ix (fun i => !inB (iv xs i) 0 1) xs.length) = !bitsB xs := by
 unfold bitsB
 rcases first_or (fun i => !inB (iv xs i) 0 1) xs.length with ⟨k, h1, h2, h3⟩ | h
 ·rw [ix_at h1 h2 h3, allB_no (p := fun i => inB (iv xs i) 0 1) h1 (by simpa using h2)]
  simp
 ·rw [ix_none h, allB_yes (p := fun i => inB (iv xs i) 0 1) (fun i hi => by simpa using h i hi)]
  rfl
theorem bitsC_any (v : Value) (xs : List Int) (w : World) (h : IntS w w.heap.size v xs) :
  Calls Tryz.prog 153 #[v, .func (.func 218) #[] #[]] w fun e w' => e = .returned (.bool (!bitsB xs)) ∧ w' = w := by
 have H := lh (bitsF_any v xs w h)
 have e := ix_bits xs
 obtain ⟨X, hX⟩ : ∃ X, X = ix (fun i => !inB (iv xs i) 0 1) xs.length := ⟨_, rfl⟩
 rw [← hX] at H e
 rw [← e]
 clear hX e
 go_enter Tryz.func153, Tryz.ntmps153
 go_wp2_with (go_at_call 187; refine H.out.mono ?_; rintro e w' ⟨rfl, hw'⟩; rw [hw']; clear hw' w')
 go_ret
 exact ⟨rfl, rfl⟩
theorem areBits_any (v : Value) (xs : List Int) (m : Int) (w : World) (h : IntS w w.heap.size v xs) :
  Calls Tryz.prog 201 #[v, .int .i64 m] w fun e w' => e = .returned (.bool (((xs.length : Int) == m) && bitsB xs)) ∧ w' = w := by
 have H := lh (bitsC_any v xs w h)
 obtain ⟨p, q, rfl⟩ := h.slice
 clear h
 cases hm : ((xs.length : Int) == m)
 ·go_enter Tryz.func201, Tryz.ntmps201
  go_wp2
  go_ret
  exact ⟨rfl, rfl⟩
 ·cases hb : bitsB xs
  ·rw [hb] at H
   go_enter Tryz.func201, Tryz.ntmps201
   go_wp2_with (go_at_call 153; refine H.out.mono ?_; rintro e w' ⟨rfl, hw'⟩; rw [hw']; clear hw' w')
   go_ret
   exact ⟨rfl, rfl⟩
  ·rw [hb] at H
   go_enter Tryz.func201, Tryz.ntmps201
   go_wp2_with (go_at_call 153; refine H.out.mono ?_; rintro e w' ⟨rfl, hw'⟩; rw [hw']; clear hw' w')
   go_ret
   exact ⟨rfl, rfl⟩
end Go.Proofs.YtkpfbnffhhmokaaGreat
