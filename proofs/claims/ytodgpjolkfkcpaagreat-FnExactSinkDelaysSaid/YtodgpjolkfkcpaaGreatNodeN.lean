/-
The program's nodes of a net of a block, with their loads; whether a list has an index.
-/
import Derived.Test.YtodgpjolkfkcpaaGreatNode
import Derived.Test.YtodgpjolkfkcpaaGreatBlkC
import Derived.StillTailTactics
import Derived.Test.YtodgpjolkfkcpaaGreatClone
import Derived.Test.YtodgpjolkfkcpaaGreatNetH
namespace Go.Proofs.YtodgpjolkfkcpaaGreat
open Go.ChangeShapes Go.WideShapes Go.ChangeAt Go.RowKit Go.Deep
set_option linter.unusedVariables false
set_option linter.unusedSimpArgs false
set_option maxRecDepth 100000
def blkCode (z : BlkD) (x : Int) : Int := if blkB z then (if inB x 0 ((z.wires.length : Int) - 1) then 0 else 2) else 1
theorem code_cases (z : BlkD) (x : Int) : (blkCode z x = 1 ∧ blkB z = false) ∨ (blkCode z x = 2 ∧ blkB z = true ∧ inB x 0 ((z.wires.length : Int) - 1) = false) ∨ (blkCode z x = 0 ∧ blkB z = true ∧ ∃ k : Nat, x = (k : Int) ∧ k < z.wires.length) := by
  unfold blkCode
  cases h : blkB z
  · exact .inl ⟨by simp, rfl⟩
  · cases h1 : inB x 0 ((z.wires.length : Int) - 1)
    · exact .inr (.inl ⟨by simp, rfl, rfl⟩)
    · have ⟨a, b⟩ := inB_get h1
      obtain ⟨k, rfl⟩ := Int.eq_ofNat_of_zero_le a
      exact .inr (.inr ⟨by simp, rfl, k, rfl, by omega⟩)
/-- The place of a sink of a net, and its capacitance. -/
def snkP (z : BlkD) (k i : Nat) : Nat := (iv (endsL (places z.lib z.des) (k : Int) false) i).toNat
def capN (z : BlkD) (k i : Nat) : Int := (pll (places z.lib z.des) (snkP z k i)).load
/-- The loads of the nodes of a net: those of the wire, and the first m sinks. -/
def ldS (z : BlkD) (k m : Nat) : Nat → Int := evU (pa (wrn z.wires k)) (evF (fun i => (iv (wrn z.wires k).sink i).toNat) (capN z k) m) (ldN (wrn z.wires k) (wrn z.wires k).parent.length)
theorem ldS_succ (z : BlkD) (k m : Nat) : ldS z k (m + 1) = addUp (pa (wrn z.wires k)) (capN z k m) (iv (wrn z.wires k).sink m).toNat (ldS z k m) := by rw [ldS, evF_succ, evU_snoc]; rfl
theorem ends_in (P : List PlD) (n : Int) (b : Bool) (i : Nat) (h : i < (endsL P n b).length) : ∃ k : Nat, iv (endsL P n b) i = (k : Int) ∧ k < P.length := by
  have hm : (endsL P n b)[i] ∈ endsL P n b := List.getElem_mem h
  have e : iv (endsL P n b) i = (endsL P n b)[i] := by simp [iv, List.getD, h]
  rw [e]
  generalize (endsL P n b)[i] = y at hm
  simp only [endsL, List.mem_map, List.mem_filter, List.mem_range] at hm
  obtain ⟨k, ⟨hk, _⟩, rfl⟩ := hm
  exact ⟨k, rfl, hk⟩
theorem pin_cap {c : CellD} (h : cellB c = true) {k : Nat} (hk : k < c.pins.length) : 0 ≤ (pn c.pins k).cap ∧ (pn c.pins k).cap ≤ 500 := by
  have h2 := (pins_get (cell_get h).1).2.2.1 k hk
  unfold pinOk at h2
  by_cases e : k + 1 = c.pins.length
  · rw [if_pos e] at h2
    simp only [Bool.and_eq_true, decide_eq_true_eq] at h2
    have := h2.2.1.2
    omega
  · rw [if_neg e] at h2
    simp only [Bool.and_eq_true, decide_eq_true_eq] at h2
    exact inB_get h2.1.2
theorem load_bd {ts : List CellD} {d : DesD} (h : desB ts d = true) {k : Nat} (hk : k < (places ts d).length) : 0 ≤ (pll (places ts d) k).load ∧ (pll (places ts d) k).load ≤ 500 := by
  obtain ⟨hlib, hsz, hnm, hcn, _⟩ := desG h
  rcases pll_cases hk with ⟨i, j, hi, hj, e⟩ | ⟨j, hj, e⟩
  · rw [e]
    obtain ⟨i1, i2, _, _⟩ := conn_inst hcn hi
    exact pin_cap (lib_cell hlib i1 i2) hj
  · rw [e]
    exact ⟨Int.le_refl _, by show (0 : Int) ≤ 500; omega⟩
theorem capN_bd {z : BlkD} (h : blkB z = true) {k i : Nat} (hi : i < (endsL (places z.lib z.des) (k : Int) false).length) : 0 ≤ capN z k i ∧ capN z k i ≤ 500 := by
  obtain ⟨j, e, hj⟩ := ends_in _ _ _ i hi
  unfold capN snkP
  rw [e]
  exact load_bd (blk_get h).1 hj
theorem snks_len {z : BlkD} (h : blkB z = true) (k : Nat) : (endsL (places z.lib z.des) (k : Int) false).length ≤ 100 := Nat.le_trans (endsL_le _ _ _) (placesM (blk_get h).1)
theorem wire_at {z : BlkD} (h : blkB z = true) {k : Nat} (hk : k < z.wires.length) : wireB (wrn z.wires k) ((endsL (places z.lib z.des) (k : Int) false).length : Int) = true := (blk_get h).2.2 k hk
theorem ldS_bd {z : BlkD} (h : blkB z = true) {k : Nat} (hk : k < z.wires.length) {m : Nat} (hm : m ≤ (wrn z.wires k).sink.length) : ∀ j, 0 ≤ ldS z k m j ∧ ldS z k m j ≤ 54000 := by
  have hw := wire_at h hk
  obtain ⟨_, l8, _, _, ls, _⟩ := wire_nums hw
  have l100 := snks_len h k
  have hb : ∀ i, i < m → 0 ≤ capN z k i ∧ capN z k i ≤ 500 := fun i hi => capN_bd h (by omega)
  intro j
  have b := evU_bd (pa (wrn z.wires k)) (evF (fun i => (iv (wrn z.wires k).sink i).toNat) (capN z k) m) (ldN (wrn z.wires k) (wrn z.wires k).parent.length) (evF_mem (fun i hi => (hb i hi).1)) j
  have t := totE_bd 500 (evF (fun i => (iv (wrn z.wires k).sink i).toNat) (capN z k) m) (evF_mem (fun i hi => hb i hi))
  have l := ldN_bd hw l8 j
  rw [evF_len] at t
  simp only [ldS]
  omega
theorem hasIxWire_any (a : Option Addr) (n cap : Nat) (x : Int) (w : World) (hn : n ≤ 9223372036854775807) : Calls Tryz.prog 67 #[.slice a n cap, .int .i64 x] w fun e w' => e = .returned (.bool (inB x 0 ((n : Int) - 1))) ∧ w' = w := by
  go_enter Tryz.func67, Tryz.ntmps67
  go_wp2_with (go_at_call 49; refine (inRange_any _ _ _ _).mono ?_; rintro e w' ⟨rfl, hw'⟩; rw [hw']; clear hw' w')
  go_ret
  exact ⟨rfl, rfl⟩
def NodesR (z : BlkD) (k : Nat) (w : World) (e : Ending) (w' : World) : Prop := ∃ v ad, e = .returned (.tuple #[v, .int .i64 0]) ∧ NodeL w' w.heap.size v (wrn z.wires k).parent.length ad (pa (wrn z.wires k)) (iv (wrn z.wires k).res) (ldS z k (wrn z.wires k).sink.length) ∧ Below w.heap.size w w'
set_option maxHeartbeats 8000000 in
theorem nodes_no (f : Nat → Value) (z : BlkD) (x : Int) (w : World) (h : BlkF w w.heap.size f z) (hx : blkCode z x ≠ 0) :
    Calls Tryz.prog 33 #[.agg #[f 0, f 1, f 2, f 3, f 4], .int .i64 x] w fun e w' => e = .returned (.tuple #[.slice none 0 0, .int .i64 (blkCode z x)]) ∧ Below w.heap.size w w' := by
  have HB := Lib.hid (fun (w1 : World) (hb : Below w.heap.size w w1) => netBlk_any f z w1 (h.up hb))
  obtain ⟨p0, q0, p1, q1, p2, q2, p3, q3, p4, q4, e0, e1, e2, e3, e4⟩ := h.five
  have ln4 : z.wires.length ≤ 9223372036854775807 := by obtain ⟨F, hc, _⟩ := h.2.2; exact hc.1
  rw [e0, e1, e2, e3, e4] at HB
  rw [e0, e1, e2, e3, e4]
  clear e0 e1 e2 e3 e4 h
  rcases code_cases z x with ⟨c, hc⟩ | ⟨c, hc, hi⟩ | ⟨c, _⟩
  · rw [c]
    rw [hc] at HB
    clear c hc hx
    go_enter Tryz.func33, Tryz.ntmps33
    go_wp2_with fail
    (go_at_call 66; refine (HB.out _ eX).mono ?_; rintro e w1 ⟨⟨a, n, c, m, rfl⟩, hb⟩; obtain ⟨hc, hf⟩ := bcell hb; have hz := hb.size; (try simp at hz); (try (have hz := Nat.lt_of_succ_le hz)); (try (have y0 : w.heap.size ≤ w1.heap.size := by omega)); (try (have z0 : w.heap.size < w1.heap.size := by omega)); (try (have z1 : w.heap.size + 1 < w1.heap.size := by omega)); (try (have z2 : w.heap.size + 1 + 1 < w1.heap.size := by omega)); (try (have z3 : w.heap.size + 1 + 1 + 1 < w1.heap.size := by omega)); (try (have z4 : w.heap.size + 1 + 1 + 1 + 1 < w1.heap.size := by omega)))
    go_wp2
    go_ret2
    exact ⟨rfl, eX⟩
  · rw [c]
    rw [hc] at HB
    clear c hc hx
    go_enter Tryz.func33, Tryz.ntmps33
    go_wp2_with fail
    (go_at_call 66; refine (HB.out _ eX).mono ?_; rintro e w1 ⟨⟨a, n, c, m, rfl⟩, hb⟩; obtain ⟨hc, hf⟩ := bcell hb; have hz := hb.size; (try simp at hz); (try (have hz := Nat.lt_of_succ_le hz)); (try (have y0 : w.heap.size ≤ w1.heap.size := by omega)); (try (have z0 : w.heap.size < w1.heap.size := by omega)); (try (have z1 : w.heap.size + 1 < w1.heap.size := by omega)); (try (have z2 : w.heap.size + 1 + 1 < w1.heap.size := by omega)); (try (have z3 : w.heap.size + 1 + 1 + 1 < w1.heap.size := by omega)); (try (have z4 : w.heap.size + 1 + 1 + 1 + 1 < w1.heap.size := by omega)))
    go_wp2_with fail
    (go_at_call 67; refine (hasIxWire_any _ _ _ _ _ ln4).mono ?_; rintro e w' ⟨rfl, hw'⟩; rw [hw']; clear hw' w')
    go_wp2
    go_ret2
    exact ⟨rfl, eX⟩
  · exact absurd c hx
/-- A look-up at the ends of a netlist, in a later world: what it finds lies where it lay. -/
def LookB (w0 w : World) (m : Option Nat) (P : List PlD) (n : Int) (d : Bool) : Prop :=
  ∃ u, (Instr.lookup 111 (.map m) (endKey n d) false).run Tryz.prog w = .ok u w ∧ IntS w0 w0.heap.size u (endsL P n d)
theorem ends_look2 {w0 w : World} {base B : Nat} {P : List PlD} (h : Ends w0 base B P) (hB : Below w0.heap.size w0 w) (hP : P.length ≤ 1048576) (n : Int) (d : Bool) (hwf : (Lit.int .i64 n).wf = true) : LookB w0 w (some B) P n d := by
  obtain ⟨es, clock, hb, hbb, s1, s2, s3, own, cov, apart⟩ := h
  have K := Tryz.endK
  have ht : Tryz.prog.underlying 111 = some (.map 161 34) := Tryz.underlying111
  have hkey := Tryz.endOf n d hwf
  have keys : ∀ e ∈ es.toList, ∃ l, keyOf Tryz.prog 161 e.key = some l := fun e he => by
    obtain ⟨n, d, k1, k2, _⟩ := own e he
    exact ⟨_, by rw [k1]; exact Tryz.endOf n d k2⟩
  have hle := endsL_le P n d
  have hlb : B < w0.heap.size := by
    apply Classical.byContradiction
    intro hn
    simp [Array.getElem?_eq_none (by omega : w0.heap.size ≤ B)] at hb
  have hb' : w.heap[B]? = some (.map es clock) := by rw [hB.block B hlb]; exact hb
  rcases K.find w hkey es.toList keys with ⟨h1, h2⟩ | ⟨j, e0, h1, h2, h3⟩
  · have hempty : endsL P n d = [] := by
      apply Classical.byContradiction
      intro hne
      obtain ⟨x, hx, he⟩ := cov _ _ hne
      exact h2 x hx he
    refine ⟨.slice none 0 0, ?_, ?_⟩
    · simp [Instr.lookup, run_underlying ht, MapKept.run_getObj_map hb', K.check w _ hkey, h1, Tryz.zeroInts, Result.andThen]
    · rw [hempty]; exact ⟨by simp, none, 0, rfl, fun hp => absurd hp (by simp)⟩
  · have hm0 : e0 ∈ es.toList := List.mem_of_getElem? h2
    obtain ⟨n0, d0, k1, k2, k3, k4⟩ := own e0 hm0
    obtain ⟨rfl, rfl⟩ := endKey_inj (k1.symm.trans h3)
    refine ⟨e0.val, ?_, ownsInts_IntS k4 (by omega)⟩
    · simp [Instr.lookup, run_underlying ht, MapKept.run_getObj_map hb', K.check w _ hkey, h1, Result.andThen]
theorem NetK.look2 {w : World} {L : Nat} {P : List PlD} {a : Option Addr} {n cap : Nat} {m : Option Nat} (h : NetK w L P (.agg #[.slice a n cap, .map m])) (hP : P.length ≤ 1048576) {wn : World} (hb : Below w.heap.size w wn) (k : Int) (d : Bool) (hw : (Lit.int .i64 k).wf = true) : LookB w wn m P k d := by
  obtain ⟨a', cap', B, base, e, h0, h1, h2, hG, hE⟩ := h
  simp only [Value.agg.injEq, Array.mk.injEq, List.cons.injEq, Value.slice.injEq, Value.map.injEq, and_true] at e
  obtain ⟨_, rfl⟩ := e
  exact ends_look2 hE hb hP k d hw
def SnkR (w0 w : World) (xs : List Int) (e : Ending) (w' : World) : Prop := ∃ u, e = .returned u ∧ IntS w0 w0.heap.size u xs ∧ Below w.heap.size w w'
theorem netSinks_old (w0 : World) (a : Option Addr) (n cap : Nat) (m : Option Nat) (P : List PlD) (x : Int) (w : World) (hK : ∀ wn, Below w.heap.size w wn → LookB w0 wn m P x false) :
    Calls Tryz.prog 69 #[.agg #[.slice a n cap, .map m], .int .i64 x] w (SnkR w0 w (endsL P x false)) := by
  have bA : Below w.heap.size w (w.alloc (Obj.cells #[.slice a n cap, .map m] 113)) := (Below.refl _ _).alloc (Nat.le_refl _) _
  obtain ⟨u, hrun, hu⟩ := hK _ bA
  have hrun : (Instr.lookup 111 (.map m) (.agg #[.int .i64 x, .bool false]) false).run Tryz.prog (w.alloc (Obj.cells #[.slice a n cap, .map m] 113)) = .ok u _ := hrun
  have HU := Lib.hid hu
  have HB := Lib.hid bA
  obtain ⟨p, q, rfl⟩ := hu.slice
  clear hu hK bA
  go_enter Tryz.func69, Tryz.ntmps69
  go_wp2
  go_ret
  exact ⟨_, rfl, HU.out, HB.out⟩
set_option maxHeartbeats 16000000 in
theorem nodes_yes (f : Nat → Value) (z : BlkD) (k : Nat) (w : World) (h : BlkF w w.heap.size f z) (hb : blkB z = true) (hk : k < z.wires.length) :
    Calls Tryz.prog 33 #[.agg #[f 0, f 1, f 2, f 3, f 4], .int .i64 (k : Int)] w (NodesR z k w) := by
  have HB := Lib.hid (fun (w1 : World) (hb : Below w.heap.size w w1) => netBlk_all f z w1 (h.up hb))
  have hwire := wire_at hb hk
  have ⟨n1, n8, lr, lc, ls, _, _, _, qr, _, qs⟩ := wire_nums hwire
  have LS := Lib.hid ls
  have QS := Lib.hid qs
  have QR := Lib.hid qr
  have ls100 := snks_len hb k
  have HP := Lib.hid (placesM (blk_get hb).1)
  have hbl := Lib.hid hb
  have hkk := Lib.hid hk
  obtain ⟨p0, q0, p1, q1, p2, q2, p3, q3, p4, q4, e0, e1, e2, e3, e4⟩ := h.five
  have ln4 : z.wires.length ≤ 9223372036854775807 := by obtain ⟨F, hc, _⟩ := h.2.2; exact hc.1
  obtain ⟨F, hc, hf⟩ := h.2.2
  rw [e4] at hc
  have HC := Lib.hid hc
  have ⟨x0, x1, x2, x3⟩ := hf k hk
  obtain ⟨s0, r0, f0⟩ := x0.slice; obtain ⟨s1, r1, f1⟩ := x1.slice; obtain ⟨s2, r2, f2⟩ := x2.slice; obtain ⟨s3, r3, f3⟩ := x3.slice
  have HW := Lib.hid (show WireF w w.heap.size (vec [F k 0, F k 1, F k 2, F k 3]) (wrn z.wires k) from ⟨x0, x1, x2, x3⟩)
  have H3 := Lib.hid x3
  rw [f0, f1, f2, f3] at HW
  rw [f3] at H3
  have HF := Lib.hid (And.intro f0 (And.intro f1 (And.intro f2 f3)))
  have hin : inB (k : Int) 0 ((z.wires.length : Int) - 1) = true := inB_yes (by omega) (by omega)
  rw [e0, e1, e2, e3, e4] at HB
  rw [e0, e1, e2, e3, e4]
  unfold BlkNet at HB
  rw [hb] at HB
  have hkl : (k : Int) < (z.wires.length : Int) := by omega
  have hk0 : (0 : Int) ≤ (k : Int) := by omega
  clear e0 e1 e2 e3 e4 h hb hk hc hf x0 x1 x2 x3 f0 f1 f2 f3 qs qr lr lc ls
  go_enter Tryz.func33, Tryz.ntmps33
  go_wp2_with fail
  (go_at_call 66; refine (HB.out _ eX).mono ?_; rintro e w1 ⟨a, nP, c, m, rfl, hb1, hNK⟩)
  have hk1 := hNK (by trivial)
  have HK := Lib.hid hk1
  have ⟨hnP, hpl, _⟩ := hk1.look (by have := HP.out; omega)
  subst hnP
  have HPL := Lib.hid hpl
  have B1 : Below w.heap.size w w1 := by exact eX
  have hl1 : w.heap.size < w1.heap.size := by have := hb1.size; simp at this; omega
  have g4 : w1.cell? ⟨w.heap.size, 4, none⟩ = some (.slice p4 z.wires.length q4) := cell_keep (w0 := w.alloc (Obj.cells #[.slice p0 z.lib.length q0, .slice p1 z.des.insts.length q1, .slice p2 z.des.nets.length q2, .slice p3 z.des.ports.length q3, .slice p4 z.wires.length q4] 46)) (by simp [go_sem]) eX
  clear hNK hk1 hpl hb1
  go_wp2_with fail
  (go_at_call 67; refine (hasIxWire_any _ _ _ _ _ ln4).mono ?_; rintro e w' ⟨rfl, hw'⟩; rw [hw']; clear hw' w')
  obtain ⟨bw, ow, rfl, hlw, hxw⟩ := HC.out.at B1 hkk.out
  have y0 := hxw 0 (by omega); have y1 := hxw 1 (by omega); have y2 := hxw 2 (by omega); have y3 := hxw 3 (by omega)
  simp only [Nat.add_zero] at y0
  rw [HF.out.1] at y0; rw [HF.out.2.1] at y1; rw [HF.out.2.2.1] at y2; rw [HF.out.2.2.2] at y3
  have hlw1 : bw < w1.heap.size := by omega
  clear hxw
  go_wp2_with fail
  obtain ⟨W, hW⟩ : ∃ W, W = (w1.alloc (Obj.cells #[.slice a (places z.lib z.des).length c, .map m] 113)).alloc (Obj.cells #[.slice s0 (wrn z.wires k).parent.length r0, .slice s1 (wrn z.wires k).res.length r1, .slice s2 (wrn z.wires k).cap.length r2, .slice s3 (wrn z.wires k).sink.length r3] 85) := ⟨_, rfl⟩
  have b5 : Below w1.heap.size w1 W := by rw [hW]; exact eX
  have zW : W.heap.size = w1.heap.size + 2 := by rw [hW]; simp
  have t0 : W.cell? ⟨w1.heap.size, 0, none⟩ = some (.slice a (places z.lib z.des).length c) := by rw [hW]; simp [go_sem]
  have t1 : W.cell? ⟨w1.heap.size, 1, none⟩ = some (.map m) := by rw [hW]; simp [go_sem]
  have t5 : W.cell? ⟨w1.heap.size + 1, 3, none⟩ = some (.slice s3 (wrn z.wires k).sink.length r3) := by rw [hW]; simp [go_sem]
  rw [← hW]
  clear hW
  have lW : w1.heap.size + 1 < W.heap.size := by omega
  have ZW := Lib.hid zW
  clear zW
  have BW := Lib.hid (B1.trans (b5.mono B1.size))
  (go_at_call 68; refine (newNodes_any (vec [.slice s0 (wrn z.wires k).parent.length r0, .slice s1 (wrn z.wires k).res.length r1, .slice s2 (wrn z.wires k).cap.length r2, .slice s3 (wrn z.wires k).sink.length r3]) (wrn z.wires k) _ W (HW.out.keep BW.out BW.out.size) hwire).mono ?_; rintro e w6 ⟨v, ad, rfl, hNL, hb6⟩)
  obtain ⟨av, cv, rfl⟩ := hNL.slice
  have HN := Lib.hid hNL
  have u0 := cell_keep t0 hb6
  have u1 := cell_keep t1 hb6
  have u5 := cell_keep t5 hb6
  have l6 : w1.heap.size + 1 < w6.heap.size := cell_lt u5
  have B6 := Lib.hid (b5.trans (hb6.mono b5.size))
  have P6 := Lib.hid hb6
  have T0 := Lib.hid t0
  have T5 := Lib.hid t5
  clear hNL hb6 t0 t1 t5
  go_wp2_with fail
  (go_at_call 69; refine (netSinks_old w1 a (places z.lib z.des).length c m (places z.lib z.des) (k : Int) w6 (fun wn hwn => HK.out.look2 (by have := HP.out; omega) (B6.out.trans (hwn.mono B6.out.size)) _ _ (WalkArith.wf_i64 (by omega)))).mono ?_; rintro e w7 ⟨us, rfl, hus, hb7⟩)
  obtain ⟨ap, cp, rfl⟩ := hus.slice
  have HUS := Lib.hid hus
  have t0 := cell_keep u0 hb7
  have t5 := cell_keep u5 hb7
  have P7 := Lib.hid (P6.out.trans (hb7.mono P6.out.size))
  have N7 := Lib.hid (HN.out.below hb7)
  clear hus hb7 u0 u1 u5
  go_wp2_with fail
  obtain ⟨q, hq⟩ : ∃ q, q = (endsL (places z.lib z.des) (k : Int) false).length := ⟨_, rfl⟩
  rw [← hq]
  rw [← hq] at ls100
  have HQ := Lib.hid hq
  clear hq
  go_loopw [37] (fun i wr => ∃ mm : Nat, mm ≤ q ∧ i = .int .i64 mm ∧ Hid (NodeL wr W.heap.size (.slice av (wrn z.wires k).parent.length cv) (wrn z.wires k).parent.length ad (pa (wrn z.wires k)) (iv (wrn z.wires k).res) (ldS z k mm)) ∧ Below W.heap.size W wr) (fun i _ => q - (intOf i).toNat)
  case atStart => exact ⟨0, by omega, rfl, N7, P7.out⟩
  case round =>
    clear N7 t0 t5
    obtain ⟨mm, hmm, rfl, hN, hbr⟩ := hrel
    by_cases hlt : mm < q
    · have hm1 : mm < (wrn z.wires k).sink.length := by have := LS.out; have := HQ.out; omega
      have hm2 : mm < (endsL (places z.lib z.des) (k : Int) false).length := by have := HQ.out; omega
      have bw1 : Below w1.heap.size w1 wr := b5.trans (hbr.mono b5.size)
      have bww : Below w.heap.size w wr := BW.out.trans (hbr.mono BW.out.size)
      have c0 := cell_keep T0.out hbr
      have c5 := cell_keep T5.out hbr
      obtain ⟨bs, os, rfl, hls, ys⟩ := ints_at HUS.out bw1 hm2
      obtain ⟨pj, hpj, hpl⟩ := ends_in _ _ _ mm hm2
      rw [hpj] at ys
      obtain ⟨b3, o3, rfl, hl3, yt⟩ := ints_at HW.out.2.2.2 bww hm1
      have ⟨qs0, qs1⟩ := QS.out mm hm1
      obtain ⟨sj, hsj⟩ := Int.eq_ofNat_of_zero_le qs0
      rw [hsj] at yt qs1
      have SJ := Lib.hid (show (iv (wrn z.wires k).sink mm).toNat = sj by rw [hsj]; rfl)
      have hsn : sj < (wrn z.wires k).parent.length := by omega
      obtain ⟨F', hc', hf'⟩ := HPL.out
      obtain ⟨bp, op, rfl, hlp, hxp⟩ := hc'.at bw1 hpl
      have yp := hxp 4 (by omega)
      rw [show F' pj 4 = .int .i64 (capN z k mm) by rw [(hf' pj hpl).2.2.2.2.1]; simp only [capN, snkP, hpj]; rfl] at yp
      obtain ⟨g, cg, eg, hgB, hgl, hgc⟩ := hN.out.at hsn
      simp only [Value.slice.injEq] at eg
      obtain ⟨rfl, _, rfl⟩ := eg
      have yg := hgc sj hsn
      have i0 : (0 : Int) ≤ (mm : Int) := by omega
      have i1 : (mm : Int) < (q : Int) := by omega
      have i2 : (0 : Int) ≤ (sj : Int) := by omega
      have i3 : (sj : Int) < ((wrn z.wires k).parent.length : Int) := by omega
      have i4 : (0 : Int) ≤ (pj : Int) := by omega
      have i5 : (pj : Int) < ((places z.lib z.des).length : Int) := by omega
      have i6 : (mm : Int) < ((wrn z.wires k).sink.length : Int) := by omega
      have l0 : w1.heap.size < wr.heap.size := cell_lt c0
      have l1 : w1.heap.size + 1 < wr.heap.size := cell_lt c5
      have l2 : bs < wr.heap.size := by omega
      have l3 : b3 < wr.heap.size := cell_lt yt
      have l4 : bp < wr.heap.size := by omega
      clear hc' hf' hxp hgc hsj hpj qs0 qs1 hpl hsn
      go_wp2_with fail
      go_still_tail 14, (by kernel_rfl)
      change wpList _ _ _ _ _ wr.drew
      have ND := Lib.hid (hN.out.below (eD (eR wr _)))
      obtain ⟨wd, hwd⟩ : ∃ wd, wd = wr.drew := ⟨_, rfl⟩
      rw [← hwd] at ND ⊢
      have BD := Lib.hid (show Below W.heap.size W wd by rw [hwd]; exact hbr.drew)
      clear hwd hN hbr bw1 bww c0 c5 ys yt yp yg
      have ⟨d0, d1⟩ := capN_bd hbl.out hm2
      have HL9 := Lib.hid (ldS_bd hbl.out hkk.out (Nat.le_of_lt hm1))
      go_wp2_with fail
      (go_at_call 70; refine (collect_any (fun w' => w'.ownsRow W.heap.size 70 1 (.slice (some ⟨g, 0, none⟩) (wrn z.wires k).parent.length cv) (wrn z.wires k).parent.length (ptrs ad (wrn z.wires k).parent.length)) (n := (wrn z.wires k).parent.length) (ad := ad) (fun w1 j u hj h1 => row_set h1 (fun x e => ND.out.2.2 x e j hj) u) sj (by omega) (capN z k mm) d0 (by omega) (fun j => by have := HL9.out j; omega) wd ND.out.2.1 ND.out.1).mono ?_; rintro e w9 ⟨rfl, hn9, hr9, hb9⟩)
      have N9 : Hid (NodeL w9 W.heap.size (.slice (some ⟨g, 0, none⟩) (wrn z.wires k).parent.length cv) (wrn z.wires k).parent.length ad (pa (wrn z.wires k)) (iv (wrn z.wires k).res) (ldS z k (mm + 1))) := by
        have e : (iv (wrn z.wires k).sink mm).toNat = sj := SJ.out
        refine Lib.hid ⟨hr9, ?_, ND.out.2.2⟩
        rw [ldS_succ, e]
        exact hn9
      have B9 := BD.out.trans hb9
      clear hn9 hr9 hb9
      go_wp2
      go_roundw
      case rel => exact ⟨mm + 1, by omega, by go_num, N9, B9⟩
      case measure => simp [intOf]; omega
    · obtain rfl : mm = q := by omega
      have hI : ¬ (mm : Int) < (mm : Int) := by omega
      have bww : Below w.heap.size w wr := BW.out.trans (hbr.mono BW.out.size)
      have NE : Hid (NodeL wr w.heap.size (.slice av (wrn z.wires k).parent.length cv) (wrn z.wires k).parent.length ad (pa (wrn z.wires k)) (iv (wrn z.wires k).res) (ldS z k (wrn z.wires k).sink.length)) := by
        have e : (wrn z.wires k).sink.length = mm := by have := LS.out; have := HQ.out; omega
        rw [e]
        exact Lib.hid (hN.out.low BW.out.size)
      clear hN
      go_wp2
      go_ret2
      exact ⟨_, ad, rfl, NE.out, bww⟩
end Go.Proofs.YtodgpjolkfkcpaaGreat
namespace Go.Proofs.YtodgpjolkfkcpaaGreat
open Go.ChangeShapes Go.WideShapes Go.ChangeAt Go.RowKit Go.Deep
set_option linter.unusedVariables false
set_option linter.unusedSimpArgs false
set_option maxRecDepth 100000
def endN (z : BlkD) (k : Nat) : Nat := (wrn z.wires k).parent.length
def lodF (z : BlkD) (k : Nat) : Nat → Int := ldS z k (wrn z.wires k).sink.length
def delF (z : BlkD) (k : Nat) : Nat → Int := dly (pa (wrn z.wires k)) (iv (wrn z.wires k).res) (lodF z k)
def lodsL (z : BlkD) (x : Int) : List Int := if blkCode z x = 0 then rowOf (endN z x.toNat) (lodF z x.toNat) else []
def delsL (z : BlkD) (x : Int) : List Int := if blkCode z x = 0 then rowOf (endN z x.toNat) (delF z x.toNat) else []
def netLd (z : BlkD) (x : Int) : Int := if blkCode z x = 0 then lodF z x.toNat 0 else 0
def sdF (z : BlkD) (k : Nat) (m : Int) (i : Nat) : Int := qd (delF z k (iv (wrn z.wires k).sink i).toNat) 1000 m
def sdCode (z : BlkD) (x m : Int) : Int := if blkCode z x = 0 then (if isM m then 0 else 2) else blkCode z x
def sdelL (z : BlkD) (x m : Int) : List Int := if blkCode z x = 0 ∧ isM m = true then rowOf (wrn z.wires x.toNat).sink.length (sdF z x.toNat m) else []
/-- A list of its own, and a code. -/
def ListR (w : World) (xs : List Int) (c : Int) (e : Ending) (w' : World) : Prop := ∃ u, e = .returned (.tuple #[u, .int .i64 c]) ∧ OwnS w' w.heap.size u xs ∧ Below w.heap.size w w'
theorem own_nil (w : World) (B : Nat) : OwnS w B (.slice none 0 0) [] := ⟨by simp, none, 0, rfl, fun hp => absurd hp (by simp)⟩
theorem lodF_bd {z : BlkD} (h : blkB z = true) {k : Nat} (hk : k < z.wires.length) : ∀ j, 0 ≤ lodF z k j ∧ lodF z k j ≤ 54000 := ldS_bd h hk (Nat.le_refl _)
theorem res_bd {z : BlkD} (h : blkB z = true) {k : Nat} (hk : k < z.wires.length) : ∀ j, 0 ≤ iv (wrn z.wires k).res j ∧ iv (wrn z.wires k).res j ≤ 1000 := (wire_nums (wire_at h hk)).2.2.2.2.2.2.2.2.1
theorem endN_bd {z : BlkD} (h : blkB z = true) {k : Nat} (hk : k < z.wires.length) : 1 ≤ endN z k ∧ endN z k ≤ 8 := ⟨(wire_nums (wire_at h hk)).1, (wire_nums (wire_at h hk)).2.1⟩
theorem delF_bd {z : BlkD} (h : blkB z = true) {k : Nat} (hk : k < z.wires.length) {j : Nat} (hj : j < endN z k) : 0 ≤ delF z k j ∧ delF z k j ≤ 432000000 := by
  have := dly_bd (pa (wrn z.wires k)) (iv (wrn z.wires k).res) (lodF z k) (res_bd h hk) (lodF_bd h hk) j
  have := endN_bd h hk
  unfold delF
  omega
theorem code_no {z : BlkD} {x : Int} (h : blkCode z x ≠ 0) : lodsL z x = [] ∧ delsL z x = [] ∧ netLd z x = 0 := ⟨by simp [lodsL, h], by simp [delsL, h], by simp [netLd, h]⟩
theorem code_yes {z : BlkD} {k : Nat} (h : blkCode z (k : Int) = 0) : lodsL z k = rowOf (endN z k) (lodF z k) ∧ delsL z k = rowOf (endN z k) (delF z k) ∧ netLd z k = lodF z k 0 := ⟨by simp [lodsL, h], by simp [delsL, h], by simp [netLd, h]⟩
theorem code_get {z : BlkD} {x : Int} (h : blkCode z x = 0) : ∃ k : Nat, x = (k : Int) ∧ blkB z = true ∧ k < z.wires.length := by
  rcases code_cases z x with ⟨c, _⟩ | ⟨c, _⟩ | ⟨_, hb, k, e, hk⟩
  · omega
  · omega
  · exact ⟨k, e, hb, hk⟩
theorem code_pos (z : BlkD) (x : Int) : blkCode z x = 0 ∨ blkCode z x = 1 ∨ blkCode z x = 2 := by
  rcases code_cases z x with ⟨c, _⟩ | ⟨c, _⟩ | ⟨c, _⟩ <;> omega
theorem Tryz.infoI7 : (Tryz.prog.info? 2).map (fun i => (i.zero, i.size, i.bytes)) = some (some (.int .i64 0), 1, 8) := by kernel_rfl
set_option maxHeartbeats 8000000 in
theorem implNodeLoads_any (f : Nat → Value) (z : BlkD) (x : Int) (w : World) (h : BlkF w w.heap.size f z) :
    Calls Tryz.prog 11 #[.agg #[f 0, f 1, f 2, f 3, f 4], .int .i64 x] w (ListR w (lodsL z x) (blkCode z x)) := by
  obtain ⟨ti, hi, hz0, hz1, hz2⟩ := info_parts Tryz.infoI7
  by_cases hc : blkCode z x = 0
  · obtain ⟨k, rfl, hb, hk⟩ := code_get hc
    have HB := Lib.hid (fun (w1 : World) (hb' : Below w.heap.size w w1) => nodes_yes f z k w1 (h.up hb') hb hk)
    have XL := Lib.hid (code_yes hc).1
    obtain ⟨n, hn⟩ : ∃ n, n = endN z k := ⟨_, rfl⟩
    have ⟨n1, n8⟩ := endN_bd hb hk
    have LB := Lib.hid (lodF_bd hb hk)
    have RB := Lib.hid (res_bd hb hk)
    rw [← hn] at n1 n8 XL
    have HN := Lib.hid hn
    obtain ⟨p0, q0, p1, q1, p2, q2, p3, q3, p4, q4, e0, e1, e2, e3, e4⟩ := h.five
    rw [e0, e1, e2, e3, e4] at HB
    rw [hc, e0, e1, e2, e3, e4]
    clear e0 e1 e2 e3 e4 h hb hk hc hn
    go_enter Tryz.func11, Tryz.ntmps11
    go_wp2_with fail
    (go_at_call 33; refine (HB.out _ eX).mono ?_; rintro e w1 ⟨v, ad, rfl, hN, hb1⟩)
    have hN := Lib.hid (show NodeL w1 _ v n ad (pa (wrn z.wires k)) (iv (wrn z.wires k).res) (lodF z k) by rw [HN.out]; exact hN)
    obtain ⟨av, cv, rfl⟩ := hN.out.slice
    have B1 : Below w.heap.size w w1 := by exact eX
    have B1' := Lib.hid B1
    clear hb1 B1
    go_wp2
    go_loopw [8, 19] (fun v i wr => ∃ j : Nat, j ≤ n ∧ i = .int .i64 j ∧ Hid (GI wr w1.heap.size v (rowOf j (lodF z k))) ∧ Below w1.heap.size w1 wr) (fun _ i _ => n - (intOf i).toNat)
    case atStart => exact ⟨0, by omega, rfl, Lib.hid (GI.nil _ _), Below.refl _ _⟩
    case round =>
      obtain ⟨j, hj, rfl, hG, hbr⟩ := hrel
      have hsz := hbr.size
      by_cases hlt : j < n
      · obtain ⟨g, cg, eg, _, hgl, hgc⟩ := (hN.out.below hbr).at hlt
        simp only [Value.slice.injEq] at eg
        obtain ⟨rfl, _, rfl⟩ := eg
        have yg := hgc j hlt
        obtain ⟨_, _, _, yl, _⟩ := (hN.out.below hbr).2.1.1 j hlt
        have i0 : (0 : Int) ≤ (j : Int) := by omega
        have i1 : (j : Int) < (n : Int) := by omega
        clear hgc
        have bA : Below wr.heap.size wr (wr.alloc (Obj.cells #[.int .i64 (lodF z k j)] 2)) := (Below.refl _ _).alloc (Nat.le_refl _) _
        have HA := Lib.hid bA
        have hlm : (rowOf j (lodF z k)).length ≤ 8 := by rw [rowOf_len]; omega
        have HLM := Lib.hid hlm
        have HG := Lib.hid (hG.out.below HA.out)
        have hblk := Lib.hid HG.out.blk
        have hbX := Lib.hid (hbr)
        have szX : w1.heap.size ≤ wr.heap.size := hbX.out.size
        clear bA hlm hG
        go_wp2_with (at_builtin; refine wpList_append_own _ rfl _ _ 34 rfl w1.heap.size 2 ti (.int .i64 0) 1 8 Tryz.underlying34 hi hz0 hz1 hz2 rfl (by decide) _ _ _ rfl HG.out ⟨wr.heap.size, 0, none⟩ 1 1 [.int .i64 (lodF z k j)] rfl rfl (one_cellG2 _ _ _ _ rfl) (fun u hu => by simp at hu; subst hu; rfl) (by have := HLM.out; unfold maxLen; omega) (by have := HLM.out; omega) (by simp; omega) ?_; intro v' w9 hown' hgrow hnil)
        have hG2 : Hid (GI w9 w1.heap.size v' (rowOf (j + 1) (lodF z k))) := Lib.hid (by
          unfold GI
          rw [rowOf_succ, List.map_append, List.length_append]
          exact hown')
        have hb2 : Below w1.heap.size w1 w9 := (hbX.out.trans (HA.out.mono szX)).grown hgrow (by simp; omega) (fun q hq => hblk.out q hq)
        clear hown' hgrow hnil
        go_wp2
        go_roundw
        case rel => exact ⟨j + 1, by omega, by go_num, hG2, hb2⟩
        case measure => simp [intOf]; omega
      · obtain rfl : j = n := by omega
        have hI : ¬ (j : Int) < (j : Int) := by omega
        have hO := Lib.hid ((hG.out.own (by rw [rowOf_len]; omega)).mono (C := w.heap.size) B1'.out.size)
        have hbw := B1'.out.trans (hbr.mono B1'.out.size)
        clear hG
        go_wp2
        go_ret2
        exact ⟨_, rfl, by rw [XL.out]; exact hO.out, hbw⟩
  · have HB := Lib.hid (fun (w1 : World) (hb' : Below w.heap.size w w1) => nodes_no f z x w1 (h.up hb') hc)
    have XL := Lib.hid (code_no hc).1
    obtain ⟨p0, q0, p1, q1, p2, q2, p3, q3, p4, q4, e0, e1, e2, e3, e4⟩ := h.five
    obtain ⟨c, hcc⟩ : ∃ c, c = blkCode z x := ⟨_, rfl⟩
    rw [← hcc, e0, e1, e2, e3, e4] at HB
    rw [← hcc, e0, e1, e2, e3, e4]
    clear e0 e1 e2 e3 e4 h hcc hc
    go_enter Tryz.func11, Tryz.ntmps11
    go_wp2_with fail
    (go_at_call 33; refine (HB.out _ eX).mono ?_; rintro e w1 ⟨rfl, hb1⟩)
    have B1 : Below w.heap.size w w1 := by exact eX
    clear hb1
    go_wp2
    go_loop [8, 19] (fun v i => v = .slice none 0 0 ∧ i = .int .i64 0) (fun _ _ => 0)
    case atStart => exact ⟨rfl, rfl⟩
    case round =>
      obtain ⟨rfl, rfl⟩ := hrel
      go_wp2
      go_ret2
      exact ⟨_, rfl, by rw [XL.out]; exact own_nil _ _, B1⟩
set_option maxHeartbeats 8000000 in
theorem implNodeDelays_any (f : Nat → Value) (z : BlkD) (x : Int) (w : World) (h : BlkF w w.heap.size f z) :
    Calls Tryz.prog 20 #[.agg #[f 0, f 1, f 2, f 3, f 4], .int .i64 x] w (ListR w (delsL z x) (blkCode z x)) := by
  obtain ⟨ti, hi, hz0, hz1, hz2⟩ := info_parts Tryz.infoI7
  by_cases hc : blkCode z x = 0
  · obtain ⟨k, rfl, hb, hk⟩ := code_get hc
    have HB := Lib.hid (fun (w1 : World) (hb' : Below w.heap.size w w1) => nodes_yes f z k w1 (h.up hb') hb hk)
    have XL := Lib.hid (code_yes hc).2.1
    obtain ⟨n, hn⟩ : ∃ n, n = endN z k := ⟨_, rfl⟩
    have ⟨n1, n8⟩ := endN_bd hb hk
    have LB := Lib.hid (lodF_bd hb hk)
    have RB := Lib.hid (res_bd hb hk)
    rw [← hn] at n1 n8 XL
    have HN := Lib.hid hn
    obtain ⟨p0, q0, p1, q1, p2, q2, p3, q3, p4, q4, e0, e1, e2, e3, e4⟩ := h.five
    rw [e0, e1, e2, e3, e4] at HB
    rw [hc, e0, e1, e2, e3, e4]
    clear e0 e1 e2 e3 e4 h hb hk hc hn
    go_enter Tryz.func20, Tryz.ntmps20
    go_wp2_with fail
    (go_at_call 33; refine (HB.out _ eX).mono ?_; rintro e w1 ⟨v, ad, rfl, hN, hb1⟩)
    have hN := Lib.hid (show NodeL w1 _ v n ad (pa (wrn z.wires k)) (iv (wrn z.wires k).res) (lodF z k) by rw [HN.out]; exact hN)
    obtain ⟨av, cv, rfl⟩ := hN.out.slice
    have B1 : Below w.heap.size w w1 := by exact eX
    have B1' := Lib.hid B1
    clear hb1 B1
    go_wp2
    go_loopw [8, 19] (fun v i wr => ∃ j : Nat, j ≤ n ∧ i = .int .i64 j ∧ Hid (GI wr w1.heap.size v (rowOf j (delF z k))) ∧ Below w1.heap.size w1 wr) (fun _ i _ => n - (intOf i).toNat)
    case atStart => exact ⟨0, by omega, rfl, Lib.hid (GI.nil _ _), Below.refl _ _⟩
    case round =>
      obtain ⟨j, hj, rfl, hG, hbr⟩ := hrel
      have hsz := hbr.size
      by_cases hlt : j < n
      · obtain ⟨g, cg, eg, _, hgl, hgc⟩ := (hN.out.below hbr).at hlt
        simp only [Value.slice.injEq] at eg
        obtain ⟨rfl, _, rfl⟩ := eg
        have yg := hgc j hlt
        obtain ⟨_, _, _, yl, _⟩ := (hN.out.below hbr).2.1.1 j hlt
        have i0 : (0 : Int) ≤ (j : Int) := by omega
        have i1 : (j : Int) < (n : Int) := by omega
        clear hgc
        go_wp2_with fail
        (go_at_call 41; refine (delay_any j hlt n8 RB.out LB.out wr (hN.out.below hbr).2.1).mono ?_; rintro e w5 ⟨rfl, hb5⟩)
        have hG := Lib.hid (hG.out.below hb5)
        have hb15 := hbr.trans (hb5.mono hsz)
        clear yg yl hb5
        have bA : Below w5.heap.size w5 (w5.alloc (Obj.cells #[.int .i64 (dly (pa (wrn z.wires k)) (iv (wrn z.wires k).res) (lodF z k) j)] 2)) := (Below.refl _ _).alloc (Nat.le_refl _) _
        have HA := Lib.hid bA
        have hlm : (rowOf j (delF z k)).length ≤ 8 := by rw [rowOf_len]; omega
        have HLM := Lib.hid hlm
        have HG := Lib.hid (hG.out.below HA.out)
        have hblk := Lib.hid HG.out.blk
        have hbX := Lib.hid (hb15)
        have szX : w1.heap.size ≤ w5.heap.size := hbX.out.size
        clear bA hlm hG
        go_wp2_with (at_builtin; refine wpList_append_own _ rfl _ _ 34 rfl w1.heap.size 2 ti (.int .i64 0) 1 8 Tryz.underlying34 hi hz0 hz1 hz2 rfl (by decide) _ _ _ rfl HG.out ⟨w5.heap.size, 0, none⟩ 1 1 [.int .i64 (dly (pa (wrn z.wires k)) (iv (wrn z.wires k).res) (lodF z k) j)] rfl rfl (one_cellG2 _ _ _ _ rfl) (fun u hu => by simp at hu; subst hu; rfl) (by have := HLM.out; unfold maxLen; omega) (by have := HLM.out; omega) (by simp; omega) ?_; intro v' w9 hown' hgrow hnil)
        have hG2 : Hid (GI w9 w1.heap.size v' (rowOf (j + 1) (delF z k))) := Lib.hid (by
          unfold GI
          rw [rowOf_succ, List.map_append, List.length_append]
          exact hown')
        have hb2 : Below w1.heap.size w1 w9 := (hbX.out.trans (HA.out.mono szX)).grown hgrow (by simp; omega) (fun q hq => hblk.out q hq)
        clear hown' hgrow hnil
        go_wp2
        go_roundw
        case rel => exact ⟨j + 1, by omega, by go_num, hG2, hb2⟩
        case measure => simp [intOf]; omega
      · obtain rfl : j = n := by omega
        have hI : ¬ (j : Int) < (j : Int) := by omega
        have hO := Lib.hid ((hG.out.own (by rw [rowOf_len]; omega)).mono (C := w.heap.size) B1'.out.size)
        have hbw := B1'.out.trans (hbr.mono B1'.out.size)
        clear hG
        go_wp2
        go_ret2
        exact ⟨_, rfl, by rw [XL.out]; exact hO.out, hbw⟩
  · have HB := Lib.hid (fun (w1 : World) (hb' : Below w.heap.size w w1) => nodes_no f z x w1 (h.up hb') hc)
    have XL := Lib.hid (code_no hc).2.1
    obtain ⟨p0, q0, p1, q1, p2, q2, p3, q3, p4, q4, e0, e1, e2, e3, e4⟩ := h.five
    obtain ⟨c, hcc⟩ : ∃ c, c = blkCode z x := ⟨_, rfl⟩
    rw [← hcc, e0, e1, e2, e3, e4] at HB
    rw [← hcc, e0, e1, e2, e3, e4]
    clear e0 e1 e2 e3 e4 h hcc hc
    go_enter Tryz.func20, Tryz.ntmps20
    go_wp2_with fail
    (go_at_call 33; refine (HB.out _ eX).mono ?_; rintro e w1 ⟨rfl, hb1⟩)
    have B1 : Below w.heap.size w w1 := by exact eX
    clear hb1
    go_wp2
    go_loop [8, 19] (fun v i => v = .slice none 0 0 ∧ i = .int .i64 0) (fun _ _ => 0)
    case atStart => exact ⟨rfl, rfl⟩
    case round =>
      obtain ⟨rfl, rfl⟩ := hrel
      go_wp2
      go_ret2
      exact ⟨_, rfl, by rw [XL.out]; exact own_nil _ _, B1⟩
set_option maxHeartbeats 8000000 in
theorem implNetLoad_any (f : Nat → Value) (z : BlkD) (x : Int) (w : World) (h : BlkF w w.heap.size f z) :
    Calls Tryz.prog 18 #[.agg #[f 0, f 1, f 2, f 3, f 4], .int .i64 x] w fun e w' => e = .returned (.tuple #[.int .i64 (netLd z x), .int .i64 (blkCode z x)]) ∧ Below w.heap.size w w' := by
  by_cases hc : blkCode z x = 0
  · obtain ⟨k, rfl, hb, hk⟩ := code_get hc
    have HB := Lib.hid (fun (w1 : World) (hb' : Below w.heap.size w w1) => nodes_yes f z k w1 (h.up hb') hb hk)
    rw [(code_yes hc).2.2]
    obtain ⟨n, hn⟩ : ∃ n, n = endN z k := ⟨_, rfl⟩
    have ⟨n1, n8⟩ := endN_bd hb hk
    rw [← hn] at n1 n8
    have HN := Lib.hid hn
    obtain ⟨p0, q0, p1, q1, p2, q2, p3, q3, p4, q4, e0, e1, e2, e3, e4⟩ := h.five
    rw [e0, e1, e2, e3, e4] at HB
    rw [hc, e0, e1, e2, e3, e4]
    clear e0 e1 e2 e3 e4 h hb hk hc hn
    go_enter Tryz.func18, Tryz.ntmps18
    go_wp2_with fail
    (go_at_call 33; refine (HB.out _ eX).mono ?_; rintro e w1 ⟨v, ad, rfl, hN, hb1⟩)
    have hN := (show NodeL w1 _ v n ad (pa (wrn z.wires k)) (iv (wrn z.wires k).res) (lodF z k) by rw [HN.out]; exact hN)
    obtain ⟨g, cg, rfl, _, _, hgc⟩ := hN.at (show 0 < n by omega)
    have yg := hgc 0 (by omega)
    obtain ⟨_, _, _, yl, _⟩ := hN.2.1.1 0 (by omega)
    have B1 : Below w.heap.size w w1 := by exact eX
    have i1 : 0 < n := by omega
    have i2 : (0 : Int) < (n : Int) := by omega
    clear hN hgc hb1
    go_wp2
    go_ret2
    exact ⟨rfl, B1⟩
  · have HB := Lib.hid (fun (w1 : World) (hb' : Below w.heap.size w w1) => nodes_no f z x w1 (h.up hb') hc)
    have hp := code_pos z x
    rw [(code_no hc).2.2]
    obtain ⟨p0, q0, p1, q1, p2, q2, p3, q3, p4, q4, e0, e1, e2, e3, e4⟩ := h.five
    obtain ⟨c, hcc⟩ : ∃ c, c = blkCode z x := ⟨_, rfl⟩
    rw [← hcc, e0, e1, e2, e3, e4] at HB
    rw [← hcc] at hc hp
    rw [← hcc, e0, e1, e2, e3, e4]
    clear e0 e1 e2 e3 e4 h hcc
    have hne : (c != 0) = true := by simpa using hc
    have hne2 : (c == 0) = false := by simpa using hc
    clear hp hc
    go_enter Tryz.func18, Tryz.ntmps18
    go_wp2_with fail
    (go_at_call 33; refine (HB.out _ eX).mono ?_; rintro e w1 ⟨rfl, hb1⟩)
    have B1 : Below w.heap.size w w1 := by exact eX
    clear hb1
    go_wp2
    go_ret2
    exact ⟨rfl, B1⟩
end Go.Proofs.YtodgpjolkfkcpaaGreat
namespace Go.Proofs.YtodgpjolkfkcpaaGreat
open Go.ChangeShapes Go.WideShapes Go.ChangeAt Go.RowKit Go.Deep
set_option linter.unusedVariables false
set_option linter.unusedSimpArgs false
set_option maxRecDepth 100000
theorem keep11 {w w0 w1 : World} {L g0 g1 g2 g3 g4 g5 g6 g7 g8 g9 g10 o0 o1 o2 o3 o4 o5 o6 o7 o8 o9 o10 : Nat} {v0 v1 v2 v3 v4 v5 v6 v7 v8 v9 v10 : Value} (h : w0.cell? ⟨g0, o0, none⟩ = some v0 ∧ w0.cell? ⟨g1, o1, none⟩ = some v1 ∧ w0.cell? ⟨g2, o2, none⟩ = some v2 ∧ w0.cell? ⟨g3, o3, none⟩ = some v3 ∧ w0.cell? ⟨g4, o4, none⟩ = some v4 ∧ w0.cell? ⟨g5, o5, none⟩ = some v5 ∧ w0.cell? ⟨g6, o6, none⟩ = some v6 ∧ w0.cell? ⟨g7, o7, none⟩ = some v7 ∧ w0.cell? ⟨g8, o8, none⟩ = some v8 ∧ w0.cell? ⟨g9, o9, none⟩ = some v9 ∧ w0.cell? ⟨g10, o10, none⟩ = some v10 ∧ Below w.heap.size w w0 ∧ L < w0.heap.size) (hb : Below w0.heap.size w0 w1) : w1.cell? ⟨g0, o0, none⟩ = some v0 ∧ w1.cell? ⟨g1, o1, none⟩ = some v1 ∧ w1.cell? ⟨g2, o2, none⟩ = some v2 ∧ w1.cell? ⟨g3, o3, none⟩ = some v3 ∧ w1.cell? ⟨g4, o4, none⟩ = some v4 ∧ w1.cell? ⟨g5, o5, none⟩ = some v5 ∧ w1.cell? ⟨g6, o6, none⟩ = some v6 ∧ w1.cell? ⟨g7, o7, none⟩ = some v7 ∧ w1.cell? ⟨g8, o8, none⟩ = some v8 ∧ w1.cell? ⟨g9, o9, none⟩ = some v9 ∧ w1.cell? ⟨g10, o10, none⟩ = some v10 ∧ Below w.heap.size w w1 ∧ L < w1.heap.size := by
  obtain ⟨h0, h1, h2, h3, h4, h5, h6, h7, h8, h9, h10, hw, hL⟩ := h
  exact ⟨cell_keep h0 hb, cell_keep h1 hb, cell_keep h2 hb, cell_keep h3 hb, cell_keep h4 hb, cell_keep h5 hb, cell_keep h6 hb, cell_keep h7 hb, cell_keep h8 hb, cell_keep h9 hb, cell_keep h10 hb, ext_trans hw hb, Nat.lt_of_lt_of_le hL hb.size⟩
theorem keep11s {w w0 : World} {L g0 g1 g2 g3 g4 g5 g6 g7 g8 g9 g10 o0 o1 o2 o3 o4 o5 o6 o7 o8 o9 o10 : Nat} {v0 v1 v2 v3 v4 v5 v6 v7 v8 v9 v10 : Value} {p : Addr} {u : Value} (h : w0.cell? ⟨g0, o0, none⟩ = some v0 ∧ w0.cell? ⟨g1, o1, none⟩ = some v1 ∧ w0.cell? ⟨g2, o2, none⟩ = some v2 ∧ w0.cell? ⟨g3, o3, none⟩ = some v3 ∧ w0.cell? ⟨g4, o4, none⟩ = some v4 ∧ w0.cell? ⟨g5, o5, none⟩ = some v5 ∧ w0.cell? ⟨g6, o6, none⟩ = some v6 ∧ w0.cell? ⟨g7, o7, none⟩ = some v7 ∧ w0.cell? ⟨g8, o8, none⟩ = some v8 ∧ w0.cell? ⟨g9, o9, none⟩ = some v9 ∧ w0.cell? ⟨g10, o10, none⟩ = some v10 ∧ Below w.heap.size w w0 ∧ L < w0.heap.size) (hw : w.heap.size ≤ L + 1 := by first | assumption | (simp; done) | (simp; omega) | omega) (hp : L < p.block := by first | assumption | (simp; done) | (simp; omega) | omega) (q0 : g0 ≤ L := by first | assumption | (simp; done) | (simp; omega) | omega) (q1 : g1 ≤ L := by first | assumption | (simp; done) | (simp; omega) | omega) (q2 : g2 ≤ L := by first | assumption | (simp; done) | (simp; omega) | omega) (q3 : g3 ≤ L := by first | assumption | (simp; done) | (simp; omega) | omega) (q4 : g4 ≤ L := by first | assumption | (simp; done) | (simp; omega) | omega) (q5 : g5 ≤ L := by first | assumption | (simp; done) | (simp; omega) | omega) (q6 : g6 ≤ L := by first | assumption | (simp; done) | (simp; omega) | omega) (q7 : g7 ≤ L := by first | assumption | (simp; done) | (simp; omega) | omega) (q8 : g8 ≤ L := by first | assumption | (simp; done) | (simp; omega) | omega) (q9 : g9 ≤ L := by first | assumption | (simp; done) | (simp; omega) | omega) (q10 : g10 ≤ L := by first | assumption | (simp; done) | (simp; omega) | omega) : (w0.setCell p u).cell? ⟨g0, o0, none⟩ = some v0 ∧ (w0.setCell p u).cell? ⟨g1, o1, none⟩ = some v1 ∧ (w0.setCell p u).cell? ⟨g2, o2, none⟩ = some v2 ∧ (w0.setCell p u).cell? ⟨g3, o3, none⟩ = some v3 ∧ (w0.setCell p u).cell? ⟨g4, o4, none⟩ = some v4 ∧ (w0.setCell p u).cell? ⟨g5, o5, none⟩ = some v5 ∧ (w0.setCell p u).cell? ⟨g6, o6, none⟩ = some v6 ∧ (w0.setCell p u).cell? ⟨g7, o7, none⟩ = some v7 ∧ (w0.setCell p u).cell? ⟨g8, o8, none⟩ = some v8 ∧ (w0.setCell p u).cell? ⟨g9, o9, none⟩ = some v9 ∧ (w0.setCell p u).cell? ⟨g10, o10, none⟩ = some v10 ∧ Below w.heap.size w (w0.setCell p u) ∧ L < (w0.setCell p u).heap.size := by
  obtain ⟨h0, h1, h2, h3, h4, h5, h6, h7, h8, h9, h10, hb, hL⟩ := h
  exact ⟨cell_keep_set h0 (by omega), cell_keep_set h1 (by omega), cell_keep_set h2 (by omega), cell_keep_set h3 (by omega), cell_keep_set h4 (by omega), cell_keep_set h5 (by omega), cell_keep_set h6 (by omega), cell_keep_set h7 (by omega), cell_keep_set h8 (by omega), cell_keep_set h9 (by omega), cell_keep_set h10 (by omega), hb.setCell (by omega) u, by simpa [World.setCell] using hL⟩
theorem keep11n {w w0 : World} {L g0 g1 g2 g3 g4 g5 g6 g7 g8 g9 g10 o0 o1 o2 o3 o4 o5 o6 o7 o8 o9 o10 : Nat} {v0 v1 v2 v3 v4 v5 v6 v7 v8 v9 v10 : Value} {p : Addr} {u : Value} (h : w0.cell? ⟨g0, o0, none⟩ = some v0 ∧ w0.cell? ⟨g1, o1, none⟩ = some v1 ∧ w0.cell? ⟨g2, o2, none⟩ = some v2 ∧ w0.cell? ⟨g3, o3, none⟩ = some v3 ∧ w0.cell? ⟨g4, o4, none⟩ = some v4 ∧ w0.cell? ⟨g5, o5, none⟩ = some v5 ∧ w0.cell? ⟨g6, o6, none⟩ = some v6 ∧ w0.cell? ⟨g7, o7, none⟩ = some v7 ∧ w0.cell? ⟨g8, o8, none⟩ = some v8 ∧ w0.cell? ⟨g9, o9, none⟩ = some v9 ∧ w0.cell? ⟨g10, o10, none⟩ = some v10 ∧ Below w.heap.size w w0 ∧ L < w0.heap.size) (hp : w.heap.size ≤ p.block := by omega) (q0 : ¬ g0 = p.block := by first | assumption | omega) (q1 : ¬ g1 = p.block := by first | assumption | omega) (q2 : ¬ g2 = p.block := by first | assumption | omega) (q3 : ¬ g3 = p.block := by first | assumption | omega) (q4 : ¬ g4 = p.block := by first | assumption | omega) (q5 : ¬ g5 = p.block := by first | assumption | omega) (q6 : ¬ g6 = p.block := by first | assumption | omega) (q7 : ¬ g7 = p.block := by first | assumption | omega) (q8 : ¬ g8 = p.block := by first | assumption | omega) (q9 : ¬ g9 = p.block := by first | assumption | omega) (q10 : ¬ g10 = p.block := by first | assumption | omega) : (w0.setCell p u).cell? ⟨g0, o0, none⟩ = some v0 ∧ (w0.setCell p u).cell? ⟨g1, o1, none⟩ = some v1 ∧ (w0.setCell p u).cell? ⟨g2, o2, none⟩ = some v2 ∧ (w0.setCell p u).cell? ⟨g3, o3, none⟩ = some v3 ∧ (w0.setCell p u).cell? ⟨g4, o4, none⟩ = some v4 ∧ (w0.setCell p u).cell? ⟨g5, o5, none⟩ = some v5 ∧ (w0.setCell p u).cell? ⟨g6, o6, none⟩ = some v6 ∧ (w0.setCell p u).cell? ⟨g7, o7, none⟩ = some v7 ∧ (w0.setCell p u).cell? ⟨g8, o8, none⟩ = some v8 ∧ (w0.setCell p u).cell? ⟨g9, o9, none⟩ = some v9 ∧ (w0.setCell p u).cell? ⟨g10, o10, none⟩ = some v10 ∧ Below w.heap.size w (w0.setCell p u) ∧ L < (w0.setCell p u).heap.size := by
  obtain ⟨h0, h1, h2, h3, h4, h5, h6, h7, h8, h9, h10, hb, hL⟩ := h
  exact ⟨by rw [World.cell?_setCell_other _ _ _ _ (fun hc => q0 (by rw [hc]))]; exact h0, by rw [World.cell?_setCell_other _ _ _ _ (fun hc => q1 (by rw [hc]))]; exact h1, by rw [World.cell?_setCell_other _ _ _ _ (fun hc => q2 (by rw [hc]))]; exact h2, by rw [World.cell?_setCell_other _ _ _ _ (fun hc => q3 (by rw [hc]))]; exact h3, by rw [World.cell?_setCell_other _ _ _ _ (fun hc => q4 (by rw [hc]))]; exact h4, by rw [World.cell?_setCell_other _ _ _ _ (fun hc => q5 (by rw [hc]))]; exact h5, by rw [World.cell?_setCell_other _ _ _ _ (fun hc => q6 (by rw [hc]))]; exact h6, by rw [World.cell?_setCell_other _ _ _ _ (fun hc => q7 (by rw [hc]))]; exact h7, by rw [World.cell?_setCell_other _ _ _ _ (fun hc => q8 (by rw [hc]))]; exact h8, by rw [World.cell?_setCell_other _ _ _ _ (fun hc => q9 (by rw [hc]))]; exact h9, by rw [World.cell?_setCell_other _ _ _ _ (fun hc => q10 (by rw [hc]))]; exact h10, hb.setCell hp u, by simpa [World.setCell] using hL⟩
theorem OwnS.put {w : World} {B g n cap i : Nat} {xs : List Int} {x : Int} (h : OwnS w B (.slice (some ⟨g, 0, none⟩) n cap) xs) (hi : i < xs.length) : OwnS (w.setCell ⟨g, i, none⟩ (.int .i64 x)) B (.slice (some ⟨g, 0, none⟩) n cap) (xs.set i x) := by
  obtain ⟨h0, a, c, e, h⟩ := h
  obtain ⟨g', e', hB, hg, hx⟩ := h (by omega)
  simp only [Value.slice.injEq] at e
  obtain ⟨e1, rfl, rfl⟩ := e
  rw [e'] at e1
  obtain rfl : g = g' := by injection e1 with e1; injection e1
  refine ⟨by simpa using h0, _, cap, by simp, fun _ => ⟨g, rfl, hB, by simpa [World.setCell] using hg, fun j hj => ?_⟩⟩
  have hj' : j < xs.length := by simpa using hj
  obtain ⟨a1, a2⟩ := hx j hj'
  refine ⟨?_, by simpa using a2⟩
  by_cases q : j = i
  · subst q
    rw [cs_same a1]
    simp [iv, List.getD, hj']
  · rw [cs_other (fun hc => q hc.symm), a1]
    simp [iv, List.getD, hj', q, show ¬ i = j by omega]
theorem OwnS.cells {w : World} {B n cap : Nat} {a : Option Addr} {xs : List Int} (h : OwnS w B (.slice a n cap) xs) (h0 : 0 < xs.length) : n = xs.length ∧ ∃ g, a = some ⟨g, 0, none⟩ ∧ B ≤ g ∧ g < w.heap.size ∧ ∀ i, i < xs.length → w.cell? ⟨g, i, none⟩ = some (.int .i64 (iv xs i)) ∧ w.frozen? ⟨g, i, none⟩ = false := by
  obtain ⟨_, a', c, e, h⟩ := h
  obtain ⟨g, e', hB, hg, hx⟩ := h h0
  simp only [Value.slice.injEq] at e
  obtain ⟨e1, e2, _⟩ := e
  exact ⟨e2, g, by rw [e1, e'], hB, hg, hx⟩
theorem grown_trans {a b c : World} {row : Option Nat} (h : a.grownBy b row) (k : b.grownBy c row) : a.grownBy c row :=
  ⟨k.os.trans h.os, k.tape.trans h.tape, k.output.trans h.output, Nat.le_trans h.size k.size, fun i hi hne => (k.block i (Nat.lt_of_lt_of_le hi h.size) hne).trans (h.block i hi hne)⟩
theorem grown_under {a b : World} (h : Below a.heap.size a b) (row : Option Nat) : a.grownBy b row := ⟨h.os, h.tape, h.output, h.size, fun i hi _ => h.block i hi⟩
theorem OwnS.grown {w w' : World} {B : Nat} {v : Value} {xs : List Int} {row : Option Nat} (h : OwnS w B v xs) (hg : w.grownBy w' row) (hne : ∀ g, Blk v g → some g ≠ row) : OwnS w' B v xs := by
  obtain ⟨h0, a, cap, rfl, h⟩ := h
  refine ⟨h0, a, cap, rfl, fun hp => ?_⟩
  obtain ⟨g, rfl, hB, hgl, hx⟩ := h hp
  have hblk := hg.block g hgl (hne g ⟨0, _, _, rfl, hp⟩)
  exact ⟨g, rfl, hB, Nat.lt_of_lt_of_le hgl hg.size, fun i hi => ⟨by rw [World.cell?_of_block (w := w) hblk]; exact (hx i hi).1, by rw [World.frozen?_of_block (w := w) hblk]; exact (hx i hi).2⟩⟩
/-- The model's loads before the sweep: those of the first m sinks. -/
def evS (z : BlkD) (k m : Nat) : List (Nat × Int) := evF (fun i => i) (iv (wrn z.wires k).cap) (endN z k) ++ evF (fun i => (iv (wrn z.wires k).sink i).toNat) (capN z k) m
def rawS (z : BlkD) (k m : Nat) : Nat → Int := evB (evS z k m) (fun _ => 0)
theorem rawS_succ (z : BlkD) (k m : Nat) : rawS z k (m + 1) = bump (rawS z k m) (iv (wrn z.wires k).sink m).toNat (capN z k m) := by
  rw [rawS, evS, evF_succ, ← List.append_assoc, evB_snoc]; rfl
theorem rawS_zero {z : BlkD} {k : Nat} (h : blkB z = true) (hk : k < z.wires.length) : rowOf (endN z k) (rawS z k 0) = (wrn z.wires k).cap := by
  have ⟨_, _, _, lc, _⟩ := wire_nums (wire_at h hk)
  have e : rowOf (endN z k) (rawS z k 0) = rowOf (endN z k) (iv (wrn z.wires k).cap) := rowOf_ext fun i hi => by
    have : evS z k 0 = evF (fun i => i) (iv (wrn z.wires k).cap) (endN z k) := by simp [evS, evF]
    rw [rawS, this, evB_caps, if_pos hi]
  rw [e, endN, ← lc, rowOf_iv]
theorem rawS_facts {z : BlkD} {k m : Nat} (h : blkB z = true) (hk : k < z.wires.length) (hm : m ≤ (wrn z.wires k).sink.length) : (∀ j, 0 ≤ rawS z k m j) ∧ sumTo (endN z k) (rawS z k m) ≤ 4000 + m * 500 ∧ ∀ e ∈ evS z k m, e.1 < endN z k := by
  have hw := wire_at h hk
  obtain ⟨_, l8, _, _, ls, _, _, _, _, qc, qs⟩ := wire_nums hw
  have hb : ∀ i, i < m → 0 ≤ capN z k i ∧ capN z k i ≤ 500 := fun i hi => capN_bd h (by omega)
  have hin : ∀ e ∈ evS z k m, e.1 < endN z k := by
    intro e he
    rcases List.mem_append.1 he with he | he
    · exact evF_mem (p := fun e => e.1 < endN z k) (fun i hi => hi) e he
    · exact evF_mem (p := fun e => e.1 < endN z k) (fun i hi => by have := qs i (by omega); show (iv (wrn z.wires k).sink i).toNat < (wrn z.wires k).parent.length; omega) e he
  have hnn : ∀ e ∈ evS z k m, 0 ≤ e.2 := by
    intro e he
    rcases List.mem_append.1 he with he | he
    · exact evF_mem (p := fun e => 0 ≤ e.2) (fun i hi => (qc i).1) e he
    · exact evF_mem (p := fun e => 0 ≤ e.2) (fun i hi => (hb i hi).1) e he
  refine ⟨evB_nn hnn (fun _ => Int.le_refl _), ?_, hin⟩
  have z0 : ∀ n, sumTo n (fun _ => (0 : Int)) = 0 := fun n => by induction n with | zero => rfl | succ n ih => simp [sumTo, ih]
  have t1 := totE_bd 500 (evF (fun i => i) (iv (wrn z.wires k).cap) (endN z k)) (evF_mem (p := fun e => 0 ≤ e.2 ∧ e.2 ≤ 500) (fun i _ => qc i))
  have t2 := totE_bd 500 (evF (fun i => (iv (wrn z.wires k).sink i).toNat) (capN z k) m) (evF_mem (p := fun e => 0 ≤ e.2 ∧ e.2 ≤ 500) (fun i hi => hb i hi))
  rw [evF_len] at t1 t2
  have l8' : endN z k ≤ 8 := l8
  rw [rawS, evB_sum hin, z0, evS, totE_app]
  omega
/-- The sweep at node m: what it will lead to, and its bounds. -/
def SwR (P : Nat → Nat) (R V : Nat → Int) (m : Nat) : Prop := sweep P (m + 1) V = R ∧ (∀ k, 0 ≤ V k) ∧ sumTo (m + 1) V ≤ 54000
theorem sw_next {P : Nat → Nat} {R V : Nat → Int} {m : Nat} (h : SwR P R V (m + 1)) (hp : P (m + 1) < m + 1) : SwR P R (bump V (P (m + 1)) (V (m + 1))) m ∧ V (P (m + 1)) + V (m + 1) ≤ 54000 := by
  obtain ⟨h1, h2, h3⟩ := h
  have e : sweep P (m + 1 + 1) V = sweep P (m + 1) (bump V (P (m + 1)) (V (m + 1))) := by
    show (if m + 1 = 0 then V else _) = _
    rw [if_neg (Nat.succ_ne_zero m)]
  refine ⟨⟨by rw [← e]; exact h1, bump_nn h2 (h2 _), ?_⟩, ?_⟩
  · rw [sumTo_in hp]; exact h3
  · have := sumTo_two h2 hp; omega
theorem sw_prev {P : Nat → Nat} {R V : Nat → Int} {m : Nat} (h : SwR P R V m) (h0 : ¬ m = 0) (hp : P m < m) : SwR P R (bump V (P m) (V m)) (m - 1) ∧ V (P m) + V m ≤ 54000 := by
  rcases m with _ | m
  · exact absurd rfl h0
  · exact sw_next h hp
theorem sw_end {P : Nat → Nat} {R V : Nat → Int} (h : SwR P R V 0) : V = R := h.1
theorem sw_start {z : BlkD} {k : Nat} (h : blkB z = true) (hk : k < z.wires.length) : SwR (pa (wrn z.wires k)) (lodF z k) (rawS z k (wrn z.wires k).sink.length) (endN z k - 1) := by
  have hw := wire_at h hk
  obtain ⟨l1, l8, _, _, ls, q0, _, qp, _⟩ := wire_nums hw
  have hn1 : 1 ≤ endN z k := l1
  have l100 := snks_len h k
  obtain ⟨f1, f2, f3⟩ := rawS_facts h hk (Nat.le_refl (wrn z.wires k).sink.length)
  have e : endN z k - 1 + 1 = endN z k := by omega
  refine ⟨?_, f1, ?_⟩
  · rw [e, rawS, sweep_ev _ (pa_zero q0) _ (fun i h0 hi => by have := qp i h0 hi; simp only [pa]; omega) _ _ f3, sweep_zero]
    simp only [evS, lodF, ldS, ldN, evU, List.foldl_append]
    rfl
  · rw [e]; omega
theorem specCode_any (f : Nat → Value) (z : BlkD) (x : Int) (w : World) (h : BlkF w w.heap.size f z) :
    Calls Tryz.prog 28 #[.agg #[f 0, f 1, f 2, f 3, f 4], .int .i64 x] w fun e w' => e = .returned (.int .i64 (blkCode z x)) ∧ Below w.heap.size w w' := by
  have HB := Lib.hid (fun (w1 : World) (hb : Below w.heap.size w w1) => specIsBlock_any f z w1 (h.up hb))
  obtain ⟨p0, q0, p1, q1, p2, q2, p3, q3, p4, q4, e0, e1, e2, e3, e4⟩ := h.five
  have ln4 : z.wires.length ≤ 9223372036854775807 := by obtain ⟨F, hc, _⟩ := h.2.2; exact hc.1
  rw [e0, e1, e2, e3, e4] at HB
  rw [e0, e1, e2, e3, e4]
  clear e0 e1 e2 e3 e4 h
  cases hb : blkB z
  · have hQ : blkCode z x = 1 := by simp [blkCode, hb]
    rw [hQ]
    rw [hb] at HB
    clear hQ hb
    go_enter Tryz.func28, Tryz.ntmps28
    go_wp2_with fail
    (go_at_call 56; refine (HB.out _ eX).mono ?_; rintro e w1 ⟨rfl, hb⟩; obtain ⟨hc, hf⟩ := bcell hb; have hz := hb.size; (try simp at hz); (try (have hz := Nat.lt_of_succ_le hz)); (try (have y0 : w.heap.size ≤ w1.heap.size := by omega)); (try (have z0 : w.heap.size < w1.heap.size := by omega)); (try (have z1 : w.heap.size + 1 < w1.heap.size := by omega)); (try (have z2 : w.heap.size + 1 + 1 < w1.heap.size := by omega)); (try (have z3 : w.heap.size + 1 + 1 + 1 < w1.heap.size := by omega)); (try (have z4 : w.heap.size + 1 + 1 + 1 + 1 < w1.heap.size := by omega)))
    go_wp2
    go_ret
    exact ⟨rfl, eX⟩
  · rw [hb] at HB
    cases hi : inB x 0 ((z.wires.length : Int) - 1)
    · have hQ : blkCode z x = 2 := by simp [blkCode, hb, hi]
      rw [hQ]
      clear hQ hb
      go_enter Tryz.func28, Tryz.ntmps28
      go_wp2_with fail
      (go_at_call 56; refine (HB.out _ eX).mono ?_; rintro e w1 ⟨rfl, hb⟩; obtain ⟨hc, hf⟩ := bcell hb; have hz := hb.size; (try simp at hz); (try (have hz := Nat.lt_of_succ_le hz)); (try (have y0 : w.heap.size ≤ w1.heap.size := by omega)); (try (have z0 : w.heap.size < w1.heap.size := by omega)); (try (have z1 : w.heap.size + 1 < w1.heap.size := by omega)); (try (have z2 : w.heap.size + 1 + 1 < w1.heap.size := by omega)); (try (have z3 : w.heap.size + 1 + 1 + 1 < w1.heap.size := by omega)); (try (have z4 : w.heap.size + 1 + 1 + 1 + 1 < w1.heap.size := by omega)))
      go_wp2_with (go_at_call 46; refine (l01In_any _ _ _ _).mono ?_; rintro e w' ⟨rfl, hw'⟩; rw [hw']; clear hw' w')
      go_ret
      exact ⟨rfl, eX⟩
    · have hQ : blkCode z x = 0 := by simp [blkCode, hb, hi]
      rw [hQ]
      clear hQ hb
      go_enter Tryz.func28, Tryz.ntmps28
      go_wp2_with fail
      (go_at_call 56; refine (HB.out _ eX).mono ?_; rintro e w1 ⟨rfl, hb⟩; obtain ⟨hc, hf⟩ := bcell hb; have hz := hb.size; (try simp at hz); (try (have hz := Nat.lt_of_succ_le hz)); (try (have y0 : w.heap.size ≤ w1.heap.size := by omega)); (try (have z0 : w.heap.size < w1.heap.size := by omega)); (try (have z1 : w.heap.size + 1 < w1.heap.size := by omega)); (try (have z2 : w.heap.size + 1 + 1 < w1.heap.size := by omega)); (try (have z3 : w.heap.size + 1 + 1 + 1 < w1.heap.size := by omega)); (try (have z4 : w.heap.size + 1 + 1 + 1 + 1 < w1.heap.size := by omega)))
      go_wp2_with (go_at_call 46; refine (l01In_any _ _ _ _).mono ?_; rintro e w' ⟨rfl, hw'⟩; rw [hw']; clear hw' w')
      go_ret
      exact ⟨rfl, eX⟩
--% spec.l07Loads
set_option maxHeartbeats 16000000 in
theorem specLoads_any (f : Nat → Value) (z : BlkD) (k : Nat) (w : World) (h : BlkF w w.heap.size f z) (hb : blkB z = true) (hk : k < z.wires.length) :
    Calls Tryz.prog 29 #[.agg #[f 0, f 1, f 2, f 3, f 4], .int .i64 (k : Int)] w (ToInts (rowOf (endN z k) (lodF z k)) w) := by
  have hd := (blk_get hb).1
  have HPV := Lib.hid (fun (w1 : World) (hb' : Below w.heap.size w w1) => specPlacesV_any (vec [f 1, f 2, f 3]) z.lib z.des w1 (h.2.1.up hb') hd)
  have HSN := Lib.hid (fun (w1 : World) (hb' : Below w.heap.size w w1) => specSinks_any (vec [f 1, f 2, f 3]) z.lib z.des (k : Int) w1 (h.2.1.up hb') hd)
  have HCP := Lib.hid (fun (j : Nat) (hj : j < (places z.lib z.des).length) (w1 : World) (hb' : Below w.heap.size w w1) => specCap_any (f 0) (vec [f 1, f 2, f 3]) z.lib z.des j w1 (h.1.up hb') (h.2.1.up hb') hd hj)
  have hwire := wire_at hb hk
  have ⟨n1, n8, lr, lc, ls, q0, _, qp, qr, _, qs⟩ := wire_nums hwire
  have LS := Lib.hid ls
  have QS := Lib.hid qs
  have QP := Lib.hid qp
  have ls100 := snks_len hb k
  have HP := Lib.hid (placesM hd)
  have hbl := Lib.hid hb
  have hkk := Lib.hid hk
  have SW := Lib.hid (sw_start hb hk)
  have RZ := Lib.hid (rawS_zero hb hk)
  obtain ⟨p0, q0, p1, q1, p2, q2, p3, q3, p4, q4, e0, e1, e2, e3, e4⟩ := h.five
  obtain ⟨F, hc, hf⟩ := h.2.2
  rw [e4] at hc
  have HC := Lib.hid hc
  have ⟨x0, x1, x2, x3⟩ := hf k hk
  obtain ⟨s0, r0, f0⟩ := x0.slice; obtain ⟨s1, r1, f1⟩ := x1.slice; obtain ⟨s2, r2, f2⟩ := x2.slice; obtain ⟨s3, r3, f3⟩ := x3.slice
  rw [f0] at x0; rw [f2] at x2; rw [f3] at x3
  have H0 := Lib.hid x0; have H2 := Lib.hid x2; have H3 := Lib.hid x3
  have HF := Lib.hid (And.intro f0 (And.intro f1 (And.intro f2 f3)))
  rw [e1, e2, e3] at HPV HSN
  rw [e0, e1, e2, e3] at HCP
  rw [e0, e1, e2, e3, e4]
  have hkl : (k : Int) < (z.wires.length : Int) := by omega
  have hk0 : (0 : Int) ≤ (k : Int) := by omega
  obtain ⟨bw, ow, rfl, hlw, hxw⟩ := hc.at (Below.refl _ _) hk
  have y0 := hxw 0 (by omega); have y1 := hxw 1 (by omega); have y2 := hxw 2 (by omega); have y3 := hxw 3 (by omega)
  simp only [Nat.add_zero] at y0
  rw [f0] at y0; rw [f1] at y1; rw [f2] at y2; rw [f3] at y3
  have LC := Lib.hid lc
  clear e0 e1 e2 e3 e4 h hb hk hc hf x0 x1 x2 x3 f0 f1 f2 f3 qs qr qp lr lc ls hd hxw hwire
  obtain ⟨n, hn⟩ : ∃ n, n = endN z k := ⟨_, rfl⟩
  have HN := Lib.hid hn
  have n1 : 1 ≤ n := by rw [hn]; exact n1
  have n8 : n ≤ 8 := by rw [hn]; exact n8
  rw [← hn] at SW RZ ⊢
  clear hn
  unfold PlacesV at HPV
  unfold ToInts
  obtain ⟨W, hW⟩ : ∃ W, W = (w.alloc (Obj.cells #[.slice p0 z.lib.length q0, .slice p1 z.des.insts.length q1, .slice p2 z.des.nets.length q2, .slice p3 z.des.ports.length q3, .slice (some ⟨bw, ow, none⟩) z.wires.length q4] 46)).alloc (Obj.cells #[.slice s0 (wrn z.wires k).parent.length r0, .slice s1 (wrn z.wires k).res.length r1, .slice s2 (wrn z.wires k).cap.length r2, .slice s3 (wrn z.wires k).sink.length r3] 85) := ⟨_, rfl⟩
  have bW : Below w.heap.size w W := by rw [hW]; exact eX
  have zW : W.heap.size = w.heap.size + 2 := by rw [hW]; simp
  have a0 : W.cell? ⟨w.heap.size, 0, none⟩ = some (.slice p0 z.lib.length q0) := by rw [hW]; simp [go_sem]
  have a1 : W.cell? ⟨w.heap.size, 1, none⟩ = some (.slice p1 z.des.insts.length q1) := by rw [hW]; simp [go_sem]
  have a2 : W.cell? ⟨w.heap.size, 2, none⟩ = some (.slice p2 z.des.nets.length q2) := by rw [hW]; simp [go_sem]
  have a3 : W.cell? ⟨w.heap.size, 3, none⟩ = some (.slice p3 z.des.ports.length q3) := by rw [hW]; simp [go_sem]
  have a5 : W.cell? ⟨w.heap.size + 1, 0, none⟩ = some (.slice s0 (wrn z.wires k).parent.length r0) := by rw [hW]; simp [go_sem]
  have a6 : W.cell? ⟨w.heap.size + 1, 2, none⟩ = some (.slice s2 (wrn z.wires k).cap.length r2) := by rw [hW]; simp [go_sem]
  have a7 : W.cell? ⟨w.heap.size + 1, 3, none⟩ = some (.slice s3 (wrn z.wires k).sink.length r3) := by rw [hW]; simp [go_sem]
  have HW := Lib.hid hW
  have ZW := Lib.hid zW
  have BW := Lib.hid bW
  have lw0 : w.heap.size < W.heap.size := by omega
  have lw1 : w.heap.size + 1 < W.heap.size := by omega
  clear hW zW bW
  go_enter Tryz.func29, Tryz.ntmps29
  go_wp2_with fail
  rw [← HW.out]
  (go_at_call 57; refine (ints_any (.slice s2 (wrn z.wires k).cap.length r2) (wrn z.wires k).cap W (H2.out.keep BW.out BW.out.size) (by have := LC.out; have := HN.out; unfold endN at this; omega) (by have := LC.out; have := HN.out; unfold endN at this; omega)).mono ?_; rintro e w2 ⟨vo, rfl, hO, hb2⟩)
  have bW2 := Lib.hid hb2
  obtain ⟨ao, co, rfl⟩ := hO.slice
  have lenO : (wrn z.wires k).cap.length = n := by have := LC.out; have := HN.out; unfold endN at this; omega
  obtain ⟨-, go, rfl, goB, gol, _⟩ := hO.cells (by omega)
  have b2w : Below w.heap.size w w2 := BW.out.trans (hb2.mono BW.out.size)
  have c0 := cell_keep a0 hb2; have c1 := cell_keep a1 hb2; have c2 := cell_keep a2 hb2; have c3 := cell_keep a3 hb2; have c5 := cell_keep a5 hb2; have c7 := cell_keep a7 hb2
  have HO := Lib.hid hO
  clear hO a0 a1 a2 a3 a5 a6 a7 hb2
  go_wp2_with fail
  (go_at_call 58; refine (HPV.out w2 b2w).mono ?_; rintro e w3 ⟨ap, cp, rfl, hPM, hGP, hb3⟩)
  have b3w : Below w.heap.size w w3 := b2w.trans (hb3.mono b2w.size)
  have z23 := hb3.size
  have d0 := cell_keep c0 hb3; have d1 := cell_keep c1 hb3; have d2 := cell_keep c2 hb3; have d3 := cell_keep c3 hb3; have d5 := cell_keep c5 hb3; have d7 := cell_keep c7 hb3
  have HO3 := Lib.hid (HO.out.keep hb3)
  have HPM := Lib.hid hPM
  have HGP := Lib.hid hGP.blk
  clear c0 c1 c2 c3 c5 c7 HO hPM hGP hb3
  go_wp2_with fail
  (go_at_call 59; refine (HSN.out w3 b3w).mono ?_; rintro e w4 ⟨us, rfl, hS, hb4⟩)
  obtain ⟨asn, cs, rfl⟩ := hS.slice
  have b4w : Below w.heap.size w w4 := b3w.trans (hb4.mono b3w.size)
  have z34 := hb4.size
  have a0 := cell_keep d0 hb4; have a1 := cell_keep d1 hb4; have a2 := cell_keep d2 hb4; have a3 := cell_keep d3 hb4; have a5 := cell_keep d5 hb4; have a7 := cell_keep d7 hb4
  have HO4 := Lib.hid (show OwnS w4 W.heap.size (.slice (some ⟨go, 0, none⟩) n co) (rowOf n (rawS z k 0)) by rw [RZ.out, ← lenO]; exact HO3.out.keep hb4)
  have HPM4 := Lib.hid (HPM.out.up hb4)
  have HS := Lib.hid hS
  (try rw [lenO])
  clear d0 d1 d2 d3 d5 d7 HO3 HPM hS hb4 b2w b3w
  obtain ⟨q, hq⟩ : ∃ q, q = (endsL (places z.lib z.des) (k : Int) false).length := ⟨_, rfl⟩
  rw [← hq]
  rw [← hq] at ls100
  have HQ := Lib.hid hq
  clear hq
  have lgW : W.heap.size ≤ go := goB
  go_wp2_with fail
  go_loopw [9] (fun i wr => ∃ mm : Nat, mm ≤ q ∧ i = .int .i64 mm ∧ Hid (OwnS wr W.heap.size (.slice (some ⟨go, 0, none⟩) n co) (rowOf n (rawS z k mm))) ∧ w4.grownBy wr (some go)) (fun i _ => q - (intOf i).toNat)
  case atStart => exact ⟨0, by omega, rfl, HO4, World.grownBy.refl _ _⟩
  case round =>
    clear HO4
    obtain ⟨mm, hmm, rfl, hO, hgr⟩ := hrel
    have bww : Below w.heap.size w wr := b4w.grown hgr b4w.size (fun x hx => by have := Option.some.inj hx; omega)
    by_cases hlt : mm < q
    · have hm1 : mm < (wrn z.wires k).sink.length := by have := LS.out; have := HQ.out; omega
      have hm2 : mm < (endsL (places z.lib z.des) (k : Int) false).length := by have := HQ.out; omega
      have g0 := hgr.cell a0 (by simp; omega); have g1 := hgr.cell a1 (by simp; omega); have g2 := hgr.cell a2 (by simp; omega); have g3 := hgr.cell a3 (by simp; omega); have g7 := hgr.cell a7 (by simp; omega)
      obtain ⟨-, bs, rfl, hsB, hsl, hsx⟩ := HS.out.cells (by omega)
      have ys := hgr.cell (hsx mm hm2).1 (by simp; omega)
      obtain ⟨pj, hpj, hpl⟩ := ends_in _ _ _ mm hm2
      rw [hpj] at ys
      obtain ⟨bp, op, rfl, hlp, ym0, ym1, ym2, ym3⟩ := HPM4.out.at (Below.refl _ _) hpl
      have hpB := (HGP.out bp (by simp [Value.ownBlock])).1
      have h0 := hgr.cell ym0 (by simp; omega); have h1 := hgr.cell ym1 (by simp; omega); have h2 := hgr.cell ym2 (by simp; omega); have h3 := hgr.cell ym3 (by simp; omega)
      obtain ⟨b3, o3, rfl, hl3, yt⟩ := ints_at H3.out bww hm1
      have ⟨qs0, qs1⟩ := QS.out mm hm1
      obtain ⟨sj, hsj⟩ := Int.eq_ofNat_of_zero_le qs0
      rw [hsj] at yt qs1
      have SJ := Lib.hid (show (iv (wrn z.wires k).sink mm).toNat = sj by rw [hsj]; rfl)
      have hsn : sj < n := by have := HN.out; unfold endN at this; omega
      obtain ⟨-, go', ego, -, lgo, hox⟩ := hO.out.cells (by rw [rowOf_len]; omega)
      obtain rfl : go = go' := by injection ego with e1; injection e1
      have ⟨yo, fo⟩ := hox sj (by rw [rowOf_len]; exact hsn)
      rw [rowOf_at hsn] at yo
      have ⟨nn, sm, _⟩ := rawS_facts hbl.out hkk.out (Nat.le_of_lt hm1)
      rw [← HN.out] at sm
      have v0 := nn sj
      have v1 := sumTo_le nn hsn
      have ⟨c0, c1⟩ := capN_bd hbl.out hm2
      have ecap : capN z k mm = (pll (places z.lib z.des) pj).load := by simp only [capN, snkP, hpj]; rfl
      rw [ecap] at c0 c1
      have hwb := Lib.hid (show IntKind.i64.wrap (rawS z k mm sj + (pll (places z.lib z.des) pj).load) = rawS z k mm sj + (pll (places z.lib z.des) pj).load from IntWalk.i64_in _ (by omega))
      have i0 : (0 : Int) ≤ (mm : Int) := by omega
      have i1 : (mm : Int) < (q : Int) := by omega
      have i2 : (0 : Int) ≤ (sj : Int) := by omega
      have i3 : (sj : Int) < (n : Int) := by omega
      have i4 : (0 : Int) ≤ (pj : Int) := by omega
      have i5 : (pj : Int) < ((places z.lib z.des).length : Int) := by omega
      have i6 : (mm : Int) < ((wrn z.wires k).sink.length : Int) := by omega
      have e0 : ¬ w.heap.size + 1 = go := by omega
      have e1 : ¬ w.heap.size = go := by omega
      have e2 : ¬ b3 = go := by omega
      have e3 : ¬ bs = go := by omega
      have e4 : ¬ bp = go := by omega
      have l0 : w.heap.size < wr.heap.size := cell_lt g0
      have ECAP := Lib.hid ecap
      have LGO : w.heap.size ≤ go := by omega
      clear ym0 ym1 ym2 ym3 hsx hox hsj hpj qs0 ego nn sm v0 v1 ecap a0 a1 a2 a3 a5 a7
      clear lenO
      go_wp2_with fail
      have hw := hwb.out
      refine wp_region_held_drew (S := (fun w' => w'.cell? ⟨w.heap.size + 1, 3, none⟩ = some (.slice (some ⟨b3, o3, none⟩) (wrn z.wires k).sink.length r3) ∧ w'.cell? ⟨b3, o3 + mm, none⟩ = some (.int .i64 (sj : Int)) ∧ w'.cell? ⟨w.heap.size, 0, none⟩ = some (.slice p0 z.lib.length q0) ∧ w'.cell? ⟨w.heap.size, 1, none⟩ = some (.slice p1 z.des.insts.length q1) ∧ w'.cell? ⟨w.heap.size, 2, none⟩ = some (.slice p2 z.des.nets.length q2) ∧ w'.cell? ⟨w.heap.size, 3, none⟩ = some (.slice p3 z.des.ports.length q3) ∧ w'.cell? ⟨bs, mm, none⟩ = some (.int .i64 (pj : Int)) ∧ w'.cell? ⟨bp, op + pj * 4, none⟩ = some (.int .i64 (pll (places z.lib z.des) pj).inst) ∧ w'.cell? ⟨bp, op + pj * 4 + 1, none⟩ = some (.int .i64 (pll (places z.lib z.des) pj).pin) ∧ w'.cell? ⟨bp, op + pj * 4 + 2, none⟩ = some (.int .i64 (pll (places z.lib z.des) pj).net) ∧ w'.cell? ⟨bp, op + pj * 4 + 3, none⟩ = some (.bool (pll (places z.lib z.des) pj).drv) ∧ Below w.heap.size w w' ∧ w.heap.size < w'.heap.size)) (by kernel_rfl) ?_ (fun hHeld => ?_)
      · (try dsimp only); ((repeat' apply And.intro) <;> first | assumption | ((exact eX); done) | (simp [go_sem]; done) | (simp [go_sem, *]; done) | (simp; omega) | omega)
      (try dsimp only at hHeld)
      refine wpAnyH_take (i := 0) (oi := _) (v := ?_) rfl (by kernel_rfl) (by kernel_rfl) (by kernel_rfl) (fun _ _ _ h => h) (Or.inl ⟨by rfl, ?_⟩) (by with_reducible assumption) ?_
      rotate_left
      focus (intro w' hSw; (try dsimp only at hSw); go_simp; try (with_reducible rfl))
      (try simp only [Act.put, List.getElem_toArray, List.getElem_cons_zero, List.getElem_cons_succ, List.setIfInBounds_toArray, List.set_cons_zero, List.set_cons_succ])
      refine wpAnyH_take (i := 1) (oi := _) (v := ?_) rfl (by kernel_rfl) (by kernel_rfl) (by kernel_rfl) (fun _ _ _ h => h) (Or.inl ⟨by rfl, ?_⟩) (by with_reducible assumption) ?_
      rotate_left
      focus (intro w' hSw; (try dsimp only at hSw); go_simp; try (with_reducible rfl))
      (try simp only [Act.put, List.getElem_toArray, List.getElem_cons_zero, List.getElem_cons_succ, List.setIfInBounds_toArray, List.set_cons_zero, List.set_cons_succ])
      refine wpAnyH_take (i := 2) (oi := _) (v := ?_) rfl (by kernel_rfl) (by kernel_rfl) (by kernel_rfl) (fun _ _ _ h => h) (Or.inl ⟨by rfl, ?_⟩) (by with_reducible assumption) ?_
      rotate_left
      focus (intro w' hSw; (try dsimp only at hSw); go_simp; try (with_reducible rfl))
      (try simp only [Act.put, List.getElem_toArray, List.getElem_cons_zero, List.getElem_cons_succ, List.setIfInBounds_toArray, List.set_cons_zero, List.set_cons_succ])
      refine wpAnyH_take (i := 3) (oi := _) (v := ?_) rfl (by kernel_rfl) (by kernel_rfl) (by kernel_rfl) (fun _ _ _ h => h) (Or.inl ⟨by rfl, ?_⟩) (by with_reducible assumption) ?_
      rotate_left
      focus (intro w' hSw; (try dsimp only at hSw); go_simp; try (with_reducible rfl))
      (try simp only [Act.put, List.getElem_toArray, List.getElem_cons_zero, List.getElem_cons_succ, List.setIfInBounds_toArray, List.set_cons_zero, List.set_cons_succ])
      refine wpAnyH_take (i := 4) (oi := _) (v := ?_) rfl (by kernel_rfl) (by kernel_rfl) (by kernel_rfl) (fun _ _ _ h => h) (Or.inl ⟨by rfl, ?_⟩) (by with_reducible assumption) ?_
      rotate_left
      focus (intro w' hSw; (try dsimp only at hSw); go_simp; try (with_reducible rfl))
      (try simp only [Act.put, List.getElem_toArray, List.getElem_cons_zero, List.getElem_cons_succ, List.setIfInBounds_toArray, List.set_cons_zero, List.set_cons_succ])
      refine wpAnyH_take (i := 5) (oi := _) (v := ?_) rfl (by kernel_rfl) (by kernel_rfl) (by kernel_rfl) (fun _ _ _ h => h) (Or.inl ⟨by rfl, ?_⟩) (by with_reducible assumption) ?_
      rotate_left
      focus (intro w' hSw; (try dsimp only at hSw); go_simp; try (with_reducible rfl))
      (try simp only [Act.put, List.getElem_toArray, List.getElem_cons_zero, List.getElem_cons_succ, List.setIfInBounds_toArray, List.set_cons_zero, List.set_cons_succ])
      refine wpAnyH_take (i := 6) (oi := _) (v := ?_) rfl (by kernel_rfl) (by kernel_rfl) (by kernel_rfl) (fun _ _ _ h => h) (Or.inl ⟨by rfl, ?_⟩) (by with_reducible assumption) ?_
      rotate_left
      focus (intro w' hSw; (try dsimp only at hSw); go_simp; try (with_reducible rfl))
      (try simp only [Act.put, List.getElem_toArray, List.getElem_cons_zero, List.getElem_cons_succ, List.setIfInBounds_toArray, List.set_cons_zero, List.set_cons_succ])
      refine wpAnyH_take (i := 8) (oi := _) (v := ?_) rfl (by kernel_rfl) (by kernel_rfl) (by kernel_rfl) (fun _ _ _ h => h) (Or.inl ⟨by rfl, ?_⟩) (by with_reducible assumption) ?_
      rotate_left
      focus (intro w' hSw; (try dsimp only at hSw); go_simp; try (with_reducible rfl))
      (try simp only [Act.put, List.getElem_toArray, List.getElem_cons_zero, List.getElem_cons_succ, List.setIfInBounds_toArray, List.set_cons_zero, List.set_cons_succ])
      refine wpAnyH_take (i := 9) (oi := _) (v := ?_) rfl (by kernel_rfl) (by kernel_rfl) (by kernel_rfl) (fun _ _ _ h => h) (Or.inl ⟨by rfl, ?_⟩) (by with_reducible assumption) ?_
      rotate_left
      focus (intro w' hSw; (try dsimp only at hSw); go_simp; try (with_reducible rfl))
      (try simp only [Act.put, List.getElem_toArray, List.getElem_cons_zero, List.getElem_cons_succ, List.setIfInBounds_toArray, List.set_cons_zero, List.set_cons_succ])
      refine wpAnyH_take (i := 10) (oi := _) (v := ?_) rfl (by kernel_rfl) (by kernel_rfl) (by kernel_rfl) (fun _ _ _ h => h) (Or.inl ⟨by rfl, ?_⟩) (by with_reducible assumption) ?_
      rotate_left
      focus (intro w' hSw; (try dsimp only at hSw); go_simp; try (with_reducible rfl))
      (try simp only [Act.put, List.getElem_toArray, List.getElem_cons_zero, List.getElem_cons_succ, List.setIfInBounds_toArray, List.set_cons_zero, List.set_cons_succ])
      refine wpAnyH_take (i := 11) (oi := _) (v := ?_) rfl (by kernel_rfl) (by kernel_rfl) (by kernel_rfl) (fun _ _ _ h => h) (Or.inl ⟨by rfl, ?_⟩) (by with_reducible assumption) ?_
      rotate_left
      focus (intro w' hSw; (try dsimp only at hSw); go_simp; try (with_reducible rfl))
      (try simp only [Act.put, List.getElem_toArray, List.getElem_cons_zero, List.getElem_cons_succ, List.setIfInBounds_toArray, List.set_cons_zero, List.set_cons_succ])
      refine wpAnyH_take (i := 12) (oi := _) (v := ?_) rfl (by kernel_rfl) (by kernel_rfl) (by kernel_rfl) (fun _ _ _ h => h) (Or.inl ⟨by rfl, ?_⟩) (by with_reducible assumption) ?_
      rotate_left
      focus (intro w' hSw; (try dsimp only at hSw); go_simp; try (with_reducible rfl))
      (try simp only [Act.put, List.getElem_toArray, List.getElem_cons_zero, List.getElem_cons_succ, List.setIfInBounds_toArray, List.set_cons_zero, List.set_cons_succ])
      refine wpAnyH_take (i := 13) (oi := _) (v := ?_) rfl (by kernel_rfl) (by kernel_rfl) (by kernel_rfl) (fun _ _ _ h => h) (Or.inl ⟨by rfl, ?_⟩) (by with_reducible assumption) ?_
      rotate_left
      focus (intro w' hSw; (try dsimp only at hSw); go_simp; try (with_reducible rfl))
      (try simp only [Act.put, List.getElem_toArray, List.getElem_cons_zero, List.getElem_cons_succ, List.setIfInBounds_toArray, List.set_cons_zero, List.set_cons_succ])
      refine wpAnyH_take (i := 14) (oi := _) (v := ?_) rfl (by kernel_rfl) (by kernel_rfl) (by kernel_rfl) (fun _ _ _ h => h) (Or.inl ⟨by rfl, ?_⟩) (by with_reducible assumption) ?_
      rotate_left
      focus (intro w' hSw; (try dsimp only at hSw); go_simp; try (with_reducible rfl))
      (try simp only [Act.put, List.getElem_toArray, List.getElem_cons_zero, List.getElem_cons_succ, List.setIfInBounds_toArray, List.set_cons_zero, List.set_cons_succ])
      refine wpAnyH_take (i := 15) (oi := _) (v := ?_) rfl (by kernel_rfl) (by kernel_rfl) (by kernel_rfl) (fun _ _ _ h => h) (Or.inl ⟨by rfl, ?_⟩) (by with_reducible assumption) ?_
      rotate_left
      focus (intro w' hSw; (try dsimp only at hSw); go_simp; try (with_reducible rfl))
      (try simp only [Act.put, List.getElem_toArray, List.getElem_cons_zero, List.getElem_cons_succ, List.setIfInBounds_toArray, List.set_cons_zero, List.set_cons_succ])
      refine wpAnyH_take (i := 16) (oi := _) (v := ?_) rfl (by kernel_rfl) (by kernel_rfl) (by kernel_rfl) (fun _ _ _ h => h) (Or.inl ⟨by rfl, ?_⟩) (by with_reducible assumption) ?_
      rotate_left
      focus (intro w' hSw; (try dsimp only at hSw); go_simp; try (with_reducible rfl))
      (try simp only [Act.put, List.getElem_toArray, List.getElem_cons_zero, List.getElem_cons_succ, List.setIfInBounds_toArray, List.set_cons_zero, List.set_cons_succ])
      refine wpAnyH_take (i := 17) (oi := _) (v := ?_) rfl (by kernel_rfl) (by kernel_rfl) (by kernel_rfl) (fun _ _ _ h => h) (Or.inl ⟨by rfl, ?_⟩) (by with_reducible assumption) ?_
      rotate_left
      focus (intro w' hSw; (try dsimp only at hSw); go_simp; try (with_reducible rfl))
      (try simp only [Act.put, List.getElem_toArray, List.getElem_cons_zero, List.getElem_cons_succ, List.setIfInBounds_toArray, List.set_cons_zero, List.set_cons_succ])
      refine wpAnyH_take (i := 18) (oi := _) (v := ?_) rfl (by kernel_rfl) (by kernel_rfl) (by kernel_rfl) (fun _ _ _ h => h) (Or.inl ⟨by rfl, ?_⟩) (by with_reducible assumption) ?_
      rotate_left
      focus (intro w' hSw; (try dsimp only at hSw); go_simp; try (with_reducible rfl))
      (try simp only [Act.put, List.getElem_toArray, List.getElem_cons_zero, List.getElem_cons_succ, List.setIfInBounds_toArray, List.set_cons_zero, List.set_cons_succ])
      refine wpAnyH_ready (rs := [7, 19]) (by kernel_rfl) (by simp) ?_
      refine AllReadyH.cons rfl (fun K hK => ?_) (AllReadyH.cons rfl (fun K hK => ?_) AllReadyH.nil)
      · go_simp
        refine hK.out _ _ hHeld (fun _ => ?_)
        clear hK K
        (try simp only [Act.put, List.getElem_toArray, List.getElem_cons_zero, List.getElem_cons_succ, List.setIfInBounds_toArray, List.set_cons_zero, List.set_cons_succ])
        refine wpAnyH_ready (rs := [19]) (by kernel_rfl) (by simp) ?_
        refine AllReadyH.cons rfl (fun K hK => ?_) AllReadyH.nil
        go_simp
        (go_at_call 60; refine (HCP.out pj hpl _ eX).mono ?_; rintro e wn ⟨rfl, hb⟩)
        have yo2 := cell_keep (w0 := wr.drew) (g := go) (o := sj) yo hb
        have fo2 : wn.frozen? ⟨go, sj, none⟩ = false := by rw [hb.frozen (p := ⟨go, sj, none⟩) (show go < wr.drew.heap.size by simpa using lgo)]; exact fo
        refine hK.out _ _ (keep11 hHeld hb) (fun hHeld' => ?_)
        clear hK K hHeld
        have hHeld := hHeld'
        clear hHeld'
        (try simp only [Act.put, List.getElem_toArray, List.getElem_cons_zero, List.getElem_cons_succ, List.setIfInBounds_toArray, List.set_cons_zero, List.set_cons_succ])
        refine wpAnyH_take (i := 20) (oi := _) (v := ?_) rfl (by kernel_rfl) (by kernel_rfl) (by kernel_rfl) (fun _ _ _ h => h) (Or.inl ⟨by rfl, ?_⟩) (by with_reducible assumption) ?_
        rotate_left
        focus (intro w' hSw; (try dsimp only at hSw); go_simp; try (with_reducible rfl))
        (try simp only [Act.put, List.getElem_toArray, List.getElem_cons_zero, List.getElem_cons_succ, List.setIfInBounds_toArray, List.set_cons_zero, List.set_cons_succ])
        refine wpAnyH_take (i := 21) (oi := _) (v := ?_) rfl (by kernel_rfl) (by kernel_rfl) (by kernel_rfl) (fun _ _ _ h => h) (Or.inl ⟨by rfl, ?_⟩) (by with_reducible assumption) ?_
        rotate_left
        focus (intro w' hSw; (try dsimp only at hSw); go_simp; try (with_reducible rfl))
        (try simp only [Act.put, List.getElem_toArray, List.getElem_cons_zero, List.getElem_cons_succ, List.setIfInBounds_toArray, List.set_cons_zero, List.set_cons_succ])
        refine wpAnyH_ready (rs := [22]) (by kernel_rfl) (by simp) ?_
        refine AllReadyH.cons rfl (fun K hK => ?_) AllReadyH.nil
        go_simp
        refine hK.out _ _ (keep11n (p := ⟨go, sj, none⟩) hHeld (hp := LGO) (q0 := e0) (q1 := e2) (q2 := e1) (q3 := e1) (q4 := e1) (q5 := e1) (q6 := e3) (q7 := e4) (q8 := e4) (q9 := e4) (q10 := e4)) (fun _ => ?_)
        clear hK K
        (try simp only [Act.put, List.getElem_toArray, List.getElem_cons_zero, List.getElem_cons_succ, List.setIfInBounds_toArray, List.set_cons_zero, List.set_cons_succ])
        refine wpAnyH_done (by kernel_rfl) ?_ _
        have hbn := Lib.hid (show Below wr.heap.size wr wn from eT (eD (eR wr _)) hb)
        have hO9 : Hid (OwnS (wn.setCell ⟨go, sj, none⟩ (.int .i64 (rawS z k mm sj + (pll (places z.lib z.des) pj).load))) W.heap.size (.slice (some ⟨go, 0, none⟩) n co) (rowOf n (rawS z k (mm + 1)))) := by
          have e : (iv (wrn z.wires k).sink mm).toNat = sj := SJ.out
          rw [rawS_succ, e, ECAP.out, ← rowOf_bump]
          exact Lib.hid (OwnS.put (hO.out.keep hbn.out) (by rw [rowOf_len]; omega))
        have hg9 := Lib.hid (grown_trans (grown_trans hgr (grown_under hbn.out (some go))) (grown_one wn ⟨go, sj, none⟩ (.int .i64 (rawS z k mm sj + (pll (places z.lib z.des) pj).load))))
        clear hO hb yo2 fo2 hHeld
        go_wp2
        go_roundw
        case rel => exact ⟨mm + 1, by omega, by go_num, hO9, hg9.out⟩
        case measure => simp [intOf]; omega
      · go_simp
        (go_at_call 60; refine (HCP.out pj hpl _ eX).mono ?_; rintro e wn ⟨rfl, hb⟩)
        have yo2 := cell_keep (w0 := wr.drew) (g := go) (o := sj) yo hb
        have fo2 : wn.frozen? ⟨go, sj, none⟩ = false := by rw [hb.frozen (p := ⟨go, sj, none⟩) (show go < wr.drew.heap.size by simpa using lgo)]; exact fo
        refine hK.out _ _ (keep11 hHeld hb) (fun hHeld' => ?_)
        clear hK K hHeld
        have hHeld := hHeld'
        clear hHeld'
        (try simp only [Act.put, List.getElem_toArray, List.getElem_cons_zero, List.getElem_cons_succ, List.setIfInBounds_toArray, List.set_cons_zero, List.set_cons_succ])
        refine wpAnyH_ready (rs := [7]) (by kernel_rfl) (by simp) ?_
        refine AllReadyH.cons rfl (fun K hK => ?_) AllReadyH.nil
        go_simp
        refine hK.out _ _ hHeld (fun _ => ?_)
        clear hK K
        (try simp only [Act.put, List.getElem_toArray, List.getElem_cons_zero, List.getElem_cons_succ, List.setIfInBounds_toArray, List.set_cons_zero, List.set_cons_succ])
        refine wpAnyH_take (i := 20) (oi := _) (v := ?_) rfl (by kernel_rfl) (by kernel_rfl) (by kernel_rfl) (fun _ _ _ h => h) (Or.inl ⟨by rfl, ?_⟩) (by with_reducible assumption) ?_
        rotate_left
        focus (intro w' hSw; (try dsimp only at hSw); go_simp; try (with_reducible rfl))
        (try simp only [Act.put, List.getElem_toArray, List.getElem_cons_zero, List.getElem_cons_succ, List.setIfInBounds_toArray, List.set_cons_zero, List.set_cons_succ])
        refine wpAnyH_take (i := 21) (oi := _) (v := ?_) rfl (by kernel_rfl) (by kernel_rfl) (by kernel_rfl) (fun _ _ _ h => h) (Or.inl ⟨by rfl, ?_⟩) (by with_reducible assumption) ?_
        rotate_left
        focus (intro w' hSw; (try dsimp only at hSw); go_simp; try (with_reducible rfl))
        (try simp only [Act.put, List.getElem_toArray, List.getElem_cons_zero, List.getElem_cons_succ, List.setIfInBounds_toArray, List.set_cons_zero, List.set_cons_succ])
        refine wpAnyH_ready (rs := [22]) (by kernel_rfl) (by simp) ?_
        refine AllReadyH.cons rfl (fun K hK => ?_) AllReadyH.nil
        go_simp
        refine hK.out _ _ (keep11n (p := ⟨go, sj, none⟩) hHeld (hp := LGO) (q0 := e0) (q1 := e2) (q2 := e1) (q3 := e1) (q4 := e1) (q5 := e1) (q6 := e3) (q7 := e4) (q8 := e4) (q9 := e4) (q10 := e4)) (fun _ => ?_)
        clear hK K
        (try simp only [Act.put, List.getElem_toArray, List.getElem_cons_zero, List.getElem_cons_succ, List.setIfInBounds_toArray, List.set_cons_zero, List.set_cons_succ])
        refine wpAnyH_done (by kernel_rfl) ?_ _
        have hbn := Lib.hid (show Below wr.heap.size wr wn from eT (eD (eR wr _)) hb)
        have hO9 : Hid (OwnS (wn.setCell ⟨go, sj, none⟩ (.int .i64 (rawS z k mm sj + (pll (places z.lib z.des) pj).load))) W.heap.size (.slice (some ⟨go, 0, none⟩) n co) (rowOf n (rawS z k (mm + 1)))) := by
          have e : (iv (wrn z.wires k).sink mm).toNat = sj := SJ.out
          rw [rawS_succ, e, ECAP.out, ← rowOf_bump]
          exact Lib.hid (OwnS.put (hO.out.keep hbn.out) (by rw [rowOf_len]; omega))
        have hg9 := Lib.hid (grown_trans (grown_trans hgr (grown_under hbn.out (some go))) (grown_one wn ⟨go, sj, none⟩ (.int .i64 (rawS z k mm sj + (pll (places z.lib z.des) pj).load))))
        clear hO hb yo2 fo2 hHeld
        go_wp2
        go_roundw
        case rel => exact ⟨mm + 1, by omega, by go_num, hO9, hg9.out⟩
        case measure => simp [intOf]; omega
    · obtain rfl : mm = q := by omega
      have hI : ¬ (mm : Int) < (mm : Int) := by omega
      have OA : Hid (OwnS wr W.heap.size (.slice (some ⟨go, 0, none⟩) n co) (rowOf n (rawS z k (wrn z.wires k).sink.length))) := by
        have e : (wrn z.wires k).sink.length = mm := by have := LS.out; have := HQ.out; omega
        rw [e]; exact hO
      have g5 := hgr.cell a5 (by simp; omega)
      have l0 : w.heap.size + 1 < wr.heap.size := cell_lt g5
      have lgr : go < wr.heap.size := Nat.lt_of_lt_of_le (Nat.lt_of_lt_of_le gol (Nat.le_trans z23 z34)) hgr.size
      have BR := Lib.hid bww
      obtain ⟨wo, hwo⟩ : ∃ wo : World, wo = wr := ⟨_, rfl⟩
      subst hwo
      clear hO hgr a0 a1 a2 a3 a5 a7 bww lenO
      go_wp2_with fail
      go_loopw [10] (fun i wr => ∃ (m : Nat) (V : Nat → Int), m < n ∧ i = .int .i64 m ∧ Hid (SwR (pa (wrn z.wires k)) (lodF z k) V m) ∧ Hid (OwnS wr W.heap.size (.slice (some ⟨go, 0, none⟩) n co) (rowOf n V)) ∧ wo.grownBy wr (some go)) (fun i _ => (intOf i).toNat)
      case atStart => exact ⟨n - 1, _, by omega, by congr 1; omega, SW, OA, World.grownBy.refl _ _⟩
      case round =>
        clear OA
        obtain ⟨m, V, hmn, rfl, hSw, hO, hgr⟩ := hrel
        have bww : Below w.heap.size w wr := BR.out.grown hgr BR.out.size (fun x hx => by have := Option.some.inj hx; omega)
        by_cases hm0 : m = 0
        · subst hm0
          have OE : Hid (OwnS wr w.heap.size (.slice (some ⟨go, 0, none⟩) n co) (rowOf n (lodF z k))) := by
            rw [← sw_end hSw.out]; exact Lib.hid (hO.out.mono BW.out.size)
          clear hSw hO hgr
          go_wp2
          go_ret
          exact ⟨_, rfl, OE.out, bww⟩
        · have hpm := QP.out m (by omega) (by have := HN.out; unfold endN at this; omega)
          obtain ⟨pm, hpme⟩ := Int.eq_ofNat_of_zero_le hpm.1
          have hpa : pa (wrn z.wires k) m = pm := by simp [pa, hpme]
          have hp1 : pm < m := by omega
          have hsw2 := sw_prev hSw.out hm0 (by rw [hpa]; exact hp1)
          rw [hpa] at hsw2
          have vn := hSw.out.2.1
          have v0 := vn pm
          have v1 := vn m
          have v2 := hsw2.2
          have SW2 := Lib.hid hsw2.1
          have g6 := hgr.cell g5 (by simp; omega)
          obtain ⟨b0, o0, rfl, hl0, yt⟩ := ints_at H0.out bww (show m < (wrn z.wires k).parent.length by have := HN.out; unfold endN at this; omega)
          rw [hpme] at yt
          obtain ⟨-, go', ego, -, lgo, hox⟩ := hO.out.cells (by rw [rowOf_len]; omega)
          obtain rfl : go = go' := by injection ego with e1; injection e1
          have ⟨yo, fo⟩ := hox pm (by rw [rowOf_len]; omega)
          have ⟨yq, fq⟩ := hox m (by rw [rowOf_len]; omega)
          rw [rowOf_at (by omega)] at yo yq
          have hw : IntKind.i64.wrap (V pm + V m) = V pm + V m := IntWalk.i64_in _ (by omega)
          have i2 : (0 : Int) ≤ (pm : Int) := by omega
          have i3 : (pm : Int) < (n : Int) := by omega
          have i4 : (0 : Int) ≤ (m : Int) := by omega
          have i5 : (m : Int) < (n : Int) := by omega
          have i6 : (m : Int) < ((wrn z.wires k).parent.length : Int) := by have := HN.out; unfold endN at this; omega
          have i7 : (0 : Int) < (m : Int) := by omega
          have l1 : b0 < wr.heap.size := cell_lt yt
          have HPM1 := Lib.hid hp1
          have HM0 := Lib.hid hm0
          have hm1 : 1 ≤ m := by omega
          clear hox ego vn hsw2 hSw hpme hpm hpa hp1 hm0
          go_wp2_with fail
          go_still_tail 13, (by kernel_rfl)
          change wpList _ _ _ _ _ wr.drew
          clear hw
          have bd := eD (eR wr wr.heap.size)
          obtain ⟨wd, hwd⟩ : ∃ wd, wd = wr.drew := ⟨_, rfl⟩
          rw [← hwd] at bd ⊢
          clear hwd
          have yo2 := cell_keep yo bd
          have fo2 : wd.frozen? ⟨go, pm, none⟩ = false := by rw [bd.frozen (p := ⟨go, pm, none⟩) lgo]; exact fo
          have O9 : Hid (OwnS (wd.setCell ⟨go, pm, none⟩ (.int .i64 (V pm + V m))) W.heap.size (.slice (some ⟨go, 0, none⟩) n co) (rowOf n (bump V pm (V m)))) := by
            rw [← rowOf_bump]
            exact Lib.hid (OwnS.put (hO.out.keep bd) (by have := HPM1.out; rw [rowOf_len]; omega))
          have G9 := Lib.hid (grown_trans (grown_trans hgr (grown_under bd (some go))) (grown_one wd ⟨go, pm, none⟩ (.int .i64 (V pm + V m))))
          clear yo yq fo fq g6 yt bd hO hgr bww
          go_wp2
          go_roundw
          case rel => exact ⟨m - 1, _, by omega, by congr 1; omega, SW2, O9, G9.out⟩
          case measure => simp [intOf]; omega
end Go.Proofs.YtodgpjolkfkcpaaGreat
namespace Go.Proofs.YtodgpjolkfkcpaaGreat
open Go.ChangeShapes Go.WideShapes Go.ChangeAt Go.RowKit Go.Deep
set_option linter.unusedVariables false
set_option linter.unusedSimpArgs false
set_option maxRecDepth 100000
theorem grownC {b c : World} {base : Nat} {v : Value} {g o : Nat} {u : Value} (hg : b.grownBy c v.ownBlock) (hv : ∀ k, v.ownBlock = some k → base ≤ k) (h : b.cell? ⟨g, o, none⟩ = some u) (hb : g < base) (hs : base ≤ b.heap.size) : c.cell? ⟨g, o, none⟩ = some u := by
  have := (Below.refl base b).grown hg hs (fun k hk => hv k hk)
  rw [this.cell (by exact hb)]
  exact h
theorem delF_zero {z : BlkD} (h : blkB z = true) {k : Nat} (hk : k < z.wires.length) : delF z k 0 = 0 := by
  have ⟨_, _, _, _, _, q0, r0, _⟩ := wire_nums (wire_at h hk)
  rw [delF, dly_eq, pa_zero q0, if_neg (Nat.lt_irrefl 0), r0]
  omega
theorem delF_at {z : BlkD} (k : Nat) {j : Nat} (hp : pa (wrn z.wires k) j < j) : delF z k j = delF z k (pa (wrn z.wires k) j) + iv (wrn z.wires k).res j * lodF z k j := by
  conv => lhs; rw [delF, dly_eq, if_pos hp]
  rfl
theorem Tryz.infoI8 : (Tryz.prog.info? 2).map (fun i => (i.zero, i.size, i.bytes)) = some (some (.int .i64 0), 1, 8) := by kernel_rfl
set_option maxHeartbeats 16000000 in
theorem specDelays_any (f : Nat → Value) (z : BlkD) (k : Nat) (w : World) (h : BlkF w w.heap.size f z) (hb : blkB z = true) (hk : k < z.wires.length) :
    Calls Tryz.prog 40 #[.agg #[f 0, f 1, f 2, f 3, f 4], .int .i64 (k : Int)] w (ToInts (rowOf (endN z k) (delF z k)) w) := by
  obtain ⟨ti, hi, hz0, hz1, hz2⟩ := info_parts Tryz.infoI8
  have HLD := Lib.hid (fun (w1 : World) (hb' : Below w.heap.size w w1) => specLoads_any f z k w1 (h.up hb') hb hk)
  have hwire := wire_at hb hk
  have ⟨n1, n8, lr, lc, ls, _, _, qp, qr, _, qs⟩ := wire_nums hwire
  have LS := Lib.hid ls
  have LR := Lib.hid lr
  have QS := Lib.hid qs
  have QP := Lib.hid qp
  have QR := Lib.hid qr
  have hbl := Lib.hid hb
  have hkk := Lib.hid hk
  obtain ⟨p0, q0, p1, q1, p2, q2, p3, q3, p4, q4, e0, e1, e2, e3, e4⟩ := h.five
  obtain ⟨F, hc, hf⟩ := h.2.2
  rw [e4] at hc
  have ⟨x0, x1, x2, x3⟩ := hf k hk
  obtain ⟨s0, r0, f0⟩ := x0.slice; obtain ⟨s1, r1, f1⟩ := x1.slice; obtain ⟨s2, r2, f2⟩ := x2.slice; obtain ⟨s3, r3, f3⟩ := x3.slice
  rw [f0] at x0; rw [f1] at x1; rw [f3] at x3
  have H0 := Lib.hid x0; have H1 := Lib.hid x1; have H3 := Lib.hid x3
  rw [e0, e1, e2, e3, e4] at HLD
  rw [e0, e1, e2, e3, e4]
  have hkl : (k : Int) < (z.wires.length : Int) := by omega
  have hk0 : (0 : Int) ≤ (k : Int) := by omega
  obtain ⟨bw, ow, rfl, hlw, hxw⟩ := hc.at (Below.refl _ _) hk
  have y0 := hxw 0 (by omega); have y1 := hxw 1 (by omega); have y2 := hxw 2 (by omega); have y3 := hxw 3 (by omega)
  simp only [Nat.add_zero] at y0
  rw [f0] at y0; rw [f1] at y1; rw [f2] at y2; rw [f3] at y3
  clear e0 e1 e2 e3 e4 h hb hk hc hf x0 x1 x2 x3 f0 f1 f2 f3 qs qr qp lr lc ls hxw hwire
  obtain ⟨n, hn⟩ : ∃ n, n = endN z k := ⟨_, rfl⟩
  have HN := Lib.hid hn
  have n1 : 1 ≤ n := by rw [hn]; exact n1
  have n8 : n ≤ 8 := by rw [hn]; exact n8
  have DZ := Lib.hid (delF_zero hbl.out hkk.out)
  have LB := Lib.hid (lodF_bd hbl.out hkk.out)
  have DB := Lib.hid (fun j (hj : j < endN z k) => delF_bd hbl.out hkk.out hj)
  rw [← hn] at HLD DB ⊢
  clear hn
  obtain ⟨W, hW⟩ : ∃ W, W = (w.alloc (Obj.cells #[.slice p0 z.lib.length q0, .slice p1 z.des.insts.length q1, .slice p2 z.des.nets.length q2, .slice p3 z.des.ports.length q3, .slice (some ⟨bw, ow, none⟩) z.wires.length q4] 46)).alloc (Obj.cells #[.slice s0 (wrn z.wires k).parent.length r0, .slice s1 (wrn z.wires k).res.length r1, .slice s2 (wrn z.wires k).cap.length r2, .slice s3 (wrn z.wires k).sink.length r3] 85) := ⟨_, rfl⟩
  have bW : Below w.heap.size w W := by rw [hW]; exact eX
  have zW : W.heap.size = w.heap.size + 2 := by rw [hW]; simp
  have a0 : W.cell? ⟨w.heap.size + 1, 0, none⟩ = some (.slice s0 (wrn z.wires k).parent.length r0) := by rw [hW]; simp [go_sem]
  have a1 : W.cell? ⟨w.heap.size + 1, 1, none⟩ = some (.slice s1 (wrn z.wires k).res.length r1) := by rw [hW]; simp [go_sem]
  have HW := Lib.hid hW
  have BW := Lib.hid bW
  have lw0 : w.heap.size < W.heap.size := by omega
  have lw1 : w.heap.size + 1 < W.heap.size := by omega
  clear hW zW bW
  unfold ToInts at HLD ⊢
  go_enter Tryz.func40, Tryz.ntmps40
  go_wp2_with fail
  rw [← HW.out]
  (go_at_call 29; refine (HLD.out W BW.out).mono ?_; rintro e w2 ⟨vl, rfl, hL, hb2⟩)
  obtain ⟨al, cl, rfl⟩ := hL.slice
  obtain ⟨-, gl, rfl, glB, gll, glx⟩ := hL.cells (by rw [rowOf_len]; omega)
  have c0 := cell_keep a0 hb2
  have c1 := cell_keep a1 hb2
  have l2 : w.heap.size + 1 < w2.heap.size := cell_lt c0
  have B2 := Lib.hid (BW.out.trans (hb2.mono BW.out.size))
  have GLX := Lib.hid (fun j (hj : j < n) => (show w2.cell? ⟨gl, j, none⟩ = some (.int .i64 (lodF z k j)) by have := (glx j (by rw [rowOf_len]; exact hj)).1; rw [rowOf_at hj] at this; exact this))
  rw [rowOf_len]
  clear hL glx hb2 a0 a1 y0 y1 y2 y3
  have G0 : Hid (GI (w2.alloc (Obj.cells #[.int .i64 0] 2)) w2.heap.size (.slice (some ⟨w2.heap.size, 0, none⟩) 1 1) (rowOf 1 (delF z k))) := by
    have e : rowOf 1 (delF z k) = [0] := by simp [rowOf, DZ.out]
    rw [e]
    exact Lib.hid (World.ownsRow_lit (e := 2) (base := w2.heap.size) (size := 1) w2 #[.int .i64 0] 1 (Nat.le_refl _) (by unfold maxLen; omega) rfl)
  go_wp2_with fail
  go_loopw [7, 8] (fun v i wr => ∃ m : Nat, 1 ≤ m ∧ m ≤ n ∧ i = .int .i64 m ∧ Hid (GI wr w2.heap.size v (rowOf m (delF z k))) ∧ Below w2.heap.size w2 wr) (fun _ i _ => n - (intOf i).toNat)
  case atStart => exact ⟨1, by omega, by omega, rfl, G0, (Below.refl _ _).alloc (Nat.le_refl _) _⟩
  case round =>
    clear G0
    obtain ⟨m, hm1, hmn, rfl, hG, hbr⟩ := hrel
    have bww : Below w.heap.size w wr := B2.out.trans (hbr.mono B2.out.size)
    by_cases hlt : m < n
    · have hpm := QP.out m (by omega) (by have := HN.out; unfold endN at this; omega)
      obtain ⟨pm, hpme⟩ := Int.eq_ofNat_of_zero_le hpm.1
      have hpa : pa (wrn z.wires k) m = pm := by simp [pa, hpme]
      have hp1 : pm < m := by omega
      have hD := delF_at k (z := z) (j := m) (by rw [hpa]; exact hp1)
      rw [hpa] at hD
      have g0 := cell_keep c0 hbr
      have g1 := cell_keep c1 hbr
      have yl := cell_keep (GLX.out m hlt) hbr
      obtain ⟨b0, o0, rfl, hl0, yp⟩ := ints_at H0.out bww (show m < (wrn z.wires k).parent.length by have := HN.out; unfold endN at this; omega)
      rw [hpme] at yp
      obtain ⟨b1, o1, rfl, hl1, yr⟩ := ints_at H1.out bww (show m < (wrn z.wires k).res.length by have := HN.out; have := LR.out; unfold endN at *; omega)
      have hOw := hG.out.own (by rw [rowOf_len]; omega)
      obtain ⟨av, cv, rfl⟩ := hOw.slice
      obtain ⟨-, gv, rfl, gvB, gvl, gvx⟩ := hOw.cells (by rw [rowOf_len]; omega)
      have yv := (gvx pm (by rw [rowOf_len]; exact hp1)).1
      rw [rowOf_at hp1] at yv
      have hG' := hG.out
      rw [rowOf_len] at hG'
      have HG := Lib.hid hG'
      clear hG'
      have hblk := Lib.hid hG.out.blk
      have ⟨r0', r1'⟩ := QR.out m
      have ⟨l0', l1'⟩ := LB.out m
      have ⟨x0, x1⟩ := resload_bd r0' r1' l0' l1'
      have ⟨d0, d1⟩ := DB.out pm (by omega)
      have hw1 : IntKind.i64.wrap (iv (wrn z.wires k).res m * lodF z k m) = iv (wrn z.wires k).res m * lodF z k m := IntWalk.i64_in _ (by omega)
      have hw2 : IntKind.i64.wrap (delF z k pm + iv (wrn z.wires k).res m * lodF z k m) = delF z k pm + iv (wrn z.wires k).res m * lodF z k m := IntWalk.i64_in _ (by omega)
      have HW1 := Lib.hid hw1
      have HW2 := Lib.hid hw2
      have i2 : (0 : Int) ≤ (pm : Int) := by omega
      have i3 : (pm : Int) < (m : Int) := by omega
      have i4 : (0 : Int) ≤ (m : Int) := by omega
      have i5 : (m : Int) < (n : Int) := by omega
      have i6 : (m : Int) < ((wrn z.wires k).parent.length : Int) := by have := HN.out; unfold endN at this; omega
      have i7 : (m : Int) < ((wrn z.wires k).res.length : Int) := by have := HN.out; have := LR.out; unfold endN at *; omega
      have hs := hbr.size
      have zz : b0 < w2.heap.size ∧ b1 < w2.heap.size := by omega
      have s2 := hbr.size
      rw [rowOf_len]
      have HD := Lib.hid hD
      clear gvx hOw hpme hpa hD hw1 hw2 hpm hG
      go_wp2_with fail
      have hw1 := HW1.out
      have hw2 := HW2.out
      refine wp_region_held_drew (S := (fun w' => w'.cell? ⟨w.heap.size + 1, 0, none⟩ = some (.slice (some ⟨b0, o0, none⟩) (wrn z.wires k).parent.length r0) ∧ w'.cell? ⟨w.heap.size + 1, 1, none⟩ = some (.slice (some ⟨b1, o1, none⟩) (wrn z.wires k).res.length r1) ∧ w'.cell? ⟨b0, o0 + m, none⟩ = some (.int .i64 (pm : Int)) ∧ w'.cell? ⟨b1, o1 + m, none⟩ = some (.int .i64 (iv (wrn z.wires k).res m)) ∧ w'.cell? ⟨gl, m, none⟩ = some (.int .i64 (lodF z k m)) ∧ Below w2.heap.size w2 w' ∧ w.heap.size + 1 < w'.heap.size)) (by kernel_rfl) ?_ (fun hHeld => ?_)
      · (try dsimp only); ((repeat' apply And.intro) <;> first | assumption | ((exact eX); done) | (simp [go_sem]; done) | (simp [go_sem, *]; done) | (simp; omega) | omega)
      (try dsimp only at hHeld)
      refine wpAnyH_take (i := 0) (oi := _) (v := ?_) rfl (by kernel_rfl) (by kernel_rfl) (by kernel_rfl) (fun _ _ _ h => h) (Or.inl ⟨by rfl, ?_⟩) (by with_reducible assumption) ?_
      rotate_left
      focus (intro w' hSw; (try dsimp only at hSw); go_simp; try (with_reducible rfl))
      (try simp only [Act.put, List.getElem_toArray, List.getElem_cons_zero, List.getElem_cons_succ, List.setIfInBounds_toArray, List.set_cons_zero, List.set_cons_succ])
      refine wpAnyH_take (i := 1) (oi := _) (v := ?_) rfl (by kernel_rfl) (by kernel_rfl) (by kernel_rfl) (fun _ _ _ h => h) (Or.inl ⟨by rfl, ?_⟩) (by with_reducible assumption) ?_
      rotate_left
      focus (intro w' hSw; (try dsimp only at hSw); go_simp; try (with_reducible rfl))
      (try simp only [Act.put, List.getElem_toArray, List.getElem_cons_zero, List.getElem_cons_succ, List.setIfInBounds_toArray, List.set_cons_zero, List.set_cons_succ])
      refine wpAnyH_take (i := 2) (oi := _) (v := ?_) rfl (by kernel_rfl) (by kernel_rfl) (by kernel_rfl) (fun _ _ _ h => h) (Or.inl ⟨by rfl, ?_⟩) (by with_reducible assumption) ?_
      rotate_left
      focus (intro w' hSw; (try dsimp only at hSw); go_simp; try (with_reducible rfl))
      (try simp only [Act.put, List.getElem_toArray, List.getElem_cons_zero, List.getElem_cons_succ, List.setIfInBounds_toArray, List.set_cons_zero, List.set_cons_succ])
      refine wpAnyH_take (i := 3) (oi := _) (v := ?_) rfl (by kernel_rfl) (by kernel_rfl) (by kernel_rfl) (fun _ _ _ h => h) (Or.inl ⟨by rfl, ?_⟩) (by with_reducible assumption) ?_
      rotate_left
      focus (intro w' hSw; (try dsimp only at hSw); go_simp; try (with_reducible rfl))
      (try simp only [Act.put, List.getElem_toArray, List.getElem_cons_zero, List.getElem_cons_succ, List.setIfInBounds_toArray, List.set_cons_zero, List.set_cons_succ])
      refine wpAnyH_take (i := 4) (oi := _) (v := ?_) rfl (by kernel_rfl) (by kernel_rfl) (by kernel_rfl) (fun _ _ _ h => h) (Or.inl ⟨by rfl, ?_⟩) (by with_reducible assumption) ?_
      rotate_left
      focus (intro w' hSw; (try dsimp only at hSw); go_simp; try (with_reducible rfl))
      (try simp only [Act.put, List.getElem_toArray, List.getElem_cons_zero, List.getElem_cons_succ, List.setIfInBounds_toArray, List.set_cons_zero, List.set_cons_succ])
      refine wpAnyH_take (i := 5) (oi := _) (v := ?_) rfl (by kernel_rfl) (by kernel_rfl) (by kernel_rfl) (fun _ _ _ h => h) (Or.inl ⟨by rfl, ?_⟩) (by with_reducible assumption) ?_
      rotate_left
      focus (intro w' hSw; (try dsimp only at hSw); go_simp; try (with_reducible rfl))
      (try simp only [Act.put, List.getElem_toArray, List.getElem_cons_zero, List.getElem_cons_succ, List.setIfInBounds_toArray, List.set_cons_zero, List.set_cons_succ])
      refine wpAnyH_take (i := 6) (oi := _) (v := ?_) rfl (by kernel_rfl) (by kernel_rfl) (by kernel_rfl) (fun _ _ _ h => h) (Or.inl ⟨by rfl, ?_⟩) (by with_reducible assumption) ?_
      rotate_left
      focus (intro w' hSw; (try dsimp only at hSw); go_simp; try (with_reducible rfl))
      (try simp only [Act.put, List.getElem_toArray, List.getElem_cons_zero, List.getElem_cons_succ, List.setIfInBounds_toArray, List.set_cons_zero, List.set_cons_succ])
      refine wpAnyH_take (i := 7) (oi := _) (v := ?_) rfl (by kernel_rfl) (by kernel_rfl) (by kernel_rfl) (fun _ _ _ h => h) (Or.inl ⟨by rfl, ?_⟩) (by with_reducible assumption) ?_
      rotate_left
      focus (intro w' hSw; (try dsimp only at hSw); go_simp; try (with_reducible rfl))
      (try simp only [Act.put, List.getElem_toArray, List.getElem_cons_zero, List.getElem_cons_succ, List.setIfInBounds_toArray, List.set_cons_zero, List.set_cons_succ])
      refine wpAnyH_take (i := 9) (oi := _) (v := ?_) rfl (by kernel_rfl) (by kernel_rfl) (by kernel_rfl) (fun _ _ _ h => h) (Or.inl ⟨by rfl, ?_⟩) (by with_reducible assumption) ?_
      rotate_left
      focus (intro w' hSw; (try dsimp only at hSw); go_simp; try (with_reducible rfl))
      (try simp only [Act.put, List.getElem_toArray, List.getElem_cons_zero, List.getElem_cons_succ, List.setIfInBounds_toArray, List.set_cons_zero, List.set_cons_succ])
      refine wpAnyH_take (i := 10) (oi := _) (v := ?_) rfl (by kernel_rfl) (by kernel_rfl) (by kernel_rfl) (fun _ _ _ h => h) (Or.inl ⟨by rfl, ?_⟩) (by with_reducible assumption) ?_
      rotate_left
      focus (intro w' hSw; (try dsimp only at hSw); go_simp; try (with_reducible rfl))
      (try simp only [Act.put, List.getElem_toArray, List.getElem_cons_zero, List.getElem_cons_succ, List.setIfInBounds_toArray, List.set_cons_zero, List.set_cons_succ])
      refine wpAnyH_take (i := 11) (oi := _) (v := ?_) rfl (by kernel_rfl) (by kernel_rfl) (by kernel_rfl) (fun _ _ _ h => h) (Or.inl ⟨by rfl, ?_⟩) (by with_reducible assumption) ?_
      rotate_left
      focus (intro w' hSw; (try dsimp only at hSw); go_simp; try (with_reducible rfl))
      (try simp only [Act.put, List.getElem_toArray, List.getElem_cons_zero, List.getElem_cons_succ, List.setIfInBounds_toArray, List.set_cons_zero, List.set_cons_succ])
      refine wpAnyH_take (i := 12) (oi := _) (v := ?_) rfl (by kernel_rfl) (by kernel_rfl) (by kernel_rfl) (fun _ _ _ h => h) (Or.inl ⟨by rfl, ?_⟩) (by with_reducible assumption) ?_
      rotate_left
      focus (intro w' hSw; (try dsimp only at hSw); go_simp; try (with_reducible rfl))
      (try simp only [Act.put, List.getElem_toArray, List.getElem_cons_zero, List.getElem_cons_succ, List.setIfInBounds_toArray, List.set_cons_zero, List.set_cons_succ])
      refine wpAnyH_take (i := 13) (oi := _) (v := ?_) rfl (by kernel_rfl) (by kernel_rfl) (by kernel_rfl) (fun _ _ _ h => h) (Or.inl ⟨by rfl, ?_⟩) (by with_reducible assumption) ?_
      rotate_left
      focus (intro w' hSw; (try dsimp only at hSw); go_simp; try (with_reducible rfl))
      (try simp only [Act.put, List.getElem_toArray, List.getElem_cons_zero, List.getElem_cons_succ, List.setIfInBounds_toArray, List.set_cons_zero, List.set_cons_succ])
      refine wpAnyH_take (i := 14) (oi := _) (v := ?_) rfl (by kernel_rfl) (by kernel_rfl) (by kernel_rfl) (fun _ _ _ h => h) (Or.inl ⟨by rfl, ?_⟩) (by with_reducible assumption) ?_
      rotate_left
      focus (intro w' hSw; (try dsimp only at hSw); go_simp; try (with_reducible rfl))
      (try simp only [Act.put, List.getElem_toArray, List.getElem_cons_zero, List.getElem_cons_succ, List.setIfInBounds_toArray, List.set_cons_zero, List.set_cons_succ])
      refine wpAnyH_take (i := 15) (oi := _) (v := ?_) rfl (by kernel_rfl) (by kernel_rfl) (by kernel_rfl) (fun _ _ _ h => h) (Or.inl ⟨by rfl, ?_⟩) (by with_reducible assumption) ?_
      rotate_left
      focus (intro w' hSw; (try dsimp only at hSw); go_simp; try (with_reducible rfl))
      (try simp only [Act.put, List.getElem_toArray, List.getElem_cons_zero, List.getElem_cons_succ, List.setIfInBounds_toArray, List.set_cons_zero, List.set_cons_succ])
      refine wpAnyH_take (i := 16) (oi := _) (v := ?_) rfl (by kernel_rfl) (by kernel_rfl) (by kernel_rfl) (fun _ _ _ h => h) (Or.inl ⟨by rfl, ?_⟩) (by with_reducible assumption) ?_
      rotate_left
      focus (intro w' hSw; (try dsimp only at hSw); go_simp; try (with_reducible rfl))
      (try simp only [Act.put, List.getElem_toArray, List.getElem_cons_zero, List.getElem_cons_succ, List.setIfInBounds_toArray, List.set_cons_zero, List.set_cons_succ])
      refine wpAnyH_take (i := 17) (oi := _) (v := ?_) rfl (by kernel_rfl) (by kernel_rfl) (by kernel_rfl) (fun _ _ _ h => h) (Or.inl ⟨by rfl, ?_⟩) (by with_reducible assumption) ?_
      rotate_left
      focus (intro w' hSw; (try dsimp only at hSw); go_simp; try (with_reducible rfl))
      (try simp only [Act.put, List.getElem_toArray, List.getElem_cons_zero, List.getElem_cons_succ, List.setIfInBounds_toArray, List.set_cons_zero, List.set_cons_succ])
      refine wpAnyH_take (i := 18) (oi := _) (v := ?_) rfl (by kernel_rfl) (by kernel_rfl) (by kernel_rfl) (fun _ _ _ h => h) (Or.inl ⟨by rfl, ?_⟩) (by with_reducible assumption) ?_
      rotate_left
      focus (intro w' hSw; (try dsimp only at hSw); go_simp; try (with_reducible rfl))
      (try simp only [Act.put, List.getElem_toArray, List.getElem_cons_zero, List.getElem_cons_succ, List.setIfInBounds_toArray, List.set_cons_zero, List.set_cons_succ])
      refine wpAnyH_ready (rs := [8]) (by kernel_rfl) (by simp) ?_
      refine AllReadyH.cons rfl (fun K hK => ?_) AllReadyH.nil
      go_simp
      refine hK.out _ _ hHeld (fun _ => ?_)
      clear hK K
      (try simp only [Act.put, List.getElem_toArray, List.getElem_cons_zero, List.getElem_cons_succ, List.setIfInBounds_toArray, List.set_cons_zero, List.set_cons_succ])
      refine wpAnyH_take (i := 19) (oi := _) (v := ?_) rfl (by kernel_rfl) (by kernel_rfl) (by kernel_rfl) (fun _ _ _ h => h) (Or.inl ⟨by rfl, ?_⟩) (by with_reducible assumption) ?_
      rotate_left
      focus (intro w' hSw; (try dsimp only at hSw); go_simp; try (with_reducible rfl))
      (try simp only [Act.put, List.getElem_toArray, List.getElem_cons_zero, List.getElem_cons_succ, List.setIfInBounds_toArray, List.set_cons_zero, List.set_cons_succ])
      refine wpAnyH_ready (rs := [20]) (by kernel_rfl) (by simp) ?_
      refine AllReadyH.cons rfl (fun K hK => ?_) AllReadyH.nil
      go_simp
      refine hK.out _ _ (keep5 hHeld ((Below.refl _ _).alloc (Nat.le_refl _) _)) (fun hHeld' => ?_)
      clear hK K hHeld
      have hHeld := hHeld'
      clear hHeld'
      (try simp only [Act.put, List.getElem_toArray, List.getElem_cons_zero, List.getElem_cons_succ, List.setIfInBounds_toArray, List.set_cons_zero, List.set_cons_succ])
      refine wpAnyH_ready (rs := [21]) (by kernel_rfl) (by simp) ?_
      refine AllReadyH.cons rfl (fun K hK => ?_) AllReadyH.nil
      have bA := eA (eD (eR wr wr.heap.size)) (Obj.cells #[.int .i64 (delF z k pm + iv (wrn z.wires k).res m * lodF z k m)] 2)
      rw [if_pos (by rfl)]
      refine wp_append_own _ _ _ 34 rfl w2.heap.size 2 ti (.int .i64 0) 1 8 Tryz.underlying34 hi hz0 hz1 hz2 rfl (by decide) _ _ _ rfl (HG.out.below bA) ⟨_, 0, none⟩ 1 1 [.int .i64 (delF z k pm + iv (wrn z.wires k).res m * lodF z k m)] rfl rfl (one_cellG2 _ _ _ _ (by simp)) (fun u hu => by simp at hu; subst hu; rfl) (by first | (rw [rowOf_len]; unfold maxLen; omega) | (unfold maxLen; omega)) (by first | omega | (rw [rowOf_len]; omega)) (by simp; omega) ?_
      intro v' wa hown' hgrow hnil
      have hsA : w2.heap.size ≤ (wr.drew.alloc (Obj.cells #[.int .i64 (delF z k pm + iv (wrn z.wires k).res m * lodF z k m)] 2)).heap.size := by simp; omega
      have G9 : Hid (GI wa w2.heap.size v' (rowOf (m + 1) (delF z k))) := Lib.hid (by
        unfold GI
        rw [rowOf_succ, HD.out, List.map_append, List.length_append]
        exact hown')
      have hb9 : Below w2.heap.size w2 wa := (hbr.trans (bA.mono hs)).grown hgrow hsA (fun q hq => hblk.out q hq)
      have B9 := Lib.hid hb9
      refine hK.out _ _ ⟨grownC hgrow hblk.out hHeld.1 (by omega) hsA, grownC hgrow hblk.out hHeld.2.1 (by omega) hsA, grownC hgrow hblk.out hHeld.2.2.1 (by omega) hsA, grownC hgrow hblk.out hHeld.2.2.2.1 (by omega) hsA, grownC hgrow hblk.out hHeld.2.2.2.2.1 (by omega) hsA, hb9, by have := hb9.size; omega⟩ (fun hHeld' => ?_)
      clear hK K hHeld hown' hgrow hnil hb9 bA hsA
      have hHeld := hHeld'
      clear hHeld'
      (try simp only [Act.put, List.getElem_toArray, List.getElem_cons_zero, List.getElem_cons_succ, List.setIfInBounds_toArray, List.set_cons_zero, List.set_cons_succ])
      refine wpAnyH_take (i := 22) (oi := _) (v := ?_) rfl (by kernel_rfl) (by kernel_rfl) (by kernel_rfl) (fun _ _ _ h => h) (Or.inl ⟨by rfl, ?_⟩) (by with_reducible assumption) ?_
      rotate_left
      focus (intro w' hSw; (try dsimp only at hSw); go_simp; try (with_reducible rfl))
      (try simp only [Act.put, List.getElem_toArray, List.getElem_cons_zero, List.getElem_cons_succ, List.setIfInBounds_toArray, List.set_cons_zero, List.set_cons_succ])
      refine wpAnyH_done (by kernel_rfl) ?_ _
      clear hw1 hw2 hHeld
      go_wp2
      go_roundw
      case rel => exact ⟨m + 1, by omega, by omega, by go_num, G9, B9.out⟩
      case measure => simp [intOf]; omega
    · obtain rfl : m = n := by omega
      have hI : ¬ (m : Int) < (m : Int) := by omega
      have hO := Lib.hid ((hG.out.own (by rw [rowOf_len]; omega)).mono (C := w.heap.size) B2.out.size)
      clear hG
      go_wp2
      go_ret
      exact ⟨_, rfl, hO.out, bww⟩
end Go.Proofs.YtodgpjolkfkcpaaGreat
namespace Go.Proofs.YtodgpjolkfkcpaaGreat
open Go.ChangeShapes Go.WideShapes Go.ChangeAt Go.RowKit Go.Deep
set_option linter.unusedVariables false
set_option linter.unusedSimpArgs false
set_option maxRecDepth 100000
theorem lods_len (z : BlkD) (x : Int) : (lodsL z x).length ≤ 1000 := by
  unfold lodsL
  by_cases h : blkCode z x = 0
  · obtain ⟨k, rfl, hb, hk⟩ := code_get h
    have := endN_bd hb hk
    rw [if_pos h, rowOf_len]
    show endN z k ≤ 1000
    omega
  · rw [if_neg h]; simp
theorem dels_len (z : BlkD) (x : Int) : (delsL z x).length ≤ 1000 := by
  unfold delsL
  by_cases h : blkCode z x = 0
  · obtain ⟨k, rfl, hb, hk⟩ := code_get h
    have := endN_bd hb hk
    rw [if_pos h, rowOf_len]
    show endN z k ≤ 1000
    omega
  · rw [if_neg h]; simp
set_option maxHeartbeats 8000000 in
theorem specNodeLoads_any (f : Nat → Value) (z : BlkD) (x : Int) (w : World) (h : BlkF w w.heap.size f z) :
    Calls Tryz.prog 9 #[.agg #[f 0, f 1, f 2, f 3, f 4], .int .i64 x] w (ListR w (lodsL z x) (blkCode z x)) := by
  have HCD := Lib.hid (fun (w1 : World) (hb' : Below w.heap.size w w1) => specCode_any f z x w1 (h.up hb'))
  by_cases hc : blkCode z x = 0
  · obtain ⟨k, rfl, hb, hk⟩ := code_get hc
    have HB := Lib.hid (fun (w1 : World) (hb' : Below w.heap.size w w1) => specLoads_any f z k w1 (h.up hb') hb hk)
    have XL := Lib.hid (code_yes hc).1
    have hne := (endN_bd hb hk).1
    obtain ⟨p0, q0, p1, q1, p2, q2, p3, q3, p4, q4, e0, e1, e2, e3, e4⟩ := h.five
    rw [e0, e1, e2, e3, e4] at HB HCD
    rw [hc] at HCD
    rw [hc, e0, e1, e2, e3, e4]
    clear e0 e1 e2 e3 e4 h hb hk hc
    unfold ToInts at HB
    go_enter Tryz.func9, Tryz.ntmps9
    go_wp2_with fail
    (go_at_call 28; refine (HCD.out _ eX).mono ?_; rintro e w1 ⟨rfl, hb⟩; obtain ⟨hc, hf⟩ := bcell hb; have hz := hb.size; (try simp at hz); (try (have hz := Nat.lt_of_succ_le hz)); (try (have y0 : w.heap.size ≤ w1.heap.size := by omega)); (try (have z0 : w.heap.size < w1.heap.size := by omega)); (try (have z1 : w.heap.size + 1 < w1.heap.size := by omega)); (try (have z2 : w.heap.size + 1 + 1 < w1.heap.size := by omega)); (try (have z3 : w.heap.size + 1 + 1 + 1 < w1.heap.size := by omega)); (try (have z4 : w.heap.size + 1 + 1 + 1 + 1 < w1.heap.size := by omega)))
    go_wp2_with fail
    (go_at_call 29; refine (HB.out _ eX).mono ?_; rintro e w2 ⟨u, rfl, hU, hb2⟩)
    have HO := Lib.hid (hU.mono (C := w.heap.size) (by have := hb.size; simp at this; omega))
    have BB : Below w.heap.size w w2 := by exact eX
    obtain ⟨a2, c2, rfl⟩ := hU.slice
    clear hU hb2
    go_wp2
    go_ret2
    exact ⟨_, rfl, by rw [XL.out]; exact HO.out, BB⟩
  · have XL := Lib.hid (code_no hc).1
    have hp := code_pos z x
    skip
    obtain ⟨p0, q0, p1, q1, p2, q2, p3, q3, p4, q4, e0, e1, e2, e3, e4⟩ := h.five
    obtain ⟨c, hcc⟩ : ∃ c, c = blkCode z x := ⟨_, rfl⟩
    rw [← hcc, e0, e1, e2, e3, e4] at HCD
    rw [← hcc] at hc hp
    rw [← hcc, e0, e1, e2, e3, e4]
    clear e0 e1 e2 e3 e4 h hcc
    have hne : (c != 0) = true := by simpa using hc
    have hne2 : (c == 0) = false := by simpa using hc
    clear hp hc
    go_enter Tryz.func9, Tryz.ntmps9
    go_wp2_with fail
    (go_at_call 28; refine (HCD.out _ eX).mono ?_; rintro e w1 ⟨rfl, hb⟩; obtain ⟨hc, hf⟩ := bcell hb; have hz := hb.size; (try simp at hz); (try (have hz := Nat.lt_of_succ_le hz)); (try (have y0 : w.heap.size ≤ w1.heap.size := by omega)); (try (have z0 : w.heap.size < w1.heap.size := by omega)); (try (have z1 : w.heap.size + 1 < w1.heap.size := by omega)); (try (have z2 : w.heap.size + 1 + 1 < w1.heap.size := by omega)); (try (have z3 : w.heap.size + 1 + 1 + 1 < w1.heap.size := by omega)); (try (have z4 : w.heap.size + 1 + 1 + 1 + 1 < w1.heap.size := by omega)))
    go_wp2
    go_ret2
    exact ⟨_, rfl, by rw [XL.out]; exact own_nil _ _, eX⟩
set_option maxHeartbeats 8000000 in
theorem specNodeDelays_any (f : Nat → Value) (z : BlkD) (x : Int) (w : World) (h : BlkF w w.heap.size f z) :
    Calls Tryz.prog 19 #[.agg #[f 0, f 1, f 2, f 3, f 4], .int .i64 x] w (ListR w (delsL z x) (blkCode z x)) := by
  have HCD := Lib.hid (fun (w1 : World) (hb' : Below w.heap.size w w1) => specCode_any f z x w1 (h.up hb'))
  by_cases hc : blkCode z x = 0
  · obtain ⟨k, rfl, hb, hk⟩ := code_get hc
    have HB := Lib.hid (fun (w1 : World) (hb' : Below w.heap.size w w1) => specDelays_any f z k w1 (h.up hb') hb hk)
    have XL := Lib.hid (code_yes hc).2.1
    have hne := (endN_bd hb hk).1
    obtain ⟨p0, q0, p1, q1, p2, q2, p3, q3, p4, q4, e0, e1, e2, e3, e4⟩ := h.five
    rw [e0, e1, e2, e3, e4] at HB HCD
    rw [hc] at HCD
    rw [hc, e0, e1, e2, e3, e4]
    clear e0 e1 e2 e3 e4 h hb hk hc
    unfold ToInts at HB
    go_enter Tryz.func19, Tryz.ntmps19
    go_wp2_with fail
    (go_at_call 28; refine (HCD.out _ eX).mono ?_; rintro e w1 ⟨rfl, hb⟩; obtain ⟨hc, hf⟩ := bcell hb; have hz := hb.size; (try simp at hz); (try (have hz := Nat.lt_of_succ_le hz)); (try (have y0 : w.heap.size ≤ w1.heap.size := by omega)); (try (have z0 : w.heap.size < w1.heap.size := by omega)); (try (have z1 : w.heap.size + 1 < w1.heap.size := by omega)); (try (have z2 : w.heap.size + 1 + 1 < w1.heap.size := by omega)); (try (have z3 : w.heap.size + 1 + 1 + 1 < w1.heap.size := by omega)); (try (have z4 : w.heap.size + 1 + 1 + 1 + 1 < w1.heap.size := by omega)))
    go_wp2_with fail
    (go_at_call 40; refine (HB.out _ eX).mono ?_; rintro e w2 ⟨u, rfl, hU, hb2⟩)
    have HO := Lib.hid (hU.mono (C := w.heap.size) (by have := hb.size; simp at this; omega))
    have BB : Below w.heap.size w w2 := by exact eX
    obtain ⟨a2, c2, rfl⟩ := hU.slice
    clear hU hb2
    go_wp2
    go_ret2
    exact ⟨_, rfl, by rw [XL.out]; exact HO.out, BB⟩
  · have XL := Lib.hid (code_no hc).2.1
    have hp := code_pos z x
    skip
    obtain ⟨p0, q0, p1, q1, p2, q2, p3, q3, p4, q4, e0, e1, e2, e3, e4⟩ := h.five
    obtain ⟨c, hcc⟩ : ∃ c, c = blkCode z x := ⟨_, rfl⟩
    rw [← hcc, e0, e1, e2, e3, e4] at HCD
    rw [← hcc] at hc hp
    rw [← hcc, e0, e1, e2, e3, e4]
    clear e0 e1 e2 e3 e4 h hcc
    have hne : (c != 0) = true := by simpa using hc
    have hne2 : (c == 0) = false := by simpa using hc
    clear hp hc
    go_enter Tryz.func19, Tryz.ntmps19
    go_wp2_with fail
    (go_at_call 28; refine (HCD.out _ eX).mono ?_; rintro e w1 ⟨rfl, hb⟩; obtain ⟨hc, hf⟩ := bcell hb; have hz := hb.size; (try simp at hz); (try (have hz := Nat.lt_of_succ_le hz)); (try (have y0 : w.heap.size ≤ w1.heap.size := by omega)); (try (have z0 : w.heap.size < w1.heap.size := by omega)); (try (have z1 : w.heap.size + 1 < w1.heap.size := by omega)); (try (have z2 : w.heap.size + 1 + 1 < w1.heap.size := by omega)); (try (have z3 : w.heap.size + 1 + 1 + 1 < w1.heap.size := by omega)); (try (have z4 : w.heap.size + 1 + 1 + 1 + 1 < w1.heap.size := by omega)))
    go_wp2
    go_ret2
    exact ⟨_, rfl, by rw [XL.out]; exact own_nil _ _, eX⟩
set_option maxHeartbeats 8000000 in
theorem specNetLoad_any (f : Nat → Value) (z : BlkD) (x : Int) (w : World) (h : BlkF w w.heap.size f z) :
    Calls Tryz.prog 17 #[.agg #[f 0, f 1, f 2, f 3, f 4], .int .i64 x] w (fun e w' => e = .returned (.tuple #[.int .i64 (netLd z x), .int .i64 (blkCode z x)]) ∧ Below w.heap.size w w') := by
  have HCD := Lib.hid (fun (w1 : World) (hb' : Below w.heap.size w w1) => specCode_any f z x w1 (h.up hb'))
  by_cases hc : blkCode z x = 0
  · obtain ⟨k, rfl, hb, hk⟩ := code_get hc
    have HB := Lib.hid (fun (w1 : World) (hb' : Below w.heap.size w w1) => specLoads_any f z k w1 (h.up hb') hb hk)
    have XL := Lib.hid (code_yes hc).2.2
    have hne := (endN_bd hb hk).1
    obtain ⟨p0, q0, p1, q1, p2, q2, p3, q3, p4, q4, e0, e1, e2, e3, e4⟩ := h.five
    rw [e0, e1, e2, e3, e4] at HB HCD
    rw [hc] at HCD
    rw [XL.out]; rw [hc, e0, e1, e2, e3, e4]
    clear e0 e1 e2 e3 e4 h hb hk hc
    unfold ToInts at HB
    go_enter Tryz.func17, Tryz.ntmps17
    go_wp2_with fail
    (go_at_call 28; refine (HCD.out _ eX).mono ?_; rintro e w1 ⟨rfl, hb⟩; obtain ⟨hc, hf⟩ := bcell hb; have hz := hb.size; (try simp at hz); (try (have hz := Nat.lt_of_succ_le hz)); (try (have y0 : w.heap.size ≤ w1.heap.size := by omega)); (try (have z0 : w.heap.size < w1.heap.size := by omega)); (try (have z1 : w.heap.size + 1 < w1.heap.size := by omega)); (try (have z2 : w.heap.size + 1 + 1 < w1.heap.size := by omega)); (try (have z3 : w.heap.size + 1 + 1 + 1 < w1.heap.size := by omega)); (try (have z4 : w.heap.size + 1 + 1 + 1 + 1 < w1.heap.size := by omega)))
    go_wp2_with fail
    (go_at_call 29; refine (HB.out _ eX).mono ?_; rintro e w2 ⟨u, rfl, hU, hb2⟩)
    obtain ⟨a2, c2, rfl⟩ := hU.slice
    obtain ⟨-, g, rfl, -, gl, gx⟩ := hU.cells (by rw [rowOf_len]; omega)
    have y0 := (gx 0 (by rw [rowOf_len]; omega)).1
    rw [rowOf_at (by omega)] at y0
    have BB : Below w.heap.size w w2 := by exact eX
    rw [rowOf_len]
    have i1 : (0 : Int) < (endN z k : Int) := by omega
    have i2 : 0 < endN z k := by omega
    clear hU hb2 gx
    go_wp2
    go_ret2
    exact ⟨rfl, BB⟩
  · have XL := Lib.hid (code_no hc).2.2
    have hp := code_pos z x
    rw [XL.out]; skip
    obtain ⟨p0, q0, p1, q1, p2, q2, p3, q3, p4, q4, e0, e1, e2, e3, e4⟩ := h.five
    obtain ⟨c, hcc⟩ : ∃ c, c = blkCode z x := ⟨_, rfl⟩
    rw [← hcc, e0, e1, e2, e3, e4] at HCD
    rw [← hcc] at hc hp
    rw [← hcc, e0, e1, e2, e3, e4]
    clear e0 e1 e2 e3 e4 h hcc
    have hne : (c != 0) = true := by simpa using hc
    have hne2 : (c == 0) = false := by simpa using hc
    clear hp hc
    go_enter Tryz.func17, Tryz.ntmps17
    go_wp2_with fail
    (go_at_call 28; refine (HCD.out _ eX).mono ?_; rintro e w1 ⟨rfl, hb⟩; obtain ⟨hc, hf⟩ := bcell hb; have hz := hb.size; (try simp at hz); (try (have hz := Nat.lt_of_succ_le hz)); (try (have y0 : w.heap.size ≤ w1.heap.size := by omega)); (try (have z0 : w.heap.size < w1.heap.size := by omega)); (try (have z1 : w.heap.size + 1 < w1.heap.size := by omega)); (try (have z2 : w.heap.size + 1 + 1 < w1.heap.size := by omega)); (try (have z3 : w.heap.size + 1 + 1 + 1 < w1.heap.size := by omega)); (try (have z4 : w.heap.size + 1 + 1 + 1 + 1 < w1.heap.size := by omega)))
    go_wp2
    go_ret2
    exact ⟨rfl, eX⟩
end Go.Proofs.YtodgpjolkfkcpaaGreat
