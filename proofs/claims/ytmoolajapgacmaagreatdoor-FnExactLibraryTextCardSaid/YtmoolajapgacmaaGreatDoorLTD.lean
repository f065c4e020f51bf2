/-
The model's lines of a cell, for every valid one.
-/
import Derived.Test.YtmoolajapgacmaaGreatDoorLTA
import Derived.Deep.RegionHeld3
namespace Go.Proofs.YtmoolajapgacmaaGreatDoor
open Go.ChangeShapes Go.WideShapes Go.ChangeAt Go.RowKit
set_option linter.unusedVariables false
set_option linter.unusedSimpArgs false
set_option maxRecDepth 100000
theorem keep13 {w w0 w1 : World} {L g0 g1 g2 g3 g4 g5 g6 g7 g8 g9 g10 g11 g12 o0 o1 o2 o3 o4 o5 o6 o7 o8 o9 o10 o11 o12 : Nat} {v0 v1 v2 v3 v4 v5 v6 v7 v8 v9 v10 v11 v12 : Value} (h : w0.cell? ⟨g0, o0, none⟩ = some v0 ∧ w0.cell? ⟨g1, o1, none⟩ = some v1 ∧ w0.cell? ⟨g2, o2, none⟩ = some v2 ∧ w0.cell? ⟨g3, o3, none⟩ = some v3 ∧ w0.cell? ⟨g4, o4, none⟩ = some v4 ∧ w0.cell? ⟨g5, o5, none⟩ = some v5 ∧ w0.cell? ⟨g6, o6, none⟩ = some v6 ∧ w0.cell? ⟨g7, o7, none⟩ = some v7 ∧ w0.cell? ⟨g8, o8, none⟩ = some v8 ∧ w0.cell? ⟨g9, o9, none⟩ = some v9 ∧ w0.cell? ⟨g10, o10, none⟩ = some v10 ∧ w0.cell? ⟨g11, o11, none⟩ = some v11 ∧ w0.cell? ⟨g12, o12, none⟩ = some v12 ∧ Below w.heap.size w w0 ∧ L < w0.heap.size) (hb : Below w0.heap.size w0 w1) : w1.cell? ⟨g0, o0, none⟩ = some v0 ∧ w1.cell? ⟨g1, o1, none⟩ = some v1 ∧ w1.cell? ⟨g2, o2, none⟩ = some v2 ∧ w1.cell? ⟨g3, o3, none⟩ = some v3 ∧ w1.cell? ⟨g4, o4, none⟩ = some v4 ∧ w1.cell? ⟨g5, o5, none⟩ = some v5 ∧ w1.cell? ⟨g6, o6, none⟩ = some v6 ∧ w1.cell? ⟨g7, o7, none⟩ = some v7 ∧ w1.cell? ⟨g8, o8, none⟩ = some v8 ∧ w1.cell? ⟨g9, o9, none⟩ = some v9 ∧ w1.cell? ⟨g10, o10, none⟩ = some v10 ∧ w1.cell? ⟨g11, o11, none⟩ = some v11 ∧ w1.cell? ⟨g12, o12, none⟩ = some v12 ∧ Below w.heap.size w w1 ∧ L < w1.heap.size := by
  obtain ⟨h0, h1, h2, h3, h4, h5, h6, h7, h8, h9, h10, h11, h12, hw, hL⟩ := h
  exact ⟨cell_keep h0 hb, cell_keep h1 hb, cell_keep h2 hb, cell_keep h3 hb, cell_keep h4 hb, cell_keep h5 hb, cell_keep h6 hb, cell_keep h7 hb, cell_keep h8 hb, cell_keep h9 hb, cell_keep h10 hb, cell_keep h11 hb, cell_keep h12 hb, ext_trans hw hb, Nat.lt_of_lt_of_le hL hb.size⟩
theorem keep13s {w w0 : World} {L g0 g1 g2 g3 g4 g5 g6 g7 g8 g9 g10 g11 g12 o0 o1 o2 o3 o4 o5 o6 o7 o8 o9 o10 o11 o12 : Nat} {v0 v1 v2 v3 v4 v5 v6 v7 v8 v9 v10 v11 v12 : Value} {p : Addr} {u : Value} (h : w0.cell? ⟨g0, o0, none⟩ = some v0 ∧ w0.cell? ⟨g1, o1, none⟩ = some v1 ∧ w0.cell? ⟨g2, o2, none⟩ = some v2 ∧ w0.cell? ⟨g3, o3, none⟩ = some v3 ∧ w0.cell? ⟨g4, o4, none⟩ = some v4 ∧ w0.cell? ⟨g5, o5, none⟩ = some v5 ∧ w0.cell? ⟨g6, o6, none⟩ = some v6 ∧ w0.cell? ⟨g7, o7, none⟩ = some v7 ∧ w0.cell? ⟨g8, o8, none⟩ = some v8 ∧ w0.cell? ⟨g9, o9, none⟩ = some v9 ∧ w0.cell? ⟨g10, o10, none⟩ = some v10 ∧ w0.cell? ⟨g11, o11, none⟩ = some v11 ∧ w0.cell? ⟨g12, o12, none⟩ = some v12 ∧ Below w.heap.size w w0 ∧ L < w0.heap.size) (hw : w.heap.size ≤ L + 1) (hp : L < p.block) (q0 : g0 ≤ L) (q1 : g1 ≤ L) (q2 : g2 ≤ L) (q3 : g3 ≤ L) (q4 : g4 ≤ L) (q5 : g5 ≤ L) (q6 : g6 ≤ L) (q7 : g7 ≤ L) (q8 : g8 ≤ L) (q9 : g9 ≤ L) (q10 : g10 ≤ L) (q11 : g11 ≤ L) (q12 : g12 ≤ L) : (w0.setCell p u).cell? ⟨g0, o0, none⟩ = some v0 ∧ (w0.setCell p u).cell? ⟨g1, o1, none⟩ = some v1 ∧ (w0.setCell p u).cell? ⟨g2, o2, none⟩ = some v2 ∧ (w0.setCell p u).cell? ⟨g3, o3, none⟩ = some v3 ∧ (w0.setCell p u).cell? ⟨g4, o4, none⟩ = some v4 ∧ (w0.setCell p u).cell? ⟨g5, o5, none⟩ = some v5 ∧ (w0.setCell p u).cell? ⟨g6, o6, none⟩ = some v6 ∧ (w0.setCell p u).cell? ⟨g7, o7, none⟩ = some v7 ∧ (w0.setCell p u).cell? ⟨g8, o8, none⟩ = some v8 ∧ (w0.setCell p u).cell? ⟨g9, o9, none⟩ = some v9 ∧ (w0.setCell p u).cell? ⟨g10, o10, none⟩ = some v10 ∧ (w0.setCell p u).cell? ⟨g11, o11, none⟩ = some v11 ∧ (w0.setCell p u).cell? ⟨g12, o12, none⟩ = some v12 ∧ Below w.heap.size w (w0.setCell p u) ∧ L < (w0.setCell p u).heap.size := by
  obtain ⟨h0, h1, h2, h3, h4, h5, h6, h7, h8, h9, h10, h11, h12, hb, hL⟩ := h
  exact ⟨cell_keep_set h0 (by omega), cell_keep_set h1 (by omega), cell_keep_set h2 (by omega), cell_keep_set h3 (by omega), cell_keep_set h4 (by omega), cell_keep_set h5 (by omega), cell_keep_set h6 (by omega), cell_keep_set h7 (by omega), cell_keep_set h8 (by omega), cell_keep_set h9 (by omega), cell_keep_set h10 (by omega), cell_keep_set h11 (by omega), cell_keep_set h12 (by omega), hb.setCell (by omega) u, by simpa [World.setCell] using hL⟩

/-- In a region that draws its order S may be made stronger: by cells of memory that a callee has just made. -/
theorem wpAnyH_more {P : Program} {md : Region.Mode} {ops : Array Oper} {Q : Exit → Act → World → Prop} {S S' : World → Prop} (h : ∀ w, S' w → S w) : ∀ (fuel : Nat) (listed : Array Bool) (a : Act) (w : World), wpAnyH P md ops Q S' fuel listed a w → wpAnyH P md ops Q S fuel listed a w
  | 0, _, _, _, H => H
  | fuel + 1, _, _, _, H => ⟨H.1, fun i hi => wpOp_mono (fun a' w' h' => ⟨h _ h'.1, wpAnyH_more h fuel _ a' w' h'.2⟩) (H.2 i hi)⟩

/-- s, and its line's end, behind the lines so far. -/
theorem step_line {J T : ByteArray} {ls : List (List UInt8)} {k : Nat} (h : k < ls.length) (hJ : J.data.toList = linesX (ls.take k)) (hT : T.data.toList = ls.getD k []) : (J ++ T ++ ⟨#[10]⟩).data.toList = linesX (ls.take (k + 1)) := by
  rw [linesX_take h, ← hJ, ← hT]
  simp
theorem head_flat (c : CellD) : linesX ((cellLs c).take 1) = [99, 101, 108, 108, 32] ++ c.name.data.toList ++ [32] ++ kndW c.kind ++ [32] ++ Lib.itoa c.leak ++ [32] ++ Lib.itoa c.energy ++ [10] := by
  rw [show (cellLs c).take 1 = [headL c] by simp [cellLs], linesX_one]
  unfold headL
  rw [Lib.join_cons]
  simp [Lib.joinTail]
theorem itoa_bit (n : Int) (h0 : 0 ≤ n) (h1 : n ≤ 1) : Lib.itoa n = [dig n] := by
  rw [itoa_nat n h0]
  obtain rfl | rfl : n = 0 ∨ n = 1 := by omega
  · rw [show (0 : Int).toNat = 0 from rfl, Lib.decDigits, dif_pos (by omega)]; rfl
  · rw [show (1 : Int).toNat = 1 from rfl, Lib.decDigits, dif_pos (by omega)]; rfl
set_option maxHeartbeats 4000000 in
theorem specCellX_any (f : Nat → Value) (c : CellD) (w : World) (h : CellF w w.heap.size f c) (hv : cellB c = true) : Calls Tryz.prog 58 #[.agg #[f 0, f 1, f 2, f 3, f 4, f 5, f 6]] w (Says (cellX c) w) := by
  have HF0 := Lib.hid h
  have ⟨n8, l0, l1, g0, g1⟩ := amount_v hv
  have ⟨kd1, kd3, hbits⟩ := bits_v hv
  have HLn := Lib.hid (cell_len hv)
  have ⟨hpb, _, hab, _⟩ := cell_get hv
  have ⟨_, np5, pv⟩ := pins_v hpb
  have ⟨na8, av⟩ := arcs_v hab
  have hfl := head_flat c
  have hln := cellLs_len c
  obtain ⟨ls, hls⟩ : ∃ ls, ls = cellLs c := ⟨_, rfl⟩
  rw [← hls] at hfl hln HLn
  have HP := Lib.hid (fun k (hk : k < c.pins.length) => by rw [hls]; exact line_pin c hk : ∀ k, k < c.pins.length → ls.getD (1 + k) [] = pinL (pn c.pins k))
  have HA := Lib.hid (fun k (hk : k < c.arcs.length) => by rw [hls]; exact line_arc c hk : ∀ k, k < c.arcs.length → ls.getD (1 + c.pins.length + k) [] = arcL c.pins (an c.arcs k))
  have HT := Lib.hid (fun (hk : c.kind = 1) => by rw [hls]; exact line_truth c hk : c.kind = 1 → ls.getD (1 + c.pins.length + c.arcs.length) [] = truL c.truth)
  obtain ⟨e0, e1, x2, x3, x4, e5, e6, hsz⟩ := h
  obtain ⟨F2, c2, f2⟩ := x2
  obtain ⟨F3, c3, f3⟩ := x3
  obtain ⟨np, hnp⟩ : ∃ n, n = c.pins.length := ⟨_, rfl⟩
  obtain ⟨na, hna⟩ : ∃ n, n = c.arcs.length := ⟨_, rfl⟩
  obtain ⟨nt, hnt⟩ : ∃ n, n = c.truth.length := ⟨_, rfl⟩
  rw [← hnp] at c2 f2 np5 pv hln HP HA HT
  rw [← hna] at c3 f3 na8 av hln HA HT
  have H2 := c2; have H3 := c3; have H4 := x4
  obtain ⟨_, p2, q2, e2, _⟩ := c2; obtain ⟨_, p3, q3, e3, _⟩ := c3; obtain ⟨p4, q4, e4⟩ := x4.slice
  rw [e2] at H2; rw [e3] at H3; rw [e4] at H4
  rw [← hnt] at e4 hbits
  obtain ⟨κ, hκ⟩ : ∃ κ : Nat, c.kind = (κ : Int) + 1 := ⟨(c.kind - 1).toNat, by omega⟩
  have HE := Lib.hid (show #[Value.agg #[f 0, f 1, f 2, f 3, f 4, f 5, f 6]] = #[.agg #[.string c.name, .int .i64 ((κ : Int) + 1), .slice p2 np q2, .slice p3 na q3, .slice p4 nt q4, .int .i64 c.leak, .int .i64 c.energy]] by rw [e0, e1, e2, e3, e4, e5, e6, hκ])
  rw [HE.out]
  have HK := fun w1 => specKnds_at κ (by omega) w1
  obtain ⟨KW, hKW⟩ : ∃ KW, KW = bstr (kndW ((κ : Int) + 1)) := ⟨_, rfl⟩
  simp only [← hKW] at HK
  have hKs : KW.size ≤ 5 := by rw [hKW, bstr_size]; exact kndW_len _
  have HKH := Lib.hid HK
  have hi0 := itoa_le c.leak (by omega) (by omega)
  have hi1 := itoa_le c.energy (by omega) (by omega)
  rw [hκ, show kndW ((κ : Int) + 1) = KW.data.toList by rw [hKW, bstr_list]] at hfl
  have J1 := Lib.hid (show (⟨#[99, 101, 108, 108, 32]⟩ ++ c.name ++ ⟨#[32]⟩ ++ KW ++ ⟨#[32]⟩ ++ ⟨(Lib.itoa c.leak).toArray⟩ ++ ⟨#[32]⟩ ++ ⟨(Lib.itoa c.energy).toArray⟩ ++ ⟨#[10]⟩ : ByteArray).data.toList = linesX (ls.take 1) by rw [hfl]; simp)
  have J1S := Lib.hid (show (⟨#[99, 101, 108, 108, 32]⟩ ++ c.name ++ ⟨#[32]⟩ ++ KW ++ ⟨#[32]⟩ ++ ⟨(Lib.itoa c.leak).toArray⟩ ++ ⟨#[32]⟩ ++ ⟨(Lib.itoa c.energy).toArray⟩ ++ ⟨#[10]⟩ : ByteArray).size ≤ 177015 by have := HLn.out 1; rw [← J1.out, sz_list] at this; exact this)
  have κ0 : (0 : Int) ≤ (κ : Int) := by omega
  have κ3 : (κ : Int) < 3 := by omega
  have κw : IntKind.i64.wrap (κ : Int) = (κ : Int) := IntWalk.i64_in _ (by omega)
  have κw2 : IntKind.i64.wrap ((κ : Int) + 1 - 1) = (κ : Int) := by rw [IntWalk.i64_in _ (by omega)]; omega
  have su1a : 5 + c.name.size ≤ 9223372036854775807 := by omega
  have su1b : ¬ 9223372036854775807 < 5 + c.name.size := by omega
  have su1c : ¬ (9223372036854775807 : Int) < 5 + ((c.name.size : Nat) : Int) := by omega
  have su2a : 5 + c.name.size + 1 ≤ 9223372036854775807 := by omega
  have su2b : ¬ 9223372036854775807 < 5 + c.name.size + 1 := by omega
  have su2c : ¬ (9223372036854775807 : Int) < 5 + ((c.name.size : Nat) : Int) + 1 := by omega
  have su3a : 5 + c.name.size + 1 + KW.size ≤ 9223372036854775807 := by omega
  have su3b : ¬ 9223372036854775807 < 5 + c.name.size + 1 + KW.size := by omega
  have su3c : ¬ (9223372036854775807 : Int) < 5 + ((c.name.size : Nat) : Int) + 1 + ((KW.size : Nat) : Int) := by omega
  have su4a : 5 + c.name.size + 1 + KW.size + 1 ≤ 9223372036854775807 := by omega
  have su4b : ¬ 9223372036854775807 < 5 + c.name.size + 1 + KW.size + 1 := by omega
  have su4c : ¬ (9223372036854775807 : Int) < 5 + ((c.name.size : Nat) : Int) + 1 + ((KW.size : Nat) : Int) + 1 := by omega
  have su5a : 5 + c.name.size + 1 + KW.size + 1 + (Lib.itoa c.leak).length ≤ 9223372036854775807 := by omega
  have su5b : ¬ 9223372036854775807 < 5 + c.name.size + 1 + KW.size + 1 + (Lib.itoa c.leak).length := by omega
  have su5c : ¬ (9223372036854775807 : Int) < 5 + ((c.name.size : Nat) : Int) + 1 + ((KW.size : Nat) : Int) + 1 + (((Lib.itoa c.leak).length : Nat) : Int) := by omega
  have su6a : 5 + c.name.size + 1 + KW.size + 1 + (Lib.itoa c.leak).length + 1 ≤ 9223372036854775807 := by omega
  have su6b : ¬ 9223372036854775807 < 5 + c.name.size + 1 + KW.size + 1 + (Lib.itoa c.leak).length + 1 := by omega
  have su6c : ¬ (9223372036854775807 : Int) < 5 + ((c.name.size : Nat) : Int) + 1 + ((KW.size : Nat) : Int) + 1 + (((Lib.itoa c.leak).length : Nat) : Int) + 1 := by omega
  have su7a : 5 + c.name.size + 1 + KW.size + 1 + (Lib.itoa c.leak).length + 1 + (Lib.itoa c.energy).length ≤ 9223372036854775807 := by omega
  have su7b : ¬ 9223372036854775807 < 5 + c.name.size + 1 + KW.size + 1 + (Lib.itoa c.leak).length + 1 + (Lib.itoa c.energy).length := by omega
  have su7c : ¬ (9223372036854775807 : Int) < 5 + ((c.name.size : Nat) : Int) + 1 + ((KW.size : Nat) : Int) + 1 + (((Lib.itoa c.leak).length : Nat) : Int) + 1 + (((Lib.itoa c.energy).length : Nat) : Int) := by omega
  have su8a : 5 + c.name.size + 1 + KW.size + 1 + (Lib.itoa c.leak).length + 1 + (Lib.itoa c.energy).length + 1 ≤ 9223372036854775807 := by omega
  have su8b : ¬ 9223372036854775807 < 5 + c.name.size + 1 + KW.size + 1 + (Lib.itoa c.leak).length + 1 + (Lib.itoa c.energy).length + 1 := by omega
  have su8c : ¬ (9223372036854775807 : Int) < 5 + ((c.name.size : Nat) : Int) + 1 + ((KW.size : Nat) : Int) + 1 + (((Lib.itoa c.leak).length : Nat) : Int) + 1 + (((Lib.itoa c.energy).length : Nat) : Int) + 1 := by omega
  have H2 := Lib.hid H2; have H3 := Lib.hid H3; have H4 := Lib.hid H4; have F2H := Lib.hid f2; have F3H := Lib.hid f3; have PV := Lib.hid pv; have AV := Lib.hid av; have HBi := Lib.hid hbits
  have HX := Lib.hid (show linesX ls = cellX c by rw [hls]; rfl)
  have HM := Lib.hid hln
  have HN := Lib.hid (show np = c.pins.length ∧ na = c.arcs.length ∧ nt = c.truth.length ∧ c.kind = (κ : Int) + 1 from ⟨hnp, hna, hnt, hκ⟩)
  clear hfl hln hls e0 e1 e2 e3 e4 e5 e6 x4 f2 f3 hnp hna hnt hκ HK hKW hv hpb hab pv av hbits hsz kd1 kd3
  go_enter Tryz.func58, Tryz.ntmps58
  go_upto_region 1 with fail
  refine wp_region_held_drew (S := (fun w' => w'.cell? ⟨w.heap.size, 0, none⟩ = some (.string c.name) ∧ w'.cell? ⟨w.heap.size, 1, none⟩ = some (.int .i64 ((κ : Int) + 1)) ∧ w'.cell? ⟨w.heap.size, 2, none⟩ = some (.slice p2 np q2) ∧ w'.cell? ⟨w.heap.size, 3, none⟩ = some (.slice p3 na q3) ∧ w'.cell? ⟨w.heap.size, 4, none⟩ = some (.slice p4 nt q4) ∧ w'.cell? ⟨w.heap.size, 5, none⟩ = some (.int .i64 c.leak) ∧ w'.cell? ⟨w.heap.size, 6, none⟩ = some (.int .i64 c.energy) ∧ Below w.heap.size w w' ∧ w.heap.size < w'.heap.size)) (by kernel_rfl) ?_ (fun hHeld => ?_)
  · (try dsimp only); ((repeat' apply And.intro) <;> first | assumption | ((repeat (first | (with_reducible exact Below.refl _ _) | (with_reducible assumption) | (with_reducible refine ext_alloc ?_ _) | (with_reducible refine ext_drew ?_) | (with_reducible refine ext_drewN ?_ _) | (with_reducible refine ext_set ?_ (by first | exact Nat.le_refl _ | (simp; done) | (simp; omega) | omega) _) | (with_reducible refine ext_trans ?_ (by assumption)))); done) | (simp [go_sem]; done) | (simp [go_sem, *]; done) | (simp; omega) | omega)
  (try dsimp only at hHeld)
  refine wpAnyH_take (i := 0) (oi := _) (v := ?_) rfl (by kernel_rfl) (by kernel_rfl) (by kernel_rfl) (fun _ _ _ h => h) (Or.inl ⟨by rfl, ?_⟩) (by with_reducible assumption) ?_
  rotate_left
  focus (intro w' hSw; (try dsimp only at hSw); go_simp; try (with_reducible rfl))
  (try simp only [Act.put, List.getElem_toArray, List.getElem_cons_zero, List.getElem_cons_succ, List.setIfInBounds_toArray, List.set_cons_zero, List.set_cons_succ])
  refine wpAnyH_take (i := 1) (oi := _) (v := ?_) rfl (by kernel_rfl) (by kernel_rfl) (by kernel_rfl) (fun _ _ _ h => h) (Or.inl ⟨by rfl, ?_⟩) (by with_reducible assumption) ?_
  rotate_left
  focus (intro w' hSw; (try dsimp only at hSw); go_simp; try (with_reducible rfl))
  (try simp only [Act.put, List.getElem_toArray, List.getElem_cons_zero, List.getElem_cons_succ, List.setIfInBounds_toArray, List.set_cons_zero, List.set_cons_succ])
  refine wpAnyH_take (i := 2) (oi := _) (v := ?_) rfl (by kernel_rfl) (by kernel_rfl) (by kernel_rfl) (fun _ _ _ h => h) (Or.inl ⟨by rfl, ?_⟩) (by with_reducible assumption) ?_
  rotate_left
  focus (intro w' hSw; (try dsimp only at hSw); go_simp; try (with_reducible rfl))
  (try simp only [Act.put, List.getElem_toArray, List.getElem_cons_zero, List.getElem_cons_succ, List.setIfInBounds_toArray, List.set_cons_zero, List.set_cons_succ])
  refine wpAnyH_take (i := 3) (oi := _) (v := ?_) rfl (by kernel_rfl) (by kernel_rfl) (by kernel_rfl) (fun _ _ _ h => h) (Or.inl ⟨by rfl, ?_⟩) (by with_reducible assumption) ?_
  rotate_left
  focus (intro w' hSw; (try dsimp only at hSw); go_simp; try (with_reducible rfl))
  (try simp only [Act.put, List.getElem_toArray, List.getElem_cons_zero, List.getElem_cons_succ, List.setIfInBounds_toArray, List.set_cons_zero, List.set_cons_succ])
  refine wpAnyH_take (i := 5) (oi := _) (v := ?_) rfl (by kernel_rfl) (by kernel_rfl) (by kernel_rfl) (fun _ _ _ h => h) (Or.inl ⟨by rfl, ?_⟩) (by with_reducible assumption) ?_
  rotate_left
  focus (intro w' hSw; (try dsimp only at hSw); go_simp; try (with_reducible rfl))
  (try simp only [Act.put, List.getElem_toArray, List.getElem_cons_zero, List.getElem_cons_succ, List.setIfInBounds_toArray, List.set_cons_zero, List.set_cons_succ])
  refine wpAnyH_take (i := 6) (oi := _) (v := ?_) rfl (by kernel_rfl) (by kernel_rfl) (by kernel_rfl) (fun _ _ _ h => h) (Or.inl ⟨by rfl, ?_⟩) (by with_reducible assumption) ?_
  rotate_left
  focus (intro w' hSw; (try dsimp only at hSw); go_simp; try (with_reducible rfl))
  (try simp only [Act.put, List.getElem_toArray, List.getElem_cons_zero, List.getElem_cons_succ, List.setIfInBounds_toArray, List.set_cons_zero, List.set_cons_succ])
  refine wpAnyH_take (i := 7) (oi := _) (v := ?_) rfl (by kernel_rfl) (by kernel_rfl) (by kernel_rfl) (fun _ _ _ h => h) (Or.inl ⟨by rfl, ?_⟩) (by with_reducible assumption) ?_
  rotate_left
  focus (intro w' hSw; (try dsimp only at hSw); go_simp; try (with_reducible rfl))
  (try simp only [Act.put, List.getElem_toArray, List.getElem_cons_zero, List.getElem_cons_succ, List.setIfInBounds_toArray, List.set_cons_zero, List.set_cons_succ])
  refine wpAnyH_take (i := 12) (oi := _) (v := ?_) rfl (by kernel_rfl) (by kernel_rfl) (by kernel_rfl) (fun _ _ _ h => h) (Or.inl ⟨by rfl, ?_⟩) (by with_reducible assumption) ?_
  rotate_left
  focus (intro w' hSw; (try dsimp only at hSw); go_simp; try (with_reducible rfl))
  (try simp only [Act.put, List.getElem_toArray, List.getElem_cons_zero, List.getElem_cons_succ, List.setIfInBounds_toArray, List.set_cons_zero, List.set_cons_succ])
  refine wpAnyH_take (i := 13) (oi := _) (v := ?_) rfl (by kernel_rfl) (by kernel_rfl) (by kernel_rfl) (fun _ _ _ h => h) (Or.inl ⟨by rfl, ?_⟩) (by with_reducible assumption) ?_
  rotate_left
  focus (intro w' hSw; (try dsimp only at hSw); go_simp; try (with_reducible rfl))
  (try simp only [Act.put, List.getElem_toArray, List.getElem_cons_zero, List.getElem_cons_succ, List.setIfInBounds_toArray, List.set_cons_zero, List.set_cons_succ])
  refine wpAnyH_take (i := 17) (oi := _) (v := ?_) rfl (by kernel_rfl) (by kernel_rfl) (by kernel_rfl) (fun _ _ _ h => h) (Or.inl ⟨by rfl, ?_⟩) (by with_reducible assumption) ?_
  rotate_left
  focus (intro w' hSw; (try dsimp only at hSw); go_simp; try (with_reducible rfl))
  (try simp only [Act.put, List.getElem_toArray, List.getElem_cons_zero, List.getElem_cons_succ, List.setIfInBounds_toArray, List.set_cons_zero, List.set_cons_succ])
  refine wpAnyH_take (i := 18) (oi := _) (v := ?_) rfl (by kernel_rfl) (by kernel_rfl) (by kernel_rfl) (fun _ _ _ h => h) (Or.inl ⟨by rfl, ?_⟩) (by with_reducible assumption) ?_
  rotate_left
  focus (intro w' hSw; (try dsimp only at hSw); go_simp; try (with_reducible rfl))
  (try simp only [Act.put, List.getElem_toArray, List.getElem_cons_zero, List.getElem_cons_succ, List.setIfInBounds_toArray, List.set_cons_zero, List.set_cons_succ])
  refine wpAnyH_ready (rs := [4]) (by kernel_rfl) (by simp) ?_
  refine AllReadyH.cons rfl (fun K hK => ?_) AllReadyH.nil
  go_simp
  (go_at_call 105; refine (HKH.out _).mono ?_; rintro e wn ⟨rfl, hk0, hb⟩)
  (try simp at hk0)
  refine hK.out _ _ (keep7 hHeld hb) (fun hHeld' => ?_)
  clear hK K hHeld
  have hHeld := hHeld'
  clear hHeld'
  (try simp only [Act.put, List.getElem_toArray, List.getElem_cons_zero, List.getElem_cons_succ, List.setIfInBounds_toArray, List.set_cons_zero, List.set_cons_succ])
  refine wpAnyH_more (S' := (fun w' => w'.cell? ⟨w.heap.size + 1, κ, none⟩ = some (.string KW) ∧ w'.cell? ⟨w.heap.size, 0, none⟩ = some (.string c.name) ∧ w'.cell? ⟨w.heap.size, 1, none⟩ = some (.int .i64 ((κ : Int) + 1)) ∧ w'.cell? ⟨w.heap.size, 2, none⟩ = some (.slice p2 np q2) ∧ w'.cell? ⟨w.heap.size, 3, none⟩ = some (.slice p3 na q3) ∧ w'.cell? ⟨w.heap.size, 4, none⟩ = some (.slice p4 nt q4) ∧ w'.cell? ⟨w.heap.size, 5, none⟩ = some (.int .i64 c.leak) ∧ w'.cell? ⟨w.heap.size, 6, none⟩ = some (.int .i64 c.energy) ∧ Below w.heap.size w w' ∧ w.heap.size < w'.heap.size)) (fun w' h => h.2) _ _ _ _ ?_
  have hHeld' := And.intro hk0 hHeld
  clear hHeld
  have hHeld := hHeld'
  clear hHeld'
  refine wpAnyH_take (i := 8) (oi := _) (v := ?_) rfl (by kernel_rfl) (by kernel_rfl) (by kernel_rfl) (fun _ _ _ h => h) (Or.inl ⟨by rfl, ?_⟩) (by with_reducible assumption) ?_
  rotate_left
  focus (intro w' hSw; (try dsimp only at hSw); go_simp; try (with_reducible rfl))
  (try simp only [Act.put, List.getElem_toArray, List.getElem_cons_zero, List.getElem_cons_succ, List.setIfInBounds_toArray, List.set_cons_zero, List.set_cons_succ])
  refine wpAnyH_take (i := 9) (oi := _) (v := ?_) rfl (by kernel_rfl) (by kernel_rfl) (by kernel_rfl) (fun _ _ _ h => h) (Or.inl ⟨by rfl, ?_⟩) (by with_reducible assumption) ?_
  rotate_left
  focus (intro w' hSw; (try dsimp only at hSw); go_simp; try (with_reducible rfl))
  (try simp only [Act.put, List.getElem_toArray, List.getElem_cons_zero, List.getElem_cons_succ, List.setIfInBounds_toArray, List.set_cons_zero, List.set_cons_succ])
  refine wpAnyH_take (i := 10) (oi := _) (v := ?_) rfl (by kernel_rfl) (by kernel_rfl) (by kernel_rfl) (fun _ _ _ h => h) (Or.inl ⟨by rfl, ?_⟩) (by with_reducible assumption) ?_
  rotate_left
  focus (intro w' hSw; (try dsimp only at hSw); go_simp; try (with_reducible rfl))
  (try simp only [Act.put, List.getElem_toArray, List.getElem_cons_zero, List.getElem_cons_succ, List.setIfInBounds_toArray, List.set_cons_zero, List.set_cons_succ])
  refine wpAnyH_take (i := 11) (oi := _) (v := ?_) rfl (by kernel_rfl) (by kernel_rfl) (by kernel_rfl) (fun _ _ _ h => h) (Or.inl ⟨by rfl, ?_⟩) (by with_reducible assumption) ?_
  rotate_left
  focus (intro w' hSw; (try dsimp only at hSw); go_simp; try (with_reducible rfl))
  (try simp only [Act.put, List.getElem_toArray, List.getElem_cons_zero, List.getElem_cons_succ, List.setIfInBounds_toArray, List.set_cons_zero, List.set_cons_succ])
  refine wpAnyH_ready (rs := [14]) (by kernel_rfl) (by simp) ?_
  refine AllReadyH.cons rfl (fun K hK => ?_) AllReadyH.nil
  go_simp
  (go_at_call 106; refine (number_itoa _ _ (by omega) (by omega)).mono ?_; rintro e wn ⟨rfl, hb⟩)
  refine hK.out _ _ (keep8 hHeld hb) (fun hHeld' => ?_)
  clear hK K hHeld
  have hHeld := hHeld'
  clear hHeld'
  (try simp only [Act.put, List.getElem_toArray, List.getElem_cons_zero, List.getElem_cons_succ, List.setIfInBounds_toArray, List.set_cons_zero, List.set_cons_succ])
  refine wpAnyH_take (i := 15) (oi := _) (v := ?_) rfl (by kernel_rfl) (by kernel_rfl) (by kernel_rfl) (fun _ _ _ h => h) (Or.inl ⟨by rfl, ?_⟩) (by with_reducible assumption) ?_
  rotate_left
  focus (intro w' hSw; (try dsimp only at hSw); go_simp; try (with_reducible rfl))
  (try simp only [Act.put, List.getElem_toArray, List.getElem_cons_zero, List.getElem_cons_succ, List.setIfInBounds_toArray, List.set_cons_zero, List.set_cons_succ])
  refine wpAnyH_take (i := 16) (oi := _) (v := ?_) rfl (by kernel_rfl) (by kernel_rfl) (by kernel_rfl) (fun _ _ _ h => h) (Or.inl ⟨by rfl, ?_⟩) (by with_reducible assumption) ?_
  rotate_left
  focus (intro w' hSw; (try dsimp only at hSw); go_simp; try (with_reducible rfl))
  (try simp only [Act.put, List.getElem_toArray, List.getElem_cons_zero, List.getElem_cons_succ, List.setIfInBounds_toArray, List.set_cons_zero, List.set_cons_succ])
  refine wpAnyH_ready (rs := [19]) (by kernel_rfl) (by simp) ?_
  refine AllReadyH.cons rfl (fun K hK => ?_) AllReadyH.nil
  go_simp
  (go_at_call 106; refine (number_itoa _ _ (by omega) (by omega)).mono ?_; rintro e wn ⟨rfl, hb⟩)
  refine hK.out _ _ (keep8 hHeld hb) (fun hHeld' => ?_)
  clear hK K hHeld
  have hHeld := hHeld'
  clear hHeld'
  (try simp only [Act.put, List.getElem_toArray, List.getElem_cons_zero, List.getElem_cons_succ, List.setIfInBounds_toArray, List.set_cons_zero, List.set_cons_succ])
  refine wpAnyH_take (i := 20) (oi := _) (v := ?_) rfl (by kernel_rfl) (by kernel_rfl) (by kernel_rfl) (fun _ _ _ h => h) (Or.inl ⟨by rfl, ?_⟩) (by with_reducible assumption) ?_
  rotate_left
  focus (intro w' hSw; (try dsimp only at hSw); go_simp; try (with_reducible rfl))
  (try simp only [Act.put, List.getElem_toArray, List.getElem_cons_zero, List.getElem_cons_succ, List.setIfInBounds_toArray, List.set_cons_zero, List.set_cons_succ])
  refine wpAnyH_take (i := 21) (oi := _) (v := ?_) rfl (by kernel_rfl) (by kernel_rfl) (by kernel_rfl) (fun _ _ _ h => h) (Or.inl ⟨by rfl, ?_⟩) (by with_reducible assumption) ?_
  rotate_left
  focus (intro w' hSw; (try dsimp only at hSw); go_simp; try (with_reducible rfl))
  (try simp only [Act.put, List.getElem_toArray, List.getElem_cons_zero, List.getElem_cons_succ, List.setIfInBounds_toArray, List.set_cons_zero, List.set_cons_succ])
  refine wpAnyH_take (i := 22) (oi := _) (v := ?_) rfl (by kernel_rfl) (by kernel_rfl) (by kernel_rfl) (fun _ _ _ h => h) (Or.inl ⟨by rfl, ?_⟩) (by with_reducible assumption) ?_
  rotate_left
  focus (intro w' hSw; (try dsimp only at hSw); go_simp; try (with_reducible rfl))
  (try simp only [Act.put, List.getElem_toArray, List.getElem_cons_zero, List.getElem_cons_succ, List.setIfInBounds_toArray, List.set_cons_zero, List.set_cons_succ])
  refine wpAnyH_done (by kernel_rfl) ?_ _
  have HBx := Lib.hid (show Bx w wn (.string c.name) (.int .i64 ((κ : Int) + 1)) (.slice p2 np q2) (.slice p3 na q3) (.slice p4 nt q4) (.int .i64 c.leak) (.int .i64 c.energy) from hHeld.2)
  have B9 := hHeld.2.2.2.2.2.2.2.2.1
  clear hHeld hk0
  go_wp2_with fail
  go_loopw [3, 4] (fun s i wr => ∃ (k : Nat) (J : ByteArray), k ≤ np ∧ i = .int .i64 k ∧ s = .string J ∧ Hid (J.data.toList = linesX (ls.take (1 + k))) ∧ J.size ≤ 177015 ∧ Hid (Bx w wr (.string c.name) (.int .i64 ((κ : Int) + 1)) (.slice p2 np q2) (.slice p3 na q3) (.slice p4 nt q4) (.int .i64 c.leak) (.int .i64 c.energy))) (fun _ i _ => np - (intOf i).toNat)
  case atStart => exact ⟨0, _, by omega, rfl, rfl, J1, J1S.out, HBx⟩
  case round =>
    clear J1 J1S HBx B9
    obtain ⟨k, J, hk, rfl, rfl, HJ, hJ, HBx⟩ := hrel
    have ⟨r0, r1, r2, r3, r4, r5, r6, hbw, L0⟩ := HBx.out
    by_cases hkn : k < np
    · obtain ⟨b, off, rfl, hlt, hx⟩ := H2.out.at hbw hkn
      have y0 := hx 0 (by omega); have y1 := hx 1 (by omega); have y2 := hx 2 (by omega); have y3 := hx 3 (by omega)
      simp only [Nat.add_zero] at y0
      have hI : (k : Int) < (np : Int) := by omega
      have i00 : (0 : Int) ≤ (k : Int) := by omega
      have HB := Lib.hid (fun (w1 : World) => specPinT_any (F2 k) (pn c.pins k) w1 (F2H.out k hkn) (PV.out k hkn))
      have hps := pin_len (PV.out k hkn)
      obtain ⟨pl, hpl⟩ : ∃ pl, pl = pinL (pn c.pins k) := ⟨_, rfl⟩
      rw [← hpl] at HB hps
      have HS := Lib.hid (fun (T : ByteArray) (hT : T.data.toList = pl) => step_line (J := J) (T := T) (k := 1 + k) (by have := HM.out; omega) HJ.out (by rw [hT, hpl]; exact (HP.out k hkn).symm))
      clear hx hpl HJ
      go_wp2_with fail
      go_at_call 107
      refine (HB.out _).mono ?_
      rintro e w1 ⟨T, rfl, hT, hTs, hb⟩
      have hTb : T.size ≤ 50 := by omega
      have HZ := Lib.hid (HS.out T hT)
      have su9a : J.size + T.size ≤ 9223372036854775807 := by omega
      have su9b : ¬ 9223372036854775807 < J.size + T.size := by omega
      have su9c : ¬ (9223372036854775807 : Int) < ((J.size : Nat) : Int) + ((T.size : Nat) : Int) := by omega
      have su10a : J.size + T.size + 1 ≤ 9223372036854775807 := by omega
      have su10b : ¬ 9223372036854775807 < J.size + T.size + 1 := by omega
      have su10c : ¬ (9223372036854775807 : Int) < ((J.size : Nat) : Int) + ((T.size : Nat) : Int) + 1 := by omega
      have HBx1 := Lib.hid (Bx.call HBx.out hb)
      clear hT hTs HS HB
      go_wp2
      go_roundw
      case rel => exact ⟨k + 1, _, by omega, by go_num, rfl, Lib.hid (by rw [← Nat.add_assoc]; exact HZ.out), (by have h1 := HLn.out (1 + k + 1); rw [← HZ.out, sz_list] at h1; exact h1), HBx1⟩
      case measure => simp [intOf]; omega
    · obtain rfl : k = np := by omega
      have hI : ¬ (k : Int) < (k : Int) := by omega
      go_wp2
      go_loopw [3, 5] (fun s i wr => ∃ (q : Nat) (J : ByteArray), q ≤ na ∧ i = .int .i64 q ∧ s = .string J ∧ Hid (J.data.toList = linesX (ls.take (1 + k + q))) ∧ J.size ≤ 177015 ∧ Hid (Bx w wr (.string c.name) (.int .i64 ((κ : Int) + 1)) (.slice p2 k q2) (.slice p3 na q3) (.slice p4 nt q4) (.int .i64 c.leak) (.int .i64 c.energy))) (fun _ i _ => na - (intOf i).toNat)
      case atStart => exact ⟨0, J, by omega, rfl, rfl, HJ, hJ, HBx⟩
      case round =>
        clear HJ hJ HBx r0 r1 r2 r3 r4 r5 r6 hbw L0 hI
        obtain ⟨k', J, hk', rfl, rfl, HJ, hJ, HBx⟩ := hrel
        have ⟨r0, r1, r2, r3, r4, r5, r6, hbw, L0⟩ := HBx.out
        by_cases hkn : k' < na
        · obtain ⟨b, off, rfl, hlt, hx⟩ := H3.out.at hbw hkn
          have y0 := hx 0 (by omega); have y1 := hx 1 (by omega); have y2 := hx 2 (by omega); have y3 := hx 3 (by omega); have y4 := hx 4 (by omega); have y5 := hx 5 (by omega)
          simp only [Nat.add_zero] at y0
          have hI : (k' : Int) < (na : Int) := by omega
          have i00 : (0 : Int) ≤ (k' : Int) := by omega
          have HB := Lib.hid (fun (w1 : World) (hb : Below w.heap.size w w1) => by
            have h := specArcT_any f (F3 k') c (an c.arcs k') w1 (HF0.out.up hb) ((F3H.out k' hkn).up hb) (AV.out k' hkn) (by have := PV.out; rw [HN.out.1] at this; exact this)
            have e := HE.out
            simp only [Array.mk.injEq, List.cons.injEq, and_true] at e
            rw [e] at h
            exact h : ∀ (w1 : World), Below w.heap.size w w1 → Calls Tryz.prog 79 #[.agg #[.string c.name, .int .i64 ((κ : Int) + 1), .slice p2 k q2, .slice (some ⟨b, off, none⟩) na q3, .slice p4 nt q4, .int .i64 c.leak, .int .i64 c.energy], .agg #[F3 k' 0, F3 k' 1, F3 k' 2, F3 k' 3, F3 k' 4, F3 k' 5]] w1 (Says (arcL c.pins (an c.arcs k')) w1))
          have hps := arcL_len (by have := PV.out; rw [HN.out.1] at this; exact this) (AV.out k' hkn)
          obtain ⟨pl, hpl⟩ : ∃ pl, pl = arcL c.pins (an c.arcs k') := ⟨_, rfl⟩
          rw [← hpl] at HB hps
          have HS := Lib.hid (fun (T : ByteArray) (hT : T.data.toList = pl) => step_line (J := J) (T := T) (k := 1 + k + k') (by have := HM.out; omega) HJ.out (by rw [hT, hpl]; exact (HA.out k' hkn).symm))
          clear hx hpl HJ
          go_wp2_with fail
          refine wp_region_held_drew (S := (fun w' => w'.cell? ⟨w.heap.size, 0, none⟩ = some (.string c.name) ∧ w'.cell? ⟨w.heap.size, 1, none⟩ = some (.int .i64 ((κ : Int) + 1)) ∧ w'.cell? ⟨w.heap.size, 2, none⟩ = some (.slice p2 k q2) ∧ w'.cell? ⟨w.heap.size, 3, none⟩ = some (.slice (some ⟨b, off, none⟩) na q3) ∧ w'.cell? ⟨w.heap.size, 4, none⟩ = some (.slice p4 nt q4) ∧ w'.cell? ⟨w.heap.size, 5, none⟩ = some (.int .i64 c.leak) ∧ w'.cell? ⟨w.heap.size, 6, none⟩ = some (.int .i64 c.energy) ∧ w'.cell? ⟨b, off + k' * 6, none⟩ = some (F3 k' 0) ∧ w'.cell? ⟨b, off + k' * 6 + 1, none⟩ = some (F3 k' 1) ∧ w'.cell? ⟨b, off + k' * 6 + 2, none⟩ = some (F3 k' 2) ∧ w'.cell? ⟨b, off + k' * 6 + 3, none⟩ = some (F3 k' 3) ∧ w'.cell? ⟨b, off + k' * 6 + 4, none⟩ = some (F3 k' 4) ∧ w'.cell? ⟨b, off + k' * 6 + 5, none⟩ = some (F3 k' 5) ∧ Below w.heap.size w w' ∧ w.heap.size < w'.heap.size)) (by kernel_rfl) ?_ (fun hHeld => ?_)
          · (try dsimp only); ((repeat' apply And.intro) <;> first | assumption | ((repeat (first | (with_reducible exact Below.refl _ _) | (with_reducible assumption) | (with_reducible refine ext_alloc ?_ _) | (with_reducible refine ext_drew ?_) | (with_reducible refine ext_drewN ?_ _) | (with_reducible refine ext_set ?_ (by first | exact Nat.le_refl _ | (simp; done) | (simp; omega) | omega) _) | (with_reducible refine ext_trans ?_ (by assumption)))); done) | (simp [go_sem]; done) | (simp [go_sem, *]; done) | (simp; omega) | omega)
          (try dsimp only at hHeld)
          refine wpAnyH_take (i := 0) (oi := _) (v := ?_) rfl (by kernel_rfl) (by kernel_rfl) (by kernel_rfl) (fun _ _ _ h => h) (Or.inl ⟨by rfl, ?_⟩) (by with_reducible assumption) ?_
          rotate_left
          focus (intro w' hSw; (try dsimp only at hSw); go_simp; try (with_reducible rfl))
          (try simp only [Act.put, List.getElem_toArray, List.getElem_cons_zero, List.getElem_cons_succ, List.setIfInBounds_toArray, List.set_cons_zero, List.set_cons_succ])
          refine wpAnyH_take (i := 1) (oi := _) (v := ?_) rfl (by kernel_rfl) (by kernel_rfl) (by kernel_rfl) (fun _ _ _ h => h) (Or.inl ⟨by rfl, ?_⟩) (by with_reducible assumption) ?_
          rotate_left
          focus (intro w' hSw; (try dsimp only at hSw); go_simp; try (with_reducible rfl))
          (try simp only [Act.put, List.getElem_toArray, List.getElem_cons_zero, List.getElem_cons_succ, List.setIfInBounds_toArray, List.set_cons_zero, List.set_cons_succ])
          refine wpAnyH_take (i := 2) (oi := _) (v := ?_) rfl (by kernel_rfl) (by kernel_rfl) (by kernel_rfl) (fun _ _ _ h => h) (Or.inl ⟨by rfl, ?_⟩) (by with_reducible assumption) ?_
          rotate_left
          focus (intro w' hSw; (try dsimp only at hSw); go_simp; try (with_reducible rfl))
          (try simp only [Act.put, List.getElem_toArray, List.getElem_cons_zero, List.getElem_cons_succ, List.setIfInBounds_toArray, List.set_cons_zero, List.set_cons_succ])
          refine wpAnyH_take (i := 3) (oi := _) (v := ?_) rfl (by kernel_rfl) (by kernel_rfl) (by kernel_rfl) (fun _ _ _ h => h) (Or.inl ⟨by rfl, ?_⟩) (by with_reducible assumption) ?_
          rotate_left
          focus (intro w' hSw; (try dsimp only at hSw); go_simp; try (with_reducible rfl))
          (try simp only [Act.put, List.getElem_toArray, List.getElem_cons_zero, List.getElem_cons_succ, List.setIfInBounds_toArray, List.set_cons_zero, List.set_cons_succ])
          refine wpAnyH_take (i := 4) (oi := _) (v := ?_) rfl (by kernel_rfl) (by kernel_rfl) (by kernel_rfl) (fun _ _ _ h => h) (Or.inl ⟨by rfl, ?_⟩) (by with_reducible assumption) ?_
          rotate_left
          focus (intro w' hSw; (try dsimp only at hSw); go_simp; try (with_reducible rfl))
          (try simp only [Act.put, List.getElem_toArray, List.getElem_cons_zero, List.getElem_cons_succ, List.setIfInBounds_toArray, List.set_cons_zero, List.set_cons_succ])
          refine wpAnyH_take (i := 5) (oi := _) (v := ?_) rfl (by kernel_rfl) (by kernel_rfl) (by kernel_rfl) (fun _ _ _ h => h) (Or.inl ⟨by rfl, ?_⟩) (by with_reducible assumption) ?_
          rotate_left
          focus (intro w' hSw; (try dsimp only at hSw); go_simp; try (with_reducible rfl))
          (try simp only [Act.put, List.getElem_toArray, List.getElem_cons_zero, List.getElem_cons_succ, List.setIfInBounds_toArray, List.set_cons_zero, List.set_cons_succ])
          refine wpAnyH_take (i := 6) (oi := _) (v := ?_) rfl (by kernel_rfl) (by kernel_rfl) (by kernel_rfl) (fun _ _ _ h => h) (Or.inl ⟨by rfl, ?_⟩) (by with_reducible assumption) ?_
          rotate_left
          focus (intro w' hSw; (try dsimp only at hSw); go_simp; try (with_reducible rfl))
          (try simp only [Act.put, List.getElem_toArray, List.getElem_cons_zero, List.getElem_cons_succ, List.setIfInBounds_toArray, List.set_cons_zero, List.set_cons_succ])
          refine wpAnyH_ready (rs := [7]) (by kernel_rfl) (by simp) ?_
          refine AllReadyH.cons rfl (fun K hK => ?_) AllReadyH.nil
          go_simp
          (go_at_call 79; refine (HB.out _ hHeld.2.2.2.2.2.2.2.2.2.2.2.2.2.1).mono ?_; rintro e wn ⟨T, rfl, hT, hTs, hb⟩)
          have hTb : T.size ≤ 11800 := by omega
          have su11a : J.size + T.size ≤ 9223372036854775807 := by omega
          have su11b : ¬ 9223372036854775807 < J.size + T.size := by omega
          have su11c : ¬ (9223372036854775807 : Int) < ((J.size : Nat) : Int) + ((T.size : Nat) : Int) := by omega
          have su12a : J.size + T.size + 1 ≤ 9223372036854775807 := by omega
          have su12b : ¬ 9223372036854775807 < J.size + T.size + 1 := by omega
          have su12c : ¬ (9223372036854775807 : Int) < ((J.size : Nat) : Int) + ((T.size : Nat) : Int) + 1 := by omega
          have HT1 := Lib.hid hT
          clear hT hTs
          refine hK.out _ _ (keep13 hHeld hb) (fun hHeld' => ?_)
          clear hK K hHeld
          have hHeld := hHeld'
          clear hHeld'
          (try simp only [Act.put, List.getElem_toArray, List.getElem_cons_zero, List.getElem_cons_succ, List.setIfInBounds_toArray, List.set_cons_zero, List.set_cons_succ])
          refine wpAnyH_take (i := 8) (oi := _) (v := ?_) rfl (by kernel_rfl) (by kernel_rfl) (by kernel_rfl) (fun _ _ _ h => h) (Or.inl ⟨by rfl, ?_⟩) (by with_reducible assumption) ?_
          rotate_left
          focus (intro w' hSw; (try dsimp only at hSw); go_simp; try (with_reducible rfl))
          (try simp only [Act.put, List.getElem_toArray, List.getElem_cons_zero, List.getElem_cons_succ, List.setIfInBounds_toArray, List.set_cons_zero, List.set_cons_succ])
          refine wpAnyH_take (i := 9) (oi := _) (v := ?_) rfl (by kernel_rfl) (by kernel_rfl) (by kernel_rfl) (fun _ _ _ h => h) (Or.inl ⟨by rfl, ?_⟩) (by with_reducible assumption) ?_
          rotate_left
          focus (intro w' hSw; (try dsimp only at hSw); go_simp; try (with_reducible rfl))
          (try simp only [Act.put, List.getElem_toArray, List.getElem_cons_zero, List.getElem_cons_succ, List.setIfInBounds_toArray, List.set_cons_zero, List.set_cons_succ])
          refine wpAnyH_take (i := 10) (oi := _) (v := ?_) rfl (by kernel_rfl) (by kernel_rfl) (by kernel_rfl) (fun _ _ _ h => h) (Or.inl ⟨by rfl, ?_⟩) (by with_reducible assumption) ?_
          rotate_left
          focus (intro w' hSw; (try dsimp only at hSw); go_simp; try (with_reducible rfl))
          (try simp only [Act.put, List.getElem_toArray, List.getElem_cons_zero, List.getElem_cons_succ, List.setIfInBounds_toArray, List.set_cons_zero, List.set_cons_succ])
          refine wpAnyH_done (by kernel_rfl) ?_ _
          have HZ := Lib.hid (HS.out T HT1.out)
          have HBx1 := Lib.hid (show Bx w wn (.string c.name) (.int .i64 ((κ : Int) + 1)) (.slice p2 k q2) (.slice (some ⟨b, off, none⟩) na q3) (.slice p4 nt q4) (.int .i64 c.leak) (.int .i64 c.energy) from ⟨hHeld.1, hHeld.2.1, hHeld.2.2.1, hHeld.2.2.2.1, hHeld.2.2.2.2.1, hHeld.2.2.2.2.2.1, hHeld.2.2.2.2.2.2.1, hHeld.2.2.2.2.2.2.2.2.2.2.2.2.2⟩)
          clear hHeld HT1 HS HB
          go_wp2
          go_roundw
          case rel => exact ⟨k' + 1, _, by omega, by go_num, rfl, Lib.hid (by rw [← Nat.add_assoc]; exact HZ.out), (by have h1 := HLn.out (1 + k + k' + 1); rw [← HZ.out, sz_list] at h1; exact h1), HBx1⟩
          case measure => simp [intOf]; omega
        · obtain rfl : k' = na := by omega
          have hI : ¬ (k' : Int) < (k' : Int) := by omega
          by_cases hk1 : κ = 0
          · have kt : ((κ : Int) + 1 == 1) = true := by simp; omega
            have hbi := HBi.out (by have := HN.out.2.2.2; omega)
            have HB2 := Lib.hid hbi.2
            have hnt16 := hbi.1
            have HTr := Lib.hid (HT.out (by have := HN.out.2.2.2; omega))
            have hm := HM.out
            rw [if_pos (by have := HN.out.2.2.2; omega)] at hm
            have HM1 := Lib.hid hm
            clear hbi hm
            have su13a : J.size + 6 ≤ 9223372036854775807 := by omega
            have su13b : ¬ 9223372036854775807 < J.size + 6 := by omega
            have su13c : ¬ (9223372036854775807 : Int) < ((J.size : Nat) : Int) + 6 := by omega
            go_wp2
            go_loopw [3, 6] (fun s i wr => ∃ (q : Nat) (J : ByteArray), q ≤ nt ∧ i = .int .i64 q ∧ s = .string J ∧ Hid (J.data.toList = linesX (ls.take (1 + k + k')) ++ [116, 114, 117, 116, 104, 32] ++ (c.truth.take q).map dig) ∧ J.size ≤ 177100 + q ∧ wr.cell? ⟨w.heap.size, 4, none⟩ = some (.slice p4 nt q4) ∧ Below w.heap.size w wr) (fun _ i _ => nt - (intOf i).toNat)
            case atStart => exact ⟨0, _, by omega, rfl, rfl, Lib.hid (by rw [List.take_zero, List.map_nil, List.append_nil, ← HJ.out]; simp), by rw [ByteArray.size_append]; show J.size + 6 ≤ _; omega, r4, hbw⟩
            case round =>
              clear HJ hJ HBx r0 r1 r2 r3 r4 r5 r6 hbw L0 hI
              obtain ⟨q, J, hq, rfl, rfl, HJ, hJ, r4, hbw⟩ := hrel
              by_cases hqn : q < nt
              · have hqn' : q < c.truth.length := by have := HN.out.2.2.1; omega
                obtain ⟨b', off', rfl, hlt', y0⟩ := IntS.at (by have := H4.out; have e := HN.out.2.2.1; rw [← e] at this; simpa only [e] using this) hbw hqn'
                have ⟨v0, v1⟩ := HB2.out q hqn
                have hI : (q : Int) < (nt : Int) := by omega
                have i00 : (0 : Int) ≤ (q : Int) := by omega
                have HD := Lib.hid (itoa_bit _ v0 v1)
                have HL := Lib.hid (show (c.truth.take (q + 1)).map dig = (c.truth.take q).map dig ++ [dig (iv c.truth q)] by
                  rw [List.take_succ_eq_append_getElem hqn', List.map_append]; simp [iv, List.getD, hqn'])
                have hi1 : (Lib.itoa (iv c.truth q)).length = 1 := by rw [HD.out]; rfl
                have su14a : J.size + 1 ≤ 9223372036854775807 := by omega
                have su14b : ¬ 9223372036854775807 < J.size + 1 := by omega
                have su14c : ¬ (9223372036854775807 : Int) < ((J.size : Nat) : Int) + 1 := by omega
                have su15a : J.size + (Lib.itoa (iv c.truth q)).length ≤ 9223372036854775807 := by omega
                have su15b : ¬ 9223372036854775807 < J.size + (Lib.itoa (iv c.truth q)).length := by omega
                have su15c : ¬ (9223372036854775807 : Int) < ((J.size : Nat) : Int) + (((Lib.itoa (iv c.truth q)).length : Nat) : Int) := by omega
                go_wp2_with fail
                go_at_call 106
                refine (number_itoa _ _ (by omega) (by omega)).mono ?_
                rintro e w1 ⟨rfl, hb⟩
                go_wp2
                go_roundw
                case rel => exact ⟨q + 1, _, by omega, by go_num, rfl, Lib.hid (by rw [HL.out, ← List.append_assoc, ← HJ.out, ← HD.out]; simp), by rw [ByteArray.size_append]; show J.size + (Lib.itoa (iv c.truth q)).length ≤ _; omega, cell_keep r4 hb, by (repeat (first | (with_reducible exact Below.refl _ _) | (with_reducible assumption) | (with_reducible refine ext_alloc ?_ _) | (with_reducible refine ext_drew ?_) | (with_reducible refine ext_drewN ?_ _) | (with_reducible refine ext_set ?_ (by first | exact Nat.le_refl _ | (simp; done) | (simp; omega) | omega) _) | (with_reducible refine ext_trans ?_ (by assumption))))⟩
                case measure => simp [intOf]; omega
              · obtain rfl : q = nt := by omega
                have hI : ¬ (q : Int) < (q : Int) := by omega
                have HZ := Lib.hid (show (J ++ ⟨#[10]⟩ : ByteArray).data.toList = cellX c by
                  have h1 := HJ.out
                  rw [show q = c.truth.length from HN.out.2.2.1, List.take_length] at h1
                  have h2 := linesX_take (ls := ls) (k := 1 + k + k') (by have := HM1.out; omega)
                  rw [show 1 + k + k' + 1 = ls.length by have := HM1.out; omega, List.take_length, HTr.out, HX.out] at h2
                  rw [h2]
                  simp [h1, truL])
                have su16a : J.size + 1 ≤ 9223372036854775807 := by omega
                have su16b : ¬ 9223372036854775807 < J.size + 1 := by omega
                have su16c : ¬ (9223372036854775807 : Int) < ((J.size : Nat) : Int) + 1 := by omega
                go_wp2
                go_ret
                exact says HZ.out hbw
          · have kt : ((κ : Int) + 1 == 1) = false := by simp; omega
            have hm := HM.out
            rw [if_neg (by have := HN.out.2.2.2; omega)] at hm
            have HZ := Lib.hid (show J.data.toList = cellX c by
              have h1 := HJ.out
              rw [show 1 + k + k' = ls.length by omega, List.take_length, HX.out] at h1
              exact h1)
            clear hm
            go_wp2
            go_ret
            exact says HZ.out hbw
end Go.Proofs.YtmoolajapgacmaaGreatDoor
