/-
The model's line of an arc, for every valid one.
-/
import Derived.Test.YtmoolajapgacmaaGreatDoorLTS
namespace Go.Proofs.YtmoolajapgacmaaGreatDoor
open Go.ChangeShapes Go.WideShapes Go.ChangeAt Go.RowKit
set_option linter.unusedVariables false
set_option linter.unusedSimpArgs false
set_option maxRecDepth 100000
theorem step_join {J T : ByteArray} {ls : List (List UInt8)} {k : Nat} (h0 : 0 < k) (h : k < ls.length) (hJ : J.data.toList = Lib.join (ls.take k) [32]) (hT : T.data.toList = ls.getD k []) : (J ++ ⟨#[32]⟩ ++ T).data.toList = Lib.join (ls.take (k + 1)) [32] := by
  rw [join_take h0 h, ← hJ, ← hT]
  simp
theorem words4 (ps : List PinD) (a : ArcD) : Lib.join ((arcWs ps a).take 4) [32] = [97, 114, 99, 32] ++ arcW a.kind ++ [32] ++ pnm ps a.src ++ [32] ++ pnm ps a.dst := by
  have : (arcWs ps a).take 4 = [[97, 114, 99], arcW a.kind, pnm ps a.src, pnm ps a.dst] := by simp [arcWs]
  rw [this, Lib.join_cons]
  simp [Lib.joinTail]
theorem word_4 (ps : List PinD) (a : ArcD) (h : a.kind = 1) : (arcWs ps a).getD 4 [] = snsW a.sense := by simp [arcWs, h]
set_option maxHeartbeats 8000000 in
theorem specArcT_any (f g : Nat → Value) (c : CellD) (a : ArcD) (w : World) (h : CellF w w.heap.size f c) (h' : ArcF w w.heap.size g a) (hv : ArcV c.pins a) (hp : ∀ i, i < c.pins.length → PinV (pn c.pins i)) :
    Calls Tryz.prog 79 #[.agg #[f 0, f 1, f 2, f 3, f 4, f 5, f 6], .agg #[g 0, g 1, g 2, g 3, g 4, g 5]] w (Says (arcL c.pins a) w) := by
  obtain ⟨ps, hps⟩ : ∃ ps, ps = c.pins := ⟨_, rfl⟩
  obtain ⟨e0, e1, x2, x3, x4, e5, e6, hsz⟩ := h
  obtain ⟨p3, q3, e3⟩ := x3.slice; obtain ⟨pt, qt, e4⟩ := x4.slice
  rw [← hps] at x2 hp hv ⊢
  obtain ⟨F, hc, hf⟩ := x2
  obtain ⟨n, hnn⟩ : ∃ n, n = ps.length := ⟨_, rfl⟩
  rw [← hnn] at hc hf
  have HC := hc
  obtain ⟨hn, ap, cap, e2, _⟩ := hc
  rw [e2] at HC
  rw [e0, e1, e2, e3, e4, e5, e6]
  obtain ⟨ws, hws⟩ : ∃ ws, ws = arcWs ps a := ⟨_, rfl⟩
  have hlen := arcWs_len ps a
  have hL := arc_len hp hv
  obtain ⟨v1, v5, v0s, vls, v0d, vld, vsn, vdl, vsl⟩ := hv
  obtain ⟨g0, g1, g2, g3, z4, z5⟩ := h'
  obtain ⟨F4, c4, f4⟩ := z4; obtain ⟨F5, c5, f5⟩ := z5
  obtain ⟨nd, hnd⟩ : ∃ nd, nd = a.delay.length := ⟨_, rfl⟩
  obtain ⟨ne, hne⟩ : ∃ ne, ne = a.slew.length := ⟨_, rfl⟩
  rw [← hnd] at c4 f4 hlen; rw [← hne] at c5 f5 hlen
  have H4 := c4; have H5 := c5
  obtain ⟨_, p4, q4, g4, _⟩ := c4; obtain ⟨_, p5, q5, g5, _⟩ := c5
  rw [g4] at H4; rw [g5] at H5
  obtain ⟨s, hs⟩ := Int.eq_ofNat_of_zero_le v0s
  obtain ⟨d, hd⟩ := Int.eq_ofNat_of_zero_le v0d
  obtain ⟨κ, hκ⟩ : ∃ κ : Nat, a.kind = (κ : Int) + 1 := ⟨(a.kind - 1).toNat, by omega⟩
  rw [hκ] at g0; rw [hs] at g1; rw [hd] at g2
  rw [g0, g1, g2, g3, g4, g5]
  have hns := (hp s (by omega)).1; have hnd8 := (hp d (by omega)).1
  have W40 := words4 ps a
  have es : pnm ps a.src = (pn ps s).name.data.toList := by simp [pnm, hs]
  have ed : pnm ps a.dst = (pn ps d).name.data.toList := by simp [pnm, hd]
  rw [es, ed, ← hws] at W40
  have hkw := arcW_len a.kind
  rw [hκ] at W40 hkw
  have HK := fun w1 => specArcW_at κ (by omega) w1
  obtain ⟨AW, hAW⟩ : ∃ AW, AW = bstr (arcW ((κ : Int) + 1)) := ⟨_, rfl⟩
  simp only [← hAW] at HK
  have hAs : AW.size ≤ 5 := by rw [hAW, bstr_size]; exact hkw
  rw [show arcW ((κ : Int) + 1) = AW.data.toList by rw [hAW, bstr_list]] at W40
  obtain ⟨b, off, rfl, hlt, hxs⟩ := HC.at (Below.refl _ _) (show s < n by omega)
  obtain ⟨b', off', e', _, hxd⟩ := HC.at (Below.refl _ _) (show d < n by omega)
  obtain ⟨rfl, rfl⟩ : b = b' ∧ off = off' := by simpa using e'
  have ys := hxs 0 (by omega)
  rw [(hf s (by omega)).1] at ys
  have yd := hxd 0 (by omega)
  rw [(hf d (by omega)).1] at yd
  simp only [Nat.add_zero] at ys yd
  have sI : (s : Int) < (n : Int) := by omega
  have dI : (d : Int) < (n : Int) := by omega
  have s0 : (0 : Int) ≤ (s : Int) := by omega
  have d0 : (0 : Int) ≤ (d : Int) := by omega
  have κ0 : (0 : Int) ≤ (κ : Int) := by omega
  have κ5 : (κ : Int) < 5 := by omega
  have κw : IntKind.i64.wrap (κ : Int) = (κ : Int) := IntWalk.i64_in _ (by omega)
  have κw2 : IntKind.i64.wrap ((κ : Int) + 1 - 1) = (κ : Int) := by rw [IntWalk.i64_in _ (by omega)]; omega
  have HKH := Lib.hid HK
  have H4 := Lib.hid H4; have H5 := Lib.hid H5; have F4 := Lib.hid f4; have F5 := Lib.hid f5
  rw [← hws] at hlen
  have HL := Lib.hid (show ∀ q, (Lib.join (ws.take q) [32]).length ≤ 11800 by rw [hws]; exact hL)
  have HW := Lib.hid (show Lib.join ws [32] = arcL ps a by rw [hws]; rfl)
  have J40 := Lib.hid (show Lib.join (ws.take 4) [32] = (⟨#[97, 114, 99, 32]⟩ ++ AW ++ ⟨#[32]⟩ ++ (pn ps s).name ++ ⟨#[32]⟩ ++ (pn ps d).name : ByteArray).data.toList by rw [W40]; simp)
  have J40S := Lib.hid (show (⟨#[97, 114, 99, 32]⟩ ++ AW ++ ⟨#[32]⟩ ++ (pn ps s).name ++ ⟨#[32]⟩ ++ (pn ps d).name : ByteArray).size ≤ 11800 by have := HL.out 4; rw [J40.out, sz_list] at this; exact this)
  have HD := Lib.hid vdl; have HE := Lib.hid vsl
  have nd2 : nd ≤ 2 := by omega
  have ne2 : ne ≤ 2 := by omega
  have su1a : 4 + AW.size ≤ 9223372036854775807 := by omega
  have su1b : ¬ 9223372036854775807 < 4 + AW.size := by omega
  have su1c : ¬ (9223372036854775807 : Int) < 4 + ((AW.size : Nat) : Int) := by omega
  have su2a : 4 + AW.size + 1 ≤ 9223372036854775807 := by omega
  have su2b : ¬ 9223372036854775807 < 4 + AW.size + 1 := by omega
  have su2c : ¬ (9223372036854775807 : Int) < 4 + ((AW.size : Nat) : Int) + 1 := by omega
  have su3a : 4 + AW.size + 1 + (pn ps s).name.size ≤ 9223372036854775807 := by omega
  have su3b : ¬ 9223372036854775807 < 4 + AW.size + 1 + (pn ps s).name.size := by omega
  have su3c : ¬ (9223372036854775807 : Int) < 4 + ((AW.size : Nat) : Int) + 1 + (((pn ps s).name.size : Nat) : Int) := by omega
  have su4a : 4 + AW.size + 1 + (pn ps s).name.size + 1 ≤ 9223372036854775807 := by omega
  have su4b : ¬ 9223372036854775807 < 4 + AW.size + 1 + (pn ps s).name.size + 1 := by omega
  have su4c : ¬ (9223372036854775807 : Int) < 4 + ((AW.size : Nat) : Int) + 1 + (((pn ps s).name.size : Nat) : Int) + 1 := by omega
  have su5a : 4 + AW.size + 1 + (pn ps s).name.size + 1 + (pn ps d).name.size ≤ 9223372036854775807 := by omega
  have su5b : ¬ 9223372036854775807 < 4 + AW.size + 1 + (pn ps s).name.size + 1 + (pn ps d).name.size := by omega
  have su5c : ¬ (9223372036854775807 : Int) < 4 + ((AW.size : Nat) : Int) + 1 + (((pn ps s).name.size : Nat) : Int) + 1 + (((pn ps d).name.size : Nat) : Int) := by omega
  by_cases hk1 : a.kind = 1
  · have kt : ((κ : Int) + 1 == 1) = true := by simp; omega
    have κ00 : κ = 0 := by omega
    have W4 := Lib.hid (fun q (hq : q < nd) => by rw [hws]; exact word_tab ps a (m := 5) (k := q) (by rw [if_pos hk1]) (by omega) : ∀ q, q < nd → ws.getD (5 + q) [] = tabX (tn a.delay q))
    have W5 := Lib.hid (fun q (hq : q < ne) => by rw [hws]; exact word_slew ps a (m := 5 + nd) (k := q) (by rw [if_pos hk1]; omega) (by omega) : ∀ q, q < ne → ws.getD (5 + nd + q) [] = tabX (tn a.slew q))
    have HM := Lib.hid (show ws.length = 5 + nd + ne by rw [hlen, if_pos hk1])
    obtain ⟨sn, hsn⟩ : ∃ sn : Nat, a.sense = (sn : Int) + 1 := ⟨(a.sense - 1).toNat, by have := vsn hk1; omega⟩
    have hsn3 : sn < 3 := by have := vsn hk1; omega
    have w4 := word_4 ps a hk1
    rw [← hws, hsn] at w4
    have hsw := snsW_len ((sn : Int) + 1)
    have HN := fun w1 => specSnsW_at sn hsn3 w1
    obtain ⟨SW, hSW⟩ : ∃ SW, SW = bstr (snsW ((sn : Int) + 1)) := ⟨_, rfl⟩
    simp only [← hSW] at HN
    have hSs : SW.size ≤ 4 := by rw [hSW, bstr_size]; exact hsw
    rw [show snsW ((sn : Int) + 1) = SW.data.toList by rw [hSW, bstr_list]] at w4
    have HNH := Lib.hid HN
    have sn0 : (0 : Int) ≤ (sn : Int) := by omega
    have sn3 : (sn : Int) < 3 := by omega
    have snw : IntKind.i64.wrap (sn : Int) = (sn : Int) := IntWalk.i64_in _ (by omega)
    have snw2 : IntKind.i64.wrap ((sn : Int) + 1 - 1) = (sn : Int) := by rw [IntWalk.i64_in _ (by omega)]; omega
    rw [hsn]
    have J50 := Lib.hid (show Lib.join (ws.take 5) [32] = (⟨#[97, 114, 99, 32]⟩ ++ AW ++ ⟨#[32]⟩ ++ (pn ps s).name ++ ⟨#[32]⟩ ++ (pn ps d).name ++ ⟨#[32]⟩ ++ SW : ByteArray).data.toList by
      rw [show 5 = 4 + 1 from rfl, join_take (by omega) (by have := HM.out; omega), J40.out, w4]; simp)
    have J50S := Lib.hid (show (⟨#[97, 114, 99, 32]⟩ ++ AW ++ ⟨#[32]⟩ ++ (pn ps s).name ++ ⟨#[32]⟩ ++ (pn ps d).name ++ ⟨#[32]⟩ ++ SW : ByteArray).size ≤ 11800 by have := HL.out 5; rw [J50.out, sz_list] at this; exact this)
    have su6a : 4 + AW.size + 1 + (pn ps s).name.size + 1 + (pn ps d).name.size + 1 ≤ 9223372036854775807 := by omega
    have su6b : ¬ 9223372036854775807 < 4 + AW.size + 1 + (pn ps s).name.size + 1 + (pn ps d).name.size + 1 := by omega
    have su6c : ¬ (9223372036854775807 : Int) < ((4 + AW.size + 1 + (pn ps s).name.size + 1 + (pn ps d).name.size : Nat) : Int) + 1 := by omega
    have su7a : 4 + AW.size + 1 + (pn ps s).name.size + 1 + (pn ps d).name.size + 1 + SW.size ≤ 9223372036854775807 := by omega
    have su7b : ¬ 9223372036854775807 < 4 + AW.size + 1 + (pn ps s).name.size + 1 + (pn ps d).name.size + 1 + SW.size := by omega
    have su7c : ¬ (9223372036854775807 : Int) < ((4 + AW.size + 1 + (pn ps s).name.size + 1 + (pn ps d).name.size : Nat) : Int) + 1 + ((SW.size : Nat) : Int) := by omega
    clear hf e0 e1 e2 e3 e4 e5 e6 x3 x4 hps g0 g1 g2 g3 g4 g5 hp hnn hws hL hs hd hκ es ed W40 hAW hk1 HK w4 hSW HN vsn vdl vsl hlen hxs hxd e' v1 v5 v0s vls v0d vld hkw hsw hsn hnd hne f4 f5 HC hsz κ00
    go_enter Tryz.func79, Tryz.ntmps79
    go_upto_region 1 with fail
    refine wp_region_held_drew (S := (fun w' => w'.cell? ⟨w.heap.size, 2, none⟩ = some (.slice (some ⟨b, off, none⟩) n cap) ∧ w'.cell? ⟨w.heap.size + 1, 0, none⟩ = some (.int .i64 ((κ : Int) + 1)) ∧ w'.cell? ⟨w.heap.size + 1, 1, none⟩ = some (.int .i64 (s : Int)) ∧ w'.cell? ⟨w.heap.size + 1, 2, none⟩ = some (.int .i64 (d : Int)) ∧ w'.cell? ⟨w.heap.size + 1, 3, none⟩ = some (.int .i64 ((sn : Int) + 1)) ∧ w'.cell? ⟨w.heap.size + 1, 4, none⟩ = some (.slice p4 nd q4) ∧ w'.cell? ⟨w.heap.size + 1, 5, none⟩ = some (.slice p5 ne q5) ∧ w'.cell? ⟨b, off + s * 4, none⟩ = some (.string (pn ps s).name) ∧ w'.cell? ⟨b, off + d * 4, none⟩ = some (.string (pn ps d).name) ∧ Below w.heap.size w w' ∧ w.heap.size + 1 < w'.heap.size)) (by kernel_rfl) ?_ (fun hHeld => ?_)
    · (try dsimp only); ((repeat' apply And.intro) <;> first | assumption | ((repeat (first | (with_reducible exact Below.refl _ _) | (with_reducible assumption) | (with_reducible refine ext_alloc ?_ _) | (with_reducible refine ext_drew ?_) | (with_reducible refine ext_drewN ?_ _) | (with_reducible refine ext_set ?_ (by first | exact Nat.le_refl _ | (simp; done) | (simp; omega) | omega) _) | (with_reducible refine ext_trans ?_ (by assumption)))); done) | (simp [go_sem]; done) | (simp [go_sem, *]; done) | (simp; omega) | omega)
    (try dsimp only at hHeld)
    refine wpAnyH_take (i := 1) (oi := _) (v := ?_) rfl (by kernel_rfl) (by kernel_rfl) (by kernel_rfl) (fun _ _ _ h => h) (Or.inl ⟨by rfl, ?_⟩) (by with_reducible assumption) ?_
    rotate_left
    focus (intro w' hSw; (try dsimp only at hSw); go_simp; try (with_reducible rfl))
    (try simp only [Act.put, List.getElem_toArray, List.getElem_cons_zero, List.getElem_cons_succ, List.setIfInBounds_toArray, List.set_cons_zero, List.set_cons_succ])
    refine wpAnyH_take (i := 2) (oi := _) (v := ?_) rfl (by kernel_rfl) (by kernel_rfl) (by kernel_rfl) (fun _ _ _ h => h) (Or.inl ⟨by rfl, ?_⟩) (by with_reducible assumption) ?_
    rotate_left
    focus (intro w' hSw; (try dsimp only at hSw); go_simp; try (with_reducible rfl))
    (try simp only [Act.put, List.getElem_toArray, List.getElem_cons_zero, List.getElem_cons_succ, List.setIfInBounds_toArray, List.set_cons_zero, List.set_cons_succ])
    refine wpAnyH_take (i := 3) (oi := _) (v := ?_) rfl (by kernel_rfl) (by kernel_rfl) (by kernel_rfl) (fun _ _ _ h => h) (Or.inl ⟨by rfl, ?_⟩) (by with_reducible assumption) ?_
    rotate_left
    focus (intro w' hSw; (try dsimp only at hSw); go_simp; try (with_reducible rfl))
    (try simp only [Act.put, List.getElem_toArray, List.getElem_cons_zero, List.getElem_cons_succ, List.setIfInBounds_toArray, List.set_cons_zero, List.set_cons_succ])
    refine wpAnyH_take (i := 8) (oi := _) (v := ?_) rfl (by kernel_rfl) (by kernel_rfl) (by kernel_rfl) (fun _ _ _ h => h) (Or.inl ⟨by rfl, ?_⟩) (by with_reducible assumption) ?_
    rotate_left
    focus (intro w' hSw; (try dsimp only at hSw); go_simp; try (with_reducible rfl))
    (try simp only [Act.put, List.getElem_toArray, List.getElem_cons_zero, List.getElem_cons_succ, List.setIfInBounds_toArray, List.set_cons_zero, List.set_cons_succ])
    refine wpAnyH_take (i := 9) (oi := _) (v := ?_) rfl (by kernel_rfl) (by kernel_rfl) (by kernel_rfl) (fun _ _ _ h => h) (Or.inl ⟨by rfl, ?_⟩) (by with_reducible assumption) ?_
    rotate_left
    focus (intro w' hSw; (try dsimp only at hSw); go_simp; try (with_reducible rfl))
    (try simp only [Act.put, List.getElem_toArray, List.getElem_cons_zero, List.getElem_cons_succ, List.setIfInBounds_toArray, List.set_cons_zero, List.set_cons_succ])
    refine wpAnyH_take (i := 10) (oi := _) (v := ?_) rfl (by kernel_rfl) (by kernel_rfl) (by kernel_rfl) (fun _ _ _ h => h) (Or.inl ⟨by rfl, ?_⟩) (by with_reducible assumption) ?_
    rotate_left
    focus (intro w' hSw; (try dsimp only at hSw); go_simp; try (with_reducible rfl))
    (try simp only [Act.put, List.getElem_toArray, List.getElem_cons_zero, List.getElem_cons_succ, List.setIfInBounds_toArray, List.set_cons_zero, List.set_cons_succ])
    refine wpAnyH_take (i := 11) (oi := _) (v := ?_) rfl (by kernel_rfl) (by kernel_rfl) (by kernel_rfl) (fun _ _ _ h => h) (Or.inl ⟨by rfl, ?_⟩) (by with_reducible assumption) ?_
    rotate_left
    focus (intro w' hSw; (try dsimp only at hSw); go_simp; try (with_reducible rfl))
    (try simp only [Act.put, List.getElem_toArray, List.getElem_cons_zero, List.getElem_cons_succ, List.setIfInBounds_toArray, List.set_cons_zero, List.set_cons_succ])
    refine wpAnyH_take (i := 12) (oi := _) (v := ?_) rfl (by kernel_rfl) (by kernel_rfl) (by kernel_rfl) (fun _ _ _ h => h) (Or.inl ⟨by rfl, ?_⟩) (by with_reducible assumption) ?_
    rotate_left
    focus (intro w' hSw; (try dsimp only at hSw); go_simp; try (with_reducible rfl))
    (try simp only [Act.put, List.getElem_toArray, List.getElem_cons_zero, List.getElem_cons_succ, List.setIfInBounds_toArray, List.set_cons_zero, List.set_cons_succ])
    refine wpAnyH_take (i := 13) (oi := _) (v := ?_) rfl (by kernel_rfl) (by kernel_rfl) (by kernel_rfl) (fun _ _ _ h => h) (Or.inl ⟨by rfl, ?_⟩) (by with_reducible assumption) ?_
    rotate_left
    focus (intro w' hSw; (try dsimp only at hSw); go_simp; try (with_reducible rfl))
    (try simp only [Act.put, List.getElem_toArray, List.getElem_cons_zero, List.getElem_cons_succ, List.setIfInBounds_toArray, List.set_cons_zero, List.set_cons_succ])
    refine wpAnyH_take (i := 14) (oi := _) (v := ?_) rfl (by kernel_rfl) (by kernel_rfl) (by kernel_rfl) (fun _ _ _ h => h) (Or.inl ⟨by rfl, ?_⟩) (by with_reducible assumption) ?_
    rotate_left
    focus (intro w' hSw; (try dsimp only at hSw); go_simp; try (with_reducible rfl))
    (try simp only [Act.put, List.getElem_toArray, List.getElem_cons_zero, List.getElem_cons_succ, List.setIfInBounds_toArray, List.set_cons_zero, List.set_cons_succ])
    refine wpAnyH_take (i := 17) (oi := _) (v := ?_) rfl (by kernel_rfl) (by kernel_rfl) (by kernel_rfl) (fun _ _ _ h => h) (Or.inl ⟨by rfl, ?_⟩) (by with_reducible assumption) ?_
    rotate_left
    focus (intro w' hSw; (try dsimp only at hSw); go_simp; try (with_reducible rfl))
    (try simp only [Act.put, List.getElem_toArray, List.getElem_cons_zero, List.getElem_cons_succ, List.setIfInBounds_toArray, List.set_cons_zero, List.set_cons_succ])
    refine wpAnyH_take (i := 18) (oi := _) (v := ?_) rfl (by kernel_rfl) (by kernel_rfl) (by kernel_rfl) (fun _ _ _ h => h) (Or.inl ⟨by rfl, ?_⟩) (by with_reducible assumption) ?_
    rotate_left
    focus (intro w' hSw; (try dsimp only at hSw); go_simp; try (with_reducible rfl))
    (try simp only [Act.put, List.getElem_toArray, List.getElem_cons_zero, List.getElem_cons_succ, List.setIfInBounds_toArray, List.set_cons_zero, List.set_cons_succ])
    refine wpAnyH_take (i := 19) (oi := _) (v := ?_) rfl (by kernel_rfl) (by kernel_rfl) (by kernel_rfl) (fun _ _ _ h => h) (Or.inl ⟨by rfl, ?_⟩) (by with_reducible assumption) ?_
    rotate_left
    focus (intro w' hSw; (try dsimp only at hSw); go_simp; try (with_reducible rfl))
    (try simp only [Act.put, List.getElem_toArray, List.getElem_cons_zero, List.getElem_cons_succ, List.setIfInBounds_toArray, List.set_cons_zero, List.set_cons_succ])
    refine wpAnyH_take (i := 20) (oi := _) (v := ?_) rfl (by kernel_rfl) (by kernel_rfl) (by kernel_rfl) (fun _ _ _ h => h) (Or.inl ⟨by rfl, ?_⟩) (by with_reducible assumption) ?_
    rotate_left
    focus (intro w' hSw; (try dsimp only at hSw); go_simp; try (with_reducible rfl))
    (try simp only [Act.put, List.getElem_toArray, List.getElem_cons_zero, List.getElem_cons_succ, List.setIfInBounds_toArray, List.set_cons_zero, List.set_cons_succ])
    refine wpAnyH_take (i := 21) (oi := _) (v := ?_) rfl (by kernel_rfl) (by kernel_rfl) (by kernel_rfl) (fun _ _ _ h => h) (Or.inl ⟨by rfl, ?_⟩) (by with_reducible assumption) ?_
    rotate_left
    focus (intro w' hSw; (try dsimp only at hSw); go_simp; try (with_reducible rfl))
    (try simp only [Act.put, List.getElem_toArray, List.getElem_cons_zero, List.getElem_cons_succ, List.setIfInBounds_toArray, List.set_cons_zero, List.set_cons_succ])
    refine wpAnyH_take (i := 22) (oi := _) (v := ?_) rfl (by kernel_rfl) (by kernel_rfl) (by kernel_rfl) (fun _ _ _ h => h) (Or.inl ⟨by rfl, ?_⟩) (by with_reducible assumption) ?_
    rotate_left
    focus (intro w' hSw; (try dsimp only at hSw); go_simp; try (with_reducible rfl))
    (try simp only [Act.put, List.getElem_toArray, List.getElem_cons_zero, List.getElem_cons_succ, List.setIfInBounds_toArray, List.set_cons_zero, List.set_cons_succ])
    refine wpAnyH_take (i := 23) (oi := _) (v := ?_) rfl (by kernel_rfl) (by kernel_rfl) (by kernel_rfl) (fun _ _ _ h => h) (Or.inl ⟨by rfl, ?_⟩) (by with_reducible assumption) ?_
    rotate_left
    focus (intro w' hSw; (try dsimp only at hSw); go_simp; try (with_reducible rfl))
    (try simp only [Act.put, List.getElem_toArray, List.getElem_cons_zero, List.getElem_cons_succ, List.setIfInBounds_toArray, List.set_cons_zero, List.set_cons_succ])
    refine wpAnyH_ready (rs := [0]) (by kernel_rfl) (by simp) ?_
    refine AllReadyH.cons rfl (fun K hK => ?_) AllReadyH.nil
    go_simp
    (go_at_call 131; refine (HKH.out _).mono ?_; rintro e wn ⟨rfl, hk0, hb⟩)
    (try simp at hk0)
    refine hK.out _ _ (keep9 hHeld hb) (fun hHeld' => ?_)
    clear hK K hHeld
    have hHeld := hHeld'
    clear hHeld'
    (try simp only [Act.put, List.getElem_toArray, List.getElem_cons_zero, List.getElem_cons_succ, List.setIfInBounds_toArray, List.set_cons_zero, List.set_cons_succ])
    refine wpAnyH_take (i := 4) (oi := _) (v := ?_) rfl (by kernel_rfl) (by kernel_rfl) (by kernel_rfl) (fun _ _ _ h => h) (Or.inl ⟨by rfl, ?_⟩) (by with_reducible assumption) ?_
    rotate_left
    focus (intro w' hSw; (try dsimp only at hSw); go_simp; try (with_reducible rfl))
    (try simp only [Act.put, List.getElem_toArray, List.getElem_cons_zero, List.getElem_cons_succ, List.setIfInBounds_toArray, List.set_cons_zero, List.set_cons_succ])
    refine wpAnyH_ready (rs := [5]) (by kernel_rfl) (by simp) ?_
    refine AllReadyH.cons rfl (fun K hK => ?_) AllReadyH.nil
    go_simp
    refine hK.out _ _ hHeld (fun _ => ?_)
    clear hK K
    (try simp only [Act.put, List.getElem_toArray, List.getElem_cons_zero, List.getElem_cons_succ, List.setIfInBounds_toArray, List.set_cons_zero, List.set_cons_succ])
    refine wpAnyH_take (i := 6) (oi := _) (v := ?_) rfl (by kernel_rfl) (by kernel_rfl) (by kernel_rfl) (fun _ _ _ h => h) (Or.inl ⟨by rfl, ?_⟩) (by with_reducible assumption) ?_
    rotate_left
    focus (intro w' hSw; (try dsimp only at hSw); go_simp; try (with_reducible rfl))
    (try simp only [Act.put, List.getElem_toArray, List.getElem_cons_zero, List.getElem_cons_succ, List.setIfInBounds_toArray, List.set_cons_zero, List.set_cons_succ])
    refine wpAnyH_take (i := 7) (oi := _) (v := ?_) rfl (by kernel_rfl) (by kernel_rfl) (by kernel_rfl) (fun _ _ _ h => h) (Or.inl ⟨by rfl, ?_⟩) (by with_reducible assumption) ?_
    rotate_left
    focus (intro w' hSw; (try dsimp only at hSw); go_simp; try (with_reducible rfl))
    (try simp only [Act.put, List.getElem_toArray, List.getElem_cons_zero, List.getElem_cons_succ, List.setIfInBounds_toArray, List.set_cons_zero, List.set_cons_succ])
    refine wpAnyH_take (i := 15) (oi := _) (v := ?_) rfl (by kernel_rfl) (by kernel_rfl) (by kernel_rfl) (fun _ _ _ h => h) (Or.inl ⟨by rfl, ?_⟩) (by with_reducible assumption) ?_
    rotate_left
    focus (intro w' hSw; (try dsimp only at hSw); go_simp; try (with_reducible rfl))
    (try simp only [Act.put, List.getElem_toArray, List.getElem_cons_zero, List.getElem_cons_succ, List.setIfInBounds_toArray, List.set_cons_zero, List.set_cons_succ])
    refine wpAnyH_take (i := 16) (oi := _) (v := ?_) rfl (by kernel_rfl) (by kernel_rfl) (by kernel_rfl) (fun _ _ _ h => h) (Or.inl ⟨by rfl, ?_⟩) (by with_reducible assumption) ?_
    rotate_left
    focus (intro w' hSw; (try dsimp only at hSw); go_simp; try (with_reducible rfl))
    (try simp only [Act.put, List.getElem_toArray, List.getElem_cons_zero, List.getElem_cons_succ, List.setIfInBounds_toArray, List.set_cons_zero, List.set_cons_succ])
    refine wpAnyH_take (i := 24) (oi := _) (v := ?_) rfl (by kernel_rfl) (by kernel_rfl) (by kernel_rfl) (fun _ _ _ h => h) (Or.inl ⟨by rfl, ?_⟩) (by with_reducible assumption) ?_
    rotate_left
    focus (intro w' hSw; (try dsimp only at hSw); go_simp; try (with_reducible rfl))
    (try simp only [Act.put, List.getElem_toArray, List.getElem_cons_zero, List.getElem_cons_succ, List.setIfInBounds_toArray, List.set_cons_zero, List.set_cons_succ])
    refine wpAnyH_take (i := 25) (oi := _) (v := ?_) rfl (by kernel_rfl) (by kernel_rfl) (by kernel_rfl) (fun _ _ _ h => h) (Or.inl ⟨by rfl, ?_⟩) (by with_reducible assumption) ?_
    rotate_left
    focus (intro w' hSw; (try dsimp only at hSw); go_simp; try (with_reducible rfl))
    (try simp only [Act.put, List.getElem_toArray, List.getElem_cons_zero, List.getElem_cons_succ, List.setIfInBounds_toArray, List.set_cons_zero, List.set_cons_succ])
    refine wpAnyH_done (by kernel_rfl) ?_ _
    go_upto_region 3 with fail
    refine wp_region_held_drew (S := (fun w' => w'.cell? ⟨w.heap.size + 1, 3, none⟩ = some (.int .i64 ((sn : Int) + 1)) ∧ w'.cell? ⟨w.heap.size + 1, 4, none⟩ = some (.slice p4 nd q4) ∧ w'.cell? ⟨w.heap.size + 1, 5, none⟩ = some (.slice p5 ne q5) ∧ Below w.heap.size w w' ∧ w.heap.size + 1 < w'.heap.size)) (by kernel_rfl) ?_ (fun hHeld => ?_)
    · (try dsimp only); ((repeat' apply And.intro) <;> first | assumption | ((repeat (first | (with_reducible exact Below.refl _ _) | (with_reducible assumption) | (with_reducible refine ext_alloc ?_ _) | (with_reducible refine ext_drew ?_) | (with_reducible refine ext_drewN ?_ _) | (with_reducible refine ext_set ?_ (by first | exact Nat.le_refl _ | (simp; done) | (simp; omega) | omega) _) | (with_reducible refine ext_trans ?_ (by assumption)))); done) | (simp [go_sem]; done) | (simp [go_sem, *]; done) | (simp; omega) | omega)
    (try dsimp only at hHeld)
    refine wpAnyH_take (i := 0) (oi := _) (v := ?_) rfl (by kernel_rfl) (by kernel_rfl) (by kernel_rfl) (fun _ _ _ h => h) (Or.inl ⟨by rfl, ?_⟩) (by with_reducible assumption) ?_
    rotate_left
    focus (intro w' hSw; (try dsimp only at hSw); go_simp; try (with_reducible rfl))
    (try simp only [Act.put, List.getElem_toArray, List.getElem_cons_zero, List.getElem_cons_succ, List.setIfInBounds_toArray, List.set_cons_zero, List.set_cons_succ])
    refine wpAnyH_take (i := 1) (oi := _) (v := ?_) rfl (by kernel_rfl) (by kernel_rfl) (by kernel_rfl) (fun _ _ _ h => h) (Or.inl ⟨by rfl, ?_⟩) (by with_reducible assumption) ?_
    rotate_left
    focus (intro w' hSw; (try dsimp only at hSw); go_simp; try (with_reducible rfl))
    (try simp only [Act.put, List.getElem_toArray, List.getElem_cons_zero, List.getElem_cons_succ, List.setIfInBounds_toArray, List.set_cons_zero, List.set_cons_succ])
    refine wpAnyH_take (i := 3) (oi := _) (v := ?_) rfl (by kernel_rfl) (by kernel_rfl) (by kernel_rfl) (fun _ _ _ h => h) (Or.inl ⟨by rfl, ?_⟩) (by with_reducible assumption) ?_
    rotate_left
    focus (intro w' hSw; (try dsimp only at hSw); go_simp; try (with_reducible rfl))
    (try simp only [Act.put, List.getElem_toArray, List.getElem_cons_zero, List.getElem_cons_succ, List.setIfInBounds_toArray, List.set_cons_zero, List.set_cons_succ])
    refine wpAnyH_take (i := 4) (oi := _) (v := ?_) rfl (by kernel_rfl) (by kernel_rfl) (by kernel_rfl) (fun _ _ _ h => h) (Or.inl ⟨by rfl, ?_⟩) (by with_reducible assumption) ?_
    rotate_left
    focus (intro w' hSw; (try dsimp only at hSw); go_simp; try (with_reducible rfl))
    (try simp only [Act.put, List.getElem_toArray, List.getElem_cons_zero, List.getElem_cons_succ, List.setIfInBounds_toArray, List.set_cons_zero, List.set_cons_succ])
    refine wpAnyH_take (i := 5) (oi := _) (v := ?_) rfl (by kernel_rfl) (by kernel_rfl) (by kernel_rfl) (fun _ _ _ h => h) (Or.inl ⟨by rfl, ?_⟩) (by with_reducible assumption) ?_
    rotate_left
    focus (intro w' hSw; (try dsimp only at hSw); go_simp; try (with_reducible rfl))
    (try simp only [Act.put, List.getElem_toArray, List.getElem_cons_zero, List.getElem_cons_succ, List.setIfInBounds_toArray, List.set_cons_zero, List.set_cons_succ])
    refine wpAnyH_ready (rs := [2]) (by kernel_rfl) (by simp) ?_
    refine AllReadyH.cons rfl (fun K hK => ?_) AllReadyH.nil
    go_simp
    (go_at_call 132; refine (HNH.out _).mono ?_; rintro e wn ⟨rfl, hk1, hb⟩)
    (try simp at hk1)
    refine hK.out _ _ (keep3 hHeld hb) (fun hHeld' => ?_)
    clear hK K hHeld
    have hHeld := hHeld'
    clear hHeld'
    (try simp only [Act.put, List.getElem_toArray, List.getElem_cons_zero, List.getElem_cons_succ, List.setIfInBounds_toArray, List.set_cons_zero, List.set_cons_succ])
    refine wpAnyH_take (i := 6) (oi := _) (v := ?_) rfl (by kernel_rfl) (by kernel_rfl) (by kernel_rfl) (fun _ _ _ h => h) (Or.inl ⟨by rfl, ?_⟩) (by with_reducible assumption) ?_
    rotate_left
    focus (intro w' hSw; (try dsimp only at hSw); go_simp; try (with_reducible rfl))
    (try simp only [Act.put, List.getElem_toArray, List.getElem_cons_zero, List.getElem_cons_succ, List.setIfInBounds_toArray, List.set_cons_zero, List.set_cons_succ])
    refine wpAnyH_ready (rs := [7]) (by kernel_rfl) (by simp) ?_
    refine AllReadyH.cons rfl (fun K hK => ?_) AllReadyH.nil
    go_simp
    refine hK.out _ _ hHeld (fun _ => ?_)
    clear hK K
    (try simp only [Act.put, List.getElem_toArray, List.getElem_cons_zero, List.getElem_cons_succ, List.setIfInBounds_toArray, List.set_cons_zero, List.set_cons_succ])
    refine wpAnyH_take (i := 8) (oi := _) (v := ?_) rfl (by kernel_rfl) (by kernel_rfl) (by kernel_rfl) (fun _ _ _ h => h) (Or.inl ⟨by rfl, ?_⟩) (by with_reducible assumption) ?_
    rotate_left
    focus (intro w' hSw; (try dsimp only at hSw); go_simp; try (with_reducible rfl))
    (try simp only [Act.put, List.getElem_toArray, List.getElem_cons_zero, List.getElem_cons_succ, List.setIfInBounds_toArray, List.set_cons_zero, List.set_cons_succ])
    refine wpAnyH_take (i := 9) (oi := _) (v := ?_) rfl (by kernel_rfl) (by kernel_rfl) (by kernel_rfl) (fun _ _ _ h => h) (Or.inl ⟨by rfl, ?_⟩) (by with_reducible assumption) ?_
    rotate_left
    focus (intro w' hSw; (try dsimp only at hSw); go_simp; try (with_reducible rfl))
    (try simp only [Act.put, List.getElem_toArray, List.getElem_cons_zero, List.getElem_cons_succ, List.setIfInBounds_toArray, List.set_cons_zero, List.set_cons_succ])
    refine wpAnyH_done (by kernel_rfl) ?_ _
    have B9 := hHeld.2.2.2.1
    go_wp2_with fail
    go_loopw [5, 6] (fun s i wr => ∃ (k : Nat) (J : ByteArray), k ≤ nd ∧ i = .int .i64 k ∧ s = .string J ∧ Hid (J.data.toList = Lib.join (ws.take (5 + k)) [32]) ∧ J.size ≤ 11800 ∧ wr.cell? ⟨w.heap.size + 1, 4, none⟩ = some (.slice p4 nd q4) ∧ wr.cell? ⟨w.heap.size + 1, 5, none⟩ = some (.slice p5 ne q5) ∧ Below w.heap.size w wr) (fun _ i _ => nd - (intOf i).toNat)
    case atStart => exact ⟨0, _, by omega, rfl, rfl, Lib.hid J50.out.symm, J50S.out, hHeld.2.1, hHeld.2.2.1, by (repeat (first | (with_reducible exact Below.refl _ _) | (with_reducible assumption) | (with_reducible refine ext_alloc ?_ _) | (with_reducible refine ext_drew ?_) | (with_reducible refine ext_drewN ?_ _) | (with_reducible refine ext_set ?_ (by first | exact Nat.le_refl _ | (simp; done) | (simp; omega) | omega) _) | (with_reducible refine ext_trans ?_ (by assumption))))⟩
    case round =>
      clear J40 J50 J40S J50S hHeld B9
      obtain ⟨k, J, hk, rfl, rfl, HJ, hJ, r4, r5, hbw⟩ := hrel
      by_cases hkn : k < nd
      · obtain ⟨b, off, rfl, hlt, hx⟩ := H4.out.at hbw hkn
        have y0 := hx 0 (by omega); have y1 := hx 1 (by omega); have y2 := hx 2 (by omega)
        simp only [Nat.add_zero] at y0
        have hT := (F4.out k hkn).up hbw
        obtain ⟨a0, b0, e0⟩ := hT.1.slice; obtain ⟨a1, b1, e1⟩ := hT.2.1.slice; obtain ⟨a2, b2, e2⟩ := hT.2.2.slice
        rw [e0] at y0; rw [e1] at y1; rw [e2] at y2
        unfold TabF at hT
        rw [e0, e1, e2] at hT
        clear e0 e1 e2
        have hI : (k : Int) < (nd : Int) := by omega
        have i0 : (0 : Int) ≤ (k : Int) := by omega
        obtain ⟨T, hTT⟩ : ∃ T, T = tabS (tn a.delay k).ss (tn a.delay k).ls (tn a.delay k).vs := ⟨_, rfl⟩
        have hTs : T.size ≤ 1300 := by have := tab_len (tn a.delay k); unfold tabX at this; rw [← hTT, sz_list] at this; exact this
        have HB := Lib.hid (fun (w1 : World) (hb : Below wr.heap.size wr w1) => specTabT_any _ _ _ (tn a.delay k).ss (tn a.delay k).ls (tn a.delay k).vs w1 (hT.1.up hb) (hT.2.1.up hb) (hT.2.2.up hb))
        rw [← hTT] at HB
        have HS := Lib.hid (step_join (J := J) (T := T) (show 0 < 5 + k by omega) (by have := HM.out; omega) HJ.out (by rw [hTT]; exact (W4.out k (by omega)).symm))
        have HZ := Lib.hid (by have h1 := HL.out (5 + k + 1); rw [← HS.out, sz_list] at h1; exact h1 : (J ++ ⟨#[32]⟩ ++ T).size ≤ 11800)
        have su8a : J.size + 1 ≤ 9223372036854775807 := by omega
        have su8b : ¬ 9223372036854775807 < J.size + 1 := by omega
        have su8c : ¬ (9223372036854775807 : Int) < ((J.size : Nat) : Int) + 1 := by omega
        have su9a : J.size + 1 + T.size ≤ 9223372036854775807 := by omega
        have su9b : ¬ 9223372036854775807 < J.size + 1 + T.size := by omega
        have su9c : ¬ (9223372036854775807 : Int) < ((J.size : Nat) : Int) + 1 + ((T.size : Nat) : Int) := by omega
        clear hx hT hTT HJ
        go_wp2_with (go_at_call 133; refine (HB.out _ (by (repeat (first | (with_reducible exact Below.refl _ _) | (with_reducible assumption) | (with_reducible refine ext_alloc ?_ _) | (with_reducible refine ext_drew ?_) | (with_reducible refine ext_drewN ?_ _) | (with_reducible refine ext_set ?_ (by first | exact Nat.le_refl _ | (simp; done) | (simp; omega) | omega) _) | (with_reducible refine ext_trans ?_ (by assumption)))))).mono ?_; rintro e w1 ⟨rfl, hb⟩; obtain ⟨hc, hf⟩ := bcell hb; have hz := hb.size; (try simp at hz); (try (have hz := Nat.lt_of_succ_le hz)); (try (have y0 : w.heap.size ≤ w1.heap.size := by omega)); (try (have z0 : w.heap.size < w1.heap.size := by omega)); (try (have z1 : w.heap.size + 1 < w1.heap.size := by omega)); (try (have z2 : w.heap.size + 1 + 1 < w1.heap.size := by omega)); (try (have z3 : w.heap.size + 1 + 1 + 1 < w1.heap.size := by omega)); (try (have z4 : w.heap.size + 1 + 1 + 1 + 1 < w1.heap.size := by omega)); (try (have x0 : wc.heap.size < w1.heap.size := by omega)); (try (have x1 : wc.heap.size ≤ w1.heap.size := by omega)))
        go_roundw
        case rel => exact ⟨k + 1, _, by omega, by go_num, rfl, Lib.hid (by rw [← Nat.add_assoc]; exact HS.out), HZ.out, cell_keep r4 (by (repeat (first | (with_reducible exact Below.refl _ _) | (with_reducible assumption) | (with_reducible refine ext_alloc ?_ _) | (with_reducible refine ext_drew ?_) | (with_reducible refine ext_drewN ?_ _) | (with_reducible refine ext_set ?_ (by first | exact Nat.le_refl _ | (simp; done) | (simp; omega) | omega) _) | (with_reducible refine ext_trans ?_ (by assumption))))), cell_keep r5 (by (repeat (first | (with_reducible exact Below.refl _ _) | (with_reducible assumption) | (with_reducible refine ext_alloc ?_ _) | (with_reducible refine ext_drew ?_) | (with_reducible refine ext_drewN ?_ _) | (with_reducible refine ext_set ?_ (by first | exact Nat.le_refl _ | (simp; done) | (simp; omega) | omega) _) | (with_reducible refine ext_trans ?_ (by assumption))))), by (repeat (first | (with_reducible exact Below.refl _ _) | (with_reducible assumption) | (with_reducible refine ext_alloc ?_ _) | (with_reducible refine ext_drew ?_) | (with_reducible refine ext_drewN ?_ _) | (with_reducible refine ext_set ?_ (by first | exact Nat.le_refl _ | (simp; done) | (simp; omega) | omega) _) | (with_reducible refine ext_trans ?_ (by assumption))))⟩
        case measure => simp [intOf]; omega
      · obtain rfl : k = nd := by omega
        have hI : ¬ (k : Int) < (k : Int) := by omega
        go_wp2
        go_loopw [5, 7] (fun s i wr => ∃ (q : Nat) (J : ByteArray), q ≤ ne ∧ i = .int .i64 q ∧ s = .string J ∧ Hid (J.data.toList = Lib.join (ws.take (5 + k + q)) [32]) ∧ J.size ≤ 11800 ∧ wr.cell? ⟨w.heap.size + 1, 5, none⟩ = some (.slice p5 ne q5) ∧ Below w.heap.size w wr) (fun _ i _ => ne - (intOf i).toNat)
        case atStart => exact ⟨0, J, by omega, rfl, rfl, HJ, hJ, r5, hbw⟩
        case round =>
          clear hJ r4 r5 HJ hbw hI
          obtain ⟨q, J, hq, rfl, rfl, HJ, hJ, r5, hbw⟩ := hrel
          by_cases hqn : q < ne
          · obtain ⟨b, off, rfl, hlt, hx⟩ := H5.out.at hbw hqn
            have y0 := hx 0 (by omega); have y1 := hx 1 (by omega); have y2 := hx 2 (by omega)
            simp only [Nat.add_zero] at y0
            have hT := (F5.out q hqn).up hbw
            obtain ⟨a0, b0, e0⟩ := hT.1.slice; obtain ⟨a1, b1, e1⟩ := hT.2.1.slice; obtain ⟨a2, b2, e2⟩ := hT.2.2.slice
            rw [e0] at y0; rw [e1] at y1; rw [e2] at y2
            unfold TabF at hT
            rw [e0, e1, e2] at hT
            clear e0 e1 e2
            have hI : (q : Int) < (ne : Int) := by omega
            have i0 : (0 : Int) ≤ (q : Int) := by omega
            obtain ⟨T, hTT⟩ : ∃ T, T = tabS (tn a.slew q).ss (tn a.slew q).ls (tn a.slew q).vs := ⟨_, rfl⟩
            have hTs : T.size ≤ 1300 := by have := tab_len (tn a.slew q); unfold tabX at this; rw [← hTT, sz_list] at this; exact this
            have HB := Lib.hid (fun (w1 : World) (hb : Below wr.heap.size wr w1) => specTabT_any _ _ _ (tn a.slew q).ss (tn a.slew q).ls (tn a.slew q).vs w1 (hT.1.up hb) (hT.2.1.up hb) (hT.2.2.up hb))
            rw [← hTT] at HB
            have HS := Lib.hid (step_join (J := J) (T := T) (show 0 < 5 + k + q by omega) (by have := HM.out; omega) HJ.out (by rw [hTT]; exact (W5.out q (by omega)).symm))
            have HZ := Lib.hid (by have h1 := HL.out (5 + k + q + 1); rw [← HS.out, sz_list] at h1; exact h1 : (J ++ ⟨#[32]⟩ ++ T).size ≤ 11800)
            have su10a : J.size + 1 ≤ 9223372036854775807 := by omega
            have su10b : ¬ 9223372036854775807 < J.size + 1 := by omega
            have su10c : ¬ (9223372036854775807 : Int) < ((J.size : Nat) : Int) + 1 := by omega
            have su11a : J.size + 1 + T.size ≤ 9223372036854775807 := by omega
            have su11b : ¬ 9223372036854775807 < J.size + 1 + T.size := by omega
            have su11c : ¬ (9223372036854775807 : Int) < ((J.size : Nat) : Int) + 1 + ((T.size : Nat) : Int) := by omega
            clear hx hT hTT HJ
            go_wp2_with (go_at_call 133; refine (HB.out _ (by (repeat (first | (with_reducible exact Below.refl _ _) | (with_reducible assumption) | (with_reducible refine ext_alloc ?_ _) | (with_reducible refine ext_drew ?_) | (with_reducible refine ext_drewN ?_ _) | (with_reducible refine ext_set ?_ (by first | exact Nat.le_refl _ | (simp; done) | (simp; omega) | omega) _) | (with_reducible refine ext_trans ?_ (by assumption)))))).mono ?_; rintro e w1 ⟨rfl, hb⟩; obtain ⟨hc, hf⟩ := bcell hb; have hz := hb.size; (try simp at hz); (try (have hz := Nat.lt_of_succ_le hz)); (try (have y0 : w.heap.size ≤ w1.heap.size := by omega)); (try (have z0 : w.heap.size < w1.heap.size := by omega)); (try (have z1 : w.heap.size + 1 < w1.heap.size := by omega)); (try (have z2 : w.heap.size + 1 + 1 < w1.heap.size := by omega)); (try (have z3 : w.heap.size + 1 + 1 + 1 < w1.heap.size := by omega)); (try (have z4 : w.heap.size + 1 + 1 + 1 + 1 < w1.heap.size := by omega)); (try (have x0 : wc.heap.size < w1.heap.size := by omega)); (try (have x1 : wc.heap.size ≤ w1.heap.size := by omega)))
            go_roundw
            case rel => exact ⟨q + 1, _, by omega, by go_num, rfl, Lib.hid (by rw [← Nat.add_assoc]; exact HS.out), HZ.out, cell_keep r5 (by (repeat (first | (with_reducible exact Below.refl _ _) | (with_reducible assumption) | (with_reducible refine ext_alloc ?_ _) | (with_reducible refine ext_drew ?_) | (with_reducible refine ext_drewN ?_ _) | (with_reducible refine ext_set ?_ (by first | exact Nat.le_refl _ | (simp; done) | (simp; omega) | omega) _) | (with_reducible refine ext_trans ?_ (by assumption))))), by (repeat (first | (with_reducible exact Below.refl _ _) | (with_reducible assumption) | (with_reducible refine ext_alloc ?_ _) | (with_reducible refine ext_drew ?_) | (with_reducible refine ext_drewN ?_ _) | (with_reducible refine ext_set ?_ (by first | exact Nat.le_refl _ | (simp; done) | (simp; omega) | omega) _) | (with_reducible refine ext_trans ?_ (by assumption))))⟩
            case measure => simp [intOf]; omega
          · obtain rfl : q = ne := by omega
            have hI : ¬ (q : Int) < (q : Int) := by omega
            go_wp2
            go_ret
            exact says (by rw [HJ.out, show 5 + k + q = ws.length from HM.out.symm, List.take_length]; exact HW.out) (by (repeat (first | (with_reducible exact Below.refl _ _) | (with_reducible assumption) | (with_reducible refine ext_alloc ?_ _) | (with_reducible refine ext_drew ?_) | (with_reducible refine ext_drewN ?_ _) | (with_reducible refine ext_set ?_ (by first | exact Nat.le_refl _ | (simp; done) | (simp; omega) | omega) _) | (with_reducible refine ext_trans ?_ (by assumption)))))
  · have kt : ((κ : Int) + 1 == 1) = false := by simp; omega
    have W4 := Lib.hid (fun q (hq : q < nd) => by rw [hws]; exact word_tab ps a (m := 4) (k := q) (by rw [if_neg hk1]) (by omega) : ∀ q, q < nd → ws.getD (4 + q) [] = tabX (tn a.delay q))
    have W5 := Lib.hid (fun q (hq : q < ne) => by rw [hws]; exact word_slew ps a (m := 4 + nd) (k := q) (by rw [if_neg hk1]; omega) (by omega) : ∀ q, q < ne → ws.getD (4 + nd + q) [] = tabX (tn a.slew q))
    have HM := Lib.hid (show ws.length = 4 + nd + ne by rw [hlen, if_neg hk1])
    clear hf e0 e1 e2 e3 e4 e5 e6 x3 x4 hps g0 g1 g2 g3 g4 g5 hp hnn hws hL hs hd hκ es ed W40 hAW hk1 HK vsn vdl vsl hlen hxs hxd e' v1 v5 v0s vls v0d vld hkw hnd hne f4 f5 HC hsz
    go_enter Tryz.func79, Tryz.ntmps79
    go_upto_region 1 with fail
    refine wp_region_held_drew (S := (fun w' => w'.cell? ⟨w.heap.size, 2, none⟩ = some (.slice (some ⟨b, off, none⟩) n cap) ∧ w'.cell? ⟨w.heap.size + 1, 0, none⟩ = some (.int .i64 ((κ : Int) + 1)) ∧ w'.cell? ⟨w.heap.size + 1, 1, none⟩ = some (.int .i64 (s : Int)) ∧ w'.cell? ⟨w.heap.size + 1, 2, none⟩ = some (.int .i64 (d : Int)) ∧ w'.cell? ⟨w.heap.size + 1, 4, none⟩ = some (.slice p4 nd q4) ∧ w'.cell? ⟨w.heap.size + 1, 5, none⟩ = some (.slice p5 ne q5) ∧ w'.cell? ⟨b, off + s * 4, none⟩ = some (.string (pn ps s).name) ∧ w'.cell? ⟨b, off + d * 4, none⟩ = some (.string (pn ps d).name) ∧ Below w.heap.size w w' ∧ w.heap.size + 1 < w'.heap.size)) (by kernel_rfl) ?_ (fun hHeld => ?_)
    · (try dsimp only); ((repeat' apply And.intro) <;> first | assumption | ((repeat (first | (with_reducible exact Below.refl _ _) | (with_reducible assumption) | (with_reducible refine ext_alloc ?_ _) | (with_reducible refine ext_drew ?_) | (with_reducible refine ext_drewN ?_ _) | (with_reducible refine ext_set ?_ (by first | exact Nat.le_refl _ | (simp; done) | (simp; omega) | omega) _) | (with_reducible refine ext_trans ?_ (by assumption)))); done) | (simp [go_sem]; done) | (simp [go_sem, *]; done) | (simp; omega) | omega)
    (try dsimp only at hHeld)
    refine wpAnyH_take (i := 1) (oi := _) (v := ?_) rfl (by kernel_rfl) (by kernel_rfl) (by kernel_rfl) (fun _ _ _ h => h) (Or.inl ⟨by rfl, ?_⟩) (by with_reducible assumption) ?_
    rotate_left
    focus (intro w' hSw; (try dsimp only at hSw); go_simp; try (with_reducible rfl))
    (try simp only [Act.put, List.getElem_toArray, List.getElem_cons_zero, List.getElem_cons_succ, List.setIfInBounds_toArray, List.set_cons_zero, List.set_cons_succ])
    refine wpAnyH_take (i := 2) (oi := _) (v := ?_) rfl (by kernel_rfl) (by kernel_rfl) (by kernel_rfl) (fun _ _ _ h => h) (Or.inl ⟨by rfl, ?_⟩) (by with_reducible assumption) ?_
    rotate_left
    focus (intro w' hSw; (try dsimp only at hSw); go_simp; try (with_reducible rfl))
    (try simp only [Act.put, List.getElem_toArray, List.getElem_cons_zero, List.getElem_cons_succ, List.setIfInBounds_toArray, List.set_cons_zero, List.set_cons_succ])
    refine wpAnyH_take (i := 3) (oi := _) (v := ?_) rfl (by kernel_rfl) (by kernel_rfl) (by kernel_rfl) (fun _ _ _ h => h) (Or.inl ⟨by rfl, ?_⟩) (by with_reducible assumption) ?_
    rotate_left
    focus (intro w' hSw; (try dsimp only at hSw); go_simp; try (with_reducible rfl))
    (try simp only [Act.put, List.getElem_toArray, List.getElem_cons_zero, List.getElem_cons_succ, List.setIfInBounds_toArray, List.set_cons_zero, List.set_cons_succ])
    refine wpAnyH_take (i := 8) (oi := _) (v := ?_) rfl (by kernel_rfl) (by kernel_rfl) (by kernel_rfl) (fun _ _ _ h => h) (Or.inl ⟨by rfl, ?_⟩) (by with_reducible assumption) ?_
    rotate_left
    focus (intro w' hSw; (try dsimp only at hSw); go_simp; try (with_reducible rfl))
    (try simp only [Act.put, List.getElem_toArray, List.getElem_cons_zero, List.getElem_cons_succ, List.setIfInBounds_toArray, List.set_cons_zero, List.set_cons_succ])
    refine wpAnyH_take (i := 9) (oi := _) (v := ?_) rfl (by kernel_rfl) (by kernel_rfl) (by kernel_rfl) (fun _ _ _ h => h) (Or.inl ⟨by rfl, ?_⟩) (by with_reducible assumption) ?_
    rotate_left
    focus (intro w' hSw; (try dsimp only at hSw); go_simp; try (with_reducible rfl))
    (try simp only [Act.put, List.getElem_toArray, List.getElem_cons_zero, List.getElem_cons_succ, List.setIfInBounds_toArray, List.set_cons_zero, List.set_cons_succ])
    refine wpAnyH_take (i := 10) (oi := _) (v := ?_) rfl (by kernel_rfl) (by kernel_rfl) (by kernel_rfl) (fun _ _ _ h => h) (Or.inl ⟨by rfl, ?_⟩) (by with_reducible assumption) ?_
    rotate_left
    focus (intro w' hSw; (try dsimp only at hSw); go_simp; try (with_reducible rfl))
    (try simp only [Act.put, List.getElem_toArray, List.getElem_cons_zero, List.getElem_cons_succ, List.setIfInBounds_toArray, List.set_cons_zero, List.set_cons_succ])
    refine wpAnyH_take (i := 11) (oi := _) (v := ?_) rfl (by kernel_rfl) (by kernel_rfl) (by kernel_rfl) (fun _ _ _ h => h) (Or.inl ⟨by rfl, ?_⟩) (by with_reducible assumption) ?_
    rotate_left
    focus (intro w' hSw; (try dsimp only at hSw); go_simp; try (with_reducible rfl))
    (try simp only [Act.put, List.getElem_toArray, List.getElem_cons_zero, List.getElem_cons_succ, List.setIfInBounds_toArray, List.set_cons_zero, List.set_cons_succ])
    refine wpAnyH_take (i := 12) (oi := _) (v := ?_) rfl (by kernel_rfl) (by kernel_rfl) (by kernel_rfl) (fun _ _ _ h => h) (Or.inl ⟨by rfl, ?_⟩) (by with_reducible assumption) ?_
    rotate_left
    focus (intro w' hSw; (try dsimp only at hSw); go_simp; try (with_reducible rfl))
    (try simp only [Act.put, List.getElem_toArray, List.getElem_cons_zero, List.getElem_cons_succ, List.setIfInBounds_toArray, List.set_cons_zero, List.set_cons_succ])
    refine wpAnyH_take (i := 13) (oi := _) (v := ?_) rfl (by kernel_rfl) (by kernel_rfl) (by kernel_rfl) (fun _ _ _ h => h) (Or.inl ⟨by rfl, ?_⟩) (by with_reducible assumption) ?_
    rotate_left
    focus (intro w' hSw; (try dsimp only at hSw); go_simp; try (with_reducible rfl))
    (try simp only [Act.put, List.getElem_toArray, List.getElem_cons_zero, List.getElem_cons_succ, List.setIfInBounds_toArray, List.set_cons_zero, List.set_cons_succ])
    refine wpAnyH_take (i := 14) (oi := _) (v := ?_) rfl (by kernel_rfl) (by kernel_rfl) (by kernel_rfl) (fun _ _ _ h => h) (Or.inl ⟨by rfl, ?_⟩) (by with_reducible assumption) ?_
    rotate_left
    focus (intro w' hSw; (try dsimp only at hSw); go_simp; try (with_reducible rfl))
    (try simp only [Act.put, List.getElem_toArray, List.getElem_cons_zero, List.getElem_cons_succ, List.setIfInBounds_toArray, List.set_cons_zero, List.set_cons_succ])
    refine wpAnyH_take (i := 17) (oi := _) (v := ?_) rfl (by kernel_rfl) (by kernel_rfl) (by kernel_rfl) (fun _ _ _ h => h) (Or.inl ⟨by rfl, ?_⟩) (by with_reducible assumption) ?_
    rotate_left
    focus (intro w' hSw; (try dsimp only at hSw); go_simp; try (with_reducible rfl))
    (try simp only [Act.put, List.getElem_toArray, List.getElem_cons_zero, List.getElem_cons_succ, List.setIfInBounds_toArray, List.set_cons_zero, List.set_cons_succ])
    refine wpAnyH_take (i := 18) (oi := _) (v := ?_) rfl (by kernel_rfl) (by kernel_rfl) (by kernel_rfl) (fun _ _ _ h => h) (Or.inl ⟨by rfl, ?_⟩) (by with_reducible assumption) ?_
    rotate_left
    focus (intro w' hSw; (try dsimp only at hSw); go_simp; try (with_reducible rfl))
    (try simp only [Act.put, List.getElem_toArray, List.getElem_cons_zero, List.getElem_cons_succ, List.setIfInBounds_toArray, List.set_cons_zero, List.set_cons_succ])
    refine wpAnyH_take (i := 19) (oi := _) (v := ?_) rfl (by kernel_rfl) (by kernel_rfl) (by kernel_rfl) (fun _ _ _ h => h) (Or.inl ⟨by rfl, ?_⟩) (by with_reducible assumption) ?_
    rotate_left
    focus (intro w' hSw; (try dsimp only at hSw); go_simp; try (with_reducible rfl))
    (try simp only [Act.put, List.getElem_toArray, List.getElem_cons_zero, List.getElem_cons_succ, List.setIfInBounds_toArray, List.set_cons_zero, List.set_cons_succ])
    refine wpAnyH_take (i := 20) (oi := _) (v := ?_) rfl (by kernel_rfl) (by kernel_rfl) (by kernel_rfl) (fun _ _ _ h => h) (Or.inl ⟨by rfl, ?_⟩) (by with_reducible assumption) ?_
    rotate_left
    focus (intro w' hSw; (try dsimp only at hSw); go_simp; try (with_reducible rfl))
    (try simp only [Act.put, List.getElem_toArray, List.getElem_cons_zero, List.getElem_cons_succ, List.setIfInBounds_toArray, List.set_cons_zero, List.set_cons_succ])
    refine wpAnyH_take (i := 21) (oi := _) (v := ?_) rfl (by kernel_rfl) (by kernel_rfl) (by kernel_rfl) (fun _ _ _ h => h) (Or.inl ⟨by rfl, ?_⟩) (by with_reducible assumption) ?_
    rotate_left
    focus (intro w' hSw; (try dsimp only at hSw); go_simp; try (with_reducible rfl))
    (try simp only [Act.put, List.getElem_toArray, List.getElem_cons_zero, List.getElem_cons_succ, List.setIfInBounds_toArray, List.set_cons_zero, List.set_cons_succ])
    refine wpAnyH_take (i := 22) (oi := _) (v := ?_) rfl (by kernel_rfl) (by kernel_rfl) (by kernel_rfl) (fun _ _ _ h => h) (Or.inl ⟨by rfl, ?_⟩) (by with_reducible assumption) ?_
    rotate_left
    focus (intro w' hSw; (try dsimp only at hSw); go_simp; try (with_reducible rfl))
    (try simp only [Act.put, List.getElem_toArray, List.getElem_cons_zero, List.getElem_cons_succ, List.setIfInBounds_toArray, List.set_cons_zero, List.set_cons_succ])
    refine wpAnyH_take (i := 23) (oi := _) (v := ?_) rfl (by kernel_rfl) (by kernel_rfl) (by kernel_rfl) (fun _ _ _ h => h) (Or.inl ⟨by rfl, ?_⟩) (by with_reducible assumption) ?_
    rotate_left
    focus (intro w' hSw; (try dsimp only at hSw); go_simp; try (with_reducible rfl))
    (try simp only [Act.put, List.getElem_toArray, List.getElem_cons_zero, List.getElem_cons_succ, List.setIfInBounds_toArray, List.set_cons_zero, List.set_cons_succ])
    refine wpAnyH_ready (rs := [0]) (by kernel_rfl) (by simp) ?_
    refine AllReadyH.cons rfl (fun K hK => ?_) AllReadyH.nil
    go_simp
    (go_at_call 131; refine (HKH.out _).mono ?_; rintro e wn ⟨rfl, hk0, hb⟩)
    (try simp at hk0)
    refine hK.out _ _ (keep8 hHeld hb) (fun hHeld' => ?_)
    clear hK K hHeld
    have hHeld := hHeld'
    clear hHeld'
    (try simp only [Act.put, List.getElem_toArray, List.getElem_cons_zero, List.getElem_cons_succ, List.setIfInBounds_toArray, List.set_cons_zero, List.set_cons_succ])
    refine wpAnyH_take (i := 4) (oi := _) (v := ?_) rfl (by kernel_rfl) (by kernel_rfl) (by kernel_rfl) (fun _ _ _ h => h) (Or.inl ⟨by rfl, ?_⟩) (by with_reducible assumption) ?_
    rotate_left
    focus (intro w' hSw; (try dsimp only at hSw); go_simp; try (with_reducible rfl))
    (try simp only [Act.put, List.getElem_toArray, List.getElem_cons_zero, List.getElem_cons_succ, List.setIfInBounds_toArray, List.set_cons_zero, List.set_cons_succ])
    refine wpAnyH_ready (rs := [5]) (by kernel_rfl) (by simp) ?_
    refine AllReadyH.cons rfl (fun K hK => ?_) AllReadyH.nil
    go_simp
    refine hK.out _ _ hHeld (fun _ => ?_)
    clear hK K
    (try simp only [Act.put, List.getElem_toArray, List.getElem_cons_zero, List.getElem_cons_succ, List.setIfInBounds_toArray, List.set_cons_zero, List.set_cons_succ])
    refine wpAnyH_take (i := 6) (oi := _) (v := ?_) rfl (by kernel_rfl) (by kernel_rfl) (by kernel_rfl) (fun _ _ _ h => h) (Or.inl ⟨by rfl, ?_⟩) (by with_reducible assumption) ?_
    rotate_left
    focus (intro w' hSw; (try dsimp only at hSw); go_simp; try (with_reducible rfl))
    (try simp only [Act.put, List.getElem_toArray, List.getElem_cons_zero, List.getElem_cons_succ, List.setIfInBounds_toArray, List.set_cons_zero, List.set_cons_succ])
    refine wpAnyH_take (i := 7) (oi := _) (v := ?_) rfl (by kernel_rfl) (by kernel_rfl) (by kernel_rfl) (fun _ _ _ h => h) (Or.inl ⟨by rfl, ?_⟩) (by with_reducible assumption) ?_
    rotate_left
    focus (intro w' hSw; (try dsimp only at hSw); go_simp; try (with_reducible rfl))
    (try simp only [Act.put, List.getElem_toArray, List.getElem_cons_zero, List.getElem_cons_succ, List.setIfInBounds_toArray, List.set_cons_zero, List.set_cons_succ])
    refine wpAnyH_take (i := 15) (oi := _) (v := ?_) rfl (by kernel_rfl) (by kernel_rfl) (by kernel_rfl) (fun _ _ _ h => h) (Or.inl ⟨by rfl, ?_⟩) (by with_reducible assumption) ?_
    rotate_left
    focus (intro w' hSw; (try dsimp only at hSw); go_simp; try (with_reducible rfl))
    (try simp only [Act.put, List.getElem_toArray, List.getElem_cons_zero, List.getElem_cons_succ, List.setIfInBounds_toArray, List.set_cons_zero, List.set_cons_succ])
    refine wpAnyH_take (i := 16) (oi := _) (v := ?_) rfl (by kernel_rfl) (by kernel_rfl) (by kernel_rfl) (fun _ _ _ h => h) (Or.inl ⟨by rfl, ?_⟩) (by with_reducible assumption) ?_
    rotate_left
    focus (intro w' hSw; (try dsimp only at hSw); go_simp; try (with_reducible rfl))
    (try simp only [Act.put, List.getElem_toArray, List.getElem_cons_zero, List.getElem_cons_succ, List.setIfInBounds_toArray, List.set_cons_zero, List.set_cons_succ])
    refine wpAnyH_take (i := 24) (oi := _) (v := ?_) rfl (by kernel_rfl) (by kernel_rfl) (by kernel_rfl) (fun _ _ _ h => h) (Or.inl ⟨by rfl, ?_⟩) (by with_reducible assumption) ?_
    rotate_left
    focus (intro w' hSw; (try dsimp only at hSw); go_simp; try (with_reducible rfl))
    (try simp only [Act.put, List.getElem_toArray, List.getElem_cons_zero, List.getElem_cons_succ, List.setIfInBounds_toArray, List.set_cons_zero, List.set_cons_succ])
    refine wpAnyH_take (i := 25) (oi := _) (v := ?_) rfl (by kernel_rfl) (by kernel_rfl) (by kernel_rfl) (fun _ _ _ h => h) (Or.inl ⟨by rfl, ?_⟩) (by with_reducible assumption) ?_
    rotate_left
    focus (intro w' hSw; (try dsimp only at hSw); go_simp; try (with_reducible rfl))
    (try simp only [Act.put, List.getElem_toArray, List.getElem_cons_zero, List.getElem_cons_succ, List.setIfInBounds_toArray, List.set_cons_zero, List.set_cons_succ])
    refine wpAnyH_done (by kernel_rfl) ?_ _
    have B9 := hHeld.2.2.2.2.2.2.2.2.1
    go_wp2_with fail
    go_loopw [5, 6] (fun s i wr => ∃ (k : Nat) (J : ByteArray), k ≤ nd ∧ i = .int .i64 k ∧ s = .string J ∧ Hid (J.data.toList = Lib.join (ws.take (4 + k)) [32]) ∧ J.size ≤ 11800 ∧ wr.cell? ⟨w.heap.size + 1, 4, none⟩ = some (.slice p4 nd q4) ∧ wr.cell? ⟨w.heap.size + 1, 5, none⟩ = some (.slice p5 ne q5) ∧ Below w.heap.size w wr) (fun _ i _ => nd - (intOf i).toNat)
    case atStart => exact ⟨0, _, by omega, rfl, rfl, Lib.hid J40.out.symm, J40S.out, hHeld.2.2.2.2.1, hHeld.2.2.2.2.2.1, by (repeat (first | (with_reducible exact Below.refl _ _) | (with_reducible assumption) | (with_reducible refine ext_alloc ?_ _) | (with_reducible refine ext_drew ?_) | (with_reducible refine ext_drewN ?_ _) | (with_reducible refine ext_set ?_ (by first | exact Nat.le_refl _ | (simp; done) | (simp; omega) | omega) _) | (with_reducible refine ext_trans ?_ (by assumption))))⟩
    case round =>
      clear J40 J40S hHeld B9
      obtain ⟨k, J, hk, rfl, rfl, HJ, hJ, r4, r5, hbw⟩ := hrel
      by_cases hkn : k < nd
      · obtain ⟨b, off, rfl, hlt, hx⟩ := H4.out.at hbw hkn
        have y0 := hx 0 (by omega); have y1 := hx 1 (by omega); have y2 := hx 2 (by omega)
        simp only [Nat.add_zero] at y0
        have hT := (F4.out k hkn).up hbw
        obtain ⟨a0, b0, e0⟩ := hT.1.slice; obtain ⟨a1, b1, e1⟩ := hT.2.1.slice; obtain ⟨a2, b2, e2⟩ := hT.2.2.slice
        rw [e0] at y0; rw [e1] at y1; rw [e2] at y2
        unfold TabF at hT
        rw [e0, e1, e2] at hT
        clear e0 e1 e2
        have hI : (k : Int) < (nd : Int) := by omega
        have i0 : (0 : Int) ≤ (k : Int) := by omega
        obtain ⟨T, hTT⟩ : ∃ T, T = tabS (tn a.delay k).ss (tn a.delay k).ls (tn a.delay k).vs := ⟨_, rfl⟩
        have hTs : T.size ≤ 1300 := by have := tab_len (tn a.delay k); unfold tabX at this; rw [← hTT, sz_list] at this; exact this
        have HB := Lib.hid (fun (w1 : World) (hb : Below wr.heap.size wr w1) => specTabT_any _ _ _ (tn a.delay k).ss (tn a.delay k).ls (tn a.delay k).vs w1 (hT.1.up hb) (hT.2.1.up hb) (hT.2.2.up hb))
        rw [← hTT] at HB
        have HS := Lib.hid (step_join (J := J) (T := T) (show 0 < 4 + k by omega) (by have := HM.out; omega) HJ.out (by rw [hTT]; exact (W4.out k (by omega)).symm))
        have HZ := Lib.hid (by have h1 := HL.out (4 + k + 1); rw [← HS.out, sz_list] at h1; exact h1 : (J ++ ⟨#[32]⟩ ++ T).size ≤ 11800)
        have su12a : J.size + 1 ≤ 9223372036854775807 := by omega
        have su12b : ¬ 9223372036854775807 < J.size + 1 := by omega
        have su12c : ¬ (9223372036854775807 : Int) < ((J.size : Nat) : Int) + 1 := by omega
        have su13a : J.size + 1 + T.size ≤ 9223372036854775807 := by omega
        have su13b : ¬ 9223372036854775807 < J.size + 1 + T.size := by omega
        have su13c : ¬ (9223372036854775807 : Int) < ((J.size : Nat) : Int) + 1 + ((T.size : Nat) : Int) := by omega
        clear hx hT hTT HJ
        go_wp2_with (go_at_call 133; refine (HB.out _ (by (repeat (first | (with_reducible exact Below.refl _ _) | (with_reducible assumption) | (with_reducible refine ext_alloc ?_ _) | (with_reducible refine ext_drew ?_) | (with_reducible refine ext_drewN ?_ _) | (with_reducible refine ext_set ?_ (by first | exact Nat.le_refl _ | (simp; done) | (simp; omega) | omega) _) | (with_reducible refine ext_trans ?_ (by assumption)))))).mono ?_; rintro e w1 ⟨rfl, hb⟩; obtain ⟨hc, hf⟩ := bcell hb; have hz := hb.size; (try simp at hz); (try (have hz := Nat.lt_of_succ_le hz)); (try (have y0 : w.heap.size ≤ w1.heap.size := by omega)); (try (have z0 : w.heap.size < w1.heap.size := by omega)); (try (have z1 : w.heap.size + 1 < w1.heap.size := by omega)); (try (have z2 : w.heap.size + 1 + 1 < w1.heap.size := by omega)); (try (have z3 : w.heap.size + 1 + 1 + 1 < w1.heap.size := by omega)); (try (have z4 : w.heap.size + 1 + 1 + 1 + 1 < w1.heap.size := by omega)); (try (have x0 : wc.heap.size < w1.heap.size := by omega)); (try (have x1 : wc.heap.size ≤ w1.heap.size := by omega)))
        go_roundw
        case rel => exact ⟨k + 1, _, by omega, by go_num, rfl, Lib.hid (by rw [← Nat.add_assoc]; exact HS.out), HZ.out, cell_keep r4 (by (repeat (first | (with_reducible exact Below.refl _ _) | (with_reducible assumption) | (with_reducible refine ext_alloc ?_ _) | (with_reducible refine ext_drew ?_) | (with_reducible refine ext_drewN ?_ _) | (with_reducible refine ext_set ?_ (by first | exact Nat.le_refl _ | (simp; done) | (simp; omega) | omega) _) | (with_reducible refine ext_trans ?_ (by assumption))))), cell_keep r5 (by (repeat (first | (with_reducible exact Below.refl _ _) | (with_reducible assumption) | (with_reducible refine ext_alloc ?_ _) | (with_reducible refine ext_drew ?_) | (with_reducible refine ext_drewN ?_ _) | (with_reducible refine ext_set ?_ (by first | exact Nat.le_refl _ | (simp; done) | (simp; omega) | omega) _) | (with_reducible refine ext_trans ?_ (by assumption))))), by (repeat (first | (with_reducible exact Below.refl _ _) | (with_reducible assumption) | (with_reducible refine ext_alloc ?_ _) | (with_reducible refine ext_drew ?_) | (with_reducible refine ext_drewN ?_ _) | (with_reducible refine ext_set ?_ (by first | exact Nat.le_refl _ | (simp; done) | (simp; omega) | omega) _) | (with_reducible refine ext_trans ?_ (by assumption))))⟩
        case measure => simp [intOf]; omega
      · obtain rfl : k = nd := by omega
        have hI : ¬ (k : Int) < (k : Int) := by omega
        go_wp2
        go_loopw [5, 7] (fun s i wr => ∃ (q : Nat) (J : ByteArray), q ≤ ne ∧ i = .int .i64 q ∧ s = .string J ∧ Hid (J.data.toList = Lib.join (ws.take (4 + k + q)) [32]) ∧ J.size ≤ 11800 ∧ wr.cell? ⟨w.heap.size + 1, 5, none⟩ = some (.slice p5 ne q5) ∧ Below w.heap.size w wr) (fun _ i _ => ne - (intOf i).toNat)
        case atStart => exact ⟨0, J, by omega, rfl, rfl, HJ, hJ, r5, hbw⟩
        case round =>
          clear hJ r4 r5 HJ hbw hI
          obtain ⟨q, J, hq, rfl, rfl, HJ, hJ, r5, hbw⟩ := hrel
          by_cases hqn : q < ne
          · obtain ⟨b, off, rfl, hlt, hx⟩ := H5.out.at hbw hqn
            have y0 := hx 0 (by omega); have y1 := hx 1 (by omega); have y2 := hx 2 (by omega)
            simp only [Nat.add_zero] at y0
            have hT := (F5.out q hqn).up hbw
            obtain ⟨a0, b0, e0⟩ := hT.1.slice; obtain ⟨a1, b1, e1⟩ := hT.2.1.slice; obtain ⟨a2, b2, e2⟩ := hT.2.2.slice
            rw [e0] at y0; rw [e1] at y1; rw [e2] at y2
            unfold TabF at hT
            rw [e0, e1, e2] at hT
            clear e0 e1 e2
            have hI : (q : Int) < (ne : Int) := by omega
            have i0 : (0 : Int) ≤ (q : Int) := by omega
            obtain ⟨T, hTT⟩ : ∃ T, T = tabS (tn a.slew q).ss (tn a.slew q).ls (tn a.slew q).vs := ⟨_, rfl⟩
            have hTs : T.size ≤ 1300 := by have := tab_len (tn a.slew q); unfold tabX at this; rw [← hTT, sz_list] at this; exact this
            have HB := Lib.hid (fun (w1 : World) (hb : Below wr.heap.size wr w1) => specTabT_any _ _ _ (tn a.slew q).ss (tn a.slew q).ls (tn a.slew q).vs w1 (hT.1.up hb) (hT.2.1.up hb) (hT.2.2.up hb))
            rw [← hTT] at HB
            have HS := Lib.hid (step_join (J := J) (T := T) (show 0 < 4 + k + q by omega) (by have := HM.out; omega) HJ.out (by rw [hTT]; exact (W5.out q (by omega)).symm))
            have HZ := Lib.hid (by have h1 := HL.out (4 + k + q + 1); rw [← HS.out, sz_list] at h1; exact h1 : (J ++ ⟨#[32]⟩ ++ T).size ≤ 11800)
            have su14a : J.size + 1 ≤ 9223372036854775807 := by omega
            have su14b : ¬ 9223372036854775807 < J.size + 1 := by omega
            have su14c : ¬ (9223372036854775807 : Int) < ((J.size : Nat) : Int) + 1 := by omega
            have su15a : J.size + 1 + T.size ≤ 9223372036854775807 := by omega
            have su15b : ¬ 9223372036854775807 < J.size + 1 + T.size := by omega
            have su15c : ¬ (9223372036854775807 : Int) < ((J.size : Nat) : Int) + 1 + ((T.size : Nat) : Int) := by omega
            clear hx hT hTT HJ
            go_wp2_with (go_at_call 133; refine (HB.out _ (by (repeat (first | (with_reducible exact Below.refl _ _) | (with_reducible assumption) | (with_reducible refine ext_alloc ?_ _) | (with_reducible refine ext_drew ?_) | (with_reducible refine ext_drewN ?_ _) | (with_reducible refine ext_set ?_ (by first | exact Nat.le_refl _ | (simp; done) | (simp; omega) | omega) _) | (with_reducible refine ext_trans ?_ (by assumption)))))).mono ?_; rintro e w1 ⟨rfl, hb⟩; obtain ⟨hc, hf⟩ := bcell hb; have hz := hb.size; (try simp at hz); (try (have hz := Nat.lt_of_succ_le hz)); (try (have y0 : w.heap.size ≤ w1.heap.size := by omega)); (try (have z0 : w.heap.size < w1.heap.size := by omega)); (try (have z1 : w.heap.size + 1 < w1.heap.size := by omega)); (try (have z2 : w.heap.size + 1 + 1 < w1.heap.size := by omega)); (try (have z3 : w.heap.size + 1 + 1 + 1 < w1.heap.size := by omega)); (try (have z4 : w.heap.size + 1 + 1 + 1 + 1 < w1.heap.size := by omega)); (try (have x0 : wc.heap.size < w1.heap.size := by omega)); (try (have x1 : wc.heap.size ≤ w1.heap.size := by omega)))
            go_roundw
            case rel => exact ⟨q + 1, _, by omega, by go_num, rfl, Lib.hid (by rw [← Nat.add_assoc]; exact HS.out), HZ.out, cell_keep r5 (by (repeat (first | (with_reducible exact Below.refl _ _) | (with_reducible assumption) | (with_reducible refine ext_alloc ?_ _) | (with_reducible refine ext_drew ?_) | (with_reducible refine ext_drewN ?_ _) | (with_reducible refine ext_set ?_ (by first | exact Nat.le_refl _ | (simp; done) | (simp; omega) | omega) _) | (with_reducible refine ext_trans ?_ (by assumption))))), by (repeat (first | (with_reducible exact Below.refl _ _) | (with_reducible assumption) | (with_reducible refine ext_alloc ?_ _) | (with_reducible refine ext_drew ?_) | (with_reducible refine ext_drewN ?_ _) | (with_reducible refine ext_set ?_ (by first | exact Nat.le_refl _ | (simp; done) | (simp; omega) | omega) _) | (with_reducible refine ext_trans ?_ (by assumption))))⟩
            case measure => simp [intOf]; omega
          · obtain rfl : q = ne := by omega
            have hI : ¬ (q : Int) < (q : Int) := by omega
            go_wp2
            go_ret
            exact says (by rw [HJ.out, show 4 + k + q = ws.length from HM.out.symm, List.take_length]; exact HW.out) (by (repeat (first | (with_reducible exact Below.refl _ _) | (with_reducible assumption) | (with_reducible refine ext_alloc ?_ _) | (with_reducible refine ext_drew ?_) | (with_reducible refine ext_drewN ?_ _) | (with_reducible refine ext_set ?_ (by first | exact Nat.le_refl _ | (simp; done) | (simp; omega) | omega) _) | (with_reducible refine ext_trans ?_ (by assumption)))))
end Go.Proofs.YtmoolajapgacmaaGreatDoor
