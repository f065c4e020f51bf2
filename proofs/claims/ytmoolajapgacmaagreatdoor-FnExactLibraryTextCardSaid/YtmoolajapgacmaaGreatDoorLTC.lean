/-
The program's line of an arc, for every valid one.
-/
import Derived.Test.YtmoolajapgacmaaGreatDoorLTA
import Derived.Test.YtmoolajapgacmaaGreatDoorLTI
namespace Go.Proofs.YtmoolajapgacmaaGreatDoor
open Go.ChangeShapes Go.WideShapes Go.ChangeAt Go.RowKit
set_option linter.unusedVariables false
set_option linter.unusedSimpArgs false
set_option maxRecDepth 100000
theorem grown_cell {b c : World} {base : Nat} {v : Value} {g o : Nat} {u : Value} (hg : b.grownBy c v.ownBlock) (hv : ∀ k, v.ownBlock = some k → base ≤ k) (h : b.cell? ⟨g, o, none⟩ = some u) (hb : g < base) (hs : base ≤ b.heap.size) : c.cell? ⟨g, o, none⟩ = some u := by
  have := (Below.refl base b).grown hg hs (fun k hk => hv k hk)
  rw [this.cell (by exact hb)]
  exact h
theorem grown_size {b c : World} {base : Nat} {v : Value} (hg : b.grownBy c v.ownBlock) (hv : ∀ k, v.ownBlock = some k → base ≤ k) (hs : base ≤ b.heap.size) : b.heap.size ≤ c.heap.size :=
  ((Below.refl base b).grown hg hs (fun k hk => hv k hk)).size
theorem GS.parts {w : World} {base : Nat} {v : Value} {us : List ByteArray} (h : GS w base v us) (hp : 0 < us.length) : ∃ g cap, v = .slice (some ⟨g, 0, none⟩) us.length cap ∧ us.length ≤ cap ∧ g < w.heap.size ∧ ∀ i (hi : i < us.length), w.cell? ⟨g, i, none⟩ = some (.string us[i]) := by
  have h2 := h.2
  rcases h2 with ⟨rfl, h0⟩ | ⟨g, cap, cur, rfl, hb, hgg, hcap, _, _, _⟩
  · omega
  · refine ⟨g, cap, rfl, hcap, (Array.getElem?_eq_some_iff.1 hgg).1, fun i hi => ?_⟩
    have hc := World.ownsRow.cellAt h i (by omega)
    rw [hc]
    simp [hi]
theorem us_step {us : List ByteArray} {ws : List (List UInt8)} {k : Nat} {T : ByteArray} (h : us.map (·.data.toList) = ws.take k) (hk : k < ws.length) (hT : T.data.toList = ws.getD k []) : (us ++ [T]).map (·.data.toList) = ws.take (k + 1) := by
  rw [List.map_append, h, List.take_succ_eq_append_getElem hk]
  simp [hT, List.getD, hk]
theorem GS.mk (w : World) (base g n : Nat) (us : List ByteArray) (vs : Array Value) (t : TypeId) (ht : t = 9) (hv : vs.toList = us.map .string) (hb : base ≤ w.heap.size) (hg : g = w.heap.size) (hn : n = us.length) (hm : n ≤ 1000) : GS (w.alloc (.cells vs t)) base (.slice (some ⟨g, 0, none⟩) n n) us := by
  subst ht; subst hg; subst hn
  have := World.ownsRow_lit (e := 9) (base := base) (size := 1) w vs us.length hb (by unfold maxLen; omega) (by rw [← Array.length_toList, hv]; simp)
  rw [hv] at this
  exact this
set_option maxHeartbeats 4000000 in
theorem implArcT_any (g : Nat → Value) (a : ArcD) (v : Value) (ps : List PinD) (w : World) (h' : ArcF w w.heap.size g a) (h : PinsS w w.heap.size v ps) (hv : ArcV ps a) (hp : ∀ i, i < ps.length → PinV (pn ps i)) (htb : Tab w) :
    Calls Tryz.prog 64 #[.agg #[g 0, g 1, g 2, g 3, g 4, g 5], v] w (Says (arcL ps a) w) := by
  obtain ⟨i0, hi, hz0, hz1, hz2⟩ := info_parts Tryz.infoS8
  have HTb := Lib.hid htb
  obtain ⟨F, hc, hf⟩ := h
  obtain ⟨n, hnn⟩ : ∃ n, n = ps.length := ⟨_, rfl⟩
  rw [← hnn] at hc hf
  have HC := hc
  obtain ⟨hn, ap, cap, rfl, _⟩ := hc
  obtain ⟨ws, hws⟩ : ∃ ws, ws = arcWs ps a := ⟨_, rfl⟩
  have hlen := arcWs_len ps a
  have hL := arcL_len hp hv
  obtain ⟨v1, v5, v0s, vls, v0d, vld, vsn, vdl, vsl⟩ := hv
  obtain ⟨g0, g1, g2, g3, z4, z5⟩ := h'
  obtain ⟨F4, c4, f4⟩ := z4; obtain ⟨F5, c5, f5⟩ := z5
  obtain ⟨nd, hnd⟩ : ∃ nd, nd = a.delay.length := ⟨_, rfl⟩
  obtain ⟨ne, hne⟩ : ∃ ne, ne = a.slew.length := ⟨_, rfl⟩
  rw [← hnd] at c4 f4 hlen; rw [← hne] at c5 f5 hlen
  have H4 := c4; have H5 := c5
  obtain ⟨_, p4, q4, g4, _⟩ := c4; obtain ⟨_, p5, q5, g5, _⟩ := c5
  rw [g4] at H4; rw [g5] at H5
  obtain ⟨s, hs⟩ := Int.eq_ofNat_of_zero_le v0s
  obtain ⟨d, hd⟩ := Int.eq_ofNat_of_zero_le v0d
  obtain ⟨κ, hκ⟩ : ∃ κ : Nat, a.kind = (κ : Int) := ⟨a.kind.toNat, by omega⟩
  rw [hκ] at g0; rw [hs] at g1; rw [hd] at g2
  rw [g0, g1, g2, g3, g4, g5]
  have hns := (hp s (by omega)).1; have hnd8 := (hp d (by omega)).1
  have es : pnm ps a.src = (pn ps s).name.data.toList := by simp [pnm, hs]
  have ed : pnm ps a.dst = (pn ps d).name.data.toList := by simp [pnm, hd]
  have HK := fun w1 => implArcW_at κ (by omega) (by omega) w1
  obtain ⟨AW, hAW⟩ : ∃ AW, AW = bstr (arcW (κ : Int)) := ⟨_, rfl⟩
  simp only [← hAW] at HK
  have U4 := Lib.hid (show ([⟨#[97, 114, 99]⟩, AW, (pn ps s).name, (pn ps d).name] : List ByteArray).map (·.data.toList) = ws.take 4 by
    rw [hws, hAW]; simp [arcWs, es, ed, hκ, bstr])
  obtain ⟨b, off, rfl, hlt, hxs⟩ := HC.at (Below.refl _ _) (show s < n by omega)
  obtain ⟨b', off', e', _, hxd⟩ := HC.at (Below.refl _ _) (show d < n by omega)
  obtain ⟨rfl, rfl⟩ : b = b' ∧ off = off' := by simpa using e'
  have ys := hxs 0 (by omega)
  rw [(hf s (by omega)).1] at ys
  have yd := hxd 0 (by omega)
  rw [(hf d (by omega)).1] at yd
  simp only [Nat.add_zero] at ys yd
  have sI : (s : Int) < (n : Int) := by omega
  have dI : (d : Int) < (n : Int) := by omega
  have s0 : (0 : Int) ≤ (s : Int) := by omega
  have d0 : (0 : Int) ≤ (d : Int) := by omega
  have κ0 : (0 : Int) ≤ (κ : Int) := by omega
  have κ5 : (κ : Int) < 6 := by omega
  have HKH := Lib.hid HK
  have H4 := Lib.hid H4; have H5 := Lib.hid H5; have F4 := Lib.hid f4; have F5 := Lib.hid f5
  rw [← hws] at hlen
  have HL := Lib.hid hL
  have HW := Lib.hid (show Lib.join ws [32] = arcL ps a by rw [hws]; rfl)
  have nd2 : nd ≤ 2 := by omega
  have ne2 : ne ≤ 2 := by omega
  by_cases hk1 : a.kind = 1
  · have kt : ((κ : Int) == 1) = true := by simp; omega
    have W4 := Lib.hid (fun q (hq : q < nd) => by rw [hws]; exact word_tab ps a (m := 5) (k := q) (by rw [if_pos hk1]) (by omega) : ∀ q, q < nd → ws.getD (5 + q) [] = tabX (tn a.delay q))
    have W5 := Lib.hid (fun q (hq : q < ne) => by rw [hws]; exact word_slew ps a (m := 5 + nd) (k := q) (by rw [if_pos hk1]; omega) (by omega) : ∀ q, q < ne → ws.getD (5 + nd + q) [] = tabX (tn a.slew q))
    have HM := Lib.hid (show ws.length = 5 + nd + ne by rw [hlen, if_pos hk1])
    obtain ⟨σ, hsn⟩ : ∃ σ : Nat, a.sense = (σ : Int) := ⟨a.sense.toNat, by have := vsn hk1; omega⟩
    have hs0 : 0 < σ := by have := vsn hk1; omega
    have hs4 : σ < 4 := by have := vsn hk1; omega
    have w4 := word_4 ps a hk1
    rw [← hws, hsn] at w4
    have HN := fun w1 => implSnsW_at σ hs0 hs4 w1
    obtain ⟨SW, hSW⟩ : ∃ SW, SW = bstr (snsW (σ : Int)) := ⟨_, rfl⟩
    simp only [← hSW] at HN
    have U5 := Lib.hid (us_step (T := SW) U4.out (by have := HM.out; omega) (by rw [w4, hSW, bstr_list]))
    have HNH := Lib.hid HN
    have σ0 : (0 : Int) ≤ (σ : Int) := by omega
    have σ4 : (σ : Int) < 4 := by omega
    rw [hsn]
    clear hf hnn hws hL hs hd hκ es ed hAW hk1 HK w4 hSW HN vsn vdl vsl hlen hxs hxd e' v1 v5 v0s vls v0d vld hsn hnd hne f4 f5 HC htb g0 g1 g2 g3 g4 g5
    go_enter Tryz.func64, Tryz.ntmps64
    go_upto_region 1 with fail
    refine wp_region_held_drew (S := (fun w' => w'.cell? ⟨w.heap.size, 0, none⟩ = some (.int .i64 (κ : Int)) ∧ w'.cell? ⟨w.heap.size, 1, none⟩ = some (.int .i64 (s : Int)) ∧ w'.cell? ⟨w.heap.size, 2, none⟩ = some (.int .i64 (d : Int)) ∧ w'.cell? ⟨w.heap.size, 3, none⟩ = some (.int .i64 (σ : Int)) ∧ w'.cell? ⟨w.heap.size, 4, none⟩ = some (.slice p4 nd q4) ∧ w'.cell? ⟨w.heap.size, 5, none⟩ = some (.slice p5 ne q5) ∧ w'.cell? ⟨b, off + s * 4, none⟩ = some (.string (pn ps s).name) ∧ w'.cell? ⟨b, off + d * 4, none⟩ = some (.string (pn ps d).name) ∧ Below w.heap.size w w' ∧ w.heap.size < w'.heap.size)) (by kernel_rfl) ?_ (fun hHeld => ?_)
    · (try dsimp only); ((repeat' apply And.intro) <;> first | assumption | ((repeat (first | (with_reducible exact Below.refl _ _) | (with_reducible assumption) | (with_reducible refine ext_alloc ?_ _) | (with_reducible refine ext_drew ?_) | (with_reducible refine ext_drewN ?_ _) | (with_reducible refine ext_set ?_ (by first | exact Nat.le_refl _ | (simp; done) | (simp; omega) | omega) _) | (with_reducible refine ext_trans ?_ (by assumption)))); done) | (simp [go_sem]; done) | (simp [go_sem, *]; done) | (simp; omega) | omega)
    (try dsimp only at hHeld)
    refine wpAnyH_take (i := 1) (oi := _) (v := ?_) rfl (by kernel_rfl) (by kernel_rfl) (by kernel_rfl) (fun _ _ _ h => h) (Or.inl ⟨by rfl, ?_⟩) (by with_reducible assumption) ?_
    rotate_left
    focus (intro w' hSw; (try dsimp only at hSw); go_simp; try (with_reducible rfl))
    (try simp only [Act.put, List.getElem_toArray, List.getElem_cons_zero, List.getElem_cons_succ, List.setIfInBounds_toArray, List.set_cons_zero, List.set_cons_succ])
    refine wpAnyH_take (i := 2) (oi := _) (v := ?_) rfl (by kernel_rfl) (by kernel_rfl) (by kernel_rfl) (fun _ _ _ h => h) (Or.inl ⟨by rfl, ?_⟩) (by with_reducible assumption) ?_
    rotate_left
    focus (intro w' hSw; (try dsimp only at hSw); go_simp; try (with_reducible rfl))
    (try simp only [Act.put, List.getElem_toArray, List.getElem_cons_zero, List.getElem_cons_succ, List.setIfInBounds_toArray, List.set_cons_zero, List.set_cons_succ])
    refine wpAnyH_take (i := 5) (oi := _) (v := ?_) rfl (by kernel_rfl) (by kernel_rfl) (by kernel_rfl) (fun _ _ _ h => h) (Or.inl ⟨by rfl, ?_⟩) (by with_reducible assumption) ?_
    rotate_left
    focus (intro w' hSw; (try dsimp only at hSw); go_simp; try (with_reducible rfl))
    (try simp only [Act.put, List.getElem_toArray, List.getElem_cons_zero, List.getElem_cons_succ, List.setIfInBounds_toArray, List.set_cons_zero, List.set_cons_succ])
    refine wpAnyH_take (i := 6) (oi := _) (v := ?_) rfl (by kernel_rfl) (by kernel_rfl) (by kernel_rfl) (fun _ _ _ h => h) (Or.inl ⟨by rfl, ?_⟩) (by with_reducible assumption) ?_
    rotate_left
    focus (intro w' hSw; (try dsimp only at hSw); go_simp; try (with_reducible rfl))
    (try simp only [Act.put, List.getElem_toArray, List.getElem_cons_zero, List.getElem_cons_succ, List.setIfInBounds_toArray, List.set_cons_zero, List.set_cons_succ])
    refine wpAnyH_take (i := 7) (oi := _) (v := ?_) rfl (by kernel_rfl) (by kernel_rfl) (by kernel_rfl) (fun _ _ _ h => h) (Or.inl ⟨by rfl, ?_⟩) (by with_reducible assumption) ?_
    rotate_left
    focus (intro w' hSw; (try dsimp only at hSw); go_simp; try (with_reducible rfl))
    (try simp only [Act.put, List.getElem_toArray, List.getElem_cons_zero, List.getElem_cons_succ, List.setIfInBounds_toArray, List.set_cons_zero, List.set_cons_succ])
    refine wpAnyH_take (i := 8) (oi := _) (v := ?_) rfl (by kernel_rfl) (by kernel_rfl) (by kernel_rfl) (fun _ _ _ h => h) (Or.inl ⟨by rfl, ?_⟩) (by with_reducible assumption) ?_
    rotate_left
    focus (intro w' hSw; (try dsimp only at hSw); go_simp; try (with_reducible rfl))
    (try simp only [Act.put, List.getElem_toArray, List.getElem_cons_zero, List.getElem_cons_succ, List.setIfInBounds_toArray, List.set_cons_zero, List.set_cons_succ])
    refine wpAnyH_take (i := 9) (oi := _) (v := ?_) rfl (by kernel_rfl) (by kernel_rfl) (by kernel_rfl) (fun _ _ _ h => h) (Or.inl ⟨by rfl, ?_⟩) (by with_reducible assumption) ?_
    rotate_left
    focus (intro w' hSw; (try dsimp only at hSw); go_simp; try (with_reducible rfl))
    (try simp only [Act.put, List.getElem_toArray, List.getElem_cons_zero, List.getElem_cons_succ, List.setIfInBounds_toArray, List.set_cons_zero, List.set_cons_succ])
    refine wpAnyH_take (i := 10) (oi := _) (v := ?_) rfl (by kernel_rfl) (by kernel_rfl) (by kernel_rfl) (fun _ _ _ h => h) (Or.inl ⟨by rfl, ?_⟩) (by with_reducible assumption) ?_
    rotate_left
    focus (intro w' hSw; (try dsimp only at hSw); go_simp; try (with_reducible rfl))
    (try simp only [Act.put, List.getElem_toArray, List.getElem_cons_zero, List.getElem_cons_succ, List.setIfInBounds_toArray, List.set_cons_zero, List.set_cons_succ])
    refine wpAnyH_take (i := 11) (oi := _) (v := ?_) rfl (by kernel_rfl) (by kernel_rfl) (by kernel_rfl) (fun _ _ _ h => h) (Or.inl ⟨by rfl, ?_⟩) (by with_reducible assumption) ?_
    rotate_left
    focus (intro w' hSw; (try dsimp only at hSw); go_simp; try (with_reducible rfl))
    (try simp only [Act.put, List.getElem_toArray, List.getElem_cons_zero, List.getElem_cons_succ, List.setIfInBounds_toArray, List.set_cons_zero, List.set_cons_succ])
    refine wpAnyH_take (i := 12) (oi := _) (v := ?_) rfl (by kernel_rfl) (by kernel_rfl) (by kernel_rfl) (fun _ _ _ h => h) (Or.inl ⟨by rfl, ?_⟩) (by with_reducible assumption) ?_
    rotate_left
    focus (intro w' hSw; (try dsimp only at hSw); go_simp; try (with_reducible rfl))
    (try simp only [Act.put, List.getElem_toArray, List.getElem_cons_zero, List.getElem_cons_succ, List.setIfInBounds_toArray, List.set_cons_zero, List.set_cons_succ])
    refine wpAnyH_take (i := 13) (oi := _) (v := ?_) rfl (by kernel_rfl) (by kernel_rfl) (by kernel_rfl) (fun _ _ _ h => h) (Or.inl ⟨by rfl, ?_⟩) (by with_reducible assumption) ?_
    rotate_left
    focus (intro w' hSw; (try dsimp only at hSw); go_simp; try (with_reducible rfl))
    (try simp only [Act.put, List.getElem_toArray, List.getElem_cons_zero, List.getElem_cons_succ, List.setIfInBounds_toArray, List.set_cons_zero, List.set_cons_succ])
    refine wpAnyH_take (i := 14) (oi := _) (v := ?_) rfl (by kernel_rfl) (by kernel_rfl) (by kernel_rfl) (fun _ _ _ h => h) (Or.inl ⟨by rfl, ?_⟩) (by with_reducible assumption) ?_
    rotate_left
    focus (intro w' hSw; (try dsimp only at hSw); go_simp; try (with_reducible rfl))
    (try simp only [Act.put, List.getElem_toArray, List.getElem_cons_zero, List.getElem_cons_succ, List.setIfInBounds_toArray, List.set_cons_zero, List.set_cons_succ])
    refine wpAnyH_take (i := 15) (oi := _) (v := ?_) rfl (by kernel_rfl) (by kernel_rfl) (by kernel_rfl) (fun _ _ _ h => h) (Or.inl ⟨by rfl, ?_⟩) (by with_reducible assumption) ?_
    rotate_left
    focus (intro w' hSw; (try dsimp only at hSw); go_simp; try (with_reducible rfl))
    (try simp only [Act.put, List.getElem_toArray, List.getElem_cons_zero, List.getElem_cons_succ, List.setIfInBounds_toArray, List.set_cons_zero, List.set_cons_succ])
    refine wpAnyH_take (i := 16) (oi := _) (v := ?_) rfl (by kernel_rfl) (by kernel_rfl) (by kernel_rfl) (fun _ _ _ h => h) (Or.inl ⟨by rfl, ?_⟩) (by with_reducible assumption) ?_
    rotate_left
    focus (intro w' hSw; (try dsimp only at hSw); go_simp; try (with_reducible rfl))
    (try simp only [Act.put, List.getElem_toArray, List.getElem_cons_zero, List.getElem_cons_succ, List.setIfInBounds_toArray, List.set_cons_zero, List.set_cons_succ])
    refine wpAnyH_ready (rs := [0]) (by kernel_rfl) (by simp) ?_
    refine AllReadyH.cons rfl (fun K hK => ?_) AllReadyH.nil
    go_simp
    (go_at_call 112; refine (HKH.out _).mono ?_; rintro e wn ⟨rfl, hk0, hb⟩)
    (try simp at hk0)
    refine hK.out _ _ (keep8 hHeld hb) (fun hHeld' => ?_)
    clear hK K hHeld
    have hHeld := hHeld'
    clear hHeld'
    (try simp only [Act.put, List.getElem_toArray, List.getElem_cons_zero, List.getElem_cons_succ, List.setIfInBounds_toArray, List.set_cons_zero, List.set_cons_succ])
    refine wpAnyH_take (i := 3) (oi := _) (v := ?_) rfl (by kernel_rfl) (by kernel_rfl) (by kernel_rfl) (fun _ _ _ h => h) (Or.inl ⟨by rfl, ?_⟩) (by with_reducible assumption) ?_
    rotate_left
    focus (intro w' hSw; (try dsimp only at hSw); go_simp; try (with_reducible rfl))
    (try simp only [Act.put, List.getElem_toArray, List.getElem_cons_zero, List.getElem_cons_succ, List.setIfInBounds_toArray, List.set_cons_zero, List.set_cons_succ])
    refine wpAnyH_ready (rs := [4]) (by kernel_rfl) (by simp) ?_
    refine AllReadyH.cons rfl (fun K hK => ?_) AllReadyH.nil
    go_simp
    refine hK.out _ _ hHeld (fun _ => ?_)
    clear hK K
    (try simp only [Act.put, List.getElem_toArray, List.getElem_cons_zero, List.getElem_cons_succ, List.setIfInBounds_toArray, List.set_cons_zero, List.set_cons_succ])
    refine wpAnyH_ready (rs := [17]) (by kernel_rfl) (by simp) ?_
    refine AllReadyH.cons rfl (fun K hK => ?_) AllReadyH.nil
    go_simp
    refine hK.out _ _ (keep8 hHeld ((Below.refl _ _).alloc (Nat.le_refl _) _)) (fun hHeld' => ?_)
    clear hK K hHeld
    have hHeld := hHeld'
    clear hHeld'
    (try simp only [Act.put, List.getElem_toArray, List.getElem_cons_zero, List.getElem_cons_succ, List.setIfInBounds_toArray, List.set_cons_zero, List.set_cons_succ])
    refine wpAnyH_take (i := 18) (oi := _) (v := ?_) rfl (by kernel_rfl) (by kernel_rfl) (by kernel_rfl) (fun _ _ _ h => h) (Or.inl ⟨by rfl, ?_⟩) (by with_reducible assumption) ?_
    rotate_left
    focus (intro w' hSw; (try dsimp only at hSw); go_simp; try (with_reducible rfl))
    (try simp only [Act.put, List.getElem_toArray, List.getElem_cons_zero, List.getElem_cons_succ, List.setIfInBounds_toArray, List.set_cons_zero, List.set_cons_succ])
    refine wpAnyH_done (by kernel_rfl) ?_ _
    have B9 := hHeld.2.2.2.2.2.2.2.2.1
    have O0 := Lib.hid (GS.mk wn (w.heap.size + 1) _ 4 [⟨#[97, 114, 99]⟩, AW, (pn ps s).name, (pn ps d).name] #[.string ⟨#[97, 114, 99]⟩, .string AW, .string (pn ps s).name, .string (pn ps d).name] 9 rfl rfl (by have := hb.size; simp at this; omega) rfl rfl (by omega))
    obtain ⟨uA, huA⟩ : ∃ uA : List ByteArray, uA = [⟨#[97, 114, 99]⟩, AW, (pn ps s).name, (pn ps d).name] := ⟨_, rfl⟩
    rw [← huA] at O0 U5
    have hu4 : uA.length = 4 := by rw [huA]; rfl
    obtain ⟨gA, hgA⟩ : ∃ gA, gA = wn.heap.size := ⟨_, rfl⟩
    rw [← hgA] at O0
    go_upto_region 3 with fail
    rw [← hgA]
    generalize wn.alloc (Obj.cells #[.string ⟨#[97, 114, 99]⟩, .string AW, .string (pn ps s).name, .string (pn ps d).name] 9) = wA at hHeld B9 O0 ⊢
    have hblk := O0.out.blk
    have L0 := hHeld.2.2.2.2.2.2.2.2.2
    have X3 := hHeld.2.2.2.1
    have X4 := hHeld.2.2.2.2.1
    have X5 := hHeld.2.2.2.2.2.1
    clear hHeld hk0 hb hgA huA U4 HKH
    refine wp_region_held_drew (S := (fun w' => w'.cell? ⟨w.heap.size, 3, none⟩ = some (.int .i64 (σ : Int)) ∧ w'.cell? ⟨w.heap.size, 4, none⟩ = some (.slice p4 nd q4) ∧ w'.cell? ⟨w.heap.size, 5, none⟩ = some (.slice p5 ne q5) ∧ Below w.heap.size w w' ∧ w.heap.size < w'.heap.size)) (by kernel_rfl) ?_ (fun hHeld => ?_)
    · (try dsimp only); ((repeat' apply And.intro) <;> first | assumption | ((repeat (first | (with_reducible exact Below.refl _ _) | (with_reducible assumption) | (with_reducible refine ext_alloc ?_ _) | (with_reducible refine ext_drew ?_) | (with_reducible refine ext_drewN ?_ _) | (with_reducible refine ext_set ?_ (by first | exact Nat.le_refl _ | (simp; done) | (simp; omega) | omega) _) | (with_reducible refine ext_trans ?_ (by assumption)))); done) | (simp [go_sem]; done) | (simp [go_sem, *]; done) | (simp; omega) | omega)
    (try dsimp only at hHeld)
    refine wpAnyH_take (i := 0) (oi := _) (v := ?_) rfl (by kernel_rfl) (by kernel_rfl) (by kernel_rfl) (fun _ _ _ h => h) (Or.inl ⟨by rfl, ?_⟩) (by with_reducible assumption) ?_
    rotate_left
    focus (intro w' hSw; (try dsimp only at hSw); go_simp; try (with_reducible rfl))
    (try simp only [Act.put, List.getElem_toArray, List.getElem_cons_zero, List.getElem_cons_succ, List.setIfInBounds_toArray, List.set_cons_zero, List.set_cons_succ])
    refine wpAnyH_take (i := 2) (oi := _) (v := ?_) rfl (by kernel_rfl) (by kernel_rfl) (by kernel_rfl) (fun _ _ _ h => h) (Or.inl ⟨by rfl, ?_⟩) (by with_reducible assumption) ?_
    rotate_left
    focus (intro w' hSw; (try dsimp only at hSw); go_simp; try (with_reducible rfl))
    (try simp only [Act.put, List.getElem_toArray, List.getElem_cons_zero, List.getElem_cons_succ, List.setIfInBounds_toArray, List.set_cons_zero, List.set_cons_succ])
    refine wpAnyH_take (i := 3) (oi := _) (v := ?_) rfl (by kernel_rfl) (by kernel_rfl) (by kernel_rfl) (fun _ _ _ h => h) (Or.inl ⟨by rfl, ?_⟩) (by with_reducible assumption) ?_
    rotate_left
    focus (intro w' hSw; (try dsimp only at hSw); go_simp; try (with_reducible rfl))
    (try simp only [Act.put, List.getElem_toArray, List.getElem_cons_zero, List.getElem_cons_succ, List.setIfInBounds_toArray, List.set_cons_zero, List.set_cons_succ])
    refine wpAnyH_ready (rs := [1]) (by kernel_rfl) (by simp) ?_
    refine AllReadyH.cons rfl (fun K hK => ?_) AllReadyH.nil
    go_simp
    (go_at_call 113; refine (HNH.out _).mono ?_; rintro e wn ⟨rfl, hk1, hb⟩)
    (try simp at hk1)
    refine hK.out _ _ (keep3 hHeld hb) (fun hHeld' => ?_)
    clear hK K hHeld
    have hHeld := hHeld'
    clear hHeld'
    (try simp only [Act.put, List.getElem_toArray, List.getElem_cons_zero, List.getElem_cons_succ, List.setIfInBounds_toArray, List.set_cons_zero, List.set_cons_succ])
    refine wpAnyH_take (i := 4) (oi := _) (v := ?_) rfl (by kernel_rfl) (by kernel_rfl) (by kernel_rfl) (fun _ _ _ h => h) (Or.inl ⟨by rfl, ?_⟩) (by with_reducible assumption) ?_
    rotate_left
    focus (intro w' hSw; (try dsimp only at hSw); go_simp; try (with_reducible rfl))
    (try simp only [Act.put, List.getElem_toArray, List.getElem_cons_zero, List.getElem_cons_succ, List.setIfInBounds_toArray, List.set_cons_zero, List.set_cons_succ])
    refine wpAnyH_ready (rs := [5]) (by kernel_rfl) (by simp) ?_
    refine AllReadyH.cons rfl (fun K hK => ?_) AllReadyH.nil
    go_simp
    refine hK.out _ _ hHeld (fun _ => ?_)
    clear hK K
    (try simp only [Act.put, List.getElem_toArray, List.getElem_cons_zero, List.getElem_cons_succ, List.setIfInBounds_toArray, List.set_cons_zero, List.set_cons_succ])
    refine wpAnyH_ready (rs := [6]) (by kernel_rfl) (by simp) ?_
    refine AllReadyH.cons rfl (fun K hK => ?_) AllReadyH.nil
    go_simp
    refine hK.out _ _ (keep3 hHeld ((Below.refl _ _).alloc (Nat.le_refl _) _)) (fun hHeld' => ?_)
    clear hK K hHeld
    have hHeld := hHeld'
    clear hHeld'
    (try simp only [Act.put, List.getElem_toArray, List.getElem_cons_zero, List.getElem_cons_succ, List.setIfInBounds_toArray, List.set_cons_zero, List.set_cons_succ])
    refine wpAnyH_ready (rs := [7]) (by kernel_rfl) (by simp) ?_
    refine AllReadyH.cons rfl (fun K hK => ?_) AllReadyH.nil
    have hB7 := hHeld.2.2.2.1
    have hL7 := hHeld.2.2.2.2
    rw [if_pos (by rfl)]
    refine wp_append_own _ _ _ 74 rfl (w.heap.size + 1) 9 i0 (.string ⟨#[]⟩) 1 16 Tryz.underlying74 hi hz0 hz1 hz2 rfl (by decide) _ _ _ rfl (GS.below O0.out (by (repeat (first | (with_reducible exact Below.refl _ _) | (with_reducible assumption) | (with_reducible refine ext_alloc ?_ _) | (with_reducible refine ext_drew ?_) | (with_reducible refine ext_drewN ?_ _) | (with_reducible refine ext_set ?_ (by first | exact Nat.le_refl _ | (simp; done) | (simp; omega) | omega) _) | (with_reducible refine ext_trans ?_ (by assumption)))))) ⟨_, 0, none⟩ 1 1 [.string SW] rfl rfl (one_cellS _ _ _ _ (by simp)) (fun u hu => by simp at hu; subst hu; rfl) (by unfold maxLen; omega) (by omega) (by omega) ?_
    intro v' wa hown' hgrow hnil
    have O1 := Lib.hid (show GS wa (w.heap.size + 1) v' (uA ++ [SW]) by simpa [GS] using hown')
    refine hK.out _ _ ⟨grown_cell hgrow hblk hHeld.1 (Nat.lt_succ_self _) hL7, grown_cell hgrow hblk hHeld.2.1 (Nat.lt_succ_self _) hL7, grown_cell hgrow hblk hHeld.2.2.1 (Nat.lt_succ_self _) hL7, grown_inS hB7 (Nat.le_of_lt hL7) hgrow (fun k hk => Nat.le_of_succ_le (hblk k hk)), Nat.lt_of_lt_of_le hL7 (grown_size hgrow hblk hL7)⟩ (fun hHeld' => ?_)
    clear hK K hHeld hown' hgrow hnil hB7 hL7
    have hHeld := hHeld'
    clear hHeld'
    (try simp only [Act.put, List.getElem_toArray, List.getElem_cons_zero, List.getElem_cons_succ, List.setIfInBounds_toArray, List.set_cons_zero, List.set_cons_succ])
    refine wpAnyH_take (i := 8) (oi := _) (v := ?_) rfl (by kernel_rfl) (by kernel_rfl) (by kernel_rfl) (fun _ _ _ h => h) (Or.inl ⟨by rfl, ?_⟩) (by with_reducible assumption) ?_
    rotate_left
    focus (intro w' hSw; (try dsimp only at hSw); go_simp; try (with_reducible rfl))
    (try simp only [Act.put, List.getElem_toArray, List.getElem_cons_zero, List.getElem_cons_succ, List.setIfInBounds_toArray, List.set_cons_zero, List.set_cons_succ])
    refine wpAnyH_done (by kernel_rfl) ?_ _
    have B8 := hHeld.2.2.2.1
    go_wp2_with fail
    go_loopw [5, 42] (fun v i wr => ∃ (k : Nat) (us : List ByteArray), k ≤ nd ∧ i = .int .i64 k ∧ Hid (GS wr (w.heap.size + 1) v us) ∧ Hid (us.map (·.data.toList) = ws.take (5 + k)) ∧ us.length = 5 + k ∧ wr.cell? ⟨w.heap.size, 5, none⟩ = some (.slice p5 ne q5) ∧ Below w.heap.size w wr ∧ w.heap.size < wr.heap.size) (fun _ i _ => nd - (intOf i).toNat)
    case atStart => exact ⟨0, uA ++ [SW], by omega, rfl, O1, U5, by simp [hu4], hHeld.2.2.1, by (repeat (first | (with_reducible exact Below.refl _ _) | (with_reducible assumption) | (with_reducible refine ext_alloc ?_ _) | (with_reducible refine ext_drew ?_) | (with_reducible refine ext_drewN ?_ _) | (with_reducible refine ext_set ?_ (by first | exact Nat.le_refl _ | (simp; done) | (simp; omega) | omega) _) | (with_reducible refine ext_trans ?_ (by assumption)))), hHeld.2.2.2.2⟩
    case round =>
      clear U5 HNH ys yd sI dI s0 d0 κ0 κ5 kt hlt O0 O1 hHeld B8 B9 X3 X4 X5 L0 hblk hu4
      obtain ⟨k, us, hk, rfl, O, HU, hul, r5, hbw, L0⟩ := hrel
      have hblk := O.out.blk
      by_cases hkn : k < nd
      · obtain ⟨b, off, rfl, hlt, hx⟩ := H4.out.at hbw hkn
        have y0 := hx 0 (by omega); have y1 := hx 1 (by omega); have y2 := hx 2 (by omega)
        simp only [Nat.add_zero] at y0
        have hT := (F4.out k hkn).up hbw
        obtain ⟨a0, b0, e0⟩ := hT.1.slice; obtain ⟨a1, b1, e1⟩ := hT.2.1.slice; obtain ⟨a2, b2, e2⟩ := hT.2.2.slice
        rw [e0] at y0; rw [e1] at y1; rw [e2] at y2
        unfold TabF at hT
        rw [e0, e1, e2] at hT
        clear e0 e1 e2
        have hI : (k : Int) < (nd : Int) := by omega
        have i00 : (0 : Int) ≤ (k : Int) := by omega
        obtain ⟨T, hTT⟩ : ∃ T, T = tabS (tn a.delay k).ss (tn a.delay k).ls (tn a.delay k).vs := ⟨_, rfl⟩
        have HB := Lib.hid (fun (w1 : World) (hb : Below wr.heap.size wr w1) => implTabT_any _ _ _ (tn a.delay k).ss (tn a.delay k).ls (tn a.delay k).vs w1 (hT.1.up hb) (hT.2.1.up hb) (hT.2.2.up hb) (HTb.out.keep (ext_trans hbw hb)))
        rw [← hTT] at HB
        have HS := Lib.hid (us_step (T := T) HU.out (by have := HM.out; omega) (by rw [hTT]; exact (W4.out k (by omega)).symm))
        clear hx hT hTT HU
        go_wp2_with (first | (go_at_call 114; refine (HB.out _ (by (repeat (first | (with_reducible exact Below.refl _ _) | (with_reducible assumption) | (with_reducible refine ext_alloc ?_ _) | (with_reducible refine ext_drew ?_) | (with_reducible refine ext_drewN ?_ _) | (with_reducible refine ext_set ?_ (by first | exact Nat.le_refl _ | (simp; done) | (simp; omega) | omega) _) | (with_reducible refine ext_trans ?_ (by assumption)))))).mono ?_; rintro e w1 ⟨rfl, hb⟩; obtain ⟨hc, hf⟩ := bcell hb; have hz := hb.size; (try simp at hz); (try (have hz := Nat.lt_of_succ_le hz)); (try (have y0 : w.heap.size ≤ w1.heap.size := by omega)); (try (have z0 : w.heap.size < w1.heap.size := by omega)); (try (have z1 : w.heap.size + 1 < w1.heap.size := by omega)); (try (have z2 : w.heap.size + 1 + 1 < w1.heap.size := by omega)); (try (have z3 : w.heap.size + 1 + 1 + 1 < w1.heap.size := by omega)); (try (have z4 : w.heap.size + 1 + 1 + 1 + 1 < w1.heap.size := by omega)); (try (have x0 : wc.heap.size < w1.heap.size := by omega)); (try (have x1 : wc.heap.size ≤ w1.heap.size := by omega))) | (at_builtin; go_loud (refine wpList_append_own _ rfl _ _ 74 rfl (w.heap.size + 1) 9 i0 (.string ⟨#[]⟩) 1 16 Tryz.underlying74 hi hz0 hz1 hz2 rfl (by decide) _ _ _ rfl (GS.below O.out (by (repeat (first | (with_reducible exact Below.refl _ _) | (with_reducible assumption) | (with_reducible refine ext_alloc ?_ _) | (with_reducible refine ext_drew ?_) | (with_reducible refine ext_drewN ?_ _) | (with_reducible refine ext_set ?_ (by first | exact Nat.le_refl _ | (simp; done) | (simp; omega) | omega) _) | (with_reducible refine ext_trans ?_ (by assumption)))))) ⟨_, 0, none⟩ 1 1 [.string T] rfl rfl (one_cellS _ _ _ _ (by simp)) (fun u hu => by simp at hu; subst hu; rfl) (by unfold maxLen; omega) (by omega) (by simp; omega) ?_); intro v' wa hown' hgrow hnil))
        have O1 := Lib.hid (show GS wa (w.heap.size + 1) v' (us ++ [T]) by simpa [GS] using hown')
        have B1 : Below w.heap.size w wa := grown_inS (by (repeat (first | (with_reducible exact Below.refl _ _) | (with_reducible assumption) | (with_reducible refine ext_alloc ?_ _) | (with_reducible refine ext_drew ?_) | (with_reducible refine ext_drewN ?_ _) | (with_reducible refine ext_set ?_ (by first | exact Nat.le_refl _ | (simp; done) | (simp; omega) | omega) _) | (with_reducible refine ext_trans ?_ (by assumption))))) (by simp; omega) hgrow (fun k hk => Nat.le_of_succ_le (hblk k hk))
        have L1 : w.heap.size < wa.heap.size := by have := O1.out.parts (by simp); obtain ⟨g, c, _, _, hg, _⟩ := this; have := O1.out.blk; simp_all [Value.ownBlock]; omega
        have r5' := grown_cell hgrow hblk (cell_keep r5 (by (repeat (first | (with_reducible exact Below.refl _ _) | (with_reducible assumption) | (with_reducible refine ext_alloc ?_ _) | (with_reducible refine ext_drew ?_) | (with_reducible refine ext_drewN ?_ _) | (with_reducible refine ext_set ?_ (by first | exact Nat.le_refl _ | (simp; done) | (simp; omega) | omega) _) | (with_reducible refine ext_trans ?_ (by assumption)))))) (Nat.lt_succ_self _) (by simp; omega)
        clear hown' hgrow hnil hblk O
        go_wp2
        go_roundw
        case rel => exact ⟨k + 1, us ++ [T], by omega, by go_num, O1, Lib.hid (by rw [← Nat.add_assoc]; exact HS.out), by simp; omega, r5', B1, L1⟩
        case measure => simp [intOf]; omega
      · obtain rfl : k = nd := by omega
        have hI : ¬ (k : Int) < (k : Int) := by omega
        go_wp2
        go_loopw [5, 55] (fun v i wr => ∃ (q : Nat) (us : List ByteArray), q ≤ ne ∧ i = .int .i64 q ∧ Hid (GS wr (w.heap.size + 1) v us) ∧ Hid (us.map (·.data.toList) = ws.take (5 + k + q)) ∧ us.length = 5 + k + q ∧ Below w.heap.size w wr ∧ w.heap.size < wr.heap.size) (fun _ i _ => ne - (intOf i).toNat)
        case atStart => exact ⟨0, us, by omega, rfl, O, HU, hul, hbw, L0⟩
        case round =>
          clear hul r5 hbw L0 hblk hI O HU
          obtain ⟨q, us, hq, rfl, O, HU, hul, hbw, L0⟩ := hrel
          have hblk := O.out.blk
          by_cases hqn : q < ne
          · obtain ⟨b, off, rfl, hlt, hx⟩ := H5.out.at hbw hqn
            have y0 := hx 0 (by omega); have y1 := hx 1 (by omega); have y2 := hx 2 (by omega)
            simp only [Nat.add_zero] at y0
            have hT := (F5.out q hqn).up hbw
            obtain ⟨a0, b0, e0⟩ := hT.1.slice; obtain ⟨a1, b1, e1⟩ := hT.2.1.slice; obtain ⟨a2, b2, e2⟩ := hT.2.2.slice
            rw [e0] at y0; rw [e1] at y1; rw [e2] at y2
            unfold TabF at hT
            rw [e0, e1, e2] at hT
            clear e0 e1 e2
            have hI : (q : Int) < (ne : Int) := by omega
            have i00 : (0 : Int) ≤ (q : Int) := by omega
            obtain ⟨T, hTT⟩ : ∃ T, T = tabS (tn a.slew q).ss (tn a.slew q).ls (tn a.slew q).vs := ⟨_, rfl⟩
            have HB := Lib.hid (fun (w1 : World) (hb : Below wr.heap.size wr w1) => implTabT_any _ _ _ (tn a.slew q).ss (tn a.slew q).ls (tn a.slew q).vs w1 (hT.1.up hb) (hT.2.1.up hb) (hT.2.2.up hb) (HTb.out.keep (ext_trans hbw hb)))
            rw [← hTT] at HB
            have HS := Lib.hid (us_step (T := T) HU.out (by have := HM.out; omega) (by rw [hTT]; exact (W5.out q (by omega)).symm))
            clear hx hT hTT HU
            go_wp2_with (first | (go_at_call 114; refine (HB.out _ (by (repeat (first | (with_reducible exact Below.refl _ _) | (with_reducible assumption) | (with_reducible refine ext_alloc ?_ _) | (with_reducible refine ext_drew ?_) | (with_reducible refine ext_drewN ?_ _) | (with_reducible refine ext_set ?_ (by first | exact Nat.le_refl _ | (simp; done) | (simp; omega) | omega) _) | (with_reducible refine ext_trans ?_ (by assumption)))))).mono ?_; rintro e w1 ⟨rfl, hb⟩; obtain ⟨hc, hf⟩ := bcell hb; have hz := hb.size; (try simp at hz); (try (have hz := Nat.lt_of_succ_le hz)); (try (have y0 : w.heap.size ≤ w1.heap.size := by omega)); (try (have z0 : w.heap.size < w1.heap.size := by omega)); (try (have z1 : w.heap.size + 1 < w1.heap.size := by omega)); (try (have z2 : w.heap.size + 1 + 1 < w1.heap.size := by omega)); (try (have z3 : w.heap.size + 1 + 1 + 1 < w1.heap.size := by omega)); (try (have z4 : w.heap.size + 1 + 1 + 1 + 1 < w1.heap.size := by omega)); (try (have x0 : wc.heap.size < w1.heap.size := by omega)); (try (have x1 : wc.heap.size ≤ w1.heap.size := by omega))) | (at_builtin; go_loud (refine wpList_append_own _ rfl _ _ 74 rfl (w.heap.size + 1) 9 i0 (.string ⟨#[]⟩) 1 16 Tryz.underlying74 hi hz0 hz1 hz2 rfl (by decide) _ _ _ rfl (GS.below O.out (by (repeat (first | (with_reducible exact Below.refl _ _) | (with_reducible assumption) | (with_reducible refine ext_alloc ?_ _) | (with_reducible refine ext_drew ?_) | (with_reducible refine ext_drewN ?_ _) | (with_reducible refine ext_set ?_ (by first | exact Nat.le_refl _ | (simp; done) | (simp; omega) | omega) _) | (with_reducible refine ext_trans ?_ (by assumption)))))) ⟨_, 0, none⟩ 1 1 [.string T] rfl rfl (one_cellS _ _ _ _ (by simp)) (fun u hu => by simp at hu; subst hu; rfl) (by unfold maxLen; omega) (by omega) (by simp; omega) ?_); intro v' wa hown' hgrow hnil))
            have O1 := Lib.hid (show GS wa (w.heap.size + 1) v' (us ++ [T]) by simpa [GS] using hown')
            have B1 : Below w.heap.size w wa := grown_inS (by (repeat (first | (with_reducible exact Below.refl _ _) | (with_reducible assumption) | (with_reducible refine ext_alloc ?_ _) | (with_reducible refine ext_drew ?_) | (with_reducible refine ext_drewN ?_ _) | (with_reducible refine ext_set ?_ (by first | exact Nat.le_refl _ | (simp; done) | (simp; omega) | omega) _) | (with_reducible refine ext_trans ?_ (by assumption))))) (by simp; omega) hgrow (fun k hk => Nat.le_of_succ_le (hblk k hk))
            have L1 : w.heap.size < wa.heap.size := by have := O1.out.parts (by simp); obtain ⟨g, c, _, _, hg, _⟩ := this; have := O1.out.blk; simp_all [Value.ownBlock]; omega
            skip
            clear hown' hgrow hnil hblk O
            go_wp2
            go_roundw
            case rel => exact ⟨q + 1, us ++ [T], by omega, by go_num, O1, Lib.hid (by rw [← Nat.add_assoc]; exact HS.out), by simp; omega, B1, L1⟩
            case measure => simp [intOf]; omega
          · obtain rfl : q = ne := by omega
            have hI : ¬ (q : Int) < (q : Int) := by omega
            obtain ⟨gJ, cJ, rfl, hcap, hgJ, hcs⟩ := O.out.parts (by omega)
            have hw := HU.out
            rw [show 5 + k + q = ws.length from HM.out.symm, List.take_length] at hw
            have hjl : (Lib.join (us.map (·.data.toList)) [32]).length ≤ 140737488355328 := by rw [hw, HW.out]; have := HL.out; omega
            have HJ := Lib.hid (fun (w1 : World) (hc : ∀ j (hj : j < us.length), w1.cell? ⟨gJ, j, none⟩ = some (.string us[j])) (hg : gJ < w1.heap.size) => join_any gJ us.length cJ us ⟨#[32]⟩ w1 rfl hc hg (by omega) hcap hjl)
            have HC := Lib.hid hcs
            have HR := Lib.hid (show Lib.join (us.map (·.data.toList)) [32] = arcL ps a by rw [hw]; exact HW.out)
            clear hcs hw hjl hblk O HU hul
            go_wp2_with fail
            go_at_call 66
            refine (HJ.out _ HC.out hgJ).mono ?_
            rintro e w1 ⟨J, rfl, hJ, hJs, hb⟩
            go_wp2
            go_ret
            exact says (by rw [hJ]; exact HR.out) (by (repeat (first | (with_reducible exact Below.refl _ _) | (with_reducible assumption) | (with_reducible refine ext_alloc ?_ _) | (with_reducible refine ext_drew ?_) | (with_reducible refine ext_drewN ?_ _) | (with_reducible refine ext_set ?_ (by first | exact Nat.le_refl _ | (simp; done) | (simp; omega) | omega) _) | (with_reducible refine ext_trans ?_ (by assumption)))))

  · have kt : ((κ : Int) == 1) = false := by simp; omega
    have W4 := Lib.hid (fun q (hq : q < nd) => by rw [hws]; exact word_tab ps a (m := 4) (k := q) (by rw [if_neg hk1]) (by omega) : ∀ q, q < nd → ws.getD (4 + q) [] = tabX (tn a.delay q))
    have W5 := Lib.hid (fun q (hq : q < ne) => by rw [hws]; exact word_slew ps a (m := 4 + nd) (k := q) (by rw [if_neg hk1]; omega) (by omega) : ∀ q, q < ne → ws.getD (4 + nd + q) [] = tabX (tn a.slew q))
    have HM := Lib.hid (show ws.length = 4 + nd + ne by rw [hlen, if_neg hk1])
    clear hf hnn hws hL hs hd hκ es ed hAW hk1 HK vsn vdl vsl hlen hxs hxd e' v1 v5 v0s vls v0d vld hnd hne f4 f5 HC htb g0 g1 g2 g3 g4 g5
    go_enter Tryz.func64, Tryz.ntmps64
    go_upto_region 1 with fail
    refine wp_region_held_drew (S := (fun w' => w'.cell? ⟨w.heap.size, 0, none⟩ = some (.int .i64 (κ : Int)) ∧ w'.cell? ⟨w.heap.size, 1, none⟩ = some (.int .i64 (s : Int)) ∧ w'.cell? ⟨w.heap.size, 2, none⟩ = some (.int .i64 (d : Int)) ∧ w'.cell? ⟨w.heap.size, 4, none⟩ = some (.slice p4 nd q4) ∧ w'.cell? ⟨w.heap.size, 5, none⟩ = some (.slice p5 ne q5) ∧ w'.cell? ⟨b, off + s * 4, none⟩ = some (.string (pn ps s).name) ∧ w'.cell? ⟨b, off + d * 4, none⟩ = some (.string (pn ps d).name) ∧ Below w.heap.size w w' ∧ w.heap.size < w'.heap.size)) (by kernel_rfl) ?_ (fun hHeld => ?_)
    · (try dsimp only); ((repeat' apply And.intro) <;> first | assumption | ((repeat (first | (with_reducible exact Below.refl _ _) | (with_reducible assumption) | (with_reducible refine ext_alloc ?_ _) | (with_reducible refine ext_drew ?_) | (with_reducible refine ext_drewN ?_ _) | (with_reducible refine ext_set ?_ (by first | exact Nat.le_refl _ | (simp; done) | (simp; omega) | omega) _) | (with_reducible refine ext_trans ?_ (by assumption)))); done) | (simp [go_sem]; done) | (simp [go_sem, *]; done) | (simp; omega) | omega)
    (try dsimp only at hHeld)
    refine wpAnyH_take (i := 1) (oi := _) (v := ?_) rfl (by kernel_rfl) (by kernel_rfl) (by kernel_rfl) (fun _ _ _ h => h) (Or.inl ⟨by rfl, ?_⟩) (by with_reducible assumption) ?_
    rotate_left
    focus (intro w' hSw; (try dsimp only at hSw); go_simp; try (with_reducible rfl))
    (try simp only [Act.put, List.getElem_toArray, List.getElem_cons_zero, List.getElem_cons_succ, List.setIfInBounds_toArray, List.set_cons_zero, List.set_cons_succ])
    refine wpAnyH_take (i := 2) (oi := _) (v := ?_) rfl (by kernel_rfl) (by kernel_rfl) (by kernel_rfl) (fun _ _ _ h => h) (Or.inl ⟨by rfl, ?_⟩) (by with_reducible assumption) ?_
    rotate_left
    focus (intro w' hSw; (try dsimp only at hSw); go_simp; try (with_reducible rfl))
    (try simp only [Act.put, List.getElem_toArray, List.getElem_cons_zero, List.getElem_cons_succ, List.setIfInBounds_toArray, List.set_cons_zero, List.set_cons_succ])
    refine wpAnyH_take (i := 5) (oi := _) (v := ?_) rfl (by kernel_rfl) (by kernel_rfl) (by kernel_rfl) (fun _ _ _ h => h) (Or.inl ⟨by rfl, ?_⟩) (by with_reducible assumption) ?_
    rotate_left
    focus (intro w' hSw; (try dsimp only at hSw); go_simp; try (with_reducible rfl))
    (try simp only [Act.put, List.getElem_toArray, List.getElem_cons_zero, List.getElem_cons_succ, List.setIfInBounds_toArray, List.set_cons_zero, List.set_cons_succ])
    refine wpAnyH_take (i := 6) (oi := _) (v := ?_) rfl (by kernel_rfl) (by kernel_rfl) (by kernel_rfl) (fun _ _ _ h => h) (Or.inl ⟨by rfl, ?_⟩) (by with_reducible assumption) ?_
    rotate_left
    focus (intro w' hSw; (try dsimp only at hSw); go_simp; try (with_reducible rfl))
    (try simp only [Act.put, List.getElem_toArray, List.getElem_cons_zero, List.getElem_cons_succ, List.setIfInBounds_toArray, List.set_cons_zero, List.set_cons_succ])
    refine wpAnyH_take (i := 7) (oi := _) (v := ?_) rfl (by kernel_rfl) (by kernel_rfl) (by kernel_rfl) (fun _ _ _ h => h) (Or.inl ⟨by rfl, ?_⟩) (by with_reducible assumption) ?_
    rotate_left
    focus (intro w' hSw; (try dsimp only at hSw); go_simp; try (with_reducible rfl))
    (try simp only [Act.put, List.getElem_toArray, List.getElem_cons_zero, List.getElem_cons_succ, List.setIfInBounds_toArray, List.set_cons_zero, List.set_cons_succ])
    refine wpAnyH_take (i := 8) (oi := _) (v := ?_) rfl (by kernel_rfl) (by kernel_rfl) (by kernel_rfl) (fun _ _ _ h => h) (Or.inl ⟨by rfl, ?_⟩) (by with_reducible assumption) ?_
    rotate_left
    focus (intro w' hSw; (try dsimp only at hSw); go_simp; try (with_reducible rfl))
    (try simp only [Act.put, List.getElem_toArray, List.getElem_cons_zero, List.getElem_cons_succ, List.setIfInBounds_toArray, List.set_cons_zero, List.set_cons_succ])
    refine wpAnyH_take (i := 9) (oi := _) (v := ?_) rfl (by kernel_rfl) (by kernel_rfl) (by kernel_rfl) (fun _ _ _ h => h) (Or.inl ⟨by rfl, ?_⟩) (by with_reducible assumption) ?_
    rotate_left
    focus (intro w' hSw; (try dsimp only at hSw); go_simp; try (with_reducible rfl))
    (try simp only [Act.put, List.getElem_toArray, List.getElem_cons_zero, List.getElem_cons_succ, List.setIfInBounds_toArray, List.set_cons_zero, List.set_cons_succ])
    refine wpAnyH_take (i := 10) (oi := _) (v := ?_) rfl (by kernel_rfl) (by kernel_rfl) (by kernel_rfl) (fun _ _ _ h => h) (Or.inl ⟨by rfl, ?_⟩) (by with_reducible assumption) ?_
    rotate_left
    focus (intro w' hSw; (try dsimp only at hSw); go_simp; try (with_reducible rfl))
    (try simp only [Act.put, List.getElem_toArray, List.getElem_cons_zero, List.getElem_cons_succ, List.setIfInBounds_toArray, List.set_cons_zero, List.set_cons_succ])
    refine wpAnyH_take (i := 11) (oi := _) (v := ?_) rfl (by kernel_rfl) (by kernel_rfl) (by kernel_rfl) (fun _ _ _ h => h) (Or.inl ⟨by rfl, ?_⟩) (by with_reducible assumption) ?_
    rotate_left
    focus (intro w' hSw; (try dsimp only at hSw); go_simp; try (with_reducible rfl))
    (try simp only [Act.put, List.getElem_toArray, List.getElem_cons_zero, List.getElem_cons_succ, List.setIfInBounds_toArray, List.set_cons_zero, List.set_cons_succ])
    refine wpAnyH_take (i := 12) (oi := _) (v := ?_) rfl (by kernel_rfl) (by kernel_rfl) (by kernel_rfl) (fun _ _ _ h => h) (Or.inl ⟨by rfl, ?_⟩) (by with_reducible assumption) ?_
    rotate_left
    focus (intro w' hSw; (try dsimp only at hSw); go_simp; try (with_reducible rfl))
    (try simp only [Act.put, List.getElem_toArray, List.getElem_cons_zero, List.getElem_cons_succ, List.setIfInBounds_toArray, List.set_cons_zero, List.set_cons_succ])
    refine wpAnyH_take (i := 13) (oi := _) (v := ?_) rfl (by kernel_rfl) (by kernel_rfl) (by kernel_rfl) (fun _ _ _ h => h) (Or.inl ⟨by rfl, ?_⟩) (by with_reducible assumption) ?_
    rotate_left
    focus (intro w' hSw; (try dsimp only at hSw); go_simp; try (with_reducible rfl))
    (try simp only [Act.put, List.getElem_toArray, List.getElem_cons_zero, List.getElem_cons_succ, List.setIfInBounds_toArray, List.set_cons_zero, List.set_cons_succ])
    refine wpAnyH_take (i := 14) (oi := _) (v := ?_) rfl (by kernel_rfl) (by kernel_rfl) (by kernel_rfl) (fun _ _ _ h => h) (Or.inl ⟨by rfl, ?_⟩) (by with_reducible assumption) ?_
    rotate_left
    focus (intro w' hSw; (try dsimp only at hSw); go_simp; try (with_reducible rfl))
    (try simp only [Act.put, List.getElem_toArray, List.getElem_cons_zero, List.getElem_cons_succ, List.setIfInBounds_toArray, List.set_cons_zero, List.set_cons_succ])
    refine wpAnyH_take (i := 15) (oi := _) (v := ?_) rfl (by kernel_rfl) (by kernel_rfl) (by kernel_rfl) (fun _ _ _ h => h) (Or.inl ⟨by rfl, ?_⟩) (by with_reducible assumption) ?_
    rotate_left
    focus (intro w' hSw; (try dsimp only at hSw); go_simp; try (with_reducible rfl))
    (try simp only [Act.put, List.getElem_toArray, List.getElem_cons_zero, List.getElem_cons_succ, List.setIfInBounds_toArray, List.set_cons_zero, List.set_cons_succ])
    refine wpAnyH_take (i := 16) (oi := _) (v := ?_) rfl (by kernel_rfl) (by kernel_rfl) (by kernel_rfl) (fun _ _ _ h => h) (Or.inl ⟨by rfl, ?_⟩) (by with_reducible assumption) ?_
    rotate_left
    focus (intro w' hSw; (try dsimp only at hSw); go_simp; try (with_reducible rfl))
    (try simp only [Act.put, List.getElem_toArray, List.getElem_cons_zero, List.getElem_cons_succ, List.setIfInBounds_toArray, List.set_cons_zero, List.set_cons_succ])
    refine wpAnyH_ready (rs := [0]) (by kernel_rfl) (by simp) ?_
    refine AllReadyH.cons rfl (fun K hK => ?_) AllReadyH.nil
    go_simp
    (go_at_call 112; refine (HKH.out _).mono ?_; rintro e wn ⟨rfl, hk0, hb⟩)
    (try simp at hk0)
    refine hK.out _ _ (keep7 hHeld hb) (fun hHeld' => ?_)
    clear hK K hHeld
    have hHeld := hHeld'
    clear hHeld'
    (try simp only [Act.put, List.getElem_toArray, List.getElem_cons_zero, List.getElem_cons_succ, List.setIfInBounds_toArray, List.set_cons_zero, List.set_cons_succ])
    refine wpAnyH_take (i := 3) (oi := _) (v := ?_) rfl (by kernel_rfl) (by kernel_rfl) (by kernel_rfl) (fun _ _ _ h => h) (Or.inl ⟨by rfl, ?_⟩) (by with_reducible assumption) ?_
    rotate_left
    focus (intro w' hSw; (try dsimp only at hSw); go_simp; try (with_reducible rfl))
    (try simp only [Act.put, List.getElem_toArray, List.getElem_cons_zero, List.getElem_cons_succ, List.setIfInBounds_toArray, List.set_cons_zero, List.set_cons_succ])
    refine wpAnyH_ready (rs := [4]) (by kernel_rfl) (by simp) ?_
    refine AllReadyH.cons rfl (fun K hK => ?_) AllReadyH.nil
    go_simp
    refine hK.out _ _ hHeld (fun _ => ?_)
    clear hK K
    (try simp only [Act.put, List.getElem_toArray, List.getElem_cons_zero, List.getElem_cons_succ, List.setIfInBounds_toArray, List.set_cons_zero, List.set_cons_succ])
    refine wpAnyH_ready (rs := [17]) (by kernel_rfl) (by simp) ?_
    refine AllReadyH.cons rfl (fun K hK => ?_) AllReadyH.nil
    go_simp
    refine hK.out _ _ (keep7 hHeld ((Below.refl _ _).alloc (Nat.le_refl _) _)) (fun hHeld' => ?_)
    clear hK K hHeld
    have hHeld := hHeld'
    clear hHeld'
    (try simp only [Act.put, List.getElem_toArray, List.getElem_cons_zero, List.getElem_cons_succ, List.setIfInBounds_toArray, List.set_cons_zero, List.set_cons_succ])
    refine wpAnyH_take (i := 18) (oi := _) (v := ?_) rfl (by kernel_rfl) (by kernel_rfl) (by kernel_rfl) (fun _ _ _ h => h) (Or.inl ⟨by rfl, ?_⟩) (by with_reducible assumption) ?_
    rotate_left
    focus (intro w' hSw; (try dsimp only at hSw); go_simp; try (with_reducible rfl))
    (try simp only [Act.put, List.getElem_toArray, List.getElem_cons_zero, List.getElem_cons_succ, List.setIfInBounds_toArray, List.set_cons_zero, List.set_cons_succ])
    refine wpAnyH_done (by kernel_rfl) ?_ _
    have B9 := hHeld.2.2.2.2.2.2.2.1
    go_wp2_with fail
    go_loopw [5, 42] (fun v i wr => ∃ (k : Nat) (us : List ByteArray), k ≤ nd ∧ i = .int .i64 k ∧ Hid (GS wr (w.heap.size + 1) v us) ∧ Hid (us.map (·.data.toList) = ws.take (4 + k)) ∧ us.length = 4 + k ∧ wr.cell? ⟨w.heap.size, 5, none⟩ = some (.slice p5 ne q5) ∧ Below w.heap.size w wr ∧ w.heap.size < wr.heap.size) (fun _ i _ => nd - (intOf i).toNat)
    case atStart => exact ⟨0, [⟨#[97, 114, 99]⟩, AW, (pn ps s).name, (pn ps d).name], by omega, rfl, Lib.hid (GS.mk _ _ _ _ _ _ _ rfl rfl (by have := hb.size; simp at this; omega) rfl rfl (by omega)), U4, rfl, hHeld.2.2.2.2.1, by (repeat (first | (with_reducible exact Below.refl _ _) | (with_reducible assumption) | (with_reducible refine ext_alloc ?_ _) | (with_reducible refine ext_drew ?_) | (with_reducible refine ext_drewN ?_ _) | (with_reducible refine ext_set ?_ (by first | exact Nat.le_refl _ | (simp; done) | (simp; omega) | omega) _) | (with_reducible refine ext_trans ?_ (by assumption)))), by simp; omega⟩
    case round =>
      clear U4 HKH ys yd sI dI s0 d0 κ0 κ5 kt hlt
      obtain ⟨k, us, hk, rfl, O, HU, hul, r5, hbw, L0⟩ := hrel
      have hblk := O.out.blk
      by_cases hkn : k < nd
      · obtain ⟨b, off, rfl, hlt, hx⟩ := H4.out.at hbw hkn
        have y0 := hx 0 (by omega); have y1 := hx 1 (by omega); have y2 := hx 2 (by omega)
        simp only [Nat.add_zero] at y0
        have hT := (F4.out k hkn).up hbw
        obtain ⟨a0, b0, e0⟩ := hT.1.slice; obtain ⟨a1, b1, e1⟩ := hT.2.1.slice; obtain ⟨a2, b2, e2⟩ := hT.2.2.slice
        rw [e0] at y0; rw [e1] at y1; rw [e2] at y2
        unfold TabF at hT
        rw [e0, e1, e2] at hT
        clear e0 e1 e2
        have hI : (k : Int) < (nd : Int) := by omega
        have i00 : (0 : Int) ≤ (k : Int) := by omega
        obtain ⟨T, hTT⟩ : ∃ T, T = tabS (tn a.delay k).ss (tn a.delay k).ls (tn a.delay k).vs := ⟨_, rfl⟩
        have HB := Lib.hid (fun (w1 : World) (hb : Below wr.heap.size wr w1) => implTabT_any _ _ _ (tn a.delay k).ss (tn a.delay k).ls (tn a.delay k).vs w1 (hT.1.up hb) (hT.2.1.up hb) (hT.2.2.up hb) (HTb.out.keep (ext_trans hbw hb)))
        rw [← hTT] at HB
        have HS := Lib.hid (us_step (T := T) HU.out (by have := HM.out; omega) (by rw [hTT]; exact (W4.out k (by omega)).symm))
        clear hx hT hTT HU
        go_wp2_with (first | (go_at_call 114; refine (HB.out _ (by (repeat (first | (with_reducible exact Below.refl _ _) | (with_reducible assumption) | (with_reducible refine ext_alloc ?_ _) | (with_reducible refine ext_drew ?_) | (with_reducible refine ext_drewN ?_ _) | (with_reducible refine ext_set ?_ (by first | exact Nat.le_refl _ | (simp; done) | (simp; omega) | omega) _) | (with_reducible refine ext_trans ?_ (by assumption)))))).mono ?_; rintro e w1 ⟨rfl, hb⟩; obtain ⟨hc, hf⟩ := bcell hb; have hz := hb.size; (try simp at hz); (try (have hz := Nat.lt_of_succ_le hz)); (try (have y0 : w.heap.size ≤ w1.heap.size := by omega)); (try (have z0 : w.heap.size < w1.heap.size := by omega)); (try (have z1 : w.heap.size + 1 < w1.heap.size := by omega)); (try (have z2 : w.heap.size + 1 + 1 < w1.heap.size := by omega)); (try (have z3 : w.heap.size + 1 + 1 + 1 < w1.heap.size := by omega)); (try (have z4 : w.heap.size + 1 + 1 + 1 + 1 < w1.heap.size := by omega)); (try (have x0 : wc.heap.size < w1.heap.size := by omega)); (try (have x1 : wc.heap.size ≤ w1.heap.size := by omega))) | (at_builtin; go_loud (refine wpList_append_own _ rfl _ _ 74 rfl (w.heap.size + 1) 9 i0 (.string ⟨#[]⟩) 1 16 Tryz.underlying74 hi hz0 hz1 hz2 rfl (by decide) _ _ _ rfl (GS.below O.out (by (repeat (first | (with_reducible exact Below.refl _ _) | (with_reducible assumption) | (with_reducible refine ext_alloc ?_ _) | (with_reducible refine ext_drew ?_) | (with_reducible refine ext_drewN ?_ _) | (with_reducible refine ext_set ?_ (by first | exact Nat.le_refl _ | (simp; done) | (simp; omega) | omega) _) | (with_reducible refine ext_trans ?_ (by assumption)))))) ⟨_, 0, none⟩ 1 1 [.string T] rfl rfl (one_cellS _ _ _ _ (by simp)) (fun u hu => by simp at hu; subst hu; rfl) (by unfold maxLen; omega) (by omega) (by simp; omega) ?_); intro v' wa hown' hgrow hnil))
        have O1 := Lib.hid (show GS wa (w.heap.size + 1) v' (us ++ [T]) by simpa [GS] using hown')
        have B1 : Below w.heap.size w wa := grown_inS (by (repeat (first | (with_reducible exact Below.refl _ _) | (with_reducible assumption) | (with_reducible refine ext_alloc ?_ _) | (with_reducible refine ext_drew ?_) | (with_reducible refine ext_drewN ?_ _) | (with_reducible refine ext_set ?_ (by first | exact Nat.le_refl _ | (simp; done) | (simp; omega) | omega) _) | (with_reducible refine ext_trans ?_ (by assumption))))) (by simp; omega) hgrow (fun k hk => Nat.le_of_succ_le (hblk k hk))
        have L1 : w.heap.size < wa.heap.size := by have := O1.out.parts (by simp); obtain ⟨g, c, _, _, hg, _⟩ := this; have := O1.out.blk; simp_all [Value.ownBlock]; omega
        have r5' := grown_cell hgrow hblk (cell_keep r5 (by (repeat (first | (with_reducible exact Below.refl _ _) | (with_reducible assumption) | (with_reducible refine ext_alloc ?_ _) | (with_reducible refine ext_drew ?_) | (with_reducible refine ext_drewN ?_ _) | (with_reducible refine ext_set ?_ (by first | exact Nat.le_refl _ | (simp; done) | (simp; omega) | omega) _) | (with_reducible refine ext_trans ?_ (by assumption)))))) (Nat.lt_succ_self _) (by simp; omega)
        clear hown' hgrow hnil hblk O
        go_wp2
        go_roundw
        case rel => exact ⟨k + 1, us ++ [T], by omega, by go_num, O1, Lib.hid (by rw [← Nat.add_assoc]; exact HS.out), by simp; omega, r5', B1, L1⟩
        case measure => simp [intOf]; omega
      · obtain rfl : k = nd := by omega
        have hI : ¬ (k : Int) < (k : Int) := by omega
        go_wp2
        go_loopw [5, 55] (fun v i wr => ∃ (q : Nat) (us : List ByteArray), q ≤ ne ∧ i = .int .i64 q ∧ Hid (GS wr (w.heap.size + 1) v us) ∧ Hid (us.map (·.data.toList) = ws.take (4 + k + q)) ∧ us.length = 4 + k + q ∧ Below w.heap.size w wr ∧ w.heap.size < wr.heap.size) (fun _ i _ => ne - (intOf i).toNat)
        case atStart => exact ⟨0, us, by omega, rfl, O, HU, hul, hbw, L0⟩
        case round =>
          clear hul r5 hbw L0 hblk hI O HU
          obtain ⟨q, us, hq, rfl, O, HU, hul, hbw, L0⟩ := hrel
          have hblk := O.out.blk
          by_cases hqn : q < ne
          · obtain ⟨b, off, rfl, hlt, hx⟩ := H5.out.at hbw hqn
            have y0 := hx 0 (by omega); have y1 := hx 1 (by omega); have y2 := hx 2 (by omega)
            simp only [Nat.add_zero] at y0
            have hT := (F5.out q hqn).up hbw
            obtain ⟨a0, b0, e0⟩ := hT.1.slice; obtain ⟨a1, b1, e1⟩ := hT.2.1.slice; obtain ⟨a2, b2, e2⟩ := hT.2.2.slice
            rw [e0] at y0; rw [e1] at y1; rw [e2] at y2
            unfold TabF at hT
            rw [e0, e1, e2] at hT
            clear e0 e1 e2
            have hI : (q : Int) < (ne : Int) := by omega
            have i00 : (0 : Int) ≤ (q : Int) := by omega
            obtain ⟨T, hTT⟩ : ∃ T, T = tabS (tn a.slew q).ss (tn a.slew q).ls (tn a.slew q).vs := ⟨_, rfl⟩
            have HB := Lib.hid (fun (w1 : World) (hb : Below wr.heap.size wr w1) => implTabT_any _ _ _ (tn a.slew q).ss (tn a.slew q).ls (tn a.slew q).vs w1 (hT.1.up hb) (hT.2.1.up hb) (hT.2.2.up hb) (HTb.out.keep (ext_trans hbw hb)))
            rw [← hTT] at HB
            have HS := Lib.hid (us_step (T := T) HU.out (by have := HM.out; omega) (by rw [hTT]; exact (W5.out q (by omega)).symm))
            clear hx hT hTT HU
            go_wp2_with (first | (go_at_call 114; refine (HB.out _ (by (repeat (first | (with_reducible exact Below.refl _ _) | (with_reducible assumption) | (with_reducible refine ext_alloc ?_ _) | (with_reducible refine ext_drew ?_) | (with_reducible refine ext_drewN ?_ _) | (with_reducible refine ext_set ?_ (by first | exact Nat.le_refl _ | (simp; done) | (simp; omega) | omega) _) | (with_reducible refine ext_trans ?_ (by assumption)))))).mono ?_; rintro e w1 ⟨rfl, hb⟩; obtain ⟨hc, hf⟩ := bcell hb; have hz := hb.size; (try simp at hz); (try (have hz := Nat.lt_of_succ_le hz)); (try (have y0 : w.heap.size ≤ w1.heap.size := by omega)); (try (have z0 : w.heap.size < w1.heap.size := by omega)); (try (have z1 : w.heap.size + 1 < w1.heap.size := by omega)); (try (have z2 : w.heap.size + 1 + 1 < w1.heap.size := by omega)); (try (have z3 : w.heap.size + 1 + 1 + 1 < w1.heap.size := by omega)); (try (have z4 : w.heap.size + 1 + 1 + 1 + 1 < w1.heap.size := by omega)); (try (have x0 : wc.heap.size < w1.heap.size := by omega)); (try (have x1 : wc.heap.size ≤ w1.heap.size := by omega))) | (at_builtin; go_loud (refine wpList_append_own _ rfl _ _ 74 rfl (w.heap.size + 1) 9 i0 (.string ⟨#[]⟩) 1 16 Tryz.underlying74 hi hz0 hz1 hz2 rfl (by decide) _ _ _ rfl (GS.below O.out (by (repeat (first | (with_reducible exact Below.refl _ _) | (with_reducible assumption) | (with_reducible refine ext_alloc ?_ _) | (with_reducible refine ext_drew ?_) | (with_reducible refine ext_drewN ?_ _) | (with_reducible refine ext_set ?_ (by first | exact Nat.le_refl _ | (simp; done) | (simp; omega) | omega) _) | (with_reducible refine ext_trans ?_ (by assumption)))))) ⟨_, 0, none⟩ 1 1 [.string T] rfl rfl (one_cellS _ _ _ _ (by simp)) (fun u hu => by simp at hu; subst hu; rfl) (by unfold maxLen; omega) (by omega) (by simp; omega) ?_); intro v' wa hown' hgrow hnil))
            have O1 := Lib.hid (show GS wa (w.heap.size + 1) v' (us ++ [T]) by simpa [GS] using hown')
            have B1 : Below w.heap.size w wa := grown_inS (by (repeat (first | (with_reducible exact Below.refl _ _) | (with_reducible assumption) | (with_reducible refine ext_alloc ?_ _) | (with_reducible refine ext_drew ?_) | (with_reducible refine ext_drewN ?_ _) | (with_reducible refine ext_set ?_ (by first | exact Nat.le_refl _ | (simp; done) | (simp; omega) | omega) _) | (with_reducible refine ext_trans ?_ (by assumption))))) (by simp; omega) hgrow (fun k hk => Nat.le_of_succ_le (hblk k hk))
            have L1 : w.heap.size < wa.heap.size := by have := O1.out.parts (by simp); obtain ⟨g, c, _, _, hg, _⟩ := this; have := O1.out.blk; simp_all [Value.ownBlock]; omega
            skip
            clear hown' hgrow hnil hblk O
            go_wp2
            go_roundw
            case rel => exact ⟨q + 1, us ++ [T], by omega, by go_num, O1, Lib.hid (by rw [← Nat.add_assoc]; exact HS.out), by simp; omega, B1, L1⟩
            case measure => simp [intOf]; omega
          · obtain rfl : q = ne := by omega
            have hI : ¬ (q : Int) < (q : Int) := by omega
            obtain ⟨gJ, cJ, rfl, hcap, hgJ, hcs⟩ := O.out.parts (by omega)
            have hw := HU.out
            rw [show 4 + k + q = ws.length from HM.out.symm, List.take_length] at hw
            have hjl : (Lib.join (us.map (·.data.toList)) [32]).length ≤ 140737488355328 := by rw [hw, HW.out]; have := HL.out; omega
            have HJ := Lib.hid (fun (w1 : World) (hc : ∀ j (hj : j < us.length), w1.cell? ⟨gJ, j, none⟩ = some (.string us[j])) (hg : gJ < w1.heap.size) => join_any gJ us.length cJ us ⟨#[32]⟩ w1 rfl hc hg (by omega) hcap hjl)
            have HC := Lib.hid hcs
            have HR := Lib.hid (show Lib.join (us.map (·.data.toList)) [32] = arcL ps a by rw [hw]; exact HW.out)
            clear hcs hw hjl hblk O HU hul
            go_wp2_with fail
            go_at_call 66
            refine (HJ.out _ HC.out hgJ).mono ?_
            rintro e w1 ⟨J, rfl, hJ, hJs, hb⟩
            go_wp2
            go_ret
            exact says (by rw [hJ]; exact HR.out) (by (repeat (first | (with_reducible exact Below.refl _ _) | (with_reducible assumption) | (with_reducible refine ext_alloc ?_ _) | (with_reducible refine ext_drew ?_) | (with_reducible refine ext_drewN ?_ _) | (with_reducible refine ext_set ?_ (by first | exact Nat.le_refl _ | (simp; done) | (simp; omega) | omega) _) | (with_reducible refine ext_trans ?_ (by assumption)))))
end Go.Proofs.YtmoolajapgacmaaGreatDoor
