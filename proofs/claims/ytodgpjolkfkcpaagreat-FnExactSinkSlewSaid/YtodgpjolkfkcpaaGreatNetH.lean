/-
The model's functions over designs.
-/
import Derived.Test.YtodgpjolkfkcpaaGreatNetG
import Derived.Deep.RegionHeld3
namespace Go.Proofs.YtodgpjolkfkcpaaGreat
open Go.ChangeShapes Go.WideShapes Go.ChangeAt Go.RowKit Go.Deep
set_option linter.unusedVariables false
set_option linter.unusedSimpArgs false
set_option maxRecDepth 100000
theorem names_sizeH {nm : Nat → ByteArray} {n i : Nat} (h : namesB nm n = true) (hi : i < n) : (nm i).size ≤ 8 := by
  simp only [namesB, Bool.and_eq_true] at h
  have := allB_get (p := fun i => nameB (nm i)) h.1 i hi
  simp only [nameB, Bool.and_eq_true, decide_eq_true_eq] at this
  exact this.1.2
theorem pin_nameH {c : CellD} (h : cellB c = true) {k : Nat} (hk : k < c.pins.length) : (pn c.pins k).name.size ≤ 8 := by
  have h2 := (pins_get (cell_get h).1).2.2.1 k hk
  unfold pinOk at h2
  simp only [Bool.and_eq_true] at h2
  have := h2.1.1
  simp only [nameB, Bool.and_eq_true, decide_eq_true_eq] at this
  exact this.1.2
set_option maxHeartbeats 8000000 in
theorem specCap_any (v : Value) (f : Nat → Value) (ts : List CellD) (d : DesD) (k : Nat) (w : World) (hl : CellsS w w.heap.size v ts) (h : DesF w w.heap.size f d) (hd : desB ts d = true) (hk : k < (places ts d).length) :
    Calls Tryz.prog 60 #[.agg #[v], .agg #[f 0, f 1, f 2], .agg #[.int .i64 (pll (places ts d) k).inst, .int .i64 (pll (places ts d) k).pin, .int .i64 (pll (places ts d) k).net, .bool (pll (places ts d) k).drv]] w fun e w' => e = .returned (.int .i64 (pll (places ts d) k).load) ∧ Below w.heap.size w w' := by
  obtain ⟨hlib, hsz, hnm, hcn, _⟩ := desG hd
  obtain ⟨a1, c1, e1⟩ := h.2.1.slice
  obtain ⟨Fi, hci, hfi⟩ := h.1
  obtain ⟨a2, c2, e2⟩ := h.2.2.slice
  obtain ⟨Fl, hcl, hfl⟩ := hl
  have HI := hci; have HL := hcl
  obtain ⟨_, a0, c0, e0, _⟩ := hci
  obtain ⟨_, al, cl, el, _⟩ := hcl
  rw [e0] at HI; rw [el] at HL
  rw [el, e0, e1, e2]
  rcases pll_cases hk with ⟨i, j, hi, hj, ep⟩ | ⟨j, hj, ep⟩
  · rw [ep]
    obtain ⟨i1, i2, hnp, _⟩ := conn_inst hcn hi
    obtain ⟨b, off, rfl, hlt, hxx⟩ := HI.at (Below.refl _ _) hi
    have y1 := hxx 1 (by omega)
    rw [(hfi i hi).2.1] at y1
    obtain ⟨kc, hkc⟩ := Int.eq_ofNat_of_zero_le i1
    have hkl : kc < ts.length := by omega
    rw [hkc] at y1
    obtain ⟨bl, offl, rfl, hltl, hxl⟩ := HL.at (Below.refl _ _) hkl
    have z2 := hxl 2 (by omega)
    have xp := (hfl kc hkl).2.2.1
    have hxc : xcell ts (inn d.insts i) = cn ts kc := by unfold xcell; rw [hkc]; rfl
    rw [hxc] at hj
    obtain ⟨Fq, hcq, hfq⟩ := xp
    have HQ := hcq
    obtain ⟨_, ap, cp, ep', _⟩ := hcq
    rw [ep'] at z2 HQ
    obtain ⟨bp, offp, rfl, hltp, hxp⟩ := HQ.at (Below.refl _ _) hj
    have u2 := hxp 2 (by omega)
    rw [(hfq j hj).2.2.1] at u2
    have hI : (i : Int) < (d.insts.length : Int) := by omega
    have i00 : (0 : Int) ≤ (i : Int) := by omega
    have i0n : ¬ (i : Int) < 0 := by omega
    have hL : (kc : Int) < (ts.length : Int) := by omega
    have l00 : (0 : Int) ≤ (kc : Int) := by omega
    have hJ : (j : Int) < ((cn ts kc).pins.length : Int) := by omega
    have j00 : (0 : Int) ≤ (j : Int) := by omega
    have hR : (plI ts (inn d.insts i) i j).load = (pn (cn ts kc).pins j).cap := by rw [← hxc]; rfl
    rw [hR]
    show Calls _ _ #[_, _, .agg #[.int .i64 (i : Int), .int .i64 (j : Int), .int .i64 (plI ts (inn d.insts i) i j).net, .bool (plI ts (inn d.insts i) i j).drv]] _ _
    generalize (plI ts (inn d.insts i) i j).net = nn
    generalize (plI ts (inn d.insts i) i j).drv = dd
    clear hxx hxl hxp hfi hfl hfq HI HL HQ ep' hkc hxc hnp i1 i2 hnm ep e0 e1 e2 el hk hd hsz hcn hlib h hR
    have lb1 : b < w.heap.size + 1 := by omega
    have lb2 : b < w.heap.size + 1 + 1 := by omega
    have lb3 : b < w.heap.size + 1 + 1 + 1 := by omega
    have ll1 : bl < w.heap.size + 1 := by omega
    have ll2 : bl < w.heap.size + 1 + 1 := by omega
    have ll3 : bl < w.heap.size + 1 + 1 + 1 := by omega
    have lp1 : bp < w.heap.size + 1 := by omega
    have lp2 : bp < w.heap.size + 1 + 1 := by omega
    have lp3 : bp < w.heap.size + 1 + 1 + 1 := by omega
    go_enter Tryz.func60, Tryz.ntmps60
    go_wp2
    refine wp_region_held_drew (S := (fun w' => w'.cell? ⟨w.heap.size, 0, none⟩ = some (.slice (some ⟨bl, offl, none⟩) ts.length cl) ∧ w'.cell? ⟨w.heap.size + 1, 0, none⟩ = some (.slice (some ⟨b, off, none⟩) d.insts.length c0) ∧ w'.cell? ⟨b, off + i * 3 + 1, none⟩ = some (.int .i64 (kc : Int)) ∧ w'.cell? ⟨w.heap.size + 1 + 1, 0, none⟩ = some (.int .i64 (i : Int)) ∧ w'.cell? ⟨w.heap.size + 1 + 1, 1, none⟩ = some (.int .i64 (j : Int)) ∧ w'.cell? ⟨bl, offl + kc * 7 + 2, none⟩ = some (.slice (some ⟨bp, offp, none⟩) (cn ts kc).pins.length cp) ∧ w'.cell? ⟨bp, offp + j * 4 + 2, none⟩ = some (.int .i64 (pn (cn ts kc).pins j).cap))) (by kernel_rfl) ?_ (fun hHeld => ?_)
    · (try dsimp only); (refine ⟨?_, ?_, ?_, ?_, ?_, ?_, ?_⟩ <;> first | (simp [go_sem]; done) | (simp [go_sem, *]; done))
    (try dsimp only at hHeld)
    refine wpAnyH_take (i := 0) (oi := _) (v := ?_) rfl (by kernel_rfl) (by kernel_rfl) (by kernel_rfl) (fun _ _ _ h => h) (Or.inl ⟨by rfl, ?_⟩) (by with_reducible assumption) ?_
    rotate_left
    focus (intro w' hSw; (try dsimp only at hSw); go_simp; try (with_reducible rfl))
    (try simp only [Act.put, List.getElem_toArray, List.getElem_cons_zero, List.getElem_cons_succ, List.setIfInBounds_toArray, List.set_cons_zero, List.set_cons_succ])
    refine wpAnyH_take (i := 1) (oi := _) (v := ?_) rfl (by kernel_rfl) (by kernel_rfl) (by kernel_rfl) (fun _ _ _ h => h) (Or.inl ⟨by rfl, ?_⟩) (by with_reducible assumption) ?_
    rotate_left
    focus (intro w' hSw; (try dsimp only at hSw); go_simp; try (with_reducible rfl))
    (try simp only [Act.put, List.getElem_toArray, List.getElem_cons_zero, List.getElem_cons_succ, List.setIfInBounds_toArray, List.set_cons_zero, List.set_cons_succ])
    refine wpAnyH_take (i := 2) (oi := _) (v := ?_) rfl (by kernel_rfl) (by kernel_rfl) (by kernel_rfl) (fun _ _ _ h => h) (Or.inl ⟨by rfl, ?_⟩) (by with_reducible assumption) ?_
    rotate_left
    focus (intro w' hSw; (try dsimp only at hSw); go_simp; try (with_reducible rfl))
    (try simp only [Act.put, List.getElem_toArray, List.getElem_cons_zero, List.getElem_cons_succ, List.setIfInBounds_toArray, List.set_cons_zero, List.set_cons_succ])
    refine wpAnyH_take (i := 3) (oi := _) (v := ?_) rfl (by kernel_rfl) (by kernel_rfl) (by kernel_rfl) (fun _ _ _ h => h) (Or.inl ⟨by rfl, ?_⟩) (by with_reducible assumption) ?_
    rotate_left
    focus (intro w' hSw; (try dsimp only at hSw); go_simp; try (with_reducible rfl))
    (try simp only [Act.put, List.getElem_toArray, List.getElem_cons_zero, List.getElem_cons_succ, List.setIfInBounds_toArray, List.set_cons_zero, List.set_cons_succ])
    refine wpAnyH_take (i := 4) (oi := _) (v := ?_) rfl (by kernel_rfl) (by kernel_rfl) (by kernel_rfl) (fun _ _ _ h => h) (Or.inl ⟨by rfl, ?_⟩) (by with_reducible assumption) ?_
    rotate_left
    focus (intro w' hSw; (try dsimp only at hSw); go_simp; try (with_reducible rfl))
    (try simp only [Act.put, List.getElem_toArray, List.getElem_cons_zero, List.getElem_cons_succ, List.setIfInBounds_toArray, List.set_cons_zero, List.set_cons_succ])
    refine wpAnyH_take (i := 5) (oi := _) (v := ?_) rfl (by kernel_rfl) (by kernel_rfl) (by kernel_rfl) (fun _ _ _ h => h) (Or.inl ⟨by rfl, ?_⟩) (by with_reducible assumption) ?_
    rotate_left
    focus (intro w' hSw; (try dsimp only at hSw); go_simp; try (with_reducible rfl))
    (try simp only [Act.put, List.getElem_toArray, List.getElem_cons_zero, List.getElem_cons_succ, List.setIfInBounds_toArray, List.set_cons_zero, List.set_cons_succ])
    refine wpAnyH_take (i := 6) (oi := _) (v := ?_) rfl (by kernel_rfl) (by kernel_rfl) (by kernel_rfl) (fun _ _ _ h => h) (Or.inl ⟨by rfl, ?_⟩) (by with_reducible assumption) ?_
    rotate_left
    focus (intro w' hSw; (try dsimp only at hSw); go_simp; try (with_reducible rfl))
    (try simp only [Act.put, List.getElem_toArray, List.getElem_cons_zero, List.getElem_cons_succ, List.setIfInBounds_toArray, List.set_cons_zero, List.set_cons_succ])
    refine wpAnyH_take (i := 7) (oi := _) (v := ?_) rfl (by kernel_rfl) (by kernel_rfl) (by kernel_rfl) (fun _ _ _ h => h) (Or.inl ⟨by rfl, ?_⟩) (by with_reducible assumption) ?_
    rotate_left
    focus (intro w' hSw; (try dsimp only at hSw); go_simp; try (with_reducible rfl))
    (try simp only [Act.put, List.getElem_toArray, List.getElem_cons_zero, List.getElem_cons_succ, List.setIfInBounds_toArray, List.set_cons_zero, List.set_cons_succ])
    refine wpAnyH_take (i := 8) (oi := _) (v := ?_) rfl (by kernel_rfl) (by kernel_rfl) (by kernel_rfl) (fun _ _ _ h => h) (Or.inl ⟨by rfl, ?_⟩) (by with_reducible assumption) ?_
    rotate_left
    focus (intro w' hSw; (try dsimp only at hSw); go_simp; try (with_reducible rfl))
    (try simp only [Act.put, List.getElem_toArray, List.getElem_cons_zero, List.getElem_cons_succ, List.setIfInBounds_toArray, List.set_cons_zero, List.set_cons_succ])
    refine wpAnyH_take (i := 9) (oi := _) (v := ?_) rfl (by kernel_rfl) (by kernel_rfl) (by kernel_rfl) (fun _ _ _ h => h) (Or.inl ⟨by rfl, ?_⟩) (by with_reducible assumption) ?_
    rotate_left
    focus (intro w' hSw; (try dsimp only at hSw); go_simp; try (with_reducible rfl))
    (try simp only [Act.put, List.getElem_toArray, List.getElem_cons_zero, List.getElem_cons_succ, List.setIfInBounds_toArray, List.set_cons_zero, List.set_cons_succ])
    refine wpAnyH_take (i := 10) (oi := _) (v := ?_) rfl (by kernel_rfl) (by kernel_rfl) (by kernel_rfl) (fun _ _ _ h => h) (Or.inl ⟨by rfl, ?_⟩) (by with_reducible assumption) ?_
    rotate_left
    focus (intro w' hSw; (try dsimp only at hSw); go_simp; try (with_reducible rfl))
    (try simp only [Act.put, List.getElem_toArray, List.getElem_cons_zero, List.getElem_cons_succ, List.setIfInBounds_toArray, List.set_cons_zero, List.set_cons_succ])
    refine wpAnyH_take (i := 11) (oi := _) (v := ?_) rfl (by kernel_rfl) (by kernel_rfl) (by kernel_rfl) (fun _ _ _ h => h) (Or.inl ⟨by rfl, ?_⟩) (by with_reducible assumption) ?_
    rotate_left
    focus (intro w' hSw; (try dsimp only at hSw); go_simp; try (with_reducible rfl))
    (try simp only [Act.put, List.getElem_toArray, List.getElem_cons_zero, List.getElem_cons_succ, List.setIfInBounds_toArray, List.set_cons_zero, List.set_cons_succ])
    refine wpAnyH_take (i := 12) (oi := _) (v := ?_) rfl (by kernel_rfl) (by kernel_rfl) (by kernel_rfl) (fun _ _ _ h => h) (Or.inl ⟨by rfl, ?_⟩) (by with_reducible assumption) ?_
    rotate_left
    focus (intro w' hSw; (try dsimp only at hSw); go_simp; try (with_reducible rfl))
    (try simp only [Act.put, List.getElem_toArray, List.getElem_cons_zero, List.getElem_cons_succ, List.setIfInBounds_toArray, List.set_cons_zero, List.set_cons_succ])
    refine wpAnyH_take (i := 13) (oi := _) (v := ?_) rfl (by kernel_rfl) (by kernel_rfl) (by kernel_rfl) (fun _ _ _ h => h) (Or.inl ⟨by rfl, ?_⟩) (by with_reducible assumption) ?_
    rotate_left
    focus (intro w' hSw; (try dsimp only at hSw); go_simp; try (with_reducible rfl))
    (try simp only [Act.put, List.getElem_toArray, List.getElem_cons_zero, List.getElem_cons_succ, List.setIfInBounds_toArray, List.set_cons_zero, List.set_cons_succ])
    refine wpAnyH_take (i := 14) (oi := _) (v := ?_) rfl (by kernel_rfl) (by kernel_rfl) (by kernel_rfl) (fun _ _ _ h => h) (Or.inl ⟨by rfl, ?_⟩) (by with_reducible assumption) ?_
    rotate_left
    focus (intro w' hSw; (try dsimp only at hSw); go_simp; try (with_reducible rfl))
    (try simp only [Act.put, List.getElem_toArray, List.getElem_cons_zero, List.getElem_cons_succ, List.setIfInBounds_toArray, List.set_cons_zero, List.set_cons_succ])
    refine wpAnyH_take (i := 15) (oi := _) (v := ?_) rfl (by kernel_rfl) (by kernel_rfl) (by kernel_rfl) (fun _ _ _ h => h) (Or.inl ⟨by rfl, ?_⟩) (by with_reducible assumption) ?_
    rotate_left
    focus (intro w' hSw; (try dsimp only at hSw); go_simp; try (with_reducible rfl))
    (try simp only [Act.put, List.getElem_toArray, List.getElem_cons_zero, List.getElem_cons_succ, List.setIfInBounds_toArray, List.set_cons_zero, List.set_cons_succ])
    refine wpAnyH_take (i := 16) (oi := _) (v := ?_) rfl (by kernel_rfl) (by kernel_rfl) (by kernel_rfl) (fun _ _ _ h => h) (Or.inl ⟨by rfl, ?_⟩) (by with_reducible assumption) ?_
    rotate_left
    focus (intro w' hSw; (try dsimp only at hSw); go_simp; try (with_reducible rfl))
    (try simp only [Act.put, List.getElem_toArray, List.getElem_cons_zero, List.getElem_cons_succ, List.setIfInBounds_toArray, List.set_cons_zero, List.set_cons_succ])
    refine wpAnyH_take (i := 17) (oi := _) (v := ?_) rfl (by kernel_rfl) (by kernel_rfl) (by kernel_rfl) (fun _ _ _ h => h) (Or.inl ⟨by rfl, ?_⟩) (by with_reducible assumption) ?_
    rotate_left
    focus (intro w' hSw; (try dsimp only at hSw); go_simp; try (with_reducible rfl))
    (try simp only [Act.put, List.getElem_toArray, List.getElem_cons_zero, List.getElem_cons_succ, List.setIfInBounds_toArray, List.set_cons_zero, List.set_cons_succ])
    refine wpAnyH_done (by kernel_rfl) ?_ _
    clear hHeld
    go_wp2
    go_ret
    exact ⟨rfl, eX⟩
  · rw [ep]
    show Calls _ _ #[_, _, .agg #[.int .i64 (-1), .int .i64 (j : Int), .int .i64 (plP d j).net, .bool (plP d j).drv]] _ fun e w' => e = .returned (.int .i64 0) ∧ _
    generalize (plP d j).net = nn
    generalize (plP d j).drv = dd
    clear hfi hfl HI HL ep e0 e1 e2 el hk hd hsz hcn hlib h hnm
    go_enter Tryz.func60, Tryz.ntmps60
    go_wp2
    go_ret
    exact ⟨rfl, eX⟩
end Go.Proofs.YtodgpjolkfkcpaaGreat
