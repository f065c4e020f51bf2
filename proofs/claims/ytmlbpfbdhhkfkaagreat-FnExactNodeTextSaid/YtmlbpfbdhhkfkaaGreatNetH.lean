/-
The model's functions over designs.
-/
import Derived.Test.YtmlbpfbdhhkfkaaGreatNetG
import Derived.Deep.RegionHeld3
namespace Go.Proofs.YtmlbpfbdhhkfkaaGreat
open Go.ChangeShapes Go.WideShapes Go.ChangeAt Go.RowKit Go.Deep
set_option linter.unusedVariables false
set_option linter.unusedSimpArgs false
set_option maxRecDepth 100000
theorem names_sizeH {nm : Nat → ByteArray} {n i : Nat} (h : namesB nm n = true) (hi : i < n) : (nm i).size ≤ 8 := by
 simp only [namesB, Bool.and_eq_true] at h
 have := allB_get (p := fun i => nameB (nm i)) h.1 i hi
 simp only [nameB, Bool.and_eq_true, decide_eq_true_eq] at this
 exact this.1.2
theorem pin_nameH {c : CellD} (h : cellB c = true) {k : Nat} (hk : k < c.pins.length) : (pn c.pins k).name.size ≤ 8 := by
 have h2 := (pins_get (cell_get h).1).2.2.1 k hk
 unfold pinOk at h2
 simp only [Bool.and_eq_true] at h2
 have := h2.1.1
 simp only [nameB, Bool.and_eq_true, decide_eq_true_eq] at this
 exact this.1.2
set_option maxHeartbeats 8000000 in
theorem specName5_any (v : Value) (f : Nat → Value) (ts : List CellD) (d : DesD) (k : Nat) (w : World) (hl : CellsS w w.heap.size v ts) (h : DesF w w.heap.size f d) (hd : desB ts d = true) (hk : k < (places ts d).length) :
  Calls Tryz.prog 106 #[.agg #[v], .agg #[f 0, f 1, f 2], .agg #[.int .i64 (pll (places ts d) k).inst, .int .i64 (pll (places ts d) k).pin, .int .i64 (pll (places ts d) k).net, .bool (pll (places ts d) k).drv]] w fun e w' => e = .returned (.string (pll (places ts d) k).name) ∧ Below w.heap.size w w' := by
 obtain ⟨hlib, hsz, hnm, hcn, _⟩ := desG hd
 obtain ⟨a1, c1, e1⟩ := h.2.1.slice
 obtain ⟨Fi, hci, hfi⟩ := h.1
 obtain ⟨Fp, hcp, hfp⟩ := h.2.2
 obtain ⟨Fl, hcl, hfl⟩ := hl
 have HI := hci; have HP := hcp; have HL := hcl
 obtain ⟨_, a0, c0, e0, _⟩ := hci
 obtain ⟨_, a2, c2, e2, _⟩ := hcp
 obtain ⟨_, al, cl, el, _⟩ := hcl
 rw [e0] at HI; rw [e2] at HP; rw [el] at HL
 rw [el, e0, e1, e2]
 rcases pll_cases hk with ⟨i, j, hi, hj, ep⟩ | ⟨j, hj, ep⟩
 ·rw [ep]
  obtain ⟨i1, i2, hnp, _⟩ := conn_inst hcn hi
  have hcell := lib_cell hlib i1 i2
  simp only [hasNm, Bool.and_eq_true] at hnm
  have s1 := names_sizeH (nm := fun i => (inn d.insts i).name) hnm.1.1 hi
  have s2 := pin_nameH hcell hj
  obtain ⟨x, hx⟩ : ∃ x, x = inn d.insts i := ⟨_, rfl⟩
  obtain ⟨b, off, rfl, hlt, hxx⟩ := HI.at (Below.refl _ _) hi
  have y0 := hxx 0 (by omega); have y1 := hxx 1 (by omega); have y2 := hxx 2 (by omega)
  simp only [Nat.add_zero] at y0
  have ⟨g0, g1, g2, _⟩ := hfi i hi
  obtain ⟨p2, q2, e2'⟩ := g2.slice
  rw [g0] at y0; rw [g1] at y1; rw [e2'] at y2
  obtain ⟨kc, hkc⟩ := Int.eq_ofNat_of_zero_le i1
  have hkl : kc < ts.length := by omega
  rw [hkc] at y1
  obtain ⟨bl, offl, rfl, hltl, hxl⟩ := HL.at (Below.refl _ _) hkl
  have z2 := hxl 2 (by omega)
  have xp := (hfl kc hkl).2.2.1
  have hxc : xcell ts (inn d.insts i) = cn ts kc := by unfold xcell; rw [hkc]; rfl
  rw [hxc] at hj s2
  obtain ⟨Fq, hcq, hfq⟩ := xp
  have HQ := hcq
  obtain ⟨_, ap, cp, ep', _⟩ := hcq
  rw [ep'] at z2 HQ
  obtain ⟨bp, offp, rfl, hltp, hxp⟩ := HQ.at (Below.refl _ _) hj
  have u0 := hxp 0 (by omega)
  simp only [Nat.add_zero] at u0
  rw [(hfq j hj).1] at u0
  have hI : (i : Int) < (d.insts.length : Int) := by omega
  have i00 : (0 : Int) ≤ (i : Int) := by omega
  have i0n : ¬ (i : Int) < 0 := by omega
  have hL : (kc : Int) < (ts.length : Int) := by omega
  have l00 : (0 : Int) ≤ (kc : Int) := by omega
  have hJ : (j : Int) < ((cn ts kc).pins.length : Int) := by omega
  have j00 : (0 : Int) ≤ (j : Int) := by omega
  have hR : (plI ts (inn d.insts i) i j).name = pinNm (inn d.insts i).name (pn (cn ts kc).pins j).name := by rw [← hxc]; rfl
  have HR := Lib.hid hR
  rw [hR]
  show Calls _ _ #[_, _, .agg #[.int .i64 (i : Int), .int .i64 (j : Int), .int .i64 (plI ts (inn d.insts i) i j).net, .bool (plI ts (inn d.insts i) i j).drv]] _ _
  generalize (plI ts (inn d.insts i) i j).net = nn
  generalize (plI ts (inn d.insts i) i j).drv = dd
  rw [← hx] at y0 s1 ⊢
  have su1a : x.name.size + 1 ≤ 9223372036854775807 := by omega
  have su1b : ¬ 9223372036854775807 < x.name.size + 1 := by omega
  have su1c : ¬ (9223372036854775807 : Int) < ((x.name.size : Nat) : Int) + 1 := by omega
  have su2a : x.name.size + 1 + (pn (cn ts kc).pins j).name.size ≤ 9223372036854775807 := by omega
  have su2b : ¬ 9223372036854775807 < x.name.size + 1 + (pn (cn ts kc).pins j).name.size := by omega
  have su2c : ¬ (9223372036854775807 : Int) < ((x.name.size : Nat) : Int) + 1 + (((pn (cn ts kc).pins j).name.size : Nat) : Int) := by omega
  clear hxx hxl hxp hfi hfp hfl hfq HI HP HL HQ g0 g1 g2 e2' ep' hx hkc hxc hnp i1 i2 hcell hnm ep e0 e1 e2 el hk hd hsz hcn hlib h hR HR
  have lb1 : b < w.heap.size + 1 := by omega
  have lb2 : b < w.heap.size + 1 + 1 := by omega
  have lb3 : b < w.heap.size + 1 + 1 + 1 := by omega
  have ll1 : bl < w.heap.size + 1 := by omega
  have ll2 : bl < w.heap.size + 1 + 1 := by omega
  have ll3 : bl < w.heap.size + 1 + 1 + 1 := by omega
  have lp1 : bp < w.heap.size + 1 := by omega
  have lp2 : bp < w.heap.size + 1 + 1 := by omega
  have lp3 : bp < w.heap.size + 1 + 1 + 1 := by omega
  go_enter Tryz.func106, Tryz.ntmps106
  go_wp2
  refine wp_region_held_drew (S := (fun w' => w'.cell? ⟨w.heap.size, 0, none⟩ = some (.slice (some ⟨bl, offl, none⟩) ts.length cl) ∧ w'.cell? ⟨w.heap.size + 1 + 1 + 1, 0, none⟩ = some (.string x.name) ∧ w'.cell? ⟨w.heap.size + 1 + 1 + 1, 1, none⟩ = some (.int .i64 (kc : Int)) ∧ w'.cell? ⟨w.heap.size + 1 + 1, 1, none⟩ = some (.int .i64 (j : Int)) ∧ w'.cell? ⟨bl, offl + kc * 7 + 2, none⟩ = some (.slice (some ⟨bp, offp, none⟩) (cn ts kc).pins.length cp) ∧ w'.cell? ⟨bp, offp + j * 4, none⟩ = some (.string (pn (cn ts kc).pins j).name))) (by kernel_rfl) ?_ (fun hHeld => ?_)
  ·(try dsimp only); (refine ⟨?_, ?_, ?_, ?_, ?_, ?_⟩ <;> first | (simp [go_sem]; done) | (simp [go_sem, *]; done))
  (try dsimp only at hHeld)
  refine takeH 0 (v := ?_) rfl ?_ ?_; rotate_left; focus (intro w' hSw; (try dsimp only at hSw); go_simp; try (with_reducible rfl))
  (try simp only [actP])
  refine takeH 1 (v := ?_) rfl ?_ ?_; rotate_left; focus (intro w' hSw; (try dsimp only at hSw); go_simp; try (with_reducible rfl))
  (try simp only [actP])
  refine takeH 2 (v := ?_) rfl ?_ ?_; rotate_left; focus (intro w' hSw; (try dsimp only at hSw); go_simp; try (with_reducible rfl))
  (try simp only [actP])
  refine takeH 3 (v := ?_) rfl ?_ ?_; rotate_left; focus (intro w' hSw; (try dsimp only at hSw); go_simp; try (with_reducible rfl))
  (try simp only [actP])
  refine takeH 4 (v := ?_) rfl ?_ ?_; rotate_left; focus (intro w' hSw; (try dsimp only at hSw); go_simp; try (with_reducible rfl))
  (try simp only [actP])
  refine takeH 5 (v := ?_) rfl ?_ ?_; rotate_left; focus (intro w' hSw; (try dsimp only at hSw); go_simp; try (with_reducible rfl))
  (try simp only [actP])
  refine takeH 6 (v := ?_) rfl ?_ ?_; rotate_left; focus (intro w' hSw; (try dsimp only at hSw); go_simp; try (with_reducible rfl))
  (try simp only [actP])
  refine takeH 7 (v := ?_) rfl ?_ ?_; rotate_left; focus (intro w' hSw; (try dsimp only at hSw); go_simp; try (with_reducible rfl))
  (try simp only [actP])
  refine takeH 8 (v := ?_) rfl ?_ ?_; rotate_left; focus (intro w' hSw; (try dsimp only at hSw); go_simp; try (with_reducible rfl))
  (try simp only [actP])
  refine takeH 9 (v := ?_) rfl ?_ ?_; rotate_left; focus (intro w' hSw; (try dsimp only at hSw); go_simp; try (with_reducible rfl))
  (try simp only [actP])
  refine takeH 10 (v := ?_) rfl ?_ ?_; rotate_left; focus (intro w' hSw; (try dsimp only at hSw); go_simp; try (with_reducible rfl))
  (try simp only [actP])
  refine takeH 11 (v := ?_) rfl ?_ ?_; rotate_left; focus (intro w' hSw; (try dsimp only at hSw); go_simp; try (with_reducible rfl))
  (try simp only [actP])
  refine takeH 12 (v := ?_) rfl ?_ ?_; rotate_left; focus (intro w' hSw; (try dsimp only at hSw); go_simp; try (with_reducible rfl))
  (try simp only [actP])
  refine takeH 13 (v := ?_) rfl ?_ ?_; rotate_left; focus (intro w' hSw; (try dsimp only at hSw); go_simp; try (with_reducible rfl))
  (try simp only [actP])
  refine takeH 14 (v := ?_) rfl ?_ ?_; rotate_left; focus (intro w' hSw; (try dsimp only at hSw); go_simp; try (with_reducible rfl))
  (try simp only [actP])
  refine takeH 15 (v := ?_) rfl ?_ ?_; rotate_left; focus (intro w' hSw; (try dsimp only at hSw); go_simp; try (with_reducible rfl))
  (try simp only [actP])
  refine takeH 16 (v := ?_) rfl ?_ ?_; rotate_left; focus (intro w' hSw; (try dsimp only at hSw); go_simp; try (with_reducible rfl))
  (try simp only [actP])
  refine wpAnyH_done (by kernel_rfl) ?_ _
  clear hHeld
  go_wp2
  go_ret
  exact ⟨rfl, eX⟩
 ·rw [ep]
  obtain ⟨b, off, rfl, hlt, hxx⟩ := HP.at (Below.refl _ _) hj
  have y0 := hxx 0 (by omega)
  simp only [Nat.add_zero] at y0
  rw [(hfp j hj).1] at y0
  have hJ : (j : Int) < (d.ports.length : Int) := by omega
  have j00 : (0 : Int) ≤ (j : Int) := by omega
  show Calls _ _ #[_, _, .agg #[.int .i64 (-1), .int .i64 (j : Int), .int .i64 (plP d j).net, .bool (plP d j).drv]] _ fun e w' => e = .returned (.string (ptn d.ports j).name) ∧ _
  generalize (plP d j).net = nn
  generalize (plP d j).drv = dd
  clear hxx hfi hfp hfl HI HP HL ep e0 e1 e2 el hk hd hsz hcn hlib h hnm
  have lb1 : b < w.heap.size + 1 := by omega
  have lb2 : b < w.heap.size + 1 + 1 := by omega
  have lb3 : b < w.heap.size + 1 + 1 + 1 := by omega
  go_enter Tryz.func106, Tryz.ntmps106
  go_wp2
  go_ret
  exact ⟨rfl, eX⟩
end Go.Proofs.YtmlbpfbdhhkfkaaGreat
