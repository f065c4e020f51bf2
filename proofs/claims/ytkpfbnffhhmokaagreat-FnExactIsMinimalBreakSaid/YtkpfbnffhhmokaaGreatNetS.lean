/-
The model's IsDesign, for every library and design.
-/
import Derived.Test.YtkpfbnffhhmokaaGreatNetM
import Derived.Test.YtkpfbnffhhmokaaGreatLibS
import Derived.Test.YtkpfbnffhhmokaaGreatGrow
namespace Go.Proofs.YtkpfbnffhhmokaaGreat
open Go.ChangeShapes Go.WideShapes Go.ChangeAt Go.RowKit Go.Deep
set_option linter.unusedVariables false
set_option linter.unusedSimpArgs false
set_option maxRecDepth 100000
def strC (s : ByteArray) : List Value := [.string s]
theorem GR_TxS {w : World} {base : Nat} {t : TypeId} {v : Value} {us : List ByteArray} (h : GR w base t 1 v (us.map strC)) (hl : us.length ≤ 1048576) (hs : ∀ i, i < us.length → (sn us i).size ≤ 9223372036854775807) : TxS w w.heap.size v us := by
 have hl' : (us.map strC).length = us.length := List.length_map _
 have hc := (h.out (by omega) (by rw [hl']; exact hl)).cells
 rw [hl'] at hc
 refine ⟨⟨_, hc, fun i hi => ?_⟩, hs⟩
 have e : (us.map strC).getD i [] = strC (sn us i) := by simp [List.getD, sn, hi]
 simp only [e]
 rfl
theorem GR.len {w : World} {base : Nat} {t : TypeId} {a : Option Addr} {m cap : Nat} {fs : List (List Value)} (h : GR w base t 1 (.slice a m cap) fs) : m = fs.length := by
 rcases h.1.2 with ⟨e, h0⟩ | ⟨g, cap', cur, e, _⟩
 ·cases e; exact h0.symm
 ·cases e; rfl
/-- A row of numbers, one known by one. -/
def DR (w : World) (g n : Nat) (F : Nat → Int) : Prop := ∀ i, i < n → w.cell? ⟨g, i, none⟩ = some (.int .i64 (F i)) ∧ w.frozen? ⟨g, i, none⟩ = false
theorem DR.made {w : World} {base g n : Nat} {e : TypeId} (h : w.ownsRow base e 1 (.slice (some ⟨g, 0, none⟩) n n) n (madeCells (Value.int .i64 0).cells (n * 1)).toList) : DR w g n (fun _ => 0) := fun i hi => by
 refine ⟨?_, h.frozenAt i⟩
 have := h.cellAt i (by omega)
 rw [this]
 have hi' : i < n * 1 := by omega
 simp [madeCells, Value.cells, hi', Nat.mod_one]
 exact ⟨i, by simp [hi]⟩
theorem DR.below {w w' : World} {g n : Nat} {F : Nat → Int} (h : DR w g n F) (hb : Below w.heap.size w w') : DR w' g n F := fun i hi => by
 obtain ⟨h0, h1⟩ := h i hi
 exact ⟨cell_keep h0 hb, by rw [hb.frozen (p := ⟨g, i, none⟩) (cell_lt h0)]; exact h1⟩
theorem DR.store {w : World} {g n k : Nat} {F : Nat → Int} {x : Int} (h : DR w g n F) (hk : k < n) : DR (w.setCell ⟨g, k, none⟩ (.int .i64 x)) g n (fun i => if i = k then x else F i) := fun i hi => by
 obtain ⟨h0, h1⟩ := h i hi
 refine ⟨?_, by rw [World.frozen?_setCell]; exact h1⟩
 by_cases e : i = k
 ·subst e
  simp [go_sem, h0]
 ·rw [World.cell?_setCell_other w _ _ _ (fun e' => e (by cases e'; rfl)), h0]
  show _ = some (Value.int .i64 (if i = k then x else F i))
  rw [if_neg e]
theorem DR.congr {w : World} {g n : Nat} {F G : Nat → Int} (h : DR w g n F) (e : ∀ i, i < n → F i = G i) : DR w g n G := fun i hi => by rw [← e i hi]; exact h i hi
theorem cellG {w w' : World} {row : Option Nat} {g o : Nat} {u : Value} (h : w.cell? ⟨g, o, none⟩ = some u) (hg : w.grownBy w' row) (hne : some g ≠ row) : w'.cell? ⟨g, o, none⟩ = some u := hg.cell h hne
theorem next_all {P : Nat → Prop} {k : Nat} (h : ∀ j, j < k → P j) (hk : P k) : ∀ j, j < k + 1 → P j := fun j hj => by
 rcases Nat.lt_or_ge j k with e | e
 ·exact h j e
 ·obtain rfl : j = k := by omega
  exact hk
theorem cntI_le (d : DesD) (n : Int) : ∀ k, cntI d n k ≤ k
 | 0 => Nat.le_refl _
 | k + 1 => by
  have := cntI_le d n k
  unfold cntI
  split <;> omega
theorem cntP_le (d : DesD) (n : Int) : ∀ k, cntP d n k ≤ k
 | 0 => Nat.le_refl _
 | k + 1 => by
  have := cntP_le d n k
  unfold cntP
  split <;> omega
theorem grownSet (w : World) (p : Addr) (u : Value) : w.grownBy (w.setCell p u) (some p.block) :=
 ⟨rfl, rfl, rfl, by simp [World.setCell], fun k _ hne => Below.heap_setCell _ _ _ _ (fun e => hne (by rw [e]))⟩
def instNm (d : DesD) (k : Nat) : List ByteArray := (List.range k).map (fun i => (inn d.insts i).name)
def portNm (d : DesD) (k : Nat) : List ByteArray := (List.range k).map (fun i => (ptn d.ports i).name)
theorem instNm_succ (d : DesD) (k : Nat) : instNm d (k + 1) = instNm d k ++ [(inn d.insts k).name] := by simp [instNm, List.range_succ]
theorem portNm_succ (d : DesD) (k : Nat) : portNm d (k + 1) = portNm d k ++ [(ptn d.ports k).name] := by simp [portNm, List.range_succ]
theorem sn_range {n i : Nat} (q : Nat → ByteArray) (h : i < n) : sn ((List.range n).map q) i = q i := by simp [sn, List.getD, h]
theorem namesB_congr {f g : Nat → ByteArray} {n : Nat} (h : ∀ i, i < n → f i = g i) : namesB f n = namesB g n := by
 have e1 : ∀ i, i < n → nameB (f i) = nameB (g i) := fun i hi => by rw [h i hi]
 have e2 : ∀ i, i < n → difN f i = difN g i := fun i hi => by
  unfold difN
  cases hq : allB (fun j => !((g j).toList == (g i).toList)) i
  ·cases hp : allB (fun j => !((f j).toList == (f i).toList)) i
   ·rfl
   ·have := allB_get hp
    rw [allB_yes (p := fun j => !((g j).toList == (g i).toList)) (fun j hj => by have := this j hj; rw [h j (by omega), h i hi] at this; exact this)] at hq
    cases hq
  ·have := allB_get hq
   exact allB_yes (fun j hj => by have := this j hj; rw [← h j (by omega), ← h i hi] at this; exact this)
 cases hg : namesB g n
 ·cases hf : namesB f n
  ·rfl
  ·unfold namesB at hf hg
   simp only [Bool.and_eq_true] at hf
   rw [allB_yes (p := fun i => nameB (g i)) (fun i hi => by rw [← e1 i hi]; exact allB_get (p := fun i => nameB (f i)) hf.1 i hi), allB_yes (p := difN g) (fun i hi => by rw [← e2 i hi]; exact allB_get hf.2 i hi)] at hg
   cases hg
 ·unfold namesB at hg ⊢
  simp only [Bool.and_eq_true] at hg ⊢
  exact ⟨allB_yes (p := fun i => nameB (f i)) (fun i hi => by rw [e1 i hi]; exact allB_get (p := fun i => nameB (g i)) hg.1 i hi), allB_yes (p := difN f) (fun i hi => by rw [e2 i hi]; exact allB_get hg.2 i hi)⟩
theorem names_inst (d : DesD) : namesB (sn (instNm d d.insts.length)) (instNm d d.insts.length).length = namesB (fun i => (inn d.insts i).name) d.insts.length := by
 have e : (instNm d d.insts.length).length = d.insts.length := by simp [instNm]
 rw [e]
 exact namesB_congr (fun i hi => sn_range _ hi)
theorem names_port (d : DesD) : namesB (sn (portNm d d.ports.length)) (portNm d d.ports.length).length = namesB (fun i => (ptn d.ports i).name) d.ports.length := by
 have e : (portNm d d.ports.length).length = d.ports.length := by simp [portNm]
 rw [e]
 exact namesB_congr (fun i hi => sn_range _ hi)
theorem Tryz.infoStr : (Tryz.prog.info? 9).map (fun i => (i.zero, i.size, i.bytes)) = some (some (.string .empty), 1, 16) := by kernel_rfl
theorem Tryz.infoInt5 : (Tryz.prog.info? 2).map (fun i => (i.zero, i.size, i.bytes)) = some (some (.int .i64 0), 1, 8) := by kernel_rfl
set_option maxHeartbeats 16000000 in
theorem specIsDesign_any (v : Value) (f : Nat → Value) (ts : List CellD) (d : DesD) (w : World) (hl : CellsS w w.heap.size v ts) (h : DesF w w.heap.size f d) :
  Calls Tryz.prog 115 #[.agg #[v], .agg #[f 0, f 1, f 2]] w fun e w' => e = .returned (.bool (desB ts d)) ∧ Below w.heap.size w w' := by
 obtain ⟨i0, hi, hz0, hz1, hz2⟩ := info_parts Tryz.infoStr
 obtain ⟨jj0, hjj, hy0, hy1, hy2⟩ := info_parts Tryz.infoInt5
 have C0 := lh (fun (w1 : World) (hb : Below w.heap.size w w1) => specIsLibrary_any v ts w1 (hl.up hb))
 have C1 := lh (fun (w1 : World) (hb : Below w.heap.size w w1) => specParts_any v ts f d w1 (hl.up hb) (h.up hb))
 have C2 := lh (fun (w1 : World) (hb : Below w.heap.size w w1) => specNames_any (f 1) d.nets w1 (h.2.1.up hb))
 obtain ⟨al, cl, el⟩ := hl.slice
 obtain ⟨a1, c1, e1⟩ := h.2.1.slice
 have L1 := h.2.1.len
 obtain ⟨Fi, hci, hfi⟩ := h.1
 obtain ⟨Fp, hcp, hfp⟩ := h.2.2
 have HI := hci; have HP := hcp
 obtain ⟨hn, a0, c0, e0, _⟩ := hci
 obtain ⟨hc', a2, c2, e2, _⟩ := hcp
 rw [e0] at HI; rw [e2] at HP
 rw [el, e0, e1, e2] at C1
 rw [el] at C0; rw [e1] at C2
 rw [el, e0, e1, e2]
 have HI := lh HI; have HP := lh HP
 have HFI := lh hfi; have HFP := lh hfp
 clear hfi hfp el e0 e1 e2 hl h
 obtain ⟨n, hnn⟩ : ∃ n, n = d.insts.length := ⟨_, rfl⟩
 obtain ⟨m, hmm⟩ : ∃ m, m = d.nets.length := ⟨_, rfl⟩
 obtain ⟨c, hcc⟩ : ∃ c, c = d.ports.length := ⟨_, rfl⟩
 have NN := lh hnn; have MM := lh hmm; have CC := lh hcc
 rw [← hnn] at HI HFI hn C1 ⊢; rw [← hmm] at C1 C2 L1 ⊢; rw [← hcc] at HP HFP hc' C1 ⊢
 clear hnn hmm hcc
 cases b0 : libB ts
 ·have hQ := lh (show desB ts d = false by simp [desB, b0])
  rw [b0] at C0
  clear b0
  go_enter Tryz.func115, Tryz.ntmps115
  go_wp2_with (go_at_call 144; refine (C0.out _ eX).mono ?_; rintro e w1 ⟨rfl, hb⟩; have ⟨hc, hf⟩ := bcell hb; have hz := hb.size; (try simp at hz); (try have hz := Nat.lt_of_succ_le hz); (try have y0 := wy w w1); (try have z0 := wz0 w w1); (try have z1 := wz1 w w1); (try have z2 := wz2 w w1); (try have z3 := wz3 w w1); (try have z4 := wz4 w w1); (try have x0 := wz0 wc w1); (try have x1 := wy wc w1))
  rw [hQ.out]
  go_ret
  exact ⟨rfl, eX⟩
 ·rw [b0] at C0
  by_cases s0 : n ≤ 14
  ·have s0' : ¬ (14 : Int) < (n : Int) := by omega
   by_cases s1 : m ≤ 30
   ·have s1' : ¬ (30 : Int) < (m : Int) := by omega
    by_cases s2 : c ≤ 8
    ·have s2' : ¬ (8 : Int) < (c : Int) := by omega
     have hsz : sizesB d = true := by simp [sizesB, ← NN.out, ← MM.out, ← CC.out, s0, s1, s2]
     cases b1 : connB ts d
     ·have hQ := lh (show desB ts d = false by simp [desB, b1])
      rw [b1] at C1
      clear b0 b1 hsz
      go_enter Tryz.func115, Tryz.ntmps115
      go_wp2_with (first | (go_at_call 144; refine (C0.out _ eX).mono ?_; rintro e w1 ⟨rfl, hb⟩; have ⟨hc, hf⟩ := bcell hb; have hz := hb.size; (try simp at hz); (try have hz := Nat.lt_of_succ_le hz); (try have y0 := wy w w1); (try have z0 := wz0 w w1); (try have z1 := wz1 w w1); (try have z2 := wz2 w w1); (try have z3 := wz3 w w1); (try have z4 := wz4 w w1); (try have x0 := wz0 wc w1); (try have x1 := wy wc w1)) | (go_at_call 145; refine (C1.out _ eX).mono ?_; rintro e w1 ⟨rfl, hb⟩; have ⟨hc, hf⟩ := bcell hb; have hz := hb.size; (try simp at hz); (try have hz := Nat.lt_of_succ_le hz); (try have y0 := wy w w1); (try have z0 := wz0 w w1); (try have z1 := wz1 w w1); (try have z2 := wz2 w w1); (try have z3 := wz3 w w1); (try have z4 := wz4 w w1); (try have x0 := wz0 wc w1); (try have x1 := wy wc w1)))
      rw [hQ.out]
      go_ret
      exact ⟨rfl, eX⟩
     ·rw [b1] at C1
      have HD := lh (show desB ts d = (hasNm d && drvB ts d) by simp [desB, b0, hsz, b1])
      have HDR := lh (drv_is b0 b1)
      have HCN := lh b1
      have HLB := lh b0
      clear b0 b1 hsz
      go_enter Tryz.func115, Tryz.ntmps115
      go_wp2_with (first | (go_at_call 144; refine (C0.out _ eX).mono ?_; rintro e w1 ⟨rfl, hb⟩; have ⟨hc, hf⟩ := bcell hb; have hz := hb.size; (try simp at hz); (try have hz := Nat.lt_of_succ_le hz); (try have y0 := wy w w1); (try have z0 := wz0 w w1); (try have z1 := wz1 w w1); (try have z2 := wz2 w w1); (try have z3 := wz3 w w1); (try have z4 := wz4 w w1); (try have x0 := wz0 wc w1); (try have x1 := wy wc w1)) | (go_at_call 145; refine (C1.out _ eX).mono ?_; rintro e w1 ⟨rfl, hb⟩; have ⟨hc, hf⟩ := bcell hb; have hz := hb.size; (try simp at hz); (try have hz := Nat.lt_of_succ_le hz); (try have y0 := wy w w1); (try have z0 := wz0 w w1); (try have z1 := wz1 w w1); (try have z2 := wz2 w w1); (try have z3 := wz3 w w1); (try have z4 := wz4 w w1); (try have x0 := wz0 wc w1); (try have x1 := wy wc w1)))
      have q0 : w1.cell? ⟨w.heap.size + 1, 0, none⟩ = some (.slice a0 n c0) := cell_keep (w0 := (w.alloc (Obj.cells #[.slice al ts.length cl] 39)).alloc (Obj.cells #[.slice a0 n c0, .slice a1 m c1, .slice a2 c c2] 43)) (by simp [go_sem]) eX
      have q1 : w1.cell? ⟨w.heap.size + 1, 1, none⟩ = some (.slice a1 m c1) := cell_keep (w0 := (w.alloc (Obj.cells #[.slice al ts.length cl] 39)).alloc (Obj.cells #[.slice a0 n c0, .slice a1 m c1, .slice a2 c c2] 43)) (by simp [go_sem]) eX
      have q2 : w1.cell? ⟨w.heap.size + 1, 2, none⟩ = some (.slice a2 c c2) := cell_keep (w0 := (w.alloc (Obj.cells #[.slice al ts.length cl] 39)).alloc (Obj.cells #[.slice a0 n c0, .slice a1 m c1, .slice a2 c c2] 43)) (by simp [go_sem]) eX
      have bB : Below w.heap.size w w1 := eX
      have L0 := cell_lt q0
      have bA : Below w1.heap.size w1 (w1.alloc (Obj.cells #[] 9)) := (Below.refl _ _).alloc (Nat.le_refl _) _
      have R0 := lh (cell_keep q0 bA)
      have R1 := lh (cell_keep q1 bA)
      have R2 := lh (cell_keep q2 bA)
      have BW := lh (bB.trans (bA.mono bB.size))
      have G0 : Hid (GR (w1.alloc (Obj.cells #[] 9)) (w.heap.size + 1 + 1) 9 1 (.slice (some ⟨w1.heap.size, 0, none⟩) 0 0) ((instNm d 0).map strC)) := lh (GR.lit #[] [] rfl (by simp) (by omega) (by simp))
      clear q0 q1 q2 bA bB hb
      go_loopw [5, 6] (fun v i wr => ∃ (k : Nat), k ≤ n ∧ i = .int .i64 k ∧ Hid (GR wr (w.heap.size + 1 + 1) 9 1 v ((instNm d k).map strC)) ∧ wr.cell? ⟨w.heap.size + 1, 0, none⟩ = some (.slice a0 n c0) ∧ wr.cell? ⟨w.heap.size + 1, 1, none⟩ = some (.slice a1 m c1) ∧ wr.cell? ⟨w.heap.size + 1, 2, none⟩ = some (.slice a2 c c2) ∧ Below w.heap.size w wr) (fun _ i _ => n - (intOf i).toNat)
      case atStart => exact ⟨0, by omega, rfl, G0, R0.out, R1.out, R2.out, BW.out⟩
      case round =>
       clear G0 R0 R1 R2 BW
       obtain ⟨k, hk, rfl, hO, r0, r1, r2, hbw⟩ := hrel
       have hblk := hO.out.blk
       have lb := cell_lt r0
       by_cases hkn : k < n
       ·obtain ⟨b, off, e9, hlt, hx⟩ := HI.out.at hbw hkn
        subst e9
        have y0 := hx 0 (by omega)
        simp only [Nat.add_zero] at y0
        rw [(HFI.out k hkn).1] at y0
        have hI : (k : Int) < (n : Int) := by omega
        have i00 : (0 : Int) ≤ (k : Int) := by omega
        have hln : ((instNm d k).map strC).length = k := by simp [instNm]
        have HLN := lh hln
        have bA : ∀ s, Below wr.heap.size wr (wr.alloc (Obj.cells #[.string s] 9)) := fun s => (Below.refl _ _).alloc (Nat.le_refl _) _
        have HA := lh bA
        clear hx hln bA
        go_wp2_with (at_builtin; refine wpList_append_own _ rfl _ _ 26 rfl (w.heap.size + 1 + 1) 9 i0 (.string .empty) 1 16 Tryz.underlying26 hi hz0 hz1 hz2 rfl (by decide) _ _ _ rfl (hO.out.below (HA.out _)).1 ⟨wr.heap.size, 0, none⟩ 1 1 [.string (inn d.insts k).name] rfl rfl (one_cellG2 _ _ _ _ rfl) (fun u hu => by simp at hu; subst hu; rfl) (by rw [HLN.out]; unfold maxLen; omega) (by rw [HLN.out]; omega) (by simp; omega) ?_; intro v' w2 hown' hgrow hnil)
        have hg := (hO.out.below (HA.out (inn d.insts k).name)).snoc (f := strC (inn d.insts k).name) hown' rfl
        rw [show (instNm d k).map strC ++ [strC (inn d.insts k).name] = (instNm d (k + 1)).map strC by rw [instNm_succ, List.map_append]; rfl] at hg
        have hG := lh hg
        have q0 := cellG (cell_keep r0 (HA.out (inn d.insts k).name)) hgrow (fun e => by have := (hblk _ e.symm).1; omega)
        have q1 := cellG (cell_keep r1 (HA.out (inn d.insts k).name)) hgrow (fun e => by have := (hblk _ e.symm).1; omega)
        have q2 := cellG (cell_keep r2 (HA.out (inn d.insts k).name)) hgrow (fun e => by have := (hblk _ e.symm).1; omega)
        have hb2 : Below w.heap.size w w2 := (hbw.trans ((HA.out (inn d.insts k).name).mono (by omega))).grown hgrow (by simp; omega) (fun q hq => by have := (hblk q hq).1; omega)
        clear hg hown' hgrow hnil hblk r0 r1 r2 y0
        go_wp2
        go_roundw
        case rel => exact ⟨k + 1, by omega, by go_num, hG, q0, q1, q2, hb2⟩
        case measure => simp [intOf]; omega
       ·obtain rfl : k = n := by omega
        have hI : ¬ (k : Int) < (k : Int) := by omega
        have B2f : ∃ B, B = wr.heap.size := ⟨_, rfl⟩
        obtain ⟨B2, hB2⟩ := B2f
        have LB2 : w.heap.size + 1 < B2 := by rw [hB2]; exact lb
        have U5 := lh (show ∀ q, u5.ownBlock = some q → q < B2 from fun q hq => by rw [hB2]; exact (hblk q hq).2)
        have bA : Below wr.heap.size wr (wr.alloc (Obj.cells #[] 9)) := (Below.refl _ _).alloc (Nat.le_refl _) _
        have R0 := lh (cell_keep r0 bA)
        have R1 := lh (cell_keep r1 bA)
        have R2 := lh (cell_keep r2 bA)
        have BW := lh (hbw.trans (bA.mono hbw.size))
        have GI0 := lh (hO.out.below bA)
        have G0 : Hid (GR (wr.alloc (Obj.cells #[] 9)) B2 9 1 (.slice (some ⟨wr.heap.size, 0, none⟩) 0 0) ((portNm d 0).map strC)) := lh (GR.lit #[] [] rfl (by simp) (by omega) (by simp))
        have LB : B2 ≤ (wr.alloc (Obj.cells #[] 9)).heap.size := by rw [hB2]; simp
        have HB2 := lh hB2
        clear hB2 bA hO hblk
        go_wp2
        clear hbw r0 r1 r2 lb
        go_loopw [7, 8] (fun v i wr => ∃ (j : Nat), j ≤ c ∧ i = .int .i64 j ∧ Hid (GR wr B2 9 1 v ((portNm d j).map strC)) ∧ Hid (GR wr (w.heap.size + 1 + 1) 9 1 u5 ((instNm d k).map strC)) ∧ B2 ≤ wr.heap.size ∧ wr.cell? ⟨w.heap.size + 1, 0, none⟩ = some (.slice a0 k c0) ∧ wr.cell? ⟨w.heap.size + 1, 1, none⟩ = some (.slice a1 m c1) ∧ wr.cell? ⟨w.heap.size + 1, 2, none⟩ = some (.slice a2 c c2) ∧ Below w.heap.size w wr) (fun _ i _ => c - (intOf i).toNat)
        case atStart => exact ⟨0, by omega, rfl, G0, GI0, LB, R0.out, R1.out, R2.out, BW.out⟩
        case round =>
         clear G0 GI0 LB R0 R1 R2 BW
         obtain ⟨j, hj, rfl, hO, hOI, hLB, r0, r1, r2, hbw⟩ := hrel
         have hblk := hO.out.blk
         have lb := cell_lt r0
         by_cases hjc : j < c
         ·obtain ⟨b, off, e9, hlt, hx⟩ := HP.out.at hbw hjc
          subst e9
          have y0 := hx 0 (by omega)
          simp only [Nat.add_zero] at y0
          rw [(HFP.out j hjc).1] at y0
          have hJ : (j : Int) < (c : Int) := by omega
          have j0 : (0 : Int) ≤ (j : Int) := by omega
          have hln : ((portNm d j).map strC).length = j := by simp [portNm]
          have HLN := lh hln
          have bA : ∀ s, Below wr.heap.size wr (wr.alloc (Obj.cells #[.string s] 9)) := fun s => (Below.refl _ _).alloc (Nat.le_refl _) _
          have HA := lh bA
          clear hx hln bA
          go_wp2_with (at_builtin; refine wpList_append_own _ rfl _ _ 26 rfl B2 9 i0 (.string .empty) 1 16 Tryz.underlying26 hi hz0 hz1 hz2 rfl (by decide) _ _ _ rfl (hO.out.below (HA.out _)).1 ⟨wr.heap.size, 0, none⟩ 1 1 [.string (ptn d.ports j).name] rfl rfl (one_cellG2 _ _ _ _ rfl) (fun u hu => by simp at hu; subst hu; rfl) (by rw [HLN.out]; unfold maxLen; omega) (by rw [HLN.out]; omega) (by simp; omega) ?_; intro v' w2 hown' hgrow hnil)
          have hg := (hO.out.below (HA.out (ptn d.ports j).name)).snoc (f := strC (ptn d.ports j).name) hown' rfl
          rw [show (portNm d j).map strC ++ [strC (ptn d.ports j).name] = (portNm d (j + 1)).map strC by rw [portNm_succ, List.map_append]; rfl] at hg
          have hG := lh hg
          have hGI := lh (show GR w2 (w.heap.size + 1 + 1) 9 1 u5 ((instNm d k).map strC) from (hOI.out.below (HA.out (ptn d.ports j).name)).kept hgrow (fun q hq e => by have h1 := (hblk _ e).1; have h2 := U5.out q hq; omega))
          have hL2 : B2 ≤ w2.heap.size := by have := hgrow.size; simp at this; omega
          have q0 := cellG (cell_keep r0 (HA.out (ptn d.ports j).name)) hgrow (fun e => by have := (hblk _ e.symm).1; omega)
          have q1 := cellG (cell_keep r1 (HA.out (ptn d.ports j).name)) hgrow (fun e => by have := (hblk _ e.symm).1; omega)
          have q2 := cellG (cell_keep r2 (HA.out (ptn d.ports j).name)) hgrow (fun e => by have := (hblk _ e.symm).1; omega)
          have hb2 : Below w.heap.size w w2 := (hbw.trans ((HA.out (ptn d.ports j).name).mono (by omega))).grown hgrow (by simp; omega) (fun q hq => by have := (hblk q hq).1; omega)
          clear hg hown' hgrow hnil hblk r0 r1 r2 y0
          go_wp2
          go_roundw
          case rel => exact ⟨j + 1, by omega, by go_num, hG, hGI, hL2, q0, q1, q2, hb2⟩
          case measure => simp [intOf]; omega
         ·obtain rfl : j = c := by omega
          have hJ : ¬ (j : Int) < (j : Int) := by omega
          have T0 := lh (GR_TxS hOI.out (by rw [show (instNm d k).length = k by simp [instNm]]; omega) (fun i hi => by
           have hi' : i < k := by simpa [instNm] using hi
           rw [show sn (instNm d k) i = (inn d.insts i).name from sn_range _ hi']
           exact (HFI.out i hi').2.2.2))
          have T2 := lh (GR_TxS hO.out (by rw [show (portNm d j).length = j by simp [portNm]]; omega) (fun i hi => by
           have hi' : i < j := by simpa [portNm] using hi
           rw [show sn (portNm d j) i = (ptn d.ports i).name from sn_range _ hi']
           exact (HFP.out i hi').2.2.2))
          have N0 := lh (fun (w1 : World) (hb : Below wr.heap.size wr w1) => specNames_any _ _ w1 (T0.out.up hb))
          have N2 := lh (fun (w1 : World) (hb : Below wr.heap.size wr w1) => specNames_any _ _ w1 (T2.out.up hb))
          have N1 := lh (fun (w1 : World) (hb : Below wr.heap.size wr w1) => C2.out w1 (hbw.trans (hb.mono hbw.size)))
          rw [show instNm d k = instNm d d.insts.length by rw [← NN.out], names_inst] at N0
          rw [show portNm d j = portNm d d.ports.length by rw [← CC.out], names_port] at N2
          have HNM := lh (show hasNm d = (namesB (fun i => (inn d.insts i).name) d.insts.length && namesB (sn d.nets) m && namesB (fun i => (ptn d.ports i).name) d.ports.length) by rw [MM.out]; rfl)
          generalize namesB (fun i => (inn d.insts i).name) d.insts.length = bI at N0 HNM
          generalize namesB (sn d.nets) m = bN at N1 HNM
          generalize namesB (fun i => (ptn d.ports i).name) d.ports.length = bP at N2 HNM
          clear hO hOI U5 T0 T2
          cases bI
          ·have hQ := lh (show desB ts d = false by rw [HD.out, HNM.out]; rfl)
           clear HNM
           go_wp2_with (go_at_call 146; (with_reducible refine (N0.out _ eX).mono ?_); rintro e w1 ⟨rfl, hb⟩; have r0 := cell_keep r0 hb; have r1 := cell_keep r1 hb; have r2 := cell_keep r2 hb; have hz := hb.size)
           rw [hQ.out]
           go_ret
           exact ⟨rfl, eX⟩
          ·cases bP
           ·have hQ := lh (show desB ts d = false by rw [HD.out, HNM.out]; cases bN <;> rfl)
            clear HNM
            go_wp2_with (go_at_call 146; first | ((with_reducible refine (N0.out _ eX).mono ?_); rintro e w1 ⟨rfl, hb⟩; have r0 := cell_keep r0 hb; have r1 := cell_keep r1 hb; have r2 := cell_keep r2 hb; have hz := hb.size) | ((with_reducible refine (N2.out _ eX).mono ?_); rintro e w1 ⟨rfl, hb⟩; have r0 := cell_keep r0 hb; have r1 := cell_keep r1 hb; have r2 := cell_keep r2 hb; have hz := hb.size))
            rw [hQ.out]
            go_ret
            exact ⟨rfl, eX⟩
           ·cases bN
            ·have hQ := lh (show desB ts d = false by rw [HD.out, HNM.out]; rfl)
             clear HNM
             go_wp2_with (go_at_call 146; first | ((with_reducible refine (N0.out _ eX).mono ?_); rintro e w1 ⟨rfl, hb⟩; have r0 := cell_keep r0 hb; have r1 := cell_keep r1 hb; have r2 := cell_keep r2 hb; have hz := hb.size) | ((with_reducible refine (N2.out _ eX).mono ?_); rintro e w1 ⟨rfl, hb⟩; have r0 := cell_keep r0 hb; have r1 := cell_keep r1 hb; have r2 := cell_keep r2 hb; have hz := hb.size) | ((with_reducible refine (N1.out _ eX).mono ?_); rintro e w1 ⟨rfl, hb⟩; have r0 := cell_keep r0 hb; have r1 := cell_keep r1 hb; have r2 := cell_keep r2 hb; have hz := hb.size))
             rw [hQ.out]
             go_ret
             exact ⟨rfl, eX⟩
            ·have HD2 := lh (show desB ts d = drvB ts d by rw [HD.out, HNM.out]; rfl)
             clear HNM
             go_wp2_with (first | (go_at_call 146; first | ((with_reducible refine (N0.out _ eX).mono ?_); rintro e w1 ⟨rfl, hb⟩; have r0 := cell_keep r0 hb; have r1 := cell_keep r1 hb; have r2 := cell_keep r2 hb; have hz := hb.size) | ((with_reducible refine (N2.out _ eX).mono ?_); rintro e w1 ⟨rfl, hb⟩; have r0 := cell_keep r0 hb; have r1 := cell_keep r1 hb; have r2 := cell_keep r2 hb; have hz := hb.size) | ((with_reducible refine (N1.out _ eX).mono ?_); rintro e w1 ⟨rfl, hb⟩; have r0 := cell_keep r0 hb; have r1 := cell_keep r1 hb; have r2 := cell_keep r2 hb; have hz := hb.size)) | (at_make; refine wpList_make_full _ rfl _ _ 33 rfl w1.heap.size 2 jj0 (.int .i64 0) 1 Tryz.underlying33 hjj hy0 hy1 .i64 .i64 _ _ m rfl rfl rfl rfl (by rw [hy2]; omega) (by unfold maxLen; omega) (Nat.le_refl _) ?_; intro w0 hown0 hgrow0; have lbG := cell_lt r0; have hb := below_grown hgrow0; clear hgrow0; have r0 := cell_keep r0 hb; have r1 := cell_keep r1 hb; have r2 := cell_keep r2 hb; have hz := hb.size))
             have hDR := lh (DR.made hown0)
             have BW : Below w.heap.size w w0 := eX
             obtain ⟨G, hG⟩ : ∃ G, G = w1.heap.size := ⟨_, rfl⟩
             have hGlt : G < w0.heap.size ∨ m = 0 := by
              rcases Nat.eq_zero_or_pos m with e | e
              ·exact .inr e
              ·exact .inl (cell_lt (by rw [hG]; exact (hDR.out 0 e).1))
             rw [← hG] at hDR ⊢
             have HG := lh hG
             have hlG : w.heap.size + 1 < G := by rw [hG]; exact lbG
             have hm30 : m ≤ 30 := s1
             have D0 : Hid (DR w0 G m (fun q => ((cntI d (q : Int) 0 : Nat) : Int))) := lh (hDR.out.congr (fun i _ => rfl))
             have R0 := lh r0
             have R1 := lh r1
             have R2 := lh r2
             clear hDR hown0 hb hG lbG
             go_wp2
             clear r0 r1 r2
             go_loopw [11, 10] (fun _ i wr => ∃ (q : Nat), q ≤ k ∧ i = .int .i64 q ∧ Hid (DR wr G m (fun x => ((cntI d (x : Int) q : Nat) : Int))) ∧ wr.cell? ⟨w.heap.size + 1, 0, none⟩ = some (.slice a0 k c0) ∧ wr.cell? ⟨w.heap.size + 1, 2, none⟩ = some (.slice a2 j c2) ∧ Below w.heap.size w wr) (fun _ i _ => k - (intOf i).toNat)
             case atStart => exact ⟨0, by omega, rfl, D0, R0.out, R2.out, BW⟩
             case round =>
              clear D0 R0 R1 R2 BW
              obtain ⟨q, hq, rfl, hD, r0, r2, hbw⟩ := hrel
              by_cases hqk : q < k
              ·obtain ⟨b, off, e9, hlt, hx⟩ := HI.out.at hbw hqk
               subst e9
               have y2 := hx 2 (by omega)
               have x2 := (HFI.out q hqk).2.2.1
               obtain ⟨p2, q2, e2⟩ := x2.slice
               rw [e2] at y2 x2
               have hqd : q < d.insts.length := by have := NN.out; omega
               obtain ⟨i1, i2, hnp, hnet⟩ := conn_inst HCN.out hqd
               have hcl := lib_cell HLB.out i1 i2
               have h2p := (pins_get (cell_get hcl).1).1
               obtain ⟨_, _, _, ev, hni⟩ := x2
               cases ev
               obtain ⟨s, hs⟩ : ∃ s, (inn d.insts q).nets.length = s + 1 := ⟨(inn d.insts q).nets.length - 1, by omega⟩
               have hs5 : s ≤ 9223372036854775806 := by omega
               obtain ⟨bn, offn, en, hltn, hxn⟩ := hni (by omega)
               subst en
               have yn : wr.cell? ⟨bn, offn + s, none⟩ = some (.int .i64 (iv (inn d.insts q).nets s)) := by rw [hbw.cell (p := ⟨bn, offn + s, none⟩) hltn]; exact hxn s (by omega)
               have hv := hnet s (by omega)
               obtain ⟨t, ht⟩ := Int.eq_ofNat_of_zero_le hv.1
               have htm : t < m := by have := MM.out; omega
               rw [hs] at y2
               rw [ht] at yn
               obtain ⟨dq, fq⟩ := hD.out t htm
               have hcnt := cntI_le d (t : Int) q
               have hD2 := hD.out.store (x := ((cntI d (t : Int) q : Nat) : Int) + 1) htm
               have hD3 := lh (hD2.congr (G := fun x => ((cntI d (x : Int) (q + 1) : Nat) : Int)) (fun i hi => by
                simp only [cntI, hs, Nat.add_sub_cancel, ht]
                by_cases e : i = t
                ·subst e; simp
                ·have e' : ¬ ((t : Int) = (i : Int)) := by omega
                 simp [e, e']))
               have gs := grownSet wr ⟨G, t, none⟩ (.int .i64 (((cntI d (t : Int) q : Nat) : Int) + 1))
               have k0 := cellG r0 gs (by simp; omega)
               have k2 := cellG r2 gs (by simp; omega)
               have hI : (q : Int) < (k : Int) := by omega
               have i00 : (0 : Int) ≤ (q : Int) := by omega
               have hT : (t : Int) < (m : Int) := by omega
               have t0 : (0 : Int) ≤ (t : Int) := by omega
               have hsI : (s : Int) < ((s + 1 : Nat) : Int) := by omega
               have s00 : (0 : Int) ≤ (s : Int) := by omega
               have K0 := lh k0
               have K2 := lh k2
               have l0 : w.heap.size ≤ G := by omega
               clear hx i1 i2 hnp hnet hcl h2p hni hxn hv ht hD2 gs k0 k2 hs
               go_wp2
               go_roundw
               case rel => exact ⟨q + 1, by omega, by go_num, hD3, K0.out, K2.out, eX⟩
               case measure => simp [intOf]; omega
              ·obtain rfl : q = k := by omega
               have hI : ¬ (q : Int) < (q : Int) := by omega
               have R2 := lh r2
               have BW := lh hbw
               have D0 : Hid (DR wr G m (fun x => ((cntI d (x : Int) q + cntP d (x : Int) 0 : Nat) : Int))) := lh (hD.out.congr (fun i _ => rfl))
               clear hD
               go_wp2
               clear r0 r2 hbw
               go_loopw [12] (fun i wr => ∃ (u : Nat), u ≤ j ∧ i = .int .i64 u ∧ Hid (DR wr G m (fun x => ((cntI d (x : Int) q + cntP d (x : Int) u : Nat) : Int))) ∧ wr.cell? ⟨w.heap.size + 1, 2, none⟩ = some (.slice a2 j c2) ∧ Below w.heap.size w wr) (fun i _ => j - (intOf i).toNat)
               case atStart => exact ⟨0, by omega, rfl, D0, R2.out, BW.out⟩
               case round =>
                clear D0 R2 BW
                obtain ⟨u, hu, rfl, hD, r2, hbw⟩ := hrel
                by_cases huj : u < j
                ·obtain ⟨b, off, e9, hlt, hx⟩ := HP.out.at hbw huj
                 subst e9
                 have y1 := hx 1 (by omega)
                 have y2 := hx 2 (by omega)
                 have ⟨_, e1, e2, _⟩ := HFP.out u huj
                 rw [e1] at y1; rw [e2] at y2
                 have hv := (conn_port HCN.out (show u < d.ports.length by have := CC.out; omega)).2
                 obtain ⟨t, ht⟩ := Int.eq_ofNat_of_zero_le hv.1
                 have htm : t < m := by have := MM.out; omega
                 rw [ht] at y2
                 have hI : (u : Int) < (j : Int) := by omega
                 have i00 : (0 : Int) ≤ (u : Int) := by omega
                 by_cases d1 : (ptn d.ports u).dir = 1
                 ·rw [d1] at y1
                  obtain ⟨dq, fq⟩ := hD.out t htm
                  have hcnt := cntI_le d (t : Int) q
                  have hcnt2 := cntP_le d (t : Int) u
                  obtain ⟨z, hz'⟩ : ∃ z, z = cntI d (t : Int) q + cntP d (t : Int) u := ⟨_, rfl⟩
                  dsimp only at dq
                  rw [← hz'] at dq
                  have hz100 : z ≤ 100 := by omega
                  have hD2 := hD.out.store (x := (z : Int) + 1) htm
                  have hD3 := lh (hD2.congr (G := fun x => ((cntI d (x : Int) q + cntP d (x : Int) (u + 1) : Nat) : Int)) (fun i hi => by
                   simp only [cntP, d1, ht, true_and]
                   by_cases e : i = t
                   ·subst e; simp only [if_true]; omega
                   ·have e' : ¬ ((t : Int) = (i : Int)) := by omega
                    simp only [e, e', if_false]
                    omega))
                  have gs := grownSet wr ⟨G, t, none⟩ (.int .i64 ((z : Int) + 1))
                  have K2 := lh (cellG r2 gs (by simp; omega))
                  have hT : (t : Int) < (m : Int) := by omega
                  have t0 : (0 : Int) ≤ (t : Int) := by omega
                  have l0 : w.heap.size ≤ G := by omega
                  clear hx e1 e2 hv ht hD2 gs d1 hz' hcnt hcnt2
                  go_wp2
                  go_roundw
                  case rel => exact ⟨u + 1, by omega, by go_num, hD3, K2.out, eX⟩
                  case measure => simp [intOf]; omega
                 ·have d2 : ((ptn d.ports u).dir == 1) = false := by simpa using d1
                  have hD3 := lh (hD.out.congr (G := fun x => ((cntI d (x : Int) q + cntP d (x : Int) (u + 1) : Nat) : Int)) (fun i hi => by simp [cntP, d1]))
                  clear hx e1 e2 hv ht d1
                  go_wp2
                  go_roundw
                  case rel => exact ⟨u + 1, by omega, by go_num, hD3, r2, hbw⟩
                  case measure => simp [intOf]; omega
                ·obtain rfl : u = j := by omega
                 have hI : ¬ (u : Int) < (u : Int) := by omega
                 obtain ⟨Wz, hWz⟩ : ∃ W : World, W = wr := ⟨_, rfl⟩
                 subst hWz
                 go_wp2
                 go_loop [13] (fun i => ∃ (g : Nat), g ≤ m ∧ i = .int .i64 g ∧ Hid (∀ x, x < g → cntI d ((x : Nat) : Int) q + cntP d (x : Int) u = 1)) (fun i => m - (intOf i).toNat)
                 case atStart => exact ⟨0, by omega, rfl, lh (fun x hx => absurd hx (Nat.not_lt_zero x))⟩
                 case round =>
                  obtain ⟨g, hg, rfl, hall⟩ := hrel
                  by_cases hgm : g < m
                  ·obtain ⟨dq, fq⟩ := hD.out g hgm
                   dsimp only at dq
                   have hI : (g : Int) < (m : Int) := by omega
                   have i00 : (0 : Int) ≤ (g : Int) := by omega
                   by_cases one : cntI d (g : Int) q + cntP d (g : Int) u = 1
                   ·have hok := lh (next_all (P := fun x => cntI d ((x : Nat) : Int) q + cntP d (x : Int) u = 1) hall.out one)
                    rw [one] at dq
                    clear one
                    go_wp2
                    go_round
                    case rel => exact ⟨g + 1, by omega, by go_num, hok⟩
                    case measure => simp [intOf]; omega
                   ·have hQ := lh (show desB ts d = false by
                     rw [HD2.out, HDR.out]
                     refine allB_no (p := fun n : Nat => decide (cntI d n d.insts.length + cntP d n d.ports.length = 1)) (k := g) (by rw [← MM.out]; exact hgm) ?_
                     simp only [decide_eq_false_iff_not]
                     rw [← NN.out, ← CC.out]
                     exact one)
                    have one2 : (((cntI d (g : Int) q + cntP d (g : Int) u : Nat) : Int) == 1) = false := by simp only [beq_eq_false_iff_ne]; omega
                    have one3 : (((cntI d (g : Int) q + cntP d (g : Int) u : Nat) : Int) != 1) = true := by simp only [bne_iff_ne]; omega
                    generalize cntI d (g : Int) q + cntP d (g : Int) u = z at dq one2 one3
                    clear one
                    go_wp2
                    rw [hQ.out]
                    go_ret
                    exact ⟨rfl, hbw⟩
                  ·obtain rfl : g = m := by omega
                   have hI : ¬ (g : Int) < (g : Int) := by omega
                   have hQ := lh (show desB ts d = true by
                    rw [HD2.out, HDR.out]
                    refine allB_yes (p := fun n : Nat => decide (cntI d n d.insts.length + cntP d n d.ports.length = 1)) (fun x hx => ?_)
                    simp only [decide_eq_true_eq]
                    rw [← NN.out, ← CC.out]
                    exact hall.out x (by rw [MM.out]; exact hx))
                   go_wp2
                   rw [hQ.out]
                   go_ret
                   exact ⟨rfl, hbw⟩
    ·have s2' : (8 : Int) < (c : Int) := by omega
     have hQ := lh (show desB ts d = false by simp [desB, sizesB, ← CC.out, s2])
     clear b0 s2
     go_enter Tryz.func115, Tryz.ntmps115
     go_wp2_with (go_at_call 144; refine (C0.out _ eX).mono ?_; rintro e w1 ⟨rfl, hb⟩; have ⟨hc, hf⟩ := bcell hb; have hz := hb.size; (try simp at hz); (try have hz := Nat.lt_of_succ_le hz); (try have y0 := wy w w1); (try have z0 := wz0 w w1); (try have z1 := wz1 w w1); (try have z2 := wz2 w w1); (try have z3 := wz3 w w1); (try have z4 := wz4 w w1); (try have x0 := wz0 wc w1); (try have x1 := wy wc w1))
     rw [hQ.out]
     go_ret
     exact ⟨rfl, eX⟩
   ·have s1' : (30 : Int) < (m : Int) := by omega
    have hQ := lh (show desB ts d = false by simp [desB, sizesB, ← MM.out, s1])
    clear b0 s1
    go_enter Tryz.func115, Tryz.ntmps115
    go_wp2_with (go_at_call 144; refine (C0.out _ eX).mono ?_; rintro e w1 ⟨rfl, hb⟩; have ⟨hc, hf⟩ := bcell hb; have hz := hb.size; (try simp at hz); (try have hz := Nat.lt_of_succ_le hz); (try have y0 := wy w w1); (try have z0 := wz0 w w1); (try have z1 := wz1 w w1); (try have z2 := wz2 w w1); (try have z3 := wz3 w w1); (try have z4 := wz4 w w1); (try have x0 := wz0 wc w1); (try have x1 := wy wc w1))
    rw [hQ.out]
    go_ret
    exact ⟨rfl, eX⟩
  ·have s0' : (14 : Int) < (n : Int) := by omega
   have hQ := lh (show desB ts d = false by simp [desB, sizesB, ← NN.out, s0])
   clear b0 s0
   go_enter Tryz.func115, Tryz.ntmps115
   go_wp2_with (go_at_call 144; refine (C0.out _ eX).mono ?_; rintro e w1 ⟨rfl, hb⟩; have ⟨hc, hf⟩ := bcell hb; have hz := hb.size; (try simp at hz); (try have hz := Nat.lt_of_succ_le hz); (try have y0 := wy w w1); (try have z0 := wz0 w w1); (try have z1 := wz1 w w1); (try have z2 := wz2 w w1); (try have z3 := wz3 w w1); (try have z4 := wz4 w w1); (try have x0 := wz0 wc w1); (try have x1 := wy wc w1))
   rw [hQ.out]
   go_ret
   exact ⟨rfl, eX⟩
end Go.Proofs.YtkpfbnffhhmokaaGreat
