/-
A place is added to a netlist under construction.
-/
import Derived.Test.YtkpfbnffhhmokaaGreatEnds
import Derived.Test.YtkpfbnffhhmokaaGreatNum
import Derived.Maps.AppendAt
import Derived.Deep.RegionHeld3
namespace Go.Proofs.YtkpfbnffhhmokaaGreat
open Go.ChangeShapes Go.WideShapes Go.ChangeAt Go.RowKit Go.Deep
set_option linter.unusedVariables false
set_option linter.unusedSimpArgs false
set_option maxRecDepth 100000
/-- append, at the operation, with the place where the new slice lies. -/
theorem wp_append_at {P : Program} (w : World) {o : Oper} {a : Act} {K : Act → World → Prop} {Q : Exit → Act → World → Prop} (s x : Operand) (t : TypeId)
  (ho : o.op = .call { callee := .builtin .append, args := #[s, x], argTypes := #[t, t] })
  (base : Nat) (e : TypeId) (i : TypeInfo) (z : Value) (size bytes : Nat) (ht : P.underlying t = some (.slice e)) (hi : P.info? e = some i) (hz : i.zero = some z)
  (hsize : i.size = size) (hby : i.bytes = bytes) (hzs : z.cells.size = size) (hsz : 0 < size)
  (v : Value) (n : Nat) (xs : List Value) (hs : a.eval s = v) (hown : w.ownsRow base e size v n xs)
  (ad : Addr) (m c : Nat) (news : List Value) (hx : a.eval x = .slice (some ad) m c) (hl : news.length = m * size) (hnews : ∀ j u, news[j]? = some u → w.cell? (ad.add j) = some u) (h1 : ∀ u ∈ news, u.oneCell' = true)
  (h63 : n + m ≤ maxLen) (hbytes : (n + m) * bytes ≤ 140737488355328) (hbase : base ≤ w.heap.size)
  (h : ∀ v' w', w'.ownsRow base e size v' (n + m) (xs ++ news) → w.grownBy w' v.ownBlock → (v' = .slice none 0 0 ↔ v = .slice none 0 0 ∧ m = 0) → (v'.ownBlock = v.ownBlock ∨ v'.ownBlock = some w.heap.size) → K (a.put o.dst v') w') : o.wp P a w K Q := by
 obtain ⟨v', w', hr, h2, h3, h4, h5⟩ := run_append_own_at (P := P) w base t o.type e i z size bytes ht hi hz hsize hby hzs hsz v n xs hown ad m c news hl hnews h1 h63 hbytes hbase
 unfold Oper.wp execOp
 simp only [ho, resolve, invoke, builtin, Sem.run_bind, Sem.run_pure, Result.andThen_ok, List.map_toArray, List.map_cons, List.map_nil, hs, hx, hr]
 exact h v' w' h2 h3 h4 h5
/-- From w to w' only blocks N and B, rows of numbers and of places, and new blocks have changed, none below L. -/
structure Fr (w w' : World) (L N B : Nat) : Prop where
 low : Below L w w'
 typ : ∀ k o, w.heap[k]? = some o → k ≠ N → k ≠ B → (∀ cs z, o ≠ .cells cs 2 z) → (∀ cs z, o ≠ .cells cs 257 z) → w'.heap[k]? = some o
theorem Fr.refl (w : World) (L N B : Nat) : Fr w w L N B := ⟨Below.refl _ _, fun _ _ h _ _ _ _ => h⟩
theorem Fr.trans {a b c : World} {L N B : Nat} (h : Fr a b L N B) (k : Fr b c L N B) : Fr a c L N B := ⟨h.low.trans k.low, fun i o h0 h1 h2 h3 h4 => k.typ i o (h.typ i o h0 h1 h2 h3 h4) h1 h2 h3 h4⟩
theorem Fr.drew {a b : World} {L N B : Nat} (h : Fr a b L N B) : Fr a b.drew L N B := ⟨h.low.drew, fun i o h0 h1 h2 h3 h4 => h.typ i o h0 h1 h2 h3 h4⟩
theorem Fr.grown {w w' : World} {L N B : Nat} {row : Option Nat} (hg : w.grownBy w' row) (hL : L ≤ w.heap.size) (hr : ∀ k, row = some k → L ≤ k ∧ (k = N ∨ k = B ∨ RowT w row 2 ∨ RowT w row 257)) : Fr w w' L N B := by
 refine ⟨(Below.refl L w).grown hg hL (fun k hk => (hr k hk).1), fun k o h0 h1 h2 h3 h4 => ?_⟩
 have hlt : k < w.heap.size := (Array.getElem?_eq_some_iff.1 h0).1
 rw [hg.block k hlt ?_]
 ·exact h0
 ·intro e
  rcases (hr k e.symm).2 with e1 | e1 | e1 | e1
  ·exact h1 e1
  ·exact h2 e1
  ·obtain ⟨cur, q⟩ := e1 k e.symm
   rw [h0] at q
   exact h3 cur (0, 0) (Option.some.inj q)
  ·obtain ⟨cur, q⟩ := e1 k e.symm
   rw [h0] at q
   exact h4 cur (0, 0) (Option.some.inj q)
theorem one_at {w : World} {g : Nat} {u : Value} (h : w.cell? ⟨g, 0, none⟩ = some u) : ∀ j x, [u][j]? = some x → w.cell? ((⟨g, 0, none⟩ : Addr).add j) = some x := by
 intro j x hj
 have e : (⟨g, 0, none⟩ : Addr).add j = ⟨g, j, none⟩ := by simp [Addr.add]; exact fun h => h.symm
 rw [e]
 match j with
 | 0 => simpa [h] using hj
 | j + 1 => simp at hj
theorem two_new (w : World) (o o' : Obj) : ((w.alloc o).alloc o').drew.heap[w.heap.size + 1]? = some o' := by
 have e : (w.alloc o).heap.size = w.heap.size + 1 := by simp
 rw [← e]
 exact heap_alloc_new (w.alloc o) o'
theorem one_new (w : World) (o o' : Obj) : ((w.alloc o).alloc o').drew.heap[w.heap.size]? = some o := by
 have hb : Below (w.alloc o).heap.size (w.alloc o) ((w.alloc o).alloc o') := (Below.refl _ _).alloc (Nat.le_refl _) _
 have := hb.block w.heap.size (by simp)
 rw [heap_alloc_new] at this
 exact this
theorem own_slice {w : World} {base n c : Nat} {e : TypeId} {v : Value} {xs : List Value} (h : w.ownsRow base e c v n xs) : ∃ a cap, v = .slice a n cap := by
 rcases h.2 with ⟨rfl, h0⟩ | ⟨g, cap, cur, rfl, _⟩
 ·exact ⟨none, 0, by rw [h0]⟩
 ·exact ⟨_, _, rfl⟩
theorem cell_set_same (w : World) {g o : Nat} {u x : Value} (h : w.cell? ⟨g, o, none⟩ = some u) : (w.setCell ⟨g, o, none⟩ x).cell? ⟨g, o, none⟩ = some x := by simp [go_sem, h]
theorem cell_grown1 {w : World} {g o o' : Nat} {u x : Value} (h : w.cell? ⟨g, o, none⟩ = some u) (hne : o' ≠ o) : (w.setCell ⟨g, o', none⟩ x).cell? ⟨g, o, none⟩ = some u := by
 rw [World.cell?_setCell_other w _ _ x (fun e => hne (by cases e; rfl))]
 exact h
theorem endsL_le (P : List PlD) (n : Int) (d : Bool) : (endsL P n d).length ≤ P.length := by
 unfold endsL
 rw [List.length_map]
 exact Nat.le_trans (List.length_filter_le _ _) (by simp)
theorem grown_none {w w' : World} (hb : Below w.heap.size w w') (row : Option Nat) : w.grownBy w' row := ⟨hb.os, hb.tape, hb.output, hb.size, fun k hk _ => hb.block k hk⟩
theorem fr_below {w w' : World} {L N B : Nat} (hb : Below w.heap.size w w') (hL : L ≤ w.heap.size) : Fr w w' L N B := Fr.grown (row := none) (grown_none hb none) hL (fun k h => by cases h)
theorem grown_map {w : World} {B : Nat} {es es' : Array MapEntry} {c c' : Nat} (h : w.heap[B]? = some (.map es c)) : w.grownBy (ChangeMaps.setBlock w B (.map es' c')) (some B) :=
 ⟨rfl, rfl, rfl, by simp [ChangeMaps.setBlock], fun i _ hi => ChangeMaps.heap_setBlock_other h _ (fun e1 => hi (by rw [e1]))⟩
theorem grown_set (w : World) (p : Addr) (u : Value) : w.grownBy (w.setCell p u) (some p.block) :=
 ⟨rfl, rfl, rfl, by simp [World.setCell], fun k _ hne => Below.heap_setCell _ _ _ _ (fun e => hne (by rw [e]))⟩
theorem cell_grown {w w' : World} {row : Option Nat} {g o : Nat} {u : Value} (h : w.cell? ⟨g, o, none⟩ = some u) (hg : w.grownBy w' row) (hne : some g ≠ row) : w'.cell? ⟨g, o, none⟩ = some u := hg.cell h hne
def plC (p : PlD) : List Value := [.int .i64 p.inst, .int .i64 p.pin, .string p.name, .int .i64 p.net, .int .i64 p.load, .bool p.drv]
/-- A netlist under construction: the struct lies in block N, the map in block B, every list not below base. -/
def Net (w : World) (base N B : Nat) (P : List PlD) : Prop :=
 ∃ a cap, w.cell? ⟨N, 0, none⟩ = some (.slice a P.length cap) ∧ w.cell? ⟨N, 1, none⟩ = some (.map (some B)) ∧ w.frozen? ⟨N, 0, none⟩ = false ∧ N < base ∧ N ≠ B ∧ base ≤ w.heap.size ∧ GR w base 257 6 (.slice a P.length cap) (P.map plC) ∧ Ends w base B P
theorem Net.below {w w' : World} {base N B : Nat} {P : List PlD} (h : Net w base N B P) (hb : Below w.heap.size w w') : Net w' base N B P := by
 obtain ⟨a, cap, c0, c1, f0, h1, h2, h3, hG, hE⟩ := h
 exact ⟨a, cap, cell_keep c0 hb, cell_keep c1 hb, by rw [hb.frozen (p := ⟨N, 0, none⟩) (show N < w.heap.size by omega)]; exact f0, h1, h2, Nat.le_trans h3 hb.size, hG.below hb, hE.kept (row := none) (grown_none hb none) (by simp) (fun k h => by cases h)⟩
theorem Tryz.infoPl : (Tryz.prog.info? 257).map (fun i => (i.zero, i.size, i.bytes)) = some (some (.agg #[.int .i64 0, .int .i64 0, .string .empty, .int .i64 0, .int .i64 0, .bool false]), 6, 56) := by kernel_rfl
theorem Tryz.infoI64 : (Tryz.prog.info? 2).map (fun i => (i.zero, i.size, i.bytes)) = some (some (.int .i64 0), 1, 8) := by kernel_rfl
set_option maxHeartbeats 8000000 in
theorem add_any (p : PlD) (base N B L : Nat) (P : List PlD) (w : World) (h : Net w base N B P) (hwf : (Lit.int .i64 p.net).wf = true) (hP : P.length ≤ 100000) (hLN : L ≤ N) (hLB : L ≤ B) :
  Calls Tryz.prog 186 #[.pointer (some ⟨N, 0, none⟩), .agg #[.int .i64 p.inst, .int .i64 p.pin, .string p.name, .int .i64 p.net, .int .i64 p.load, .bool p.drv]] w fun e w' => e = .returned (.tuple #[]) ∧ Net w' base N B (P ++ [p]) ∧ Fr w w' L N B := by
 obtain ⟨i0, hi, hz0, hz1, hz2⟩ := info_parts Tryz.infoI64
 obtain ⟨j0, hj, hy0, hy1, hy2⟩ := info_parts Tryz.infoPl
 obtain ⟨a, cap, cN0, cN1, fN0, hNb, hNB, hbs, hG, hE⟩ := h
 have lN := cell_lt cN0
 have hBb : B < base := by obtain ⟨es, clock, _, h0, _⟩ := hE; exact h0
 have hPr : (Value.slice a P.length cap).ownBlock ≠ some w.heap.size := fun e => by have := (hG.blk _ e).2; omega
 have HG := lh hG
 have HE := lh hE
 clear hG hE
 go_enter Tryz.func186, Tryz.ntmps186
 go_wp2
 obtain ⟨W, hW⟩ : ∃ W, W = ((w.alloc (Obj.cells #[.int .i64 p.inst, .int .i64 p.pin, .string p.name, .int .i64 p.net, .int .i64 p.load, .bool p.drv] 257)).alloc (Obj.cells #[.int .i64 p.net, .bool p.drv] 186)).drew := ⟨_, rfl⟩
 have bW : Below w.heap.size w W := by rw [hW]; (exact eX)
 have zW : w.heap.size + 2 ≤ W.heap.size := by rw [hW]; simp
 have q0 : W.cell? ⟨w.heap.size, 0, none⟩ = some (.int .i64 p.inst) := by rw [hW]; simp [go_sem]
 have q1 : W.cell? ⟨w.heap.size, 1, none⟩ = some (.int .i64 p.pin) := by rw [hW]; simp [go_sem]
 have q2 : W.cell? ⟨w.heap.size, 2, none⟩ = some (.string p.name) := by rw [hW]; simp [go_sem]
 have q3 : W.cell? ⟨w.heap.size, 3, none⟩ = some (.int .i64 p.net) := by rw [hW]; simp [go_sem]
 have q4 : W.cell? ⟨w.heap.size, 4, none⟩ = some (.int .i64 p.load) := by rw [hW]; simp [go_sem]
 have q5 : W.cell? ⟨w.heap.size, 5, none⟩ = some (.bool p.drv) := by rw [hW]; simp [go_sem]
 have kb : W.heap[w.heap.size + 1]? = some (.cells #[.int .i64 p.net, .bool p.drv] 186 (0, 0)) := by rw [hW]; exact two_new w _ _
 have pb : W.heap[w.heap.size]? = some (.cells #[.int .i64 p.inst, .int .i64 p.pin, .string p.name, .int .i64 p.net, .int .i64 p.load, .bool p.drv] 257 (0, 0)) := by rw [hW]; exact one_new w _ _
 have c1N := cell_keep cN0 bW
 have c1M := cell_keep cN1 bW
 have fW : W.frozen? ⟨N, 0, none⟩ = false := by rw [bW.frozen (p := ⟨N, 0, none⟩) lN]; exact fN0
 have HG1 := lh (HG.out.below bW)
 have HE1 := lh (HE.out.kept (row := none) (grown_none bW none) (by simp) (fun k h => by cases h))
 have FR := lh (fr_below (L := L) (N := N) (B := B) bW (by omega))
 refine wp_region_held_drew (S := (fun w' => w'.cell? ⟨N, 0, none⟩ = some (.slice a P.length cap) ∧ w'.cell? ⟨N, 1, none⟩ = some (.map (some B)) ∧ w'.cell? ⟨w.heap.size + 1, 0, none⟩ = some (.int .i64 p.net) ∧ w'.cell? ⟨w.heap.size + 1, 1, none⟩ = some (.bool p.drv))) (by kernel_rfl) ?_ (fun hHeld => ?_)
 ·(try dsimp only); rw [← hW]; exact ⟨c1N, c1M, by rw [hW]; simp [go_sem], by rw [hW]; simp [go_sem]⟩
 (try dsimp only at hHeld)
 refine takeH 0 (v := ?_) rfl ?_ ?_; rotate_left; focus (intro w' hSw; (try dsimp only at hSw); go_simp; try (with_reducible rfl))
 (try simp only [actP])
 refine takeH 1 (v := ?_) rfl ?_ ?_; rotate_left; focus (intro w' hSw; (try dsimp only at hSw); go_simp; try (with_reducible rfl))
 (try simp only [actP])
 refine takeH 2 (v := ?_) rfl ?_ ?_; rotate_left; focus (intro w' hSw; (try dsimp only at hSw); go_simp; try (with_reducible rfl))
 (try simp only [actP])
 refine takeH 3 (v := ?_) rfl ?_ ?_; rotate_left; focus (intro w' hSw; (try dsimp only at hSw); go_simp; try (with_reducible rfl))
 (try simp only [actP])
 refine takeH 4 (v := ?_) rfl ?_ ?_; rotate_left; focus (intro w' hSw; (try dsimp only at hSw); go_simp; try (with_reducible rfl))
 (try simp only [actP])
 refine takeH 5 (v := ?_) rfl ?_ ?_; rotate_left; focus (intro w' hSw; (try dsimp only at hSw); go_simp; try (with_reducible rfl))
 (try simp only [actP])
 refine takeH 6 (v := ?_) rfl ?_ ?_; rotate_left; focus (intro w' hSw; (try dsimp only at hSw); go_simp; try (with_reducible rfl))
 (try simp only [actP])
 refine takeH 7 (v := ?_) rfl ?_ ?_; rotate_left; focus (intro w' hSw; (try dsimp only at hSw); go_simp; try (with_reducible rfl))
 (try simp only [actP])
 refine takeH 8 (v := ?_) rfl ?_ ?_; rotate_left; focus (intro w' hSw; (try dsimp only at hSw); go_simp; try (with_reducible rfl))
 (try simp only [actP])
 refine takeH 9 (v := ?_) rfl ?_ ?_; rotate_left; focus (intro w' hSw; (try dsimp only at hSw); go_simp; try (with_reducible rfl))
 (try simp only [actP])
 rw [← hW] at hHeld ⊢
 clear hW HG HE cN0 cN1 fN0
 refine wpAnyH_ready (rs := [10]) (by kernel_rfl) (by simp) ?_
 refine AllReadyH.cons rfl (fun K hK => ?_) AllReadyH.nil
 go_simp
 have bA : Below W.heap.size W (W.alloc (Obj.cells #[.int .i64 (P.length : Int)] 2)) := (Below.refl _ _).alloc (Nat.le_refl _) _
 refine hK.out _ _ (⟨cell_keep hHeld.1 bA, cell_keep hHeld.2.1 bA, cell_keep hHeld.2.2.1 bA, cell_keep hHeld.2.2.2 bA⟩) (fun hHeld' => ?_)
 clear hK K hHeld
 have hHeld := hHeld'
 clear hHeld'
 (try simp only [actP])
 obtain ⟨W1, hW1⟩ : ∃ W1, W1 = W.alloc (Obj.cells #[.int .i64 (P.length : Int)] 2) := ⟨_, rfl⟩
 rw [← hW1] at hHeld bA ⊢
 have o1 : W1.cell? ⟨W.heap.size, 0, none⟩ = some (.int .i64 (P.length : Int)) := by rw [hW1]; simp [go_sem]
 have z1 : W.heap.size + 1 ≤ W1.heap.size := by rw [hW1]; simp
 clear hW1
 have r0 := cell_keep q0 bA
 have r1 := cell_keep q1 bA
 have r2 := cell_keep q2 bA
 have r3 := cell_keep q3 bA
 have r4 := cell_keep q4 bA
 have r5 := cell_keep q5 bA
 have k1 : W1.heap[w.heap.size + 1]? = some (.cells #[.int .i64 p.net, .bool p.drv] 186 (0, 0)) := by rw [bA.block _ (by omega)]; exact kb
 have pb1 : W1.heap[w.heap.size]? = some (.cells #[.int .i64 p.inst, .int .i64 p.pin, .string p.name, .int .i64 p.net, .int .i64 p.load, .bool p.drv] 257 (0, 0)) := by rw [bA.block _ (by omega)]; exact pb
 have f1 : W1.frozen? ⟨N, 0, none⟩ = false := by rw [bA.frozen (p := ⟨N, 0, none⟩) (show N < W.heap.size by omega)]; exact fW
 have HG2 := lh (HG1.out.below bA)
 have HE2 := HE1.out.kept (row := none) (grown_none bA none) (by simp) (fun k h => by cases h)
 have FR1 := lh (FR.out.trans (fr_below (L := L) (N := N) (B := B) bA (by omega)))
 clear q0
 clear q1
 clear q2
 clear q3
 clear q4
 clear q5
 clear HG1 HE1 FR bW bA kb pb fW c1N c1M
 obtain ⟨v0, st, es1, clock1, hrun, hoi, back⟩ := ends_entry HE2 p hwf
 obtain ⟨es, clock, hb, _⟩ := HE2
 have gm := grown_map (es' := es1) (c' := clock1) hb
 have hB2 := ChangeMaps.heap_setBlock_same hb (Obj.map es1 clock1)
 have hrun : (Instr.mapEntry 138 (.map (some B)) (.agg #[.int .i64 p.net, .bool p.drv])).run Tryz.prog W1 = _ := hrun
 have HB := lh back
 have HO := lh hoi
 have GM := lh gm
 have HB2 := lh hB2
 clear back hoi gm hB2 hb
 refine wpAnyH_ready (rs := [11]) (by kernel_rfl) (by simp) ?_
 refine AllReadyH.cons rfl (fun K hK => ?_) AllReadyH.nil
 go_simp
 refine hK.out _ _ (⟨cell_grown hHeld.1 GM.out (by simp; omega), cell_grown hHeld.2.1 GM.out (by simp; omega), cell_grown hHeld.2.2.1 GM.out (by simp; omega), cell_grown hHeld.2.2.2 GM.out (by simp; omega)⟩) (fun hHeld' => ?_)
 clear hK K hHeld
 have hHeld := hHeld'
 clear hHeld'
 (try simp only [actP])
 obtain ⟨W2, hW2⟩ : ∃ W2, W2 = ChangeMaps.setBlock W1 B (.map es1 clock1) := ⟨_, rfl⟩
 rw [← hW2] at hHeld GM HB HB2 ⊢
 have z2 : W1.heap.size ≤ W2.heap.size := by rw [hW2]; simp [ChangeMaps.setBlock]
 clear hW2 hrun
 have o2 := cell_grown o1 GM.out (by simp; omega)
 have s0 := cell_grown r0 GM.out (by simp; omega)
 have s1 := cell_grown r1 GM.out (by simp; omega)
 have s2 := cell_grown r2 GM.out (by simp; omega)
 have s3 := cell_grown r3 GM.out (by simp; omega)
 have s4 := cell_grown r4 GM.out (by simp; omega)
 have s5 := cell_grown r5 GM.out (by simp; omega)
 have k2 : W2.heap[w.heap.size + 1]? = some (.cells #[.int .i64 p.net, .bool p.drv] 186 (0, 0)) := by rw [GM.out.block _ (by omega) (by simp; omega)]; exact k1
 have pb2 : W2.heap[w.heap.size]? = some (.cells #[.int .i64 p.inst, .int .i64 p.pin, .string p.name, .int .i64 p.net, .int .i64 p.load, .bool p.drv] 257 (0, 0)) := by rw [GM.out.block _ (by omega) (by simp; omega)]; exact pb1
 have f2 : W2.frozen? ⟨N, 0, none⟩ = false := by rw [World.frozen?_of_block (GM.out.block N (by omega) (by simp; omega))]; exact f1
 have HG3 := lh (HG2.out.kept GM.out (fun k hk e => by have := (HG2.out.blk k hk).1; simp at e; omega))
 have FR2 := lh (FR1.out.trans (Fr.grown (L := L) (N := N) (B := B) GM.out (by omega) (fun k hk => by simp at hk; omega)))
 have hO2 : W2.ownsRow base 2 1 v0 (endsL P p.net p.drv).length ((endsL P p.net p.drv).map (Value.int .i64)) := own_chg HO.out.1 GM.out hBb
 have rT := own_rowT hO2
 have nN : some N ≠ v0.ownBlock := fun e => by have := (World.ownsRow.lt hO2 N e.symm).1; omega
 have nB : some B ≠ v0.ownBlock := fun e => by have := (World.ownsRow.lt hO2 B e.symm).1; omega
 have nK : some (w.heap.size + 1) ≠ v0.ownBlock := fun e => by obtain ⟨c, q⟩ := rT _ e.symm; rw [k2] at q; simp at q
 have nP : some w.heap.size ≠ v0.ownBlock := fun e => by obtain ⟨c, q⟩ := rT _ e.symm; rw [pb2] at q; simp at q
 clear r0
 clear r1
 clear r2
 clear r3
 clear r4
 clear r5
 clear o1 k1 pb1 f1 HG2 FR1
 have hlen := endsL_le P p.net p.drv
 refine takeH 12 (v := ?_) rfl ?_ ?_; rotate_left; focus (intro w' hSw; (try dsimp only at hSw); go_simp; try (with_reducible rfl))
 (try simp only [actP])
 refine takeH 14 (v := ?_) rfl ?_ ?_; rotate_left; focus (intro w' hSw; (try dsimp only at hSw); go_simp; try (with_reducible rfl))
 (try simp only [actP])
 refine wpAnyH_ready (rs := [13]) (by kernel_rfl) (by simp) ?_
 refine AllReadyH.cons rfl (fun K hK => ?_) AllReadyH.nil
 rw [if_pos (by rfl)]
 refine wp_append_at _ _ _ 33 rfl base 2 i0 (.int .i64 0) 1 8 Tryz.underlying33 hi hz0 hz1 hz2 rfl (by decide) v0 _ _ rfl hO2 ⟨W.heap.size, 0, none⟩ 1 1 [.int .i64 (P.length : Int)] rfl rfl (one_at o2) (fun u hu => by simp at hu; subst hu; rfl) (by unfold maxLen; omega) (by omega) (by omega) ?_
 intro v' W3 hown' hgrow _ hloc
 refine hK.out _ _ (⟨cell_grown hHeld.1 hgrow nN, cell_grown hHeld.2.1 hgrow nN, cell_grown hHeld.2.2.1 hgrow nK, cell_grown hHeld.2.2.2 hgrow nK⟩) (fun hHeld' => ?_)
 clear hK K hHeld
 have hHeld := hHeld'
 clear hHeld'
 (try simp only [actP])
 have z3 := hgrow.size
 have u0 := cell_grown s0 hgrow nP
 have u1 := cell_grown s1 hgrow nP
 have u2 := cell_grown s2 hgrow nP
 have u3 := cell_grown s3 hgrow nP
 have u4 := cell_grown s4 hgrow nP
 have u5 := cell_grown s5 hgrow nP
 have f3 : W3.frozen? ⟨N, 0, none⟩ = false := by rw [World.frozen?_of_block (hgrow.block N (by omega) nN)]; exact f2
 have HG4 := lh (show GR W3 base 257 6 (.slice a P.length cap) (P.map plC) from ⟨own_grownT HG3.out.1 hgrow rT (by decide), HG3.out.2⟩)
 have FR3 := lh (FR2.out.trans (Fr.grown (L := L) (N := N) (B := B) hgrow (by omega) (fun k hk => ⟨by have := (World.ownsRow.lt hO2 k hk).1; omega, .inr (.inr (.inl rT))⟩)))
 have hE := HB.out W3 v' ((hgrow.block B (by omega) nB).trans HB2.out) hgrow ⟨by simpa using hown', fun z hz => by
   rcases List.mem_append.1 hz with hz | hz
   ·exact HO.out.2 z hz
   ·rw [List.mem_singleton.1 hz]; exact WalkArith.wf_i64 (by omega)⟩ (hloc.imp id (fun e => ⟨_, e, by omega⟩))
 obtain ⟨es', clock', hrun2, hE3⟩ := hE
 have hrun2 : (Instr.entryStore 138 (.map (some B)) (.int .i64 (st : Int)) v').run Tryz.prog W3 = _ := hrun2
 have hB3 := (hgrow.block B (by omega) nB).trans HB2.out
 have gm := grown_map (es' := es') (c' := clock') hB3
 have GM3 := lh gm
 have HE3 := lh hE3
 clear s0
 clear s1
 clear s2
 clear s3
 clear s4
 clear s5
 clear HB HB2 HG3 FR2 GM HO hO2 hown' hgrow hloc nN nB nK nP rT k2 pb2 f2 o2 gm hE3 hB3
 refine wpAnyH_ready (rs := [15]) (by kernel_rfl) (by simp) ?_
 refine AllReadyH.cons rfl (fun K hK => ?_) AllReadyH.nil
 go_simp
 refine hK.out _ _ (⟨cell_grown hHeld.1 GM3.out (by simp; omega), cell_grown hHeld.2.1 GM3.out (by simp; omega), cell_grown hHeld.2.2.1 GM3.out (by simp; omega), cell_grown hHeld.2.2.2 GM3.out (by simp; omega)⟩) (fun hHeld' => ?_)
 clear hK K hHeld
 have hHeld := hHeld'
 clear hHeld'
 (try simp only [actP])
 refine wpAnyH_done (by kernel_rfl) ?_ _
 obtain ⟨W4, hW4⟩ : ∃ W4, W4 = ChangeMaps.setBlock W3 B (.map es' clock') := ⟨_, rfl⟩
 rw [← hW4] at hHeld GM3 HE3 ⊢
 have z4 : W3.heap.size ≤ W4.heap.size := by rw [hW4]; simp [ChangeMaps.setBlock]
 clear hW4 hrun2
 have t0 := cell_grown u0 GM3.out (by simp; omega)
 have t1 := cell_grown u1 GM3.out (by simp; omega)
 have t2 := cell_grown u2 GM3.out (by simp; omega)
 have t3 := cell_grown u3 GM3.out (by simp; omega)
 have t4 := cell_grown u4 GM3.out (by simp; omega)
 have t5 := cell_grown u5 GM3.out (by simp; omega)
 have f4 : W4.frozen? ⟨N, 0, none⟩ = false := by rw [World.frozen?_of_block (GM3.out.block N (by omega) (by simp; omega))]; exact f3
 have HG5 := lh (HG4.out.kept GM3.out (fun k hk e => by have := (HG4.out.blk k hk).1; simp at e; omega))
 have FR4 := lh (FR3.out.trans (Fr.grown (L := L) (N := N) (B := B) GM3.out (by omega) (fun k hk => by simp at hk; omega)))
 have n0 := hHeld.1
 have n1 := hHeld.2.1
 clear u0
 clear u1
 clear u2
 clear u3
 clear u4
 clear u5
 clear f3 HG4 FR3 GM3 hHeld
 go_wp2
 obtain ⟨W5, hW5⟩ : ∃ W5, W5 = W4.drew := ⟨_, rfl⟩
 have b5 : Below W4.heap.size W4 W5 := by rw [hW5]; (exact eX)
 have z5 : W4.heap.size ≤ W5.heap.size := by rw [hW5]; simp
 have q0 := cell_keep t0 b5
 have q1 := cell_keep t1 b5
 have q2 := cell_keep t2 b5
 have q3 := cell_keep t3 b5
 have q4 := cell_keep t4 b5
 have q5 := cell_keep t5 b5
 have m0 := cell_keep n0 b5
 have m1 := cell_keep n1 b5
 have f5 : W5.frozen? ⟨N, 0, none⟩ = false := by rw [b5.frozen (p := ⟨N, 0, none⟩) (show N < W4.heap.size by omega)]; exact f4
 have HG6 := lh (HG5.out.below b5)
 have HE6 := lh (HE3.out.kept (row := none) (grown_none b5 none) (by simp) (fun k h => by cases h))
 have FR6 := lh (FR4.out.trans (fr_below (L := L) (N := N) (B := B) b5 (by omega)))
 clear t0
 clear t1
 clear t2
 clear t3
 clear t4
 clear t5
 clear n0 n1 f4 b5 HG5 HE3 FR4
 refine wp_region_held_drew (S := (fun w' => w'.cell? ⟨w.heap.size, 0, none⟩ = some (.int .i64 p.inst) ∧ w'.cell? ⟨w.heap.size, 1, none⟩ = some (.int .i64 p.pin) ∧ w'.cell? ⟨w.heap.size, 2, none⟩ = some (.string p.name) ∧ w'.cell? ⟨w.heap.size, 3, none⟩ = some (.int .i64 p.net) ∧ w'.cell? ⟨w.heap.size, 4, none⟩ = some (.int .i64 p.load) ∧ w'.cell? ⟨w.heap.size, 5, none⟩ = some (.bool p.drv))) (by kernel_rfl) ?_ (fun hHeld => ?_)
 ·(try dsimp only); rw [← hW5]; exact ⟨q0, q1, q2, q3, q4, q5⟩
 (try dsimp only at hHeld)
 refine takeH 0 (v := ?_) rfl ?_ ?_; rotate_left; focus (intro w' hSw; (try dsimp only at hSw); go_simp; try (with_reducible rfl))
 (try simp only [actP])
 refine takeH 1 (v := ?_) rfl ?_ ?_; rotate_left; focus (intro w' hSw; (try dsimp only at hSw); go_simp; try (with_reducible rfl))
 (try simp only [actP])
 refine takeH 2 (v := ?_) rfl ?_ ?_; rotate_left; focus (intro w' hSw; (try dsimp only at hSw); go_simp; try (with_reducible rfl))
 (try simp only [actP])
 refine takeH 3 (v := ?_) rfl ?_ ?_; rotate_left; focus (intro w' hSw; (try dsimp only at hSw); go_simp; try (with_reducible rfl))
 (try simp only [actP])
 refine takeH 5 (v := ?_) rfl ?_ ?_; rotate_left; focus (intro w' hSw; (try dsimp only at hSw); go_simp; try (with_reducible rfl))
 (try simp only [actP])
 rw [← hW5] at hHeld ⊢
 clear hW5 q0 q1 q2 q3 q4 q5
 refine wpAnyH_ready (rs := [4, 6]) (by kernel_rfl) (by simp) ?_
 refine AllReadyH.cons rfl (fun K hK => ?_) (AllReadyH.cons rfl (fun K hK => ?_) AllReadyH.nil)
 ·go_simp
  refine hK.out _ _ hHeld (fun _ => ?_)
  clear hK K
  (try simp only [actP])
  refine wpAnyH_ready (rs := [6]) (by kernel_rfl) (by simp) ?_
  refine AllReadyH.cons rfl (fun K hK => ?_) AllReadyH.nil
  go_simp
  have bA : Below W5.heap.size W5 (W5.alloc (Obj.cells #[.int .i64 p.inst, .int .i64 p.pin, .string p.name, .int .i64 p.net, .int .i64 p.load, .bool p.drv] 257)) := (Below.refl _ _).alloc (Nat.le_refl _) _
  refine hK.out _ _ (⟨cell_keep hHeld.1 bA, cell_keep hHeld.2.1 bA, cell_keep hHeld.2.2.1 bA, cell_keep hHeld.2.2.2.1 bA, cell_keep hHeld.2.2.2.2.1 bA, cell_keep hHeld.2.2.2.2.2 bA⟩) (fun hHeld' => ?_)
  clear hK K hHeld
  have hHeld := hHeld'
  clear hHeld'
  (try simp only [actP])
  obtain ⟨W6, hW6⟩ : ∃ W6, W6 = W5.alloc (Obj.cells #[.int .i64 p.inst, .int .i64 p.pin, .string p.name, .int .i64 p.net, .int .i64 p.load, .bool p.drv] 257) := ⟨_, rfl⟩
  have lits := lit_cells W5 #[.int .i64 p.inst, .int .i64 p.pin, .string p.name, .int .i64 p.net, .int .i64 p.load, .bool p.drv] 257 W5.heap.size rfl
  rw [← hW6] at hHeld bA lits ⊢
  have z6 : W5.heap.size + 1 ≤ W6.heap.size := by rw [hW6]; simp
  clear hW6
  have d0 := cell_keep m0 bA
  have d1 := cell_keep m1 bA
  have f6 : W6.frozen? ⟨N, 0, none⟩ = false := by rw [bA.frozen (p := ⟨N, 0, none⟩) (show N < W5.heap.size by omega)]; exact f5
  have HG7 := lh (HG6.out.below bA)
  have HE7 := lh (HE6.out.kept (row := none) (grown_none bA none) (by simp) (fun k h => by cases h))
  have FR7 := lh (FR6.out.trans (fr_below (L := L) (N := N) (B := B) bA (by omega)))
  have rT := own_rowT HG7.out.1
  have nN : some N ≠ (Value.slice a P.length cap).ownBlock := fun e => by have := (HG7.out.blk N e.symm).1; omega
  have nP : some w.heap.size ≠ (Value.slice a P.length cap).ownBlock := fun e => hPr e.symm
  have hrB : ∀ k, (Value.slice a P.length cap).ownBlock = some k → base ≤ k := fun k hk => (HG7.out.blk k hk).1
  have hln : (P.map plC).length = P.length := List.length_map _
  clear HG6 HE6 FR6 m0 m1 f5
  refine wpAnyH_ready (rs := [7]) (by kernel_rfl) (by simp) ?_
  refine AllReadyH.cons rfl (fun K hK => ?_) AllReadyH.nil
  rw [if_pos (by rfl)]
  refine wp_append_at _ _ _ 137 rfl base 257 j0 (.agg #[.int .i64 0, .int .i64 0, .string .empty, .int .i64 0, .int .i64 0, .bool false]) 6 56 Tryz.underlying137 hj hy0 hy1 hy2 rfl (by decide) (.slice a P.length cap) _ _ rfl HG7.out.1 ⟨W5.heap.size, 0, none⟩ 1 1 [.int .i64 p.inst, .int .i64 p.pin, .string p.name, .int .i64 p.net, .int .i64 p.load, .bool p.drv] rfl rfl lits (fun u hu => by simp at hu; rcases hu with rfl | rfl | rfl | rfl | rfl | rfl <;> rfl) (by rw [hln]; unfold maxLen; omega) (by rw [hln]; omega) (by omega) ?_
  intro v' W7 hown' hgrow _ hloc
  obtain ⟨a', cap', rfl⟩ := own_slice hown'
  refine hK.out _ _ (⟨cell_grown hHeld.1 hgrow nP, cell_grown hHeld.2.1 hgrow nP, cell_grown hHeld.2.2.1 hgrow nP, cell_grown hHeld.2.2.2.1 hgrow nP, cell_grown hHeld.2.2.2.2.1 hgrow nP, cell_grown hHeld.2.2.2.2.2 hgrow nP⟩) (fun hHeld' => ?_)
  clear hK K hHeld
  have hHeld := hHeld'
  clear hHeld'
  (try simp only [actP])
  have z7 := hgrow.size
  have g0 := cell_grown d0 hgrow nN
  have g1 := cell_grown d1 hgrow nN
  have f7 : W7.frozen? ⟨N, 0, none⟩ = false := by rw [World.frozen?_of_block (hgrow.block N (by omega) nN)]; exact f6
  have hG8 : GR W7 base 257 6 (.slice a' ((P.map plC).length + 1) cap') (P.map plC ++ [plC p]) := HG7.out.snoc hown' rfl
  rw [hln, show P.map plC ++ [plC p] = (P ++ [p]).map plC by simp, show P.length + 1 = (P ++ [p]).length by simp] at hG8
  have HG8 := lh hG8
  have HE8 := lh (HE7.out.kept hgrow (fun e => by have := hrB _ e; omega) (fun k _ => .inr rT))
  have FR8 := lh (FR7.out.trans (Fr.grown (L := L) (N := N) (B := B) hgrow (by omega) (fun k hk => ⟨by have := hrB k hk; omega, .inr (.inr (.inr rT))⟩)))
  clear hG8 HG7 HE7 FR7 d0 d1 f6 hown' hgrow hloc rT nN nP hrB lits bA
  refine takeH 8 (v := ?_) rfl ?_ ?_; rotate_left; focus (intro w' hSw; (try dsimp only at hSw); go_simp; try (with_reducible rfl))
  (try simp only [actP])
  refine takeH 9 (v := ?_) rfl ?_ ?_; rotate_left; focus (intro w' hSw; (try dsimp only at hSw); go_simp; try (with_reducible rfl))
  (try simp only [actP])
  refine wpAnyH_ready (rs := [10]) (by kernel_rfl) (by simp) ?_
  refine AllReadyH.cons rfl (fun K hK => ?_) AllReadyH.nil
  go_simp
  have gs := grown_set W7 ⟨N, 0, none⟩ (.slice a' (P.length + 1) cap')
  refine hK.out _ _ (⟨cell_grown hHeld.1 gs (by simp; omega), cell_grown hHeld.2.1 gs (by simp; omega), cell_grown hHeld.2.2.1 gs (by simp; omega), cell_grown hHeld.2.2.2.1 gs (by simp; omega), cell_grown hHeld.2.2.2.2.1 gs (by simp; omega), cell_grown hHeld.2.2.2.2.2 gs (by simp; omega)⟩) (fun hHeld' => ?_)
  clear hK K hHeld
  have hHeld := hHeld'
  clear hHeld'
  (try simp only [actP])
  refine wpAnyH_done (by kernel_rfl) ?_ _
  rw [show P.length + 1 = (P ++ [p]).length by simp] at gs ⊢
  have hN : Net (W7.setCell ⟨N, 0, none⟩ (.slice a' (P ++ [p]).length cap')) base N B (P ++ [p]) := ⟨a', cap', cell_set_same W7 g0, cell_grown1 g1 (by simp), by rw [World.frozen?_setCell]; exact f7, hNb, hNB, by have := gs.size; omega, HG8.out.kept gs (fun k hk e => by have := (HG8.out.blk k hk).1; simp at e; omega), HE8.out.kept gs (by simp; omega) (fun k hk => .inl (by simp at hk; omega))⟩
  have hF := FR8.out.trans (Fr.grown (L := L) (N := N) (B := B) gs (by omega) (fun k hk => by simp at hk; omega))
  have RES := lh (And.intro hN hF)
  clear hN hF gs HG8 HE8 FR8 hHeld g0 g1 f7
  go_wp2
  exact bodyPost_end (results_none rfl _ _ _) rfl ⟨rfl, RES.out⟩
 ·go_simp
  have bA : Below W5.heap.size W5 (W5.alloc (Obj.cells #[.int .i64 p.inst, .int .i64 p.pin, .string p.name, .int .i64 p.net, .int .i64 p.load, .bool p.drv] 257)) := (Below.refl _ _).alloc (Nat.le_refl _) _
  refine hK.out _ _ (⟨cell_keep hHeld.1 bA, cell_keep hHeld.2.1 bA, cell_keep hHeld.2.2.1 bA, cell_keep hHeld.2.2.2.1 bA, cell_keep hHeld.2.2.2.2.1 bA, cell_keep hHeld.2.2.2.2.2 bA⟩) (fun hHeld' => ?_)
  clear hK K hHeld
  have hHeld := hHeld'
  clear hHeld'
  (try simp only [actP])
  refine wpAnyH_ready (rs := [4]) (by kernel_rfl) (by simp) ?_
  refine AllReadyH.cons rfl (fun K hK => ?_) AllReadyH.nil
  have m0' := cell_keep m0 bA
  go_simp
  refine hK.out _ _ hHeld (fun _ => ?_)
  clear hK K m0'
  (try simp only [actP])
  obtain ⟨W6, hW6⟩ : ∃ W6, W6 = W5.alloc (Obj.cells #[.int .i64 p.inst, .int .i64 p.pin, .string p.name, .int .i64 p.net, .int .i64 p.load, .bool p.drv] 257) := ⟨_, rfl⟩
  have lits := lit_cells W5 #[.int .i64 p.inst, .int .i64 p.pin, .string p.name, .int .i64 p.net, .int .i64 p.load, .bool p.drv] 257 W5.heap.size rfl
  rw [← hW6] at hHeld bA lits ⊢
  have z6 : W5.heap.size + 1 ≤ W6.heap.size := by rw [hW6]; simp
  clear hW6
  have d0 := cell_keep m0 bA
  have d1 := cell_keep m1 bA
  have f6 : W6.frozen? ⟨N, 0, none⟩ = false := by rw [bA.frozen (p := ⟨N, 0, none⟩) (show N < W5.heap.size by omega)]; exact f5
  have HG7 := lh (HG6.out.below bA)
  have HE7 := lh (HE6.out.kept (row := none) (grown_none bA none) (by simp) (fun k h => by cases h))
  have FR7 := lh (FR6.out.trans (fr_below (L := L) (N := N) (B := B) bA (by omega)))
  have rT := own_rowT HG7.out.1
  have nN : some N ≠ (Value.slice a P.length cap).ownBlock := fun e => by have := (HG7.out.blk N e.symm).1; omega
  have nP : some w.heap.size ≠ (Value.slice a P.length cap).ownBlock := fun e => hPr e.symm
  have hrB : ∀ k, (Value.slice a P.length cap).ownBlock = some k → base ≤ k := fun k hk => (HG7.out.blk k hk).1
  have hln : (P.map plC).length = P.length := List.length_map _
  clear HG6 HE6 FR6 m0 m1 f5
  refine wpAnyH_ready (rs := [7]) (by kernel_rfl) (by simp) ?_
  refine AllReadyH.cons rfl (fun K hK => ?_) AllReadyH.nil
  rw [if_pos (by rfl)]
  refine wp_append_at _ _ _ 137 rfl base 257 j0 (.agg #[.int .i64 0, .int .i64 0, .string .empty, .int .i64 0, .int .i64 0, .bool false]) 6 56 Tryz.underlying137 hj hy0 hy1 hy2 rfl (by decide) (.slice a P.length cap) _ _ rfl HG7.out.1 ⟨W5.heap.size, 0, none⟩ 1 1 [.int .i64 p.inst, .int .i64 p.pin, .string p.name, .int .i64 p.net, .int .i64 p.load, .bool p.drv] rfl rfl lits (fun u hu => by simp at hu; rcases hu with rfl | rfl | rfl | rfl | rfl | rfl <;> rfl) (by rw [hln]; unfold maxLen; omega) (by rw [hln]; omega) (by omega) ?_
  intro v' W7 hown' hgrow _ hloc
  obtain ⟨a', cap', rfl⟩ := own_slice hown'
  refine hK.out _ _ (⟨cell_grown hHeld.1 hgrow nP, cell_grown hHeld.2.1 hgrow nP, cell_grown hHeld.2.2.1 hgrow nP, cell_grown hHeld.2.2.2.1 hgrow nP, cell_grown hHeld.2.2.2.2.1 hgrow nP, cell_grown hHeld.2.2.2.2.2 hgrow nP⟩) (fun hHeld' => ?_)
  clear hK K hHeld
  have hHeld := hHeld'
  clear hHeld'
  (try simp only [actP])
  have z7 := hgrow.size
  have g0 := cell_grown d0 hgrow nN
  have g1 := cell_grown d1 hgrow nN
  have f7 : W7.frozen? ⟨N, 0, none⟩ = false := by rw [World.frozen?_of_block (hgrow.block N (by omega) nN)]; exact f6
  have hG8 : GR W7 base 257 6 (.slice a' ((P.map plC).length + 1) cap') (P.map plC ++ [plC p]) := HG7.out.snoc hown' rfl
  rw [hln, show P.map plC ++ [plC p] = (P ++ [p]).map plC by simp, show P.length + 1 = (P ++ [p]).length by simp] at hG8
  have HG8 := lh hG8
  have HE8 := lh (HE7.out.kept hgrow (fun e => by have := hrB _ e; omega) (fun k _ => .inr rT))
  have FR8 := lh (FR7.out.trans (Fr.grown (L := L) (N := N) (B := B) hgrow (by omega) (fun k hk => ⟨by have := hrB k hk; omega, .inr (.inr (.inr rT))⟩)))
  clear hG8 HG7 HE7 FR7 d0 d1 f6 hown' hgrow hloc rT nN nP hrB lits bA
  refine takeH 8 (v := ?_) rfl ?_ ?_; rotate_left; focus (intro w' hSw; (try dsimp only at hSw); go_simp; try (with_reducible rfl))
  (try simp only [actP])
  refine takeH 9 (v := ?_) rfl ?_ ?_; rotate_left; focus (intro w' hSw; (try dsimp only at hSw); go_simp; try (with_reducible rfl))
  (try simp only [actP])
  refine wpAnyH_ready (rs := [10]) (by kernel_rfl) (by simp) ?_
  refine AllReadyH.cons rfl (fun K hK => ?_) AllReadyH.nil
  go_simp
  have gs := grown_set W7 ⟨N, 0, none⟩ (.slice a' (P.length + 1) cap')
  refine hK.out _ _ (⟨cell_grown hHeld.1 gs (by simp; omega), cell_grown hHeld.2.1 gs (by simp; omega), cell_grown hHeld.2.2.1 gs (by simp; omega), cell_grown hHeld.2.2.2.1 gs (by simp; omega), cell_grown hHeld.2.2.2.2.1 gs (by simp; omega), cell_grown hHeld.2.2.2.2.2 gs (by simp; omega)⟩) (fun hHeld' => ?_)
  clear hK K hHeld
  have hHeld := hHeld'
  clear hHeld'
  (try simp only [actP])
  refine wpAnyH_done (by kernel_rfl) ?_ _
  rw [show P.length + 1 = (P ++ [p]).length by simp] at gs ⊢
  have hN : Net (W7.setCell ⟨N, 0, none⟩ (.slice a' (P ++ [p]).length cap')) base N B (P ++ [p]) := ⟨a', cap', cell_set_same W7 g0, cell_grown1 g1 (by simp), by rw [World.frozen?_setCell]; exact f7, hNb, hNB, by have := gs.size; omega, HG8.out.kept gs (fun k hk e => by have := (HG8.out.blk k hk).1; simp at e; omega), HE8.out.kept gs (by simp; omega) (fun k hk => .inl (by simp at hk; omega))⟩
  have hF := FR8.out.trans (Fr.grown (L := L) (N := N) (B := B) gs (by omega) (fun k hk => by simp at hk; omega))
  have RES := lh (And.intro hN hF)
  clear hN hF gs HG8 HE8 FR8 hHeld g0 g1 f7
  go_wp2
  exact bodyPost_end (results_none rfl _ _ _) rfl ⟨rfl, RES.out⟩
end Go.Proofs.YtkpfbnffhhmokaaGreat
