/-
append to a list of a call's own, with the place where the list lies.
-/
import Derived.Test.YtkpfbnffhhmokaaGreatNum
import Derived.Laws.OwnMore
import Derived.Maps.AppendAt
import Derived.Test.YtkpfbnffhhmokaaGreatGrowR
import Derived.WalkKit
import Derived.ProofKit
import Derived.Test.YtkpfbnffhhmokaaGreatBlkC
import Derived.Test.YtkpfbnffhhmokaaGreatNetG
namespace Go.Proofs.YtkpfbnffhhmokaaGreat
open Go.ChangeShapes Go.WideShapes Go.ChangeAt Go.RowKit Go.Deep
set_option linter.unusedVariables false
/-- append to a list of a call's own: the law of the library, with the place where the list lies. -/
theorem wpList_append_at {P : Program} {w : World} {ops : Array Oper} {rest : List Oper} {o : Oper} {a : Act} {Q : Exit → Act → World → Prop} (hgd : o.guard = none) (s x : Operand) (t : TypeId)
  (ho : o.op = .call { callee := .builtin .append, args := #[s, x], argTypes := #[t, t] })
  (base : Nat) (e : TypeId) (i : TypeInfo) (z : Value) (size bytes : Nat) (ht : P.underlying t = some (.slice e)) (hi : P.info? e = some i) (hz : i.zero = some z)
  (hsize : i.size = size) (hby : i.bytes = bytes) (hzs : z.cells.size = size) (hsz : 0 < size)
  (v : Value) (n : Nat) (xs : List Value) (hs : a.eval s = v) (hown : w.ownsRow base e size v n xs)
  (ad : Addr) (m c : Nat) (news : List Value) (hx : a.eval x = .slice (some ad) m c) (hl : news.length = m * size) (hnews : ∀ j u, news[j]? = some u → w.cell? (ad.add j) = some u) (h1 : ∀ u ∈ news, u.oneCell' = true)
  (h63 : n + m ≤ maxLen) (hbytes : (n + m) * bytes ≤ 140737488355328) (hbase : base ≤ w.heap.size)
  (h : ∀ v' w', w'.ownsRow base e size v' (n + m) (xs ++ news) → w.grownBy w' v.ownBlock → (v'.ownBlock = v.ownBlock ∨ v'.ownBlock = some w.heap.size) → wpList P ops Q rest (a.put o.dst v') w') : wpList P ops Q (o :: rest) a w := by
 refine wpList_plain hgd fun K hK => ?_
 obtain ⟨v', w', hr, h2, h3, _, h5⟩ := run_append_own_at (P := P) w base t o.type e i z size bytes ht hi hz hsize hby hzs hsz v n xs hown ad m c news hl hnews h1 h63 hbytes hbase
 unfold Oper.wp execOp
 simp only [ho, resolve, invoke, builtin, Sem.run_bind, Sem.run_pure, Result.andThen_ok, List.map_toArray, List.map_cons, List.map_nil, hs, hx, hr]
 exact hK _ _ (h v' w' h2 h3 h5)
end Go.Proofs.YtkpfbnffhhmokaaGreat
namespace Go.Proofs.YtkpfbnffhhmokaaGreat
structure LkD where
 src : Int
 dst : Int
 kind : Int
 ix : Int
def lkn (L : List LkD) (i : Nat) : LkD := L.getD i ⟨0, 0, 0, 0⟩
def lkC (l : LkD) : List Value := [.int .i64 l.src, .int .i64 l.dst, .int .i64 l.kind, .int .i64 l.ix]
/-- Whether an arc leads from one transition to another. -/
def fitsB (kind sense a b : Int) : Bool := if kind = 1 then (sense == 3 || ((sense == 1) == (a == b))) else if kind = 2 then a == 0 else if kind = 3 then a == 1 else false
def fitJ (kind sense : Int) (j : Nat) : Bool := fitsB kind sense ((j / 2 : Nat) : Int) ((j % 2 : Nat) : Int)
def lkOf (f t ix : Int) (j : Nat) : LkD := ⟨2 * f + (j / 2 : Nat), 2 * t + (j % 2 : Nat), 1, ix⟩
/-- The links of an arc, of the first m of its four pairs of transitions. -/
def arcN (kind sense f t ix : Int) (m : Nat) : List LkD := ((List.range m).filter (fitJ kind sense)).map (lkOf f t ix)
theorem arcN_succ (kind sense f t ix : Int) (m : Nat) : arcN kind sense f t ix (m + 1) = if fitJ kind sense m then arcN kind sense f t ix m ++ [lkOf f t ix m] else arcN kind sense f t ix m := by
 unfold arcN
 rw [List.range_succ, List.filter_append]
 by_cases h : fitJ kind sense m = true
 ·simp [h]
 ·simp [h]
theorem arcN_len (kind sense f t ix : Int) (m : Nat) : (arcN kind sense f t ix m).length ≤ m := by
 unfold arcN
 rw [List.length_map]
 exact Nat.le_trans (List.length_filter_le _ _) (by simp)
end Go.Proofs.YtkpfbnffhhmokaaGreat
namespace Go.Proofs.YtkpfbnffhhmokaaGreat
open Go.ChangeShapes Go.WideShapes Go.ChangeAt Go.RowKit Go.Deep
set_option linter.unusedVariables false
set_option linter.unusedSimpArgs false
set_option maxRecDepth 100000
def LkS (w : World) (B : Nat) (v : Value) (L : List LkD) : Prop := ∃ F, CellS w B v L.length 4 F ∧ ∀ i, i < L.length → F i 0 = .int .i64 (lkn L i).src ∧ F i 1 = .int .i64 (lkn L i).dst ∧ F i 2 = .int .i64 (lkn L i).kind ∧ F i 3 = .int .i64 (lkn L i).ix
theorem LkS.slice {w : World} {B : Nat} {v : Value} {L : List LkD} (h : LkS w B v L) : ∃ p q, v = .slice p L.length q := by
 obtain ⟨F, ⟨_, a, cap, rfl, _⟩, _⟩ := h
 exact ⟨_, _, rfl⟩
theorem LkS.keep {w w' : World} {B C : Nat} {v : Value} {L : List LkD} (h : LkS w B v L) (hb : Below B w w') (hB : B ≤ C) : LkS w' C v L := by
 obtain ⟨F, h0, h1⟩ := h
 exact ⟨F, h0.keep hb hB, h1⟩
theorem LkS.up {w w' : World} {v : Value} {L : List LkD} (h : LkS w w.heap.size v L) (hb : Below w.heap.size w w') : LkS w' w'.heap.size v L := h.keep hb hb.size
theorem LkS.at {w wr : World} {a : Option Addr} {n cap k : Nat} {L : List LkD} (h : LkS w w.heap.size (.slice a n cap) L) (hb : Below w.heap.size w wr) (hk : k < L.length) :
  ∃ b off, a = some ⟨b, off, none⟩ ∧ b < w.heap.size ∧ wr.cell? ⟨b, off + k * 4, none⟩ = some (.int .i64 (lkn L k).src) ∧ wr.cell? ⟨b, off + k * 4 + 1, none⟩ = some (.int .i64 (lkn L k).dst) ∧ wr.cell? ⟨b, off + k * 4 + 2, none⟩ = some (.int .i64 (lkn L k).kind) ∧ wr.cell? ⟨b, off + k * 4 + 3, none⟩ = some (.int .i64 (lkn L k).ix) := by
 obtain ⟨F, hc, hf⟩ := h
 obtain ⟨_, a', cap', e, _⟩ := id hc
 cases e
 obtain ⟨b, off, rfl, hlt, hx⟩ := hc.at hb hk
 have y0 := hx 0 (by omega); have y1 := hx 1 (by omega); have y2 := hx 2 (by omega); have y3 := hx 3 (by omega)
 obtain ⟨e0, e1, e2, e3⟩ := hf k hk
 rw [e0] at y0; rw [e1] at y1; rw [e2] at y2; rw [e3] at y3
 exact ⟨b, off, rfl, hlt, by simpa using y0, y1, y2, y3⟩
/-- A list of links under construction. -/
def GL (w : World) (base : Nat) (v : Value) (L : List LkD) : Prop := GR w base 109 4 v (L.map lkC)
theorem GL.lks {w : World} {base : Nat} {v : Value} {L : List LkD} (h : GL w base v L) (hl : L.length ≤ 1048576) : LkS w w.heap.size v L := by
 have hl' : (L.map lkC).length = L.length := List.length_map _
 have hc := (GR.out h (by omega) (by rw [hl']; exact hl)).cells
 rw [hl'] at hc
 refine ⟨_, hc, fun i hi => ?_⟩
 have e : (L.map lkC).getD i [] = lkC (lkn L i) := by simp [List.getD, lkn, hi]
 simp only [e]
 exact ⟨rfl, rfl, rfl, rfl⟩
theorem Tryz.infoLk : (Tryz.prog.info? 109).map (fun i => (i.zero, i.size, i.bytes)) = some (some (.agg #[.int .i64 0, .int .i64 0, .int .i64 0, .int .i64 0]), 4, 32) := by kernel_rfl
/-- From w with the list v to w' with the list v' only the list's block may have changed, and the list lies where it lay or in new memory. -/
def LkF (w : World) (v : Value) (w' : World) (v' : Value) : Prop := w.grownBy w' v.ownBlock ∧ (v'.ownBlock = v.ownBlock ∨ ∀ k, v'.ownBlock = some k → w.heap.size ≤ k)
theorem LkF.refl (w : World) (v : Value) : LkF w v w v := ⟨World.grownBy.refl _ _, .inl rfl⟩
theorem LkF.trans {w w1 w2 : World} {v v1 v2 : Value} (h : LkF w v w1 v1) (k : LkF w1 v1 w2 v2) : LkF w v w2 v2 := by
 refine ⟨⟨k.1.os.trans h.1.os, k.1.tape.trans h.1.tape, k.1.output.trans h.1.output, Nat.le_trans h.1.size k.1.size, fun i hi hne => ?_⟩, ?_⟩
 ·rw [k.1.block i (Nat.lt_of_lt_of_le hi h.1.size) (fun e => ?_)]
  ·exact h.1.block i hi hne
  ·rcases h.2 with q | q
   ·exact hne (e.trans q)
   ·have := q i e.symm; omega
 ·rcases k.2 with q | q
  ·rcases h.2 with q' | q'
   ·exact .inl (q.trans q')
   ·exact .inr (fun i hi => q' i (q ▸ hi))
  ·exact .inr (fun i hi => Nat.le_trans h.1.size (q i hi))
theorem LkF.call {w w1 : World} (v : Value) (h : Below w.heap.size w w1) : LkF w v w1 v := ⟨⟨h.os, h.tape, h.output, h.size, fun k hk _ => h.block k hk⟩, .inl rfl⟩
theorem LkF.cell {w w' : World} {v v' : Value} (h : LkF w v w' v') {g o : Nat} {u : Value} (hc : w.cell? ⟨g, o, none⟩ = some u) (hg : some g ≠ v.ownBlock) : w'.cell? ⟨g, o, none⟩ = some u := h.1.cell hc hg
theorem LkF.below {w w' : World} {v v' : Value} {B : Nat} (h : LkF w v w' v') (hB : B ≤ w.heap.size) (hv : ∀ k, v.ownBlock = some k → B ≤ k) : Below B w w' := (Below.refl B w).grown h.1 hB hv
def LkR (base : Nat) (L : List LkD) (w : World) (v : Value) (e : Ending) (w' : World) : Prop := ∃ v', e = .returned v' ∧ GL w' base v' L ∧ LkF w v w' v'
theorem four_new (w : World) (a b c d : Value) (T : TypeId) (g : Nat) (hg : g = w.heap.size) : ∀ j u, [a, b, c, d][j]? = some u → (w.alloc (Obj.cells #[a, b, c, d] T)).cell? ((⟨g, 0, none⟩ : Addr).add j) = some u := by
 subst hg
 intro j u hu
 have e : (⟨w.heap.size, 0, none⟩ : Addr).add j = ⟨w.heap.size, j, none⟩ := by simp [Addr.add]; exact fun h => h.symm
 rw [e]
 match j with
 | 0 => simp [go_sem]; simpa using hu
 | 1 => simp [go_sem]; simpa using hu
 | 2 => simp [go_sem]; simpa using hu
 | 3 => simp [go_sem]; simpa using hu
 | j + 4 => simp at hu
set_option maxHeartbeats 4000000 in
theorem pair_any (v : Value) (L : List LkD) (base : Nat) (f t a b kd x : Int) (w : World) (h : GL w base v L) (hb : base ≤ w.heap.size) (hL : L.length ≤ 100000) (f0 : -1000 ≤ f) (f1 : f ≤ 1000) (t0 : -1000 ≤ t) (t1 : t ≤ 1000) (a0 : 0 ≤ a) (a1 : a ≤ 10) (b0 : 0 ≤ b) (b1 : b ≤ 10) :
  Calls Tryz.prog 87 #[v, .int .i64 f, .int .i64 t, .int .i64 a, .int .i64 b, .int .i64 kd, .int .i64 x] w (LkR base (L ++ [⟨2 * f + a, 2 * t + b, kd, x⟩]) w v) := by
 obtain ⟨ti, hi, hz0, hz1, hz2⟩ := info_parts Tryz.infoLk
 have hlen : (L.map lkC).length ≤ 100000 := by rw [List.length_map]; exact hL
 have HB := lh h.blk
 have HG := lh h
 have HL := lh hlen
 clear h hlen
 have bA : Below w.heap.size w (w.alloc (Obj.cells #[.int .i64 (2 * f + a), .int .i64 (2 * t + b), .int .i64 kd, .int .i64 x] 109)) := (Below.refl _ _).alloc (Nat.le_refl _) _
 have HA := lh bA
 clear bA
 go_enter Tryz.func87, Tryz.ntmps87
 go_wp2_with (at_builtin; refine wpList_append_at rfl _ _ 65 rfl base 109 ti (.agg #[.int .i64 0, .int .i64 0, .int .i64 0, .int .i64 0]) 4 32 Tryz.underlying65 hi hz0 hz1 hz2 rfl (by decide) _ _ _ rfl (GR.below HG.out HA.out).1 ⟨w.heap.size, 0, none⟩ 1 1 [.int .i64 (2 * f + a), .int .i64 (2 * t + b), .int .i64 kd, .int .i64 x] rfl rfl (four_new _ _ _ _ _ _ _ rfl) (fun u hu => by simp at hu; rcases hu with rfl | rfl | rfl | rfl <;> rfl) (by have := HL.out; unfold maxLen; omega) (by have := HL.out; omega) (by simp; omega) ?_; intro v' w9 hown' hgrow hat)
 have hg := (GR.below HG.out HA.out).snoc (f := [.int .i64 (2 * f + a), .int .i64 (2 * t + b), .int .i64 kd, .int .i64 x]) hown' rfl
 have hg2 := lh (show GL w9 base v' (L ++ [⟨2 * f + a, 2 * t + b, kd, x⟩]) by unfold GL; rw [List.map_append]; exact hg)
 have hF := lh (show LkF w v w9 v' from (LkF.call v HA.out).trans ⟨hgrow, hat.elim .inl (fun q => .inr (fun k hk => by rw [q] at hk; exact Nat.le_of_eq (Option.some.inj hk)))⟩)
 clear hg hown' hgrow hat
 go_wp2
 go_ret
 exact ⟨_, rfl, hg2.out, hF.out⟩
set_option maxHeartbeats 16000000 in
theorem arc_any (v : Value) (L : List LkD) (base : Nat) (kd sr ds sn f tt x : Int) (dl sl : Value) (w : World) (h : GL w base v L) (hb : base ≤ w.heap.size) (hL : L.length ≤ 50000) (f0 : -1 ≤ f) (f1 : f ≤ 100) (t0 : -1 ≤ tt) (t1 : tt ≤ 100) :
  Calls Tryz.prog 83 #[v, .agg #[.int .i64 kd, .int .i64 sr, .int .i64 ds, .int .i64 sn, dl, sl], .int .i64 f, .int .i64 tt, .int .i64 x] w (LkR base (L ++ arcN kd sn f tt x 4) w v) := by
 have HB := lh h.blk
 obtain ⟨W, hW⟩ : ∃ W, W = (w.alloc (Obj.cells #[.int .i64 kd, .int .i64 sr, .int .i64 ds, .int .i64 sn, dl, sl] 129)) := ⟨_, rfl⟩
 have bW : Below w.heap.size w W := by rw [hW]; exact (Below.refl _ _).alloc (Nat.le_refl _) _
 have zW : W.heap.size = w.heap.size + 1 := by rw [hW]; simp
 have c0 : W.cell? ⟨w.heap.size, 0, none⟩ = some (.int .i64 kd) := by rw [hW]; simp [go_sem]
 have c3 : W.cell? ⟨w.heap.size, 3, none⟩ = some (.int .i64 sn) := by rw [hW]; simp [go_sem]
 have G0 := lh (show GL W base v (L ++ arcN kd sn f tt x (2 * (0 : Int).toNat)) by
  have e : arcN kd sn f tt x (2 * (0 : Int).toNat) = [] := rfl
  rw [e, List.append_nil]; exact GR.below h bW)
 have F0 := lh (LkF.call v bW)
 have hne : ∀ v' : Value, (v'.ownBlock = v.ownBlock ∨ ∀ k, v'.ownBlock = some k → W.heap.size ≤ k) → some w.heap.size ≠ v'.ownBlock := by
  intro v' hv e
  rcases hv with q | q
  ·have := (HB.out _ (by rw [← q]; exact e.symm)).2; omega
  ·have := q _ e.symm; omega
 have HNE := lh hne
 have lW : w.heap.size < W.heap.size := by omega
 have zb : base ≤ W.heap.size := by omega
 have HW := lh hW
 clear h hW hne bW zW
 go_enter Tryz.func83, Tryz.ntmps83
 go_wp2_with fail
 rw [← HW.out]
 go_loopw [0, 11] (fun u a wr => ∃ a' : Int, 0 ≤ a' ∧ a' ≤ 2 ∧ a = .int .i64 a' ∧ Hid (GL wr base u (L ++ arcN kd sn f tt x (2 * a'.toNat))) ∧ Hid (LkF W v wr u)) (fun _ a _ => (2 - intOf a).toNat)
 case atStart => exact ⟨0, by omega, by omega, rfl, G0, lh (LkF.refl _ _)⟩
 case round =>
  clear G0
  obtain ⟨a', a0, a2, rfl, hG, hF⟩ := hrel
  by_cases ha : a' ≤ 1
  ·go_wp2_with fail
   obtain ⟨wo, hwo⟩ : ∃ wo : World, wo = wr := ⟨_, rfl⟩
   subst hwo
   go_loopw [0, 12] (fun u b wr => ∃ b' : Int, 0 ≤ b' ∧ b' ≤ 2 ∧ b = .int .i64 b' ∧ Hid (GL wr base u (L ++ arcN kd sn f tt x (2 * a'.toNat + b'.toNat))) ∧ Hid (LkF W v wr u)) (fun _ b _ => (2 - intOf b).toNat)
   case atStart => exact ⟨0, by omega, by omega, rfl, hG, hF⟩
   case round =>
    clear hG hF
    obtain ⟨b', b0, b2, rfl, hG, hF⟩ := hrel
    have r0 := hF.out.cell c0 (HNE.out v (.inl rfl))
    have r3 := hF.out.cell c3 (HNE.out v (.inl rfl))
    have szr : w.heap.size < wr.heap.size := cell_lt r0
    by_cases hb1 : b' ≤ 1
    ·have hlen : (L ++ arcN kd sn f tt x (2 * a'.toNat + b'.toNat)).length ≤ 100000 := by
      rw [List.length_append]; have := arcN_len kd sn f tt x (2 * a'.toNat + b'.toNat); omega
     have HL := lh hlen
     have hsr : base ≤ wr.heap.size := by have := hF.out.1.size; omega
     have STEP := lh (arcN_succ kd sn f tt x (2 * a'.toNat + b'.toNat))
     have E1 : (2 * a'.toNat + b'.toNat) / 2 = a'.toNat := by omega
     have E2 : (2 * a'.toNat + b'.toNat) % 2 = b'.toNat := by omega
     have E3 : (b' + 1).toNat = b'.toNat + 1 := by omega
     have HP := lh (fun (w1 : World) (hw1 : Below wr.heap.size wr w1) => pair_any _ _ base f tt a' b' 1 x w1 (GR.below hG.out hw1) (Nat.le_trans hsr hw1.size) HL.out (by omega) (by omega) (by omega) (by omega) a0 (by omega) b0 (by omega))
     have FT := lh (show fitJ kd sn (2 * a'.toNat + b'.toNat) = fitsB kd sn a' b' by
      unfold fitJ
      rw [E1, E2, Int.toNat_of_nonneg a0, Int.toNat_of_nonneg b0])
     have LK := lh (show lkOf f tt x (2 * a'.toNat + b'.toNat) = ⟨2 * f + a', 2 * tt + b', 1, x⟩ by
      unfold lkOf
      rw [E1, E2, Int.toNat_of_nonneg a0, Int.toNat_of_nonneg b0])
     have NX := lh (fun (hf : fitsB kd sn a' b' = false) => (show arcN kd sn f tt x (2 * a'.toNat + (b' + 1).toNat) = arcN kd sn f tt x (2 * a'.toNat + b'.toNat) by
      rw [E3, ← Nat.add_assoc, STEP.out, FT.out, hf]; simp))
     have NY := lh (fun (hf : fitsB kd sn a' b' = true) => (show arcN kd sn f tt x (2 * a'.toNat + (b' + 1).toNat) = arcN kd sn f tt x (2 * a'.toNat + b'.toNat) ++ [⟨2 * f + a', 2 * tt + b', 1, x⟩] by
      rw [E3, ← Nat.add_assoc, STEP.out, FT.out, hf, LK.out]; simp))
     clear E1 E2 E3 STEP FT LK hlen
     by_cases k1 : kd = 1
     ·by_cases s3 : sn = 3
      ·have nx := lh (NY.out (by have es3 : (sn == 3) = true := (by simpa using s3); simp [fitsB, k1, es3]))
       clear NX NY
       have Bk1 : (kd == 1) = true := by simpa using k1
       clear k1
       have Bs3 : (sn == 3) = true := by simpa using s3
       clear s3
       go_wp2_with fail
       (go_at_call 87; refine (HP.out _ (Below.refl _ _)).mono ?_; rintro e w9 ⟨v9, rfl, hG9, hF9⟩)
       have G9 : Hid (GL w9 base v9 (L ++ arcN kd sn f tt x (2 * a'.toNat + (b' + 1).toNat))) := by rw [nx.out, ← List.append_assoc]; exact lh hG9
       have F9 := lh (hF.out.trans hF9)
       clear hG9 hF9 r0 r3 HP HL hG hF
       go_wp2
       go_roundw
       case rel => exact ⟨b' + 1, by omega, by omega, by go_num, G9, F9⟩
       case measure => simp [intOf]; omega
      ·by_cases s1 : sn = 1
       ·by_cases ab : a' = b'
        ·have nx := lh (NY.out (by have es3 : (sn == 3) = false := (by simpa using s3); have es1 : (sn == 1) = true := (by simpa using s1); have eab : (a' == b') = true := (by simpa using ab); simp [fitsB, k1, es3, es1, eab]))
         clear NX NY
         have Bk1 : (kd == 1) = true := by simpa using k1
         clear k1
         have Bs3 : (sn == 3) = false := by simpa using s3
         have Bs1 : (sn == 1) = true := by simpa using s1
         clear s1
         have Bab : (a' == b') = true := by simpa using ab
         clear ab
         go_wp2_with fail
         (go_at_call 87; refine (HP.out _ (Below.refl _ _)).mono ?_; rintro e w9 ⟨v9, rfl, hG9, hF9⟩)
         have G9 : Hid (GL w9 base v9 (L ++ arcN kd sn f tt x (2 * a'.toNat + (b' + 1).toNat))) := by rw [nx.out, ← List.append_assoc]; exact lh hG9
         have F9 := lh (hF.out.trans hF9)
         clear hG9 hF9 r0 r3 HP HL hG hF
         go_wp2
         go_roundw
         case rel => exact ⟨b' + 1, by omega, by omega, by go_num, G9, F9⟩
         case measure => simp [intOf]; omega
        ·have nx := lh (NX.out (by have es3 : (sn == 3) = false := (by simpa using s3); have es1 : (sn == 1) = true := (by simpa using s1); have eab : (a' == b') = false := (by simpa using ab); simp [fitsB, k1, es3, es1, eab]))
         clear NX NY
         have Bk1 : (kd == 1) = true := by simpa using k1
         clear k1
         have Bs3 : (sn == 3) = false := by simpa using s3
         have Bs1 : (sn == 1) = true := by simpa using s1
         clear s1
         have Bab : (a' == b') = false := by simpa using ab
         have h9 := hG.out
         rw [← nx.out] at h9
         have G9 := lh h9
         clear h9 hG HP HL
         go_wp2
         go_roundw
         case rel => exact ⟨b' + 1, by omega, by omega, by go_num, G9, hF⟩
         case measure => simp [intOf]; omega
       ·by_cases ab : a' = b'
        ·have nx := lh (NX.out (by have es3 : (sn == 3) = false := (by simpa using s3); have es1 : (sn == 1) = false := (by simpa using s1); have eab : (a' == b') = true := (by simpa using ab); simp [fitsB, k1, es3, es1, eab]))
         clear NX NY
         have Bk1 : (kd == 1) = true := by simpa using k1
         clear k1
         have Bs3 : (sn == 3) = false := by simpa using s3
         have Bs1 : (sn == 1) = false := by simpa using s1
         have Bab : (a' == b') = true := by simpa using ab
         clear ab
         have h9 := hG.out
         rw [← nx.out] at h9
         have G9 := lh h9
         clear h9 hG HP HL
         go_wp2
         go_roundw
         case rel => exact ⟨b' + 1, by omega, by omega, by go_num, G9, hF⟩
         case measure => simp [intOf]; omega
        ·have nx := lh (NY.out (by have es3 : (sn == 3) = false := (by simpa using s3); have es1 : (sn == 1) = false := (by simpa using s1); have eab : (a' == b') = false := (by simpa using ab); simp [fitsB, k1, es3, es1, eab]))
         clear NX NY
         have Bk1 : (kd == 1) = true := by simpa using k1
         clear k1
         have Bs3 : (sn == 3) = false := by simpa using s3
         have Bs1 : (sn == 1) = false := by simpa using s1
         have Bab : (a' == b') = false := by simpa using ab
         go_wp2_with fail
         (go_at_call 87; refine (HP.out _ (Below.refl _ _)).mono ?_; rintro e w9 ⟨v9, rfl, hG9, hF9⟩)
         have G9 : Hid (GL w9 base v9 (L ++ arcN kd sn f tt x (2 * a'.toNat + (b' + 1).toNat))) := by rw [nx.out, ← List.append_assoc]; exact lh hG9
         have F9 := lh (hF.out.trans hF9)
         clear hG9 hF9 r0 r3 HP HL hG hF
         go_wp2
         go_roundw
         case rel => exact ⟨b' + 1, by omega, by omega, by go_num, G9, F9⟩
         case measure => simp [intOf]; omega
     ·by_cases k2 : kd = 2
      ·by_cases az : a' = 0
       ·have nx := lh (NY.out (by have eaz : (a' == 0) = true := (by simpa using az); simp [fitsB, k1, k2, eaz]))
        clear NX NY
        have Bk1 : (kd == 1) = false := by simpa using k1
        have Bk2 : (kd == 2) = true := by simpa using k2
        clear k2
        have Baz : (a' == 0) = true := by simpa using az
        clear az
        go_wp2_with fail
        (go_at_call 87; refine (HP.out _ (Below.refl _ _)).mono ?_; rintro e w9 ⟨v9, rfl, hG9, hF9⟩)
        have G9 : Hid (GL w9 base v9 (L ++ arcN kd sn f tt x (2 * a'.toNat + (b' + 1).toNat))) := by rw [nx.out, ← List.append_assoc]; exact lh hG9
        have F9 := lh (hF.out.trans hF9)
        clear hG9 hF9 r0 r3 HP HL hG hF
        go_wp2
        go_roundw
        case rel => exact ⟨b' + 1, by omega, by omega, by go_num, G9, F9⟩
        case measure => simp [intOf]; omega
       ·have nx := lh (NX.out (by have eaz : (a' == 0) = false := (by simpa using az); simp [fitsB, k1, k2, eaz]))
        clear NX NY
        have Bk1 : (kd == 1) = false := by simpa using k1
        have Bk2 : (kd == 2) = true := by simpa using k2
        clear k2
        have Baz : (a' == 0) = false := by simpa using az
        have h9 := hG.out
        rw [← nx.out] at h9
        have G9 := lh h9
        clear h9 hG HP HL
        go_wp2
        go_roundw
        case rel => exact ⟨b' + 1, by omega, by omega, by go_num, G9, hF⟩
        case measure => simp [intOf]; omega
      ·by_cases k3 : kd = 3
       ·by_cases az : a' = 1
        ·have nx := lh (NY.out (by have eaz : (a' == 1) = true := (by simpa using az); simp [fitsB, k1, k2, k3, eaz]))
         clear NX NY
         have Bk1 : (kd == 1) = false := by simpa using k1
         have Bk2 : (kd == 2) = false := by simpa using k2
         have Bk3 : (kd == 3) = true := by simpa using k3
         clear k3
         have Baz : (a' == 1) = true := by simpa using az
         clear az
         go_wp2_with fail
         (go_at_call 87; refine (HP.out _ (Below.refl _ _)).mono ?_; rintro e w9 ⟨v9, rfl, hG9, hF9⟩)
         have G9 : Hid (GL w9 base v9 (L ++ arcN kd sn f tt x (2 * a'.toNat + (b' + 1).toNat))) := by rw [nx.out, ← List.append_assoc]; exact lh hG9
         have F9 := lh (hF.out.trans hF9)
         clear hG9 hF9 r0 r3 HP HL hG hF
         go_wp2
         go_roundw
         case rel => exact ⟨b' + 1, by omega, by omega, by go_num, G9, F9⟩
         case measure => simp [intOf]; omega
        ·have nx := lh (NX.out (by have eaz : (a' == 1) = false := (by simpa using az); simp [fitsB, k1, k2, k3, eaz]))
         clear NX NY
         have Bk1 : (kd == 1) = false := by simpa using k1
         have Bk2 : (kd == 2) = false := by simpa using k2
         have Bk3 : (kd == 3) = true := by simpa using k3
         clear k3
         have Baz : (a' == 1) = false := by simpa using az
         have h9 := hG.out
         rw [← nx.out] at h9
         have G9 := lh h9
         clear h9 hG HP HL
         go_wp2
         go_roundw
         case rel => exact ⟨b' + 1, by omega, by omega, by go_num, G9, hF⟩
         case measure => simp [intOf]; omega
       ·have nx := lh (NX.out (by simp [fitsB, k1, k2, k3]))
        clear NX NY
        have Bk1 : (kd == 1) = false := by simpa using k1
        have Bk2 : (kd == 2) = false := by simpa using k2
        have Bk3 : (kd == 3) = false := by simpa using k3
        have h9 := hG.out
        rw [← nx.out] at h9
        have G9 := lh h9
        clear h9 hG HP HL
        go_wp2
        go_roundw
        case rel => exact ⟨b' + 1, by omega, by omega, by go_num, G9, hF⟩
        case measure => simp [intOf]; omega
    ·obtain rfl : b' = 2 := by omega
     have h9 := hG.out
     rw [show 2 * a'.toNat + (2 : Int).toNat = 2 * (a' + 1).toNat by omega] at h9
     have hG2 := lh h9
     clear h9 hG
     go_wp2
     go_roundw
     case rel => exact ⟨a' + 1, by omega, by omega, by go_num, hG2, hF⟩
     case measure => simp [intOf]; omega
  ·obtain rfl : a' = 2 := by omega
   have hF2 := lh (F0.out.trans hF.out)
   go_wp2
   go_ret
   exact ⟨_, rfl, hG.out, hF2.out⟩
end Go.Proofs.YtkpfbnffhhmokaaGreat
namespace Go.Proofs.YtkpfbnffhhmokaaGreat
open Go.ChangeShapes Go.WideShapes Go.ChangeAt Go.RowKit Go.Deep
set_option linter.unusedVariables false
set_option linter.unusedSimpArgs false
def findP (P : List PlD) (i p : Int) : Int := Go.Proofs.YtkpfbnffhhmokaaGreat.ix (fun j => ((pll P j).inst == i && (pll P j).pin == p)) P.length
def drvP (P : List PlD) (n : Int) : Int := Go.Proofs.YtkpfbnffhhmokaaGreat.ix (fun j => ((pll P j).net == n && (pll P j).drv)) P.length
/-- The links of arc k of an instance. -/
def arcLk (P : List PlD) (c : CellD) (i k : Nat) : List LkD := if (an c.arcs k).kind ≤ 3 then arcN (an c.arcs k).kind (an c.arcs k).sense (findP P i (an c.arcs k).src) (findP P i (an c.arcs k).dst) k 4 else []
def instLk (P : List PlD) (c : CellD) (i m : Nat) : List LkD := (List.range m).flatMap (arcLk P c i)
def instsLk (z : BlkD) (n : Nat) : List LkD := (List.range n).flatMap (fun i => instLk (places z.lib z.des) (xcell z.lib (inn z.des.insts i)) i (xcell z.lib (inn z.des.insts i)).arcs.length)
def sinkLk (P : List PlD) (n k : Nat) : List LkD := [⟨2 * drvP P n, 2 * iv (endsL P (n : Int) false) k, 2, k⟩, ⟨2 * drvP P n + 1, 2 * iv (endsL P (n : Int) false) k + 1, 2, k⟩]
def netLk (P : List PlD) (n m : Nat) : List LkD := (List.range m).flatMap (sinkLk P n)
def netsLk (P : List PlD) (m : Nat) : List LkD := (List.range m).flatMap (fun n => netLk P n (endsL P (n : Int) false).length)
/-- All links of a block. -/
def linksL (z : BlkD) : List LkD := instsLk z z.des.insts.length ++ netsLk (places z.lib z.des) z.des.nets.length
theorem instLk_succ (P : List PlD) (c : CellD) (i m : Nat) : instLk P c i (m + 1) = instLk P c i m ++ arcLk P c i m := by simp [instLk, List.range_succ]
theorem instsLk_succ (z : BlkD) (n : Nat) : instsLk z (n + 1) = instsLk z n ++ instLk (places z.lib z.des) (xcell z.lib (inn z.des.insts n)) n (xcell z.lib (inn z.des.insts n)).arcs.length := by simp [instsLk, List.range_succ]
theorem netLk_succ (P : List PlD) (n m : Nat) : netLk P n (m + 1) = netLk P n m ++ sinkLk P n m := by simp [netLk, List.range_succ]
theorem netsLk_succ (P : List PlD) (m : Nat) : netsLk P (m + 1) = netsLk P m ++ netLk P m (endsL P (m : Int) false).length := by simp [netsLk, List.range_succ]
theorem flat_le {α β : Type} (f : α → List β) (M : Nat) : ∀ (l : List α), (∀ x ∈ l, (f x).length ≤ M) → (l.flatMap f).length ≤ l.length * M
 | [], _ => by simp
 | a :: l, h => by
  have h1 := h a (List.mem_cons_self ..)
  have h2 := flat_le f M l (fun x hx => h x (List.mem_cons_of_mem _ hx))
  rw [List.flatMap_cons, List.length_append, List.length_cons, Nat.add_mul, Nat.one_mul]
  omega
theorem arcLk_len (P : List PlD) (c : CellD) (i k : Nat) : (arcLk P c i k).length ≤ 4 := by
 unfold arcLk
 split
 ·exact arcN_len _ _ _ _ _ _
 ·simp
theorem instLk_len (P : List PlD) (c : CellD) (i m : Nat) : (instLk P c i m).length ≤ m * 4 := by
 have := flat_le (arcLk P c i) 4 (List.range m) (fun x _ => arcLk_len P c i x)
 simpa [instLk] using this
theorem netLk_len (P : List PlD) (n m : Nat) : (netLk P n m).length ≤ m * 2 := by
 have := flat_le (sinkLk P n) 2 (List.range m) (fun x _ => by simp [sinkLk])
 simpa [netLk] using this
theorem ix_bd (q : Nat → Bool) (n : Nat) : -1 ≤ Go.Proofs.YtkpfbnffhhmokaaGreat.ix q n ∧ Go.Proofs.YtkpfbnffhhmokaaGreat.ix q n < n ∨ Go.Proofs.YtkpfbnffhhmokaaGreat.ix q n = -1 := by
 by_cases h : ∃ k, k < n ∧ q k = true
 ·have hex : ∃ k, k < n ∧ q k = true ∧ ∀ j, j < k → q j = false := by
   obtain ⟨k, hk⟩ := h
   induction k using Nat.strongRecOn with
   | _ k ih =>
    by_cases e : ∃ j, j < k ∧ q j = true
    ·obtain ⟨j, hj, hq⟩ := e
     exact ih j hj ⟨by omega, hq⟩
    ·exact ⟨k, hk.1, hk.2, fun j hj => by
      cases hq : q j
      ·rfl
      ·exact absurd ⟨j, hj, hq⟩ e⟩
  obtain ⟨k, hk, hq, hall⟩ := hex
  rw [ix_at hk hq hall]
  exact .inl ⟨by omega, by omega⟩
 ·refine .inr (ix_none (fun j hj => ?_))
  cases hq : q j
  ·rfl
  ·exact absurd ⟨j, hj, hq⟩ h
theorem findP_bd (P : List PlD) (i p : Int) : -1 ≤ findP P i p ∧ findP P i p ≤ P.length := by
 rcases ix_bd (fun j => ((pll P j).inst == i && (pll P j).pin == p)) P.length with ⟨a, b⟩ | a
 ·exact ⟨a, Int.le_of_lt b⟩
 ·simp only [findP]; omega
theorem drvP_bd (P : List PlD) (n : Int) : -1 ≤ drvP P n ∧ drvP P n ≤ P.length := by
 rcases ix_bd (fun j => ((pll P j).net == n && (pll P j).drv)) P.length with ⟨a, b⟩ | a
 ·exact ⟨a, Int.le_of_lt b⟩
 ·simp only [drvP]; omega
theorem snk100 {z : BlkD} (h : blkB z = true) (k : Nat) : (endsL (places z.lib z.des) (k : Int) false).length ≤ 100 := Nat.le_trans (endsL_le _ _ _) (placesM (blk_get h).1)
theorem arcs_len {c : CellD} (h : cellB c = true) : c.arcs.length ≤ 8 := (arcs_get (cell_get h).2.2.1).1
end Go.Proofs.YtkpfbnffhhmokaaGreat
namespace Go.Proofs.YtkpfbnffhhmokaaGreat
open Go.ChangeShapes Go.WideShapes Go.ChangeAt Go.RowKit Go.Deep
set_option linter.unusedVariables false
set_option linter.unusedSimpArgs false
set_option maxRecDepth 100000
theorem ends_in2 (P : List PlD) (n : Int) (b : Bool) (i : Nat) (h : i < (endsL P n b).length) : ∃ k : Nat, iv (endsL P n b) i = (k : Int) ∧ k < P.length := by
 have hm : (endsL P n b)[i] ∈ endsL P n b := List.getElem_mem h
 have e : iv (endsL P n b) i = (endsL P n b)[i] := by simp [iv, List.getD, h]
 rw [e]
 generalize (endsL P n b)[i] = y at hm
 simp only [endsL, List.mem_map, List.mem_filter, List.mem_range] at hm
 obtain ⟨k, ⟨hk, _⟩, rfl⟩ := hm
 exact ⟨k, rfl, hk⟩
theorem OwnS.cells2 {w : World} {B n cap : Nat} {a : Option Addr} {xs : List Int} (h : OwnS w B (.slice a n cap) xs) (h0 : 0 < xs.length) : n = xs.length ∧ ∃ g, a = some ⟨g, 0, none⟩ ∧ B ≤ g ∧ g < w.heap.size ∧ ∀ i, i < xs.length → w.cell? ⟨g, i, none⟩ = some (.int .i64 (iv xs i)) ∧ w.frozen? ⟨g, i, none⟩ = false := by
 obtain ⟨_, a', c, e, h⟩ := h
 obtain ⟨g, e', hB, hg, hx⟩ := h h0
 simp only [Value.slice.injEq] at e
 obtain ⟨e1, e2, _⟩ := e
 exact ⟨e2, g, by rw [e1, e'], hB, hg, hx⟩
theorem instsLk_len {z : BlkD} (h : blkB z = true) {n : Nat} (hn : n ≤ z.des.insts.length) : (instsLk z n).length ≤ 14 * 32 := by
 obtain ⟨hlib, hsz, _, hcn, _⟩ := desG (blk_get h).1
 have hi : z.des.insts.length ≤ 14 := by
  simp only [sizesB, Bool.and_eq_true, decide_eq_true_eq] at hsz
  exact hsz.1.1
 have := flat_le (fun i => instLk (places z.lib z.des) (xcell z.lib (inn z.des.insts i)) i (xcell z.lib (inn z.des.insts i)).arcs.length) 32 (List.range n) (fun i hi => by
  have hi' : i < z.des.insts.length := by have := List.mem_range.1 hi; omega
  obtain ⟨i1, i2, _, _⟩ := conn_inst hcn hi'
  have h8 := arcs_len (lib_cell hlib i1 i2)
  exact Nat.le_trans (instLk_len _ _ _ _) (by omega))
 rw [List.length_range] at this
 unfold instsLk
 omega
theorem netsLk_len {z : BlkD} (h : blkB z = true) {n : Nat} (hn : n ≤ z.des.nets.length) : (netsLk (places z.lib z.des) n).length ≤ 30 * 200 := by
 have h30 := des_nets (blk_get h).1
 have := flat_le (fun k : Nat => netLk (places z.lib z.des) k (endsL (places z.lib z.des) (k : Int) false).length) 200 (List.range n) (fun i _ => by
  have := snk100 h i
  exact Nat.le_trans (netLk_len _ _ _) (by omega))
 rw [List.length_range] at this
 unfold netsLk
 omega
theorem linksL_len {z : BlkD} (h : blkB z = true) : (linksL z).length ≤ 7000 := by
 have a := instsLk_len h (Nat.le_refl _)
 have b := netsLk_len h (Nat.le_refl _)
 unfold linksL
 rw [List.length_append]
 omega
def LinksR (z : BlkD) (w : World) (e : Ending) (w' : World) : Prop := ∃ v, e = .returned v ∧ GL w' w.heap.size v (linksL z) ∧ Below w.heap.size w w'
set_option maxHeartbeats 32000000 in
theorem specLinks_any (f : Nat → Value) (z : BlkD) (w : World) (h : BlkF w w.heap.size f z) (hb : blkB z = true) :
  Calls Tryz.prog 47 #[.agg #[f 0, f 1, f 2, f 3, f 4]] w (LinksR z w) := by
 have hd := (blk_get hb).1
 obtain ⟨hlib, hsz, _, hcn, _⟩ := desG hd
 have HFD := lh (fun (x y : Int) (w1 : World) (hb' : Below w.heap.size w w1) => (show Calls Tryz.prog 84 #[.agg #[f 1, f 2, f 3], .int .i64 x, .int .i64 y] w1 fun e w' => e = .returned (.int .i64 (findP (places z.lib z.des) x y)) ∧ Below w1.heap.size w1 w' from specFind_any (vec [f 1, f 2, f 3]) z.lib z.des x y w1 (h.2.1.up hb') hd))
 have HDR := lh (fun (x : Int) (w1 : World) (hb' : Below w.heap.size w w1) => (show Calls Tryz.prog 85 #[.agg #[f 1, f 2, f 3], .int .i64 x] w1 fun e w' => e = .returned (.int .i64 (drvP (places z.lib z.des) x)) ∧ Below w1.heap.size w1 w' from specDriver_any (vec [f 1, f 2, f 3]) z.lib z.des x w1 (h.2.1.up hb') hd))
 have HSN := lh (fun (x : Int) (w1 : World) (hb' : Below w.heap.size w w1) => specSinks_any (vec [f 1, f 2, f 3]) z.lib z.des x w1 (h.2.1.up hb') hd)
 have HCN := lh (fun i (hi : i < z.des.insts.length) => conn_inst hcn hi)
 have HLC := lh (fun i (hi : i < z.des.insts.length) => arcs_len (lib_cell hlib (conn_inst hcn hi).1 (conn_inst hcn hi).2.1))
 have HIL := lh (fun n (hn : n ≤ z.des.insts.length) => instsLk_len hb hn)
 have HNL := lh (fun n (hn : n ≤ z.des.nets.length) => netsLk_len hb hn)
 have HSL := lh (fun k => snk100 hb k)
 have HP := lh (placesM hd)
 obtain ⟨p0, q0, p1, q1, p2, q2, p3, q3, p4, q4, e0, e1, e2, e3, e4⟩ := h.five
 obtain ⟨Fl, hcl, hfl⟩ := h.1
 obtain ⟨Fi, hci, hfi⟩ := h.2.1.1
 rw [e0] at hcl
 have hci : CellS w w.heap.size (f 1) z.des.insts.length 3 Fi := hci
 rw [e1] at hci
 have HL := lh hcl; have HI := lh hci; have HFL := lh hfl; have HFI := lh hfi
 have lni : z.des.insts.length ≤ 9223372036854775807 := hci.1
 have lnn : z.des.nets.length ≤ 9223372036854775807 := h.2.1.2.1.len
 rw [e1, e2, e3] at HFD HDR HSN
 rw [e0, e1, e2, e3, e4]
 clear e0 e1 e2 e3 e4 h hb hcl hci hfl hfi hd hlib hsz hcn
 obtain ⟨ni, hni⟩ : ∃ n, n = z.des.insts.length := ⟨_, rfl⟩
 obtain ⟨nn, hnn⟩ : ∃ n, n = z.des.nets.length := ⟨_, rfl⟩
 rw [← hni] at lni HFD HDR HSN HI HFI HCN HLC HIL ⊢
 rw [← hnn] at lnn HFD HDR HSN HNL ⊢
 have NI := lh hni; have NN := lh hnn
 clear hni hnn
 obtain ⟨W, hW⟩ : ∃ W, W = ((w.alloc (Obj.cells #[.slice p0 z.lib.length q0, .slice p1 ni q1, .slice p2 nn q2, .slice p3 z.des.ports.length q3, .slice p4 z.wires.length q4] 46)).alloc (Obj.cells #[] 109)).alloc (Obj.cells #[.slice p1 ni q1, .slice p2 nn q2, .slice p3 z.des.ports.length q3] 43) := ⟨_, rfl⟩
 have bW : Below w.heap.size w W := by rw [hW]; exact eX
 have zW : W.heap.size = w.heap.size + 3 := by rw [hW]; simp
 have a0 : W.cell? ⟨w.heap.size, 0, none⟩ = some (.slice p0 z.lib.length q0) := by rw [hW]; simp [go_sem]
 have d0 : W.cell? ⟨w.heap.size + 1 + 1, 0, none⟩ = some (.slice p1 ni q1) := by rw [hW]; simp [go_sem]
 have d1 : W.cell? ⟨w.heap.size + 1 + 1, 1, none⟩ = some (.slice p2 nn q2) := by rw [hW]; simp [go_sem]
 have d2 : W.cell? ⟨w.heap.size + 1 + 1, 2, none⟩ = some (.slice p3 z.des.ports.length q3) := by rw [hW]; simp [go_sem]
 have G0 : Hid (GL W (w.heap.size + 1) (.slice (some ⟨w.heap.size + 1, 0, none⟩) 0 0) (instsLk z 0)) := lh (by
  rw [hW]
  exact GR.below (GR.zero (w.alloc (Obj.cells #[.slice p0 z.lib.length q0, .slice p1 ni q1, .slice p2 nn q2, .slice p3 z.des.ports.length q3, .slice p4 z.wires.length q4] 46)) (by simp [instsLk]) (by simp) (by simp)) ((Below.refl _ _).alloc (Nat.le_refl _) _))
 have HNE := lh (show ∀ (g : Nat) (v' : Value), (g < w.heap.size + 1 ∨ g = w.heap.size + 1 + 1) → (v'.ownBlock = some (w.heap.size + 1) ∨ ∀ k, v'.ownBlock = some k → W.heap.size ≤ k) → some g ≠ v'.ownBlock from by
  intro g v' hg hv e
  rcases hv with q | q
  ·rw [q] at e; have := Option.some.inj e; omega
  ·have := q _ e.symm; omega)
 have HW := lh hW
 have BW := lh bW
 have BWF := lh (fun (w1 : World) (v1 : Value) (hF : LkF W (.slice (some ⟨w.heap.size + 1, 0, none⟩) 0 0) w1 v1) => (show Below w.heap.size w w1 from bW.trans (hF.below (by omega) (fun k hk => by simp [Value.ownBlock] at hk; omega))))
 have lw : w.heap.size + 1 + 1 < W.heap.size := by omega
 clear hW bW zW
 go_enter Tryz.func47, Tryz.ntmps47
 go_wp2_with fail
 rw [← HW.out]
 go_loopw [3, 5] (fun v i wr => ∃ n : Nat, n ≤ ni ∧ i = .int .i64 n ∧ Hid (GL wr (w.heap.size + 1) v (instsLk z n)) ∧ Hid (LkF W (.slice (some ⟨w.heap.size + 1, 0, none⟩) 0 0) wr v)) (fun _ i _ => ni - (intOf i).toNat)
 case atStart => exact ⟨0, by omega, rfl, G0, lh (LkF.refl _ _)⟩
 case round =>
  clear G0
  obtain ⟨n, hn, rfl, hG, hF⟩ := hrel
  by_cases hlt : n < ni
  ·have bww : Below w.heap.size w wr := BWF.out wr _ hF.out
   obtain ⟨i1, i2, _, _⟩ := HCN.out n hlt
   obtain ⟨bi, oi, rfl, hli, hxi⟩ := HI.out.at bww hlt
   have y1 := hxi 1 (by omega)
   rw [(HFI.out n hlt).2.1] at y1
   obtain ⟨kc, hkc⟩ := Int.eq_ofNat_of_zero_le i1
   have hkl : kc < z.lib.length := by omega
   rw [hkc] at y1
   obtain ⟨bl, ol, rfl, hll, hxl⟩ := HL.out.at bww hkl
   have z3 := hxl 3 (by omega)
   have xa := (HFL.out kc hkl).2.2.2.1
   have HXC := lh (show xcell z.lib (inn z.des.insts n) = cn z.lib kc by unfold xcell; rw [hkc]; rfl)
   have l8 := HLC.out n hlt
   rw [HXC.out] at l8
   obtain ⟨Fa, hca, hfa⟩ := xa
   obtain ⟨_, aa, ca, ea, _⟩ := id hca
   rw [ea] at z3 hca
   have HA := lh hca; have HFA := lh hfa
   have r0 := hF.out.cell a0 (by simp [Value.ownBlock])
   have r1 := hF.out.cell d0 (by simp [Value.ownBlock])
   have lr : w.heap.size + 1 + 1 < wr.heap.size := cell_lt r1
   have lr0 : w.heap.size < wr.heap.size := by omega
   have lb : bi < wr.heap.size := by omega
   have lb2 : bl < wr.heap.size := by omega
   have j0 : (0 : Int) ≤ (n : Int) := by omega
   have j1 : (n : Int) < (ni : Int) := by omega
   have j2 : (0 : Int) ≤ (kc : Int) := by omega
   have j3 : (kc : Int) < (z.lib.length : Int) := by omega
   clear hxi hxl hkc hca hfa ea i1 i2
   go_wp2
   go_quiet (fail)
   obtain ⟨na, hna⟩ : ∃ x, x = (cn z.lib kc).arcs.length := ⟨_, rfl⟩
   rw [← hna] at l8 HA HFA
   rw [← hna]
   have NA := lh hna
   have bq := ext_drewN (Below.refl wr.heap.size wr) nq
   have G1 := lh (show GL (wr.drewN nq) (w.heap.size + 1) _ (instsLk z n ++ instLk (places z.lib z.des) (cn z.lib kc) n 0) from by
    have e : instLk (places z.lib z.des) (cn z.lib kc) n 0 = [] := rfl
    rw [e, List.append_nil]; exact GR.below hG.out bq)
   have F1 := lh (hF.out.trans (LkF.call _ bq))
   clear hna hG hF y1 z3 r0 r1 bq
   go_wp2_with fail
   go_loopw [3, 7] (fun v i wr => ∃ m : Nat, m ≤ na ∧ i = .int .i64 m ∧ Hid (GL wr (w.heap.size + 1) v (instsLk z n ++ instLk (places z.lib z.des) (cn z.lib kc) n m)) ∧ Hid (LkF W (.slice (some ⟨w.heap.size + 1, 0, none⟩) 0 0) wr v)) (fun _ i _ => na - (intOf i).toNat)
   case atStart => exact ⟨0, by omega, rfl, G1, F1⟩
   case round =>
    clear G1 F1
    obtain ⟨m, hm, rfl, hG2, hF2⟩ := hrel
    by_cases hmt : m < na
    ·have bww2 : Below w.heap.size w wr := BWF.out wr _ hF2.out
     have hszF := hF2.out.1.size
     obtain ⟨ba, oa, rfl, hla, hxa⟩ := HA.out.at bww2 hmt
     obtain ⟨A0, A1, A2, A3, _, _⟩ := HFA.out m hmt
     have y0 := hxa 0 (by omega); have y1 := hxa 1 (by omega); have y2 := hxa 2 (by omega); have y3 := hxa 3 (by omega); have y4 := hxa 4 (by omega); have y5 := hxa 5 (by omega)
     simp only [Nat.add_zero] at y0
     rw [A0] at y0; rw [A1] at y1; rw [A2] at y2; rw [A3] at y3
     have r1 := hF2.out.cell d0 (by simp [Value.ownBlock])
     have r2 := hF2.out.cell d1 (by simp [Value.ownBlock])
     have r3 := hF2.out.cell d2 (by simp [Value.ownBlock])
     have NEA := lh (HNE.out ba _ (.inl (by omega)) hF2.out.2)
     have NED := lh (HNE.out (w.heap.size + 1 + 1) _ (.inr rfl) hF2.out.2)
     have lr2 : w.heap.size + 1 + 1 < wr.heap.size := cell_lt r1
     have lr0 : w.heap.size < wr.heap.size := by omega
     have lba : ba < wr.heap.size := by omega
     have i0 : (0 : Int) ≤ (m : Int) := by omega
     have i1 : (m : Int) < (na : Int) := by omega
     have HLN := lh (show (instsLk z n ++ instLk (places z.lib z.des) (cn z.lib kc) n m).length ≤ 50000 by
      rw [List.length_append]
      have := HIL.out n (by omega)
      have := instLk_len (places z.lib z.des) (cn z.lib kc) n m
      omega)
     clear hxa A0 A1 A2 A3
     by_cases hk3 : (an (cn z.lib kc).arcs m).kind ≤ 3
     ·have AL := lh (show arcLk (places z.lib z.des) (cn z.lib kc) n m = arcN (an (cn z.lib kc).arcs m).kind (an (cn z.lib kc).arcs m).sense (findP (places z.lib z.des) n (an (cn z.lib kc).arcs m).src) (findP (places z.lib z.des) n (an (cn z.lib kc).arcs m).dst) m 4 by unfold arcLk; rw [if_pos hk3])
      have HPL := HP.out
      have ⟨f0, f1'⟩ := findP_bd (places z.lib z.des) n (an (cn z.lib kc).arcs m).src
      have ⟨t0, t1'⟩ := findP_bd (places z.lib z.des) n (an (cn z.lib kc).arcs m).dst
      have f1 : findP (places z.lib z.des) n (an (cn z.lib kc).arcs m).src ≤ 100 := by omega
      have t1 : findP (places z.lib z.des) n (an (cn z.lib kc).arcs m).dst ≤ 100 := by omega
      clear f1' t1' HPL
      go_wp2_with fail
      refine wp_region_held_drew (S := (fun w' => w'.cell? ⟨ba, oa + m * 6, none⟩ = some (.int .i64 (an (cn z.lib kc).arcs m).kind) ∧ w'.cell? ⟨ba, oa + m * 6 + 1, none⟩ = some (.int .i64 (an (cn z.lib kc).arcs m).src) ∧ w'.cell? ⟨ba, oa + m * 6 + 2, none⟩ = some (.int .i64 (an (cn z.lib kc).arcs m).dst) ∧ w'.cell? ⟨ba, oa + m * 6 + 3, none⟩ = some (.int .i64 (an (cn z.lib kc).arcs m).sense) ∧ w'.cell? ⟨ba, oa + m * 6 + 4, none⟩ = some (Fa m 4) ∧ w'.cell? ⟨ba, oa + m * 6 + 5, none⟩ = some (Fa m 5) ∧ w'.cell? ⟨w.heap.size + 1 + 1, 0, none⟩ = some (.slice (some ⟨bi, oi, none⟩) ni q1) ∧ w'.cell? ⟨w.heap.size + 1 + 1, 1, none⟩ = some (.slice p2 nn q2) ∧ w'.cell? ⟨w.heap.size + 1 + 1, 2, none⟩ = some (.slice p3 z.des.ports.length q3) ∧ Below w.heap.size w w' ∧ w.heap.size < w'.heap.size)) (by kernel_rfl) ?_ (fun hHeld => ?_)
      ·(try dsimp only); ((repeat' apply And.intro) <;> first | assumption | ((exact eX); done) | (simp [go_sem]; done) | (simp [go_sem, *]; done) | (simp; omega) | omega)
      (try dsimp only at hHeld)
      refine takeH 0 (v := ?_) rfl ?_ ?_; rotate_left; focus (intro w' hSw; (try dsimp only at hSw); go_simp; try (with_reducible rfl))
      (try simp only [actP])
      refine takeH 1 (v := ?_) rfl ?_ ?_; rotate_left; focus (intro w' hSw; (try dsimp only at hSw); go_simp; try (with_reducible rfl))
      (try simp only [actP])
      refine takeH 2 (v := ?_) rfl ?_ ?_; rotate_left; focus (intro w' hSw; (try dsimp only at hSw); go_simp; try (with_reducible rfl))
      (try simp only [actP])
      refine takeH 3 (v := ?_) rfl ?_ ?_; rotate_left; focus (intro w' hSw; (try dsimp only at hSw); go_simp; try (with_reducible rfl))
      (try simp only [actP])
      refine takeH 4 (v := ?_) rfl ?_ ?_; rotate_left; focus (intro w' hSw; (try dsimp only at hSw); go_simp; try (with_reducible rfl))
      (try simp only [actP])
      refine takeH 5 (v := ?_) rfl ?_ ?_; rotate_left; focus (intro w' hSw; (try dsimp only at hSw); go_simp; try (with_reducible rfl))
      (try simp only [actP])
      refine takeH 6 (v := ?_) rfl ?_ ?_; rotate_left; focus (intro w' hSw; (try dsimp only at hSw); go_simp; try (with_reducible rfl))
      (try simp only [actP])
      refine takeH 7 (v := ?_) rfl ?_ ?_; rotate_left; focus (intro w' hSw; (try dsimp only at hSw); go_simp; try (with_reducible rfl))
      (try simp only [actP])
      refine takeH 8 (v := ?_) rfl ?_ ?_; rotate_left; focus (intro w' hSw; (try dsimp only at hSw); go_simp; try (with_reducible rfl))
      (try simp only [actP])
      refine takeH 9 (v := ?_) rfl ?_ ?_; rotate_left; focus (intro w' hSw; (try dsimp only at hSw); go_simp; try (with_reducible rfl))
      (try simp only [actP])
      refine takeH 10 (v := ?_) rfl ?_ ?_; rotate_left; focus (intro w' hSw; (try dsimp only at hSw); go_simp; try (with_reducible rfl))
      (try simp only [actP])
      refine takeH 11 (v := ?_) rfl ?_ ?_; rotate_left; focus (intro w' hSw; (try dsimp only at hSw); go_simp; try (with_reducible rfl))
      (try simp only [actP])
      refine takeH 13 (v := ?_) rfl ?_ ?_; rotate_left; focus (intro w' hSw; (try dsimp only at hSw); go_simp; try (with_reducible rfl))
      (try simp only [actP])
      refine takeH 14 (v := ?_) rfl ?_ ?_; rotate_left; focus (intro w' hSw; (try dsimp only at hSw); go_simp; try (with_reducible rfl))
      (try simp only [actP])
      refine takeH 15 (v := ?_) rfl ?_ ?_; rotate_left; focus (intro w' hSw; (try dsimp only at hSw); go_simp; try (with_reducible rfl))
      (try simp only [actP])
      refine takeH 16 (v := ?_) rfl ?_ ?_; rotate_left; focus (intro w' hSw; (try dsimp only at hSw); go_simp; try (with_reducible rfl))
      (try simp only [actP])
      refine takeH 17 (v := ?_) rfl ?_ ?_; rotate_left; focus (intro w' hSw; (try dsimp only at hSw); go_simp; try (with_reducible rfl))
      (try simp only [actP])
      refine takeH 18 (v := ?_) rfl ?_ ?_; rotate_left; focus (intro w' hSw; (try dsimp only at hSw); go_simp; try (with_reducible rfl))
      (try simp only [actP])
      refine takeH 19 (v := ?_) rfl ?_ ?_; rotate_left; focus (intro w' hSw; (try dsimp only at hSw); go_simp; try (with_reducible rfl))
      (try simp only [actP])
      refine takeH 21 (v := ?_) rfl ?_ ?_; rotate_left; focus (intro w' hSw; (try dsimp only at hSw); go_simp; try (with_reducible rfl))
      (try simp only [actP])
      refine wpAnyH_ready (rs := [12]) (by kernel_rfl) (by simp) ?_
      refine AllReadyH.cons rfl (fun K hK => ?_) AllReadyH.nil
      go_simp
      (go_at_call 84; refine (HFD.out (n : Int) (an (cn z.lib kc).arcs m).src _ bww2.drew).mono ?_; rintro e wa ⟨rfl, hbwa⟩)
      refine hK.out _ _ (keep9 hHeld hbwa) (fun hHeld' => ?_)
      clear hK K hHeld
      have hHeld := hHeld'
      clear hHeld'
      (try simp only [actP])
      refine wpAnyH_ready (rs := [20]) (by kernel_rfl) (by simp) ?_
      refine AllReadyH.cons rfl (fun K hK => ?_) AllReadyH.nil
      go_simp
      (go_at_call 84; refine (HFD.out (n : Int) (an (cn z.lib kc).arcs m).dst _ (bww2.drew.trans (hbwa.mono bww2.drew.size))).mono ?_; rintro e wn ⟨rfl, hbwn⟩)
      refine hK.out _ _ (keep9 hHeld hbwn) (fun hHeld' => ?_)
      clear hK K hHeld
      have hHeld := hHeld'
      clear hHeld'
      (try simp only [actP])
      refine wpAnyH_ready (rs := [22]) (by kernel_rfl) (by simp) ?_
      refine AllReadyH.cons rfl (fun K hK => ?_) AllReadyH.nil
      go_simp
      have bN := lh (show Below wr.heap.size wr wn from (eD (eR wr _)).trans ((hbwa.mono (by simp)).trans (hbwn.mono (by have := hbwa.size; simp at this; exact this))))
      (go_at_call 83; refine (arc_any _ _ (w.heap.size + 1) (an (cn z.lib kc).arcs m).kind (an (cn z.lib kc).arcs m).src (an (cn z.lib kc).arcs m).dst (an (cn z.lib kc).arcs m).sense (findP (places z.lib z.des) n (an (cn z.lib kc).arcs m).src) (findP (places z.lib z.des) n (an (cn z.lib kc).arcs m).dst) m (Fa m 4) (Fa m 5) wn (GR.below hG2.out bN.out) (by have := bN.out.size; omega) HLN.out f0 f1 t0 t1).mono ?_; rintro e w9 ⟨v9, rfl, hG9, hF9⟩)
      have GN := lh hG9
      have FN := lh ((hF2.out.trans (LkF.call _ bN.out)).trans hF9)
      refine hK.out _ _ ⟨hF9.cell hHeld.1 NEA.out, hF9.cell hHeld.2.1 NEA.out, hF9.cell hHeld.2.2.1 NEA.out, hF9.cell hHeld.2.2.2.1 NEA.out, hF9.cell hHeld.2.2.2.2.1 NEA.out, hF9.cell hHeld.2.2.2.2.2.1 NEA.out, hF9.cell hHeld.2.2.2.2.2.2.1 NED.out, hF9.cell hHeld.2.2.2.2.2.2.2.1 NED.out, hF9.cell hHeld.2.2.2.2.2.2.2.2.1 NED.out, BWF.out w9 _ FN.out, by have := hF9.1.size; have := hHeld.2.2.2.2.2.2.2.2.2.2; omega⟩ (fun hHeld' => ?_)
      clear hK K hHeld hG9 hF9
      have hHeld := hHeld'
      clear hHeld'
      (try simp only [actP])
      refine takeH 23 (v := ?_) rfl ?_ ?_; rotate_left; focus (intro w' hSw; (try dsimp only at hSw); go_simp; try (with_reducible rfl))
      (try simp only [actP])
      refine wpAnyH_done (by kernel_rfl) ?_ _
      have G3 : Hid (GL w9 (w.heap.size + 1) v9 (instsLk z n ++ instLk (places z.lib z.des) (cn z.lib kc) n (m + 1))) := by
       have e := GN.out
       rw [List.append_assoc] at e
       rw [instLk_succ, AL.out]
       exact lh e
      clear hHeld hbwa hbwn
      go_wp2
      go_roundw
      case rel => exact ⟨m + 1, by omega, by go_num, G3, FN⟩
      case measure => simp [intOf]; omega
     ·have nx : instLk (places z.lib z.des) (cn z.lib kc) n (m + 1) = instLk (places z.lib z.des) (cn z.lib kc) n m := by
       rw [instLk_succ]; unfold arcLk; rw [if_neg hk3, List.append_nil]
      have h9 := hG2.out
      rw [← nx] at h9
      have G3 := lh h9
      clear h9 hG2 nx
      go_wp2
      go_roundw
      case rel => exact ⟨m + 1, by omega, by go_num, G3, hF2⟩
      case measure => simp [intOf]; omega
    ·obtain rfl : m = na := by omega
     have h9 := hG2.out
     rw [show instsLk z n ++ instLk (places z.lib z.des) (cn z.lib kc) n m = instsLk z (n + 1) by rw [instsLk_succ, HXC.out, ← NA.out]] at h9
     have G3 := lh h9
     have hI : ¬ (m : Int) < (m : Int) := by omega
     clear h9 hG2
     go_wp2
     go_roundw
     case rel => exact ⟨n + 1, by omega, by go_num, G3, hF2⟩
     case measure => simp [intOf]; omega
  ·obtain rfl : n = ni := by omega
   have hI : ¬ (n : Int) < (n : Int) := by omega
   have r1 := hF.out.cell d0 (by simp [Value.ownBlock])
   have lr1 : w.heap.size + 1 + 1 < wr.heap.size := cell_lt r1
   have G1 := lh (show GL wr (w.heap.size + 1) _ (instsLk z n ++ netsLk (places z.lib z.des) 0) from by
    have e : netsLk (places z.lib z.des) 0 = [] := rfl
    rw [e, List.append_nil]; exact hG.out)
   have F1 := lh hF.out
   obtain ⟨wo, hwo⟩ : ∃ wo : World, wo = wr := ⟨_, rfl⟩
   subst hwo
   clear hG hF
   go_wp2_with fail
   go_loopw [3, 8] (fun v i wr => ∃ (x : Nat) (v1 : Value), v1 = v ∧ x ≤ nn ∧ i = .int .i64 x ∧ Hid (GL wr (w.heap.size + 1) v1 (instsLk z n ++ netsLk (places z.lib z.des) x)) ∧ Hid (LkF W (.slice (some ⟨w.heap.size + 1, 0, none⟩) 0 0) wr v1)) (fun _ i _ => nn - (intOf i).toNat)
   case atStart => exact ⟨0, _, rfl, by omega, rfl, G1, F1⟩
   case round =>
    clear G1 F1 r1
    obtain ⟨x, v1, hv, hx, rfl, hG, hF⟩ := hrel
    subst hv
    have r1 := hF.out.cell d0 (by simp [Value.ownBlock])
    have r2 := hF.out.cell d1 (by simp [Value.ownBlock])
    have r3 := hF.out.cell d2 (by simp [Value.ownBlock])
    have lr2 : w.heap.size + 1 + 1 < wr.heap.size := cell_lt r1
    have bww : Below w.heap.size w wr := BWF.out wr _ hF.out
    by_cases hlt : x < nn
    ·have j0 : (0 : Int) ≤ (x : Int) := by omega
     have j1 : (x : Int) < (nn : Int) := by omega
     go_wp2_with fail
     (go_at_call 85; refine (HDR.out (x : Int) _ bww).mono ?_; rintro e w3 ⟨rfl, hb3⟩)
     have b3w : Below w.heap.size w w3 := bww.trans (hb3.mono bww.size)
     have q1 := cell_keep r1 hb3; have q2 := cell_keep r2 hb3; have q3 := cell_keep r3 hb3
     have lw3 : w.heap.size + 1 + 1 < w3.heap.size := cell_lt q1
     have G3 := lh (GR.below hG.out hb3)
     have F3 := lh (hF.out.trans (LkF.call _ hb3))
     clear r1 r2 r3 hG hF hb3 bww
     go_wp2_with fail
     (go_at_call 86; refine (HSN.out (x : Int) _ b3w).mono ?_; rintro e w4 ⟨us, rfl, hS, hb4⟩)
     obtain ⟨ua, uc, rfl⟩ := hS.slice
     have VO := lh G3.out.blk
     have z34 := hb4.size
     have G4 := lh (show GL w4 (w.heap.size + 1) v1 ((instsLk z n ++ netsLk (places z.lib z.des) x) ++ netLk (places z.lib z.des) x 0) from by
      have e : netLk (places z.lib z.des) x 0 = [] := rfl
      rw [e, List.append_nil]; exact GR.below G3.out hb4)
     have F4 := lh (F3.out.trans (LkF.call _ hb4))
     have HS := lh hS
     have q100 := HSL.out x
     have HNLx := lh (show (instsLk z n ++ netsLk (places z.lib z.des) x).length ≤ 50000 by
      rw [List.length_append]
      have := HIL.out n (by omega)
      have := HNL.out x (by omega)
      omega)
     obtain ⟨q, hq⟩ : ∃ q, q = (endsL (places z.lib z.des) (x : Int) false).length := ⟨_, rfl⟩
     rw [← hq] at q100 ⊢
     have HQ := lh hq
     have HPL := HP.out
     have ⟨dr0, dr1⟩ := drvP_bd (places z.lib z.des) (x : Int)
     have d101 : drvP (places z.lib z.des) (x : Int) ≤ 100 := by omega
     clear hq hS hb4 G3 F3 q1 q2 q3 HPL dr1
     go_wp2_with fail
     go_loopw [3, 11] (fun u i wr => ∃ m : Nat, m ≤ q ∧ i = .int .i64 m ∧ Hid (GL wr (w.heap.size + 1) u ((instsLk z n ++ netsLk (places z.lib z.des) x) ++ netLk (places z.lib z.des) x m)) ∧ Hid (LkF w4 v1 wr u)) (fun _ i _ => q - (intOf i).toNat)
     case atStart => exact ⟨0, by omega, rfl, G4, lh (LkF.refl _ _)⟩
     case round =>
      clear G4
      obtain ⟨m, hm, rfl, hG, hF⟩ := hrel
      by_cases hmt : m < q
      ·obtain ⟨-, sb, rfl, hsB, hsl, hsx⟩ := HS.out.cells2 (by have := HQ.out; omega)
       have hml : m < (endsL (places z.lib z.des) (x : Int) false).length := by have := HQ.out; omega
       have hne1 : some sb ≠ v1.ownBlock := fun e => by have := (VO.out _ e.symm).2; omega
       have ys := hF.out.cell (hsx m hml).1 hne1
       have hne2 := (show ∀ (u : Value), (u.ownBlock = v1.ownBlock ∨ ∀ k, u.ownBlock = some k → w4.heap.size ≤ k) → some sb ≠ u.ownBlock from by
        intro u hu e
        rcases hu with p | p
        ·exact hne1 (e.trans p)
        ·have := p _ e.symm; omega) _ hF.out.2
       have NE2 := lh hne2
       obtain ⟨E, hE⟩ : ∃ E, E = iv (endsL (places z.lib z.des) (x : Int) false) m := ⟨_, rfl⟩
       obtain ⟨ej, hej, hejl⟩ := ends_in2 _ _ _ m hml
       rw [← hE] at ys hej
       have HPL := HP.out
       have e0 : -1000 ≤ E := by omega
       have e1 : E ≤ 1000 := by omega
       have i0 : (0 : Int) ≤ (m : Int) := by omega
       have i1 : (m : Int) < (q : Int) := by omega
       have lsb : sb < wr.heap.size := by have := hF.out.1.size; omega
       have HE := lh hE
       have HLN := lh (show ((instsLk z n ++ netsLk (places z.lib z.des) x) ++ netLk (places z.lib z.des) x m).length ≤ 60000 by
        rw [List.length_append]
        have := HNLx.out
        have := netLk_len (places z.lib z.des) x m
        omega)
       have hbs : w.heap.size + 1 ≤ wr.heap.size := by have := hF.out.1.size; omega
       clear hsx hne1 hne2 hE hej HPL
       go_wp2_with fail
       (go_at_call 87; refine (pair_any _ _ (w.heap.size + 1) (drvP (places z.lib z.des) x) E 0 0 2 m wr hG.out hbs (by have := HLN.out; omega) (by omega) (by omega) e0 e1 (by omega) (by omega) (by omega) (by omega)).mono ?_; rintro e w5 ⟨v5, rfl, hG5, hF5⟩)
       have y5 := hF5.cell ys NE2.out
       have G5 := lh hG5
       have F5 := lh (hF.out.trans hF5)
       have hb5 : w.heap.size + 1 ≤ w5.heap.size := by have := hF5.1.size; omega
       have lsb5 : sb < w5.heap.size := cell_lt y5
       clear ys hG5 hF5 hG hF
       go_wp2_with fail
       (go_at_call 87; refine (pair_any _ _ (w.heap.size + 1) (drvP (places z.lib z.des) x) E 1 1 2 m w5 G5.out hb5 (by have := HLN.out; rw [List.length_append]; simp only [List.length_cons, List.length_nil]; omega) (by omega) (by omega) e0 e1 (by omega) (by omega) (by omega) (by omega)).mono ?_; rintro e w6 ⟨v6, rfl, hG6, hF6⟩)
       have G6 : Hid (GL w6 (w.heap.size + 1) v6 ((instsLk z n ++ netsLk (places z.lib z.des) x) ++ netLk (places z.lib z.des) x (m + 1))) := by
        rw [netLk_succ, sinkLk, ← HE.out, ← List.append_assoc]
        rw [List.append_assoc] at hG6
        simp only [Int.add_zero, List.cons_append, List.nil_append] at hG6
        exact lh hG6
       have F6 := lh (F5.out.trans hF6)
       clear hG6 hF6 y5
       go_wp2
       go_roundw
       case rel => exact ⟨m + 1, by omega, by go_num, G6, F6⟩
       case measure => simp [intOf]; omega
      ·obtain rfl : m = q := by omega
       have h9 := hG.out
       rw [List.append_assoc, show netsLk (places z.lib z.des) x ++ netLk (places z.lib z.des) x m = netsLk (places z.lib z.des) (x + 1) by rw [netsLk_succ, ← HQ.out]] at h9
       have G9 := lh h9
       have F9 := lh (F4.out.trans hF.out)
       have hI2 : ¬ (m : Int) < (m : Int) := by omega
       clear h9 hG hF
       go_wp2
       go_roundw
       case rel => exact ⟨x + 1, _, rfl, by omega, by go_num, G9, F9⟩
       case measure => simp [intOf]; omega
    ·obtain rfl : x = nn := by omega
     have hI2 : ¬ (x : Int) < (x : Int) := by omega
     have h9 := GR.low hG.out (base' := w.heap.size) (by omega)
     rw [show instsLk z n ++ netsLk (places z.lib z.des) x = linksL z by rw [linksL, ← NI.out, ← NN.out]] at h9
     have G9 := lh (show GL wr w.heap.size v1 (linksL z) from h9)
     clear h9 hG
     go_wp2
     go_ret
     exact ⟨_, rfl, G9.out, bww⟩
end Go.Proofs.YtkpfbnffhhmokaaGreat
