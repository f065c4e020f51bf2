/-
The contract of the model's drawn tables: three lists of their own, and of what was there only the source has changed.
-/
import Derived.Test.YtckccpcigkbfmaaDoorDraw
import Derived.Test.YtckccpcigkbfmaaDoorTabL
import Derived.Laws.OwnMore
namespace Go.Proofs.YtckccpcigkbfmaaDoor
open Go.ChangeShapes Go.WideShapes Go.ChangeAt Go.RowKit Go.Deep
set_option linter.unusedVariables false
set_option linter.unusedSimpArgs false
set_option maxRecDepth 100000
theorem Chg.grown {g : Nat} {a b c : World} {row : Option Nat} (h : Chg g a b) (hg : b.grownBy c row) (hrow : ∀ k, row = some k → a.heap.size ≤ k) : Chg g a c :=
  ⟨hg.os.trans h.os, hg.tape.trans h.tape, hg.output.trans h.output, Nat.le_trans h.size hg.size, fun i hi hn => (hg.block i (Nat.lt_of_lt_of_le hi h.size) (fun e => by have := hrow i e.symm; omega)).trans (h.block i hi hn)⟩
/-- A source stands where what lies at its block and below is as it was. -/
theorem Src.low {w w' : World} {g : Nat} (h : Src w g) (hb : Below (g + 1) w w') : Src w' g := by
  obtain ⟨v, len, k, s, hv, hk, hs0, hs1, c0, c1, c2, f1, f2, hg⟩ := h
  exact ⟨v, len, k, s, hv.keep (hb.mono (Nat.le_succ _)) (Nat.le_refl _), hk, hs0, hs1, by rw [hb.cell (by show g < g + 1; omega)]; exact c0, by rw [hb.cell (by show g < g + 1; omega)]; exact c1, by rw [hb.cell (by show g < g + 1; omega)]; exact c2,
    by rw [hb.frozen (by show g < g + 1; omega)]; exact f1, by rw [hb.frozen (by show g < g + 1; omega)]; exact f2, Nat.lt_of_lt_of_le hg hb.size⟩
theorem Src.grown {w w' : World} {g : Nat} {row : Option Nat} (h : Src w g) (hg : w.grownBy w' row) (hrow : ∀ k, row = some k → g < k) : Src w' g :=
  h.low ((Below.refl _ _).grown hg h.lt (fun k hk => hrow k hk))
/-- A slice of integers under construction, in a block of its own not below base. -/
def OI (w : World) (base : Nat) (v : Value) (xs : List Int) : Prop := w.ownsRow base 2 1 v xs.length (xs.map (Value.int .i64))
theorem OI.blk {w : World} {base : Nat} {v : Value} {xs : List Int} (h : OI w base v xs) : ∀ k, v.ownBlock = some k → base ≤ k := fun k hk => (World.ownsRow.lt h k hk).1
theorem OI.chg {w w' : World} {base g : Nat} {v : Value} {xs : List Int} (h : OI w base v xs) (hc : Chg g w w') (hg : g < base) : OI w' base v xs :=
  World.ownsRow.kept h hc (by
    cases hb : v.ownBlock with
    | none => exact .inl rfl
    | some k => exact .inr (by have := h.blk k hb; simp; omega))
theorem OI.alloc {w : World} {base : Nat} {v : Value} {xs : List Int} (h : OI w base v xs) (o : Obj) : OI (w.alloc o) base v xs := World.ownsRow.alloc h o
theorem OI.drew {w : World} {base : Nat} {v : Value} {xs : List Int} (h : OI w base v xs) : OI w.drew base v xs := h
theorem OI.own {w : World} {base : Nat} {v : Value} {xs : List Int} (h : OI w base v xs) (hl : xs.length ≤ 1000) : OwnS w base v xs := by
  refine ⟨by omega, ?_⟩
  have h2 := h.2
  rcases h2 with ⟨rfl, h0⟩ | ⟨g, cap, cur, rfl, hb, hgg, _, _, _, _⟩
  · exact ⟨none, 0, by rw [h0], fun hp => absurd hp (by omega)⟩
  · refine ⟨_, cap, rfl, fun hp => ⟨g, rfl, hb, (Array.getElem?_eq_some_iff.1 hgg).1, fun i hi => ⟨?_, World.ownsRow.frozenAt h i⟩⟩⟩
    have hc := World.ownsRow.cellAt h i (by omega)
    rw [hc]
    simp [iv, List.getD, hi]
theorem one_cellI (w : World) (x : Value) (t : TypeId) : ∀ j u, [x][j]? = some u → (w.alloc (Obj.cells #[x] t)).cell? ((⟨w.heap.size, 0, none⟩ : Addr).add j) = some u := by
  intro j u hj
  have h0 : j = 0 := by
    apply Classical.byContradiction
    intro hn
    rw [List.getElem?_eq_none (by simp; omega)] at hj
    cases hj
  subst h0
  simp at hj
  subst hj
  simp [Addr.add, go_sem]
theorem Tryd.infoI8 : (Tryd.prog.info? 2).map (fun i => (i.zero, i.size, i.bytes)) = some (some (.int .i64 0), 1, 8) := by kernel_rfl
def AxisP (g : Nat) (w : World) (e : Ending) (w' : World) : Prop := ∃ (v : Value) (xs : List Int), e = .returned v ∧ 1 ≤ xs.length ∧ xs.length ≤ 3 ∧ OI w' w.heap.size v xs ∧ Src w' g ∧ Chg g w w'
set_option maxHeartbeats 2000000 in
theorem drawAxis_any (g : Nat) (st : Int) (w : World) (h : Src w g) (hs : 1 < st) (hs2 : st ≤ 100) : Calls Tryd.prog 48 #[.pointer (some ⟨g, 0, none⟩), .int .i64 st] w (AxisP g w) := by
  obtain ⟨i0, hi, hz0, hz1, hz2⟩ := info_parts Tryd.infoI8
  have hg := h.lt
  have S := Lib.hid h
  clear h
  go_enter Tryd.func48, Tryd.ntmps48
  go_wp2_with fail
  go_at_call 36
  refine (next_any _ _ _ (S.out.alloc _ _) (by omega) (by omega)).mono ?_
  rintro e w1 ⟨r1, p0, p1, rfl, hs1, ho1⟩
  have S1 := Lib.hid hs1
  have C1 := Lib.hid (show Chg g w w1 from ((Chg.refl g w).alloc _).only ho1)
  have O1 := Lib.hid (show OI w1 w.heap.size (.slice (some ⟨w.heap.size, 0, none⟩) 0 0) [] from OI.chg (World.ownsRow_lit (e := 2) (base := w.heap.size) (size := 1) w #[] 0 (Nat.le_refl _) (by unfold maxLen; omega) rfl) ho1.chg hg)
  clear hs1 ho1
  go_wp2_with fail
  go_at_call 36
  refine (next_any _ _ _ S1.out (by omega) (by omega)).mono ?_
  rintro e w2 ⟨r2, q0, q1, rfl, hs2', ho2⟩
  have S2 := Lib.hid hs2'
  have C2 := Lib.hid (C1.out.only ho2)
  have O2 := Lib.hid (OI.chg O1.out ho2.chg hg)
  clear hs2' ho2 S1 C1 O1 S
  obtain ⟨K, rfl⟩ : ∃ K : Nat, r2 = K := ⟨r2.toNat, by omega⟩
  have hK : K + 1 ≤ 3 := by omega
  go_wp2_with fail
  go_loopw [5, 6, 7] (fun v a n wr => ∃ (k : Nat) (xs : List Int) (t : Int), n = .int .i64 k ∧ a = .int .i64 t ∧ k + xs.length = K + 1 ∧ Hid (OI wr w.heap.size v xs) ∧ Hid (Src wr g) ∧ Hid (Chg g w wr)) (fun _ _ n _ => (intOf n).toNat)
  case atStart => exact ⟨K + 1, [], r1, by go_num, rfl, by simp, O2, S2, C2⟩
  case round =>
    clear O2 S2 C2
    obtain ⟨k, xs, t, rfl, rfl, hlen, O, S, C⟩ := hrel
    by_cases hk : 0 < k
    · have hkI : (0 : Int) < (k : Int) := by omega
      obtain ⟨j, rfl⟩ : ∃ j, k = j + 1 := ⟨k - 1, by omega⟩
      have hsz := C.out.size
      go_wp2_with (at_builtin; refine wpList_append_own _ rfl _ _ 24 rfl w.heap.size 2 i0 (.int .i64 0) 1 8 Tryd.underlying24 hi hz0 hz1 hz2 rfl (by decide) _ _ _ rfl (O.out.alloc _) ⟨wr.heap.size, 0, none⟩ 1 1 [.int .i64 t] rfl rfl (one_cellI wr _ _) (fun u hu => by simp at hu; subst hu; rfl) (by unfold maxLen; omega) (by omega) (by simp; omega) ?_; intro v' w1 hown' hgrow hnil)
      have O1 := Lib.hid (show OI w1 w.heap.size v' (xs ++ [t]) by simpa [OI] using hown')
      have hblk := O.out.blk
      have S1 := Lib.hid ((S.out.alloc _ _).grown hgrow (fun k hk => by have := hblk k hk; omega))
      have C1 := Lib.hid ((C.out.alloc _).grown hgrow hblk)
      clear hown' hgrow hnil hblk hsz
      go_wp2_with fail
      go_at_call 36
      refine (next_any _ _ _ S1.out (by omega) (by omega)).mono ?_
      rintro e w2 ⟨r, u0, u1, rfl, hs, ho⟩
      have S2 := Lib.hid hs
      have C2 := Lib.hid (C1.out.only ho)
      have O2 := Lib.hid (OI.chg O1.out ho.chg hg)
      clear hs ho
      go_wp2
      go_roundw
      case rel => exact ⟨j, xs ++ [t], _, by go_num, rfl, by simp; omega, O2, S2, C2⟩
      case measure => simp [intOf]
    · have hkI : ¬ (0 : Int) < (k : Int) := by omega
      go_wp2
      go_ret
      exact ⟨_, xs, rfl, by omega, by omega, O.out, S.out, C.out⟩
/-- A result's block of three cells, not yet written. -/
def Res3 (w : World) (q : Nat) : Prop := ∀ j, j < 3 → (∃ u, w.cell? ⟨q, j, none⟩ = some u) ∧ w.frozen? ⟨q, j, none⟩ = false
theorem resKeep {w w' : World} {q g : Nat} (h : Res3 w q) (hc : Chg g w w') (hq : q ≠ g) : Res3 w' q := fun j hj => by
  obtain ⟨⟨u, hu⟩, hf⟩ := h j hj
  exact ⟨⟨u, ckeep_chg hu hc hq⟩, by rw [(chgcell hc).2 q j (cell_lt hu) hq]; exact hf⟩
theorem res_new (w : World) (a b c : Value) (t : TypeId) : Res3 (w.alloc (.cells #[a, b, c] t)) w.heap.size := fun j hj => by
  rcases j with _ | _ | _ | j <;> first | omega | exact ⟨⟨_, by simp [go_sem]; rfl⟩, by simp [go_sem]⟩
theorem OI.pos {w : World} {base : Nat} {v : Value} {xs : List Int} (h : OI w base v xs) (hp : 0 < xs.length) : ∃ b cap, v = .slice (some ⟨b, 0, none⟩) xs.length cap ∧ base ≤ b ∧ b < w.heap.size ∧ xs.length ≤ cap ∧ ∀ i, i < xs.length → w.cell? ⟨b, i, none⟩ = some (.int .i64 (iv xs i)) := by
  rcases h.2 with ⟨rfl, h0⟩ | ⟨g, cap, cur, rfl, hb, hgg, hcap, _, _, _⟩
  · omega
  · refine ⟨g, cap, rfl, hb, (Array.getElem?_eq_some_iff.1 hgg).1, hcap, fun i hi => ?_⟩
    have hc := World.ownsRow.cellAt h i (by omega)
    rw [hc]
    simp [iv, List.getD, hi]
theorem OI.cells {w : World} {base b cap n : Nat} {xs : List Int} (h : OI w base (.slice (some ⟨b, 0, none⟩) n cap) xs) : ∀ i, i < xs.length → w.cell? ⟨b, i, none⟩ = some (.int .i64 (iv xs i)) := fun i hi => by
  obtain ⟨b', cap', e, _, _, _, hc⟩ := h.pos (by omega)
  simp only [Value.slice.injEq, Option.some.injEq, Addr.mk.injEq] at e
  obtain ⟨⟨rfl, _⟩, _⟩ := e
  exact hc i hi
def OApart (v u : Value) : Prop := ∀ k, v.ownBlock = some k → u.ownBlock ≠ some k
theorem OI.apart {w w1 w2 : World} {B : Nat} {v u : Value} {xs ys : List Int} (h : OI w B v xs) (h' : OI w2 w1.heap.size u ys) (hw : w.heap.size ≤ w1.heap.size) : OApart v u := fun k hk hk' => by
  have a := (World.ownsRow.lt h k hk).2
  have b := h'.blk k hk'
  omega
theorem OI.low {w : World} {B C : Nat} {v : Value} {xs : List Int} (h : OI w B v xs) (hC : C ≤ B) : OI w C v xs := by
  refine ⟨h.1, ?_⟩
  rcases h.2 with h2 | ⟨g, cap, cur, e, hb, r⟩
  · exact .inl h2
  · exact .inr ⟨g, cap, cur, e, by omega, r⟩
def DrawP (g : Nat) (w : World) (e : Ending) (w' : World) : Prop := ∃ (v0 v1 v2 : Value) (ss ls vs : List Int), e = .returned (.agg #[v0, v1, v2]) ∧ (1 ≤ ss.length ∧ ss.length ≤ 3) ∧ (1 ≤ ls.length ∧ ls.length ≤ 3) ∧ vs.length = ss.length * ls.length ∧
  OI w' w.heap.size v0 ss ∧ OI w' w.heap.size v1 ls ∧ OI w' w.heap.size v2 vs ∧ (OApart v0 v1 ∧ OApart v0 v2 ∧ OApart v1 v2) ∧ Src w' g ∧ Chg g w w'
theorem idx3 {a b : Nat} (ha : 1 ≤ a ∧ a ≤ 3) (hb : 1 ≤ b ∧ b ≤ 3) : 1 ≤ a * b ∧ a * b ≤ 9 := ⟨Nat.mul_pos ha.1 hb.1, Nat.mul_le_mul ha.2 hb.2⟩
theorem mdz {k m : Nat} (h : k % m = 0) : ¬ (0 : Int) < (k : Int) % (m : Int) := by
  have e : ((k % m : Nat) : Int) = (k : Int) % (m : Int) := Int.natCast_emod k m
  omega
theorem mdp {j m : Nat} (h : 0 < (j + 1) % m) : (0 : Int) < ((j : Int) + 1) % (m : Int) := by
  have e : (((j + 1) % m : Nat) : Int) = ((j + 1 : Nat) : Int) % (m : Int) := Int.natCast_emod (j + 1) m
  have e2 : ((j + 1 : Nat) : Int) = (j : Int) + 1 := by omega
  rw [e2] at e
  omega
set_option maxHeartbeats 8000000 in
theorem draw_any (g : Nat) (b0 : Int) (w : World) (h : Src w g) : Calls Tryd.prog 35 #[.pointer (some ⟨g, 0, none⟩), .int .i64 b0] w (DrawP g w) := by
  obtain ⟨i0, hi, hz0, hz1, hz2⟩ := info_parts Tryd.infoI8
  have hg := h.lt
  have S := Lib.hid h
  clear h
  go_enter Tryd.func35, Tryd.ntmps35
  go_wp2_with fail
  go_at_call 48
  refine (drawAxis_any g 60 _ (S.out.alloc _ _) (by omega) (by omega)).mono ?_
  rintro e w1 ⟨v0, ss, rfl, a0, a1, hO0, hs1, hC1⟩
  have hr1 := hC1.size
  simp at hr1
  have C1 := Lib.hid (show Chg g w w1 from ((Chg.refl g w).alloc _).trans hC1)
  have S1 := Lib.hid hs1
  have O0 := Lib.hid (OI.low (C := w.heap.size + 1) hO0 (by simp))
  have RF := Lib.hid (resKeep (res_new _ _ _ _ _) hC1 (by omega))
  clear hs1 hO0 hC1 S
  go_wp2_with fail
  go_at_call 48
  refine (drawAxis_any g 40 _ S1.out (by omega) (by omega)).mono ?_
  rintro e w2 ⟨v1, ls, rfl, c0, c1, hO1, hs2, hC2⟩
  have hr2 := hC2.size
  have O0' := Lib.hid (OI.chg O0.out hC2 (by omega))
  have AP01 := Lib.hid (OI.apart O0.out hO1 (Nat.le_refl _))
  have C2 := Lib.hid (C1.out.trans hC2)
  have S2 := Lib.hid hs2
  have O1 := Lib.hid hO1
  have RF2 := Lib.hid (resKeep RF.out hC2 (by omega))
  clear hs2 hO1 hC2 O0 C1 S1 RF
  obtain ⟨N, hN⟩ : ∃ N, N = ss.length * ls.length := ⟨_, rfl⟩
  have ⟨n0, n1⟩ := idx3 ⟨a0, a1⟩ ⟨c0, c1⟩
  rw [← hN] at n0 n1
  have hNI : (ss.length : Int) * (ls.length : Int) = (N : Int) := by rw [hN]; simp
  obtain ⟨p0, cp0, rfl, _, _, _, _⟩ := O0'.out.pos (by omega)
  obtain ⟨p1, cp1, rfl, _, _, _, _⟩ := O1.out.pos (by omega)
  obtain ⟨n, hn⟩ : ∃ n, n = ls.length := ⟨_, rfl⟩
  obtain ⟨m, hm⟩ : ∃ m, m = ss.length := ⟨_, rfl⟩
  have HL := Lib.hid hn; have HM := Lib.hid hm
  have O2 := Lib.hid (show OI (w2.alloc (.cells #[] 2)) w2.heap.size (.slice (some ⟨w2.heap.size, 0, none⟩) 0 0) [] from World.ownsRow_lit (e := 2) (base := w2.heap.size) (size := 1) w2 #[] 0 (Nat.le_refl _) (by unfold maxLen; omega) rfl)
  have S3 := Lib.hid (S2.out.alloc #[] 2)
  rw [← hn, ← hm] at hNI
  rw [← hn] at c0 c1
  rw [← hm] at a0 a1
  go_wp2_with fail
  rw [← hn, ← hm]
  have HNN := Lib.hid hN
  clear hn hm hN
  go_loopw [7, 9] (fun v i wr => ∃ (k : Nat) (u : Value) (vs : List Int), u = v ∧ i = .int .i64 k ∧ vs.length = k ∧ k ≤ N ∧ Hid (OI wr w2.heap.size v vs) ∧ Hid (Src wr g) ∧ Hid (Chg g w2 wr)) (fun _ i _ => N - (intOf i).toNat)
  case atStart => exact ⟨0, _, [], rfl, rfl, rfl, by omega, O2, S3, Lib.hid ((Chg.refl g w2).alloc _)⟩
  case round =>
    clear O2 S3 S2
    obtain ⟨k, u, vs, rfl, rfl, hlen, hk, O, S, C⟩ := hrel
    by_cases hkN : k < N
    · have hkI : (k : Int) < (N : Int) := by omega
      go_wp2_with fail
      go_at_call 36
      refine (next_any _ _ _ S.out (by omega) (by omega)).mono ?_
      rintro e w3 ⟨r, p2, p3, rfl, hs, ho⟩
      have S3 := Lib.hid hs
      have C3 := Lib.hid (C.out.only ho)
      have O3 := Lib.hid (OI.chg O.out ho.chg (by omega))
      have hz3 := C3.out.size
      clear hs ho S C O
      obtain ⟨t, ht⟩ : ∃ t, t = IntKind.i64.wrap (b0 + r) := ⟨_, rfl⟩
      by_cases k0 : k = 0
      · subst k0
        have nn : ¬ (n : Int) ≤ 0 := by omega
        have nz : ¬ (n : Int) = 0 := by omega
        have nz2 : ¬ n = 0 := by omega
        have nzb : ((n : Int) == 0) = false := by simpa using nz2
        go_wp2_with (at_builtin; refine wpList_append_own _ rfl _ _ 24 rfl w2.heap.size 2 i0 (.int .i64 0) 1 8 Tryd.underlying24 hi hz0 hz1 hz2 rfl (by decide) _ _ _ rfl (O3.out.alloc _) ⟨w3.heap.size, 0, none⟩ 1 1 [.int .i64 _] rfl rfl (one_cellI _ _ _) (fun u hu => by simp at hu; subst hu; rfl) (by unfold maxLen; omega) (by omega) (by simp; omega) ?_; intro v' w6 hown' hgrow hnil)
        have hblk := O3.out.blk
        have O6 := Lib.hid (show OI w6 w2.heap.size v' (vs ++ [_]) by simpa [OI, hlen] using hown')
        have S6 := Lib.hid ((S3.out.alloc _ _).grown hgrow (fun k hk => by have := hblk k hk; omega))
        have C6 := Lib.hid ((C3.out.alloc _).grown hgrow hblk)
        clear hown' hgrow hnil hblk
        go_roundw
        case rel => exact ⟨1, _, vs ++ [_], rfl, by go_num, by simp [hlen], by omega, O6, S6, C6⟩
        case measure => simp [intOf]; omega
      · obtain ⟨j, rfl⟩ : ∃ j, k = j + 1 := ⟨k - 1, by omega⟩
        obtain ⟨b, cap, rfl, hb0, hb1, hcap, hcell⟩ := O3.out.pos (by omega)
        rw [hlen] at hcap hcell O3
        have hne : b ≠ g := by omega
        have yj := hcell j (by omega)
        have hj1 : (j : Int) < (j : Int) + 1 := by omega
        have hlenI : vs.length = j + 1 := hlen
        have nz : ¬ (n : Int) = 0 := by omega
        have nz2 : ¬ n = 0 := by omega
        have nzb : ((n : Int) == 0) = false := by simpa using nz2
        have eJ : IntKind.i64.wrap (j : Int) = j := IntWalk.i64_in _ (by omega)
        have eJ1 : IntKind.i64.wrap ((j : Int) + 1 - 1) = j := by rw [show (j : Int) + 1 - 1 = j by omega]; exact eJ
        by_cases hA : (j + 1) % n = 0
        · have hA0 : ¬ (0 : Int) < ((j : Int) + 1) % (n : Int) := by have := mdz hA; simpa using this
          have hA1 : decide ((0 : Int) < ((j : Int) + 1) % (n : Int)) = false := by simpa using hA0
          have hA2 : ¬ 0 < (j + 1) % n := by omega
          clear hA
          by_cases hB : n ≤ j + 1
          · obtain ⟨d, hd⟩ : ∃ d, j + 1 = d + n := ⟨j + 1 - n, by omega⟩
            have hB0 : (n : Int) ≤ (j : Int) + 1 := by omega
            have hB1 : decide ((n : Int) ≤ (j : Int) + 1) = true := by simpa using hB0
            have eD : (j : Int) + 1 - (n : Int) = (d : Int) := by omega
            have eW : IntKind.i64.wrap ((j : Int) + 1 - (n : Int)) = (d : Int) := by rw [eD]; exact IntWalk.i64_in _ (by omega)
            have eX : IntKind.i64.wrap (d : Int) = (d : Int) := IntWalk.i64_in _ (by omega)
            have yd := OI.cells O3.out d (by omega)
            have hd1 : (d : Int) < (j : Int) + 1 := by omega
            clear hd
            go_upto_region 12 with fail
            go_cut [10] from 18 to 61 (fun s10 wx => ∃ t : Int, s10 = .int .i64 t ∧ Hid (OI wx w2.heap.size (.slice (some ⟨b, 0, none⟩) (j + 1) cap) vs) ∧ Hid (Src wx g) ∧ Hid (Chg g w2 wx))
            case first =>
              go_region_with (go_at_call 36; refine (next_any _ _ _ (by first | exact S3.out | exact Src.drew S3.out) (by omega) (by omega)).mono ?_; rintro e w4 ⟨r4, u40, u41, rfl, hs, ho⟩; have hoc4 := ocell ho; have S4 := Lib.hid hs; have C4 := Lib.hid (show Chg g w2 w4 from Chg.only (by first | exact C3.out | exact Chg.drew C3.out) ho); have O4 := Lib.hid (show OI w4 w2.heap.size (.slice (some ⟨b, 0, none⟩) (j + 1) cap) vs from OI.chg (by first | exact O3.out | exact OI.drew O3.out) ho.chg (by omega)); clear hs ho)
              all_goals (go_wp2_with fail)
              all_goals go_meet
              all_goals exact ⟨_, rfl, by first | exact O4 | exact Lib.hid (OI.drew O4.out), by first | exact S4 | exact Lib.hid (Src.drew S4.out), by first | exact C4 | exact Lib.hid (Chg.drew C4.out)⟩
            case rest =>
              obtain ⟨t9, rfl, O9, S9, C9⟩ := hcut
              have hz9 := C9.out.size
              go_wp2_with (at_builtin; refine wpList_append_own _ rfl _ _ 24 rfl w2.heap.size 2 i0 (.int .i64 0) 1 8 Tryd.underlying24 hi hz0 hz1 hz2 rfl (by decide) _ _ _ rfl (O9.out.alloc _) ⟨_, 0, none⟩ 1 1 [.int .i64 _] rfl rfl (one_cellI _ _ _) (fun u hu => by simp at hu; subst hu; rfl) (by unfold maxLen; omega) (by omega) (by simp; omega) ?_; intro v' w6 hown' hgrow hnil)
              have hblk := O9.out.blk
              have O6 := Lib.hid (show OI w6 w2.heap.size v' (vs ++ [_]) by simpa [OI, hlen] using hown')
              have S6 := Lib.hid ((S9.out.alloc _ _).grown hgrow (fun k hk => by have := hblk k hk; omega))
              have C6 := Lib.hid ((C9.out.alloc _).grown hgrow hblk)
              clear hown' hgrow hnil hblk
              go_roundw
              case rel => exact ⟨j + 1 + 1, _, vs ++ [_], rfl, by go_num, by simp [hlen], by omega, O6, S6, C6⟩
              case measure => simp [intOf]; omega
          · have hB0 : ¬ (n : Int) ≤ (j : Int) + 1 := by omega
            have hB1 : decide ((n : Int) ≤ (j : Int) + 1) = false := by simp; omega
            go_wp2_with (at_builtin; refine wpList_append_own _ rfl _ _ 24 rfl w2.heap.size 2 i0 (.int .i64 0) 1 8 Tryd.underlying24 hi hz0 hz1 hz2 rfl (by decide) _ _ _ rfl (O3.out.alloc _) ⟨_, 0, none⟩ 1 1 [.int .i64 _] rfl rfl (one_cellI _ _ _) (fun u hu => by simp at hu; subst hu; rfl) (by unfold maxLen; omega) (by omega) (by simp; omega) ?_; intro v' w6 hown' hgrow hnil)
            have hblk := O3.out.blk
            have O6 := Lib.hid (show OI w6 w2.heap.size v' (vs ++ [_]) by simpa [OI, hlen] using hown')
            have S6 := Lib.hid ((S3.out.alloc _ _).grown hgrow (fun k hk => by have := hblk k hk; omega))
            have C6 := Lib.hid ((C3.out.alloc _).grown hgrow hblk)
            clear hown' hgrow hnil hblk
            go_roundw
            case rel => exact ⟨j + 1 + 1, _, vs ++ [_], rfl, by go_num, by simp [hlen], by omega, O6, S6, C6⟩
            case measure => simp [intOf]; omega
        · have hA0 : (0 : Int) < ((j : Int) + 1) % (n : Int) := mdp (by omega)
          have hA1 : decide ((0 : Int) < ((j : Int) + 1) % (n : Int)) = true := by simpa using hA0
          have hA2 : 0 < (j + 1) % n := by omega
          clear hA
          go_upto_region 10 with fail
          go_cut [10] from 18 to 61 (fun s10 wx => ∃ t : Int, s10 = .int .i64 t ∧ Hid (OI wx w2.heap.size (.slice (some ⟨b, 0, none⟩) (j + 1) cap) vs) ∧ Hid (Src wx g) ∧ Hid (Chg g w2 wx))
          case first =>
            go_region_with (go_at_call 36; refine (next_any _ _ _ (by first | exact S3.out | exact Src.drew S3.out) (by omega) (by omega)).mono ?_; rintro e w4 ⟨r4, u40, u41, rfl, hs, ho⟩; have hoc4 := ocell ho; have S4 := Lib.hid hs; have C4 := Lib.hid (show Chg g w2 w4 from Chg.only (by first | exact C3.out | exact Chg.drew C3.out) ho); have O4 := Lib.hid (show OI w4 w2.heap.size (.slice (some ⟨b, 0, none⟩) (j + 1) cap) vs from OI.chg (by first | exact O3.out | exact OI.drew O3.out) ho.chg (by omega)); clear hs ho)
            all_goals (go_wp2_with fail)
            all_goals go_meet
            all_goals exact ⟨_, rfl, by first | exact O4 | exact Lib.hid (OI.drew O4.out), by first | exact S4 | exact Lib.hid (Src.drew S4.out), by first | exact C4 | exact Lib.hid (Chg.drew C4.out)⟩
          case rest =>
            obtain ⟨t7, rfl, O7, S7, C7⟩ := hcut
            have hz7 := C7.out.size
            by_cases hB : n ≤ j + 1
            · obtain ⟨d, hd⟩ : ∃ d, j + 1 = d + n := ⟨j + 1 - n, by omega⟩
              have hB0 : (n : Int) ≤ (j : Int) + 1 := by omega
              have hB1 : decide ((n : Int) ≤ (j : Int) + 1) = true := by simpa using hB0
              have eD : (j : Int) + 1 - (n : Int) = (d : Int) := by omega
              have eW : IntKind.i64.wrap ((j : Int) + 1 - (n : Int)) = (d : Int) := by rw [eD]; exact IntWalk.i64_in _ (by omega)
              have eX : IntKind.i64.wrap (d : Int) = (d : Int) := IntWalk.i64_in _ (by omega)
              have yd := OI.cells O7.out d (by omega)
              have hd1 : (d : Int) < (j : Int) + 1 := by omega
              clear hd
              go_upto_region 12 with fail
              go_cut [10] from 18 to 61 (fun s10 wx => ∃ t : Int, s10 = .int .i64 t ∧ Hid (OI wx w2.heap.size (.slice (some ⟨b, 0, none⟩) (j + 1) cap) vs) ∧ Hid (Src wx g) ∧ Hid (Chg g w2 wx))
              case first =>
                go_region_with (go_at_call 36; refine (next_any _ _ _ (by first | exact S7.out | exact Src.drew S7.out) (by omega) (by omega)).mono ?_; rintro e w4 ⟨r4, u40, u41, rfl, hs, ho⟩; have hoc4 := ocell ho; have S4 := Lib.hid hs; have C4 := Lib.hid (show Chg g w2 w4 from Chg.only (by first | exact C7.out | exact Chg.drew C7.out) ho); have O4 := Lib.hid (show OI w4 w2.heap.size (.slice (some ⟨b, 0, none⟩) (j + 1) cap) vs from OI.chg (by first | exact O7.out | exact OI.drew O7.out) ho.chg (by omega)); clear hs ho)
                all_goals (go_wp2_with fail)
                all_goals go_meet
                all_goals exact ⟨_, rfl, by first | exact O4 | exact Lib.hid (OI.drew O4.out), by first | exact S4 | exact Lib.hid (Src.drew S4.out), by first | exact C4 | exact Lib.hid (Chg.drew C4.out)⟩
              case rest =>
                obtain ⟨t9, rfl, O9, S9, C9⟩ := hcut
                have hz9 := C9.out.size
                go_wp2_with (at_builtin; refine wpList_append_own _ rfl _ _ 24 rfl w2.heap.size 2 i0 (.int .i64 0) 1 8 Tryd.underlying24 hi hz0 hz1 hz2 rfl (by decide) _ _ _ rfl (O9.out.alloc _) ⟨_, 0, none⟩ 1 1 [.int .i64 _] rfl rfl (one_cellI _ _ _) (fun u hu => by simp at hu; subst hu; rfl) (by unfold maxLen; omega) (by omega) (by simp; omega) ?_; intro v' w6 hown' hgrow hnil)
                have hblk := O9.out.blk
                have O6 := Lib.hid (show OI w6 w2.heap.size v' (vs ++ [_]) by simpa [OI, hlen] using hown')
                have S6 := Lib.hid ((S9.out.alloc _ _).grown hgrow (fun k hk => by have := hblk k hk; omega))
                have C6 := Lib.hid ((C9.out.alloc _).grown hgrow hblk)
                clear hown' hgrow hnil hblk
                go_roundw
                case rel => exact ⟨j + 1 + 1, _, vs ++ [_], rfl, by go_num, by simp [hlen], by omega, O6, S6, C6⟩
                case measure => simp [intOf]; omega
            · have hB0 : ¬ (n : Int) ≤ (j : Int) + 1 := by omega
              have hB1 : decide ((n : Int) ≤ (j : Int) + 1) = false := by simp; omega
              go_wp2_with (at_builtin; refine wpList_append_own _ rfl _ _ 24 rfl w2.heap.size 2 i0 (.int .i64 0) 1 8 Tryd.underlying24 hi hz0 hz1 hz2 rfl (by decide) _ _ _ rfl (O7.out.alloc _) ⟨_, 0, none⟩ 1 1 [.int .i64 _] rfl rfl (one_cellI _ _ _) (fun u hu => by simp at hu; subst hu; rfl) (by unfold maxLen; omega) (by omega) (by simp; omega) ?_; intro v' w6 hown' hgrow hnil)
              have hblk := O7.out.blk
              have O6 := Lib.hid (show OI w6 w2.heap.size v' (vs ++ [_]) by simpa [OI, hlen] using hown')
              have S6 := Lib.hid ((S7.out.alloc _ _).grown hgrow (fun k hk => by have := hblk k hk; omega))
              have C6 := Lib.hid ((C7.out.alloc _).grown hgrow hblk)
              clear hown' hgrow hnil hblk
              go_roundw
              case rel => exact ⟨j + 1 + 1, _, vs ++ [_], rfl, by go_num, by simp [hlen], by omega, O6, S6, C6⟩
              case measure => simp [intOf]; omega
    · obtain rfl : k = N := by omega
      have RF3 := resKeep RF2.out C.out (by omega)
      obtain ⟨p2, cp2, rfl, _, _, _, _⟩ := O.out.pos (by omega)
      obtain ⟨⟨m0, x0⟩, f0⟩ := RF3 0 (by omega)
      obtain ⟨⟨m1, x1⟩, f1⟩ := RF3 1 (by omega)
      obtain ⟨⟨m2, x2⟩, f2⟩ := RF3 2 (by omega)
      have A02 := Lib.hid (OI.apart O0'.out O.out (Nat.le_refl _))
      have A12 := Lib.hid (OI.apart O1.out O.out (Nat.le_refl _))
      have P0 := OI.chg O0'.out C.out (by omega)
      have P1 := OI.chg O1.out C.out (by omega)
      have A01 := AP01.out
      have A02' := A02.out
      have A12' := A12.out
      rw [← HM.out] at P0 A01 A02'
      rw [← HL.out] at P1 A01 A12'
      have P0 := Lib.hid P0
      have P1 := Lib.hid P1
      have A01 := Lib.hid A01
      have A02 := Lib.hid A02'
      have A12 := Lib.hid A12'
      clear A02' A12' AP01
      have hzr := C.out.size
      have hw : w.heap.size < wr.heap.size := by omega
      clear RF3
      go_wp2
      refine bodyPost_ret (v := .agg #[.slice (some ⟨p0, 0, none⟩) m cp0, .slice (some ⟨p1, 0, none⟩) n cp1, .slice (some ⟨p2, 0, none⟩) vs.length cp2]) (by simp [results, Tryd.results35, go_sem, *]) rfl ?_
      exact ⟨_, _, _, ss, ls, vs, rfl, ⟨by rw [← HM.out]; exact a0, by rw [← HM.out]; exact a1⟩, ⟨by rw [← HL.out]; exact c0, by rw [← HL.out]; exact c1⟩, by rw [hlen]; exact HNN.out, OI.low (OI.chg P0.out (Only.chg ((((Only.refl w.heap.size wr).setCell 0 _).setCell 1 _).setCell 2 _)) (by omega)) (by omega), OI.low (OI.chg P1.out (Only.chg ((((Only.refl w.heap.size wr).setCell 0 _).setCell 1 _).setCell 2 _)) (by omega)) (by omega), OI.low (OI.chg O.out (Only.chg ((((Only.refl w.heap.size wr).setCell 0 _).setCell 1 _).setCell 2 _)) (by omega)) (by omega), ⟨A01.out, A02.out, A12.out⟩,
        ((S.out.setOther hg _).setOther hg _).setOther hg _, (((C2.out.trans C.out).setNew (Nat.le_refl _) _).setNew (Nat.le_refl _) _).setNew (Nat.le_refl _) _⟩
end Go.Proofs.YtckccpcigkbfmaaDoor
