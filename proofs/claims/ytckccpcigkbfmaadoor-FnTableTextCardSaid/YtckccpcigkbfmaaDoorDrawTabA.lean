/-
The contract of the model's l02DrawAny: a drawn table, rarely changed: three lists, and of what was there only the source has changed.
-/
import Derived.Test.YtckccpcigkbfmaaDoorDrawTab
import Derived.Deep.AppendLies
import Derived.Deep.RegionLaw
namespace Go.Proofs.YtckccpcigkbfmaaDoor
open Go.ChangeShapes Go.WideShapes Go.ChangeAt Go.RowKit Go.Deep
set_option linter.unusedVariables false
set_option linter.unusedSimpArgs false
set_option maxRecDepth 100000
/-- v is a list of integers in a block that is there and not below B, or empty. -/
def IntN (w : World) (B : Nat) (v : Value) (xs : List Int) : Prop :=
  xs.length ≤ 9223372036854775807 ∧ ∃ a cap, v = .slice a xs.length cap ∧ (0 < xs.length → ∃ b off, a = some ⟨b, off, none⟩ ∧ B ≤ b ∧ b < w.heap.size ∧ ∀ i, i < xs.length → w.cell? ⟨b, off + i, none⟩ = some (.int .i64 (iv xs i)))
theorem IntN.ints {w : World} {B : Nat} {v : Value} {xs : List Int} (h : IntN w B v xs) : IntS w w.heap.size v xs := by
  obtain ⟨h0, a, cap, rfl, h⟩ := h
  refine ⟨h0, a, cap, rfl, fun hp => ?_⟩
  obtain ⟨b, off, rfl, _, hlt, hx⟩ := h hp
  exact ⟨b, off, rfl, hlt, hx⟩
theorem IntN.chg {w w' : World} {B g : Nat} {v : Value} {xs : List Int} (h : IntN w B v xs) (hc : Chg g w w') (hg : g < B) : IntN w' B v xs := by
  obtain ⟨h0, a, cap, rfl, h⟩ := h
  refine ⟨h0, a, cap, rfl, fun hp => ?_⟩
  obtain ⟨b, off, rfl, hB, hlt, hx⟩ := h hp
  have hs := hc.size
  exact ⟨b, off, rfl, hB, by omega, fun i hi => ckeep_chg (hx i hi) hc (by omega)⟩
/-- The same where the changed block is another one than the list's. -/
theorem IntN.far {w w' : World} {B g : Nat} {v : Value} {xs : List Int} (h : IntN w B v xs) (hc : Chg g w w') (hg : ∀ b o n c, v = .slice (some ⟨b, o, none⟩) n c → b ≠ g) : IntN w' B v xs := by
  obtain ⟨h0, a, cap, rfl, h⟩ := h
  refine ⟨h0, a, cap, rfl, fun hp => ?_⟩
  obtain ⟨b, off, rfl, hB, hlt, hx⟩ := h hp
  have hs := hc.size
  exact ⟨b, off, rfl, hB, by omega, fun i hi => ckeep_chg (hx i hi) hc (hg _ _ _ _ rfl)⟩
theorem OI.intN {w : World} {base B : Nat} {v : Value} {xs : List Int} (h : OI w base v xs) (hp : 0 < xs.length) (hl : xs.length ≤ 1000) (hB : B ≤ base) : IntN w B v xs := by
  obtain ⟨b, cap, rfl, h1, h2, _, hc⟩ := h.pos hp
  exact ⟨by omega, _, cap, rfl, fun _ => ⟨b, 0, rfl, by omega, h2, fun i hi => by simpa using hc i hi⟩⟩
theorem iv_set (xs : List Int) (k : Nat) (x : Int) (i : Nat) (hi : i < xs.length) : iv (xs.set k x) i = if k = i then x else iv xs i := by
  by_cases e : k = i
  · subst e
    simp [iv, List.getD, hi]
  · simp [iv, List.getD, hi, e]
/-- A list with another element. -/
theorem IntN.set {w : World} {B b n cap k : Nat} {xs : List Int} {x : Int} (h : IntN w B (.slice (some ⟨b, 0, none⟩) n cap) xs) (hk : k < xs.length) : IntN (w.setCell ⟨b, k, none⟩ (.int .i64 x)) B (.slice (some ⟨b, 0, none⟩) n cap) (xs.set k x) := by
  obtain ⟨h0, a, cap', e, h⟩ := h
  simp only [Value.slice.injEq] at e
  obtain ⟨rfl, rfl, rfl⟩ := e
  obtain ⟨b', off, e, hB, hlt, hx⟩ := h (by omega)
  simp only [Option.some.injEq, Addr.mk.injEq] at e
  obtain ⟨rfl, rfl, _⟩ := e
  refine ⟨by simpa using h0, _, cap, by simp, fun hp => ⟨b, 0, rfl, hB, by simpa [World.setCell] using hlt, fun i hi => ?_⟩⟩
  have hi' : i < xs.length := by simpa using hi
  rw [iv_set xs k x i hi']
  have hxi := hx i hi'
  by_cases e : k = i
  · subst e
    rw [if_pos rfl]
    have hxi' : w.cell? ⟨b, k, none⟩ = some (.int .i64 (iv xs k)) := by simpa using hxi
    simpa using cs_same hxi'
  · rw [if_neg e]
    have : (0 : Nat) + i = i := by omega
    rw [this] at hxi ⊢
    rw [cs_other e]
    exact hxi
/-- A list without its first element. -/
theorem IntN.tail {w : World} {B b n cap cap' : Nat} {xs : List Int} (h : IntN w B (.slice (some ⟨b, 0, none⟩) n cap) xs) (hp : 0 < xs.length) : IntN w B (.slice (some ⟨b, 1, none⟩) (n - 1) cap') xs.tail := by
  obtain ⟨h0, a, c, e, h⟩ := h
  simp only [Value.slice.injEq] at e
  obtain ⟨rfl, rfl, rfl⟩ := e
  obtain ⟨b', off, e, hB, hlt, hx⟩ := h hp
  simp only [Option.some.injEq, Addr.mk.injEq] at e
  obtain ⟨rfl, rfl, _⟩ := e
  refine ⟨by simp; omega, _, cap', by simp, fun hp => ⟨b, 1, rfl, hB, hlt, fun i hi => ?_⟩⟩
  have hi' : i + 1 < xs.length := by simp at hi; omega
  have := hx (i + 1) hi'
  have e1 : iv xs.tail i = iv xs (i + 1) := by simp [iv, List.getD]
  rw [e1]
  have e2 : (1 : Nat) + i = 0 + (i + 1) := by omega
  rw [e2]
  exact this
def Tri (w : World) (B : Nat) (v0 v1 v2 : Value) (ss ls vs : List Int) : Prop := IntN w B v0 ss ∧ IntN w B v1 ls ∧ IntN w B v2 vs
/-- A table's variable, to be written. -/
def Tb (w : World) (q : Nat) (v0 v1 v2 : Value) : Prop := (w.cell? ⟨q, 0, none⟩ = some v0 ∧ w.cell? ⟨q, 1, none⟩ = some v1 ∧ w.cell? ⟨q, 2, none⟩ = some v2) ∧ w.frozen? ⟨q, 0, none⟩ = false ∧ w.frozen? ⟨q, 1, none⟩ = false ∧ w.frozen? ⟨q, 2, none⟩ = false
theorem Tb.chg {w w' : World} {q g : Nat} {v0 v1 v2 : Value} (h : Tb w q v0 v1 v2) (hc : Chg g w w') (hq : q ≠ g) : Tb w' q v0 v1 v2 := by
  obtain ⟨⟨h0, h1, h2⟩, f0, f1, f2⟩ := h
  have hl := cell_lt h0
  exact ⟨⟨ckeep_chg h0 hc hq, ckeep_chg h1 hc hq, ckeep_chg h2 hc hq⟩, by rw [(chgcell hc).2 q 0 hl hq]; exact f0, by rw [(chgcell hc).2 q 1 hl hq]; exact f1, by rw [(chgcell hc).2 q 2 hl hq]; exact f2⟩
theorem next_pos (g : Nat) (n : Int) (w : World) (h : Src w g) (hn1 : 1 ≤ n) (hn2 : n ≤ 2147483647) : Calls Tryd.prog 36 #[.pointer (some ⟨g, 0, none⟩), .int .i64 n] w (NextP g n w) := by
  by_cases hn : 1 < n
  · exact next_any g n w h hn hn2
  · have H := Lib.hid h
    clear h
    go_enter Tryd.func36, Tryd.ntmps36
    go_wp2
    go_ret
    exact ⟨0, by omega, by omega, rfl, H.out, Only.refl _ _⟩
/-- What a branch of l02DrawAny leaves. -/
def BrP (g q T B : Nat) (v0 v1 v2 : Value) (w wx : World) : Prop := ∃ (ss ls vs : List Int), ss.length ≤ 1000 ∧ Tb wx T v0 v1 v2 ∧ Tri wx B v0 v1 v2 ss ls vs ∧ Res3 wx q ∧ Src wx g ∧ Chg g w wx
theorem IntN.none {w : World} {B n cap : Nat} {a : Option Addr} {xs : List Int} (h : xs.length = 0) (hn : n = 0) : IntN w B (.slice a n cap) xs := ⟨by omega, a, cap, by rw [h, hn], fun hp => absurd hp (by omega)⟩
theorem keepW {P G : World → Prop} {W : World} (h : P W) (k : ∀ wc, P wc → G wc) : G W := k W h
theorem BrP.drew {g q T B : Nat} {v0 v1 v2 : Value} {w wx : World} (h : BrP g q T B v0 v1 v2 w wx) : BrP g q T B v0 v1 v2 w wx.drew := by
  obtain ⟨ss, ls, vs, hL, hT, hI, hR, hS, hC⟩ := h
  exact ⟨ss, ls, vs, hL, hT, hI, hR, hS, hC.drew⟩
theorem BrP.alloc {g q T B : Nat} {v0 v1 v2 : Value} {w wx : World} (h : BrP g q T B v0 v1 v2 w wx) (c : Array Value) (t : TypeId) (e0 : T ≠ g) (e2 : q ≠ g) (e6 : g < B) : BrP g q T B v0 v1 v2 w (wx.alloc (.cells c t)) := by
  obtain ⟨ss, ls, vs, hL, hT, ⟨h0, h1, h2⟩, hR, hS, hC⟩ := h
  have ha : Chg g wx (wx.alloc (.cells c t)) := (Chg.refl g wx).alloc _
  exact ⟨ss, ls, vs, hL, hT.chg ha e0, ⟨h0.chg ha e6, h1.chg ha e6, h2.chg ha e6⟩, resKeep hR ha e2, hS.alloc _ _, hC.alloc _⟩
theorem notb {b c : Nat} (h : b ≠ c) {o n k : Nat} : ∀ b' o' n' c', Value.slice (some ⟨b, o, none⟩) n k = .slice (some ⟨b', o', none⟩) n' c' → b' ≠ c := fun b' o' n' c' e => by
  simp only [Value.slice.injEq, Option.some.injEq, Addr.mk.injEq] at e
  omega
theorem stepA {g q T B B1 b0 b1 b2 gg n0 n1 n2 n' c0 c1 c2 cx : Nat} {w w5 X w6 : World} {ss ls' vs : List Int} (hL : ss.length ≤ 1000) (hT : Tb w5 T (.slice (some ⟨b0, 0, none⟩) n0 c0) (.slice (some ⟨b1, 0, none⟩) n1 c1) (.slice (some ⟨b2, 0, none⟩) n2 c2))
    (h0 : IntN w5 B (.slice (some ⟨b0, 0, none⟩) n0 c0) ss) (h2 : IntN w5 B (.slice (some ⟨b2, 0, none⟩) n2 c2) vs) (hR : Res3 w5 q) (hC : Chg g w w5) (hX : Chg g w5 X) (hS : Src X g) (h6 : Chg b1 X w6) (hO : OI w6 B1 (.slice (some ⟨gg, 0, none⟩) n' cx) ls') (hp : 0 < ls'.length) (hl : ls'.length ≤ 1000) (hB : B ≤ B1)
    (e0 : T ≠ g) (e1 : T ≠ b1) (e2 : q ≠ g) (e3 : q ≠ b1) (e4 : q ≠ T) (e5 : b0 ≠ b1) (e6 : b2 ≠ b1) (e7 : b0 ≠ T) (e8 : b2 ≠ T) (e9 : gg ≠ T) (f0 : g < B) (f1 : g < b1) (f2 : g < T) (f3 : w.heap.size ≤ b1) (f4 : w.heap.size ≤ T) :
    BrP g q T B (.slice (some ⟨b0, 0, none⟩) n0 c0) (.slice (some ⟨gg, 0, none⟩) n' cx) (.slice (some ⟨b2, 0, none⟩) n2 c2) w (w6.setCell ⟨T, 1, none⟩ (.slice (some ⟨gg, 0, none⟩) n' cx)) := by
  have hY : Chg T w6 (w6.setCell ⟨T, 1, none⟩ (.slice (some ⟨gg, 0, none⟩) n' cx)) := ((Only.refl T w6).setCell 1 _).chg
  obtain ⟨⟨t0, t1, t2⟩, z0, z1, z2⟩ := (hT.chg hX e0).chg h6 e1
  exact ⟨ss, ls', vs, hL, ⟨⟨by rw [cs_other (by omega)]; exact t0, cs_same t1, by rw [cs_other (by omega)]; exact t2⟩, by simpa using z0, by simpa using z1, by simpa using z2⟩, ⟨((h0.chg hX f0).far h6 (notb e5)).far hY (notb e7), (hO.intN hp hl hB).far hY (notb e9), ((h2.chg hX f0).far h6 (notb e6)).far hY (notb e8)⟩,
    resKeep (resKeep (resKeep hR hX e2) h6 e3) hY e4, (hS.grown h6 (fun k hk => by cases hk; exact f1)).setOther f2 _, ((hC.trans hX).grown h6 (fun k hk => by cases hk; exact f3)).setNew f4 _⟩
theorem stepV {g q T B b0 b1 b2 n0 n1 n2 c0 c1 c2 k : Nat} {x : Int} {w w5 X : World} {ss ls vs : List Int} (hL : ss.length ≤ 1000) (hT : Tb w5 T (.slice (some ⟨b0, 0, none⟩) n0 c0) (.slice (some ⟨b1, 0, none⟩) n1 c1) (.slice (some ⟨b2, 0, none⟩) n2 c2))
    (h0 : IntN w5 B (.slice (some ⟨b0, 0, none⟩) n0 c0) ss) (h1 : IntN w5 B (.slice (some ⟨b1, 0, none⟩) n1 c1) ls) (h2 : IntN w5 B (.slice (some ⟨b2, 0, none⟩) n2 c2) vs) (hR : Res3 w5 q) (hC : Chg g w w5) (hX : Chg g w5 X) (hS : Src X g) (hk : k < vs.length)
    (e0 : T ≠ g) (e1 : T ≠ b2) (e2 : q ≠ g) (e3 : q ≠ b2) (e4 : b0 ≠ b2) (e5 : b1 ≠ b2) (e6 : g < B) (e7 : g < b2) (e8 : w.heap.size ≤ b2) :
    BrP g q T B (.slice (some ⟨b0, 0, none⟩) n0 c0) (.slice (some ⟨b1, 0, none⟩) n1 c1) (.slice (some ⟨b2, 0, none⟩) n2 c2) w (X.setCell ⟨b2, k, none⟩ (.int .i64 x)) := by
  have hY : Chg b2 X (X.setCell ⟨b2, k, none⟩ (.int .i64 x)) := ((Only.refl b2 X).setCell k _).chg
  exact ⟨ss, ls, vs.set k x, hL, (hT.chg hX e0).chg hY e1, ⟨(h0.chg hX e6).far hY (notb e4), (h1.chg hX e6).far hY (notb e5), (h2.chg hX e6).set hk⟩, resKeep (resKeep hR hX e2) hY e3, hS.setOther e7 _, (hC.trans hX).setNew e8 _⟩
theorem stepS {g q T B b0 b1 b2 n0 n1 n2 c0 c1 c2 k : Nat} {x : Int} {w w5 X : World} {ss ls vs : List Int} (hL : ss.length ≤ 1000) (hT : Tb w5 T (.slice (some ⟨b0, 0, none⟩) n0 c0) (.slice (some ⟨b1, 0, none⟩) n1 c1) (.slice (some ⟨b2, 0, none⟩) n2 c2))
    (h0 : IntN w5 B (.slice (some ⟨b0, 0, none⟩) n0 c0) ss) (h1 : IntN w5 B (.slice (some ⟨b1, 0, none⟩) n1 c1) ls) (h2 : IntN w5 B (.slice (some ⟨b2, 0, none⟩) n2 c2) vs) (hR : Res3 w5 q) (hC : Chg g w w5) (hX : Chg g w5 X) (hS : Src X g) (hk : k < ss.length)
    (e0 : T ≠ g) (e1 : T ≠ b0) (e2 : q ≠ g) (e3 : q ≠ b0) (e4 : b1 ≠ b0) (e5 : b2 ≠ b0) (e6 : g < B) (e7 : g < b0) (e8 : w.heap.size ≤ b0) :
    BrP g q T B (.slice (some ⟨b0, 0, none⟩) n0 c0) (.slice (some ⟨b1, 0, none⟩) n1 c1) (.slice (some ⟨b2, 0, none⟩) n2 c2) w (X.setCell ⟨b0, k, none⟩ (.int .i64 x)) := by
  have hY : Chg b0 X (X.setCell ⟨b0, k, none⟩ (.int .i64 x)) := ((Only.refl b0 X).setCell k _).chg
  exact ⟨ss.set k x, ls, vs, by simpa using hL, (hT.chg hX e0).chg hY e1, ⟨(h0.chg hX e6).set hk, (h1.chg hX e6).far hY (notb e4), (h2.chg hX e6).far hY (notb e5)⟩, resKeep (resKeep hR hX e2) hY e3, hS.setOther e7 _, (hC.trans hX).setNew e8 _⟩
def AnyP (g : Nat) (w : World) (e : Ending) (w' : World) : Prop := ∃ (v0 v1 v2 : Value) (ss ls vs : List Int), e = .returned (.agg #[v0, v1, v2]) ∧ ss.length ≤ 1000 ∧ Tri w' (w.heap.size + 1) v0 v1 v2 ss ls vs ∧ Src w' g ∧ Chg g w w'
set_option maxHeartbeats 8000000 in
theorem drawAny_any (g : Nat) (w : World) (h : Src w g) : Calls Tryd.prog 17 #[.pointer (some ⟨g, 0, none⟩)] w (AnyP g w) := by
  obtain ⟨i0, hi, hz0, hz1, hz2⟩ := info_parts Tryd.infoI8
  have hg := h.lt
  have S := Lib.hid h
  clear h
  go_enter Tryd.func17, Tryd.ntmps17
  go_wp2_with fail
  go_at_call 36
  refine (next_any _ _ _ (S.out.alloc _ _) (by omega) (by omega)).mono ?_
  rintro e w1 ⟨r1, p0, p1, rfl, hs1, ho1⟩
  have hz1' := ho1.chg.size
  simp at hz1'
  have R1 := Lib.hid (resKeep (res_new w _ _ _ _) ho1.chg (by omega))
  have S1 := Lib.hid hs1
  have C1 := Lib.hid (show Chg g w w1 from ((Chg.refl g w).alloc _).only ho1)
  clear hs1 ho1 S
  go_wp2_with fail
  go_at_call 35
  refine (draw_any g _ _ S1.out).mono ?_
  rintro e w2 ⟨v0, v1, v2, ss, ls, vs, rfl, ⟨a0, a1⟩, ⟨c0, c1⟩, hn, o0, o1, o2, ⟨A01, A02, A12⟩, hs2, hc2⟩
  have ⟨n0, n1⟩ := idx3 ⟨a0, a1⟩ ⟨c0, c1⟩
  have hss3 : ss.length ≤ 1000 := by omega
  rw [← hn] at n0 n1
  have hz2' := hc2.size
  obtain ⟨b0, cp0, rfl, d0, f0, g0, _⟩ := o0.pos (by omega)
  obtain ⟨b1, cp1, rfl, d1, f1, g1, _⟩ := o1.pos (by omega)
  obtain ⟨b2, cp2, rfl, d2, f2, g2, _⟩ := o2.pos (by omega)
  have n01 : b0 ≠ b1 := fun e => A01 b0 rfl (by rw [e]; rfl)
  have n02 : b0 ≠ b2 := fun e => A02 b0 rfl (by rw [e]; rfl)
  have n12 : b1 ≠ b2 := fun e => A12 b1 rfl (by rw [e]; rfl)
  have R2 := Lib.hid (resKeep R1.out hc2 (by omega))
  have C2 := Lib.hid (C1.out.trans hc2)
  have S2 := Lib.hid hs2
  have O0 := Lib.hid o0; have O1 := Lib.hid o1; have O2 := Lib.hid o2
  clear hs2 hc2 o0 o1 o2 A01 A02 A12 R1 C1 S1 hn
  go_wp2_with fail
  go_at_call 36
  refine (next_pos g _ _ (S2.out.alloc _ _) (by omega) (by omega)).mono ?_
  rintro e w4 ⟨k', q0, q1, rfl, hs4, ho4⟩
  obtain ⟨k, rfl⟩ : ∃ k : Nat, k' = k := ⟨k'.toNat, by omega⟩
  have hz4 := ho4.chg.size
  simp at hz4
  have CA := Lib.hid (show Chg g w2 w4 from ((Chg.refl g w2).alloc _).only ho4)
  have T4 := Lib.hid (Tb.chg (v0 := .slice (some ⟨b0, 0, none⟩) ss.length cp0) (v1 := .slice (some ⟨b1, 0, none⟩) ls.length cp1) (v2 := .slice (some ⟨b2, 0, none⟩) vs.length cp2) (show Tb (w2.alloc (.cells #[.slice (some ⟨b0, 0, none⟩) ss.length cp0, .slice (some ⟨b1, 0, none⟩) ls.length cp1, .slice (some ⟨b2, 0, none⟩) vs.length cp2] 26)) w2.heap.size _ _ _ from ⟨⟨by simp [go_sem], by simp [go_sem], by simp [go_sem]⟩, by simp [go_sem], by simp [go_sem], by simp [go_sem]⟩) ho4.chg (by omega))
  have S4 := Lib.hid hs4
  clear hs4 ho4
  go_wp2_with fail
  go_at_call 36
  refine (next_any g _ _ S4.out (by omega) (by omega)).mono ?_
  rintro e w5 ⟨r, q2, q3, rfl, hs5, ho5⟩
  have hz5 := ho5.chg.size
  have CB := CA.out.only ho5
  have hT5 := Tb.chg T4.out ho5.chg (by omega)
  have I0 := Lib.hid (OI.intN (B := w.heap.size + 1) (OI.chg O0.out CB (by omega)) (by omega) (by omega) (by omega))
  have I1 := Lib.hid (OI.intN (B := w.heap.size + 1) (OI.chg O1.out CB (by omega)) (by omega) (by omega) (by omega))
  have I2 := Lib.hid (OI.intN (B := w.heap.size + 1) (OI.chg O2.out CB (by omega)) (by omega) (by omega) (by omega))
  have P0 := Lib.hid (OI.chg O0.out CB (by omega)); have P1 := Lib.hid (OI.chg O1.out CB (by omega)); have P2 := Lib.hid (OI.chg O2.out CB (by omega))
  have R5 := Lib.hid (resKeep R2.out CB (by omega))
  have C5 := Lib.hid (C2.out.trans CB)
  have S5 := Lib.hid hs5
  have T5 := Lib.hid hT5
  obtain ⟨T, hT⟩ : ∃ T, T = w2.heap.size := ⟨_, rfl⟩
  rw [← hT] at T5 hT5 f0 f1 f2 hz2' hz4 ⊢
  obtain ⟨⟨t0, t1, t2⟩, z0, z1, z2⟩ := hT5
  have hTw : T < w5.heap.size := cell_lt t0
  clear hs5 ho5 CB CA T4 S4 O0 O1 O2 R2 C2 S2 hT hz4 hz2'
  by_cases r0 : r = 0
  · subst r0
    have y2k : w5.cell? ⟨b2, k, none⟩ = some (.int .i64 (iv vs k)) := OI.cells P2.out k (by omega)
    have f2k : w5.frozen? ⟨b2, k, none⟩ = false := World.ownsRow.frozenAt P2.out k
    have b2g : b2 ≠ g := by omega
    have b2T : b2 ≠ T := by omega
    have Tg : T ≠ g := by omega
    have w5g : w5.heap.size ≠ g := by omega
    have hb2 : b2 < w5.heap.size := cell_lt y2k
    have hpk : ∀ (W : World) (p : Nat), p < 4 → (W.alloc (Obj.cells #[.int .i64 (-50), .int .i64 (1000000), .int .i64 (1000001), .int .i64 (-1000000)] 2)).cell? ⟨W.heap.size, p, none⟩ = some (.int .i64 (iv [(-50), (1000000), (1000001), (-1000000)] p)) := fun W p hp => by
      rcases p with _ | _ | _ | _ | p <;> first | omega | (simp [go_sem, iv]; done)
    have hgl : ∀ (p : Nat) (h : p < [Value.int .i64 (-50), Value.int .i64 (1000000), Value.int .i64 (1000001), Value.int .i64 (-1000000)].length), [Value.int .i64 (-50), Value.int .i64 (1000000), Value.int .i64 (1000001), Value.int .i64 (-1000000)][p]'h = .int .i64 (iv [(-50), (1000000), (1000001), (-1000000)] p) := fun p h => by
      simp at h
      rcases p with _ | _ | _ | _ | p <;> first | omega | (simp [iv]; done)
    go_upto_region 5 with fail
    go_region_with (go_at_call 36; refine (next_any g 4 _ (by repeat (first | (with_reducible exact S5.out) | (with_reducible refine Src.drew ?_) | (with_reducible refine Src.alloc ?_ _ _))) (by omega) (by omega)).mono ?_; rintro e w6 ⟨r6, u60, u61, rfl, hs6, ho6⟩; obtain ⟨p, hp⟩ : ∃ p : Nat, r6 = p := ⟨r6.toNat, (Int.toNat_of_nonneg u60).symm⟩; subst hp; have hp4 : p < 4 := Int.ofNat_lt.mp u61; have hoc6 := ocell ho6; have hof6 := ofrozen ho6; have hz6 := ho6.size; (try simp at hz6); have S6 := Lib.hid hs6; clear hs6; have y6 : w6.cell? ⟨b2, k, none⟩ = some (.int .i64 (iv vs k)) := (ho6.cell (p := ⟨b2, k, none⟩) (by exact b2g)).trans (by first | exact y2k | exact cell_keep y2k ((Below.refl _ _).alloc (Nat.le_refl _) _) | exact cell_keep y2k (((Below.refl _ _).alloc (Nat.le_refl _) _).drew)); have f6 : w6.frozen? ⟨b2, k, none⟩ = false := (ho6.frozen (p := ⟨b2, k, none⟩) (by exact b2g)).trans (by first | exact f2k | exact (Below.frozen (p := ⟨b2, k, none⟩) ((Below.refl _ w5).alloc (Nat.le_refl _) _) (by exact hb2)).trans f2k | exact (Below.frozen (p := ⟨b2, k, none⟩) (((Below.refl _ w5).alloc (Nat.le_refl _) _).drew) (by exact hb2)).trans f2k); have b6 := cell_lt y6; have y6a : ∀ o, (w6.alloc o).cell? ⟨b2, k, none⟩ = some (.int .i64 (iv vs k)) := fun o => cell_keep y6 ((Below.refl _ _).alloc (Nat.le_refl _) _); have f6a : ∀ o, (w6.alloc o).frozen? ⟨b2, k, none⟩ = false := fun o => (Below.frozen (p := ⟨b2, k, none⟩) ((Below.refl _ w6).alloc (Nat.le_refl _) _) (by exact b6)).trans f6)
    all_goals
      refine keepW (P := BrP g w.heap.size T (w.heap.size + 1) (.slice (some ⟨b0, 0, none⟩) ss.length cp0) (.slice (some ⟨b1, 0, none⟩) ls.length cp1) (.slice (some ⟨b2, 0, none⟩) vs.length cp2) w) (by repeat (first | (with_reducible exact stepV (k := k) hss3 T5.out I0.out I1.out I2.out R5.out C5.out (by (repeat (first | (with_reducible exact Chg.refl _ _) | (with_reducible assumption) | (with_reducible refine Chg.alloc ?_ _) | (with_reducible refine Chg.drew ?_) | (with_reducible refine Chg.drewN ?_ _) | (with_reducible refine Chg.setNew ?_ (by first | exact Nat.le_refl _ | (simp; done) | (simp; omega) | omega) _) | (with_reducible refine Chg.only ?_ (by assumption)) | (with_reducible refine Chg.trans ?_ (by assumption))))) (by repeat (first | (with_reducible exact S6.out) | (with_reducible exact S5.out) | (with_reducible refine Src.alloc ?_ _ _) | (with_reducible refine Src.drew ?_))) (by omega) (by omega) (by omega) (by omega) (by omega) (by omega) (by omega) (by omega) (by omega) (by omega)) | (with_reducible refine BrP.drew ?_) | (with_reducible refine BrP.alloc ?_ _ _ (by omega) (by omega) (by omega)))) ?_
      rintro wc ⟨sx, lx, vx, hlx, T9, I9, R9', S9', C9'⟩
      clear t0 t1 t2 z0 z1 z2
      obtain ⟨⟨t0, t1, t2⟩, z0, z1, z2⟩ := T9
      obtain ⟨J0, J1, J2⟩ := I9
      have J0 := Lib.hid J0; have J1 := Lib.hid J1; have J2 := Lib.hid J2
      have R9 := Lib.hid R9'; have S9 := Lib.hid S9'; have C9 := Lib.hid C9'
      have hTq : w.heap.size ≠ T := by omega
      clear R9' S9' C9'
      obtain ⟨⟨m0, x0⟩, y0⟩ := R9.out 0 (by omega)
      obtain ⟨⟨m1, x1⟩, y1⟩ := R9.out 1 (by omega)
      obtain ⟨⟨m2, x2⟩, y2⟩ := R9.out 2 (by omega)
      go_wp2
      refine bodyPost_ret (v := .agg #[.slice (some ⟨b0, 0, none⟩) ss.length cp0, .slice (some ⟨b1, 0, none⟩) ls.length cp1, .slice (some ⟨b2, 0, none⟩) vs.length cp2]) (by simp [results, Tryd.results17, go_sem, *]) rfl ?_
      exact ⟨_, _, _, _, _, _, rfl, by first | exact hlx | exact hss3, ⟨IntN.chg J0.out (Only.chg ((((Only.refl w.heap.size _).setCell 0 _).setCell 1 _).setCell 2 _)) (by omega), IntN.chg J1.out (Only.chg ((((Only.refl w.heap.size _).setCell 0 _).setCell 1 _).setCell 2 _)) (by omega), IntN.chg J2.out (Only.chg ((((Only.refl w.heap.size _).setCell 0 _).setCell 1 _).setCell 2 _)) (by omega)⟩,
        ((S9.out.setOther hg _).setOther hg _).setOther hg _, ((C9.out.setNew (Nat.le_refl _) _).setNew (Nat.le_refl _) _).setNew (Nat.le_refl _) _⟩
  have r0b : (r == 0) = false := by simpa using r0
  by_cases r1 : r = 1
  · subst r1
    have y0k : w5.cell? ⟨b0, 0, none⟩ = some (.int .i64 (iv ss 0)) := OI.cells P0.out 0 (by omega)
    have f0k : w5.frozen? ⟨b0, 0, none⟩ = false := World.ownsRow.frozenAt P0.out 0
    have b0g : b0 ≠ g := by omega
    have b0T : b0 ≠ T := by omega
    have Tg : T ≠ g := by omega
    have w5g : w5.heap.size ≠ g := by omega
    have hb0 : b0 < w5.heap.size := cell_lt y0k
    have ssI : (0 : Int) < (ss.length : Int) := by omega
    have ssN : 0 < ss.length := by omega
    have hpk : ∀ (W : World) (p : Nat), p < 3 → (W.alloc (Obj.cells #[.int .i64 (-1), .int .i64 (100000), .int .i64 (7)] 2)).cell? ⟨W.heap.size, p, none⟩ = some (.int .i64 (iv [(-1), (100000), (7)] p)) := fun W p hp => by
      rcases p with _ | _ | _ | p <;> first | omega | (simp [go_sem, iv]; done)
    have hgl : ∀ (p : Nat) (h : p < [Value.int .i64 (-1), Value.int .i64 (100000), Value.int .i64 (7)].length), [Value.int .i64 (-1), Value.int .i64 (100000), Value.int .i64 (7)][p]'h = .int .i64 (iv [(-1), (100000), (7)] p) := fun p h => by
      simp at h
      rcases p with _ | _ | _ | p <;> first | omega | (simp [iv]; done)
    go_upto_region 7 with fail
    go_region_with (go_at_call 36; refine (next_any g 3 _ (by repeat (first | (with_reducible exact S5.out) | (with_reducible refine Src.drew ?_) | (with_reducible refine Src.alloc ?_ _ _))) (by omega) (by omega)).mono ?_; rintro e w6 ⟨r6, u60, u61, rfl, hs6, ho6⟩; obtain ⟨p, hp⟩ : ∃ p : Nat, r6 = p := ⟨r6.toNat, (Int.toNat_of_nonneg u60).symm⟩; subst hp; have hp4 : p < 3 := Int.ofNat_lt.mp u61; have hoc6 := ocell ho6; have hof6 := ofrozen ho6; have hz6 := ho6.size; (try simp at hz6); have S6 := Lib.hid hs6; clear hs6; have y6 : w6.cell? ⟨b0, 0, none⟩ = some (.int .i64 (iv ss 0)) := (ho6.cell (p := ⟨b0, 0, none⟩) (by exact b0g)).trans (by first | exact y0k | exact cell_keep y0k ((Below.refl _ _).alloc (Nat.le_refl _) _) | exact cell_keep y0k (((Below.refl _ _).alloc (Nat.le_refl _) _).drew)); have f6 : w6.frozen? ⟨b0, 0, none⟩ = false := (ho6.frozen (p := ⟨b0, 0, none⟩) (by exact b0g)).trans (by first | exact f0k | exact (Below.frozen (p := ⟨b0, 0, none⟩) ((Below.refl _ w5).alloc (Nat.le_refl _) _) (by exact hb0)).trans f0k | exact (Below.frozen (p := ⟨b0, 0, none⟩) (((Below.refl _ w5).alloc (Nat.le_refl _) _).drew) (by exact hb0)).trans f0k); have b6 := cell_lt y6; have y6a : ∀ o, (w6.alloc o).cell? ⟨b0, 0, none⟩ = some (.int .i64 (iv ss 0)) := fun o => cell_keep y6 ((Below.refl _ _).alloc (Nat.le_refl _) _); have f6a : ∀ o, (w6.alloc o).frozen? ⟨b0, 0, none⟩ = false := fun o => (Below.frozen (p := ⟨b0, 0, none⟩) ((Below.refl _ w6).alloc (Nat.le_refl _) _) (by exact b6)).trans f6)
    all_goals
      refine keepW (P := BrP g w.heap.size T (w.heap.size + 1) (.slice (some ⟨b0, 0, none⟩) ss.length cp0) (.slice (some ⟨b1, 0, none⟩) ls.length cp1) (.slice (some ⟨b2, 0, none⟩) vs.length cp2) w) (by repeat (first | (with_reducible exact stepS (k := 0) hss3 T5.out I0.out I1.out I2.out R5.out C5.out (by (repeat (first | (with_reducible exact Chg.refl _ _) | (with_reducible assumption) | (with_reducible refine Chg.alloc ?_ _) | (with_reducible refine Chg.drew ?_) | (with_reducible refine Chg.drewN ?_ _) | (with_reducible refine Chg.setNew ?_ (by first | exact Nat.le_refl _ | (simp; done) | (simp; omega) | omega) _) | (with_reducible refine Chg.only ?_ (by assumption)) | (with_reducible refine Chg.trans ?_ (by assumption))))) (by repeat (first | (with_reducible exact S6.out) | (with_reducible exact S5.out) | (with_reducible refine Src.alloc ?_ _ _) | (with_reducible refine Src.drew ?_))) (by omega) (by omega) (by omega) (by omega) (by omega) (by omega) (by omega) (by omega) (by omega) (by omega)) | (with_reducible refine BrP.drew ?_) | (with_reducible refine BrP.alloc ?_ _ _ (by omega) (by omega) (by omega)))) ?_
      rintro wc ⟨sx, lx, vx, hlx, T9, I9, R9', S9', C9'⟩
      clear t0 t1 t2 z0 z1 z2
      obtain ⟨⟨t0, t1, t2⟩, z0, z1, z2⟩ := T9
      obtain ⟨J0, J1, J2⟩ := I9
      have J0 := Lib.hid J0; have J1 := Lib.hid J1; have J2 := Lib.hid J2
      have R9 := Lib.hid R9'; have S9 := Lib.hid S9'; have C9 := Lib.hid C9'
      have hTq : w.heap.size ≠ T := by omega
      clear R9' S9' C9'
      obtain ⟨⟨m0, x0⟩, y0⟩ := R9.out 0 (by omega)
      obtain ⟨⟨m1, x1⟩, y1⟩ := R9.out 1 (by omega)
      obtain ⟨⟨m2, x2⟩, y2⟩ := R9.out 2 (by omega)
      go_wp2
      refine bodyPost_ret (v := .agg #[.slice (some ⟨b0, 0, none⟩) ss.length cp0, .slice (some ⟨b1, 0, none⟩) ls.length cp1, .slice (some ⟨b2, 0, none⟩) vs.length cp2]) (by simp [results, Tryd.results17, go_sem, *]) rfl ?_
      exact ⟨_, _, _, _, _, _, rfl, by first | exact hlx | exact hss3, ⟨IntN.chg J0.out (Only.chg ((((Only.refl w.heap.size _).setCell 0 _).setCell 1 _).setCell 2 _)) (by omega), IntN.chg J1.out (Only.chg ((((Only.refl w.heap.size _).setCell 0 _).setCell 1 _).setCell 2 _)) (by omega), IntN.chg J2.out (Only.chg ((((Only.refl w.heap.size _).setCell 0 _).setCell 1 _).setCell 2 _)) (by omega)⟩,
        ((S9.out.setOther hg _).setOther hg _).setOther hg _, ((C9.out.setNew (Nat.le_refl _) _).setNew (Nat.le_refl _) _).setNew (Nat.le_refl _) _⟩
  have r1b : (r == 1) = false := by simpa using r1
  by_cases r2 : r = 2
  · subst r2
    have b0T : b0 ≠ T := by omega
    have b1T : b1 ≠ T := by omega
    have b2T : b2 ≠ T := by omega
    have hTq : w.heap.size ≠ T := by omega
    have y1k : w5.cell? ⟨b1, 0, none⟩ = some (.int .i64 (iv ls 0)) := OI.cells P1.out 0 (by omega)
    have lsN : 0 < ls.length := by omega
    have lsI : (0 : Int) < (ls.length : Int) := by omega
    go_upto_region 9 with fail
    have Tg : T ≠ g := by omega
    have Tb1 : T ≠ b1 := by omega
    have hA1 : ls.length + 1 ≤ maxLen := by unfold maxLen; omega
    have hA2 : (ls.length + 1) * 8 ≤ 140737488355328 := by omega
    have hA3 : ∀ o, w1.heap.size ≤ (w5.alloc o).drew.heap.size := fun o => by simp; omega
    go_region_law (rw [if_pos (by rfl)]; refine wp_append_lies _ _ _ 24 rfl w1.heap.size 2 i0 (.int .i64 0) 1 8 Tryd.underlying24 hi hz0 hz1 hz2 rfl (by decide) _ _ _ rfl (OI.drew (OI.alloc P1.out _)) ⟨w5.heap.size, 0, none⟩ 1 1 [.int .i64 (iv ls 0)] rfl rfl (one_cellI w5 _ _) (fun u hu => by simp at hu; subst hu; rfl) Nat.one_pos hA1 hA2 (hA3 _) _ rfl ?_; intro gg cpx w6 hown6 hgrow6 hat6 hlt6; have hc6 : Chg b1 (w5.alloc (Obj.cells #[.int .i64 (iv ls 0)] 2)).drew w6 := hgrow6; have T6 := Tb.chg (Tb.chg T5.out (((Chg.refl g w5).alloc _).drew) Tg) hc6 Tb1; obtain ⟨⟨s0, s1, s2⟩, e0, e1, e2⟩ := T6)
    all_goals
      have O6 : OI w6 w1.heap.size (.slice (some ⟨gg, 0, none⟩) (ls.length + 1) cpx) (ls ++ [iv ls 0]) := by simpa [OI] using hown6
      have hgT : gg ≠ T := by
        rcases hat6 with h | h
        · have h' : b1 = gg := Option.some.inj h
          omega
        · have h' : gg = w5.heap.size + 1 := by simpa using h
          omega
      refine keepW (P := BrP g w.heap.size T (w.heap.size + 1) (.slice (some ⟨b0, 0, none⟩) ss.length cp0) (.slice (some ⟨gg, 0, none⟩) (ls.length + 1) cpx) (.slice (some ⟨b2, 0, none⟩) vs.length cp2) w) (stepA hss3 T5.out I0.out I2.out R5.out C5.out (((Chg.refl g w5).alloc _).drew) (Src.drew (S5.out.alloc _ _)) hc6 O6 (by simp) (by simp; omega) (by omega) (by omega) (by omega) (by omega) (by omega) (by omega) (by omega) (by omega) (by omega) (by omega) hgT (by omega) (by omega) (by omega) (by omega) (by omega)) ?_
      rintro wc ⟨sx, lx, vx, hlx, T9, I9, R9', S9', C9'⟩
      clear t0 t1 t2 z0 z1 z2
      obtain ⟨⟨t0, t1, t2⟩, z0, z1, z2⟩ := T9
      obtain ⟨J0, J1, J2⟩ := I9
      have J0 := Lib.hid J0; have J1 := Lib.hid J1; have J2 := Lib.hid J2
      have R9 := Lib.hid R9'; have S9 := Lib.hid S9'; have C9 := Lib.hid C9'
      clear R9' S9' C9'
      obtain ⟨⟨m0, x0⟩, y0⟩ := R9.out 0 (by omega)
      obtain ⟨⟨m1, x1⟩, y1⟩ := R9.out 1 (by omega)
      obtain ⟨⟨m2, x2⟩, y2⟩ := R9.out 2 (by omega)
      go_wp2
      refine bodyPost_ret (v := .agg #[.slice (some ⟨b0, 0, none⟩) ss.length cp0, .slice (some ⟨gg, 0, none⟩) (ls.length + 1) cpx, .slice (some ⟨b2, 0, none⟩) vs.length cp2]) (by simp [results, Tryd.results17, go_sem, *]) rfl ?_
      exact ⟨_, _, _, _, _, _, rfl, by first | exact hlx | exact hss3, ⟨IntN.chg J0.out (Only.chg ((((Only.refl w.heap.size _).setCell 0 _).setCell 1 _).setCell 2 _)) (by omega), IntN.chg J1.out (Only.chg ((((Only.refl w.heap.size _).setCell 0 _).setCell 1 _).setCell 2 _)) (by omega), IntN.chg J2.out (Only.chg ((((Only.refl w.heap.size _).setCell 0 _).setCell 1 _).setCell 2 _)) (by omega)⟩,
        ((S9.out.setOther hg _).setOther hg _).setOther hg _, ((C9.out.setNew (Nat.le_refl _) _).setNew (Nat.le_refl _) _).setNew (Nat.le_refl _) _⟩
  have r2b : (r == 2) = false := by simpa using r2
  by_cases r3 : r = 3
  · subst r3
    have b0T : b0 ≠ T := by omega
    have b1T : b1 ≠ T := by omega
    have b2T : b2 ≠ T := by omega
    have hTq : w.heap.size ≠ T := by omega
    have lN : 1 ≤ vs.length := by omega
    have lI : (1 : Int) ≤ (vs.length : Int) := by omega
    have lC : vs.length ≤ cp2 := g2
    have l1 : 1 ≤ cp2 := by omega
    by_cases hcp : cp2 = 1
    · have N2 := Lib.hid (IntN.none (w := w5) (B := w.heap.size + 1) (a := some ⟨b2, 0, none⟩) (n := vs.length - 1) (cap := 0) (xs := vs.tail) (by simp; omega) (by omega))
      obtain ⟨⟨m0, x0⟩, y0⟩ := R5.out 0 (by omega)
      obtain ⟨⟨m1, x1⟩, y1⟩ := R5.out 1 (by omega)
      obtain ⟨⟨m2, x2⟩, y2⟩ := R5.out 2 (by omega)
      go_wp2
      refine bodyPost_ret (v := .agg #[.slice (some ⟨b0, 0, none⟩) ss.length cp0, .slice (some ⟨b1, 0, none⟩) ls.length cp1, .slice (some ⟨b2, 0, none⟩) (vs.length - 1) 0]) (by simp [results, Tryd.results17, go_sem, *]) rfl ?_
      exact ⟨_, _, _, ss, ls, vs.tail, rfl, by first | exact hlx | exact hss3, ⟨IntN.chg (I0.out.far (Only.chg ((Only.refl T w5).setCell 2 _)) (notb b0T)) (Only.chg ((((Only.refl w.heap.size _).setCell 0 _).setCell 1 _).setCell 2 _)) (by omega), IntN.chg (I1.out.far (Only.chg ((Only.refl T w5).setCell 2 _)) (notb b1T)) (Only.chg ((((Only.refl w.heap.size _).setCell 0 _).setCell 1 _).setCell 2 _)) (by omega), IntN.chg (IntN.far N2.out (Only.chg ((Only.refl T w5).setCell 2 _)) (notb b2T)) (Only.chg ((((Only.refl w.heap.size _).setCell 0 _).setCell 1 _).setCell 2 _)) (by omega)⟩,
        (((Lib.hid (Src.setOther (p := ⟨T, 2, none⟩) S5.out (by show g < T; omega) _)).out.setOther hg _).setOther hg _).setOther hg _, (((Lib.hid (Chg.setNew (p := ⟨T, 2, none⟩) C5.out (by show w.heap.size ≤ T; omega) _)).out.setNew (Nat.le_refl _) _).setNew (Nat.le_refl _) _).setNew (Nat.le_refl _) _⟩
    · obtain ⟨⟨m0, x0⟩, y0⟩ := R5.out 0 (by omega)
      obtain ⟨⟨m1, x1⟩, y1⟩ := R5.out 1 (by omega)
      obtain ⟨⟨m2, x2⟩, y2⟩ := R5.out 2 (by omega)
      go_wp2
      refine bodyPost_ret (v := .agg #[.slice (some ⟨b0, 0, none⟩) ss.length cp0, .slice (some ⟨b1, 0, none⟩) ls.length cp1, .slice (some ⟨b2, 1, none⟩) (vs.length - 1) (cp2 - 1)]) (by simp [results, Tryd.results17, go_sem, *]) rfl ?_
      exact ⟨_, _, _, ss, ls, vs.tail, rfl, by first | exact hlx | exact hss3, ⟨IntN.chg (I0.out.far (Only.chg ((Only.refl T w5).setCell 2 _)) (notb b0T)) (Only.chg ((((Only.refl w.heap.size _).setCell 0 _).setCell 1 _).setCell 2 _)) (by omega), IntN.chg (I1.out.far (Only.chg ((Only.refl T w5).setCell 2 _)) (notb b1T)) (Only.chg ((((Only.refl w.heap.size _).setCell 0 _).setCell 1 _).setCell 2 _)) (by omega), IntN.chg (IntN.far (I2.out.tail (by omega)) (Only.chg ((Only.refl T w5).setCell 2 _)) (notb b2T)) (Only.chg ((((Only.refl w.heap.size _).setCell 0 _).setCell 1 _).setCell 2 _)) (by omega)⟩,
        (((Lib.hid (Src.setOther (p := ⟨T, 2, none⟩) S5.out (by show g < T; omega) _)).out.setOther hg _).setOther hg _).setOther hg _, (((Lib.hid (Chg.setNew (p := ⟨T, 2, none⟩) C5.out (by show w.heap.size ≤ T; omega) _)).out.setNew (Nat.le_refl _) _).setNew (Nat.le_refl _) _).setNew (Nat.le_refl _) _⟩
  have r3b : (r == 3) = false := by simpa using r3
  by_cases r4 : r = 4
  · subst r4
    have y2k : w5.cell? ⟨b2, k, none⟩ = some (.int .i64 (iv vs k)) := OI.cells P2.out k (by omega)
    have f2k : w5.frozen? ⟨b2, k, none⟩ = false := World.ownsRow.frozenAt P2.out k
    have b2g : b2 ≠ g := by omega
    have b2T : b2 ≠ T := by omega
    have Tg : T ≠ g := by omega
    have w5g : w5.heap.size ≠ g := by omega
    have hb2 : b2 < w5.heap.size := cell_lt y2k
    go_upto_region 14 with fail
    go_region
    all_goals
      refine keepW (P := BrP g w.heap.size T (w.heap.size + 1) (.slice (some ⟨b0, 0, none⟩) ss.length cp0) (.slice (some ⟨b1, 0, none⟩) ls.length cp1) (.slice (some ⟨b2, 0, none⟩) vs.length cp2) w) (by repeat (first | (with_reducible exact stepV (k := k) hss3 T5.out I0.out I1.out I2.out R5.out C5.out (by (repeat (first | (with_reducible exact Chg.refl _ _) | (with_reducible assumption) | (with_reducible refine Chg.alloc ?_ _) | (with_reducible refine Chg.drew ?_) | (with_reducible refine Chg.drewN ?_ _) | (with_reducible refine Chg.setNew ?_ (by first | exact Nat.le_refl _ | (simp; done) | (simp; omega) | omega) _) | (with_reducible refine Chg.only ?_ (by assumption)) | (with_reducible refine Chg.trans ?_ (by assumption))))) (by repeat (first | (with_reducible exact S6.out) | (with_reducible exact S5.out) | (with_reducible refine Src.alloc ?_ _ _) | (with_reducible refine Src.drew ?_))) (by omega) (by omega) (by omega) (by omega) (by omega) (by omega) (by omega) (by omega) (by omega) (by omega)) | (with_reducible refine BrP.drew ?_) | (with_reducible refine BrP.alloc ?_ _ _ (by omega) (by omega) (by omega)))) ?_
      rintro wc ⟨sx, lx, vx, hlx, T9, I9, R9', S9', C9'⟩
      clear t0 t1 t2 z0 z1 z2
      obtain ⟨⟨t0, t1, t2⟩, z0, z1, z2⟩ := T9
      obtain ⟨J0, J1, J2⟩ := I9
      have J0 := Lib.hid J0; have J1 := Lib.hid J1; have J2 := Lib.hid J2
      have R9 := Lib.hid R9'; have S9 := Lib.hid S9'; have C9 := Lib.hid C9'
      have hTq : w.heap.size ≠ T := by omega
      clear R9' S9' C9'
      obtain ⟨⟨m0, x0⟩, y0⟩ := R9.out 0 (by omega)
      obtain ⟨⟨m1, x1⟩, y1⟩ := R9.out 1 (by omega)
      obtain ⟨⟨m2, x2⟩, y2⟩ := R9.out 2 (by omega)
      go_wp2
      refine bodyPost_ret (v := .agg #[.slice (some ⟨b0, 0, none⟩) ss.length cp0, .slice (some ⟨b1, 0, none⟩) ls.length cp1, .slice (some ⟨b2, 0, none⟩) vs.length cp2]) (by simp [results, Tryd.results17, go_sem, *]) rfl ?_
      exact ⟨_, _, _, _, _, _, rfl, by first | exact hlx | exact hss3, ⟨IntN.chg J0.out (Only.chg ((((Only.refl w.heap.size _).setCell 0 _).setCell 1 _).setCell 2 _)) (by omega), IntN.chg J1.out (Only.chg ((((Only.refl w.heap.size _).setCell 0 _).setCell 1 _).setCell 2 _)) (by omega), IntN.chg J2.out (Only.chg ((((Only.refl w.heap.size _).setCell 0 _).setCell 1 _).setCell 2 _)) (by omega)⟩,
        ((S9.out.setOther hg _).setOther hg _).setOther hg _, ((C9.out.setNew (Nat.le_refl _) _).setNew (Nat.le_refl _) _).setNew (Nat.le_refl _) _⟩
  have r4b : (r == 4) = false := by simpa using r4
  by_cases r5 : r = 5
  · subst r5
    have y2k : w5.cell? ⟨b2, k, none⟩ = some (.int .i64 (iv vs k)) := OI.cells P2.out k (by omega)
    have f2k : w5.frozen? ⟨b2, k, none⟩ = false := World.ownsRow.frozenAt P2.out k
    have b2g : b2 ≠ g := by omega
    have b2T : b2 ≠ T := by omega
    have Tg : T ≠ g := by omega
    have w5g : w5.heap.size ≠ g := by omega
    have hb2 : b2 < w5.heap.size := cell_lt y2k
    go_upto_region 14 with fail
    go_region
    all_goals
      refine keepW (P := BrP g w.heap.size T (w.heap.size + 1) (.slice (some ⟨b0, 0, none⟩) ss.length cp0) (.slice (some ⟨b1, 0, none⟩) ls.length cp1) (.slice (some ⟨b2, 0, none⟩) vs.length cp2) w) (by repeat (first | (with_reducible exact stepV (k := k) hss3 T5.out I0.out I1.out I2.out R5.out C5.out (by (repeat (first | (with_reducible exact Chg.refl _ _) | (with_reducible assumption) | (with_reducible refine Chg.alloc ?_ _) | (with_reducible refine Chg.drew ?_) | (with_reducible refine Chg.drewN ?_ _) | (with_reducible refine Chg.setNew ?_ (by first | exact Nat.le_refl _ | (simp; done) | (simp; omega) | omega) _) | (with_reducible refine Chg.only ?_ (by assumption)) | (with_reducible refine Chg.trans ?_ (by assumption))))) (by repeat (first | (with_reducible exact S6.out) | (with_reducible exact S5.out) | (with_reducible refine Src.alloc ?_ _ _) | (with_reducible refine Src.drew ?_))) (by omega) (by omega) (by omega) (by omega) (by omega) (by omega) (by omega) (by omega) (by omega) (by omega)) | (with_reducible refine BrP.drew ?_) | (with_reducible refine BrP.alloc ?_ _ _ (by omega) (by omega) (by omega)))) ?_
      rintro wc ⟨sx, lx, vx, hlx, T9, I9, R9', S9', C9'⟩
      clear t0 t1 t2 z0 z1 z2
      obtain ⟨⟨t0, t1, t2⟩, z0, z1, z2⟩ := T9
      obtain ⟨J0, J1, J2⟩ := I9
      have J0 := Lib.hid J0; have J1 := Lib.hid J1; have J2 := Lib.hid J2
      have R9 := Lib.hid R9'; have S9 := Lib.hid S9'; have C9 := Lib.hid C9'
      have hTq : w.heap.size ≠ T := by omega
      clear R9' S9' C9'
      obtain ⟨⟨m0, x0⟩, y0⟩ := R9.out 0 (by omega)
      obtain ⟨⟨m1, x1⟩, y1⟩ := R9.out 1 (by omega)
      obtain ⟨⟨m2, x2⟩, y2⟩ := R9.out 2 (by omega)
      go_wp2
      refine bodyPost_ret (v := .agg #[.slice (some ⟨b0, 0, none⟩) ss.length cp0, .slice (some ⟨b1, 0, none⟩) ls.length cp1, .slice (some ⟨b2, 0, none⟩) vs.length cp2]) (by simp [results, Tryd.results17, go_sem, *]) rfl ?_
      exact ⟨_, _, _, _, _, _, rfl, by first | exact hlx | exact hss3, ⟨IntN.chg J0.out (Only.chg ((((Only.refl w.heap.size _).setCell 0 _).setCell 1 _).setCell 2 _)) (by omega), IntN.chg J1.out (Only.chg ((((Only.refl w.heap.size _).setCell 0 _).setCell 1 _).setCell 2 _)) (by omega), IntN.chg J2.out (Only.chg ((((Only.refl w.heap.size _).setCell 0 _).setCell 1 _).setCell 2 _)) (by omega)⟩,
        ((S9.out.setOther hg _).setOther hg _).setOther hg _, ((C9.out.setNew (Nat.le_refl _) _).setNew (Nat.le_refl _) _).setNew (Nat.le_refl _) _⟩
  have r5b : (r == 5) = false := by simpa using r5
  obtain ⟨⟨m0, x0⟩, y0⟩ := R5.out 0 (by omega)
  obtain ⟨⟨m1, x1⟩, y1⟩ := R5.out 1 (by omega)
  obtain ⟨⟨m2, x2⟩, y2⟩ := R5.out 2 (by omega)
  go_wp2
  refine bodyPost_ret (v := .agg #[.slice (some ⟨b0, 0, none⟩) ss.length cp0, .slice (some ⟨b1, 0, none⟩) ls.length cp1, .slice (some ⟨b2, 0, none⟩) vs.length cp2]) (by simp [results, Tryd.results17, go_sem, *]) rfl ?_
  exact ⟨_, _, _, ss, ls, vs, rfl, by first | exact hlx | exact hss3, ⟨IntN.chg I0.out (Only.chg ((((Only.refl w.heap.size _).setCell 0 _).setCell 1 _).setCell 2 _)) (by omega), IntN.chg I1.out (Only.chg ((((Only.refl w.heap.size _).setCell 0 _).setCell 1 _).setCell 2 _)) (by omega), IntN.chg I2.out (Only.chg ((((Only.refl w.heap.size _).setCell 0 _).setCell 1 _).setCell 2 _)) (by omega)⟩,
    ((S5.out.setOther hg _).setOther hg _).setOther hg _, ((C5.out.setNew (Nat.le_refl _) _).setNew (Nat.le_refl _) _).setNew (Nat.le_refl _) _⟩
end Go.Proofs.YtckccpcigkbfmaaDoor
