/-
The program's ReadTable, for all strings of at most 2^20 bytes, where the library's variables are as its text lays them.
-/
import Derived.Test.YtckccpcigkbfmaaDoorReadT
namespace Go.Proofs.YtckccpcigkbfmaaDoor
open Go.ChangeShapes Go.WideShapes Go.ChangeAt Go.RowKit
set_option linter.unusedVariables false
set_option linter.unusedSimpArgs false
theorem tabTI_at (u0 u1 u2 : Value) (xs0 xs1 xs2 : List Int) (B : Nat) (W : World) (htab : Tab W) (a0 : OwnS W B u0 xs0) (a1 : OwnS W B u1 xs1) (a2 : OwnS W B u2 xs2) :
    Calls Tryd.prog 8 #[.agg #[u0, u1, u2]] W fun e w' => e = .returned (.string (tabS xs0 xs1 xs2)) ∧ Below W.heap.size W w' ∧ OwnS w' B u0 xs0 ∧ OwnS w' B u1 xs1 ∧ OwnS w' B u2 xs2 := by
  refine (implTabT_any u0 u1 u2 xs0 xs1 xs2 W a0.ints a1.ints a2.ints htab).mono ?_
  rintro e w' ⟨rfl, hb⟩
  exact ⟨rfl, hb, a0.keep hb, a1.keep hb, a2.keep hb⟩
theorem rd_some {l : List UInt8} {ss ls vs : List Int} (h : IsRd l ss ls vs) : l ≠ [] := by
  rw [h.2]
  simp
set_option maxHeartbeats 4000000 in
set_option maxRecDepth 100000 in
theorem implReadT_any (s : ByteArray) (m : Int) (w : World) (hs : s.size ≤ 1048576) (hm : MaxLen w m) (ht : Tab w) (he : Errs w) : Calls Tryd.prog 7 #[.string s] w (ReadT s.data.toList w) := by
  have HT := Lib.hid ht; have HE := Lib.hid he; have HM := Lib.hid hm
  clear ht he hm
  have HR0 := Lib.hid (res_newR w (.slice none 0 0) (.slice none 0 0) (.slice none 0 0) 26)
  have hcl := cut_len s.data.toList [124]
  rw [sz] at hcl
  obtain ⟨P0, hP0⟩ : ∃ P, P = (Lib.cut s.data.toList [124]).1 := ⟨_, rfl⟩
  obtain ⟨r, hr⟩ : ∃ r, r = (Lib.cut s.data.toList [124]).2.1 := ⟨_, rfl⟩
  obtain ⟨b1, hb1⟩ : ∃ b, b = (Lib.cut s.data.toList [124]).2.2 := ⟨_, rfl⟩
  have hcl2 := cut_len r [124]
  obtain ⟨P1, hP1⟩ : ∃ P, P = (Lib.cut r [124]).1 := ⟨_, rfl⟩
  obtain ⟨P2, hP2⟩ : ∃ P, P = (Lib.cut r [124]).2.1 := ⟨_, rfl⟩
  obtain ⟨b2, hb2⟩ : ∃ b, b = (Lib.cut r [124]).2.2 := ⟨_, rfl⟩
  have HS := Lib.hid (fun ss ls vs (h : IsRd s.data.toList ss ls vs) => (show P0 = listL ss ∧ P1 = listL ls ∧ P2 = listL vs from by
    have ⟨c1, c2⟩ := rd_cut h
    rw [c1] at hP0 hr
    simp only at hP0 hr
    rw [hr, c2] at hP1 hP2
    exact ⟨hP0, hP1, hP2⟩))
  go_enter Tryd.func7, Tryd.ntmps7
  go_wp2_with fail
  go_at_call 19
  refine (Tryd.strings_Cut s ⟨#[124]⟩ m _ (by omega) (HM.out.keep (by (repeat (first | (with_reducible exact Below.refl _ _) | (with_reducible assumption) | (with_reducible refine ext_alloc ?_ _) | (with_reducible refine ext_drew ?_) | (with_reducible refine ext_drewN ?_ _) | (with_reducible refine ext_set ?_ (by first | exact Nat.le_refl _ | (simp; done) | (simp; omega) | omega) _) | (with_reducible refine ext_trans ?_ (by assumption))))))).mono ?_
  rintro e w1 ⟨rfl, n1, hw1⟩
  have e124 : (ByteArray.mk #[124]).data.toList = [124] := rfl
  rw [e124, ← hP0, ← hr, ← hb1]
  clear e124
  have x1 : Below w.heap.size w w1 := by rw [hw1]; (repeat (first | (with_reducible exact Below.refl _ _) | (with_reducible assumption) | (with_reducible refine ext_alloc ?_ _) | (with_reducible refine ext_drew ?_) | (with_reducible refine ext_drewN ?_ _) | (with_reducible refine ext_set ?_ (by first | exact Nat.le_refl _ | (simp; done) | (simp; omega) | omega) _) | (with_reducible refine ext_trans ?_ (by assumption))))
  have HR1 := Lib.hid (show Res3R w1 w.heap.size from HR0.out.keep (by rw [hw1]; (repeat (first | (with_reducible exact Below.refl _ _) | (with_reducible assumption) | (with_reducible refine ext_alloc ?_ _) | (with_reducible refine ext_drew ?_) | (with_reducible refine ext_drewN ?_ _) | (with_reducible refine ext_set ?_ (by first | exact Nat.le_refl _ | (simp; done) | (simp; omega) | omega) _) | (with_reducible refine ext_trans ?_ (by assumption))))))
  have s1 : w.heap.size + 1 ≤ w1.heap.size := by rw [hw1]; simp
  rw [← hP0, ← hr] at hcl
  rw [← hP1, ← hP2] at hcl2
  obtain ⟨l0, lr⟩ := hcl
  obtain ⟨l1, l2⟩ := hcl2
  clear hw1 hb1 hP0 hr HR0
  go_wp2_with fail
  go_at_call 19
  refine (Tryd.strings_Cut ⟨r.toArray⟩ ⟨#[124]⟩ m _ (by have e : (ByteArray.mk r.toArray).size = r.length := (by rw [← sz]); omega) (HM.out.keep (by (repeat (first | (with_reducible exact Below.refl _ _) | (with_reducible assumption) | (with_reducible refine ext_alloc ?_ _) | (with_reducible refine ext_drew ?_) | (with_reducible refine ext_drewN ?_ _) | (with_reducible refine ext_set ?_ (by first | exact Nat.le_refl _ | (simp; done) | (simp; omega) | omega) _) | (with_reducible refine ext_trans ?_ (by assumption))))))).mono ?_
  rintro e w2 ⟨rfl, n2, hw2⟩
  have e124 : (ByteArray.mk #[124]).data.toList = [124] := rfl
  have er : (ByteArray.mk r.toArray).data.toList = r := by simp
  rw [e124, er, ← hP1, ← hP2, ← hb2]
  clear e124 er
  have x12 : Below w1.heap.size w1 w2 := by rw [hw2]; (repeat (first | (with_reducible exact Below.refl _ _) | (with_reducible assumption) | (with_reducible refine ext_alloc ?_ _) | (with_reducible refine ext_drew ?_) | (with_reducible refine ext_drewN ?_ _) | (with_reducible refine ext_set ?_ (by first | exact Nat.le_refl _ | (simp; done) | (simp; omega) | omega) _) | (with_reducible refine ext_trans ?_ (by assumption))))
  have x2 : Below w.heap.size w w2 := ext_trans x1 x12
  have HR2 := Lib.hid (HR1.out.keep x12)
  have s2 : w.heap.size + 1 ≤ w2.heap.size := by have := x12.size; omega
  clear hw2 hb2 hP1 hP2 HR1 x12 x1
  go_wp2_with fail
  go_at_call 20
  refine (readNum_any ⟨P0.toArray⟩ m _ (by rw [← sz]; simp only []; omega) (HM.out.keep (by (repeat (first | (with_reducible exact Below.refl _ _) | (with_reducible assumption) | (with_reducible refine ext_alloc ?_ _) | (with_reducible refine ext_drew ?_) | (with_reducible refine ext_drewN ?_ _) | (with_reducible refine ext_set ?_ (by first | exact Nat.le_refl _ | (simp; done) | (simp; omega) | omega) _) | (with_reducible refine ext_trans ?_ (by assumption)))))) (HE.out.keep (by (repeat (first | (with_reducible exact Below.refl _ _) | (with_reducible assumption) | (with_reducible refine ext_alloc ?_ _) | (with_reducible refine ext_drew ?_) | (with_reducible refine ext_drewN ?_ _) | (with_reducible refine ext_set ?_ (by first | exact Nat.le_refl _ | (simp; done) | (simp; omega) | omega) _) | (with_reducible refine ext_trans ?_ (by assumption))))))).mono ?_
  rintro e wn0 ⟨u0, xs0, rfl, hu0, hq0, hb0⟩
  have F0 := Lib.hid hu0
  have Q0 := Lib.hid (show ∀ ys, ys ≠ [] → Small ys → P0 = listL ys → xs0 = ys from fun ys h1 h2 h3 => hq0 ys h1 h2 (by simpa using h3))
  obtain ⟨_, p0, q0, rfl, _⟩ := hu0
  clear hq0
  have hz0 := hb0.size
  go_wp2_with fail
  go_at_call 20
  refine (readNum_any ⟨P1.toArray⟩ m _ (by rw [← sz]; simp only []; omega) (HM.out.keep (by (repeat (first | (with_reducible exact Below.refl _ _) | (with_reducible assumption) | (with_reducible refine ext_alloc ?_ _) | (with_reducible refine ext_drew ?_) | (with_reducible refine ext_drewN ?_ _) | (with_reducible refine ext_set ?_ (by first | exact Nat.le_refl _ | (simp; done) | (simp; omega) | omega) _) | (with_reducible refine ext_trans ?_ (by assumption)))))) (HE.out.keep (by (repeat (first | (with_reducible exact Below.refl _ _) | (with_reducible assumption) | (with_reducible refine ext_alloc ?_ _) | (with_reducible refine ext_drew ?_) | (with_reducible refine ext_drewN ?_ _) | (with_reducible refine ext_set ?_ (by first | exact Nat.le_refl _ | (simp; done) | (simp; omega) | omega) _) | (with_reducible refine ext_trans ?_ (by assumption))))))).mono ?_
  rintro e wn1 ⟨u1, xs1, rfl, hu1, hq1, hb1⟩
  have F1 := Lib.hid hu1
  have Q1 := Lib.hid (show ∀ ys, ys ≠ [] → Small ys → P1 = listL ys → xs1 = ys from fun ys h1 h2 h3 => hq1 ys h1 h2 (by simpa using h3))
  obtain ⟨_, p1, q1, rfl, _⟩ := hu1
  clear hq1
  have hz1 := hb1.size
  go_wp2_with fail
  go_at_call 20
  refine (readNum_any ⟨P2.toArray⟩ m _ (by rw [← sz]; simp only []; omega) (HM.out.keep (by (repeat (first | (with_reducible exact Below.refl _ _) | (with_reducible assumption) | (with_reducible refine ext_alloc ?_ _) | (with_reducible refine ext_drew ?_) | (with_reducible refine ext_drewN ?_ _) | (with_reducible refine ext_set ?_ (by first | exact Nat.le_refl _ | (simp; done) | (simp; omega) | omega) _) | (with_reducible refine ext_trans ?_ (by assumption)))))) (HE.out.keep (by (repeat (first | (with_reducible exact Below.refl _ _) | (with_reducible assumption) | (with_reducible refine ext_alloc ?_ _) | (with_reducible refine ext_drew ?_) | (with_reducible refine ext_drewN ?_ _) | (with_reducible refine ext_set ?_ (by first | exact Nat.le_refl _ | (simp; done) | (simp; omega) | omega) _) | (with_reducible refine ext_trans ?_ (by assumption))))))).mono ?_
  rintro e wn2 ⟨u2, xs2, rfl, hu2, hq2, hb2⟩
  have F2 := Lib.hid hu2
  have Q2 := Lib.hid (show ∀ ys, ys ≠ [] → Small ys → P2 = listL ys → xs2 = ys from fun ys h1 h2 h3 => hq2 ys h1 h2 (by simpa using h3))
  obtain ⟨_, p2, q2, rfl, _⟩ := hu2
  clear hq2
  have hz2 := hb2.size
  go_upto_region 4 with fail
  have A01 := apart_of F0.out F1.out (by first | exact Nat.le_refl _ | (simp; done) | (simp; omega) | omega)
  have A02 := apart_of F0.out F2.out (by first | exact Nat.le_refl _ | (simp; done) | (simp; omega) | omega)
  have A12 := apart_of F1.out F2.out (by first | exact Nat.le_refl _ | (simp; done) | (simp; omega) | omega)
  have G0 := Lib.hid (OwnS.mono (C := w.heap.size + 1) (F0.out.keep (show Below wn0.heap.size wn0 wn2 by (repeat (first | (with_reducible exact Below.refl _ _) | (with_reducible assumption) | (with_reducible refine ext_alloc ?_ _) | (with_reducible refine ext_drew ?_) | (with_reducible refine ext_drewN ?_ _) | (with_reducible refine ext_set ?_ (by first | exact Nat.le_refl _ | (simp; done) | (simp; omega) | omega) _) | (with_reducible refine ext_trans ?_ (by assumption)))))) (by first | omega | (simp; omega)))
  have G1 := Lib.hid (OwnS.mono (C := w.heap.size + 1) (F1.out.keep (show Below wn1.heap.size wn1 wn2 by (repeat (first | (with_reducible exact Below.refl _ _) | (with_reducible assumption) | (with_reducible refine ext_alloc ?_ _) | (with_reducible refine ext_drew ?_) | (with_reducible refine ext_drewN ?_ _) | (with_reducible refine ext_set ?_ (by first | exact Nat.le_refl _ | (simp; done) | (simp; omega) | omega) _) | (with_reducible refine ext_trans ?_ (by assumption)))))) (by first | omega | (simp; omega)))
  have G2 := Lib.hid (OwnS.mono (C := w.heap.size + 1) F2.out (by first | omega | (simp; omega)))
  have HR3 := Lib.hid (HR2.out.keep (show Below w2.heap.size w2 wn2 by (repeat (first | (with_reducible exact Below.refl _ _) | (with_reducible assumption) | (with_reducible refine ext_alloc ?_ _) | (with_reducible refine ext_drew ?_) | (with_reducible refine ext_drewN ?_ _) | (with_reducible refine ext_set ?_ (by first | exact Nat.le_refl _ | (simp; done) | (simp; omega) | omega) _) | (with_reducible refine ext_trans ?_ (by assumption))))))
  have x3 : Below w.heap.size w wn2 := ext_trans x2 (by (repeat (first | (with_reducible exact Below.refl _ _) | (with_reducible assumption) | (with_reducible refine ext_alloc ?_ _) | (with_reducible refine ext_drew ?_) | (with_reducible refine ext_drewN ?_ _) | (with_reducible refine ext_set ?_ (by first | exact Nat.le_refl _ | (simp; done) | (simp; omega) | omega) _) | (with_reducible refine ext_trans ?_ (by assumption)))))
  have s3 : w.heap.size < wn2.heap.size := by omega
  clear F0 F1 F2 HR2 hb0 hb1 hb2
  by_cases hem : s.data.toList = []
  · have qe : s.toList.isEmpty = true := by rw [ByteArray.toList_eq, hem]; rfl
    have ⟨⟨v0, c0⟩, f0⟩ := HR3.out 0 (by omega)
    have ⟨⟨v1, c1⟩, f1⟩ := HR3.out 1 (by omega)
    have ⟨⟨v2, c2⟩, f2⟩ := HR3.out 2 (by omega)
    go_wp2_with fail
    exact bodyPost_ret (v := .tuple #[.agg #[.slice none 0 0, .slice none 0 0, .slice none 0 0], .bool false]) (by simp [results, Tryd.results7, go_sem, *]) rfl (.inr ⟨fun a b c h => rd_some h hem, _, _, _, rfl, tab_emptyR _ _, by (repeat (first | (with_reducible exact Below.refl _ _) | (with_reducible assumption) | (with_reducible refine ext_alloc ?_ _) | (with_reducible refine ext_drew ?_) | (with_reducible refine ext_drewN ?_ _) | (with_reducible refine ext_set ?_ (by first | exact Nat.le_refl _ | (simp; done) | (simp; omega) | omega) _) | (with_reducible refine ext_trans ?_ (by assumption))))⟩)
  · have qe : s.toList.isEmpty = false := by rw [ByteArray.toList_eq]; simpa using hem
    have HEm := Lib.hid hem
    clear hem
    go_wp2_with fail
    go_at_call 8
    refine (tabTI_at (.slice p0 xs0.length q0) (.slice p1 xs1.length q1) (.slice p2 xs2.length q2) xs0 xs1 xs2 (w.heap.size + 1) _ (HT.out.keep (by (repeat (first | (with_reducible exact Below.refl _ _) | (with_reducible assumption) | (with_reducible refine ext_alloc ?_ _) | (with_reducible refine ext_drew ?_) | (with_reducible refine ext_drewN ?_ _) | (with_reducible refine ext_set ?_ (by first | exact Nat.le_refl _ | (simp; done) | (simp; omega) | omega) _) | (with_reducible refine ext_trans ?_ (by assumption)))))) (G0.out.keep (by (repeat (first | (with_reducible exact Below.refl _ _) | (with_reducible assumption) | (with_reducible refine ext_alloc ?_ _) | (with_reducible refine ext_drew ?_) | (with_reducible refine ext_drewN ?_ _) | (with_reducible refine ext_set ?_ (by first | exact Nat.le_refl _ | (simp; done) | (simp; omega) | omega) _) | (with_reducible refine ext_trans ?_ (by assumption)))))) (G1.out.keep (by (repeat (first | (with_reducible exact Below.refl _ _) | (with_reducible assumption) | (with_reducible refine ext_alloc ?_ _) | (with_reducible refine ext_drew ?_) | (with_reducible refine ext_drewN ?_ _) | (with_reducible refine ext_set ?_ (by first | exact Nat.le_refl _ | (simp; done) | (simp; omega) | omega) _) | (with_reducible refine ext_trans ?_ (by assumption)))))) (G2.out.keep (by (repeat (first | (with_reducible exact Below.refl _ _) | (with_reducible assumption) | (with_reducible refine ext_alloc ?_ _) | (with_reducible refine ext_drew ?_) | (with_reducible refine ext_drewN ?_ _) | (with_reducible refine ext_set ?_ (by first | exact Nat.le_refl _ | (simp; done) | (simp; omega) | omega) _) | (with_reducible refine ext_trans ?_ (by assumption))))))).mono ?_
    rintro e w5 ⟨rfl, hb, o0, o1, o2⟩
    obtain ⟨hc, hf⟩ := bcell hb
    have hz := hb.size
    (try simp at hz)
    have ⟨⟨v0, c0⟩, f0⟩ := HR3.out 0 (by omega)
    have ⟨⟨v1, c1⟩, f1⟩ := HR3.out 1 (by omega)
    have ⟨⟨v2, c2⟩, f2⟩ := HR3.out 2 (by omega)
    go_wp2_with fail
    · have hq : (!(tabS xs0 xs1 xs2).toList == s.toList) = true := by assumption
      have HRn := HR3.out.keep (show Below wn2.heap.size wn2 w5 by (repeat (first | (with_reducible exact Below.refl _ _) | (with_reducible assumption) | (with_reducible refine ext_alloc ?_ _) | (with_reducible refine ext_drew ?_) | (with_reducible refine ext_drewN ?_ _) | (with_reducible refine ext_set ?_ (by first | exact Nat.le_refl _ | (simp; done) | (simp; omega) | omega) _) | (with_reducible refine ext_trans ?_ (by assumption)))))
      have ⟨⟨_, d0⟩, _⟩ := HRn 0 (by omega)
      have ⟨⟨_, d1⟩, _⟩ := HRn 1 (by omega)
      have ⟨⟨_, d2⟩, _⟩ := HRn 2 (by omega)
      clear HRn hc hf
      refine bodyPost_ret (v := .tuple #[.agg #[.slice none 0 0, .slice none 0 0, .slice none 0 0], .bool false]) (by simp [results, Tryd.results7, go_sem, *]) rfl (.inr ⟨fun a b c h => ?_, _, _, _, rfl, tab_emptyR _ _, by (repeat (first | (with_reducible exact Below.refl _ _) | (with_reducible assumption) | (with_reducible refine ext_alloc ?_ _) | (with_reducible refine ext_drew ?_) | (with_reducible refine ext_drewN ?_ _) | (with_reducible refine ext_set ?_ (by first | exact Nat.le_refl _ | (simp; done) | (simp; omega) | omega) _) | (with_reducible refine ext_trans ?_ (by assumption))))⟩)
      have ⟨e1, e2, e3⟩ := HS.out a b c h
      have ⟨na, nb, nc⟩ := rd_parts h.1
      have ⟨sa, sb, sc⟩ := tab_small h.1
      have h0 := Q0.out a na sa e1
      have h1 := Q1.out b nb sb e2
      have h2 := Q2.out c nc sc e3
      subst h0 h1 h2
      exact b_ne hq (tab_text h)
    · have hq : (!(tabS xs0 xs1 xs2).toList == s.toList) = false := by assumption
      have HRn := HR3.out.keep (show Below wn2.heap.size wn2 w5 by (repeat (first | (with_reducible exact Below.refl _ _) | (with_reducible assumption) | (with_reducible refine ext_alloc ?_ _) | (with_reducible refine ext_drew ?_) | (with_reducible refine ext_drewN ?_ _) | (with_reducible refine ext_set ?_ (by first | exact Nat.le_refl _ | (simp; done) | (simp; omega) | omega) _) | (with_reducible refine ext_trans ?_ (by assumption)))))
      have ⟨⟨_, d0⟩, _⟩ := HRn 0 (by omega)
      have ⟨⟨_, d1⟩, _⟩ := HRn 1 (by omega)
      have ⟨⟨_, d2⟩, _⟩ := HRn 2 (by omega)
      clear HRn hc hf
      have HI := tab_back (b_eq hq) HEm.out
      refine bodyPost_ret (v := .tuple #[.agg #[.slice p0 xs0.length q0, .slice p1 xs1.length q1, .slice p2 xs2.length q2], .bool true]) (by simp [results, Tryd.results7, go_sem, *]) rfl (.inl ⟨xs0, xs1, xs2, HI, _, _, _, rfl, ⟨OwnS.mono (B := w.heap.size + 1) (by (repeat (first | (with_reducible assumption) | (with_reducible refine OwnS.alloc ?_ _) | (with_reducible refine OwnS.drew ?_) | (with_reducible refine OwnS.drewN ?_ _) | (with_reducible refine OwnS.set ?_ (by first | omega | (simp; omega) | simp) _) | (with_reducible refine OwnS.keep ?_ (by assumption))))) (by omega), OwnS.mono (B := w.heap.size + 1) (by (repeat (first | (with_reducible assumption) | (with_reducible refine OwnS.alloc ?_ _) | (with_reducible refine OwnS.drew ?_) | (with_reducible refine OwnS.drewN ?_ _) | (with_reducible refine OwnS.set ?_ (by first | omega | (simp; omega) | simp) _) | (with_reducible refine OwnS.keep ?_ (by assumption))))) (by omega), OwnS.mono (B := w.heap.size + 1) (by (repeat (first | (with_reducible assumption) | (with_reducible refine OwnS.alloc ?_ _) | (with_reducible refine OwnS.drew ?_) | (with_reducible refine OwnS.drewN ?_ _) | (with_reducible refine OwnS.set ?_ (by first | omega | (simp; omega) | simp) _) | (with_reducible refine OwnS.keep ?_ (by assumption))))) (by omega), A01, A02, A12⟩, by (repeat (first | (with_reducible exact Below.refl _ _) | (with_reducible assumption) | (with_reducible refine ext_alloc ?_ _) | (with_reducible refine ext_drew ?_) | (with_reducible refine ext_drewN ?_ _) | (with_reducible refine ext_set ?_ (by first | exact Nat.le_refl _ | (simp; done) | (simp; omega) | omega) _) | (with_reducible refine ext_trans ?_ (by assumption))))⟩)
end Go.Proofs.YtckccpcigkbfmaaDoor
