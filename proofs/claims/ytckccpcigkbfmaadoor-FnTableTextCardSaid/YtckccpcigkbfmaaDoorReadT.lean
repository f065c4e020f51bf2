/-
ReadTable: the model's and the program's own, for all strings of at most 2^20 bytes.
-/
import Derived.Test.YtckccpcigkbfmaaDoorReadS
namespace Go.Proofs.YtckccpcigkbfmaaDoor
open Go.ChangeShapes Go.WideShapes Go.ChangeAt Go.RowKit
set_option linter.unusedVariables false
set_option linter.unusedSimpArgs false
/-- A text is that of a table. -/
def IsRd (l : List UInt8) (ss ls vs : List Int) : Prop := tabB ss ls vs = true ∧ l = listL ss ++ [124] ++ listL ls ++ [124] ++ listL vs
theorem rd_parts {ss ls vs : List Int} (h : tabB ss ls vs = true) : ss ≠ [] ∧ ls ≠ [] ∧ vs ≠ [] := by
  have ⟨h0, h1, h2, _⟩ := tab_get h
  have a := (ax_get h0).1
  have b := (ax_get h1).1
  have c := tab_pos0 h
  exact ⟨fun e => by rw [e] at a; simp at a, fun e => by rw [e] at b; simp at b, fun e => by rw [e] at c; simp at c⟩
theorem rd_spl {l : List UInt8} {ss ls vs : List Int} (h : IsRd l ss ls vs) : spl 124 l = [listL ss, listL ls, listL vs] := by
  rw [h.2]
  have e : listL ss ++ [124] ++ listL ls ++ [124] ++ listL vs = listL ss ++ 124 :: (listL ls ++ 124 :: listL vs) := by simp
  rw [e, spl_hit 124 _ _ (listL_ch ss), spl_hit 124 _ _ (listL_ch ls), spl_last 124 _ (listL_ch vs)]
theorem rd_cut {l : List UInt8} {ss ls vs : List Int} (h : IsRd l ss ls vs) : Lib.cut l [124] = (listL ss, listL ls ++ 124 :: listL vs, true) ∧ Lib.cut (listL ls ++ 124 :: listL vs) [124] = (listL ls, listL vs, true) := by
  rw [h.2]
  have e : listL ss ++ [124] ++ listL ls ++ [124] ++ listL vs = listL ss ++ 124 :: (listL ls ++ 124 :: listL vs) := by simp
  rw [e]
  exact ⟨cut_c 124 _ _ (listL_ch ss), cut_c 124 _ _ (listL_ch ls)⟩
theorem list_inj {a b : List Int} (ha : Small a) (hb : Small b) (na : a ≠ []) (nb : b ≠ []) (h : listL a = listL b) : a = b := by
  rw [← vals_list ha na, h, vals_list hb nb]
theorem rd_inj {l : List UInt8} {ss ls vs ss' ls' vs' : List Int} (h : IsRd l ss ls vs) (h' : IsRd l ss' ls' vs') : ss = ss' ∧ ls = ls' ∧ vs = vs' := by
  have e := (rd_spl h).symm.trans (rd_spl h')
  injection e with e1 e
  injection e with e2 e
  injection e with e3 _
  have ⟨a, b, c⟩ := rd_parts h.1
  have ⟨a', b', c'⟩ := rd_parts h'.1
  have ⟨s, t, u⟩ := tab_small h.1
  have ⟨s', t', u'⟩ := tab_small h'.1
  exact ⟨list_inj s s' a a' e1, list_inj t t' b b' e2, list_inj u u' c c' e3⟩
theorem tab_text {s : ByteArray} {ss ls vs : List Int} (h : IsRd s.data.toList ss ls vs) : tabS ss ls vs = s := by
  unfold tabS
  rw [if_pos h.1, ← h.2]
theorem tab_back {s : ByteArray} {ss ls vs : List Int} (h : tabS ss ls vs = s) (hs : s.data.toList ≠ []) : IsRd s.data.toList ss ls vs := by
  unfold tabS at h
  split at h
  · next ht => exact ⟨ht, by rw [← h]⟩
  · rw [← h] at hs
    exact absurd rfl hs
/-- A table of the call's own, and whether there is one. -/
def NewR (ss ls vs : List Int) (c : Bool) (w : World) (e : Ending) (w' : World) : Prop :=
  ∃ u0 u1 u2 : Value, e = .returned (.tuple #[.agg #[u0, u1, u2], .bool c]) ∧ Tab3 w' w.heap.size u0 u1 u2 ss ls vs ∧ Below w.heap.size w w'
/-- What ReadTable answers. -/
def ReadT (l : List UInt8) (w : World) (e : Ending) (w' : World) : Prop := (∃ ss ls vs, IsRd l ss ls vs ∧ NewR ss ls vs true w e w') ∨ ((∀ ss ls vs, ¬ IsRd l ss ls vs) ∧ NewR [] [] [] false w e w')
theorem readT_yes {l : List UInt8} {w w' : World} {e : Ending} {ss ls vs : List Int} (h : ReadT l w e w') (hr : IsRd l ss ls vs) : NewR ss ls vs true w e w' := by
  rcases h with ⟨a, b, c, h1, h2⟩ | ⟨h1, _⟩
  · obtain ⟨rfl, rfl, rfl⟩ := rd_inj h1 hr
    exact h2
  · exact absurd hr (h1 _ _ _)
theorem readT_no {l : List UInt8} {w w' : World} {e : Ending} (h : ReadT l w e w') (hr : ∀ ss ls vs, ¬ IsRd l ss ls vs) : NewR [] [] [] false w e w' := by
  rcases h with ⟨a, b, c, h1, h2⟩ | ⟨_, h⟩
  · exact absurd h1 (hr _ _ _)
  · exact h
theorem b_eq {a b : ByteArray} (h : (!a.toList == b.toList) = false) : a = b := by
  have h1 : a.toList = b.toList := by simpa using h
  rw [ByteArray.toList_eq, ByteArray.toList_eq] at h1
  exact ByteArray.ext (Array.toList_inj.mp h1)
theorem b_ne {a b : ByteArray} (h : (!a.toList == b.toList) = true) : a ≠ b := by
  intro e
  rw [e] at h
  simp at h
theorem tab_emptyR (w : World) (B : Nat) : Tab3 w B (.slice none 0 0) (.slice none 0 0) (.slice none 0 0) [] [] [] := by
  have hb : Apart (.slice none 0 0) (.slice none 0 0) := fun g h => by obtain ⟨o, n, c, e, _⟩ := h; cases e
  exact ⟨own_empty _ _ _ _, own_empty _ _ _ _, own_empty _ _ _ _, hb, hb, hb⟩
/-- A result's block of three cells, not yet written. -/
def Res3R (w : World) (q : Nat) : Prop := ∀ j, j < 3 → (∃ u, w.cell? ⟨q, j, none⟩ = some u) ∧ w.frozen? ⟨q, j, none⟩ = false
theorem Res3R.keep {w w' : World} {q : Nat} (h : Res3R w q) (hb : Below w.heap.size w w') : Res3R w' q := fun j hj => by
  obtain ⟨⟨u, hu⟩, hf⟩ := h j hj
  exact ⟨⟨u, cell_keep hu hb⟩, by rw [hb.frozen (by exact cell_lt hu)]; exact hf⟩
theorem res_newR (w : World) (a b c : Value) (t : TypeId) : Res3R (w.alloc (.cells #[a, b, c] t)) w.heap.size := fun j hj => by
  rcases j with _ | _ | _ | j <;> first | omega | exact ⟨⟨_, by simp [go_sem]; rfl⟩, by simp [go_sem]⟩
theorem OwnS.set_ne {w : World} {B : Nat} {v : Value} {xs : List Int} {p : Addr} (h : OwnS w B v xs) (hp : ∀ g, Blk v g → g ≠ p.block) (u : Value) : OwnS (w.setCell p u) B v xs := by
  obtain ⟨h0, a, cap, rfl, h⟩ := h
  refine ⟨h0, a, cap, rfl, fun hp' => ?_⟩
  obtain ⟨g, rfl, hB, hg, hx⟩ := h hp'
  refine ⟨g, rfl, hB, by simpa [World.setCell] using hg, fun i hi => ⟨?_, by simpa using (hx i hi).2⟩⟩
  rw [World.cell?_setCell_other _ _ _ _ (fun hc => hp g ⟨0, _, _, rfl, hp'⟩ (by have := congrArg Addr.block hc; simpa using this.symm))]
  exact (hx i hi).1
theorem tabT_at (u0 u1 u2 : Value) (xs0 xs1 xs2 : List Int) (B : Nat) (W : World) (a0 : OwnS W B u0 xs0) (a1 : OwnS W B u1 xs1) (a2 : OwnS W B u2 xs2) :
    Calls Tryd.prog 31 #[.agg #[u0, u1, u2]] W fun e w' => e = .returned (.string (tabS xs0 xs1 xs2)) ∧ Below W.heap.size W w' ∧ OwnS w' B u0 xs0 ∧ OwnS w' B u1 xs1 ∧ OwnS w' B u2 xs2 := by
  refine (specTabT_any u0 u1 u2 xs0 xs1 xs2 W a0.ints a1.ints a2.ints).mono ?_
  rintro e w' ⟨rfl, hb⟩
  exact ⟨rfl, hb, a0.keep hb, a1.keep hb, a2.keep hb⟩
set_option maxHeartbeats 4000000 in
set_option maxRecDepth 100000 in
theorem specReadT_any (s : ByteArray) (w : World) (hs : s.size ≤ 1048576) : Calls Tryd.prog 13 #[.string s] w (ReadT s.data.toList w) := by
  have HC := Lib.hid (fun (w1 : World) => split_any s 124 w1 hs)
  have hl := sz s
  go_enter Tryd.func13, Tryd.ntmps13
  go_wp2_with fail
  go_at_call 29
  refine (HC.out _).mono ?_
  rintro e w1 ⟨uv, us, rfl, hU, hmap, hb⟩
  have hb1 : Below w.heap.size w w1 := by (repeat (first | (with_reducible exact Below.refl _ _) | (with_reducible assumption) | (with_reducible refine ext_alloc ?_ _) | (with_reducible refine ext_drew ?_) | (with_reducible refine ext_drewN ?_ _) | (with_reducible refine ext_set ?_ (by first | exact Nat.le_refl _ | (simp; done) | (simp; omega) | omega) _) | (with_reducible refine ext_trans ?_ (by assumption))))
  have hgt : w.heap.size < w1.heap.size := by have := hb.size; simp at this; omega
  obtain ⟨ua, uc, rfl, hx⟩ := hU.out
  have HR0 := Lib.hid (show Res3R w1 w.heap.size from (res_newR w _ _ _ _).keep hb)
  by_cases h3 : us.length = 3
  · have hsm : ∀ u ∈ us, u.size ≤ 1048576 := by
      intro u hu
      have h1 : u.data.toList ∈ spl 124 s.data.toList := by rw [← hmap]; exact List.mem_map_of_mem hu
      have := spl_sz 124 _ _ h1
      rw [sz, sz] at this
      omega
    obtain ⟨U0, U1, U2, rfl⟩ : ∃ U0 U1 U2, us = [U0, U1, U2] := by
      rcases us with _ | ⟨a, _ | ⟨b, _ | ⟨c, _ | ⟨d, r⟩⟩⟩⟩ <;> simp at h3
      exact ⟨a, b, c, rfl⟩
    have s0 := hsm U0 (by simp)
    have s1 := hsm U1 (by simp)
    have s2 := hsm U2 (by simp)
    obtain ⟨g, rfl, hg, hx⟩ := hx (by simp)
    have x0 : w1.cell? ⟨g, 0, none⟩ = some (.string U0) := hx 0 (by simp)
    have x1 : w1.cell? ⟨g, 1, none⟩ = some (.string U1) := hx 1 (by simp)
    have x2 : w1.cell? ⟨g, 2, none⟩ = some (.string U2) := hx 2 (by simp)
    have HS := Lib.hid (show spl 124 s.data.toList = [U0.data.toList, U1.data.toList, U2.data.toList] by rw [← hmap]; rfl)
    obtain ⟨L0, hL0⟩ : ∃ L0, L0 + 1 = w1.heap.size := ⟨w1.heap.size - 1, by omega⟩
    have B1 : Below w1.heap.size w1 w1 := Below.refl _ _
    clear hx hmap HC hU hb hsm h3
    go_upto_region 4 with fail
    go_region_held3 (fun w' => w'.cell? ⟨g, 0, none⟩ = some (.string U0) ∧ w'.cell? ⟨g, 1, none⟩ = some (.string U1) ∧ w'.cell? ⟨g, 2, none⟩ = some (.string U2) ∧ Below w1.heap.size w1 w' ∧ L0 < w'.heap.size) (first | exact (Hid.out (by assumption)) | exact keep3 (Hid.out (by assumption)) ((Below.refl _ _).alloc (Nat.le_refl _) _) | exact keep3s (keep3s (Hid.out (by assumption)) (by first | assumption | (simp; done) | (simp; omega) | omega) (by first | assumption | (simp; done) | (simp; omega) | omega) (by first | assumption | (simp; done) | (simp; omega) | omega) (by first | assumption | (simp; done) | (simp; omega) | omega) (by first | assumption | (simp; done) | (simp; omega) | omega)) (by first | assumption | (simp; done) | (simp; omega) | omega) (by first | assumption | (simp; done) | (simp; omega) | omega) (by first | assumption | (simp; done) | (simp; omega) | omega) (by first | assumption | (simp; done) | (simp; omega) | omega) (by first | assumption | (simp; done) | (simp; omega) | omega) | exact keep3s (Hid.out (by assumption)) (by first | assumption | (simp; done) | (simp; omega) | omega) (by first | assumption | (simp; done) | (simp; omega) | omega) (by first | assumption | (simp; done) | (simp; omega) | omega) (by first | assumption | (simp; done) | (simp; omega) | omega) (by first | assumption | (simp; done) | (simp; omega) | omega) | ((repeat' apply And.intro) <;> first | assumption | ((repeat (first | (with_reducible exact Below.refl _ _) | (with_reducible assumption) | (with_reducible refine ext_alloc ?_ _) | (with_reducible refine ext_drew ?_) | (with_reducible refine ext_drewN ?_ _) | (with_reducible refine ext_set ?_ (by first | exact Nat.le_refl _ | (simp; done) | (simp; omega) | omega) _) | (with_reducible refine ext_trans ?_ (by assumption)))); done) | (simp [go_sem]; done) | (simp [go_sem, *]; done) | (simp; omega) | omega)) (first | ((go_at_call 30; (with_reducible refine (specRead_any U0 _ (by assumption)).mono ?_); rintro e wn0 ⟨u0, xs0, rfl, hu0, hq0, hb⟩; (try (have A01 := (apart_of F1.out hu0 (by first | exact Nat.le_refl _ | (simp; done) | (simp; omega) | omega)).symm)); (try (have A02 := (apart_of F2.out hu0 (by first | exact Nat.le_refl _ | (simp; done) | (simp; omega) | omega)).symm)); (try (have G1 := Lib.hid (OwnS.keep F1.out (by (repeat (first | (with_reducible exact Below.refl _ _) | (with_reducible assumption) | (with_reducible refine ext_alloc ?_ _) | (with_reducible refine ext_drew ?_) | (with_reducible refine ext_drewN ?_ _) | (with_reducible refine ext_set ?_ (by first | exact Nat.le_refl _ | (simp; done) | (simp; omega) | omega) _) | (with_reducible refine ext_trans ?_ (by assumption))))) : OwnS wn0 _ _ _); clear F1; have F1 := G1; clear G1)); (try (have G2 := Lib.hid (OwnS.keep F2.out (by (repeat (first | (with_reducible exact Below.refl _ _) | (with_reducible assumption) | (with_reducible refine ext_alloc ?_ _) | (with_reducible refine ext_drew ?_) | (with_reducible refine ext_drewN ?_ _) | (with_reducible refine ext_set ?_ (by first | exact Nat.le_refl _ | (simp; done) | (simp; omega) | omega) _) | (with_reducible refine ext_trans ?_ (by assumption))))) : OwnS wn0 _ _ _); clear F2; have F2 := G2; clear G2)); have BL0 := Lib.hid (fun g (hg : Blk u0 g) => hu0.blk hg); have F0 := Lib.hid hu0; have Q0 := Lib.hid hq0; obtain ⟨_, p0, q0, rfl, _⟩ := hu0; clear hq0; obtain ⟨hc, hf⟩ := bcell hb; have hz := hb.size; (try simp at hz); (try (have hz := Nat.lt_of_succ_le hz)); (try (have zb : w1.heap.size < wn0.heap.size := by omega))); have hS := Lib.hid (keep3 (by assumption) hb); have zL := (Hid.out hS).2.2.2.2) | ((go_at_call 30; (with_reducible refine (specRead_any U1 _ (by assumption)).mono ?_); rintro e wn1 ⟨u1, xs1, rfl, hu1, hq1, hb⟩; (try (have A01 := apart_of F0.out hu1 (by first | exact Nat.le_refl _ | (simp; done) | (simp; omega) | omega))); (try (have A12 := (apart_of F2.out hu1 (by first | exact Nat.le_refl _ | (simp; done) | (simp; omega) | omega)).symm)); (try (have G0 := Lib.hid (OwnS.keep F0.out (by (repeat (first | (with_reducible exact Below.refl _ _) | (with_reducible assumption) | (with_reducible refine ext_alloc ?_ _) | (with_reducible refine ext_drew ?_) | (with_reducible refine ext_drewN ?_ _) | (with_reducible refine ext_set ?_ (by first | exact Nat.le_refl _ | (simp; done) | (simp; omega) | omega) _) | (with_reducible refine ext_trans ?_ (by assumption))))) : OwnS wn1 _ _ _); clear F0; have F0 := G0; clear G0)); (try (have G2 := Lib.hid (OwnS.keep F2.out (by (repeat (first | (with_reducible exact Below.refl _ _) | (with_reducible assumption) | (with_reducible refine ext_alloc ?_ _) | (with_reducible refine ext_drew ?_) | (with_reducible refine ext_drewN ?_ _) | (with_reducible refine ext_set ?_ (by first | exact Nat.le_refl _ | (simp; done) | (simp; omega) | omega) _) | (with_reducible refine ext_trans ?_ (by assumption))))) : OwnS wn1 _ _ _); clear F2; have F2 := G2; clear G2)); have BL1 := Lib.hid (fun g (hg : Blk u1 g) => hu1.blk hg); have F1 := Lib.hid hu1; have Q1 := Lib.hid hq1; obtain ⟨_, p1, q1, rfl, _⟩ := hu1; clear hq1; obtain ⟨hc, hf⟩ := bcell hb; have hz := hb.size; (try simp at hz); (try (have hz := Nat.lt_of_succ_le hz)); (try (have zb : w1.heap.size < wn1.heap.size := by omega)); (try (have zc0 : wn0.heap.size < wn1.heap.size := by omega))); have hS := Lib.hid (keep3 (by assumption) hb); have zL := (Hid.out hS).2.2.2.2) | ((go_at_call 30; (with_reducible refine (specRead_any U2 _ (by assumption)).mono ?_); rintro e wn2 ⟨u2, xs2, rfl, hu2, hq2, hb⟩; (try (have A02 := apart_of F0.out hu2 (by first | exact Nat.le_refl _ | (simp; done) | (simp; omega) | omega))); (try (have A12 := apart_of F1.out hu2 (by first | exact Nat.le_refl _ | (simp; done) | (simp; omega) | omega))); (try (have G0 := Lib.hid (OwnS.keep F0.out (by (repeat (first | (with_reducible exact Below.refl _ _) | (with_reducible assumption) | (with_reducible refine ext_alloc ?_ _) | (with_reducible refine ext_drew ?_) | (with_reducible refine ext_drewN ?_ _) | (with_reducible refine ext_set ?_ (by first | exact Nat.le_refl _ | (simp; done) | (simp; omega) | omega) _) | (with_reducible refine ext_trans ?_ (by assumption))))) : OwnS wn2 _ _ _); clear F0; have F0 := G0; clear G0)); (try (have G1 := Lib.hid (OwnS.keep F1.out (by (repeat (first | (with_reducible exact Below.refl _ _) | (with_reducible assumption) | (with_reducible refine ext_alloc ?_ _) | (with_reducible refine ext_drew ?_) | (with_reducible refine ext_drewN ?_ _) | (with_reducible refine ext_set ?_ (by first | exact Nat.le_refl _ | (simp; done) | (simp; omega) | omega) _) | (with_reducible refine ext_trans ?_ (by assumption))))) : OwnS wn2 _ _ _); clear F1; have F1 := G1; clear G1)); have BL2 := Lib.hid (fun g (hg : Blk u2 g) => hu2.blk hg); have F2 := Lib.hid hu2; have Q2 := Lib.hid hq2; obtain ⟨_, p2, q2, rfl, _⟩ := hu2; clear hq2; obtain ⟨hc, hf⟩ := bcell hb; have hz := hb.size; (try simp at hz); (try (have hz := Nat.lt_of_succ_le hz)); (try (have zb : w1.heap.size < wn2.heap.size := by omega)); (try (have zc0 : wn0.heap.size < wn2.heap.size := by omega)); (try (have zc1 : wn1.heap.size < wn2.heap.size := by omega))); have hS := Lib.hid (keep3 (by assumption) hb); have zL := (Hid.out hS).2.2.2.2))
    all_goals
      have m0 := OwnS.mono (C := w.heap.size + 1) F0.out (by first | omega | (simp; omega))
      have m1 := OwnS.mono (C := w.heap.size + 1) F1.out (by first | omega | (simp; omega))
      have m2 := OwnS.mono (C := w.heap.size + 1) F2.out (by first | omega | (simp; omega))
      go_wp2_with fail
      go_at_call 31
      refine (tabT_at (.slice p0 xs0.length q0) (.slice p1 xs1.length q1) (.slice p2 xs2.length q2) xs0 xs1 xs2 (w.heap.size + 1) _ (by repeat (first | (with_reducible assumption) | (with_reducible refine OwnS.alloc ?_ _) | (with_reducible refine OwnS.drew ?_) | (with_reducible refine OwnS.drewN ?_ _) | (with_reducible refine OwnS.set_ne ?_ (fun g hg e => by have hbl := BL0.out g hg; (try simp at hbl); (try simp at e); omega) _))) (by repeat (first | (with_reducible assumption) | (with_reducible refine OwnS.alloc ?_ _) | (with_reducible refine OwnS.drew ?_) | (with_reducible refine OwnS.drewN ?_ _) | (with_reducible refine OwnS.set_ne ?_ (fun g hg e => by have hbl := BL1.out g hg; (try simp at hbl); (try simp at e); omega) _))) (by repeat (first | (with_reducible assumption) | (with_reducible refine OwnS.alloc ?_ _) | (with_reducible refine OwnS.drew ?_) | (with_reducible refine OwnS.drewN ?_ _) | (with_reducible refine OwnS.set_ne ?_ (fun g hg e => by have hbl := BL2.out g hg; (try simp at hbl); (try simp at e); omega) _)))).mono ?_
      rintro e w5 ⟨rfl, hb, o0, o1, o2⟩
      obtain ⟨hc, hf⟩ := bcell hb
      have hz := hb.size
      (try simp at hz)
      have HRn := HR0.out.keep (show Below w1.heap.size w1 w5 by (repeat (first | (with_reducible exact Below.refl _ _) | (with_reducible assumption) | (with_reducible refine ext_alloc ?_ _) | (with_reducible refine ext_drew ?_) | (with_reducible refine ext_drewN ?_ _) | (with_reducible refine ext_set ?_ (by first | exact Nat.le_refl _ | (simp; done) | (simp; omega) | omega) _) | (with_reducible refine ext_trans ?_ (by assumption)))))
      have ⟨⟨v0, c0⟩, f0⟩ := HRn 0 (by omega)
      have ⟨⟨v1, c1⟩, f1⟩ := HRn 1 (by omega)
      have ⟨⟨v2, c2⟩, f2⟩ := HRn 2 (by omega)
      clear HRn
      have x5 : Below w.heap.size w w5 := hb1.trans (Below.mono (show Below w1.heap.size w1 w5 by (repeat (first | (with_reducible exact Below.refl _ _) | (with_reducible assumption) | (with_reducible refine ext_alloc ?_ _) | (with_reducible refine ext_drew ?_) | (with_reducible refine ext_drewN ?_ _) | (with_reducible refine ext_set ?_ (by first | exact Nat.le_refl _ | (simp; done) | (simp; omega) | omega) _) | (with_reducible refine ext_trans ?_ (by assumption))))) (by omega))
      go_wp2_with fail
      · have hq : (!(tabS xs0 xs1 xs2).toList == s.toList) = true := by assumption
        refine bodyPost_ret (v := .tuple #[.agg #[.slice none 0 0, .slice none 0 0, .slice none 0 0], .bool false]) (by simp [results, Tryd.results13, go_sem, *]) rfl (.inr ⟨fun a b c h => ?_, _, _, _, rfl, tab_emptyR _ _, by (repeat (first | (with_reducible exact Below.refl _ _) | (with_reducible assumption) | (with_reducible refine ext_alloc ?_ _) | (with_reducible refine ext_drew ?_) | (with_reducible refine ext_drewN ?_ _) | (with_reducible refine ext_set ?_ (by first | exact Nat.le_refl _ | (simp; done) | (simp; omega) | omega) _) | (with_reducible refine ext_trans ?_ (by assumption))))⟩)
        have e1 := HS.out.symm.trans (rd_spl h)
        injection e1 with e1 e2
        injection e2 with e2 e3
        injection e3 with e3 _
        have ⟨na, nb, nc⟩ := rd_parts h.1
        have ⟨sa, sb, sc⟩ := tab_small h.1
        have h0 := Q0.out a na sa e1
        have h1 := Q1.out b nb sb e2
        have h2 := Q2.out c nc sc e3
        subst h0 h1 h2
        exact b_ne hq (tab_text h)
      · have hq : (!(tabS xs0 xs1 xs2).toList == s.toList) = false := by assumption
        have HI := tab_back (b_eq hq) (fun e => by have := HS.out; rw [e] at this; simp [spl] at this)
        refine bodyPost_ret (v := .tuple #[.agg #[.slice p0 xs0.length q0, .slice p1 xs1.length q1, .slice p2 xs2.length q2], .bool true]) (by simp [results, Tryd.results13, go_sem, *]) rfl (.inl ⟨xs0, xs1, xs2, HI, _, _, _, rfl, ⟨OwnS.mono (B := w.heap.size + 1) (by (repeat (first | (with_reducible assumption) | (with_reducible refine OwnS.alloc ?_ _) | (with_reducible refine OwnS.drew ?_) | (with_reducible refine OwnS.drewN ?_ _) | (with_reducible refine OwnS.set ?_ (by first | omega | (simp; omega) | simp) _) | (with_reducible refine OwnS.keep ?_ (by assumption))))) (by omega), OwnS.mono (B := w.heap.size + 1) (by (repeat (first | (with_reducible assumption) | (with_reducible refine OwnS.alloc ?_ _) | (with_reducible refine OwnS.drew ?_) | (with_reducible refine OwnS.drewN ?_ _) | (with_reducible refine OwnS.set ?_ (by first | omega | (simp; omega) | simp) _) | (with_reducible refine OwnS.keep ?_ (by assumption))))) (by omega), OwnS.mono (B := w.heap.size + 1) (by (repeat (first | (with_reducible assumption) | (with_reducible refine OwnS.alloc ?_ _) | (with_reducible refine OwnS.drew ?_) | (with_reducible refine OwnS.drewN ?_ _) | (with_reducible refine OwnS.set ?_ (by first | omega | (simp; omega) | simp) _) | (with_reducible refine OwnS.keep ?_ (by assumption))))) (by omega), A01, A02, A12⟩, by (repeat (first | (with_reducible exact Below.refl _ _) | (with_reducible assumption) | (with_reducible refine ext_alloc ?_ _) | (with_reducible refine ext_drew ?_) | (with_reducible refine ext_drewN ?_ _) | (with_reducible refine ext_set ?_ (by first | exact Nat.le_refl _ | (simp; done) | (simp; omega) | omega) _) | (with_reducible refine ext_trans ?_ (by assumption))))⟩)
  · have h3I : ¬ (us.length : Int) = 3 := by omega
    have HNo := Lib.hid (fun ss ls vs (h : IsRd s.data.toList ss ls vs) => (show False from by
      have e1 := congrArg List.length (hmap.trans (rd_spl h))
      simp at e1
      omega))
    clear hx hmap HC hl hU hb
    have ⟨⟨v0, c0⟩, f0⟩ := HR0.out 0 (by omega)
    have ⟨⟨v1, c1⟩, f1⟩ := HR0.out 1 (by omega)
    have ⟨⟨v2, c2⟩, f2⟩ := HR0.out 2 (by omega)
    go_wp2_with fail
    exact bodyPost_ret (v := .tuple #[.agg #[.slice none 0 0, .slice none 0 0, .slice none 0 0], .bool false]) (by simp [results, Tryd.results13, go_sem, *]) rfl (.inr ⟨fun a b c h => HNo.out a b c h, _, _, _, rfl, tab_emptyR _ _, by (repeat (first | (with_reducible exact Below.refl _ _) | (with_reducible assumption) | (with_reducible refine ext_alloc ?_ _) | (with_reducible refine ext_drew ?_) | (with_reducible refine ext_drewN ?_ _) | (with_reducible refine ext_set ?_ (by first | exact Nat.le_refl _ | (simp; done) | (simp; omega) | omega) _) | (with_reducible refine ext_trans ?_ (by assumption))))⟩)
end Go.Proofs.YtckccpcigkbfmaaDoor
