/-
The model's l01Number for numbers of at most twelve digits, and its l01Value: the number whose text a string is.
-/
import Derived.Test.YtmoolajapgacmaaGreatDoorRead
import Derived.Test.YtmoolajapgacmaaGreatDoorParse
namespace Go.Proofs.YtmoolajapgacmaaGreatDoor
open Go.ChangeShapes Go.WideShapes Go.ChangeAt Go.RowKit
set_option linter.unusedVariables false
set_option linter.unusedSimpArgs false
theorem nd_le : ∀ (k u : Nat), u < 10 ^ (k + 1) → Lib.nDigits u ≤ k + 1
  | 0, u, h => by rw [Lib.nDigits_small (by omega)]; omega
  | k + 1, u, h => by
    by_cases hu : u < 10
    · rw [Lib.nDigits_small hu]; omega
    · rw [Lib.nDigits_big hu]
      have := nd_le k (u / 10) (by rw [Nat.pow_succ] at h; omega)
      omega
theorem dec_len12 (u : Nat) (h : u ≤ 999999999999) : (Lib.decDigits u).length ≤ 12 := by
  rw [Lib.decDigits_length]
  exact nd_le 11 u (by omega)
theorem dec_pos1 (u : Nat) : 1 ≤ (Lib.decDigits u).length := by rw [Lib.decDigits_length]; exact Lib.nDigits_pos u
theorem number_itoa12 (n : Int) (w : World) (h0 : -999999999999 ≤ n) (h1 : n ≤ 999999999999) : Calls Tryz.prog 106 #[.int .i64 n] w fun e w' => e = .returned (.string ⟨(Lib.itoa n).toArray⟩) ∧ Below w.heap.size w w' := by
  by_cases h : n < 0
  · obtain ⟨u, rfl⟩ : ∃ u : Int, n = -u := ⟨-n, by omega⟩
    have HI := Lib.hid (show Lib.itoa (-u) = [45] ++ Lib.decDigits u.toNat by
      unfold Lib.itoa
      rw [if_pos h, show (-u).natAbs = u.toNat by omega]
      rfl)
    have hl := dec_len12 u.toNat (by omega)
    have hl3 : ¬ 9223372036854775807 < 1 + (Lib.decDigits u.toNat).length := by omega
    have hl4 : ¬ (9223372036854775807 : Int) < 1 + ((Lib.decDigits u.toNat).length : Int) := by omega
    go_enter Tryz.func106, Tryz.ntmps106
    go_wp2_with (go_at_call 106; refine (number_any (u.toNat + 1) u _ (by omega) (by omega) (by omega)).mono ?_; rintro e w1 ⟨rfl, hb⟩)
    go_ret
    rw [HI.out, ← ba_app]
    exact ⟨rfl, by (repeat (first | (with_reducible exact Below.refl _ _) | (with_reducible assumption) | (with_reducible refine ext_alloc ?_ _) | (with_reducible refine ext_drew ?_) | (with_reducible refine ext_drewN ?_ _) | (with_reducible refine ext_set ?_ (by first | exact Nat.le_refl _ | (simp; done) | (simp; omega) | omega) _) | (with_reducible refine ext_trans ?_ (by assumption))))⟩
  · have h2 := number_any (n.toNat + 1) n w (by omega) (by omega) (by omega)
    rwa [itoa_nat n (by omega)]
/-- The digits of a text, and whether a sign stands ahead of them. -/
def DigOf (l d : List UInt8) (neg : Bool) : Prop := (neg = true ∧ l = 45 :: d) ∨ (neg = false ∧ l = d ∧ l.head? ≠ some 45)
theorem dig_of {l d : List UInt8} {neg : Bool} (h : DigOf l d neg) {m : Int} (e : Lib.itoa m = l) : d = Lib.decDigits m.natAbs ∧ m = (if neg then -(m.natAbs : Int) else (m.natAbs : Int)) := by
  unfold Lib.itoa at e
  by_cases hm : m < 0
  · rw [if_pos hm] at e
    rcases h with ⟨rfl, rfl⟩ | ⟨rfl, rfl, h⟩
    · injection e with e1 e2
      exact ⟨e2.symm, by simp; omega⟩
    · rw [← e] at h
      simp at h
  · rw [if_neg hm] at e
    obtain ⟨c, r, hc, hn⟩ := dec_head m.toNat
    rcases h with ⟨rfl, rfl⟩ | ⟨rfl, rfl, h⟩
    · rw [hc] at e
      injection e with e1 e2
      exact absurd e1 hn
    · refine ⟨by rw [← e, show m.natAbs = m.toNat by omega], by simp; omega⟩
def In12 (m : Int) : Prop := -999999999999 ≤ m ∧ m ≤ 999999999999
/-- What a reader of a number answers: the number whose text it is, if there is one. -/
def ValueR (l : List UInt8) (e : Ending) : Prop := ∃ (n : Int) (b : Bool), e = .returned (.tuple #[.int .i64 n, .bool b]) ∧ (b = true → Lib.itoa n = l ∧ In12 n) ∧ ∀ m, In12 m → Lib.itoa m = l → b = true ∧ n = m
theorem val_none {l d : List UInt8} {neg : Bool} (h : DigOf l d neg) (hd : d.length < 1 ∨ 12 < d.length ∨ ∃ c ∈ d, ¬ isD c) : ValueR l (.returned (.tuple #[.int .i64 0, .bool false])) := by
  refine ⟨0, false, rfl, by simp, fun m hm e => ?_⟩
  exfalso
  obtain ⟨rfl, _⟩ := dig_of h e
  have a := dec_pos1 m.natAbs
  have b := dec_len12 m.natAbs (by have := hm.1; have := hm.2; omega)
  rcases hd with hd | hd | ⟨c, hc, hn⟩
  · omega
  · omega
  · exact hn (dec_dig _ c hc)
theorem val_end {s : ByteArray} {d : List UInt8} {neg : Bool} (h : DigOf s.data.toList d neg) (hd : ∀ c ∈ d, isD c) (h12 : d.length ≤ 12) {n : Int} (hn : n = if neg then -(dval d : Int) else (dval d : Int)) {b : Bool}
    (hb : b = (Lib.itoa n == s.toList)) : ValueR s.data.toList (.returned (.tuple #[.int .i64 n, .bool b])) := by
  have hlt := dval_lt d hd
  have hp : 10 ^ d.length ≤ 10 ^ 12 := Nat.pow_le_pow_right (by omega) h12
  have hin : In12 n := by
    unfold In12
    rw [hn]
    split <;> omega
  refine ⟨n, b, rfl, fun hbt => ⟨?_, hin⟩, fun m hm e => ?_⟩
  · rw [hb, ByteArray.toList_eq] at hbt
    simpa using hbt
  · obtain ⟨hdd, hmm⟩ := dig_of h e
    have hv : dval d = m.natAbs := by rw [hdd, dec_val]
    have hnm : n = m := by rw [hn, hv]; exact hmm.symm
    refine ⟨?_, hnm⟩
    rw [hb, hnm, e, ByteArray.toList_eq]
    simp
theorem dig_neg {s : ByteArray} (h0 : 0 < s.size) (h1 : s[0] = 45) : DigOf s.data.toList (s.extract 1 s.size).data.toList true := by
  have hl := sz s
  refine .inl ⟨rfl, ?_⟩
  rw [ByteArray.data_extract, Array.toList_extract]
  have e : s.data.toList[0]'(by omega) = 45 := h1
  have h2 := List.drop_eq_getElem_cons (l := s.data.toList) (i := 0) (by omega)
  rw [List.drop_zero, e] at h2
  rw [h2]
  simp [List.extract]
  exact (List.take_of_length_le (by rw [List.length_tail]; omega)).symm
theorem dig_pos {s : ByteArray} (h : ∀ h0 : 0 < s.size, s[0] ≠ 45) : DigOf s.data.toList s.data.toList false := by
  have hl := sz s
  refine .inr ⟨rfl, rfl, fun e => ?_⟩
  have h0 : 0 < s.size := by
    rw [← hl]
    cases hx : s.data.toList with
    | nil => simp [hx] at e
    | cons a r => simp
  refine h h0 ?_
  have : s.data.toList[0]? = some 45 := by rw [← List.head?_eq_getElem?]; exact e
  rw [List.getElem?_eq_getElem (by omega)] at this
  exact Option.some.inj this
theorem ba_size (s : ByteArray) : s.data.toList.length = s.size := sz s
def ValueE (l : List UInt8) (w : World) (e : Ending) (w' : World) : Prop := ValueR l e ∧ Below w.heap.size w w'
set_option maxHeartbeats 4000000 in
set_option maxRecDepth 100000 in
theorem value_any (s : ByteArray) (w : World) (hs : s.size ≤ 1048576) : Calls Tryz.prog 207 #[.string s] w (ValueE s.data.toList w) := by
  by_cases hneg : ∃ h0 : 0 < s.size, s[0] = 45
  · obtain ⟨h0, h1⟩ := hneg
    have q : ((s[0].toNat : Int) == 45) = true := by rw [h1]; rfl
    have hdig := dig_neg h0 h1
    have hds : (s.extract 1 s.size).size = s.size - 1 := by simp
    have hlt : ((s.extract 1 s.size).size : Int) < (s.size : Int) := by omega
    have q1 : (1 : Int) ≤ (s.size : Int) := by omega
    have q0 : (0 : Int) < (s.size : Int) := by omega
    obtain ⟨dg, hdg⟩ : ∃ dg, s.extract 1 s.size = dg := ⟨_, rfl⟩
    rw [hdg] at hdig hlt hds
    clear h1
    have HG := Lib.hid hdig
    clear hdig
    by_cases hs1 : dg.size < 1
    · have hS1 : ((dg.size : Int) < 1) := by omega
      have HB := Lib.hid (val_none HG.out (.inl (by rw [sz]; omega)))
      go_enter Tryz.func207, Tryz.ntmps207
      go_wp2_with fail
      go_ret2
      exact ⟨HB.out, by (repeat (first | (with_reducible exact Below.refl _ _) | (with_reducible assumption) | (with_reducible refine ext_alloc ?_ _) | (with_reducible refine ext_drew ?_) | (with_reducible refine ext_drewN ?_ _) | (with_reducible refine ext_set ?_ (by first | exact Nat.le_refl _ | (simp; done) | (simp; omega) | omega) _) | (with_reducible refine ext_trans ?_ (by assumption))))⟩
    have hS1 : ¬ ((dg.size : Int) < 1) := by omega
    by_cases hs12 : 12 < dg.size
    · have hS12 : ((12 : Int) < (dg.size : Int)) := by omega
      have HB := Lib.hid (val_none HG.out (.inr (.inl (by rw [sz]; omega))))
      go_enter Tryz.func207, Tryz.ntmps207
      go_wp2_with fail
      go_ret2
      exact ⟨HB.out, by (repeat (first | (with_reducible exact Below.refl _ _) | (with_reducible assumption) | (with_reducible refine ext_alloc ?_ _) | (with_reducible refine ext_drew ?_) | (with_reducible refine ext_drewN ?_ _) | (with_reducible refine ext_set ?_ (by first | exact Nat.le_refl _ | (simp; done) | (simp; omega) | omega) _) | (with_reducible refine ext_trans ?_ (by assumption))))⟩
    have hS12 : ¬ ((12 : Int) < (dg.size : Int)) := by omega
    obtain ⟨D, hD⟩ : ∃ D, D = dg.data.toList := ⟨_, rfl⟩
    have hDl : D.length = dg.size := by rw [hD]; exact sz _
    have HG2 := Lib.hid (show DigOf s.data.toList D true by rw [hD]; exact HG.out)
    clear HG
    have HG := HG2
    clear HG2
    go_enter Tryz.func207, Tryz.ntmps207
    go_wp2_with fail
    go_loop [5, 6] (fun nn i => ∃ j : Nat, j ≤ dg.size ∧ i = .int .i64 j ∧ nn = .int .i64 (dval (D.take j) : Nat) ∧ Hid (∀ c ∈ D.take j, isD c) ∧ dval (D.take j) ≤ 999999999999) (fun _ i => dg.size - (intOf i).toNat)
    case atStart => exact ⟨0, by omega, rfl, rfl, Lib.hid (fun c hc => by simp at hc), by simp [dval]⟩
    case round =>
      obtain ⟨j, hj, rfl, rfl, hdg, hbd⟩ := hrel
      by_cases hjl : j < dg.size
      · have hjD : j < D.length := by omega
        have hgj : dg[j] = D[j] := by subst hD; rfl
        have htk : D.take (j + 1) = D.take j ++ [D[j]] := List.take_succ_eq_append_getElem hjD
        obtain ⟨x, hx⟩ : ∃ x, x = D[j] := ⟨_, rfl⟩
        rw [← hx] at hgj htk
        have HXm := Lib.hid (show x ∈ D by rw [hx]; exact List.getElem_mem hjD)
        clear hx
        by_cases d1 : 48 ≤ x.toNat
        · by_cases d2 : x.toNat ≤ 57
          · have hv : dval (D.take (j + 1)) = 10 * dval (D.take j) + (x.toNat - 48) := by rw [htk, dval_snoc]
            have hdg' : ∀ c ∈ D.take (j + 1), isD c := by
              rw [htk]
              intro c hc
              rw [List.mem_append] at hc
              rcases hc with hc | hc
              · exact hdg.out c hc
              · obtain rfl : c = x := by simpa using hc
                exact ⟨d1, d2⟩
            have hb1 : dval (D.take (j + 1)) ≤ 999999999999 := by
              have h1 := dval_lt _ hdg'
              have h2 : 10 ^ (D.take (j + 1)).length ≤ 10 ^ 12 := Nat.pow_le_pow_right (by omega) (by have := List.length_take_le (j + 1) D; omega)
              omega
            have HV := Lib.hid hv
            have HGG := Lib.hid hdg'
            have HB := Lib.hid hb1
            clear hv hdg' hb1 htk hDl hjD hD
            go_wp2_with fail
            go_round
            case rel => exact ⟨j + 1, by omega, by go_num, by rw [HV.out]; go_num, HGG, HB.out⟩
            case measure => simp [intOf]; omega
          · have HB := Lib.hid (val_none HG.out (.inr (.inr ⟨x, HXm.out, fun h => d2 h.2⟩)))
            clear htk hDl hjD hD
            go_wp2_with fail
            go_ret2
            exact ⟨HB.out, by (repeat (first | (with_reducible exact Below.refl _ _) | (with_reducible assumption) | (with_reducible refine ext_alloc ?_ _) | (with_reducible refine ext_drew ?_) | (with_reducible refine ext_drewN ?_ _) | (with_reducible refine ext_set ?_ (by first | exact Nat.le_refl _ | (simp; done) | (simp; omega) | omega) _) | (with_reducible refine ext_trans ?_ (by assumption))))⟩
        · have HB := Lib.hid (val_none HG.out (.inr (.inr ⟨x, HXm.out, fun h => d1 h.1⟩)))
          clear htk hDl hjD hD
          go_wp2_with fail
          go_ret2
          exact ⟨HB.out, by (repeat (first | (with_reducible exact Below.refl _ _) | (with_reducible assumption) | (with_reducible refine ext_alloc ?_ _) | (with_reducible refine ext_drew ?_) | (with_reducible refine ext_drewN ?_ _) | (with_reducible refine ext_set ?_ (by first | exact Nat.le_refl _ | (simp; done) | (simp; omega) | omega) _) | (with_reducible refine ext_trans ?_ (by assumption))))⟩
      · obtain rfl : j = dg.size := by omega
        rw [List.take_of_length_le (Nat.le_of_eq hDl)] at hdg hbd ⊢
        have HE := Lib.hid (fun b hb => val_end (b := b) HG.out hdg.out (by omega) (n := (-(dval D : Int))) (by simp) hb)
        have hnI := number_itoa12 (-(dval D : Int))
        clear hdg hD hDl
        go_wp2_with (go_at_call 106; refine (hnI _ (by omega) (by omega)).mono ?_; rintro e w1 ⟨rfl, hb⟩)
        go_ret2
        exact ⟨HE.out _ rfl, by (repeat (first | (with_reducible exact Below.refl _ _) | (with_reducible assumption) | (with_reducible refine ext_alloc ?_ _) | (with_reducible refine ext_drew ?_) | (with_reducible refine ext_drewN ?_ _) | (with_reducible refine ext_set ?_ (by first | exact Nat.le_refl _ | (simp; done) | (simp; omega) | omega) _) | (with_reducible refine ext_trans ?_ (by assumption))))⟩
  · have hdig := dig_pos (s := s) (fun h0 e => hneg ⟨h0, e⟩)
    by_cases hs0 : 0 < s.size
    · have hb0 : s[0] ≠ 45 := fun e => hneg ⟨hs0, e⟩
      have n1 : ¬ (s[0].toNat : Int) = 45 := fun e => hb0 (by rw [← UInt8.toNat_inj]; show s[0].toNat = 45; omega)
      have q : ((s[0].toNat : Int) == 45) = false := by simpa using n1
      clear hneg hb0 n1
      have HG := Lib.hid hdig
      clear hdig
      by_cases hs1 : s.size < 1
      · have hS1 : ((s.size : Int) < 1) := by omega
        have HB := Lib.hid (val_none HG.out (.inl (by rw [sz]; omega)))
        go_enter Tryz.func207, Tryz.ntmps207
        go_wp2_with fail
        go_ret2
        exact ⟨HB.out, by (repeat (first | (with_reducible exact Below.refl _ _) | (with_reducible assumption) | (with_reducible refine ext_alloc ?_ _) | (with_reducible refine ext_drew ?_) | (with_reducible refine ext_drewN ?_ _) | (with_reducible refine ext_set ?_ (by first | exact Nat.le_refl _ | (simp; done) | (simp; omega) | omega) _) | (with_reducible refine ext_trans ?_ (by assumption))))⟩
      have hS1 : ¬ ((s.size : Int) < 1) := by omega
      by_cases hs12 : 12 < s.size
      · have hS12 : ((12 : Int) < (s.size : Int)) := by omega
        have HB := Lib.hid (val_none HG.out (.inr (.inl (by rw [sz]; omega))))
        go_enter Tryz.func207, Tryz.ntmps207
        go_wp2_with fail
        go_ret2
        exact ⟨HB.out, by (repeat (first | (with_reducible exact Below.refl _ _) | (with_reducible assumption) | (with_reducible refine ext_alloc ?_ _) | (with_reducible refine ext_drew ?_) | (with_reducible refine ext_drewN ?_ _) | (with_reducible refine ext_set ?_ (by first | exact Nat.le_refl _ | (simp; done) | (simp; omega) | omega) _) | (with_reducible refine ext_trans ?_ (by assumption))))⟩
      have hS12 : ¬ ((12 : Int) < (s.size : Int)) := by omega
      obtain ⟨D, hD⟩ : ∃ D, D = s.data.toList := ⟨_, rfl⟩
      have hDl : D.length = s.size := by rw [hD]; exact sz _
      have HG2 := Lib.hid (show DigOf s.data.toList D false by rw [hD]; exact HG.out)
      clear HG
      have HG := HG2
      clear HG2
      go_enter Tryz.func207, Tryz.ntmps207
      go_wp2_with fail
      go_loop [5, 6] (fun nn i => ∃ j : Nat, j ≤ s.size ∧ i = .int .i64 j ∧ nn = .int .i64 (dval (D.take j) : Nat) ∧ Hid (∀ c ∈ D.take j, isD c) ∧ dval (D.take j) ≤ 999999999999) (fun _ i => s.size - (intOf i).toNat)
      case atStart => exact ⟨0, by omega, rfl, rfl, Lib.hid (fun c hc => by simp at hc), by simp [dval]⟩
      case round =>
        obtain ⟨j, hj, rfl, rfl, hdg, hbd⟩ := hrel
        by_cases hjl : j < s.size
        · have hjD : j < D.length := by omega
          have hgj : s[j] = D[j] := by subst hD; rfl
          have htk : D.take (j + 1) = D.take j ++ [D[j]] := List.take_succ_eq_append_getElem hjD
          obtain ⟨x, hx⟩ : ∃ x, x = D[j] := ⟨_, rfl⟩
          rw [← hx] at hgj htk
          have HXm := Lib.hid (show x ∈ D by rw [hx]; exact List.getElem_mem hjD)
          clear hx
          by_cases d1 : 48 ≤ x.toNat
          · by_cases d2 : x.toNat ≤ 57
            · have hv : dval (D.take (j + 1)) = 10 * dval (D.take j) + (x.toNat - 48) := by rw [htk, dval_snoc]
              have hdg' : ∀ c ∈ D.take (j + 1), isD c := by
                rw [htk]
                intro c hc
                rw [List.mem_append] at hc
                rcases hc with hc | hc
                · exact hdg.out c hc
                · obtain rfl : c = x := by simpa using hc
                  exact ⟨d1, d2⟩
              have hb1 : dval (D.take (j + 1)) ≤ 999999999999 := by
                have h1 := dval_lt _ hdg'
                have h2 : 10 ^ (D.take (j + 1)).length ≤ 10 ^ 12 := Nat.pow_le_pow_right (by omega) (by have := List.length_take_le (j + 1) D; omega)
                omega
              have HV := Lib.hid hv
              have HGG := Lib.hid hdg'
              have HB := Lib.hid hb1
              clear hv hdg' hb1 htk hDl hjD hD
              go_wp2_with fail
              go_round
              case rel => exact ⟨j + 1, by omega, by go_num, by rw [HV.out]; go_num, HGG, HB.out⟩
              case measure => simp [intOf]; omega
            · have HB := Lib.hid (val_none HG.out (.inr (.inr ⟨x, HXm.out, fun h => d2 h.2⟩)))
              clear htk hDl hjD hD
              go_wp2_with fail
              go_ret2
              exact ⟨HB.out, by (repeat (first | (with_reducible exact Below.refl _ _) | (with_reducible assumption) | (with_reducible refine ext_alloc ?_ _) | (with_reducible refine ext_drew ?_) | (with_reducible refine ext_drewN ?_ _) | (with_reducible refine ext_set ?_ (by first | exact Nat.le_refl _ | (simp; done) | (simp; omega) | omega) _) | (with_reducible refine ext_trans ?_ (by assumption))))⟩
          · have HB := Lib.hid (val_none HG.out (.inr (.inr ⟨x, HXm.out, fun h => d1 h.1⟩)))
            clear htk hDl hjD hD
            go_wp2_with fail
            go_ret2
            exact ⟨HB.out, by (repeat (first | (with_reducible exact Below.refl _ _) | (with_reducible assumption) | (with_reducible refine ext_alloc ?_ _) | (with_reducible refine ext_drew ?_) | (with_reducible refine ext_drewN ?_ _) | (with_reducible refine ext_set ?_ (by first | exact Nat.le_refl _ | (simp; done) | (simp; omega) | omega) _) | (with_reducible refine ext_trans ?_ (by assumption))))⟩
        · obtain rfl : j = s.size := by omega
          rw [List.take_of_length_le (Nat.le_of_eq hDl)] at hdg hbd ⊢
          have HE := Lib.hid (fun b hb => val_end (b := b) HG.out hdg.out (by omega) (n := (dval D : Int)) (by simp) hb)
          have hnI := number_itoa12 (dval D : Int)
          clear hdg hD hDl
          go_wp2_with (go_at_call 106; refine (hnI _ (by omega) (by omega)).mono ?_; rintro e w1 ⟨rfl, hb⟩)
          go_ret2
          exact ⟨HE.out _ rfl, by (repeat (first | (with_reducible exact Below.refl _ _) | (with_reducible assumption) | (with_reducible refine ext_alloc ?_ _) | (with_reducible refine ext_drew ?_) | (with_reducible refine ext_drewN ?_ _) | (with_reducible refine ext_set ?_ (by first | exact Nat.le_refl _ | (simp; done) | (simp; omega) | omega) _) | (with_reducible refine ext_trans ?_ (by assumption))))⟩
    · have HB := Lib.hid (val_none hdig (.inl (by rw [sz]; omega)))
      have h00 : s.size = 0 := by omega
      have q0 : ¬ (0 : Int) < (s.size : Int) := by omega
      have q1 : (s.size : Int) < 1 := by omega
      clear hdig hneg
      go_enter Tryz.func207, Tryz.ntmps207
      go_wp2_with fail
      go_ret2
      exact ⟨HB.out, by (repeat (first | (with_reducible exact Below.refl _ _) | (with_reducible assumption) | (with_reducible refine ext_alloc ?_ _) | (with_reducible refine ext_drew ?_) | (with_reducible refine ext_drewN ?_ _) | (with_reducible refine ext_set ?_ (by first | exact Nat.le_refl _ | (simp; done) | (simp; omega) | omega) _) | (with_reducible refine ext_trans ?_ (by assumption))))⟩
end Go.Proofs.YtmoolajapgacmaaGreatDoor
