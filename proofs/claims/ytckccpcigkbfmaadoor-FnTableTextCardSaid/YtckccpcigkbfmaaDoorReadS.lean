/-
The model's l02Read and ReadTable, for all strings of at most 2^20 bytes.
-/
import Derived.Test.YtckccpcigkbfmaaDoorSplit
import Derived.Test.YtckccpcigkbfmaaDoorValue
import Derived.Test.YtckccpcigkbfmaaDoorGrow
import Derived.Test.YtckccpcigkbfmaaDoorReadI
import Derived.Test.YtckccpcigkbfmaaDoorConst
namespace Go.Proofs.YtckccpcigkbfmaaDoor
open Go.ChangeShapes Go.WideShapes Go.ChangeAt Go.RowKit
set_option linter.unusedVariables false
set_option linter.unusedSimpArgs false
theorem rows_apart {w : World} {b1 b2 : Nat} {e1 e2 : TypeId} {s1 s2 n m : Nat} {v u : Value} {xs ys : List Value} (h : w.ownsRow b1 e1 s1 v n xs) (h' : w.ownsRow b2 e2 s2 u m ys) (he : e1 ≠ e2) : u.ownBlock = none ∨ u.ownBlock ≠ v.ownBlock := by
  rcases h'.2 with ⟨rfl, _⟩ | ⟨g', cap', cur', rfl, _, hg', _⟩
  · exact .inl rfl
  · refine .inr (fun e => ?_)
    rcases h.2 with ⟨rfl, _⟩ | ⟨g, cap, cur, rfl, _, hg, _⟩
    · cases e
    · have eg : g' = g := by injection e
      subst eg
      rw [hg] at hg'
      injection hg' with hg'
      injection hg' with _ h2
      exact he h2
theorem GS.grown {w w' : World} {b1 b2 : Nat} {v u : Value} {xs : List Int} {us : List ByteArray} (h : GS w b2 u us) (hi : GI w b1 v xs) (hg : w.grownBy w' v.ownBlock) : GS w' b2 u us := World.ownsRow.kept h hg (rows_apart hi h (by decide))
theorem us_at {us : List ByteArray} {W : List (List UInt8)} (h : us.map (·.data.toList) = W) {k : Nat} (hk : k < us.length) : us[k].data.toList = wn W k := by
  subst h
  simp [wn, List.getD, hk]
/-- The words of a list's text are the texts of its numbers. -/
theorem word_of {l : List UInt8} {ys : List Int} (hne : ys ≠ []) (he : l = listL ys) {k : Nat} (hk : k < (spl 44 l).length) : k < ys.length ∧ wn (spl 44 l) k = Lib.itoa (iv ys k) := by
  rw [he, listL_spl ys hne] at hk ⊢
  have hk' : k < ys.length := by simpa using hk
  exact ⟨hk', by simp [wn, iv, List.getD, hk']⟩
theorem take_more {ys : List Int} {k : Nat} (hk : k < ys.length) : ys.take (k + 1) = ys.take k ++ [iv ys k] := by
  rw [List.take_succ_eq_append_getElem hk]
  simp [iv, List.getD, hk]
set_option maxHeartbeats 4000000 in
set_option maxRecDepth 100000 in
theorem specRead_any (s : ByteArray) (w : World) (hs : s.size ≤ 1048576) : Calls Tryd.prog 30 #[.string s] w (ReadP s.data.toList w) := by
  obtain ⟨i0, hi, hz0, hz1, hz2⟩ := info_parts Tryd.infoG
  have G0 := Lib.hid (GI.lit w w.heap.size w.heap.size (Nat.le_refl _) rfl 2 rfl)
  have hcon := split_any s 44 (w.alloc (.cells #[] 2)) hs
  go_enter Tryd.func30, Tryd.ntmps30
  go_wp2_with fail
  go_at_call 29
  refine hcon.mono ?_
  rintro e w1 ⟨uv, us, rfl, hU, hmap, hb⟩
  have hb1 : Below w.heap.size w w1 := by (repeat (first | (with_reducible exact Below.refl _ _) | (with_reducible assumption) | (with_reducible refine ext_alloc ?_ _) | (with_reducible refine ext_drew ?_) | (with_reducible refine ext_drewN ?_ _) | (with_reducible refine ext_set ?_ (by first | exact Nat.le_refl _ | (simp; done) | (simp; omega) | omega) _) | (with_reducible refine ext_trans ?_ (by assumption))))
  have G1 := Lib.hid (G0.out.below hb)
  have U1 := Lib.hid hU
  obtain ⟨ua, uc, rfl, _⟩ := hU.out
  obtain ⟨n, hn⟩ : ∃ n, n = us.length := ⟨_, rfl⟩
  have hl := sz s
  have hcnt : n ≤ s.size + 1 := by
    have h1 := congrArg List.length hmap
    have h2 := spl_len 44 s.data.toList
    simp at h1
    omega
  have HM := Lib.hid hmap
  have HN := Lib.hid hn
  rw [← hn]
  clear hU hmap hb hcon G0
  go_wp2_with fail
  go_loopw [5, 3] (fun i v wr => ∃ (k : Nat) (xs : List Int), k ≤ n ∧ i = .int .i64 k ∧ xs.length ≤ k ∧ Hid (GI wr w.heap.size v xs) ∧ Hid (GS wr (w.heap.size + 1) (.slice ua us.length uc) us) ∧ Hid (∀ ys, ys ≠ [] → Small ys → s.data.toList = listL ys → xs = ys.take k) ∧ Below w.heap.size w wr) (fun i _ _ => n - (intOf i).toNat)
  case atStart => exact ⟨0, [], by omega, rfl, by simp, G1, Lib.hid (by simpa using U1.out), Lib.hid (fun ys _ _ _ => by simp), hb1⟩
  case round =>
    clear G1 U1 hb1
    obtain ⟨k, xs, hk, rfl, hxs, O, U, HP, hbw⟩ := hrel
    have hsz := hbw.size
    by_cases hkn : k < n
    · have hku : k < us.length := by have := HN.out; omega
      obtain ⟨a', c', e', hcell⟩ := U.out.out
      injection e' with e1 e2 e3
      subst e1 e3
      obtain ⟨g, rfl, hg, hx⟩ := hcell (by omega)
      have y0 := hx k hku
      have hwd : us[k].data.toList = wn (spl 44 s.data.toList) k := us_at HM.out hku
      have hks : k < (spl 44 s.data.toList).length := by have := congrArg List.length HM.out; simp at this; omega
      have husz : us[k].size ≤ 1048576 := by
        have := spl_sz 44 _ _ (wn_mem hks)
        rw [← hwd, sz, sz] at this
        omega
      obtain ⟨u, hu⟩ : ∃ u, u = us[k] := ⟨_, rfl⟩
      rw [← hu] at y0 hwd husz
      have HWd := Lib.hid hwd
      have HKs := Lib.hid hks
      clear hu hwd hx hcell hks hku
      have hI : (k : Int) < (n : Int) := by omega
      have i00 : (0 : Int) ≤ (k : Int) := by omega
      have HNN := HN.out
      rw [← HNN] at U
      go_upto_region 7 with (go_at_call 46; refine (value_any u _ husz).mono ?_; rintro e w2 ⟨⟨r, b, rfl, hb1, hb2⟩, hbv⟩)
      have O2 := Lib.hid (O.out.below hbv)
      have U2 := Lib.hid (U.out.below hbv)
      have hbn : Below w.heap.size w w2 := ext_trans hbw hbv
      have hsz2 := hbn.size
      have HV := Lib.hid (And.intro hb1 hb2)
      clear hb1 hb2 hbv O U hbw y0 hsz
      have HS := Lib.hid (fun ys (h1 : ys ≠ []) (h2 : Small ys) (h3 : s.data.toList = listL ys) => (show b = true ∧ r = iv ys k ∧ k < ys.length from by
        obtain ⟨h4, h5⟩ := word_of h1 h3 HKs.out
        have h6 := h2 k h4
        obtain ⟨q1, q2⟩ := HV.out.2 (iv ys k) ⟨by omega, by omega⟩ (by rw [HWd.out]; exact h5.symm)
        exact ⟨q1, q2, h4⟩))
      clear HV HWd HKs
      cases b
      · have HP2 := Lib.hid (fun ys (h1 : ys ≠ []) (h2 : Small ys) (h3 : s.data.toList = listL ys) => (show xs = ys.take (k + 1) from by
          have := (HS.out ys h1 h2 h3).1
          cases this))
        rw [HNN] at U2
        clear HP HS
        go_wp2
        go_roundw
        case rel => exact ⟨k + 1, xs, by omega, by go_num, by omega, O2, U2, HP2, hbn⟩
        case measure => simp [intOf]; omega
      · have HP2 := Lib.hid (fun ys (h1 : ys ≠ []) (h2 : Small ys) (h3 : s.data.toList = listL ys) => (show xs ++ [r] = ys.take (k + 1) from by
          obtain ⟨_, h5, h6⟩ := HS.out ys h1 h2 h3
          rw [take_more h6, HP.out ys h1 h2 h3, h5]))
        have hblk := O2.out.blk
        have hne : (2 : Nat) = 2 := rfl
        clear HP HS
        go_wp2_with (at_builtin; go_loud (refine wpList_append_own _ rfl _ _ 24 rfl w.heap.size 2 i0 (.int .i64 0) 1 8 Tryd.underlying24 hi hz0 hz1 hz2 rfl (by decide) _ _ _ rfl (GI.below O2.out (by (repeat (first | (with_reducible exact Below.refl _ _) | (with_reducible assumption) | (with_reducible refine ext_alloc ?_ _) | (with_reducible refine ext_drew ?_) | (with_reducible refine ext_drewN ?_ _) | (with_reducible refine ext_set ?_ (by first | exact Nat.le_refl _ | (simp; done) | (simp; omega) | omega) _) | (with_reducible refine ext_trans ?_ (by assumption)))))) ⟨_, 0, none⟩ 1 1 [.int .i64 r] rfl rfl (one_cellG2 _ _ _ _ (by simp)) (fun u hu => by simp at hu; subst hu; rfl) (by unfold maxLen; omega) (by omega) (by simp; omega) ?_); intro v' w3 hown' hgrow hnil)
        have O3 := Lib.hid (show GI w3 w.heap.size v' (xs ++ [r]) by simpa [GI] using hown')
        have U3 := Lib.hid (GS.grown (GS.below U2.out (by (repeat (first | (with_reducible exact Below.refl _ _) | (with_reducible assumption) | (with_reducible refine ext_alloc ?_ _) | (with_reducible refine ext_drew ?_) | (with_reducible refine ext_drewN ?_ _) | (with_reducible refine ext_set ?_ (by first | exact Nat.le_refl _ | (simp; done) | (simp; omega) | omega) _) | (with_reducible refine ext_trans ?_ (by assumption)))))) (GI.below O2.out (by (repeat (first | (with_reducible exact Below.refl _ _) | (with_reducible assumption) | (with_reducible refine ext_alloc ?_ _) | (with_reducible refine ext_drew ?_) | (with_reducible refine ext_drewN ?_ _) | (with_reducible refine ext_set ?_ (by first | exact Nat.le_refl _ | (simp; done) | (simp; omega) | omega) _) | (with_reducible refine ext_trans ?_ (by assumption)))))) hgrow)
        have B3 : Below w.heap.size w w3 := grown_in (by (repeat (first | (with_reducible exact Below.refl _ _) | (with_reducible assumption) | (with_reducible refine ext_alloc ?_ _) | (with_reducible refine ext_drew ?_) | (with_reducible refine ext_drewN ?_ _) | (with_reducible refine ext_set ?_ (by first | exact Nat.le_refl _ | (simp; done) | (simp; omega) | omega) _) | (with_reducible refine ext_trans ?_ (by assumption))))) (by simp; omega) hgrow hblk
        rw [HNN] at U3
        clear hown' hgrow hnil hblk O2 U2
        go_wp2
        go_roundw
        case rel => exact ⟨k + 1, xs ++ [r], by omega, by go_num, by simp; omega, O3, U3, HP2, B3⟩
        case measure => simp [intOf]; omega
    · obtain rfl : k = n := by omega
      have hI : ¬ (k : Int) < (k : Int) := by omega
      go_wp2
      go_ret
      refine ⟨_, xs, rfl, O.out.own (by omega), fun ys h1 h2 h3 => ?_, hbw⟩
      have e1 := HP.out ys h1 h2 h3
      have e2 : k = ys.length := by
        have h5 := congrArg List.length HM.out
        rw [h3, listL_spl ys h1] at h5
        have := HN.out
        simp at h5
        omega
      rw [e1, e2, List.take_length]
end Go.Proofs.YtckccpcigkbfmaaDoor
