/-
The program's readNumbers, for all strings of at most 2^20 bytes, where the library's variables are as its text lays them.
-/
import Derived.Test.YtckccpcigkbfmaaDoorRead
import Derived.Test.YtckccpcigkbfmaaDoorParseI
namespace Go.Proofs.YtckccpcigkbfmaaDoor
open Go.ChangeShapes Go.WideShapes Go.ChangeAt Go.RowKit
set_option linter.unusedVariables false
set_option linter.unusedSimpArgs false
set_option maxRecDepth 100000
/-- What a reader of numbers leaves: a list of its own; for a list's text that list. -/
def ReadP (l : List UInt8) (w : World) (e : Ending) (w' : World) : Prop := ∃ v xs, e = .returned v ∧ OwnS w' w.heap.size v xs ∧ (∀ ys, ys ≠ [] → Small ys → l = listL ys → xs = ys) ∧ Below w.heap.size w w'
def wn (W : List (List UInt8)) (k : Nat) : List UInt8 := W.getD k []
theorem wn_mem {W : List (List UInt8)} {k : Nat} (h : k < W.length) : wn W k ∈ W := by
  simp [wn, List.getD, h]
theorem iv_map {W : List (List UInt8)} {k : Nat} (h : k < W.length) : iv (W.map pv) k = pv (wn W k) := by
  simp [iv, wn, List.getD, h]
set_option maxHeartbeats 4000000 in
theorem readNum_any (s : ByteArray) (m : Int) (w : World) (hs : s.size ≤ 1048576) (hm : MaxLen w m) (he : Errs w) : Calls Tryd.prog 20 #[.string s] w (ReadP s.data.toList w) := by
  obtain ⟨i0, hi, hz0, hz1, hz2⟩ := info_parts Tryd.infoInt
  have HE := Lib.hid he
  have hcon := Tryd.strings_Split s ⟨#[44]⟩ m w (by omega) hm (by decide)
  have ⟨d1, d2⟩ := splitB_spl 44 s
  have sl := spl_len 44 s.data.toList
  rw [sz] at sl
  have SZ := Lib.hid (fun u (hu : u ∈ spl 44 s.data.toList) => (show u.length ≤ 1048576 from Nat.le_trans (spl_sz 44 _ u hu) (by rw [sz]; exact hs)))
  have HF := Lib.hid (fun ys (h1 : ys ≠ []) (h2 : Small ys) (h3 : s.data.toList = listL ys) => (show (spl 44 s.data.toList).map pv = ys ∧ ∀ u ∈ spl 44 s.data.toList, ∃ v, Lib.parseIntB 64 u = .ok v from by rw [h3]; exact ⟨vals_list h2 h1, words_ok h2 h1⟩))
  obtain ⟨W, hW⟩ : ∃ W, W = spl 44 s.data.toList := ⟨_, rfl⟩
  rw [← hW] at d1 d2 sl SZ HF
  obtain ⟨P, hP⟩ : ∃ P, P = Lib.splitB ⟨#[44]⟩ 0 (Lib.countB s ⟨#[44]⟩) s := ⟨_, rfl⟩
  rw [← hP] at d1 hcon
  obtain ⟨n, hn⟩ : ∃ n, n = W.length := ⟨_, rfl⟩
  rw [d2, ← hn] at hcon
  rw [← hn] at sl
  have hcells : ∀ j, j < n → (w.alloc (.cells (P.map Value.string).toArray 9)).cell? ⟨w.heap.size, j, none⟩ = some (.string ⟨(wn W j).toArray⟩) := by
    intro j hj
    have hl : P.length = n := by rw [hn, ← d1]; simp
    rw [World.cell?_alloc_new]
    have hjP : j < P.length := by omega
    have e : (P[j]'hjP).data.toList = wn W j := by
      rw [← d1]
      simp [wn, List.getD, hjP]
    simp [hjP]
    rw [← e]
  have HC := Lib.hid hcells
  have HN := Lib.hid hn
  clear hcells d1 d2 hP hW he hn
  go_enter Tryd.func20, Tryd.ntmps20
  go_wp2_with fail
  go_at_call 38
  refine hcon.mono ?_
  rintro e w1 ⟨rfl, hw1⟩
  have hb1 : Below w.heap.size w w1 := by rw [hw1]; (repeat (first | (with_reducible exact Below.refl _ _) | (with_reducible assumption) | (with_reducible refine ext_alloc ?_ _) | (with_reducible refine ext_drew ?_) | (with_reducible refine ext_drewN ?_ _) | (with_reducible refine ext_set ?_ (by first | exact Nat.le_refl _ | (simp; done) | (simp; omega) | omega) _) | (with_reducible refine ext_trans ?_ (by assumption))))
  have hgt : w.heap.size < w1.heap.size := by rw [hw1]; simp
  rw [← hw1] at HC
  clear hw1 hcon
  go_wp2_with (at_make; refine wpList_make_full _ rfl _ _ 24 rfl w1.heap.size 2 i0 (.int .i64 0) 1 Tryd.underlying24 hi hz0 hz1 .i64 .i64 _ _ n rfl rfl rfl rfl (by rw [hz2]; omega) (by unfold maxLen; omega) (Nat.le_refl _) ?_; intro w0 hown0 hgrow0; have hb0 := below_grown hgrow0; clear hgrow0)
  have hr0 : 0 < n → IRow w0 w1.heap.size n 0 (W.map pv) := fun hp => (IRow.made hown0).resolve_right (by omega)
  have HB1 := Lib.hid hb1
  have hb00 : Below w.heap.size w w0 := ext_trans hb1 hb0
  have HC0 := Lib.hid (fun j (hj : j < n) => cell_keep (HC.out j hj) hb0)
  clear hown0 hb0 hb1 HC
  go_loopw [16] (fun i wr => ∃ k : Nat, k ≤ n ∧ i = .int .i64 k ∧ Hid (0 < n → IRow wr w1.heap.size n k (W.map pv)) ∧ Hid (∀ j, j < n → wr.cell? ⟨w.heap.size, j, none⟩ = some (.string ⟨(wn W j).toArray⟩)) ∧ Below w.heap.size w wr) (fun i _ => n - (intOf i).toNat)
  case atStart => exact ⟨0, by omega, rfl, Lib.hid hr0, HC0, hb00⟩
  case round =>
    clear hr0 hb00 HC0
    obtain ⟨k, hk, rfl, hr, HC, hbw⟩ := hrel
    by_cases hkn : k < n
    · have y0 := HC.out k hkn
      have hI : (k : Int) < (n : Int) := by omega
      have i00 : (0 : Int) ≤ (k : Int) := by omega
      have hkW : k < W.length := by have := HN.out; omega
      have hul := SZ.out _ (wn_mem hkW)
      obtain ⟨u, hu⟩ : ∃ u, u = wn W k := ⟨_, rfl⟩
      have HU := Lib.hid hu
      have HW := Lib.hid hkW
      have HM := Lib.hid (show u ∈ W by rw [hu]; exact wn_mem hkW)
      rw [← hu] at y0 hul
      clear hu hkW
      have hS : (ByteArray.mk u.toArray).data.toList = u := by simp
      have hsu : (ByteArray.mk u.toArray).size ≤ 1048576 := by rw [← sz, hS]; exact hul
      rcases hpi : Lib.parseIntB 64 u with v | _ | _
      · have hval := Lib.hid (show v = iv (W.map pv) k by rw [iv_map HW.out, ← HU.out, pv_ok hpi])
        have hcon := Lib.hid (fun (wx : World) => Tryd.strconv_ParseInt_10_at64_ok ⟨u.toArray⟩ (by omega) v (by rw [hS]; exact hpi) wx)
        have hr1 := hr.out (by omega)
        clear hpi hS
        go_wp2_with fail
        go_at_call 39
        refine (hcon.out _).mono ?_
        rintro e w2 ⟨rfl, hw⟩
        have hb2 : Below wr.heap.size wr w2 := by
          rcases hw with rfl | ⟨t, rfl⟩
          · exact Below.refl _ _
          · exact Lib.bytesWorld_below _ _ _
        clear hw
        have hr2 : IRow w2 w1.heap.size n k (W.map pv) := by
          obtain ⟨q0, q1, q2⟩ := hr1
          refine ⟨Nat.lt_of_lt_of_le q0 hb2.size, fun j hj => ⟨by rw [hb2.frozen (by exact q0)]; exact (q1 j hj).1, ?_⟩, fun i hi => cell_keep (q2 i hi) hb2⟩
          obtain ⟨z, hz⟩ := (q1 j hj).2
          exact ⟨z, cell_keep hz hb2⟩
        obtain ⟨v0, e0⟩ := (hr2.2.1 k (by omega)).2
        have f0 := (hr2.2.1 k (by omega)).1
        have hrs := Lib.hid (fun (_ : 0 < n) => hr2.store hkn hval.out)
        have hbn : Below w.heap.size w w2 := ext_trans hbw hb2
        have HC2 := Lib.hid (fun j (hj : j < n) => (show (w2.setCell ⟨w1.heap.size, k, none⟩ (.int .i64 v)).cell? ⟨w.heap.size, j, none⟩ = _ from cell_keep_set (cell_keep (HC.out j hj) hb2) (by show w.heap.size < w1.heap.size; omega)))
        have hge : w.heap.size ≤ w1.heap.size := by omega
        clear hr1 hr2 hr HC hb2 hbw y0
        go_wp2
        go_roundw
        case rel => exact ⟨k + 1, by omega, by go_num, hrs, HC2, hbn.setCell hge _⟩
        case measure => simp [intOf]; omega
      · obtain ⟨tp, pw, hvar⟩ := (HE.out.keep hbw).1
        have hcon := Lib.hid (Tryd.strconv_ParseInt_10_at64_syntax_var ⟨u.toArray⟩ (by omega) (by rw [hS]; exact hpi) tp pw wr hvar)
        have hno := Lib.hid (fun ys (h1 : ys ≠ []) (h2 : Small ys) (h3 : s.data.toList = listL ys) => show False by
          obtain ⟨v, hv⟩ := (HF.out ys h1 h2 h3).2 u HM.out
          rw [hpi] at hv
          cases hv)
        clear hpi hS hvar
        go_wp2_with fail
        go_at_call 39
        refine hcon.out.mono ?_
        rintro e w2 ⟨N, rfl, hN, hw, hb⟩
        have hbn : Below w.heap.size w w2 := ext_trans hbw hb
        clear hb hw hN hcon
        go_wp2
        go_ret
        exact ⟨_, [], rfl, own_empty _ _ _ _, fun ys h1 h2 h3 => (hno.out ys h1 h2 h3).elim, hbn⟩
      · obtain ⟨tp, pw, hvar⟩ := (HE.out.keep hbw).2
        have hcon := Lib.hid (Tryd.strconv_ParseInt_10_at64_range_var ⟨u.toArray⟩ (by omega) (by rw [hS]; exact hpi) tp pw wr hvar)
        have hno := Lib.hid (fun ys (h1 : ys ≠ []) (h2 : Small ys) (h3 : s.data.toList = listL ys) => show False by
          obtain ⟨v, hv⟩ := (HF.out ys h1 h2 h3).2 u HM.out
          rw [hpi] at hv
          cases hv)
        clear hpi hS hvar
        go_wp2_with fail
        go_at_call 39
        refine hcon.out.mono ?_
        rintro e w2 ⟨N, rfl, hN, hw, hb⟩
        have hbn : Below w.heap.size w w2 := ext_trans hbw hb
        clear hb hw hN hcon
        go_wp2
        go_ret
        exact ⟨_, [], rfl, own_empty _ _ _ _, fun ys h1 h2 h3 => (hno.out ys h1 h2 h3).elim, hbn⟩
    · obtain rfl : k = n := by omega
      have hI : ¬ (k : Int) < (k : Int) := by omega
      go_wp2
      go_ret
      have hlen : k = (W.map pv).length := by rw [List.length_map]; exact HN.out
      by_cases h0 : k = 0
      · subst h0
        obtain e0 := nil_of hlen.symm
        exact ⟨_, [], rfl, own_empty _ _ _ _, fun ys h1 h2 h3 => e0.symm.trans (HF.out ys h1 h2 h3).1, hbw⟩
      · refine ⟨_, W.map pv, rfl, ?_, fun ys h1 h2 h3 => (HF.out ys h1 h2 h3).1, hbw⟩
        have := IRow.own (cap := k) (hr.out (by omega)) hlen (by omega) (show w.heap.size ≤ w1.heap.size by omega)
        exact this
end Go.Proofs.YtckccpcigkbfmaaDoor
