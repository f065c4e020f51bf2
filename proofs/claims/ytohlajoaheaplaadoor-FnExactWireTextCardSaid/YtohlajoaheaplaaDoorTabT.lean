/-
Contracts of TableText (program and model), for all tables.
-/
import Derived.Test.YtohlajoaheaplaaDoorTabL
import Derived.Test.YtohlajoaheaplaaDoorTime
import Derived.Lib.Join
namespace Go.Proofs.YtohlajoaheaplaaDoor
open Go.ChangeShapes Go.WideShapes Go.ChangeAt Go.RowKit
set_option linter.unusedVariables false
set_option maxRecDepth 100000
/-- The first k numbers of a list in decimal, separated by commas. -/
def lk (xs : List Int) : Nat → List UInt8
  | 0 => []
  | k + 1 => lk xs k ++ (if k = 0 then [] else [44]) ++ Lib.itoa (iv xs k)
def listL (xs : List Int) : List UInt8 := lk xs xs.length
theorem itoa_nat (n : Int) (h : 0 ≤ n) : Lib.itoa n = Lib.decDigits n.toNat := by
  have : ¬ n < 0 := by omega
  simp [Lib.itoa, this]
theorem itoa_len (n : Int) (h0 : -1000000 ≤ n) (h1 : n ≤ 1000000) : (Lib.itoa n).length ≤ 21 := by
  unfold Lib.itoa
  by_cases h : n < 0
  · have := dec_len (-n) (by omega)
    have e : n.natAbs = (-n).toNat := by omega
    rw [if_pos h, e]
    simp
    omega
  · have := dec_len n (by omega)
    rw [if_neg h]
    omega
def Small (xs : List Int) : Prop := ∀ i, i < xs.length → -1000000 ≤ iv xs i ∧ iv xs i ≤ 1000000
theorem lk_len {xs : List Int} (h : Small xs) : ∀ k, k ≤ xs.length → (lk xs k).length ≤ 22 * k := by
  intro k
  induction k with
  | zero => intro _; simp [lk]
  | succ k ih =>
    intro hk
    have h1 := ih (by omega)
    have ⟨h2, h3⟩ := h k (by omega)
    have h4 := itoa_len _ h2 h3
    simp only [lk, List.length_append]
    by_cases e : k = 0
    · subst e
      rw [if_pos rfl, List.length_nil]
      omega
    · rw [if_neg e, List.length_singleton]
      omega
theorem join_snoc (l : List (List UInt8)) (x sep : List UInt8) : Lib.join (l ++ [x]) sep = Lib.join l sep ++ (if l = [] then [] else sep) ++ x := by
  cases l with
  | nil => simp [Lib.join_one, Lib.join_nil]
  | cons y r =>
    rw [List.cons_append, Lib.join_cons, Lib.join_cons]
    simp [Lib.joinTail]
theorem lk_join (xs : List Int) : ∀ k, k ≤ xs.length → lk xs k = Lib.join ((xs.take k).map Lib.itoa) [44] := by
  intro k
  induction k with
  | zero => intro _; simp [lk, Lib.join_nil]
  | succ k ih =>
    intro hk
    have e : xs.take (k + 1) = xs.take k ++ [iv xs k] := by
      rw [List.take_succ_eq_append_getElem (by omega)]
      simp [iv, List.getD, show k < xs.length by omega]
    rw [e, List.map_append, List.map_cons, List.map_nil, join_snoc, lk, ih (by omega)]
    congr 2
    by_cases h : k = 0
    · simp [h]
    · have h2 : ¬ xs.take k = [] := by
        intro hc
        have := congrArg List.length hc
        rw [List.length_take, List.length_nil] at this
        omega
      have h3 : ¬ xs = [] := by intro hc; rw [hc] at hk; simp at hk
      simp [h, h3]
theorem listL_join (xs : List Int) : listL xs = Lib.join (xs.map Lib.itoa) [44] := by
  have := lk_join xs xs.length (Nat.le_refl _)
  rwa [List.take_length] at this
def tabS (ss ls vs : List Int) : ByteArray := if tabB ss ls vs then ByteArray.mk (listL ss ++ [124] ++ listL ls ++ [124] ++ listL vs).toArray else ByteArray.mk #[]
theorem tab_small {ss ls vs : List Int} (h : tabB ss ls vs = true) : Small ss ∧ Small ls ∧ Small vs := by
  have ⟨h0, h1, h2, h3⟩ := tab_get h
  have ⟨_, _, a, _⟩ := ax_get h0
  have ⟨_, _, b, _⟩ := ax_get h1
  exact ⟨fun i hi => by have := a i hi; omega, fun i hi => by have := b i hi; omega, h3⟩
theorem ba_app (a b : List UInt8) : ByteArray.mk a.toArray ++ ByteArray.mk b.toArray = ByteArray.mk (a ++ b).toArray := by
  apply ByteArray.ext
  simp
theorem number_itoa (n : Int) (w : World) (h0 : -1000000 ≤ n) (h1 : n ≤ 1000000) : Calls Tryd.prog 29 #[.int .i64 n] w fun e w' => e = .returned (.string ⟨(Lib.itoa n).toArray⟩) ∧ Below w.heap.size w w' := by
  by_cases h : n < 0
  · obtain ⟨u, rfl⟩ : ∃ u : Int, n = -u := ⟨-n, by omega⟩
    have HI := Lib.hid (show Lib.itoa (-u) = [45] ++ Lib.decDigits u.toNat by
      unfold Lib.itoa
      rw [if_pos h, show (-u).natAbs = u.toNat by omega]
      rfl)
    have hl := dec_len u (by omega)
    have hl3 : ¬ 9223372036854775807 < 1 + (Lib.decDigits u.toNat).length := by omega
    have hl4 : ¬ (9223372036854775807 : Int) < 1 + ((Lib.decDigits u.toNat).length : Int) := by omega
    go_enter Tryd.func29, Tryd.ntmps29
    go_wp2_with (go_at_call 29; refine (number_any (u.toNat + 1) u _ (by omega) (by omega) (by omega)).mono ?_; rintro e w1 ⟨rfl, hb⟩)
    go_ret
    rw [HI.out, ← ba_app]
    exact ⟨rfl, by (repeat (with_reducible first | exact eR _ _ | assumption | refine eA ?_ _ | refine eD ?_ | refine eN ?_ _ | refine eS ?_ _ | refine eT ?_ (by assumption)))⟩
  · have h2 := number_any (n.toNat + 1) n w (by omega) (by omega) (by omega)
    rwa [itoa_nat n (by omega)]
theorem specList_any (v : Value) (xs : List Int) (w : World) (h : IntS w w.heap.size v xs) (hx : Small xs) (hm : xs.length ≤ 1048576) : Calls Tryd.prog 16 #[v] w fun e w' => e = .returned (.string ⟨(listL xs).toArray⟩) ∧ Below w.heap.size w w' := by
  obtain ⟨hn, a, cap, rfl, hx0⟩ := h
  have HS := Lib.hid hx
  have HX := Lib.hid hx0
  have HL := Lib.hid (lk_len hx)
  clear hx hx0
  go_enter Tryd.func16, Tryd.ntmps16
  go_wp2_with fail
  go_loopw [3, 4] (fun s i wr => ∃ k : Nat, k ≤ xs.length ∧ i = .int .i64 k ∧ s = .string ⟨(lk xs k).toArray⟩ ∧ Hid (Below w.heap.size w wr)) (fun _ i _ => xs.length - (intOf i).toNat)
  case atStart => exact ⟨0, by omega, rfl, rfl, Lib.hid (Below.refl _ _)⟩
  case round =>
    obtain ⟨k, hk, rfl, rfl, hb0⟩ := hrel
    by_cases hkn : k < xs.length
    · obtain ⟨b, off, rfl, hlt, hx⟩ := HX.out (by omega)
      have y0 : wr.cell? ⟨b, off + k, none⟩ = some (.int .i64 (iv xs k)) := by rw [hb0.out.cell (by show b < _; omega)]; exact hx k hkn
      have ⟨v0, v1⟩ := HS.out k hkn
      have l0 := HL.out k (by omega)
      have l1 := itoa_len _ v0 v1
      have hb1 := hb0.out
      clear hx
      have LK := Lib.hid (show lk xs (k + 1) = lk xs k ++ (if k = 0 then [] else [44]) ++ Lib.itoa (iv xs k) from rfl)
      by_cases e : k = 0
      · subst e
        have y1 : wr.cell? ⟨b, off, none⟩ = some (.int .i64 (iv xs 0)) := by simpa using y0
        go_wp2_with (go_at_call 29; refine (number_itoa _ _ v0 v1).mono ?_; rintro e w1 ⟨rfl, hb⟩)
        go_roundw
        case rel => exact ⟨1, by omega, by go_num, by rw [LK.out]; simp only [if_pos, lk, ← ba_app]; rfl, Lib.hid (by (repeat (with_reducible first | exact eR _ _ | assumption | refine eA ?_ _ | refine eD ?_ | refine eN ?_ _ | refine eS ?_ _ | refine eT ?_ (by assumption))))⟩
        case measure => simp [intOf]; omega
      · have ek : (0 : Int) < (k : Int) := by omega
        go_wp2_with (go_at_call 29; refine (number_itoa _ _ v0 v1).mono ?_; rintro e w1 ⟨rfl, hb⟩)
        go_roundw
        case rel => exact ⟨k + 1, by omega, by go_num, by rw [LK.out]; simp only [if_neg e, ← ba_app], Lib.hid (by (repeat (with_reducible first | exact eR _ _ | assumption | refine eA ?_ _ | refine eD ?_ | refine eN ?_ _ | refine eS ?_ _ | refine eT ?_ (by assumption))))⟩
        case measure => simp [intOf]; omega
    · obtain rfl : k = xs.length := by omega
      go_wp2
      go_ret
      exact ⟨rfl, hb0.out⟩
theorem Tryd.infoStr : (Tryd.prog.info? 9).map (fun i => (i.zero, i.size, i.bytes)) = some (some (.string ⟨#[]⟩), 1, 16) := by kernel_rfl
/-- A row of n cells, of which the first k hold the texts of xs. -/
def SRow (w : World) (g n k : Nat) (xs : List Int) : Prop :=
  g < w.heap.size ∧ (∀ j, j < n → w.frozen? ⟨g, j, none⟩ = false ∧ ∃ u, w.cell? ⟨g, j, none⟩ = some u) ∧ ∀ i, i < k → w.cell? ⟨g, i, none⟩ = some (.string ⟨(Lib.itoa (iv xs i)).toArray⟩)
theorem SRow.keep {w w' : World} {g n k : Nat} {xs : List Int} (h : SRow w g n k xs) (hb : Below w.heap.size w w') : SRow w' g n k xs := by
  obtain ⟨h0, h1, h2⟩ := h
  refine ⟨Nat.lt_of_lt_of_le h0 hb.size, fun j hj => ⟨by rw [hb.frozen (by exact h0)]; exact (h1 j hj).1, ?_⟩, fun i hi => cell_keep (h2 i hi) hb⟩
  obtain ⟨u, hu⟩ := (h1 j hj).2
  exact ⟨u, cell_keep hu hb⟩
theorem SRow.store {w : World} {g n k : Nat} {xs : List Int} (h : SRow w g n k xs) (hk : k < n) : SRow (w.setCell ⟨g, k, none⟩ (.string ⟨(Lib.itoa (iv xs k)).toArray⟩)) g n (k + 1) xs := by
  obtain ⟨h0, h1, h2⟩ := h
  obtain ⟨u0, e0⟩ := (h1 k hk).2
  refine ⟨by simpa [World.setCell] using h0, fun j hj => ⟨by simp [(h1 j hj).1], ?_⟩, fun i hi => ?_⟩
  · by_cases a : j = k
    · subst a; exact ⟨_, cs_same e0⟩
    · rw [cs_other (by omega)]; exact (h1 j hj).2
  · by_cases e : i = k
    · subst e; exact cs_same e0
    · rw [cs_other (by omega)]; exact h2 i (by omega)
theorem formatItoa (n : Int) (w : World) (h0 : -9223372036854775808 ≤ n) (h1 : n ≤ 9223372036854775807) (ht : Tab w) : Calls Tryd.prog 34 #[.int .i64 n, .int .i64 10] w fun e w' => e = .returned (.string ⟨(Lib.itoa n).toArray⟩) ∧ Below w.heap.size w w' :=
  (Tryd.strconv_FormatInt_10 n h0 h1 w ht).mono fun e w' ⟨he, k, os, hw⟩ => ⟨he, by subst hw; exact below_grow w k os⟩
theorem row_lt {w : World} {base g n cap : Nat} {e : TypeId} {cs : List Value} (h : w.ownsRow base e 1 (.slice (some ⟨g, 0, none⟩) n cap) n cs) : g < w.heap.size := by
  rcases h.2 with ⟨e, _⟩ | ⟨g', cap', cur', e, _, hg, _⟩
  · cases e
  · injection e with e _ _
    injection e with e
    injection e with e _ _
    subst e
    exact (Array.getElem?_eq_some_iff.1 hg).1
set_option maxHeartbeats 1000000 in
theorem numbers_all (v : Value) (xs : List Int) (w : World) (h : IntS w w.heap.size v xs) (hx : Small xs) (hm : xs.length ≤ 1048576) (ht : Tab w) : Calls Tryd.prog 19 #[v] w fun e w' => e = .returned (.string ⟨(listL xs).toArray⟩) ∧ Below w.heap.size w w' := by
  obtain ⟨i0, hi, hz0, hz1, hz2⟩ := info_parts Tryd.infoStr
  obtain ⟨hn, a, cap, rfl, hx0⟩ := h
  have HT := Lib.hid ht
  have HX := Lib.hid hx0
  have HS := Lib.hid hx
  have HL := Lib.hid (lk_len hx xs.length (Nat.le_refl _))
  clear hx0 ht hx
  go_enter Tryd.func19, Tryd.ntmps19
  go_wp2_with (at_make; refine wpList_make_full _ rfl _ _ 39 rfl w.heap.size 9 i0 (.string ⟨#[]⟩) 1 Tryd.underlying39 hi hz0 hz1 .i64 .i64 _ _ xs.length rfl rfl rfl rfl (by rw [hz2]; omega) (by unfold maxLen; omega) (Nat.le_refl _) ?_; intro w0 hown0 hgrow0; have hb0 := below_grown hgrow0; clear hgrow0)
  have hr0 : SRow w0 w.heap.size xs.length 0 xs := by
    rcases IRow.made (xs := xs) hown0 with hr | hr
    · exact ⟨hr.1, hr.2.1, fun i hi => absurd hi (Nat.not_lt_zero _)⟩
    · exact ⟨row_lt hown0, fun j hj => absurd hj (by omega), fun i hi => absurd hi (Nat.not_lt_zero _)⟩
  have B0 := Lib.hid hb0
  clear hown0 hb0
  go_loopw [11] (fun i wr => ∃ k : Nat, k ≤ xs.length ∧ i = .int .i64 k ∧ Hid (SRow wr w.heap.size xs.length k xs) ∧ Hid (Below w.heap.size w wr)) (fun i _ => xs.length - (intOf i).toNat)
  case atStart => exact ⟨0, by omega, rfl, Lib.hid hr0, B0⟩
  case round =>
    clear hr0 B0
    obtain ⟨k, hk, rfl, hr, hbw⟩ := hrel
    have hb1 := hbw.out
    by_cases hkn : k < xs.length
    · obtain ⟨b, off, rfl, hlt, hx1⟩ := HX.out (by omega)
      have y0 : wr.cell? ⟨b, off + k, none⟩ = some (.int .i64 (iv xs k)) := by rw [hb1.cell (by show b < _; omega)]; exact hx1 k hkn
      clear hx1
      have ⟨v0, v1⟩ := HS.out k hkn
      go_wp2_with fail
      go_at_call 34
      refine (formatItoa _ _ (by omega) (by omega) (HT.out.keep hb1)).mono ?_
      rintro e w1 ⟨rfl, hb⟩
      have hr1 := hr.out.keep hb
      obtain ⟨u0, e0⟩ := (hr1.2.1 k (by omega)).2
      have f0 := (hr1.2.1 k (by omega)).1
      have hrs := Lib.hid (hr1.store hkn)
      have hbn := Lib.hid (show Below w.heap.size w w1 from ext_trans hb1 hb)
      clear hr1 hr y0 hb hb1
      go_wp2
      go_roundw
      case rel => exact ⟨k + 1, by omega, by go_num, hrs, Lib.hid (ext_set hbn.out (Nat.le_refl _) _)⟩
      case measure => simp [intOf]; omega
    · obtain rfl : k = xs.length := by omega
      have hcl : (xs.map fun n => (⟨(Lib.itoa n).toArray⟩ : ByteArray)).length = xs.length := by simp
      have hj : ((xs.map fun n => (⟨(Lib.itoa n).toArray⟩ : ByteArray)).map (·.data.toList)) = xs.map Lib.itoa := by simp
      have hcon := Tryd.strings_Join w.heap.size 0 xs.length (xs.map fun n => ⟨(Lib.itoa n).toArray⟩) ⟨#[44]⟩ wr (fun j x hjx => by
        have hj1 : j < xs.length := by
          have := (List.getElem?_eq_some_iff.1 hjx).1
          simpa using this
        have e1 : x = ⟨(Lib.itoa (iv xs j)).toArray⟩ := by
          simp [List.getElem?_eq_getElem hj1] at hjx
          simp [iv, List.getD, hj1, ← hjx]
        rw [e1]
        simpa using hr.out.2.2 j hj1) hr.out.1 (by rw [hcl]; omega) (by rw [hcl]; omega) (by
          rw [hj]
          have := HL.out
          rw [show lk xs xs.length = listL xs from rfl, listL_join] at this
          exact Nat.le_trans this (by omega))
      rw [hcl, hj] at hcon
      have hcon' := Lib.hid hcon
      have HJ := Lib.hid (listL_join xs)
      clear hcon hcl hj hr
      go_wp2_with fail
      go_at_call 20
      refine hcon'.out.mono ?_
      rintro e w1 ⟨rfl, hb⟩
      go_wp2
      go_ret
      rw [HJ.out]
      exact ⟨rfl, ext_trans hb1 hb⟩
theorem numbers_any (v : Value) (xs : List Int) (w : World) (h : IntS w w.heap.size v xs) (hx : Small xs) (hm : xs.length ≤ 16) (hp : 0 < xs.length) (ht : Tab w) : Calls Tryd.prog 19 #[v] w fun e w' => e = .returned (.string ⟨(listL xs).toArray⟩) ∧ Below w.heap.size w w' := numbers_all v xs w h hx (by omega) ht
end Go.Proofs.YtohlajoaheaplaaDoor
