/-
The contract of the model's ParseTime, for all strings of at most 2^20 bytes.
-/
import Derived.Test.YteflfmfcmdfenaaDoorTime
import Derived.Test.YteflfmfcmdfenaaDoorTimeBytes
import Derived.LoopTactic
import Derived.Laws.Strings
import Derived.OwnWalk
import Derived.Laws.AppendOwnNone
namespace Go.Proofs.YteflfmfcmdfenaaDoor
open Go.ChangeShapes Go.WideShapes Go.ChangeAt Go.RowKit
set_option linter.unusedVariables false
set_option maxRecDepth 100000
def cellsOfB (l : List UInt8) : List Value := l.map fun c => .int .u8 (c.toNat : Int)
theorem take_snocB (s : ByteArray) (k : Nat) (h : k < s.size) : s.data.toList.take (k + 1) = s.data.toList.take k ++ [s[k]] := by
  rw [List.take_succ_eq_append_getElem (by simpa using h)]; rfl
theorem digs_yes (s : ByteArray) (k : Nat) (h : k < s.size) (hk : keepC s[k] = true) : digs (s.data.toList.take (k + 1)) = digs (s.data.toList.take k) ++ [s[k]] := by
  rw [take_snocB s k h]; simp [digs, List.filter_append, hk]
theorem digs_no (s : ByteArray) (k : Nat) (h : k < s.size) (hk : keepC s[k] = false) : digs (s.data.toList.take (k + 1)) = digs (s.data.toList.take k) := by
  rw [take_snocB s k h]; simp [digs, List.filter_append, hk]
theorem one_cell (w : World) (x : Value) (t : TypeId) : ∀ j u, [x][j]? = some u → (w.alloc (Obj.cells #[x] t)).cell? ((⟨w.heap.size, 0, none⟩ : Addr).add j) = some u := by
  intro j u hj
  have h0 : j = 0 := by
    apply Classical.byContradiction
    intro hn
    rw [List.getElem?_eq_none (by simp; omega)] at hj
    cases hj
  subst h0
  simp at hj
  subst hj
  simp [Addr.add, go_sem]
theorem own_ge {w : World} {base : Nat} {e : TypeId} {size n : Nat} {v : Value} {xs : List Value} (h : w.ownsRow base e size v n xs) : ∀ k, v.ownBlock = some k → base ≤ k := by
  intro k hk
  rcases h.2 with ⟨rfl, _⟩ | ⟨g, cap, cur, rfl, hb, _⟩
  · simp [Value.ownBlock] at hk
  · simp [Value.ownBlock] at hk
    omega
theorem own_slice {w : World} {base : Nat} {e : TypeId} {size n : Nat} {v : Value} {xs : List Value} (h : w.ownsRow base e size v n xs) (hv : v ≠ .slice none 0 0) : ∃ g cap, v = .slice (some ⟨g, 0, none⟩) n cap := by
  rcases h.2 with ⟨e1, _⟩ | ⟨g, cap, cur, e1, _⟩
  · exact absurd e1 hv
  · exact ⟨g, cap, e1⟩
theorem Tryd.infoByte : (Tryd.prog.info? 5).map (fun i => (i.zero, i.size, i.bytes)) = some (some (.int .u8 0), 1, 1) := by kernel_rfl
/-- What ParseTime answers: the valid time whose text s is, or nothing. -/
def ParseP (s : ByteArray) (e : Ending) : Prop := (∃ t : Int, inB t (-1000000000) 1000000000 = true ∧ fmtS t = s ∧ e = .returned (.tuple #[.int .i64 t, .bool true])) ∨ ((∀ t : Int, inB t (-1000000000) 1000000000 = true → fmtS t ≠ s) ∧ e = .returned (.tuple #[.int .i64 0, .bool false]))
def ParseE (s : ByteArray) (w : World) (e : Ending) (w' : World) : Prop := ParseP s e ∧ Below w.heap.size w w'
theorem parse_bad (s : ByteArray) (D : List UInt8) (hD : D = digs s.data.toList) (c : UInt8) (hc : c ∈ D) (hn : ¬ isD c) : ∀ t : Int, inB t (-1000000000) 1000000000 = true → fmtS t ≠ s := by
  intro t ht e
  have f := fmtS_facts t ht
  rw [e, ← hD] at f
  exact hn (f.2.1 c hc)
theorem str_eq {a b : ByteArray} (h : (!a.toList == b.toList) = false) : a = b := by
  have h1 : a.toList = b.toList := by simpa using h
  rw [ByteArray.toList_eq, ByteArray.toList_eq] at h1
  exact bytes_inj h1
theorem str_ne {a b : ByteArray} (h : (!a.toList == b.toList) = true) : a ≠ b := by
  intro e
  rw [e] at h
  simp at h
theorem parse_end (s : ByteArray) (D : List UInt8) (N : Nat) (n : Int) (hD : D = digs s.data.toList) (hS : D.length ≤ 12 → N = dval D) (hn : (s.data.toList.head? = some 45 ∧ n = -(N : Int)) ∨ (¬ s.data.toList.head? = some 45 ∧ n = (N : Int))) :
    (fmtS n = s → inB n (-1000000000) 1000000000 = true) ∧ (fmtS n ≠ s → ∀ t : Int, inB t (-1000000000) 1000000000 = true → fmtS t ≠ s) := by
  constructor
  · intro e
    cases h : inB n (-1000000000) 1000000000
    · have e0 : fmtS n = ByteArray.mk #[] := by simp [fmtS, h]
      have e1 : s.data.toList = [] := by rw [← e, e0]
      have e2 : D = [] := by rw [hD, e1]; rfl
      have e3 : N = 0 := by rw [hS (by rw [e2]; simp), e2]; rfl
      have e4 : n = 0 := by
        rcases hn with ⟨h1, _⟩ | ⟨_, h1⟩
        · rw [e1] at h1; simp at h1
        · omega
      rw [e4] at h
      simp [inB] at h
    · rfl
  · intro hne t ht e
    have f := fmtS_facts t ht
    rw [e, ← hD] at f
    have hv := hS f.1
    have e1 : n = t := by
      have h3 := f.2.2.1
      rcases hn with ⟨h1, h2⟩ | ⟨h1, h2⟩
      · have := f.2.2.2.1 h1
        omega
      · have : ¬ t < 0 := fun h => h1 (f.2.2.2.2 h)
        omega
    rw [e1] at hne
    exact hne e
theorem specParse_any (s : ByteArray) (w : World) (hs : s.size ≤ 1048576) : Calls Tryd.prog 27 #[.string s] w (ParseE s w) := by
  obtain ⟨i0, hi, hz0, hz1, hz2⟩ := info_parts Tryd.infoByte
  go_enter Tryd.func27, Tryd.ntmps27
  go_wp2
  go_loopw [4, 5] (fun v i wr => ∃ k : Nat, k ≤ s.size ∧ i = .int .i64 k ∧ wr.ownsRow w.heap.size 5 1 v (digs (s.data.toList.take k)).length (cellsOfB (digs (s.data.toList.take k))) ∧ Hid (v ≠ .slice none 0 0) ∧ Below w.heap.size w wr) (fun _ i _ => s.size - (intOf i).toNat)
  case atStart =>
    refine ⟨0, by omega, rfl, ?_, Lib.hid (by simp), by (repeat (first | (with_reducible exact Below.refl _ _) | (with_reducible assumption) | (with_reducible refine ext_alloc ?_ _) | (with_reducible refine ext_drew ?_) | (with_reducible refine ext_drewN ?_ _) | (with_reducible refine ext_set ?_ (by first | exact Nat.le_refl _ | (simp; done) | (simp; omega) | omega) _) | (with_reducible refine ext_trans ?_ (by assumption))))⟩
    have h := World.ownsRow_lit (e := 5) (base := w.heap.size) (size := 1) w #[] 0 (Nat.le_refl _) (by unfold maxLen; omega) rfl
    simpa [digs, cellsOfB] using h
  case round =>
    obtain ⟨k, hk, rfl, hown, hvn, hbw⟩ := hrel
    by_cases hlt : k < s.size
    · have hle : (digs (s.data.toList.take k)).length ≤ k := by
        have h1 := List.length_filter_le keepC (s.data.toList.take k)
        have h2 := List.length_take_le k s.data.toList
        unfold digs
        omega
      cases hkc : keepC s[k]
      · have hd := digs_no s k hlt hkc
        have hor : s[k] = 46 ∨ s[k] = 45 := by
          simp only [keepC, Bool.and_eq_false_iff, Bool.not_eq_false', beq_iff_eq] at hkc
          exact hkc
        rcases hor with h1 | h1
        · have q1 : ((s[k].toNat : Int) == 46) = true := by rw [h1]; rfl
          have q2 : ((s[k].toNat : Int) != 46) = false := by rw [h1]; rfl
          clear h1
          have HD := Lib.hid hd
          clear hd
          go_wp2
          go_roundw
          case rel => exact ⟨k + 1, by omega, by go_num, by rw [HD.out]; exact hown, hvn, hbw⟩
          case measure => simp [intOf]; omega
        · have q0 : ((s[k].toNat : Int) == 46) = false := by rw [h1]; rfl
          have q1 : ((s[k].toNat : Int) == 45) = true := by rw [h1]; rfl
          have q2 : ((s[k].toNat : Int) != 46) = true := by rw [h1]; rfl
          have q3 : ((s[k].toNat : Int) != 45) = false := by rw [h1]; rfl
          clear h1
          have HD := Lib.hid hd
          clear hd
          go_wp2
          go_roundw
          case rel => exact ⟨k + 1, by omega, by go_num, by rw [HD.out]; exact hown, hvn, hbw⟩
          case measure => simp [intOf]; omega
      · have hd := digs_yes s k hlt hkc
        have hne : s[k] ≠ 46 ∧ s[k] ≠ 45 := by
          simp only [keepC, Bool.and_eq_true, Bool.not_eq_true', beq_eq_false_iff_ne] at hkc
          exact hkc
        have n1 : ¬ (s[k].toNat : Int) = 46 := fun e => hne.1 (by rw [← UInt8.toNat_inj]; show s[k].toNat = 46; omega)
        have n2 : ¬ (s[k].toNat : Int) = 45 := fun e => hne.2 (by rw [← UInt8.toNat_inj]; show s[k].toNat = 45; omega)
        have q0 : ((s[k].toNat : Int) == 46) = false := by simpa using n1
        have q1 : ((s[k].toNat : Int) == 45) = false := by simpa using n2
        have q2 : ((s[k].toNat : Int) != 46) = true := by simpa using n1
        have q3 : ((s[k].toNat : Int) != 45) = true := by simpa using n2
        have HD := Lib.hid hd
        clear hd n1 n2 hne
        go_wp2_with (at_builtin; refine wpList_append_own _ rfl _ _ 22 rfl w.heap.size 5 i0 (.int .u8 0) 1 1 Tryd.underlying22 hi hz0 hz1 hz2 rfl (by decide) _ _ _ rfl (hown.alloc _) ⟨wr.heap.size, 0, none⟩ 1 1 [.int .u8 (s[k].toNat : Int)] rfl rfl (one_cell wr _ _) (fun u hu => by simp at hu; subst hu; rfl) (by unfold maxLen; omega) (by omega) (by have := hbw.size; simp; omega) ?_; intro v' w1 hown' hgrow hnil)
        have hn' := Lib.hid hnil
        have hb' : Below w.heap.size w w1 := (hbw.alloc hbw.size _).grown hgrow (by have := hbw.size; simp; omega) (own_ge hown)
        clear hnil hgrow
        go_roundw
        case rel => exact ⟨k + 1, by omega, by go_num, by rw [HD.out]; simpa [cellsOfB] using hown', Lib.hid (fun e => by have := (hn'.out.1 e).2; omega), hb'⟩
        case measure => simp [intOf]; omega
    · have hkk : k = s.size := by omega
      subst hkk
      have hall : s.data.toList.take s.size = s.data.toList := List.take_of_length_le (Nat.le_of_eq (sz s))
      rw [hall] at hown
      obtain ⟨g, cap, rfl⟩ := own_slice hown hvn.out
      obtain ⟨D, hD⟩ : ∃ D, D = digs s.data.toList := ⟨_, rfl⟩
      rw [← hD] at hown ⊢
      have HD := Lib.hid hD
      have hml : D.length ≤ s.size := by
        rw [hD]
        have h1 := List.length_filter_le keepC s.data.toList
        have h2 := sz s
        unfold digs
        omega
      clear hall hvn hD
      have HO := Lib.hid hown
      clear hown
      go_wp2_with fail
      go_loop [6, 7] (fun nn i => ∃ j : Nat, j ≤ D.length ∧ (j = 0 ∨ D.length ≤ 12) ∧ i = .int .i64 j ∧ nn = .int .i64 (dval (D.take j) : Nat) ∧ Hid (∀ c ∈ D.take j, isD c) ∧ dval (D.take j) ≤ 999999999999) (fun _ i => D.length - (intOf i).toNat)
      case atStart => exact ⟨0, by omega, .inl rfl, rfl, rfl, Lib.hid (fun c hc => by simp at hc), by simp [dval]⟩
      case round =>
        obtain ⟨j, hj, hj0, rfl, rfl, hdg, hbd⟩ := hrel
        by_cases hx : j < D.length ∧ D.length ≤ 12
        · obtain ⟨hjl, hm⟩ := hx
          have hc : wr.cell? ⟨g, j, none⟩ = some (.int .u8 (D[j].toNat : Int)) := by
            have h1 := HO.out.cellAt j (by omega)
            rw [h1]
            simp [cellsOfB, hjl]
          have htk : D.take (j + 1) = D.take j ++ [D[j]] := List.take_succ_eq_append_getElem hjl
          by_cases d1 : 48 ≤ D[j].toNat
          · by_cases d2 : D[j].toNat ≤ 57
            · have hv : dval (D.take (j + 1)) = 10 * dval (D.take j) + (D[j].toNat - 48) := by rw [htk, dval_snoc]
              have hdg' : ∀ c ∈ D.take (j + 1), isD c := by
                rw [htk]
                intro c hc
                rw [List.mem_append] at hc
                rcases hc with hc | hc
                · exact hdg.out c hc
                · obtain rfl : c = D[j] := by simpa using hc
                  exact ⟨d1, d2⟩
              have hb1 : dval (D.take (j + 1)) ≤ 999999999999 := by
                have h1 := dval_lt _ hdg'
                have h2 : 10 ^ (D.take (j + 1)).length ≤ 10 ^ 12 := Nat.pow_le_pow_right (by omega) (by have := List.length_take_le (j + 1) D; omega)
                omega
              have HV := Lib.hid hv
              have HG := Lib.hid hdg'
              have HB := Lib.hid hb1
              clear hv hdg' hb1 htk
              go_wp2_with fail
              go_round
              case rel => exact ⟨j + 1, by omega, .inr hm, by go_num, by rw [HV.out]; go_num, HG, HB.out⟩
              case measure => simp [intOf]; omega
            · have hbad := parse_bad s D HD.out D[j] (List.getElem_mem hjl) (fun h => d2 h.2)
              have HB := Lib.hid hbad
              clear hbad htk
              go_wp2_with fail
              go_ret2
              exact ⟨.inr ⟨HB.out, rfl⟩, hbw⟩
          · have hbad := parse_bad s D HD.out D[j] (List.getElem_mem hjl) (fun h => d1 h.1)
            have HB := Lib.hid hbad
            clear hbad htk
            go_wp2_with fail
            go_ret2
            exact ⟨.inr ⟨HB.out, rfl⟩, hbw⟩
        · have hN : ∃ N : Nat, N = dval (D.take j) := ⟨_, rfl⟩
          obtain ⟨N, hN⟩ := hN
          have hspec : D.length ≤ 12 → N = dval D := fun hm => by
            have : j = D.length := by omega
            rw [hN, this, List.take_length]
          rw [← hN] at hbd ⊢
          have HS := Lib.hid hspec
          clear hspec hN
          by_cases hneg : s.data.toList.head? = some 45
          · have hs0 : 0 < s.size := by
              rw [← sz s]
              cases hl : s.data.toList with
              | nil => simp [hl] at hneg
              | cons a r => simp
            have hb0 : s[0] = 45 := by
              have : s.data.toList[0]? = some 45 := by rw [← List.head?_eq_getElem?]; exact hneg
              rw [List.getElem?_eq_getElem (by rw [sz]; exact hs0)] at this
              exact Option.some.inj this
            have q : ((s[0].toNat : Int) == 45) = true := by rw [hb0]; rfl
            clear hb0
            have HN := Lib.hid hneg
            clear hneg
            have HE := Lib.hid (parse_end s D N (-(N : Int)) HD.out HS.out (.inl ⟨HN.out, rfl⟩))
            by_cases hx1 : j < D.length
            · have hx2 : ¬ D.length ≤ 12 := by omega
              go_wp2_with (go_at_call 44; refine (specFormat_any _ _).mono ?_; rintro e w1 ⟨rfl, hb⟩)
              · have hq : (!(fmtS (-(N : Int))).toList == s.toList) = true := by assumption
                go_ret2
                exact ⟨.inr ⟨HE.out.2 (str_ne hq), rfl⟩, by (repeat (first | (with_reducible exact Below.refl _ _) | (with_reducible assumption) | (with_reducible refine ext_alloc ?_ _) | (with_reducible refine ext_drew ?_) | (with_reducible refine ext_drewN ?_ _) | (with_reducible refine ext_set ?_ (by first | exact Nat.le_refl _ | (simp; done) | (simp; omega) | omega) _) | (with_reducible refine ext_trans ?_ (by assumption))))⟩
              · have hq : (!(fmtS (-(N : Int))).toList == s.toList) = false := by assumption
                go_ret2
                exact ⟨.inl ⟨_, HE.out.1 (str_eq hq), str_eq hq, rfl⟩, by (repeat (first | (with_reducible exact Below.refl _ _) | (with_reducible assumption) | (with_reducible refine ext_alloc ?_ _) | (with_reducible refine ext_drew ?_) | (with_reducible refine ext_drewN ?_ _) | (with_reducible refine ext_set ?_ (by first | exact Nat.le_refl _ | (simp; done) | (simp; omega) | omega) _) | (with_reducible refine ext_trans ?_ (by assumption))))⟩
            · 
              go_wp2_with (go_at_call 44; refine (specFormat_any _ _).mono ?_; rintro e w1 ⟨rfl, hb⟩)
              · have hq : (!(fmtS (-(N : Int))).toList == s.toList) = true := by assumption
                go_ret2
                exact ⟨.inr ⟨HE.out.2 (str_ne hq), rfl⟩, by (repeat (first | (with_reducible exact Below.refl _ _) | (with_reducible assumption) | (with_reducible refine ext_alloc ?_ _) | (with_reducible refine ext_drew ?_) | (with_reducible refine ext_drewN ?_ _) | (with_reducible refine ext_set ?_ (by first | exact Nat.le_refl _ | (simp; done) | (simp; omega) | omega) _) | (with_reducible refine ext_trans ?_ (by assumption))))⟩
              · have hq : (!(fmtS (-(N : Int))).toList == s.toList) = false := by assumption
                go_ret2
                exact ⟨.inl ⟨_, HE.out.1 (str_eq hq), str_eq hq, rfl⟩, by (repeat (first | (with_reducible exact Below.refl _ _) | (with_reducible assumption) | (with_reducible refine ext_alloc ?_ _) | (with_reducible refine ext_drew ?_) | (with_reducible refine ext_drewN ?_ _) | (with_reducible refine ext_set ?_ (by first | exact Nat.le_refl _ | (simp; done) | (simp; omega) | omega) _) | (with_reducible refine ext_trans ?_ (by assumption))))⟩
          · have HE := Lib.hid (parse_end s D N (N : Int) HD.out HS.out (.inr ⟨hneg, rfl⟩))
            by_cases hs0 : 0 < s.size
            · have hb0 : s[0] ≠ 45 := by
                intro e
                apply hneg
                rw [List.head?_eq_getElem?, List.getElem?_eq_getElem (by rw [sz]; exact hs0)]
                exact congrArg some e
              have q : ((s[0].toNat : Int) == 45) = false := by
                have h1 : ¬ (s[0].toNat : Int) = 45 := fun e => hb0 (by rw [← UInt8.toNat_inj]; show s[0].toNat = 45; omega)
                simpa using h1
              clear hb0 hneg
              by_cases hx1 : j < D.length
              · have hx2 : ¬ D.length ≤ 12 := by omega
                go_wp2_with (go_at_call 44; refine (specFormat_any _ _).mono ?_; rintro e w1 ⟨rfl, hb⟩)
                · have hq : (!(fmtS (N : Int)).toList == s.toList) = true := by assumption
                  go_ret2
                  exact ⟨.inr ⟨HE.out.2 (str_ne hq), rfl⟩, by (repeat (first | (with_reducible exact Below.refl _ _) | (with_reducible assumption) | (with_reducible refine ext_alloc ?_ _) | (with_reducible refine ext_drew ?_) | (with_reducible refine ext_drewN ?_ _) | (with_reducible refine ext_set ?_ (by first | exact Nat.le_refl _ | (simp; done) | (simp; omega) | omega) _) | (with_reducible refine ext_trans ?_ (by assumption))))⟩
                · have hq : (!(fmtS (N : Int)).toList == s.toList) = false := by assumption
                  go_ret2
                  exact ⟨.inl ⟨_, HE.out.1 (str_eq hq), str_eq hq, rfl⟩, by (repeat (first | (with_reducible exact Below.refl _ _) | (with_reducible assumption) | (with_reducible refine ext_alloc ?_ _) | (with_reducible refine ext_drew ?_) | (with_reducible refine ext_drewN ?_ _) | (with_reducible refine ext_set ?_ (by first | exact Nat.le_refl _ | (simp; done) | (simp; omega) | omega) _) | (with_reducible refine ext_trans ?_ (by assumption))))⟩
              · 
                go_wp2_with (go_at_call 44; refine (specFormat_any _ _).mono ?_; rintro e w1 ⟨rfl, hb⟩)
                · have hq : (!(fmtS (N : Int)).toList == s.toList) = true := by assumption
                  go_ret2
                  exact ⟨.inr ⟨HE.out.2 (str_ne hq), rfl⟩, by (repeat (first | (with_reducible exact Below.refl _ _) | (with_reducible assumption) | (with_reducible refine ext_alloc ?_ _) | (with_reducible refine ext_drew ?_) | (with_reducible refine ext_drewN ?_ _) | (with_reducible refine ext_set ?_ (by first | exact Nat.le_refl _ | (simp; done) | (simp; omega) | omega) _) | (with_reducible refine ext_trans ?_ (by assumption))))⟩
                · have hq : (!(fmtS (N : Int)).toList == s.toList) = false := by assumption
                  go_ret2
                  exact ⟨.inl ⟨_, HE.out.1 (str_eq hq), str_eq hq, rfl⟩, by (repeat (first | (with_reducible exact Below.refl _ _) | (with_reducible assumption) | (with_reducible refine ext_alloc ?_ _) | (with_reducible refine ext_drew ?_) | (with_reducible refine ext_drewN ?_ _) | (with_reducible refine ext_set ?_ (by first | exact Nat.le_refl _ | (simp; done) | (simp; omega) | omega) _) | (with_reducible refine ext_trans ?_ (by assumption))))⟩
            · clear hneg
              by_cases hx1 : j < D.length
              · exact absurd hx1 (by omega)
              · 
                go_wp2_with (go_at_call 44; refine (specFormat_any _ _).mono ?_; rintro e w1 ⟨rfl, hb⟩)
                · have hq : (!(fmtS (N : Int)).toList == s.toList) = true := by assumption
                  go_ret2
                  exact ⟨.inr ⟨HE.out.2 (str_ne hq), rfl⟩, by (repeat (first | (with_reducible exact Below.refl _ _) | (with_reducible assumption) | (with_reducible refine ext_alloc ?_ _) | (with_reducible refine ext_drew ?_) | (with_reducible refine ext_drewN ?_ _) | (with_reducible refine ext_set ?_ (by first | exact Nat.le_refl _ | (simp; done) | (simp; omega) | omega) _) | (with_reducible refine ext_trans ?_ (by assumption))))⟩
                · have hq : (!(fmtS (N : Int)).toList == s.toList) = false := by assumption
                  go_ret2
                  exact ⟨.inl ⟨_, HE.out.1 (str_eq hq), str_eq hq, rfl⟩, by (repeat (first | (with_reducible exact Below.refl _ _) | (with_reducible assumption) | (with_reducible refine ext_alloc ?_ _) | (with_reducible refine ext_drew ?_) | (with_reducible refine ext_drewN ?_ _) | (with_reducible refine ext_set ?_ (by first | exact Nat.le_refl _ | (simp; done) | (simp; omega) | omega) _) | (with_reducible refine ext_trans ?_ (by assumption))))⟩
end Go.Proofs.YteflfmfcmdfenaaDoor
