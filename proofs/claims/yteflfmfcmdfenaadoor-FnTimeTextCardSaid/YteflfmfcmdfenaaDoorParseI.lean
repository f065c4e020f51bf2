/-
The contract of the program's ParseTime, for all strings of at most 2^20 bytes, where the library's variables are as its text lays them.
-/
import Derived.Test.YteflfmfcmdfenaaDoorParse
import Derived.Test.YteflfmfcmdfenaaDoorTimeBack
import Derived.Lib.AtoiErrMem
import Derived.WalkSmall
namespace Go.Proofs.YteflfmfcmdfenaaDoor
open Go.ChangeShapes Go.WideShapes Go.ChangeAt Go.RowKit
set_option linter.unusedVariables false
set_option maxRecDepth 100000
theorem cut_len (s sep : List UInt8) : (Lib.cut s sep).1.length ≤ s.length ∧ (Lib.cut s sep).2.1.length ≤ s.length := by
  unfold Lib.cut
  split
  · simp only [List.length_take, List.length_drop]
    omega
  · simp
theorem read_ok {s : ByteArray} {p q : List UInt8} (hp : p = (Lib.cut s.data.toList [46]).1) (hq : q = (Lib.cut s.data.toList [46]).2.1) (t : Int) (h : inB t (-1000000000) 1000000000 = true) (e : fmtS t = s) : Lib.parseIntB 64 (p ++ q) = .ok t := by
  rw [hp, hq, ← e]
  exact read_back t h
theorem parse_in {s : ByteArray} {p q : List UInt8} (hp : p = (Lib.cut s.data.toList [46]).1) (hq : q = (Lib.cut s.data.toList [46]).2.1) (v : Int) (hv : Lib.parseIntB 64 (p ++ q) = .ok v) (e : fmtS v = s) : inB v (-1000000000) 1000000000 = true := by
  cases h : inB v (-1000000000) 1000000000
  · have e0 : fmtS v = ByteArray.mk #[] := by simp [fmtS, h]
    have e1 : s.data.toList = [] := by rw [← e, e0]
    have e2 : Lib.cut [] [46] = ([], [], false) := by decide
    rw [hp, hq, e1, e2] at hv
    cases hv
  · rfl
def Errs (w : World) : Prop := (∃ tp p, w.var? Tryd.prog "strconv.ErrSyntax" = some #[.iface tp p]) ∧ ∃ tp p, w.var? Tryd.prog "strconv.ErrRange" = some #[.iface tp p]
theorem eSyn : Tryd.prog.globalNamed "strconv.ErrSyntax" = some 2 := by kernel_rfl
theorem eRan : Tryd.prog.globalNamed "strconv.ErrRange" = some 3 := by kernel_rfl
theorem var_lt {P : Program} {W : World} {n : String} {g : Nat} {cs : Array Value} (hg : P.globalNamed n = some g) (hv : W.var? P n = some cs) : g < W.heap.size := by
  unfold World.var? at hv
  simp only [hg, Option.bind_some] at hv
  apply Classical.byContradiction
  intro hn
  rw [Array.getElem?_eq_none (by omega)] at hv
  simp at hv
theorem Errs.keep {w w' : World} (h : Errs w) (hb : Below w.heap.size w w') : Errs w' := by
  obtain ⟨⟨t0, p0, h0⟩, t1, p1, h1⟩ := h
  exact ⟨⟨t0, p0, var?_below hb eSyn (var_lt eSyn h0) h0⟩, t1, p1, var?_below hb eRan (var_lt eRan h1) h1⟩
def MaxLen (w : World) (m : Int) : Prop := w.cell? ⟨0, 0, none⟩ = some (.int .i64 m)
theorem MaxLen.keep {w w' : World} {m : Int} (h : MaxLen w m) (hb : Below w.heap.size w w') : MaxLen w' m := cell_keep h hb
theorem maxLen_of {w : World} (h : w.ShapedOpen Tryd.prog) : ∃ m, MaxLen w m :=
  Go.Proofs.cell_of_shapedOpen_int (zero := #[.int .i64 0]) (t := 3) h (of_decide_eq_true (by kernel_rfl)) (by kernel_rfl) rfl (by kernel_rfl) (by kernel_rfl) Tryd.underlying3
/-- What both ParseTime answer at one string is the same. -/
theorem back_inj {t u : Int} {s : ByteArray} (h1 : inB t (-1000000000) 1000000000 = true) (e1 : fmtS t = s) (h2 : inB u (-1000000000) 1000000000 = true) (e2 : fmtS u = s) : u = t := by
  have a := read_ok rfl rfl t h1 e1
  have b := read_ok rfl rfl u h2 e2
  rw [a] at b
  injection b with b
  exact b.symm
theorem parse_tuple {s : ByteArray} {e : Ending} (h : ParseP s e) : ∃ (t : Int) (b : Bool), e = .returned (.tuple #[.int .i64 t, .bool b]) ∧ ∀ {e' : Ending}, ParseP s e' → e' = .returned (.tuple #[.int .i64 t, .bool b]) := by
  rcases h with ⟨t, h1, h2, rfl⟩ | ⟨h1, rfl⟩
  · refine ⟨t, true, rfl, ?_⟩
    rintro e' (⟨u, g1, g2, rfl⟩ | ⟨g1, rfl⟩)
    · rw [back_inj h1 h2 g1 g2]
    · exact absurd h2 (g1 t h1)
  · refine ⟨0, false, rfl, ?_⟩
    rintro e' (⟨u, g1, g2, rfl⟩ | ⟨g1, rfl⟩)
    · exact absurd g2 (h1 u g1)
    · rfl
theorem implParse_any (s : ByteArray) (w : World) (m : Int) (hs : s.size ≤ 1048576) (hsh : MaxLen w m) (ht : Tab w) (he : Errs w) : Calls Tryd.prog 18 #[.string s] w (ParseE s w) := by
  have HT := Lib.hid ht
  have HE := Lib.hid he
  clear ht he
  go_enter Tryd.func18, Tryd.ntmps18
  go_wp2_with fail
  go_at_call 30
  refine (Tryd.strings_Cut s ⟨#[46]⟩ m w (by omega) hsh).mono ?_
  rintro e w1 ⟨rfl, n, rfl⟩
  clear hsh
  have hcl := cut_len s.data.toList [46]
  rw [sz] at hcl
  obtain ⟨p, hp⟩ : ∃ p, p = (Lib.cut s.data.toList [46]).1 := ⟨_, rfl⟩
  obtain ⟨q, hq⟩ : ∃ q, q = (Lib.cut s.data.toList [46]).2.1 := ⟨_, rfl⟩
  obtain ⟨b, hb⟩ : ∃ b, b = (Lib.cut s.data.toList [46]).2.2 := ⟨_, rfl⟩
  have e46 : (ByteArray.mk #[46]).data.toList = [46] := rfl
  rw [e46, ← hp, ← hq, ← hb]
  rw [← hp, ← hq] at hcl
  obtain ⟨l1, l2⟩ := hcl
  have HP := Lib.hid hp
  have HQ := Lib.hid hq
  clear hp hq hb e46
  go_wp2_with fail
  have hS : (ByteArray.mk p.toArray ++ ByteArray.mk q.toArray).data.toList = p ++ q := by simp [ByteArray.data_append]
  have hz : (ByteArray.mk p.toArray ++ ByteArray.mk q.toArray).size ≤ 2097152 := by
    rw [← sz, hS, List.length_append]
    omega
  have hr0 : Below w.heap.size w (w.drewN n) := by (repeat (first | (with_reducible exact Below.refl _ _) | (with_reducible assumption) | (with_reducible refine ext_alloc ?_ _) | (with_reducible refine ext_drew ?_) | (with_reducible refine ext_drewN ?_ _) | (with_reducible refine ext_set ?_ (by first | exact Nat.le_refl _ | (simp; done) | (simp; omega) | omega) _) | (with_reducible refine ext_trans ?_ (by assumption))))
  rcases hpi : Lib.parseIntB 64 (p ++ q) with v | _ | _
  ·
    go_at_call 43
    refine (Tryd.strconv_ParseInt_10_at64_ok _ (by omega) v (by rw [hS]; exact hpi) _).mono ?_
    rintro e w2 ⟨rfl, hw⟩
    have hb2 : Below w.heap.size w w2 := by
      rcases hw with rfl | ⟨t, rfl⟩
      · exact hr0
      · exact ext_trans hr0 (Lib.bytesWorld_below _ _ _)
    have HI := Lib.hid hpi
    clear hpi hw hS hz hr0
    go_wp2_with (go_at_call 17; refine (implFormat_any _ _ (HT.out.keep (by (repeat (first | (with_reducible exact Below.refl _ _) | (with_reducible assumption) | (with_reducible refine ext_alloc ?_ _) | (with_reducible refine ext_drew ?_) | (with_reducible refine ext_drewN ?_ _) | (with_reducible refine ext_set ?_ (by first | exact Nat.le_refl _ | (simp; done) | (simp; omega) | omega) _) | (with_reducible refine ext_trans ?_ (by assumption))))))).mono ?_; rintro e w3 ⟨rfl, hb⟩)
    · have hq : (!(fmtS v).toList == s.toList) = true := by assumption
      go_ret2
      refine ⟨.inr ⟨fun t ht e => ?_, rfl⟩, by (repeat (first | (with_reducible exact Below.refl _ _) | (with_reducible assumption) | (with_reducible refine ext_alloc ?_ _) | (with_reducible refine ext_drew ?_) | (with_reducible refine ext_drewN ?_ _) | (with_reducible refine ext_set ?_ (by first | exact Nat.le_refl _ | (simp; done) | (simp; omega) | omega) _) | (with_reducible refine ext_trans ?_ (by assumption))))⟩
      have h1 := read_ok HP.out HQ.out t ht e
      rw [HI.out] at h1
      have h2 : v = t := by injection h1
      rw [h2] at hq
      exact str_ne hq e
    · have hq : (!(fmtS v).toList == s.toList) = false := by assumption
      go_ret2
      exact ⟨.inl ⟨_, parse_in HP.out HQ.out v HI.out (str_eq hq), str_eq hq, rfl⟩, by (repeat (first | (with_reducible exact Below.refl _ _) | (with_reducible assumption) | (with_reducible refine ext_alloc ?_ _) | (with_reducible refine ext_drew ?_) | (with_reducible refine ext_drewN ?_ _) | (with_reducible refine ext_set ?_ (by first | exact Nat.le_refl _ | (simp; done) | (simp; omega) | omega) _) | (with_reducible refine ext_trans ?_ (by assumption))))⟩
  ·
    obtain ⟨tp, pv, hvar⟩ := HE.out.1
    go_at_call 43
    have hvar' : (w.drewN n).var? Tryd.prog "strconv.ErrSyntax" = some #[.iface tp pv] := hvar
    have hcon := Tryd.strconv_ParseInt_10_at64_syntax_var (ByteArray.mk p.toArray ++ ByteArray.mk q.toArray) (by omega) (by rw [hS]; exact hpi) tp pv (w.drewN n) hvar'
    refine hcon.mono ?_
    clear hcon hvar'
    rintro e w2 ⟨N, rfl, hN, hw, hb⟩
    have hno : ∀ t : Int, inB t (-1000000000) 1000000000 = true → fmtS t ≠ s := fun t ht e => by
      have h1 := read_ok HP.out HQ.out t ht e
      rw [hpi] at h1
      cases h1
    have HX := Lib.hid hno
    have hb2 : Below w.heap.size w w2 := ext_trans hr0 hb
    clear hno hw hS hz hpi hb hvar
    go_wp2_with fail
    go_ret2
    exact ⟨.inr ⟨HX.out, rfl⟩, by (repeat (first | (with_reducible exact Below.refl _ _) | (with_reducible assumption) | (with_reducible refine ext_alloc ?_ _) | (with_reducible refine ext_drew ?_) | (with_reducible refine ext_drewN ?_ _) | (with_reducible refine ext_set ?_ (by first | exact Nat.le_refl _ | (simp; done) | (simp; omega) | omega) _) | (with_reducible refine ext_trans ?_ (by assumption))))⟩
  ·
    obtain ⟨tp, pv, hvar⟩ := HE.out.2
    go_at_call 43
    have hvar' : (w.drewN n).var? Tryd.prog "strconv.ErrRange" = some #[.iface tp pv] := hvar
    have hcon := Tryd.strconv_ParseInt_10_at64_range_var (ByteArray.mk p.toArray ++ ByteArray.mk q.toArray) (by omega) (by rw [hS]; exact hpi) tp pv (w.drewN n) hvar'
    refine hcon.mono ?_
    clear hcon hvar'
    rintro e w2 ⟨N, rfl, hN, hw, hb⟩
    have hno : ∀ t : Int, inB t (-1000000000) 1000000000 = true → fmtS t ≠ s := fun t ht e => by
      have h1 := read_ok HP.out HQ.out t ht e
      rw [hpi] at h1
      cases h1
    have HX := Lib.hid hno
    have hb2 : Below w.heap.size w w2 := ext_trans hr0 hb
    clear hno hw hS hz hpi hb hvar
    go_wp2_with fail
    go_ret2
    exact ⟨.inr ⟨HX.out, rfl⟩, by (repeat (first | (with_reducible exact Below.refl _ _) | (with_reducible assumption) | (with_reducible refine ext_alloc ?_ _) | (with_reducible refine ext_drew ?_) | (with_reducible refine ext_drewN ?_ _) | (with_reducible refine ext_set ?_ (by first | exact Nat.le_refl _ | (simp; done) | (simp; omega) | omega) _) | (with_reducible refine ext_trans ?_ (by assumption))))⟩
end Go.Proofs.YteflfmfcmdfenaaDoor
