/-
Contracts of FormatTime (program and model): the text of a time, for all int64.
-/
import Derived.Test.YtohlajoaheaplaaDoorText
import Derived.Test.YtohlajoaheaplaaDoorShelf
import Derived.Lib.SmallJoins
import Derived.Lib.LaidTab
namespace Go.Proofs.YtohlajoaheaplaaDoor
open Go.ChangeShapes Go.WideShapes Go.ChangeAt Go.RowKit
set_option linter.unusedVariables false
theorem dec_len (n : Int) (h : n ≤ 9223372036854775807) : (Lib.decDigits n.toNat).length ≤ 20 := by rw [Lib.decDigits_length]; exact Lib.nDigits_le20 _ (by omega)
theorem dec_pos (n : Int) : 1 ≤ (Lib.decDigits n.toNat).length := by rw [Lib.decDigits_length]; exact Lib.nDigits_pos _
/-- The text of a time from 0 on. -/
def fmtB (t : Int) : ByteArray := (ByteArray.mk (Lib.decDigits (t / 1000).toNat).toArray ++ ByteArray.mk #[46]) ++ (ByteArray.mk (Lib.decDigits (1000 + t % 1000).toNat).toArray).extract 1 (Lib.decDigits (1000 + t % 1000).toNat).length
/-- The text of a time; empty out of range. -/
def fmtS (t : Int) : ByteArray := if inB t (-1000000000) 1000000000 then (if t < 0 then ByteArray.mk #[45] ++ fmtB (-t) else fmtB t) else ByteArray.mk #[]
theorem fmtB_size (t : Int) (h : t ≤ 9223372036854775807) (h0 : 0 ≤ t) : (fmtB t).size ≤ 41 := by
  have l1 := dec_len (1000 + t % 1000) (by omega)
  have l3 := dec_len (t / 1000) (by omega)
  simp [fmtB, ByteArray.size]
  omega
theorem below_grow (w : World) (k : Nat) (os : Array Obj) : Below w.heap.size w (Sort.grow (w.drewN k) os) :=
  ⟨rfl, rfl, rfl, by simp [Sort.grow], fun i hi => by simp [Sort.grow, Array.getElem?_append_left hi]⟩
theorem gPow : Tryd.prog.globalNamed "internal/strconv.uint64pow10" = some 0 := by kernel_rfl
/-- The library's table of powers of ten is what its text says. -/
def Tab (w : World) : Prop := Lib.TabIs Tryd.prog w "internal/strconv.uint64pow10" .u64 Lib.pow10Tab
theorem Tab.keep {w w' : World} (h : Tab w) (hb : Below w.heap.size w w') : Tab w' := Joins.tab_stays gPow h hb (Nat.le_refl _)
theorem formatInt_any (n : Int) (w : World) (h0 : 0 ≤ n) (h1 : n ≤ 9223372036854775807) (ht : Tab w) : Calls Tryd.prog 34 #[.int .i64 n, .int .i64 10] w fun e w' => e = .returned (.string ⟨(Lib.decDigits n.toNat).toArray⟩) ∧ Below w.heap.size w w' :=
  (Tryd.strconv_FormatInt_10 n (by omega) h1 w ht).mono fun e w' ⟨he, k, os, hw⟩ => by
    have hi : Lib.itoa n = Lib.decDigits n.toNat := by
      have : ¬ n < 0 := by omega
      simp [Lib.itoa, this]
    rw [hi] at he
    subst hw
    exact ⟨he, below_grow w k os⟩
end Go.Proofs.YtohlajoaheaplaaDoor
