/-
Names: the model's and the program's own check of one, for every string of at most 2^63-1 bytes.
-/
import Derived.Test.YtohlajoaheaplaaDoorCellE
namespace Go.Proofs.YtohlajoaheaplaaDoor
open Go.ChangeShapes Go.WideShapes Go.ChangeAt Go.RowKit
set_option linter.unusedVariables false
def okC (b : Int) (i : Nat) : Bool := (decide (97 ≤ b) && decide (b ≤ 122)) || ((decide (48 ≤ b) && decide (b ≤ 57)) && decide (0 < i))
def nmOk (s : ByteArray) (i : Nat) : Bool := if h : i < s.size then okC (s[i].toNat : Int) i else false
def nameB (s : ByteArray) : Bool := decide (0 < s.size) && decide (s.size ≤ 8) && allB (nmOk s) s.size
theorem nm_at {s : ByteArray} {k : Nat} (h : k < s.size) : nmOk s k = okC (s[k].toNat : Int) k := by simp [nmOk, h]
theorem name_empty {s : ByteArray} (h : s.size = 0) : nameB s = false := by simp [nameB, h]
theorem name_long {s : ByteArray} (h : 8 < s.size) : nameB s = false := by
  have : ¬ s.size ≤ 8 := by omega
  simp [nameB, this]
theorem name_bad {s : ByteArray} {k : Nat} (hk : k < s.size) (h : okC (s[k].toNat : Int) k = false) : nameB s = false := by simp [nameB, allB_no (p := nmOk s) hk (by rw [nm_at hk]; exact h)]
theorem name_all {s : ByteArray} (h0 : 0 < s.size) (h1 : s.size ≤ 8) (h : ∀ i, i < s.size → nmOk s i = true) : nameB s = true := by simp [nameB, h0, h1, allB_yes h]
theorem okC_cases (b : Int) (i : Nat) : (okC b i = true ∧ 97 ≤ b ∧ b ≤ 122) ∨ (48 ≤ b ∧ b ≤ 57 ∧ ((okC b i = true ∧ 0 < i) ∨ (okC b i = false ∧ i = 0))) ∨ (okC b i = false ∧ (b < 48 ∨ (57 < b ∧ b < 97) ∨ 122 < b)) := by
  by_cases h1 : 97 ≤ b
  · by_cases h2 : b ≤ 122
    · exact .inl ⟨by simp [okC, h1, h2], h1, h2⟩
    · have h3 : ¬ b ≤ 57 := by omega
      exact .inr (.inr ⟨by simp [okC, h2, h3], by omega⟩)
  · by_cases h3 : 48 ≤ b
    · by_cases h4 : b ≤ 57
      · refine .inr (.inl ⟨h3, h4, ?_⟩)
        by_cases h5 : 0 < i
        · exact .inl ⟨by simp [okC, h3, h4, h5], h5⟩
        · exact .inr ⟨by simp [okC, h1, h5], by omega⟩
      · exact .inr (.inr ⟨by simp [okC, h1, h4], by omega⟩)
    · exact .inr (.inr ⟨by simp [okC, h1, h3], by omega⟩)
end Go.Proofs.YtohlajoaheaplaaDoor
