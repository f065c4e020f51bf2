/-
The contract of the program's ParseTime, for all strings of at most 2^20 bytes, where the library's variables are as its text lays them.
-/
import Derived.Test.YtckccpcigkbfmaaDoorParse
import Derived.Test.YtckccpcigkbfmaaDoorTimeBack
import Derived.Lib.AtoiErrMem
import Derived.WalkSmall
namespace Go.Proofs.YtckccpcigkbfmaaDoor
open Go.ChangeShapes Go.WideShapes Go.ChangeAt Go.RowKit
set_option linter.unusedVariables false
set_option maxRecDepth 100000
theorem cut_len (s sep : List UInt8) : (Lib.cut s sep).1.length ≤ s.length ∧ (Lib.cut s sep).2.1.length ≤ s.length := by
  unfold Lib.cut
  split
  · simp only [List.length_take, List.length_drop]
    omega
  · simp
theorem read_ok {s : ByteArray} {p q : List UInt8} (hp : p = (Lib.cut s.data.toList [46]).1) (hq : q = (Lib.cut s.data.toList [46]).2.1) (t : Int) (h : inB t (-1000000000) 1000000000 = true) (e : fmtS t = s) : Lib.parseIntB 64 (p ++ q) = .ok t := by
  rw [hp, hq, ← e]
  exact read_back t h
theorem parse_in {s : ByteArray} {p q : List UInt8} (hp : p = (Lib.cut s.data.toList [46]).1) (hq : q = (Lib.cut s.data.toList [46]).2.1) (v : Int) (hv : Lib.parseIntB 64 (p ++ q) = .ok v) (e : fmtS v = s) : inB v (-1000000000) 1000000000 = true := by
  cases h : inB v (-1000000000) 1000000000
  · have e0 : fmtS v = ByteArray.mk #[] := by simp [fmtS, h]
    have e1 : s.data.toList = [] := by rw [← e, e0]
    have e2 : Lib.cut [] [46] = ([], [], false) := by decide
    rw [hp, hq, e1, e2] at hv
    cases hv
  · rfl
def Errs (w : World) : Prop := (∃ tp p, w.var? Tryd.prog "strconv.ErrSyntax" = some #[.iface tp p]) ∧ ∃ tp p, w.var? Tryd.prog "strconv.ErrRange" = some #[.iface tp p]
theorem eSyn : Tryd.prog.globalNamed "strconv.ErrSyntax" = some 1 := by kernel_rfl
theorem eRan : Tryd.prog.globalNamed "strconv.ErrRange" = some 2 := by kernel_rfl
theorem var_lt {P : Program} {W : World} {n : String} {g : Nat} {cs : Array Value} (hg : P.globalNamed n = some g) (hv : W.var? P n = some cs) : g < W.heap.size := by
  unfold World.var? at hv
  simp only [hg, Option.bind_some] at hv
  apply Classical.byContradiction
  intro hn
  rw [Array.getElem?_eq_none (by omega)] at hv
  simp at hv
theorem Errs.keep {w w' : World} (h : Errs w) (hb : Below w.heap.size w w') : Errs w' := by
  obtain ⟨⟨t0, p0, h0⟩, t1, p1, h1⟩ := h
  exact ⟨⟨t0, p0, var?_below hb eSyn (var_lt eSyn h0) h0⟩, t1, p1, var?_below hb eRan (var_lt eRan h1) h1⟩
def MaxLen (w : World) (m : Int) : Prop := w.cell? ⟨0, 0, none⟩ = some (.int .i64 m)
theorem MaxLen.keep {w w' : World} {m : Int} (h : MaxLen w m) (hb : Below w.heap.size w w') : MaxLen w' m := cell_keep h hb
theorem maxLen_of {w : World} (h : w.ShapedOpen Tryd.prog) : ∃ m, MaxLen w m :=
  Go.Proofs.cell_of_shapedOpen_int (zero := #[.int .i64 0]) (t := 3) h (of_decide_eq_true (by kernel_rfl)) (by kernel_rfl) rfl (by kernel_rfl) (by kernel_rfl) Tryd.underlying3
end Go.Proofs.YtckccpcigkbfmaaDoor
