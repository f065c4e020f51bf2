/-
The model's l01Split: a list of strings of its own, the text cut at every byte c.
-/
import Derived.Test.YtmoolajapgacmaaGreatDoorRead
import Derived.Test.YtmoolajapgacmaaGreatDoorParse
import Derived.Laws.OwnMore
namespace Go.Proofs.YtmoolajapgacmaaGreatDoor
open Go.ChangeShapes Go.WideShapes Go.ChangeAt Go.RowKit Go.Deep
set_option linter.unusedVariables false
set_option linter.unusedSimpArgs false
/-- Strings under construction, in a block of their own not below base. -/
def GS (w : World) (base : Nat) (v : Value) (us : List ByteArray) : Prop := w.ownsRow base 9 1 v us.length (us.map Value.string)
theorem GS.blk {w : World} {base : Nat} {v : Value} {us : List ByteArray} (h : GS w base v us) : ∀ k, v.ownBlock = some k → base ≤ k := fun k hk => (World.ownsRow.lt h k hk).1
theorem GS.below {w w' : World} {base : Nat} {v : Value} {us : List ByteArray} (h : GS w base v us) (hb : Below w.heap.size w w') : GS w' base v us :=
  World.ownsRow.kept (row := none) h ⟨hb.os, hb.tape, hb.output, hb.size, fun k hk _ => hb.block k hk⟩ (by
    cases hv : v.ownBlock with
    | none => exact .inl rfl
    | some k => exact .inr (by simp))
theorem GS.lit (w : World) (base g : Nat) (hb : base ≤ w.heap.size) (hg : g = w.heap.size) (t : TypeId) (ht : t = 9) : GS (w.alloc (.cells #[] t)) base (.slice (some ⟨g, 0, none⟩) 0 0) [] := by
  subst ht; subst hg
  exact World.ownsRow_lit (e := 9) (base := base) (size := 1) w #[] 0 hb (by unfold maxLen; omega) rfl
/-- A list of strings that stands. -/
def StrS (w : World) (B : Nat) (v : Value) (us : List ByteArray) : Prop := ∃ a cap, v = .slice a us.length cap ∧ (0 < us.length → ∃ g, a = some ⟨g, 0, none⟩ ∧ g < B ∧ ∀ i (hi : i < us.length), w.cell? ⟨g, i, none⟩ = some (.string us[i]))
theorem GS.out {w : World} {base : Nat} {v : Value} {us : List ByteArray} (h : GS w base v us) : StrS w w.heap.size v us := by
  have h2 := h.2
  rcases h2 with ⟨rfl, h0⟩ | ⟨g, cap, cur, rfl, hb, hgg, _, _, _, _⟩
  · exact ⟨none, 0, by rw [h0], fun hp => absurd hp (by omega)⟩
  · refine ⟨_, cap, rfl, fun hp => ⟨g, rfl, (Array.getElem?_eq_some_iff.1 hgg).1, fun i hi => ?_⟩⟩
    have hc := World.ownsRow.cellAt h i (by omega)
    rw [hc]
    simp [hi]
theorem StrS.up {w w' : World} {v : Value} {us : List ByteArray} (h : StrS w w.heap.size v us) (hb : Below w.heap.size w w') : StrS w' w'.heap.size v us := by
  obtain ⟨a, cap, rfl, h⟩ := h
  refine ⟨a, cap, rfl, fun hp => ?_⟩
  obtain ⟨g, rfl, hg, hx⟩ := h hp
  exact ⟨g, rfl, Nat.lt_of_lt_of_le hg hb.size, fun i hi => by rw [hb.cell (by exact hg)]; exact hx i hi⟩
theorem one_cellS (w : World) (x : Value) (t : TypeId) (g : Nat) (hg : g = w.heap.size) : ∀ j u, [x][j]? = some u → (w.alloc (Obj.cells #[x] t)).cell? ((⟨g, 0, none⟩ : Addr).add j) = some u := by
  subst hg
  exact one_cell w x t
theorem Tryz.infoS8 : (Tryz.prog.info? 9).map (fun i => (i.zero, i.size, i.bytes)) = some (some (.string ⟨#[]⟩), 1, 16) := by kernel_rfl
theorem grown_inS {a b c : World} {v : Value} {base : Nat} (h : Below base a b) (hs : base ≤ b.heap.size) (hg : b.grownBy c v.ownBlock) (hv : ∀ k, v.ownBlock = some k → base ≤ k) : Below base a c := h.grown hg hs (fun k hk => hv k hk)
theorem ext_list (s : ByteArray) (f k : Nat) (hf : f ≤ k) (hk : k ≤ s.size) : (s.extract f k).data.toList = (s.data.toList.drop f).take (k - f) := by
  rw [ByteArray.data_extract, Array.toList_extract]
/-- The cut text so far: f is where the next word begins, k what is looked at. -/
def CutTo (c : UInt8) (l : List UInt8) (us : List ByteArray) (f k : Nat) : Prop :=
  (k ≤ l.length ∧ f ≤ k ∧ us.map (·.data.toList) ++ spl c (l.drop f) = spl c l ∧ ∀ x ∈ (l.drop f).take (k - f), x ≠ c) ∨ (k = l.length + 1 ∧ us.map (·.data.toList) = spl c l)
theorem cut_0 (c : UInt8) (l : List UInt8) : CutTo c l [] 0 0 := .inl ⟨by omega, by omega, by simp, by simp⟩
theorem drop_part {l : List UInt8} {f k : Nat} (hf : f ≤ k) (hk : k < l.length) : l.drop f = (l.drop f).take (k - f) ++ l[k] :: l.drop (k + 1) := by
  have h1 : l.drop f = (l.drop f).take (k - f) ++ (l.drop f).drop (k - f) := (List.take_append_drop _ _).symm
  have h2 : (l.drop f).drop (k - f) = l.drop k := by rw [List.drop_drop]; congr 1; omega
  rw [h2, List.drop_eq_getElem_cons hk] at h1
  exact h1
theorem cut_hit {c : UInt8} {s : ByteArray} {us : List ByteArray} {f k : Nat} (h : CutTo c s.data.toList us f k) (hk : k < s.size) (hc : s[k] = c) : CutTo c s.data.toList (us ++ [s.extract f k]) (k + 1) (k + 1) := by
  have hl := sz s
  rcases h with ⟨h0, h1, h2, h3⟩ | ⟨h0, _⟩
  · refine .inl ⟨by omega, by omega, ?_, by simp⟩
    have hk' : k < s.data.toList.length := by omega
    have e : s.data.toList[k] = c := by rw [← hc]; rfl
    have hd := drop_part h1 hk'
    rw [e] at hd
    have hs := spl_hit c _ (s.data.toList.drop (k + 1)) h3
    rw [← hd] at hs
    rw [hs] at h2
    rw [← h2, List.map_append, List.append_assoc]
    congr 1
    simp only [List.map_cons, List.map_nil, ext_list s f k h1 (by omega)]
    rfl
  · omega
theorem cut_miss {c : UInt8} {s : ByteArray} {us : List ByteArray} {f k : Nat} (h : CutTo c s.data.toList us f k) (hk : k < s.size) (hc : s[k] ≠ c) : CutTo c s.data.toList us f (k + 1) := by
  have hl := sz s
  rcases h with ⟨h0, h1, h2, h3⟩ | ⟨h0, _⟩
  · refine .inl ⟨by omega, by omega, h2, fun x hx => ?_⟩
    have hk' : k < s.data.toList.length := by omega
    have hd := drop_part h1 hk'
    have e : (s.data.toList.drop f).take (k + 1 - f) = (s.data.toList.drop f).take (k - f) ++ [s.data.toList[k]] := by
      rw [show k + 1 - f = (k - f) + 1 by omega, List.take_succ_eq_append_getElem (by simp; omega)]
      congr 1
      simp [show f + (k - f) = k by omega]
    rw [e, List.mem_append] at hx
    rcases hx with hx | hx
    · exact h3 x hx
    · obtain rfl : x = s.data.toList[k] := by simpa using hx
      exact hc
  · omega
theorem cut_last {c : UInt8} {s : ByteArray} {us : List ByteArray} {f : Nat} (h : CutTo c s.data.toList us f s.size) : CutTo c s.data.toList (us ++ [s.extract f s.size]) (s.size + 1) (s.size + 1) := by
  have hl := sz s
  rcases h with ⟨h0, h1, h2, h3⟩ | ⟨h0, _⟩
  · refine .inr ⟨by omega, ?_⟩
    have hall : (s.data.toList.drop f).take (s.size - f) = s.data.toList.drop f := List.take_of_length_le (by rw [List.length_drop]; omega)
    rw [hall] at h3
    rw [spl_last c _ h3] at h2
    rw [← h2, List.map_append]
    congr 1
    simp only [List.map_cons, List.map_nil, ext_list s f s.size h1 (by omega), hall]
  · omega
theorem cut_from {c : UInt8} {l : List UInt8} {us : List ByteArray} {f k : Nat} (h : CutTo c l us f k) (hk : k ≤ l.length) : f ≤ k := by
  rcases h with ⟨_, h1, _⟩ | ⟨h0, _⟩ <;> omega
theorem cut_end {c : UInt8} {l : List UInt8} {us : List ByteArray} {f k : Nat} (h : CutTo c l us f k) (hk : k = l.length + 1) : us.map (·.data.toList) = spl c l := by
  rcases h with ⟨h0, _⟩ | ⟨_, h⟩
  · omega
  · exact h
theorem cut_count {c : UInt8} {l : List UInt8} {us : List ByteArray} {f k : Nat} (h : CutTo c l us f k) : us.length ≤ l.length + 1 := by
  have hs := spl_len c l
  rcases h with ⟨_, _, h, _⟩ | ⟨_, h⟩
  · have := congrArg List.length h
    simp at this
    omega
  · have := congrArg List.length h
    simp at this
    omega
def SplitP (c : UInt8) (s : ByteArray) (w : World) (e : Ending) (w' : World) : Prop := ∃ v us, e = .returned v ∧ GS w' w.heap.size v us ∧ us.map (·.data.toList) = spl c s.data.toList ∧ Below w.heap.size w w'
set_option maxHeartbeats 2000000 in
set_option maxRecDepth 100000 in
theorem split_any (s : ByteArray) (c : UInt8) (w : World) (hs : s.size ≤ 1048576) : Calls Tryz.prog 73 #[.string s, .int .u8 (c.toNat : Int)] w (SplitP c s w) := by
  obtain ⟨i0, hi, hz0, hz1, hz2⟩ := info_parts Tryz.infoS8
  have hl := sz s
  have G0 := Lib.hid (GS.lit w w.heap.size w.heap.size (Nat.le_refl _) rfl 9 rfl)
  go_enter Tryz.func73, Tryz.ntmps73
  go_wp2
  go_loopw [7, 6, 5] (fun i f v wr => ∃ (k q : Nat) (us : List ByteArray), k ≤ s.size + 1 ∧ i = .int .i64 k ∧ f = .int .i64 q ∧ Hid (GS wr w.heap.size v us) ∧ Hid (CutTo c s.data.toList us q k) ∧ Below w.heap.size w wr) (fun i _ _ _ => s.size + 1 - (intOf i).toNat)
  case atStart => exact ⟨0, 0, [], by omega, rfl, rfl, G0, Lib.hid (cut_0 _ _), by (repeat (first | (with_reducible exact Below.refl _ _) | (with_reducible assumption) | (with_reducible refine ext_alloc ?_ _) | (with_reducible refine ext_drew ?_) | (with_reducible refine ext_drewN ?_ _) | (with_reducible refine ext_set ?_ (by first | exact Nat.le_refl _ | (simp; done) | (simp; omega) | omega) _) | (with_reducible refine ext_trans ?_ (by assumption))))⟩
  case round =>
    clear G0
    obtain ⟨k, q, us, hk, rfl, rfl, O, C, hbw⟩ := hrel
    have hcnt := cut_count C.out
    have hsz := hbw.size
    by_cases hlt : k < s.size
    · have hq : q ≤ k := cut_from C.out (by omega)
      have hk0 : ((k : Int) == (s.size : Int)) = false := by simp; omega
      have hkl : (k : Int) ≤ (s.size : Int) := by omega
      by_cases hc : s[k] = c
      · have q1 : ((s[k].toNat : Int) == (c.toNat : Int)) = true := by rw [hc]; simp
        have C1 := Lib.hid (cut_hit C.out hlt hc)
        have hblk := O.out.blk
        clear C hc
        go_wp2_with (at_builtin; go_loud (refine wpList_append_own _ rfl _ _ 74 rfl w.heap.size 9 i0 (.string ⟨#[]⟩) 1 16 Tryz.underlying74 hi hz0 hz1 hz2 rfl (by decide) _ _ _ rfl (GS.below O.out (by (repeat (first | (with_reducible exact Below.refl _ _) | (with_reducible assumption) | (with_reducible refine ext_alloc ?_ _) | (with_reducible refine ext_drew ?_) | (with_reducible refine ext_drewN ?_ _) | (with_reducible refine ext_set ?_ (by first | exact Nat.le_refl _ | (simp; done) | (simp; omega) | omega) _) | (with_reducible refine ext_trans ?_ (by assumption)))))) ⟨_, 0, none⟩ 1 1 [.string (s.extract q k)] rfl rfl (one_cellS _ _ _ _ (by simp)) (fun u hu => by simp at hu; subst hu; rfl) (by unfold maxLen; omega) (by omega) (by simp; omega) ?_); intro v' w1 hown' hgrow hnil)
        have O1 := Lib.hid (show GS w1 w.heap.size v' (us ++ [s.extract q k]) by simpa [GS] using hown')
        have B1 : Below w.heap.size w w1 := grown_inS (by (repeat (first | (with_reducible exact Below.refl _ _) | (with_reducible assumption) | (with_reducible refine ext_alloc ?_ _) | (with_reducible refine ext_drew ?_) | (with_reducible refine ext_drewN ?_ _) | (with_reducible refine ext_set ?_ (by first | exact Nat.le_refl _ | (simp; done) | (simp; omega) | omega) _) | (with_reducible refine ext_trans ?_ (by assumption))))) (by simp; omega) hgrow hblk
        clear hown' hgrow hnil hblk O
        go_wp2
        go_roundw
        case rel => exact ⟨k + 1, k + 1, _, by omega, by go_num, by go_num, O1, C1, B1⟩
        case measure => simp [intOf]; omega
      · have n1 : ¬ (s[k].toNat : Int) = (c.toNat : Int) := fun e => hc (by rw [← UInt8.toNat_inj]; omega)
        have q1 : ((s[k].toNat : Int) == (c.toNat : Int)) = false := by simpa using n1
        have C1 := Lib.hid (cut_miss C.out hlt hc)
        clear C hc n1
        go_wp2
        go_roundw
        case rel => exact ⟨k + 1, q, us, by omega, by go_num, rfl, O, C1, hbw⟩
        case measure => simp [intOf]; omega
    · by_cases he : k = s.size
      · subst he
        have hq : q ≤ s.size := cut_from C.out (by omega)
        have C1 := Lib.hid (cut_last C.out)
        have hblk := O.out.blk
        clear C
        go_wp2_with (at_builtin; go_loud (refine wpList_append_own _ rfl _ _ 74 rfl w.heap.size 9 i0 (.string ⟨#[]⟩) 1 16 Tryz.underlying74 hi hz0 hz1 hz2 rfl (by decide) _ _ _ rfl (GS.below O.out (by (repeat (first | (with_reducible exact Below.refl _ _) | (with_reducible assumption) | (with_reducible refine ext_alloc ?_ _) | (with_reducible refine ext_drew ?_) | (with_reducible refine ext_drewN ?_ _) | (with_reducible refine ext_set ?_ (by first | exact Nat.le_refl _ | (simp; done) | (simp; omega) | omega) _) | (with_reducible refine ext_trans ?_ (by assumption)))))) ⟨_, 0, none⟩ 1 1 [.string (s.extract q s.size)] rfl rfl (one_cellS _ _ _ _ (by simp)) (fun u hu => by simp at hu; subst hu; rfl) (by unfold maxLen; omega) (by omega) (by simp; omega) ?_); intro v' w1 hown' hgrow hnil)
        have O1 := Lib.hid (show GS w1 w.heap.size v' (us ++ [s.extract q s.size]) by simpa [GS] using hown')
        have B1 : Below w.heap.size w w1 := grown_inS (by (repeat (first | (with_reducible exact Below.refl _ _) | (with_reducible assumption) | (with_reducible refine ext_alloc ?_ _) | (with_reducible refine ext_drew ?_) | (with_reducible refine ext_drewN ?_ _) | (with_reducible refine ext_set ?_ (by first | exact Nat.le_refl _ | (simp; done) | (simp; omega) | omega) _) | (with_reducible refine ext_trans ?_ (by assumption))))) (by simp; omega) hgrow hblk
        clear hown' hgrow hnil hblk O
        go_wp2
        go_roundw
        case rel => exact ⟨s.size + 1, s.size + 1, _, by omega, by go_num, by go_num, O1, C1, B1⟩
        case measure => simp [intOf]
      · obtain rfl : k = s.size + 1 := by omega
        have hkl : ¬ ((s.size : Int) + 1) ≤ (s.size : Int) := by omega
        go_wp2
        go_ret
        exact ⟨_, us, rfl, O.out, cut_end C.out (by omega), hbw⟩
end Go.Proofs.YtmoolajapgacmaaGreatDoor
