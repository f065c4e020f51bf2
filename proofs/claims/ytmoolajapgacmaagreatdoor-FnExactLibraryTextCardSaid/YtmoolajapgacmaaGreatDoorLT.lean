/-
The text of a cell and of a library as lists of bytes, and how long it can be.
-/
import Derived.Test.YtmoolajapgacmaaGreatDoorTabT
import Derived.Test.YtmoolajapgacmaaGreatDoorCell
namespace Go.Proofs.YtmoolajapgacmaaGreatDoor
open Go.ChangeShapes Go.WideShapes Go.ChangeAt Go.RowKit
set_option linter.unusedVariables false
set_option linter.unusedSimpArgs false
set_option maxRecDepth 100000
def tabX (t : TabD) : List UInt8 := (tabS t.ss t.ls t.vs).data.toList
def pinL (p : PinD) : List UInt8 := [112, 105, 110, 32] ++ p.name.data.toList ++ (if p.dir = 2 then [32, 111, 117, 116] else (if p.clock then [32, 99, 108, 111, 99, 107, 32] else [32, 105, 110, 32]) ++ Lib.itoa p.cap)
def arcW (k : Int) : List UInt8 := if k = 1 then [99, 111, 109, 98] else if k = 2 then [114, 105, 115, 101] else if k = 3 then [102, 97, 108, 108] else if k = 4 then [115, 101, 116, 117, 112] else [104, 111, 108, 100]
def snsW (s : Int) : List UInt8 := if s = 1 then [112, 111, 115] else if s = 2 then [110, 101, 103] else [98, 111, 116, 104]
def kndW (k : Int) : List UInt8 := if k = 1 then [103, 97, 116, 101] else if k = 2 then [102, 108, 111, 112] else [108, 97, 116, 99, 104]
def pnm (ps : List PinD) (x : Int) : List UInt8 := (pn ps x.toNat).name.data.toList
def arcWs (ps : List PinD) (a : ArcD) : List (List UInt8) := [[97, 114, 99], arcW a.kind, pnm ps a.src, pnm ps a.dst] ++ (if a.kind = 1 then [snsW a.sense] else []) ++ a.delay.map tabX ++ a.slew.map tabX
def arcL (ps : List PinD) (a : ArcD) : List UInt8 := Lib.join (arcWs ps a) [32]
def dig (v : Int) : UInt8 := UInt8.ofNat (48 + v.toNat)
def truL (xs : List Int) : List UInt8 := [116, 114, 117, 116, 104, 32] ++ xs.map dig
def headL (c : CellD) : List UInt8 := Lib.join [[99, 101, 108, 108], c.name.data.toList, kndW c.kind, Lib.itoa c.leak, Lib.itoa c.energy] [32]
def cellLs (c : CellD) : List (List UInt8) := [headL c] ++ c.pins.map pinL ++ c.arcs.map (arcL c.pins) ++ (if c.kind = 1 then [truL c.truth] else [])
def linesX (ls : List (List UInt8)) : List UInt8 := (ls.map (· ++ [10])).flatten
def cellX (c : CellD) : List UInt8 := linesX (cellLs c)
def cellS (c : CellD) : ByteArray := if cellB c then ⟨(cellX c).toArray⟩ else ⟨#[]⟩
def strs (ls : List (List UInt8)) : List ByteArray := ls.map fun l => ⟨l.toArray⟩
theorem strs_len (ls : List (List UInt8)) : (strs ls).length = ls.length := by simp [strs]
theorem strs_list (ls : List (List UInt8)) : (strs ls).map (·.data.toList) = ls := by
  unfold strs
  rw [List.map_map]
  exact (List.map_congr_left (fun x _ => by simp)).trans (List.map_id _)
theorem strs_snoc (ls : List (List UInt8)) (l : List UInt8) : strs (ls ++ [l]) = strs ls ++ [⟨l.toArray⟩] := by simp [strs]
theorem ret_ba {a b : ByteArray} (h : a.data.toList = b.data.toList) : Ending.returned (.string a) = .returned (.string b) := by
  have : a = b := by
    apply ByteArray.ext
    exact Array.toList_inj.1 h
  rw [this]
theorem linesX_app (a b : List (List UInt8)) : linesX (a ++ b) = linesX a ++ linesX b := by simp [linesX]
theorem linesX_one (a : List UInt8) : linesX [a] = a ++ [10] := by simp [linesX]
theorem linesX_nil : linesX [] = [] := rfl
theorem linesX_len {ls : List (List UInt8)} {B : Nat} (h : ∀ l ∈ ls, l.length ≤ B) : (linesX ls).length ≤ (B + 1) * ls.length := by
  induction ls with
  | nil => simp [linesX]
  | cons x r ih =>
    have h1 := ih (fun l hl => h l (by simp [hl]))
    have h2 := h x (by simp)
    rw [show x :: r = [x] ++ r from rfl, linesX_app, linesX_one]
    simp only [List.length_append, List.length_singleton]
    rw [Nat.mul_add, Nat.mul_one]
    omega
theorem lines_join {ls : List (List UInt8)} (h : ls ≠ []) : Lib.join ls [10] ++ [10] = linesX ls := by
  cases ls with
  | nil => exact absurd rfl h
  | cons x r =>
    clear h
    rw [Lib.join_cons]
    have : ∀ (r : List (List UInt8)) (x : List UInt8), x ++ Lib.joinTail [10] r ++ [10] = x ++ [10] ++ linesX r := by
      intro r
      induction r with
      | nil => intro x; simp [Lib.joinTail, linesX]
      | cons y r ih =>
        intro x
        have e : Lib.joinTail [10] (y :: r) = [10] ++ (y ++ Lib.joinTail [10] r) := by simp [Lib.joinTail]
        rw [e, show y :: r = [y] ++ r from rfl, linesX_app, linesX_one, ← ih y]
        simp
    rw [this r x, show x :: r = [x] ++ r from rfl, linesX_app, linesX_one]
theorem lens_le {ls : List (List UInt8)} {B : Nat} (h : ∀ l ∈ ls, l.length ≤ B) : Lib.lens ls ≤ B * ls.length := by
  induction ls with
  | nil => simp [Lib.lens]
  | cons x r ih =>
    have h1 := ih (fun l hl => h l (by simp [hl]))
    have h2 := h x (by simp)
    simp only [Lib.lens, List.map_cons, List.sum_cons, List.length_cons] at h1 ⊢
    rw [Nat.mul_add, Nat.mul_one]
    omega
theorem join_len {ls : List (List UInt8)} {B : Nat} {c : UInt8} (h : ∀ l ∈ ls, l.length ≤ B) : (Lib.join ls [c]).length ≤ (B + 1) * ls.length := by
  cases ls with
  | nil => simp [Lib.join_nil]
  | cons x r =>
    have h1 := lens_le h
    rw [Lib.join_length]
    have h2 : Lib.lens (x :: r) ≤ B * (r.length + 1) := h1
    show 1 * r.length + Lib.lens (x :: r) ≤ (B + 1) * (r.length + 1)
    rw [Nat.add_mul, Nat.one_mul, Nat.one_mul]
    omega
theorem join_take {ls : List (List UInt8)} {c : UInt8} {k : Nat} (h0 : 0 < k) (h : k < ls.length) : Lib.join (ls.take (k + 1)) [c] = Lib.join (ls.take k) [c] ++ [c] ++ ls.getD k [] := by
  rw [List.take_succ_eq_append_getElem h, join_snoc]
  have : ¬ ls.take k = [] := by
    intro e
    have := congrArg List.length e
    rw [List.length_take, List.length_nil] at this
    omega
  rw [if_neg this]
  simp [List.getD, h]
theorem linesX_take {ls : List (List UInt8)} {k : Nat} (h : k < ls.length) : linesX (ls.take (k + 1)) = linesX (ls.take k) ++ ls.getD k [] ++ [10] := by
  rw [List.take_succ_eq_append_getElem h, linesX_app, linesX_one]
  simp [List.getD, h]
theorem strs_take {ls : List (List UInt8)} {k : Nat} (h : k < ls.length) : strs (ls.take (k + 1)) = strs (ls.take k) ++ [⟨(ls.getD k []).toArray⟩] := by
  rw [List.take_succ_eq_append_getElem h, strs_snoc]
  simp [List.getD, h]
theorem mem_take {α : Type} {ls : List α} {k : Nat} {P : α → Prop} (h : ∀ l ∈ ls, P l) : ∀ l ∈ ls.take k, P l := fun l hl => h l (List.mem_of_mem_take hl)
/-! What is in the lines of a valid cell. -/
theorem itoa_le (n : Int) (h0 : -1000000 ≤ n) (h1 : n ≤ 1000000) : (Lib.itoa n).length ≤ 21 := itoa_len n h0 h1
theorem tab_len (t : TabD) : (tabX t).length ≤ 1300 := by
  unfold tabX tabS
  cases ht : tabB t.ss t.ls t.vs
  · simp
  · have ⟨k0, k1, k2⟩ := tab_small ht
    have ⟨e0, e1, e2, e3⟩ := tab_get ht
    have ⟨_, n0, _⟩ := ax_get e0
    have ⟨_, n1, _⟩ := ax_get e1
    have n2 : t.vs.length ≤ 16 := by
      rw [e2]
      exact Nat.le_trans (Nat.mul_le_mul n0 n1) (by omega)
    have l0 : (listL t.ss).length ≤ 400 := by have := lk_len k0 _ (Nat.le_refl _); unfold listL; omega
    have l1 : (listL t.ls).length ≤ 400 := by have := lk_len k1 _ (Nat.le_refl _); unfold listL; omega
    have l2 : (listL t.vs).length ≤ 400 := by have := lk_len k2 _ (Nat.le_refl _); unfold listL; omega
    simp
    omega
theorem arcW_len (k : Int) : (arcW k).length ≤ 5 := by
  by_cases h1 : k = 1
  · simp [arcW, h1]
  · by_cases h2 : k = 2
    · simp [arcW, h2]
    · by_cases h3 : k = 3
      · simp [arcW, h3]
      · by_cases h4 : k = 4
        · simp [arcW, h4]
        · simp [arcW, h1, h2, h3, h4]
theorem snsW_len (k : Int) : (snsW k).length ≤ 4 := by
  by_cases h1 : k = 1
  · simp [snsW, h1]
  · by_cases h2 : k = 2
    · simp [snsW, h2]
    · simp [snsW, h1, h2]
theorem kndW_len (k : Int) : (kndW k).length ≤ 5 := by
  by_cases h1 : k = 1
  · simp [kndW, h1]
  · by_cases h2 : k = 2
    · simp [kndW, h2]
    · simp [kndW, h1, h2]
def PinV (p : PinD) : Prop := p.name.size ≤ 8 ∧ 0 ≤ p.cap ∧ p.cap ≤ 500
theorem name_le {s : ByteArray} (h : nameB s = true) : s.size ≤ 8 := by
  unfold nameB at h
  simp only [Bool.and_eq_true, decide_eq_true_eq] at h
  exact h.1.2
theorem pins_v {ps : List PinD} (h : pinsB ps = true) : 2 ≤ ps.length ∧ ps.length ≤ 5 ∧ ∀ i, i < ps.length → PinV (pn ps i) := by
  have ⟨h0, h1, h2, _⟩ := pins_get h
  refine ⟨h0, h1, fun i hi => ?_⟩
  have h3 := h2 i hi
  unfold pinOk at h3
  simp only [Bool.and_eq_true] at h3
  have ⟨a, b⟩ := inB_get h3.1.2
  exact ⟨name_le h3.1.1, a, b⟩
theorem sz_list (s : ByteArray) : s.data.toList.length = s.size := by
  show s.data.toList.length = s.data.size
  exact Array.length_toList
theorem pin_len {p : PinD} (h : PinV p) : (pinL p).length ≤ 50 := by
  obtain ⟨h0, h1, h2⟩ := h
  have hi := itoa_le p.cap (by omega) (by omega)
  have hs := sz_list p.name
  unfold pinL
  simp only [List.length_append]
  by_cases d : p.dir = 2
  · rw [if_pos d]
    show 4 + p.name.data.toList.length + 4 ≤ 50
    omega
  · rw [if_neg d]
    cases hc : p.clock
    · show 4 + p.name.data.toList.length + ([32, 105, 110, 32] ++ Lib.itoa p.cap).length ≤ 50
      rw [List.length_append]
      show 4 + p.name.data.toList.length + (4 + (Lib.itoa p.cap).length) ≤ 50
      omega
    · show 4 + p.name.data.toList.length + ([32, 99, 108, 111, 99, 107, 32] ++ Lib.itoa p.cap).length ≤ 50
      rw [List.length_append]
      show 4 + p.name.data.toList.length + (7 + (Lib.itoa p.cap).length) ≤ 50
      omega
def ArcV (ps : List PinD) (a : ArcD) : Prop :=
  1 ≤ a.kind ∧ a.kind ≤ 5 ∧ 0 ≤ a.src ∧ a.src < ps.length ∧ 0 ≤ a.dst ∧ a.dst < ps.length ∧ (a.kind = 1 → 1 ≤ a.sense ∧ a.sense ≤ 3) ∧ a.delay.length = 2 ∧ a.slew.length ≤ 2
theorem tabsOk_len {ts : List TabD} {p : Bool} (h : tabsOk ts p = true) : ts.length = 2 := by
  apply Classical.byContradiction
  intro hn
  rw [tabs_len hn] at h
  cases h
theorem arc_v {ps : List PinD} {a : ArcD} (h : sArc ps a = true) : ArcV ps a := by
  have ⟨k1, k5⟩ := sArc_kind h
  unfold sArc at h
  simp only [Bool.and_eq_true] at h
  obtain ⟨⟨hs, hd⟩, hk⟩ := h
  have ⟨s0, s1⟩ := inB_get hs
  have ⟨d0, d1⟩ := inB_get hd
  refine ⟨k1, k5, s0, by omega, d0, by omega, ?_⟩
  obtain e | e | e | e | e : a.kind = 1 ∨ a.kind = 2 ∨ a.kind = 3 ∨ a.kind = 4 ∨ a.kind = 5 := by omega
  · rw [e, kB_1] at hk
    simp only [Bool.and_eq_true] at hk
    exact ⟨fun _ => inB_get hk.1.1.2, tabsOk_len hk.1.2, by rw [tabsOk_len hk.2]; omega⟩
  · rw [e, kB_2] at hk
    simp only [Bool.and_eq_true] at hk
    exact ⟨fun h => by omega, tabsOk_len hk.1.2, by rw [tabsOk_len hk.2]; omega⟩
  · rw [e, kB_3] at hk
    simp only [Bool.and_eq_true] at hk
    exact ⟨fun h => by omega, tabsOk_len hk.1.2, by rw [tabsOk_len hk.2]; omega⟩
  · rw [e, kB_4] at hk
    simp only [Bool.and_eq_true] at hk
    have := hk.2
    simp at this
    exact ⟨fun h => by omega, tabsOk_len hk.1.2, by simp [this]⟩
  · rw [e, kB_5] at hk
    simp only [Bool.and_eq_true] at hk
    have := hk.2
    simp at this
    exact ⟨fun h => by omega, tabsOk_len hk.1.2, by simp [this]⟩
theorem arcs_v {ps : List PinD} {ts : List ArcD} (h : arcsB ps ts = true) : ts.length ≤ 8 ∧ ∀ i, i < ts.length → ArcV ps (an ts i) := by
  unfold arcsB at h
  simp only [Bool.and_eq_true, decide_eq_true_eq] at h
  exact ⟨h.1.1, fun i hi => arc_v (allB_get h.1.2 i hi)⟩
theorem pnm_len {ps : List PinD} (h : ∀ i, i < ps.length → PinV (pn ps i)) {x : Int} (h0 : 0 ≤ x) (h1 : x < ps.length) : (pnm ps x).length ≤ 8 := by
  unfold pnm
  rw [sz_list]
  exact (h x.toNat (by omega)).1
theorem arcWs_len (ps : List PinD) (a : ArcD) : (arcWs ps a).length = 4 + (if a.kind = 1 then 1 else 0) + a.delay.length + a.slew.length := by
  unfold arcWs
  by_cases e : a.kind = 1 <;> simp [e] <;> omega
theorem arcWs_le {ps : List PinD} {a : ArcD} (hp : ∀ i, i < ps.length → PinV (pn ps i)) (h : ArcV ps a) : ∀ l ∈ arcWs ps a, l.length ≤ 1300 := by
  obtain ⟨_, _, s0, s1, d0, d1, _, _, _⟩ := h
  intro l hl
  unfold arcWs at hl
  simp only [List.mem_append, List.mem_map, List.mem_cons, List.not_mem_nil, or_false] at hl
  have a1 := arcW_len a.kind
  have a2 := pnm_len hp s0 s1
  have a3 := pnm_len hp d0 d1
  have a4 := snsW_len a.sense
  rcases hl with ((h | h) | ⟨t, _, rfl⟩) | ⟨t, _, rfl⟩
  · rcases h with rfl | rfl | rfl | rfl
    · simp
    · omega
    · omega
    · omega
  · by_cases e : a.kind = 1
    · rw [if_pos e] at h
      simp at h
      subst h
      omega
    · rw [if_neg e] at h
      simp at h
  · exact tab_len t
  · exact tab_len t
theorem arc_len {ps : List PinD} {a : ArcD} (hp : ∀ i, i < ps.length → PinV (pn ps i)) (h : ArcV ps a) (n : Nat) : (Lib.join ((arcWs ps a).take n) [32]).length ≤ 11800 := by
  have h1 := join_len (c := 32) (mem_take (k := n) (arcWs_le hp h))
  have h2 : ((arcWs ps a).take n).length ≤ 9 := by
    rw [List.length_take, arcWs_len]
    have := h.2.2.2.2.2.2.2
    split <;> omega
  exact Nat.le_trans h1 (Nat.le_trans (Nat.mul_le_mul_left _ h2) (by omega))
theorem arcL_len {ps : List PinD} {a : ArcD} (hp : ∀ i, i < ps.length → PinV (pn ps i)) (h : ArcV ps a) : (arcL ps a).length ≤ 11800 := by
  have := arc_len hp h (arcWs ps a).length
  rwa [List.take_length] at this
theorem bits_v {c : CellD} (h : cellB c = true) : 1 ≤ c.kind ∧ c.kind ≤ 3 ∧ (c.kind = 1 → c.truth.length ≤ 16 ∧ ∀ i, i < c.truth.length → 0 ≤ iv c.truth i ∧ iv c.truth i ≤ 1) := by
  have ⟨hp, _, _, hk⟩ := cell_get h
  have ⟨_, p5, _⟩ := pins_v hp
  by_cases k1 : c.kind = 1
  · refine ⟨by omega, by omega, fun _ => ?_⟩
    rw [kc_1 k1] at hk
    simp only [Bool.and_eq_true] at hk
    have hl := hk.2.1
    have hb := hk.2.2
    simp at hl
    refine ⟨?_, fun i hi => ?_⟩
    · have : (2 : Nat) ^ (c.pins.length - 1) ≤ 2 ^ 4 := Nat.pow_le_pow_right (by omega) (by omega)
      have h2 : c.truth.length = 2 ^ (c.pins.length - 1) := by exact_mod_cast hl
      omega
    · exact inB_get (allB_get hb i hi)
  · by_cases k2 : c.kind = 2
    · exact ⟨by omega, by omega, fun h => absurd h k1⟩
    · by_cases k3 : c.kind = 3
      · exact ⟨by omega, by omega, fun h => absurd h k1⟩
      · rw [kc_no k1 k2 k3] at hk
        cases hk
theorem amount_v {c : CellD} (h : cellB c = true) : c.name.size ≤ 8 ∧ 0 ≤ c.leak ∧ c.leak ≤ 100000 ∧ 0 ≤ c.energy ∧ c.energy ≤ 100000 := by
  unfold cellB at h
  simp only [Bool.and_eq_true] at h
  have ⟨a, b⟩ := inB_get h.1.1.1.2
  have ⟨d, e⟩ := inB_get h.1.1.2
  exact ⟨name_le h.1.1.1.1.2, a, b, d, e⟩
theorem head_len {c : CellD} (h : cellB c = true) : (headL c).length ≤ 120 := by
  have ⟨hn, a, b, d, e⟩ := amount_v h
  have h1 := itoa_le c.leak (by omega) (by omega)
  have h2 := itoa_le c.energy (by omega) (by omega)
  have h3 := kndW_len c.kind
  have h4 := sz_list c.name
  have := join_len (c := 32) (ls := [[99, 101, 108, 108], c.name.data.toList, kndW c.kind, Lib.itoa c.leak, Lib.itoa c.energy]) (B := 22) (by
    intro l hl
    simp only [List.mem_cons, List.not_mem_nil, or_false] at hl
    rcases hl with rfl | rfl | rfl | rfl | rfl
    · simp
    · omega
    · omega
    · omega
    · omega)
  simp only [List.length_cons, List.length_nil] at this
  unfold headL
  omega
theorem cellLs_len (c : CellD) : (cellLs c).length = 1 + c.pins.length + c.arcs.length + (if c.kind = 1 then 1 else 0) := by
  unfold cellLs
  by_cases e : c.kind = 1 <;> simp [e] <;> omega
theorem cellLs_le {c : CellD} (h : cellB c = true) : ∀ l ∈ cellLs c, l.length ≤ 11800 := by
  have ⟨hp, _, ha, _⟩ := cell_get h
  have ⟨_, _, pv⟩ := pins_v hp
  have ⟨_, av⟩ := arcs_v ha
  have hh := head_len h
  intro l hl
  unfold cellLs at hl
  simp only [List.mem_append, List.mem_map, List.mem_singleton] at hl
  rcases hl with ((rfl | ⟨p, hm, rfl⟩) | ⟨a, hm, rfl⟩) | hl
  · omega
  · obtain ⟨i, hi, rfl⟩ := List.getElem_of_mem hm
    have := pv i hi
    rw [show pn c.pins i = c.pins[i] by simp [pn, List.getD, hi]] at this
    have := pin_len this
    omega
  · obtain ⟨i, hi, rfl⟩ := List.getElem_of_mem hm
    have := av i hi
    rw [show an c.arcs i = c.arcs[i] by simp [an, List.getD, hi]] at this
    exact arcL_len pv this
  · by_cases e : c.kind = 1
    · rw [if_pos e] at hl
      simp at hl
      subst hl
      have ⟨hb, _⟩ := (bits_v h).2.2 e
      unfold truL
      simp
      omega
    · rw [if_neg e] at hl
      simp at hl
theorem cell_len {c : CellD} (h : cellB c = true) (n : Nat) : (linesX ((cellLs c).take n)).length ≤ 177015 := by
  have h1 := linesX_len (mem_take (k := n) (cellLs_le h))
  have ⟨hp, _, ha, _⟩ := cell_get h
  have ⟨_, p5, _⟩ := pins_v hp
  have ⟨a8, _⟩ := arcs_v ha
  have h2 : ((cellLs c).take n).length ≤ 15 := by
    rw [List.length_take, cellLs_len]
    split <;> omega
  exact Nat.le_trans h1 (Nat.le_trans (Nat.mul_le_mul_left _ h2) (by omega))
theorem cellX_len {c : CellD} (h : cellB c = true) : (cellX c).length ≤ 177015 := by
  have := cell_len h (cellLs c).length
  rwa [List.take_length] at this
/-! The line at each place. -/
theorem line_0 (c : CellD) : (cellLs c).getD 0 [] = headL c := by simp [cellLs]
theorem line_pin (c : CellD) {k : Nat} (h : k < c.pins.length) : (cellLs c).getD (1 + k) [] = pinL (pn c.pins k) := by
  unfold cellLs
  rw [List.getD_eq_getElem?_getD, List.append_assoc, List.append_assoc, List.getElem?_append_right (by simp <;> omega)]
  simp only [List.length_singleton, Nat.add_sub_cancel_left]
  rw [List.getElem?_append_left (by simpa using h)]
  simp [pn, List.getD, h]
theorem line_arc (c : CellD) {k : Nat} (h : k < c.arcs.length) : (cellLs c).getD (1 + c.pins.length + k) [] = arcL c.pins (an c.arcs k) := by
  unfold cellLs
  rw [List.getD_eq_getElem?_getD, List.getElem?_append_left (by simp <;> omega), List.getElem?_append_right (by simp <;> omega)]
  simp only [List.length_append, List.length_singleton, List.length_map, Nat.add_sub_cancel_left]
  simp [an, List.getD, h]
theorem line_truth (c : CellD) (h : c.kind = 1) : (cellLs c).getD (1 + c.pins.length + c.arcs.length) [] = truL c.truth := by
  unfold cellLs
  rw [List.getD_eq_getElem?_getD, List.getElem?_append_right (by simp <;> omega), if_pos h]
  simp [show 1 + c.pins.length + c.arcs.length - (c.pins.length + c.arcs.length + 1) = 0 by omega]
theorem word_tab (ps : List PinD) (a : ArcD) {m k : Nat} (hm : m = 4 + (if a.kind = 1 then 1 else 0)) (h : k < a.delay.length) : (arcWs ps a).getD (m + k) [] = tabX (tn a.delay k) := by
  subst hm
  unfold arcWs
  by_cases e : a.kind = 1
  · simp only [if_pos e]
    rw [List.getD_eq_getElem?_getD, List.getElem?_append_left (by simp <;> omega), List.getElem?_append_right (by simp <;> omega)]
    simp [tn, List.getD, h, show 4 + 1 + k - 5 = k by omega]
  · simp only [if_neg e]
    rw [List.getD_eq_getElem?_getD, List.getElem?_append_left (by simp <;> omega), List.getElem?_append_right (by simp)]
    simp [tn, List.getD, h]
theorem word_slew (ps : List PinD) (a : ArcD) {m k : Nat} (hm : m = 4 + (if a.kind = 1 then 1 else 0) + a.delay.length) (h : k < a.slew.length) : (arcWs ps a).getD (m + k) [] = tabX (tn a.slew k) := by
  subst hm
  unfold arcWs
  by_cases e : a.kind = 1
  · simp only [if_pos e]
    rw [List.getD_eq_getElem?_getD, List.getElem?_append_right (by simp <;> omega)]
    simp [tn, List.getD, h, show 5 + a.delay.length + k - (a.delay.length + 1 + 1 + 1 + 1 + 1) = k by omega]
  · simp only [if_neg e]
    rw [List.getD_eq_getElem?_getD, List.getElem?_append_right (by simp <;> omega)]
    simp [tn, List.getD, h, show 4 + a.delay.length + k - (a.delay.length + 1 + 1 + 1 + 1) = k by omega]
end Go.Proofs.YtmoolajapgacmaaGreatDoor
