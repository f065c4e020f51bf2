/-
The nodes of a wire in the program's memory: what is collected at a node, the delay of a node, for all trees.
-/
import Derived.Test.YtodgpjolkfkcpaaGreatLoad
import Derived.Test.YtodgpjolkfkcpaaGreatGrowR
import Derived.Test.YtodgpjolkfkcpaaGreatWirC
import Derived.Test.YtodgpjolkfkcpaaGreatGrow
import Derived.Maps.AppendAt
namespace Go.Proofs.YtodgpjolkfkcpaaGreat
open Go.ChangeShapes Go.WideShapes Go.ChangeAt Go.RowKit Go.Deep
set_option linter.unusedVariables false
set_option linter.unusedSimpArgs false
set_option maxRecDepth 100000
/-- The nodes of a wire: node k lies in block ad k, none below B. -/
def NodesW (w : World) (B n : Nat) (ad P : Nat → Nat) (r L : Nat → Int) : Prop :=
  (∀ k, k < n → B ≤ ad k ∧ w.cell? ⟨ad k, 0, none⟩ = some (.pointer (if P k < k then some ⟨ad (P k), 0, none⟩ else none)) ∧ w.cell? ⟨ad k, 1, none⟩ = some (.int .i64 (r k)) ∧ w.cell? ⟨ad k, 2, none⟩ = some (.int .i64 (L k)) ∧ w.frozen? ⟨ad k, 2, none⟩ = false) ∧ ∀ j k, j < k → k < n → ad j < ad k
theorem NodesW.below {w w' : World} {B n : Nat} {ad P : Nat → Nat} {r L : Nat → Int} (h : NodesW w B n ad P r L) (hb : Below w.heap.size w w') : NodesW w' B n ad P r L :=
  ⟨fun k hk => by
    obtain ⟨a, b, c, d, e⟩ := h.1 k hk
    exact ⟨a, cell_keep b hb, cell_keep c hb, cell_keep d hb, by rw [hb.frozen (p := ⟨ad k, 2, none⟩) (cell_lt d)]; exact e⟩, h.2⟩
theorem NodesW.ne {w : World} {B n : Nat} {ad P : Nat → Nat} {r L : Nat → Int} (h : NodesW w B n ad P r L) {j k : Nat} (hj : j < n) (hk : k < n) (e : ¬ j = k) : ¬ ad j = ad k := by
  intro e'
  rcases Nat.lt_or_ge j k with q | q
  · have := h.2 j k q hk; omega
  · have := h.2 k j (by omega) hj; omega
theorem NodesW.bump {w : World} {B n : Nat} {ad P : Nat → Nat} {r L : Nat → Int} (h : NodesW w B n ad P r L) {j : Nat} (hj : j < n) (c : Int) : NodesW (w.setCell ⟨ad j, 2, none⟩ (.int .i64 (L j + c))) B n ad P r (bump L j c) :=
  ⟨fun k hk => by
    obtain ⟨a, b, c', d, e⟩ := h.1 k hk
    by_cases q : k = j
    · subst q
      refine ⟨a, by rw [cs_other (by omega)]; exact b, by rw [cs_other (by omega)]; exact c', ?_, by simpa using e⟩
      rw [cs_same d]
      simp [Go.Proofs.YtodgpjolkfkcpaaGreat.bump]
    · have hne := h.ne hk hj q
      have o : ∀ i, (w.setCell ⟨ad j, 2, none⟩ (.int .i64 (L j + c))).cell? ⟨ad k, i, none⟩ = w.cell? ⟨ad k, i, none⟩ := fun i => World.cell?_setCell_other _ _ _ _ (fun hc => hne (by injection hc with h1; first | exact h1 | exact h1.symm))
      refine ⟨a, by rw [o]; exact b, by rw [o]; exact c', ?_, by simpa using e⟩
      rw [o, d]
      simp [Go.Proofs.YtodgpjolkfkcpaaGreat.bump, q], h.2⟩
def ptrM : Value → Nat
  | .pointer (some a) => a.block + 1
  | _ => 0
/-- Where the way up stands. -/
def AtN (ad : Nat → Nat) (n : Nat) (p : Value) (o : Option Nat) : Prop := match o with
  | none => p = .pointer none
  | some i => p = .pointer (some ⟨ad i, 0, none⟩) ∧ i < n
def CollR (P : Nat → Nat) (c : Int) (L V R : Nat → Int) : Option Nat → Prop
  | none => V = R
  | some i => addUp P c i V = R ∧ ∀ k, k ≤ i → V k = L k
theorem coll_next {P : Nat → Nat} {c : Int} {L V R : Nat → Int} {i : Nat} (h : CollR P c L V R (some i)) (hi : P i < i) : CollR P c L (bump V i c) R (some (P i)) := by
  obtain ⟨h1, h2⟩ := h
  rw [addUp_eq, if_pos hi] at h1
  exact ⟨h1, fun k hk => by simp only [bump]; rw [if_neg (by omega)]; exact h2 k (by omega)⟩
theorem coll_last {P : Nat → Nat} {c : Int} {L V R : Nat → Int} {i : Nat} (h : CollR P c L V R (some i)) (hi : ¬ P i < i) : CollR P c L (bump V i c) R none := by
  obtain ⟨h1, h2⟩ := h
  rw [addUp_eq, if_neg hi] at h1
  exact h1
set_option maxHeartbeats 4000000 in
theorem collect_any (Q : World → Prop) {B n : Nat} {ad P : Nat → Nat} {r L : Nat → Int} (hQ : ∀ (w : World) (k : Nat) (u : Value), k < n → Q w → Q (w.setCell ⟨ad k, 2, none⟩ u)) (j : Nat) (hj : j < n) (c : Int) (hc : 0 ≤ c) (hc2 : c ≤ 1000000) (hL : ∀ k, 0 ≤ L k ∧ L k ≤ 1000000) (w : World) (hN : NodesW w B n ad P r L) (hq : Q w) :
    Calls Tryz.prog 70 #[.pointer (some ⟨ad j, 0, none⟩), .int .i64 c] w fun e w' => e = .returned (.tuple #[]) ∧ NodesW w' B n ad P r (addUp P c j L) ∧ Q w' ∧ Below B w w' := by
  obtain ⟨R, hR⟩ : ∃ R, R = addUp P c j L := ⟨_, rfl⟩
  rw [← hR]
  have HR := Lib.hid (show CollR P c L L R (some j) from ⟨hR.symm, fun _ _ => rfl⟩)
  have HL := Lib.hid hL
  clear hR hL
  have HN := Lib.hid hN
  have HQ := Lib.hid hQ
  have Hq := Lib.hid hq
  clear hN hQ hq
  go_enter Tryz.func70, Tryz.ntmps70
  go_wp2
  go_loopw [0] (fun p wr => ∃ (o : Option Nat) (V : Nat → Int), AtN ad n p o ∧ Hid (CollR P c L V R o) ∧ Hid (NodesW wr B n ad P r V) ∧ Hid (Q wr) ∧ Below B w wr) (fun p _ => ptrM p)
  case atStart => exact ⟨some j, L, ⟨rfl, hj⟩, HR, HN, Hq, Below.refl _ _⟩
  case round =>
    obtain ⟨o, V, hat, hr, hn, hqw, hb⟩ := hrel
    clear HR HN Hq
    cases o with
    | none =>
      have hat : _ = Value.pointer none := hat
      subst hat
      go_wp2
      exact bodyPost_end (results_none rfl _ _ _) rfl ⟨rfl, by have e := hr.out; unfold CollR at e; rw [← e]; exact hn.out, hqw.out, hb⟩
    | some i =>
      obtain ⟨rfl, hi⟩ := hat
      obtain ⟨q0, q1, q2, q3, q4⟩ := hn.out.1 i hi
      have hv := HL.out i
      rw [← hr.out.2 i (Nat.le_refl _)] at hv
      obtain ⟨v0, v1⟩ := hv
      have hn2 := Lib.hid (hn.out.bump hi c)
      have hq2 := Lib.hid (HQ.out wr i (.int .i64 (V i + c)) hi hqw.out)
      have hb2 := hb.setCell (p := ⟨ad i, 2, none⟩) q0 (.int .i64 (V i + c))
      by_cases hp : P i < i
      · rw [if_pos hp] at q1
        have hr2 := Lib.hid (coll_next hr.out hp)
        have hlt := hn.out.2 (P i) i hp hi
        clear hr hn hqw
        go_wp2
        go_roundw
        case rel => exact ⟨some (P i), _, ⟨rfl, by omega⟩, hr2, hn2, hq2, hb2⟩
        case measure => simp [ptrM]; omega
      · rw [if_neg hp] at q1
        have hr2 := Lib.hid (coll_last hr.out hp)
        clear hr hn hqw
        go_wp2
        go_roundw
        case rel => exact ⟨none, _, rfl, hr2, hn2, hq2, hb2⟩
        case measure => simp [ptrM]
def DelR (P : Nat → Nat) (r L : Nat → Int) (D a : Int) : Option Nat → Prop
  | none => a = D
  | some i => a + dly P r L i = D
set_option maxHeartbeats 4000000 in
theorem delay_any {B n : Nat} {ad P : Nat → Nat} {r L : Nat → Int} (j : Nat) (hj : j < n) (hn8 : n ≤ 8) (hr : ∀ k, 0 ≤ r k ∧ r k ≤ 1000) (hL : ∀ k, 0 ≤ L k ∧ L k ≤ 54000) (w : World) (hN : NodesW w B n ad P r L) :
    Calls Tryz.prog 41 #[.pointer (some ⟨ad j, 0, none⟩)] w fun e w' => e = .returned (.int .i64 (dly P r L j)) ∧ Below w.heap.size w w' := by
  obtain ⟨D, hD⟩ : ∃ D, D = dly P r L j := ⟨_, rfl⟩
  rw [← hD]
  have hd := dly_bd P r L hr hL j
  rw [← hD] at hd
  have HR := Lib.hid (show DelR P r L D 0 (some j) from by show 0 + dly P r L j = D; omega)
  have hD2 : D ≤ 432000000 := by omega
  have Hr := Lib.hid hr
  have HL := Lib.hid hL
  clear hD hr hL hd
  have HN := Lib.hid hN
  clear hN
  go_enter Tryz.func41, Tryz.ntmps41
  go_wp2
  go_loopw [3, 0] (fun s p wr => ∃ (o : Option Nat) (a : Int), AtN ad n p o ∧ s = .int .i64 a ∧ 0 ≤ a ∧ Hid (DelR P r L D a o) ∧ Below w.heap.size w wr) (fun _ p _ => ptrM p)
  case atStart => exact ⟨some j, 0, ⟨rfl, hj⟩, rfl, by omega, HR, Below.refl _ _⟩
  case round =>
    obtain ⟨o, a, hat, rfl, ha, hrr, hb⟩ := hrel
    clear HR
    cases o with
    | none =>
      have hat : _ = Value.pointer none := hat
      subst hat
      have e := Lib.hid (show a = D from hrr.out)
      clear hrr
      go_wp2
      go_ret
      exact ⟨ret_int e.out, hb⟩
    | some i =>
      obtain ⟨rfl, hi⟩ := hat
      obtain ⟨q0, q1, q2, q3, q4⟩ := (HN.out.below hb).1 i hi
      have ⟨r0, r1⟩ := Hr.out i
      have ⟨l0, l1⟩ := HL.out i
      have ⟨p0, p1⟩ := resload_bd r0 r1 l0 l1
      have hda := hrr.out
      unfold DelR at hda
      simp only at hda
      have hdn := fun k => dly_bd P r L Hr.out HL.out k
      rw [dly_eq] at hda
      by_cases hp : P i < i
      · rw [if_pos hp] at q1 hda
        have hnx := hdn (P i)
        have hsum : a + r i * L i ≤ 432000000 := by omega
        have hr2 := Lib.hid (show DelR P r L D (a + r i * L i) (some (P i)) from by show a + r i * L i + dly P r L (P i) = D; omega)
        have hlt := HN.out.2 (P i) i hp hi
        clear hrr hda hdn hnx
        obtain ⟨x, hx⟩ : ∃ x, x = r i * L i := ⟨_, rfl⟩
        have w1 : IntKind.i64.wrap (r i * L i) = r i * L i := IntWalk.i64_in _ (by omega)
        have w2 : IntKind.i64.wrap (a + r i * L i) = a + r i * L i := IntWalk.i64_in _ (by omega)
        clear hx
        go_wp2
        go_quiet (fail)
        clear w1 w2
        go_wp2
        go_roundw
        case rel => exact ⟨some (P i), _, ⟨rfl, by omega⟩, rfl, by omega, hr2, eX⟩
        case measure => simp [ptrM]; omega
      · rw [if_neg hp] at q1 hda
        have hsum : a + r i * L i ≤ 432000000 := by omega
        have hr2 := Lib.hid (show DelR P r L D (a + r i * L i) none from hda)
        clear hrr hda hdn
        have w1 : IntKind.i64.wrap (r i * L i) = r i * L i := IntWalk.i64_in _ (by omega)
        have w2 : IntKind.i64.wrap (a + r i * L i) = a + r i * L i := IntWalk.i64_in _ (by omega)
        go_wp2
        go_quiet (fail)
        clear w1 w2
        go_wp2
        go_roundw
        case rel => exact ⟨none, _, rfl, rfl, by omega, hr2, eX⟩
        case measure => simp [ptrM]
theorem grown_one (w : World) (p : Addr) (u : Value) : w.grownBy (w.setCell p u) (some p.block) :=
  ⟨rfl, rfl, rfl, by simp [World.setCell], fun k _ hne => Below.heap_setCell _ _ _ _ (fun e => hne (by rw [e]))⟩
def pa (x : WireD) (k : Nat) : Nat := (iv x.parent k).toNat
def ldN (x : WireD) (k : Nat) : Nat → Int := evU (pa x) (evF (fun i => i) (iv x.cap) k) (fun _ => 0)
def ptr (ad : Nat → Nat) (k : Nat) : Value := .pointer (some ⟨ad k, 0, none⟩)
def ptrs (ad : Nat → Nat) (n : Nat) : List Value := (List.range n).map (ptr ad)
theorem ptrs_succ (ad : Nat → Nat) (n : Nat) : ptrs ad (n + 1) = ptrs ad n ++ [ptr ad n] := by simp [ptrs, List.range_succ]
theorem ptrs_ext {ad ad' : Nat → Nat} {n : Nat} (h : ∀ k, k < n → ad k = ad' k) : ptrs ad n = ptrs ad' n := List.map_congr_left fun k hk => by simp only [ptr]; rw [h k (by simpa using hk)]
/-- A list of pointers to nodes under construction, and the nodes. -/
def NodeL (w : World) (B : Nat) (v : Value) (n : Nat) (ad P : Nat → Nat) (r L : Nat → Int) : Prop :=
  w.ownsRow B 70 1 v n (ptrs ad n) ∧ NodesW w B n ad P r L ∧ ∀ q, v.ownBlock = some q → ∀ j, j < n → ad j ≠ q
theorem row_none {w w' : World} {B n : Nat} {t : TypeId} {v : Value} {xs : List Value} (h : w.ownsRow B t 1 v n xs) (hb : Below w.heap.size w w') : w'.ownsRow B t 1 v n xs :=
  World.ownsRow.kept (row := none) h ⟨hb.os, hb.tape, hb.output, hb.size, fun k hk _ => hb.block k hk⟩ (by cases v.ownBlock <;> simp)
theorem row_set {w : World} {B n : Nat} {t : TypeId} {v : Value} {xs : List Value} {p : Addr} (h : w.ownsRow B t 1 v n xs) (hp : ∀ q, v.ownBlock = some q → p.block ≠ q) (u : Value) : (w.setCell p u).ownsRow B t 1 v n xs :=
  World.ownsRow.kept h (grown_one w p u) (by
    cases e : v.ownBlock with
    | none => exact .inl rfl
    | some q => exact .inr (fun hc => hp q e (Option.some.inj hc).symm))
theorem NodeL.below {w w' : World} {B n : Nat} {v : Value} {ad P : Nat → Nat} {r L : Nat → Int} (h : NodeL w B v n ad P r L) (hb : Below w.heap.size w w') : NodeL w' B v n ad P r L :=
  ⟨row_none h.1 hb, h.2.1.below hb, h.2.2⟩
theorem NodeL.low {w : World} {B C n : Nat} {v : Value} {ad P : Nat → Nat} {r L : Nat → Int} (h : NodeL w B v n ad P r L) (hC : C ≤ B) : NodeL w C v n ad P r L := by
  refine ⟨⟨h.1.1, ?_⟩, ⟨fun k hk => ⟨Nat.le_trans hC (h.2.1.1 k hk).1, (h.2.1.1 k hk).2⟩, h.2.1.2⟩, h.2.2⟩
  rcases h.1.2 with h0 | ⟨g, cap, cur, e, hB, r⟩
  · exact .inl h0
  · exact .inr ⟨g, cap, cur, e, Nat.le_trans hC hB, r⟩
theorem NodeL.slice {w : World} {B n : Nat} {v : Value} {ad P : Nat → Nat} {r L : Nat → Int} (h : NodeL w B v n ad P r L) : ∃ a c, v = .slice a n c := by
  rcases h.1.2 with ⟨rfl, h0⟩ | ⟨g, cap, cur, rfl, _⟩
  · exact ⟨none, 0, by rw [h0]⟩
  · exact ⟨_, _, rfl⟩
theorem NodeL.at {w : World} {B n : Nat} {v : Value} {ad P : Nat → Nat} {r L : Nat → Int} (h : NodeL w B v n ad P r L) {k : Nat} (hk : k < n) : ∃ g c, v = .slice (some ⟨g, 0, none⟩) n c ∧ B ≤ g ∧ g < w.heap.size ∧ ∀ j, j < n → w.cell? ⟨g, j, none⟩ = some (.pointer (some ⟨ad j, 0, none⟩)) := by
  obtain ⟨h1, _, _⟩ := h
  have h2 := h1.2
  rcases h2 with ⟨rfl, h0⟩ | ⟨g, cap, cur, rfl, hb, hgg, _, _, _, _⟩
  · omega
  · exact ⟨g, cap, rfl, hb, (Array.getElem?_eq_some_iff.1 hgg).1, fun j hj => by rw [World.ownsRow.cellAt h1 j (by omega)]; simp [ptrs, ptr, hj]⟩
theorem evU_hi {P : Nat → Nat} : ∀ {es : List (Nat × Int)} {v : Nat → Int} {k : Nat}, (∀ e ∈ es, 0 ≤ e.2 ∧ e.1 < k) → evU P es v k = v k := by
  intro es
  induction es with
  | nil => intro v k _; rfl
  | cons e es ih =>
    intro v k h
    have he := h e (List.mem_cons_self ..)
    show evU P es (addUp P e.2 e.1 v) k = v k
    rw [ih (fun x hx => h x (List.mem_cons_of_mem _ hx))]
    exact (addUp_bd P e.2 he.1 e.1 v k).2.2 he.2
/-- What a valid wire says of its numbers. -/
theorem wire_nums {x : WireD} {s : Int} (h : wireB x s = true) : 1 ≤ x.parent.length ∧ x.parent.length ≤ 8 ∧ x.res.length = x.parent.length ∧ x.cap.length = x.parent.length ∧ (x.sink.length : Int) = s ∧ iv x.parent 0 = -1 ∧ iv x.res 0 = 0 ∧ (∀ k, 0 < k → k < x.parent.length → 0 ≤ iv x.parent k ∧ iv x.parent k < k) ∧ (∀ k, 0 ≤ iv x.res k ∧ iv x.res k ≤ 1000) ∧ (∀ k, 0 ≤ iv x.cap k ∧ iv x.cap k ≤ 500) ∧ ∀ k, k < x.sink.length → 0 ≤ iv x.sink k ∧ iv x.sink k < x.parent.length := by
  obtain ⟨h1, h2, h3⟩ := wire_get h
  obtain ⟨l1, l2, l3, l4, l5⟩ := lens_get h1
  have hn : ∀ k, k < x.parent.length → inB (iv x.cap k) 0 500 = true ∧ inB (iv x.res k) 0 1000 = true ∧ topOk x k = true := fun k hk => by
    have := h2 k hk
    simp only [nodeOk, Bool.and_eq_true] at this
    exact ⟨this.1.1, this.1.2, this.2⟩
  have t0 := (hn 0 (by omega)).2.2
  simp only [topOk, if_true, Bool.and_eq_true, beq_iff_eq] at t0
  have out : ∀ (l : List Int) (k : Nat), ¬ k < l.length → iv l k = 0 := fun l k hk => by simp [iv, List.getD, List.getElem?_eq_none (by omega : l.length ≤ k)]
  refine ⟨l1, l2, l3, l4, l5, t0.1, t0.2, fun k h0 hk => ?_, fun k => ?_, fun k => ?_, fun k hk => ?_⟩
  · have := (hn k hk).2.2
    rw [topOk, if_neg (by omega)] at this
    have := inB_get this
    omega
  · by_cases hk : k < x.res.length
    · exact inB_get (hn k (by omega)).2.1
    · rw [out _ _ hk]; omega
  · by_cases hk : k < x.cap.length
    · exact inB_get (hn k (by omega)).1
    · rw [out _ _ hk]; omega
  · have := inB_get (h3 k hk)
    omega
theorem pa_zero {x : WireD} (h : iv x.parent 0 = -1) : pa x 0 = 0 := by simp [pa, h]
theorem ldN_bd {x : WireD} {s : Int} (h : wireB x s = true) {n : Nat} (hn : n ≤ 8) : ∀ k, 0 ≤ ldN x n k ∧ ldN x n k ≤ 4000 := by
  obtain ⟨_, _, _, _, _, _, _, _, _, hc, _⟩ := wire_nums h
  intro k
  have b := evU_bd (pa x) (evF (fun i => i) (iv x.cap) n) (fun _ => 0) (evF_mem (fun i _ => (hc i).1)) k
  have t := totE_bd 500 (evF (fun i => i) (iv x.cap) n) (evF_mem (fun i _ => hc i))
  rw [evF_len] at t
  simp only [ldN]
  omega
theorem ldN_hi {x : WireD} {s : Int} (h : wireB x s = true) (k : Nat) : ldN x k k = 0 := by
  obtain ⟨_, _, _, _, _, _, _, _, _, hc, _⟩ := wire_nums h
  exact evU_hi (evF_mem (fun i hi => ⟨(hc i).1, hi⟩))
theorem ldN_succ (x : WireD) (k : Nat) : ldN x (k + 1) = addUp (pa x) (iv x.cap k) k (ldN x k) := by rw [ldN, evF_succ, evU_snoc]; rfl
theorem Tryz.infoPt : (Tryz.prog.info? 70).map (fun i => (i.zero, i.size, i.bytes)) = some (some (.pointer none), 1, 8) := by kernel_rfl
/-- One node more, not yet collected. -/
theorem NodesW.more {w w' : World} {B k b0 : Nat} {ad P : Nat → Nat} {r L : Nat → Int} (h : NodesW w B k ad P r L) (hb : Below w.heap.size w w') (hB : B ≤ b0) (h0 : b0 = w.heap.size)
    (c0 : w'.cell? ⟨b0, 0, none⟩ = some (.pointer (if P k < k then some ⟨ad (P k), 0, none⟩ else none))) (c1 : w'.cell? ⟨b0, 1, none⟩ = some (.int .i64 (r k))) (c2 : w'.cell? ⟨b0, 2, none⟩ = some (.int .i64 0)) (f2 : w'.frozen? ⟨b0, 2, none⟩ = false) (hz : L k = 0) (hP : ∀ i, i ≤ k → P i ≤ i) :
    NodesW w' B (k + 1) (fun i => if i = k then b0 else ad i) P r L := by
  have hb' := h.below hb
  have lt : ∀ i, i < k → ad i < w.heap.size := fun i hi => cell_lt (h.1 i hi).2.1
  refine ⟨fun i hi => ?_, fun i j hij hj => ?_⟩
  · by_cases e : i = k
    · subst e
      simp only [if_true]
      refine ⟨hB, ?_, c1, by rw [hz]; exact c2, f2⟩
      rw [c0]
      by_cases p : P i < i
      · rw [if_pos p, if_pos p, if_neg (by omega)]
      · rw [if_neg p, if_neg p]
    · simp only [if_neg e]
      obtain ⟨a1, a2, a3, a4, a5⟩ := hb'.1 i (by omega)
      refine ⟨a1, ?_, a3, a4, a5⟩
      rw [a2]
      have := hP i (by omega)
      by_cases p : P i < i
      · rw [if_pos p, if_pos p, if_neg (by omega)]
      · rw [if_neg p, if_neg p]
  · by_cases e : j = k
    · simp only [if_pos e, if_neg (show ¬ i = k by omega)]
      have := lt i (by omega)
      omega
    · simp only [if_neg e, if_neg (show ¬ i = k by omega)]
      exact h.2 i j hij (by omega)
theorem NodesW.grown {w w' : World} {B n : Nat} {ad P : Nat → Nat} {r L : Nat → Int} {row : Option Nat} (h : NodesW w B n ad P r L) (hg : w.grownBy w' row) (hne : ∀ j, j < n → some (ad j) ≠ row) : NodesW w' B n ad P r L :=
  ⟨fun k hk => by
    obtain ⟨a, b, c, d, e⟩ := h.1 k hk
    have hblk := hg.block (ad k) (cell_lt d) (hne k hk)
    exact ⟨a, by rw [World.cell?_of_block (w := w) hblk]; exact b, by rw [World.cell?_of_block (w := w) hblk]; exact c, by rw [World.cell?_of_block (w := w) hblk]; exact d, by rw [World.frozen?_of_block (w := w) hblk]; exact e⟩, h.2⟩
/-- append to a list of a call's own: the law of the library, with the place where the list lies. -/
theorem wpList_append_at {P : Program} {w : World} {ops : Array Oper} {rest : List Oper} {o : Oper} {a : Act} {Q : Exit → Act → World → Prop} (hgd : o.guard = none) (s x : Operand) (t : TypeId)
    (ho : o.op = .call { callee := .builtin .append, args := #[s, x], argTypes := #[t, t] })
    (base : Nat) (e : TypeId) (i : TypeInfo) (z : Value) (size bytes : Nat) (ht : P.underlying t = some (.slice e)) (hi : P.info? e = some i) (hz : i.zero = some z)
    (hsize : i.size = size) (hby : i.bytes = bytes) (hzs : z.cells.size = size) (hsz : 0 < size)
    (v : Value) (n : Nat) (xs : List Value) (hs : a.eval s = v) (hown : w.ownsRow base e size v n xs)
    (ad : Addr) (m c : Nat) (news : List Value) (hx : a.eval x = .slice (some ad) m c) (hl : news.length = m * size) (hnews : ∀ j u, news[j]? = some u → w.cell? (ad.add j) = some u) (h1 : ∀ u ∈ news, u.oneCell' = true)
    (h63 : n + m ≤ maxLen) (hbytes : (n + m) * bytes ≤ 140737488355328) (hbase : base ≤ w.heap.size)
    (h : ∀ v' w', w'.ownsRow base e size v' (n + m) (xs ++ news) → w.grownBy w' v.ownBlock → (v'.ownBlock = v.ownBlock ∨ v'.ownBlock = some w.heap.size) → wpList P ops Q rest (a.put o.dst v') w') : wpList P ops Q (o :: rest) a w := by
  refine wpList_plain hgd fun K hK => ?_
  obtain ⟨v', w', hr, h2, h3, _, h5⟩ := run_append_own_at (P := P) w base t o.type e i z size bytes ht hi hz hsize hby hzs hsz v n xs hown ad m c news hl hnews h1 h63 hbytes hbase
  unfold Oper.wp execOp
  simp only [ho, resolve, invoke, builtin, Sem.run_bind, Sem.run_pure, Result.andThen_ok, List.map_toArray, List.map_cons, List.map_nil, hs, hx, hr]
  exact hK _ _ (h v' w' h2 h3 h5)
def NewN (x : WireD) (n : Nat) (w : World) (e : Ending) (w' : World) : Prop := ∃ v ad, e = .returned v ∧ NodeL w' w.heap.size v n ad (pa x) (iv x.res) (ldN x n) ∧ Below w.heap.size w w'
set_option maxHeartbeats 8000000 in
theorem newNodes_any (f : Nat → Value) (x : WireD) (s : Int) (w : World) (h : WireF w w.heap.size f x) (hv : wireB x s = true) :
    Calls Tryz.prog 68 #[.agg #[f 0, f 1, f 2, f 3]] w (NewN x x.parent.length w) := by
  obtain ⟨i0, hi, hz0, hz1, hz2⟩ := info_parts Tryz.infoPt
  have ⟨n1, n8, lr, lc, _, q0, _, qp, qr, qc, _⟩ := wire_nums hv
  have hP : ∀ i, i < x.parent.length → pa x i ≤ i := fun i hi => by
    by_cases e : i = 0
    · subst e; rw [pa_zero q0]; exact Nat.le_refl _
    · have := qp i (by omega) hi; simp only [pa]; omega
  have HV := Lib.hid hv
  have HPP := Lib.hid hP
  have Q0 := Lib.hid q0
  have QP := Lib.hid qp
  have QR := Lib.hid qr
  have QC := Lib.hid qc
  obtain ⟨x0, x1, x2, x3⟩ := h
  obtain ⟨a0, c0, e0⟩ := x0.slice; obtain ⟨a1, c1, e1⟩ := x1.slice; obtain ⟨a2, c2, e2⟩ := x2.slice; obtain ⟨a3, c3, e3⟩ := x3.slice
  rw [e0] at x0; rw [e1] at x1; rw [e2] at x2; rw [e3] at x3
  rw [lr] at x1 e1; rw [lc] at x2 e2
  rw [e0, e1, e2, e3]
  have H0 := Lib.hid x0; have H1 := Lib.hid x1; have H2 := Lib.hid x2
  clear e0 e1 e2 e3 x0 x1 x2 x3 hv hP q0 qp qr qc
  have LR := Lib.hid lr
  have LC := Lib.hid lc
  clear lr lc
  obtain ⟨n, hn⟩ : ∃ n, n = x.parent.length := ⟨_, rfl⟩
  rw [← hn] at n1 n8 LR LC H0 H1 H2 HPP QP ⊢
  have NN := Lib.hid hn
  clear hn
  obtain ⟨U, hU⟩ : ∃ U, U = w.alloc (Obj.cells #[.slice a0 n c0, .slice a1 n c1, .slice a2 n c2, .slice a3 x.sink.length c3] 85) := ⟨_, rfl⟩
  have k0 : U.cell? ⟨w.heap.size, 0, none⟩ = some (.slice a0 n c0) := by rw [hU]; simp [go_sem]
  have k1 : U.cell? ⟨w.heap.size, 1, none⟩ = some (.slice a1 n c1) := by rw [hU]; simp [go_sem]
  have k2 : U.cell? ⟨w.heap.size, 2, none⟩ = some (.slice a2 n c2) := by rw [hU]; simp [go_sem]
  have bU : Below w.heap.size w U := by rw [hU]; exact (Below.refl _ _).alloc (Nat.le_refl _) _
  have sU : w.heap.size < U.heap.size := cell_lt k0
  have HU := Lib.hid hU
  clear hU
  go_enter Tryz.func68, Tryz.ntmps68
  go_wp2_with fail
  rw [← HU.out]
  go_loopw [3, 10] (fun v i wr => ∃ (k : Nat) (ad : Nat → Nat), k ≤ n ∧ i = .int .i64 k ∧ Hid (NodeL wr U.heap.size v k ad (pa x) (iv x.res) (ldN x k)) ∧ Below U.heap.size U wr) (fun _ i _ => n - (intOf i).toNat)
  case atStart => exact ⟨0, fun _ => 0, by omega, rfl, Lib.hid ⟨World.ownsRow_nil _ _ _ _, ⟨fun k hk => absurd hk (Nat.not_lt_zero k), fun j k _ hk => absurd hk (Nat.not_lt_zero k)⟩, fun q hq => by simp [Value.ownBlock] at hq⟩, Below.refl _ _⟩
  case round =>
    obtain ⟨k, ad, hk, rfl, hN, hbr⟩ := hrel
    have hbw : Below w.heap.size w wr := bU.trans (hbr.mono bU.size)
    have r0 := cell_keep k0 hbr
    have r1 := cell_keep k1 hbr
    have r2 := cell_keep k2 hbr
    have szr : w.heap.size < wr.heap.size := cell_lt r0
    by_cases hkn : k < n
    · have hI : (k : Int) < (n : Int) := by omega
      have i0 : (0 : Int) ≤ (k : Int) := by omega
      obtain ⟨b0, o0, rfl, m0, y0⟩ := ints_at H0.out hbw (show k < x.parent.length by have := NN.out; omega)
      obtain ⟨b1, o1, rfl, m1, y1⟩ := ints_at H1.out hbw (show k < x.res.length by have := LR.out; omega)
      obtain ⟨b2, o2, rfl, m2, y2⟩ := ints_at H2.out hbw (show k < x.cap.length by have := LC.out; omega)
      have s0 : b0 < wr.heap.size := by omega
      have s1 : b1 < wr.heap.size := by omega
      have s2 : b2 < wr.heap.size := by omega
      have ⟨cc0, cc1⟩ := QC.out k
      have HC := Lib.hid (fun (W : World) (v : Value) (hrow : W.ownsRow U.heap.size 70 1 v k (ptrs ad k)) (hq : ∀ q, v.ownBlock = some q → (∀ j, j < k → ad j ≠ q) ∧ wr.heap.size ≠ q) (hW : NodesW W U.heap.size (k + 1) (fun i => if i = k then wr.heap.size else ad i) (pa x) (iv x.res) (ldN x k)) =>
        (show Calls Tryz.prog 70 #[.pointer (some ⟨wr.heap.size, 0, none⟩), .int .i64 (iv x.cap k)] W fun e w' => e = .returned (.tuple #[]) ∧ NodesW w' U.heap.size (k + 1) (fun i => if i = k then wr.heap.size else ad i) (pa x) (iv x.res) (ldN x (k + 1)) ∧ w'.ownsRow U.heap.size 70 1 v k (ptrs ad k) ∧ Below U.heap.size W w' ∧ w'.heap.size = W.heap.size by
          have := collect_any (fun w' => w'.ownsRow U.heap.size 70 1 v k (ptrs ad k) ∧ w'.heap.size = W.heap.size) (n := k + 1) (ad := fun i => if i = k then wr.heap.size else ad i) (fun w1 j u hj h1 => ⟨row_set h1.1 (fun q e => by
            by_cases ej : j = k
            · simp only [if_pos ej]; exact (hq q e).2
            · simp only [if_neg ej]; exact (hq q e).1 j (by omega)) u, by rw [← h1.2]; simp [World.setCell]⟩) k (Nat.lt_succ_self k) (iv x.cap k) cc0 (by omega) (fun j => by have := ldN_bd HV.out (show k ≤ 8 by omega) j; omega) W hW ⟨hrow, rfl⟩
          rw [ldN_succ]
          simp only [if_true] at this
          exact this.mono fun e w' h => ⟨h.1, h.2.1, h.2.2.1.1, h.2.2.2, h.2.2.1.2⟩))
      by_cases hk0 : k = 0
      · skip
        have y0' := (show iv x.parent k = -1 by rw [hk0]; exact Q0.out) ▸ y0
        have HK0 := Lib.hid hk0
        clear y0 hk0
        have HOB := Lib.hid (fun q (e : Value.ownBlock _ = some q) => (⟨fun j hj => hN.out.2.2 q e j hj, by have := World.ownsRow.lt hN.out.1 q e; omega⟩ : (∀ j, j < k → ad j ≠ q) ∧ wr.heap.size ≠ q))
        have HLT := Lib.hid (fun j (hj : j < k) => cell_lt (hN.out.2.1.1 j hj).2.1)
        have HZ := Lib.hid (ldN_hi HV.out k)
        have szU : U.heap.size ≤ wr.heap.size := hbr.size
        go_wp2_with fail
        have BW := Lib.hid (show Below U.heap.size U (wr.alloc (Obj.cells #[Value.pointer none, Value.int IntKind.i64 (iv x.res k), Value.int IntKind.i64 0] 72)) from hbr.alloc szU _)
        refine (HC.out _ _ (row_none hN.out.1 ((Below.refl _ _).alloc (Nat.le_refl _) _)) HOB.out (hN.out.2.1.more ((Below.refl _ _).alloc (Nat.le_refl _) _) szU rfl (by rw [if_neg (by rw [HK0.out]; omega)]; simp [go_sem]) (by simp [go_sem]) (by simp [go_sem]) (by simp [go_sem]) HZ.out (fun i hi => HPP.out i (by omega)))).mono ?_
        rintro e w5 ⟨rfl, hN5, hrow5, hb5, hz5⟩
        have bA : Below w5.heap.size w5 (w5.alloc (Obj.cells #[.pointer (some ⟨wr.heap.size, 0, none⟩)] 70)) := (Below.refl _ _).alloc (Nat.le_refl _) _
        have z5 : wr.heap.size < w5.heap.size := by rw [hz5]; simp
        have z6 : U.heap.size ≤ w5.heap.size := by omega
        have HA := Lib.hid bA
        have HR5 := Lib.hid (row_none hrow5 bA)
        have HN5 := Lib.hid (hN5.below bA)
        have B5 := Lib.hid ((BW.out.trans hb5).alloc z6 (Obj.cells #[.pointer (some ⟨wr.heap.size, 0, none⟩)] 70))
        have r50 := cell_keep k0 ((BW.out.trans hb5))
        clear hN5 hrow5 hb5 bA hz5 y1 y2
        go_wp2_with (at_builtin; refine wpList_append_at rfl _ _ 67 rfl U.heap.size 70 _ (.pointer none) 1 8 Tryz.underlying67 hi hz0 hz1 hz2 rfl (by decide) _ _ _ rfl HR5.out ⟨w5.heap.size, 0, none⟩ 1 1 [.pointer (some ⟨wr.heap.size, 0, none⟩)] rfl rfl (one_cellG2 _ _ _ _ rfl) (fun u hu => by simp at hu; subst hu; rfl) (by unfold maxLen; omega) (by omega) (by simp; omega) ?_; intro v' w6 hown' hgrow hat)
        have hl6 : Below U.heap.size U w6 := B5.out.grown hgrow (by simp; omega) (fun q hq => (World.ownsRow.lt HR5.out q hq).1)
        have hN6 : Hid (NodeL w6 U.heap.size v' (k + 1) (fun i => if i = k then wr.heap.size else ad i) (pa x) (iv x.res) (ldN x (k + 1))) := by
          refine Lib.hid ⟨?_, HN5.out.grown hgrow (fun j hj e => ?_), fun q hq j hj e => ?_⟩
          · rw [ptrs_succ, ptrs_ext (ad' := ad) (fun j hj => by simp only [if_neg (show ¬ j = k by omega)])]
            simpa [ptr] using hown'
          · obtain ⟨o1, o2⟩ := HOB.out _ e.symm
            by_cases ej : j = k
            · simp only [if_pos ej] at o2; exact o2 rfl
            · have := o1 j (by omega); simp only [if_neg ej] at this; exact this rfl
          · have hlt : (if j = k then wr.heap.size else ad j) < w5.heap.size := by
              by_cases ej : j = k
              · rw [if_pos ej]; exact z5
              · rw [if_neg ej]; have := HLT.out j (by omega); omega
            rcases hat with q1 | q1
            · rw [q1] at hq
              obtain ⟨o1, o2⟩ := HOB.out _ hq
              by_cases ej : j = k
              · simp only [if_pos ej] at e; exact o2 e
              · simp only [if_neg ej] at e; exact o1 j (by omega) e
            · rw [q1] at hq
              have e' : (if j = k then wr.heap.size else ad j) = q := e
              rw [e'] at hlt
              have := Option.some.inj hq
              simp at this
              omega
        clear hown' hgrow hat
        go_wp2
        go_roundw
        case rel => exact ⟨k + 1, _, by omega, by go_num, hN6, hl6⟩
        case measure => simp [intOf]; omega
      · skip
        have ⟨pp0, pp1⟩ := QP.out k (by omega) hkn
        obtain ⟨pp, hpp⟩ := Int.eq_ofNat_of_zero_le pp0
        have y0' := hpp ▸ y0
        have hpk : pp < k := by omega
        have hne : ((pp : Int) != -1) = true := by simp
        have hne2 : ((pp : Int) == -1) = false := by simp
        have j0 : (0 : Int) ≤ (pp : Int) := by omega
        have j1 : (pp : Int) < (k : Int) := by omega
        have HPA := Lib.hid (show pa x k = pp by simp [pa, hpp])
        obtain ⟨g, cg, rfl, hgB, hgl, hgc⟩ := hN.out.at hpk
        have gc := hgc pp hpk
        clear y0 hpp pp0 pp1 hgc
        have HOB := Lib.hid (fun q (e : Value.ownBlock _ = some q) => (⟨fun j hj => hN.out.2.2 q e j hj, by have := World.ownsRow.lt hN.out.1 q e; omega⟩ : (∀ j, j < k → ad j ≠ q) ∧ wr.heap.size ≠ q))
        have HLT := Lib.hid (fun j (hj : j < k) => cell_lt (hN.out.2.1.1 j hj).2.1)
        have HZ := Lib.hid (ldN_hi HV.out k)
        have szU : U.heap.size ≤ wr.heap.size := hbr.size
        go_wp2_with fail
        have BW := Lib.hid (show Below U.heap.size U (wr.alloc (Obj.cells #[Value.pointer (some ⟨ad pp, 0, none⟩), Value.int IntKind.i64 (iv x.res k), Value.int IntKind.i64 0] 72)) from hbr.alloc szU _)
        refine (HC.out _ _ (row_none hN.out.1 ((Below.refl _ _).alloc (Nat.le_refl _) _)) HOB.out (hN.out.2.1.more ((Below.refl _ _).alloc (Nat.le_refl _) _) szU rfl (by rw [HPA.out, if_pos hpk]; simp [go_sem]) (by simp [go_sem]) (by simp [go_sem]) (by simp [go_sem]) HZ.out (fun i hi => HPP.out i (by omega)))).mono ?_
        rintro e w5 ⟨rfl, hN5, hrow5, hb5, hz5⟩
        have bA : Below w5.heap.size w5 (w5.alloc (Obj.cells #[.pointer (some ⟨wr.heap.size, 0, none⟩)] 70)) := (Below.refl _ _).alloc (Nat.le_refl _) _
        have z5 : wr.heap.size < w5.heap.size := by rw [hz5]; simp
        have z6 : U.heap.size ≤ w5.heap.size := by omega
        have HA := Lib.hid bA
        have HR5 := Lib.hid (row_none hrow5 bA)
        have HN5 := Lib.hid (hN5.below bA)
        have B5 := Lib.hid ((BW.out.trans hb5).alloc z6 (Obj.cells #[.pointer (some ⟨wr.heap.size, 0, none⟩)] 70))
        have r50 := cell_keep k0 ((BW.out.trans hb5))
        clear hN5 hrow5 hb5 bA hz5 y1 y2
        go_wp2_with (at_builtin; refine wpList_append_at rfl _ _ 67 rfl U.heap.size 70 _ (.pointer none) 1 8 Tryz.underlying67 hi hz0 hz1 hz2 rfl (by decide) _ _ _ rfl HR5.out ⟨w5.heap.size, 0, none⟩ 1 1 [.pointer (some ⟨wr.heap.size, 0, none⟩)] rfl rfl (one_cellG2 _ _ _ _ rfl) (fun u hu => by simp at hu; subst hu; rfl) (by unfold maxLen; omega) (by omega) (by simp; omega) ?_; intro v' w6 hown' hgrow hat)
        have hl6 : Below U.heap.size U w6 := B5.out.grown hgrow (by simp; omega) (fun q hq => (World.ownsRow.lt HR5.out q hq).1)
        have hN6 : Hid (NodeL w6 U.heap.size v' (k + 1) (fun i => if i = k then wr.heap.size else ad i) (pa x) (iv x.res) (ldN x (k + 1))) := by
          refine Lib.hid ⟨?_, HN5.out.grown hgrow (fun j hj e => ?_), fun q hq j hj e => ?_⟩
          · rw [ptrs_succ, ptrs_ext (ad' := ad) (fun j hj => by simp only [if_neg (show ¬ j = k by omega)])]
            simpa [ptr] using hown'
          · obtain ⟨o1, o2⟩ := HOB.out _ e.symm
            by_cases ej : j = k
            · simp only [if_pos ej] at o2; exact o2 rfl
            · have := o1 j (by omega); simp only [if_neg ej] at this; exact this rfl
          · have hlt : (if j = k then wr.heap.size else ad j) < w5.heap.size := by
              by_cases ej : j = k
              · rw [if_pos ej]; exact z5
              · rw [if_neg ej]; have := HLT.out j (by omega); omega
            rcases hat with q1 | q1
            · rw [q1] at hq
              obtain ⟨o1, o2⟩ := HOB.out _ hq
              by_cases ej : j = k
              · simp only [if_pos ej] at e; exact o2 e
              · simp only [if_neg ej] at e; exact o1 j (by omega) e
            · rw [q1] at hq
              have e' : (if j = k then wr.heap.size else ad j) = q := e
              rw [e'] at hlt
              have := Option.some.inj hq
              simp at this
              omega
        clear hown' hgrow hat
        go_wp2
        go_roundw
        case rel => exact ⟨k + 1, _, by omega, by go_num, hN6, hl6⟩
        case measure => simp [intOf]; omega
    · obtain rfl : k = n := by omega
      have hI : ¬ (k : Int) < (k : Int) := by omega
      go_wp2
      go_ret
      exact ⟨_, ad, rfl, hN.out.low (by omega), hbw⟩
end Go.Proofs.YtodgpjolkfkcpaaGreat
