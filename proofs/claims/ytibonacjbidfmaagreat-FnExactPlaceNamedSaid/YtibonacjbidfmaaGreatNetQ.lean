/-
The model's functions over designs, as the document lists them.
-/
import Derived.Test.YtibonacjbidfmaaGreatNetH
namespace Go.Proofs.YtibonacjbidfmaaGreat
open Go.ChangeShapes Go.WideShapes Go.ChangeAt Go.RowKit Go.Deep
set_option linter.unusedVariables false
set_option linter.unusedSimpArgs false
set_option maxRecDepth 100000
theorem placesY_yes {ts : List CellD} {d : DesD} (h : desB ts d = true) : placesY ts d = places ts d := by simp [placesY, h]
theorem placesY_no {ts : List CellD} {d : DesD} (h : desB ts d = false) : placesY ts d = [] := by simp [placesY, h]
def instanceOfY (P : List PlD) (x : Int) : Int × Int := if inB x 0 ((P.length : Int) - 1) then ((pll P x.toNat).inst, (pll P x.toNat).pin) else (-1, -1)
def placeNameY (P : List PlD) (x : Int) : ByteArray := if inB x 0 ((P.length : Int) - 1) then (pll P x.toNat).name else .empty
def netOfPlaceY (P : List PlD) (x : Int) : Int := if inB x 0 ((P.length : Int) - 1) then (pll P x.toNat).net else -1
def placeCapY (P : List PlD) (x : Int) : Int := if inB x 0 ((P.length : Int) - 1) then (pll P x.toNat).load else -1
theorem inB_nil (x : Int) : inB x 0 (((([] : List PlD).length : Nat) : Int) - 1) = false := by
  simp only [inB, Bool.and_eq_false_iff, decide_eq_false_iff_not, List.length_nil]
  omega
set_option maxHeartbeats 4000000 in
theorem specPlaceCount_any (v : Value) (f : Nat → Value) (ts : List CellD) (d : DesD) (w : World) (hl : CellsS w w.heap.size v ts) (h : DesF w w.heap.size f d) :
    Calls Tryz.prog 21 #[.agg #[v], .agg #[f 0, f 1, f 2]] w fun e w' => e = .returned (.int .i64 (if desB ts d then ((places ts d).length : Int) else -1)) ∧ Below w.heap.size w w' := by
  have C0 := Lib.hid (fun (w1 : World) (hb : Below w.heap.size w w1) => specIsDesign_any v f ts d w1 (hl.up hb) (h.up hb))
  have C1 := Lib.hid (fun (w1 : World) (hb : Below w.heap.size w w1) => specPlacesV_any f ts d w1 (h.up hb))
  have HL := Lib.hid (fun (w1 : World) (hb : Below w.heap.size w w1) => hl.up hb)
  have HD := Lib.hid (fun (w1 : World) (hb : Below w.heap.size w w1) => h.up hb)
  obtain ⟨al, cl, el⟩ := hl.slice
  obtain ⟨a0, c0, e0⟩ := h.1.slice; obtain ⟨a1, c1, e1⟩ := h.2.1.slice; obtain ⟨a2, c2, e2⟩ := h.2.2.slice
  rw [e0, e1, e2] at C1
  rw [el, e0, e1, e2]
  rw [el, e0, e1, e2] at C0
  clear hl h HL HD
  cases hd : desB ts d
  · rw [hd] at C0
    clear hd C1 el e0 e1 e2
    go_enter Tryz.func21, Tryz.ntmps21
    go_wp2_with (go_at_call 15; refine (C0.out _ (by (repeat (with_reducible first | exact Below.refl _ _ | assumption | refine ext_alloc ?_ _ | refine ext_drew ?_ | refine ext_trans ?_ (by assumption))))).mono ?_; rintro e w1 ⟨rfl, hb⟩; obtain ⟨hc, hf⟩ := bcell hb; have hz := hb.size; (try simp at hz); (try (have hz := Nat.lt_of_succ_le hz)); (try (have y0 : w.heap.size ≤ w1.heap.size := by omega)); (try (have z0 : w.heap.size < w1.heap.size := by omega)); (try (have z1 : w.heap.size + 1 < w1.heap.size := by omega)); (try (have z2 : w.heap.size + 1 + 1 < w1.heap.size := by omega)); (try (have z3 : w.heap.size + 1 + 1 + 1 < w1.heap.size := by omega)); (try (have z4 : w.heap.size + 1 + 1 + 1 + 1 < w1.heap.size := by omega)); (try (have x0 : wc.heap.size < w1.heap.size := by omega)); (try (have x1 : wc.heap.size ≤ w1.heap.size := by omega)))
    go_ret
    exact ⟨rfl, by (repeat (with_reducible first | exact Below.refl _ _ | assumption | refine ext_alloc ?_ _ | refine ext_drew ?_ | refine ext_trans ?_ (by assumption)))⟩
  · have hln := placesM hd
    have C1 := Lib.hid (fun (w1 : World) (hb : Below w.heap.size w w1) => C1.out w1 hb hd)
    rw [hd] at C0
    clear hd el e0 e1 e2
    go_enter Tryz.func21, Tryz.ntmps21
    go_wp2_with (first | (go_at_call 15; refine (C0.out _ (by (repeat (with_reducible first | exact Below.refl _ _ | assumption | refine ext_alloc ?_ _ | refine ext_drew ?_ | refine ext_trans ?_ (by assumption))))).mono ?_; rintro e w1 ⟨rfl, hb⟩; obtain ⟨hc, hf⟩ := bcell hb; have hz := hb.size; (try simp at hz); (try (have hz := Nat.lt_of_succ_le hz)); (try (have y0 : w.heap.size ≤ w1.heap.size := by omega)); (try (have z0 : w.heap.size < w1.heap.size := by omega)); (try (have z1 : w.heap.size + 1 < w1.heap.size := by omega)); (try (have z2 : w.heap.size + 1 + 1 < w1.heap.size := by omega)); (try (have z3 : w.heap.size + 1 + 1 + 1 < w1.heap.size := by omega)); (try (have z4 : w.heap.size + 1 + 1 + 1 + 1 < w1.heap.size := by omega)); (try (have x0 : wc.heap.size < w1.heap.size := by omega)); (try (have x1 : wc.heap.size ≤ w1.heap.size := by omega))) | (go_at_call 60; refine (C1.out _ (by (repeat (with_reducible first | exact Below.refl _ _ | assumption | refine ext_alloc ?_ _ | refine ext_drew ?_ | refine ext_trans ?_ (by assumption))))).mono ?_; rintro e w1 ⟨a, cap, rfl, _, _, hb⟩; obtain ⟨hc, hf⟩ := bcell hb; have hz := hb.size; (try simp at hz); (try (have hz := Nat.lt_of_succ_le hz)); (try (have y0 : w.heap.size ≤ w1.heap.size := by omega)); (try (have z0 : w.heap.size < w1.heap.size := by omega)); (try (have z1 : w.heap.size + 1 < w1.heap.size := by omega)); (try (have z2 : w.heap.size + 1 + 1 < w1.heap.size := by omega))))
    go_ret
    exact ⟨rfl, by (repeat (with_reducible first | exact Below.refl _ _ | assumption | refine ext_alloc ?_ _ | refine ext_drew ?_ | refine ext_trans ?_ (by assumption)))⟩
set_option maxHeartbeats 4000000 in
theorem specPlaceOf_any (v : Value) (f : Nat → Value) (ts : List CellD) (d : DesD) (x y : Int) (w : World) (hl : CellsS w w.heap.size v ts) (h : DesF w w.heap.size f d) :
    Calls Tryz.prog 23 #[.agg #[v], .agg #[f 0, f 1, f 2], .int .i64 x, .int .i64 y] w fun e w' => e = .returned (.int .i64 (ix (fun i => ((pll (placesY ts d) i).inst == x && (pll (placesY ts d) i).pin == y)) (placesY ts d).length)) ∧ Below w.heap.size w w' := by
  have C0 := Lib.hid (fun (w1 : World) (hb : Below w.heap.size w w1) => specIsDesign_any v f ts d w1 (hl.up hb) (h.up hb))
  have C1 := Lib.hid (fun (w1 : World) (hb : Below w.heap.size w w1) => specFind_any f ts d x y w1 (h.up hb))
  have HL := Lib.hid (fun (w1 : World) (hb : Below w.heap.size w w1) => hl.up hb)
  have HD := Lib.hid (fun (w1 : World) (hb : Below w.heap.size w w1) => h.up hb)
  obtain ⟨al, cl, el⟩ := hl.slice
  obtain ⟨a0, c0, e0⟩ := h.1.slice; obtain ⟨a1, c1, e1⟩ := h.2.1.slice; obtain ⟨a2, c2, e2⟩ := h.2.2.slice
  rw [e0, e1, e2] at C1
  rw [el, e0, e1, e2]
  rw [el, e0, e1, e2] at C0
  clear hl h HL HD
  cases hd : desB ts d
  · rw [placesY_no hd]
    rw [hd] at C0
    clear hd C1 el e0 e1 e2
    go_enter Tryz.func23, Tryz.ntmps23
    go_wp2_with (go_at_call 15; refine (C0.out _ (by (repeat (with_reducible first | exact Below.refl _ _ | assumption | refine ext_alloc ?_ _ | refine ext_drew ?_ | refine ext_trans ?_ (by assumption))))).mono ?_; rintro e w1 ⟨rfl, hb⟩; obtain ⟨hc, hf⟩ := bcell hb; have hz := hb.size; (try simp at hz); (try (have hz := Nat.lt_of_succ_le hz)); (try (have y0 : w.heap.size ≤ w1.heap.size := by omega)); (try (have z0 : w.heap.size < w1.heap.size := by omega)); (try (have z1 : w.heap.size + 1 < w1.heap.size := by omega)); (try (have z2 : w.heap.size + 1 + 1 < w1.heap.size := by omega)); (try (have z3 : w.heap.size + 1 + 1 + 1 < w1.heap.size := by omega)); (try (have z4 : w.heap.size + 1 + 1 + 1 + 1 < w1.heap.size := by omega)); (try (have x0 : wc.heap.size < w1.heap.size := by omega)); (try (have x1 : wc.heap.size ≤ w1.heap.size := by omega)))
    go_ret
    exact ⟨rfl, by (repeat (with_reducible first | exact Below.refl _ _ | assumption | refine ext_alloc ?_ _ | refine ext_drew ?_ | refine ext_trans ?_ (by assumption)))⟩
  · rw [placesY_yes hd]
    have C1 := Lib.hid (fun (w1 : World) (hb : Below w.heap.size w w1) => C1.out w1 hb hd)
    rw [hd] at C0
    clear hd el e0 e1 e2
    go_enter Tryz.func23, Tryz.ntmps23
    go_wp2_with (first | (go_at_call 15; refine (C0.out _ (by (repeat (with_reducible first | exact Below.refl _ _ | assumption | refine ext_alloc ?_ _ | refine ext_drew ?_ | refine ext_trans ?_ (by assumption))))).mono ?_; rintro e w1 ⟨rfl, hb⟩; obtain ⟨hc, hf⟩ := bcell hb; have hz := hb.size; (try simp at hz); (try (have hz := Nat.lt_of_succ_le hz)); (try (have y0 : w.heap.size ≤ w1.heap.size := by omega)); (try (have z0 : w.heap.size < w1.heap.size := by omega)); (try (have z1 : w.heap.size + 1 < w1.heap.size := by omega)); (try (have z2 : w.heap.size + 1 + 1 < w1.heap.size := by omega)); (try (have z3 : w.heap.size + 1 + 1 + 1 < w1.heap.size := by omega)); (try (have z4 : w.heap.size + 1 + 1 + 1 + 1 < w1.heap.size := by omega)); (try (have x0 : wc.heap.size < w1.heap.size := by omega)); (try (have x1 : wc.heap.size ≤ w1.heap.size := by omega))) | (go_at_call 61; refine (C1.out _ (by (repeat (with_reducible first | exact Below.refl _ _ | assumption | refine ext_alloc ?_ _ | refine ext_drew ?_ | refine ext_trans ?_ (by assumption))))).mono ?_; rintro e w1 ⟨rfl, hb⟩; obtain ⟨hc, hf⟩ := bcell hb; have hz := hb.size; (try simp at hz); (try (have hz := Nat.lt_of_succ_le hz)); (try (have y0 : w.heap.size ≤ w1.heap.size := by omega)); (try (have z0 : w.heap.size < w1.heap.size := by omega)); (try (have z1 : w.heap.size + 1 < w1.heap.size := by omega)); (try (have z2 : w.heap.size + 1 + 1 < w1.heap.size := by omega)); (try (have z3 : w.heap.size + 1 + 1 + 1 < w1.heap.size := by omega)); (try (have z4 : w.heap.size + 1 + 1 + 1 + 1 < w1.heap.size := by omega)); (try (have x0 : wc.heap.size < w1.heap.size := by omega)); (try (have x1 : wc.heap.size ≤ w1.heap.size := by omega))))
    go_ret
    exact ⟨rfl, by (repeat (with_reducible first | exact Below.refl _ _ | assumption | refine ext_alloc ?_ _ | refine ext_drew ?_ | refine ext_trans ?_ (by assumption)))⟩
set_option maxHeartbeats 4000000 in
theorem specDriverOf_any (v : Value) (f : Nat → Value) (ts : List CellD) (d : DesD) (x : Int) (w : World) (hl : CellsS w w.heap.size v ts) (h : DesF w w.heap.size f d) :
    Calls Tryz.prog 33 #[.agg #[v], .agg #[f 0, f 1, f 2], .int .i64 x] w fun e w' => e = .returned (.int .i64 (ix (fun i => ((pll (placesY ts d) i).net == x && (pll (placesY ts d) i).drv)) (placesY ts d).length)) ∧ Below w.heap.size w w' := by
  have C0 := Lib.hid (fun (w1 : World) (hb : Below w.heap.size w w1) => specIsDesign_any v f ts d w1 (hl.up hb) (h.up hb))
  have C1 := Lib.hid (fun (w1 : World) (hb : Below w.heap.size w w1) => specDriver_any f ts d x w1 (h.up hb))
  have HL := Lib.hid (fun (w1 : World) (hb : Below w.heap.size w w1) => hl.up hb)
  have HD := Lib.hid (fun (w1 : World) (hb : Below w.heap.size w w1) => h.up hb)
  obtain ⟨al, cl, el⟩ := hl.slice
  obtain ⟨a0, c0, e0⟩ := h.1.slice; obtain ⟨a1, c1, e1⟩ := h.2.1.slice; obtain ⟨a2, c2, e2⟩ := h.2.2.slice
  rw [e0, e1, e2] at C1
  rw [el, e0, e1, e2]
  rw [el, e0, e1, e2] at C0
  clear hl h HL HD
  cases hd : desB ts d
  · rw [placesY_no hd]
    rw [hd] at C0
    clear hd C1 el e0 e1 e2
    go_enter Tryz.func33, Tryz.ntmps33
    go_wp2_with (go_at_call 15; refine (C0.out _ (by (repeat (with_reducible first | exact Below.refl _ _ | assumption | refine ext_alloc ?_ _ | refine ext_drew ?_ | refine ext_trans ?_ (by assumption))))).mono ?_; rintro e w1 ⟨rfl, hb⟩; obtain ⟨hc, hf⟩ := bcell hb; have hz := hb.size; (try simp at hz); (try (have hz := Nat.lt_of_succ_le hz)); (try (have y0 : w.heap.size ≤ w1.heap.size := by omega)); (try (have z0 : w.heap.size < w1.heap.size := by omega)); (try (have z1 : w.heap.size + 1 < w1.heap.size := by omega)); (try (have z2 : w.heap.size + 1 + 1 < w1.heap.size := by omega)); (try (have z3 : w.heap.size + 1 + 1 + 1 < w1.heap.size := by omega)); (try (have z4 : w.heap.size + 1 + 1 + 1 + 1 < w1.heap.size := by omega)); (try (have x0 : wc.heap.size < w1.heap.size := by omega)); (try (have x1 : wc.heap.size ≤ w1.heap.size := by omega)))
    go_ret
    exact ⟨rfl, by (repeat (with_reducible first | exact Below.refl _ _ | assumption | refine ext_alloc ?_ _ | refine ext_drew ?_ | refine ext_trans ?_ (by assumption)))⟩
  · rw [placesY_yes hd]
    have C1 := Lib.hid (fun (w1 : World) (hb : Below w.heap.size w w1) => C1.out w1 hb hd)
    rw [hd] at C0
    clear hd el e0 e1 e2
    go_enter Tryz.func33, Tryz.ntmps33
    go_wp2_with (first | (go_at_call 15; refine (C0.out _ (by (repeat (with_reducible first | exact Below.refl _ _ | assumption | refine ext_alloc ?_ _ | refine ext_drew ?_ | refine ext_trans ?_ (by assumption))))).mono ?_; rintro e w1 ⟨rfl, hb⟩; obtain ⟨hc, hf⟩ := bcell hb; have hz := hb.size; (try simp at hz); (try (have hz := Nat.lt_of_succ_le hz)); (try (have y0 : w.heap.size ≤ w1.heap.size := by omega)); (try (have z0 : w.heap.size < w1.heap.size := by omega)); (try (have z1 : w.heap.size + 1 < w1.heap.size := by omega)); (try (have z2 : w.heap.size + 1 + 1 < w1.heap.size := by omega)); (try (have z3 : w.heap.size + 1 + 1 + 1 < w1.heap.size := by omega)); (try (have z4 : w.heap.size + 1 + 1 + 1 + 1 < w1.heap.size := by omega)); (try (have x0 : wc.heap.size < w1.heap.size := by omega)); (try (have x1 : wc.heap.size ≤ w1.heap.size := by omega))) | (go_at_call 69; refine (C1.out _ (by (repeat (with_reducible first | exact Below.refl _ _ | assumption | refine ext_alloc ?_ _ | refine ext_drew ?_ | refine ext_trans ?_ (by assumption))))).mono ?_; rintro e w1 ⟨rfl, hb⟩; obtain ⟨hc, hf⟩ := bcell hb; have hz := hb.size; (try simp at hz); (try (have hz := Nat.lt_of_succ_le hz)); (try (have y0 : w.heap.size ≤ w1.heap.size := by omega)); (try (have z0 : w.heap.size < w1.heap.size := by omega)); (try (have z1 : w.heap.size + 1 < w1.heap.size := by omega)); (try (have z2 : w.heap.size + 1 + 1 < w1.heap.size := by omega)); (try (have z3 : w.heap.size + 1 + 1 + 1 < w1.heap.size := by omega)); (try (have z4 : w.heap.size + 1 + 1 + 1 + 1 < w1.heap.size := by omega)); (try (have x0 : wc.heap.size < w1.heap.size := by omega)); (try (have x1 : wc.heap.size ≤ w1.heap.size := by omega))))
    go_ret
    exact ⟨rfl, by (repeat (with_reducible first | exact Below.refl _ _ | assumption | refine ext_alloc ?_ _ | refine ext_drew ?_ | refine ext_trans ?_ (by assumption)))⟩
set_option maxHeartbeats 4000000 in
theorem specSinksOf_any (v : Value) (f : Nat → Value) (ts : List CellD) (d : DesD) (x : Int) (w : World) (hl : CellsS w w.heap.size v ts) (h : DesF w w.heap.size f d) :
    Calls Tryz.prog 35 #[.agg #[v], .agg #[f 0, f 1, f 2], .int .i64 x] w fun e w' => ∃ u, e = .returned u ∧ OwnS w' w.heap.size u (endsL (placesY ts d) x false) ∧ Below w.heap.size w w' := by
  have C0 := Lib.hid (fun (w1 : World) (hb : Below w.heap.size w w1) => specIsDesign_any v f ts d w1 (hl.up hb) (h.up hb))
  have C1 := Lib.hid (fun (w1 : World) (hb : Below w.heap.size w w1) => specSinks_any f ts d x w1 (h.up hb))
  have HL := Lib.hid (fun (w1 : World) (hb : Below w.heap.size w w1) => hl.up hb)
  have HD := Lib.hid (fun (w1 : World) (hb : Below w.heap.size w w1) => h.up hb)
  obtain ⟨al, cl, el⟩ := hl.slice
  obtain ⟨a0, c0, e0⟩ := h.1.slice; obtain ⟨a1, c1, e1⟩ := h.2.1.slice; obtain ⟨a2, c2, e2⟩ := h.2.2.slice
  rw [e0, e1, e2] at C1
  rw [el, e0, e1, e2]
  rw [el, e0, e1, e2] at C0
  clear hl h HL HD
  cases hd : desB ts d
  · rw [placesY_no hd]
    rw [hd] at C0
    clear hd C1 el e0 e1 e2
    go_enter Tryz.func35, Tryz.ntmps35
    go_wp2_with (go_at_call 15; refine (C0.out _ (by (repeat (with_reducible first | exact Below.refl _ _ | assumption | refine ext_alloc ?_ _ | refine ext_drew ?_ | refine ext_trans ?_ (by assumption))))).mono ?_; rintro e w1 ⟨rfl, hb⟩; obtain ⟨hc, hf⟩ := bcell hb; have hz := hb.size; (try simp at hz); (try (have hz := Nat.lt_of_succ_le hz)); (try (have y0 : w.heap.size ≤ w1.heap.size := by omega)); (try (have z0 : w.heap.size < w1.heap.size := by omega)); (try (have z1 : w.heap.size + 1 < w1.heap.size := by omega)); (try (have z2 : w.heap.size + 1 + 1 < w1.heap.size := by omega)); (try (have z3 : w.heap.size + 1 + 1 + 1 < w1.heap.size := by omega)); (try (have z4 : w.heap.size + 1 + 1 + 1 + 1 < w1.heap.size := by omega)); (try (have x0 : wc.heap.size < w1.heap.size := by omega)); (try (have x1 : wc.heap.size ≤ w1.heap.size := by omega)))
    go_ret
    exact ⟨_, rfl, ⟨by simp [endsL], none, 0, rfl, fun hp => absurd hp (by simp [endsL])⟩, by (repeat (with_reducible first | exact Below.refl _ _ | assumption | refine ext_alloc ?_ _ | refine ext_drew ?_ | refine ext_trans ?_ (by assumption)))⟩
  · rw [placesY_yes hd]
    have C1 := Lib.hid (fun (w1 : World) (hb : Below w.heap.size w w1) => C1.out w1 hb hd)
    rw [hd] at C0
    clear hd el e0 e1 e2
    go_enter Tryz.func35, Tryz.ntmps35
    go_wp2_with (first | (go_at_call 15; refine (C0.out _ (by (repeat (with_reducible first | exact Below.refl _ _ | assumption | refine ext_alloc ?_ _ | refine ext_drew ?_ | refine ext_trans ?_ (by assumption))))).mono ?_; rintro e w1 ⟨rfl, hb⟩; obtain ⟨hc, hf⟩ := bcell hb; have hz := hb.size; (try simp at hz); (try (have hz := Nat.lt_of_succ_le hz)); (try (have y0 : w.heap.size ≤ w1.heap.size := by omega)); (try (have z0 : w.heap.size < w1.heap.size := by omega)); (try (have z1 : w.heap.size + 1 < w1.heap.size := by omega)); (try (have z2 : w.heap.size + 1 + 1 < w1.heap.size := by omega)); (try (have z3 : w.heap.size + 1 + 1 + 1 < w1.heap.size := by omega)); (try (have z4 : w.heap.size + 1 + 1 + 1 + 1 < w1.heap.size := by omega)); (try (have x0 : wc.heap.size < w1.heap.size := by omega)); (try (have x1 : wc.heap.size ≤ w1.heap.size := by omega))) | (go_at_call 70; refine (C1.out _ (by (repeat (with_reducible first | exact Below.refl _ _ | assumption | refine ext_alloc ?_ _ | refine ext_drew ?_ | refine ext_trans ?_ (by assumption))))).mono ?_; rintro e w1 ⟨u, rfl, hu, hb⟩; have HU := Lib.hid (hu.mono (show w.heap.size ≤ _ from (show Below w.heap.size w _ by (repeat (with_reducible first | exact Below.refl _ _ | assumption | refine ext_alloc ?_ _ | refine ext_drew ?_ | refine ext_trans ?_ (by assumption)))).size)); clear hu; obtain ⟨hc, hf⟩ := bcell hb; have hz := hb.size; (try simp at hz); (try (have hz := Nat.lt_of_succ_le hz)); (try (have y0 : w.heap.size ≤ w1.heap.size := by omega)); (try (have z0 : w.heap.size < w1.heap.size := by omega)); (try (have z1 : w.heap.size + 1 < w1.heap.size := by omega)); (try (have z2 : w.heap.size + 1 + 1 < w1.heap.size := by omega))))
    go_ret
    exact ⟨_, rfl, HU.out, by (repeat (with_reducible first | exact Below.refl _ _ | assumption | refine ext_alloc ?_ _ | refine ext_drew ?_ | refine ext_trans ?_ (by assumption)))⟩
set_option maxHeartbeats 4000000 in
theorem specInstanceOf_any (v : Value) (f : Nat → Value) (ts : List CellD) (d : DesD) (x : Int) (w : World) (hl : CellsS w w.heap.size v ts) (h : DesF w w.heap.size f d) :
    Calls Tryz.prog 25 #[.agg #[v], .agg #[f 0, f 1, f 2], .int .i64 x] w fun e w' => e = .returned (.tuple #[.int .i64 (instanceOfY (placesY ts d) x).1, .int .i64 (instanceOfY (placesY ts d) x).2]) ∧ Below w.heap.size w w' := by
  have C0 := Lib.hid (fun (w1 : World) (hb : Below w.heap.size w w1) => specIsDesign_any v f ts d w1 (hl.up hb) (h.up hb))
  have C1 := Lib.hid (fun (w1 : World) (hb : Below w.heap.size w w1) => specAt_any v f ts d x w1 (hl.up hb) (h.up hb))
  have HL := Lib.hid (fun (w1 : World) (hb : Below w.heap.size w w1) => hl.up hb)
  have HD := Lib.hid (fun (w1 : World) (hb : Below w.heap.size w w1) => h.up hb)
  obtain ⟨al, cl, el⟩ := hl.slice
  obtain ⟨a0, c0, e0⟩ := h.1.slice; obtain ⟨a1, c1, e1⟩ := h.2.1.slice; obtain ⟨a2, c2, e2⟩ := h.2.2.slice
  rw [el, e0, e1, e2] at C1
  rw [el, e0, e1, e2]
  rw [el, e0, e1, e2] at C0
  clear hl h HL HD
  clear C0 el e0 e1 e2
  cases hi : inB x 0 (((placesY ts d).length : Int) - 1)
  · have hA := Lib.hid (show atR (placesY ts d) x = .tuple #[.agg #[.int .i64 0, .int .i64 0, .int .i64 0, .bool false], .bool false] by simp [atR, hi])
    rw [hA.out] at C1
    have hQ := Lib.hid (show instanceOfY (placesY ts d) x = (-1, -1) by simp [instanceOfY, hi])
    rw [hQ.out]
    clear hi
    go_enter Tryz.func25, Tryz.ntmps25
    go_wp2_with (go_at_call 64; refine (C1.out _ (by (repeat (with_reducible first | exact Below.refl _ _ | assumption | refine ext_alloc ?_ _ | refine ext_drew ?_ | refine ext_trans ?_ (by assumption))))).mono ?_; rintro e w1 ⟨rfl, hb⟩; obtain ⟨hc, hf⟩ := bcell hb; have hz := hb.size; (try simp at hz); (try (have hz := Nat.lt_of_succ_le hz)); (try (have y0 : w.heap.size ≤ w1.heap.size := by omega)); (try (have z0 : w.heap.size < w1.heap.size := by omega)); (try (have z1 : w.heap.size + 1 < w1.heap.size := by omega)); (try (have z2 : w.heap.size + 1 + 1 < w1.heap.size := by omega)); (try (have z3 : w.heap.size + 1 + 1 + 1 < w1.heap.size := by omega)); (try (have z4 : w.heap.size + 1 + 1 + 1 + 1 < w1.heap.size := by omega)); (try (have x0 : wc.heap.size < w1.heap.size := by omega)); (try (have x1 : wc.heap.size ≤ w1.heap.size := by omega)))
    go_ret2
    exact ⟨rfl, by (repeat (with_reducible first | exact Below.refl _ _ | assumption | refine ext_alloc ?_ _ | refine ext_drew ?_ | refine ext_trans ?_ (by assumption)))⟩
  · have ⟨i1, i2⟩ := inB_get hi
    obtain ⟨k, hkx⟩ := Int.eq_ofNat_of_zero_le i1
    subst hkx
    have hk : k < (placesY ts d).length := by omega
    have hA := Lib.hid (show atR (placesY ts d) (k : Int) = .tuple #[.agg #[.int .i64 (pll (placesY ts d) k).inst, .int .i64 (pll (placesY ts d) k).pin, .int .i64 (pll (placesY ts d) k).net, .bool (pll (placesY ts d) k).drv], .bool true] by simp [atR, hi])
    rw [hA.out] at C1
    have hQ := Lib.hid (show instanceOfY (placesY ts d) (k : Int) = ((pll (placesY ts d) k).inst, (pll (placesY ts d) k).pin) by simp [instanceOfY, hi])
    rw [hQ.out]
    clear hi i1 i2 hA hQ
    generalize pll (placesY ts d) k = p at C1 ⊢
    go_enter Tryz.func25, Tryz.ntmps25
    go_wp2_with (go_at_call 64; refine (C1.out _ (by (repeat (with_reducible first | exact Below.refl _ _ | assumption | refine ext_alloc ?_ _ | refine ext_drew ?_ | refine ext_trans ?_ (by assumption))))).mono ?_; rintro e w1 ⟨rfl, hb⟩; obtain ⟨hc, hf⟩ := bcell hb; have hz := hb.size; (try simp at hz); (try (have hz := Nat.lt_of_succ_le hz)); (try (have y0 : w.heap.size ≤ w1.heap.size := by omega)); (try (have z0 : w.heap.size < w1.heap.size := by omega)); (try (have z1 : w.heap.size + 1 < w1.heap.size := by omega)); (try (have z2 : w.heap.size + 1 + 1 < w1.heap.size := by omega)); (try (have z3 : w.heap.size + 1 + 1 + 1 < w1.heap.size := by omega)); (try (have z4 : w.heap.size + 1 + 1 + 1 + 1 < w1.heap.size := by omega)); (try (have x0 : wc.heap.size < w1.heap.size := by omega)); (try (have x1 : wc.heap.size ≤ w1.heap.size := by omega)))
    go_quiet (fail)
    go_wp2
    go_ret2
    exact ⟨rfl, by (repeat (with_reducible first | exact Below.refl _ _ | assumption | refine ext_alloc ?_ _ | refine ext_drew ?_ | refine ext_drewN ?_ _ | refine ext_set ?_ (by first | exact Nat.le_refl _ | (simp; done) | (simp; omega) | omega) _ | refine ext_trans ?_ (by assumption)))⟩
set_option maxHeartbeats 4000000 in
theorem specNetOfPlace_any (v : Value) (f : Nat → Value) (ts : List CellD) (d : DesD) (x : Int) (w : World) (hl : CellsS w w.heap.size v ts) (h : DesF w w.heap.size f d) :
    Calls Tryz.prog 31 #[.agg #[v], .agg #[f 0, f 1, f 2], .int .i64 x] w fun e w' => e = .returned (.int .i64 (netOfPlaceY (placesY ts d) x)) ∧ Below w.heap.size w w' := by
  have C0 := Lib.hid (fun (w1 : World) (hb : Below w.heap.size w w1) => specIsDesign_any v f ts d w1 (hl.up hb) (h.up hb))
  have C1 := Lib.hid (fun (w1 : World) (hb : Below w.heap.size w w1) => specAt_any v f ts d x w1 (hl.up hb) (h.up hb))
  have HL := Lib.hid (fun (w1 : World) (hb : Below w.heap.size w w1) => hl.up hb)
  have HD := Lib.hid (fun (w1 : World) (hb : Below w.heap.size w w1) => h.up hb)
  obtain ⟨al, cl, el⟩ := hl.slice
  obtain ⟨a0, c0, e0⟩ := h.1.slice; obtain ⟨a1, c1, e1⟩ := h.2.1.slice; obtain ⟨a2, c2, e2⟩ := h.2.2.slice
  rw [el, e0, e1, e2] at C1
  rw [el, e0, e1, e2]
  rw [el, e0, e1, e2] at C0
  clear hl h HL HD
  clear C0 el e0 e1 e2
  cases hi : inB x 0 (((placesY ts d).length : Int) - 1)
  · have hA := Lib.hid (show atR (placesY ts d) x = .tuple #[.agg #[.int .i64 0, .int .i64 0, .int .i64 0, .bool false], .bool false] by simp [atR, hi])
    rw [hA.out] at C1
    have hQ := Lib.hid (show netOfPlaceY (placesY ts d) x = -1 by simp [netOfPlaceY, hi])
    rw [hQ.out]
    clear hi
    go_enter Tryz.func31, Tryz.ntmps31
    go_wp2_with (go_at_call 64; refine (C1.out _ (by (repeat (with_reducible first | exact Below.refl _ _ | assumption | refine ext_alloc ?_ _ | refine ext_drew ?_ | refine ext_trans ?_ (by assumption))))).mono ?_; rintro e w1 ⟨rfl, hb⟩; obtain ⟨hc, hf⟩ := bcell hb; have hz := hb.size; (try simp at hz); (try (have hz := Nat.lt_of_succ_le hz)); (try (have y0 : w.heap.size ≤ w1.heap.size := by omega)); (try (have z0 : w.heap.size < w1.heap.size := by omega)); (try (have z1 : w.heap.size + 1 < w1.heap.size := by omega)); (try (have z2 : w.heap.size + 1 + 1 < w1.heap.size := by omega)); (try (have z3 : w.heap.size + 1 + 1 + 1 < w1.heap.size := by omega)); (try (have z4 : w.heap.size + 1 + 1 + 1 + 1 < w1.heap.size := by omega)); (try (have x0 : wc.heap.size < w1.heap.size := by omega)); (try (have x1 : wc.heap.size ≤ w1.heap.size := by omega)))
    go_ret
    exact ⟨rfl, by (repeat (with_reducible first | exact Below.refl _ _ | assumption | refine ext_alloc ?_ _ | refine ext_drew ?_ | refine ext_trans ?_ (by assumption)))⟩
  · have ⟨i1, i2⟩ := inB_get hi
    obtain ⟨k, hkx⟩ := Int.eq_ofNat_of_zero_le i1
    subst hkx
    have hk : k < (placesY ts d).length := by omega
    have hA := Lib.hid (show atR (placesY ts d) (k : Int) = .tuple #[.agg #[.int .i64 (pll (placesY ts d) k).inst, .int .i64 (pll (placesY ts d) k).pin, .int .i64 (pll (placesY ts d) k).net, .bool (pll (placesY ts d) k).drv], .bool true] by simp [atR, hi])
    rw [hA.out] at C1
    have hQ := Lib.hid (show netOfPlaceY (placesY ts d) (k : Int) = (pll (placesY ts d) k).net by simp [netOfPlaceY, hi])
    rw [hQ.out]
    clear hi i1 i2 hA hQ
    generalize pll (placesY ts d) k = p at C1 ⊢
    go_enter Tryz.func31, Tryz.ntmps31
    go_wp2_with (go_at_call 64; refine (C1.out _ (by (repeat (with_reducible first | exact Below.refl _ _ | assumption | refine ext_alloc ?_ _ | refine ext_drew ?_ | refine ext_trans ?_ (by assumption))))).mono ?_; rintro e w1 ⟨rfl, hb⟩; obtain ⟨hc, hf⟩ := bcell hb; have hz := hb.size; (try simp at hz); (try (have hz := Nat.lt_of_succ_le hz)); (try (have y0 : w.heap.size ≤ w1.heap.size := by omega)); (try (have z0 : w.heap.size < w1.heap.size := by omega)); (try (have z1 : w.heap.size + 1 < w1.heap.size := by omega)); (try (have z2 : w.heap.size + 1 + 1 < w1.heap.size := by omega)); (try (have z3 : w.heap.size + 1 + 1 + 1 < w1.heap.size := by omega)); (try (have z4 : w.heap.size + 1 + 1 + 1 + 1 < w1.heap.size := by omega)); (try (have x0 : wc.heap.size < w1.heap.size := by omega)); (try (have x1 : wc.heap.size ≤ w1.heap.size := by omega)))
    go_ret
    exact ⟨rfl, by (repeat (with_reducible first | exact Below.refl _ _ | assumption | refine ext_alloc ?_ _ | refine ext_drew ?_ | refine ext_trans ?_ (by assumption)))⟩
set_option maxHeartbeats 4000000 in
theorem specPlaceName_any (v : Value) (f : Nat → Value) (ts : List CellD) (d : DesD) (x : Int) (w : World) (hl : CellsS w w.heap.size v ts) (h : DesF w w.heap.size f d) :
    Calls Tryz.prog 27 #[.agg #[v], .agg #[f 0, f 1, f 2], .int .i64 x] w fun e w' => e = .returned (.string (placeNameY (placesY ts d) x)) ∧ Below w.heap.size w w' := by
  have C0 := Lib.hid (fun (w1 : World) (hb : Below w.heap.size w w1) => specIsDesign_any v f ts d w1 (hl.up hb) (h.up hb))
  have C1 := Lib.hid (fun (w1 : World) (hb : Below w.heap.size w w1) => specAt_any v f ts d x w1 (hl.up hb) (h.up hb))
  have C2 := Lib.hid (fun (w1 : World) (hb : Below w.heap.size w w1) (k : Nat) (hd : desB ts d = true) (hk : k < (places ts d).length) => specName5_any v f ts d k w1 (hl.up hb) (h.up hb) hd hk)
  have HL := Lib.hid (fun (w1 : World) (hb : Below w.heap.size w w1) => hl.up hb)
  have HD := Lib.hid (fun (w1 : World) (hb : Below w.heap.size w w1) => h.up hb)
  obtain ⟨al, cl, el⟩ := hl.slice
  obtain ⟨a0, c0, e0⟩ := h.1.slice; obtain ⟨a1, c1, e1⟩ := h.2.1.slice; obtain ⟨a2, c2, e2⟩ := h.2.2.slice
  rw [el, e0, e1, e2] at C1
  rw [el, e0, e1, e2] at C2
  rw [el, e0, e1, e2]
  rw [el, e0, e1, e2] at C0
  clear hl h HL HD
  clear C0 el e0 e1 e2
  cases hi : inB x 0 (((placesY ts d).length : Int) - 1)
  · have hA := Lib.hid (show atR (placesY ts d) x = .tuple #[.agg #[.int .i64 0, .int .i64 0, .int .i64 0, .bool false], .bool false] by simp [atR, hi])
    rw [hA.out] at C1
    have hQ := Lib.hid (show placeNameY (placesY ts d) x = .empty by simp [placeNameY, hi])
    rw [hQ.out]
    clear hi
    go_enter Tryz.func27, Tryz.ntmps27
    go_wp2_with (go_at_call 64; refine (C1.out _ (by (repeat (with_reducible first | exact Below.refl _ _ | assumption | refine ext_alloc ?_ _ | refine ext_drew ?_ | refine ext_trans ?_ (by assumption))))).mono ?_; rintro e w1 ⟨rfl, hb⟩; obtain ⟨hc, hf⟩ := bcell hb; have hz := hb.size; (try simp at hz); (try (have hz := Nat.lt_of_succ_le hz)); (try (have y0 : w.heap.size ≤ w1.heap.size := by omega)); (try (have z0 : w.heap.size < w1.heap.size := by omega)); (try (have z1 : w.heap.size + 1 < w1.heap.size := by omega)); (try (have z2 : w.heap.size + 1 + 1 < w1.heap.size := by omega)); (try (have z3 : w.heap.size + 1 + 1 + 1 < w1.heap.size := by omega)); (try (have z4 : w.heap.size + 1 + 1 + 1 + 1 < w1.heap.size := by omega)); (try (have x0 : wc.heap.size < w1.heap.size := by omega)); (try (have x1 : wc.heap.size ≤ w1.heap.size := by omega)))
    go_ret
    exact ⟨rfl, by (repeat (with_reducible first | exact Below.refl _ _ | assumption | refine ext_alloc ?_ _ | refine ext_drew ?_ | refine ext_trans ?_ (by assumption)))⟩
  · have ⟨i1, i2⟩ := inB_get hi
    obtain ⟨k, hkx⟩ := Int.eq_ofNat_of_zero_le i1
    subst hkx
    have hk : k < (placesY ts d).length := by omega
    have hA := Lib.hid (show atR (placesY ts d) (k : Int) = .tuple #[.agg #[.int .i64 (pll (placesY ts d) k).inst, .int .i64 (pll (placesY ts d) k).pin, .int .i64 (pll (placesY ts d) k).net, .bool (pll (placesY ts d) k).drv], .bool true] by simp [atR, hi])
    rw [hA.out] at C1
    have hQ := Lib.hid (show placeNameY (placesY ts d) (k : Int) = (pll (placesY ts d) k).name by simp [placeNameY, hi])
    rw [hQ.out]
    clear hi i1 i2 hA hQ
    have hd : desB ts d = true := by
      cases e : desB ts d
      · rw [placesY_no e] at hk
        exact absurd hk (by simp)
      · rfl
    rw [placesY_yes hd] at hk C1 ⊢
    have C2 := Lib.hid (fun (w1 : World) (hb : Below w.heap.size w w1) => C2.out w1 hb k hd hk)
    generalize pll (places ts d) k = p at C1 C2 ⊢
    clear hk hd
    go_enter Tryz.func27, Tryz.ntmps27
    go_wp2_with (first | (go_at_call 64; refine (C1.out _ (by (repeat (with_reducible first | exact Below.refl _ _ | assumption | refine ext_alloc ?_ _ | refine ext_drew ?_ | refine ext_trans ?_ (by assumption))))).mono ?_; rintro e w1 ⟨rfl, hb⟩; obtain ⟨hc, hf⟩ := bcell hb; have hz := hb.size; (try simp at hz); (try (have hz := Nat.lt_of_succ_le hz)); (try (have y0 : w.heap.size ≤ w1.heap.size := by omega)); (try (have z0 : w.heap.size < w1.heap.size := by omega)); (try (have z1 : w.heap.size + 1 < w1.heap.size := by omega)); (try (have z2 : w.heap.size + 1 + 1 < w1.heap.size := by omega)); (try (have z3 : w.heap.size + 1 + 1 + 1 < w1.heap.size := by omega)); (try (have z4 : w.heap.size + 1 + 1 + 1 + 1 < w1.heap.size := by omega)); (try (have x0 : wc.heap.size < w1.heap.size := by omega)); (try (have x1 : wc.heap.size ≤ w1.heap.size := by omega))) | (go_at_call 66; refine (C2.out _ (by (repeat (with_reducible first | exact Below.refl _ _ | assumption | refine ext_alloc ?_ _ | refine ext_drew ?_ | refine ext_trans ?_ (by assumption))))).mono ?_; rintro e w1 ⟨rfl, hb⟩; obtain ⟨hc, hf⟩ := bcell hb; have hz := hb.size; (try simp at hz); (try (have hz := Nat.lt_of_succ_le hz)); (try (have y0 : w.heap.size ≤ w1.heap.size := by omega)); (try (have z0 : w.heap.size < w1.heap.size := by omega)); (try (have z1 : w.heap.size + 1 < w1.heap.size := by omega)); (try (have z2 : w.heap.size + 1 + 1 < w1.heap.size := by omega)); (try (have z3 : w.heap.size + 1 + 1 + 1 < w1.heap.size := by omega)); (try (have z4 : w.heap.size + 1 + 1 + 1 + 1 < w1.heap.size := by omega)); (try (have x0 : wc.heap.size < w1.heap.size := by omega)); (try (have x1 : wc.heap.size ≤ w1.heap.size := by omega))))
    go_ret
    exact ⟨rfl, by (repeat (with_reducible first | exact Below.refl _ _ | assumption | refine ext_alloc ?_ _ | refine ext_drew ?_ | refine ext_trans ?_ (by assumption)))⟩
set_option maxHeartbeats 4000000 in
theorem specPlaceCap_any (v : Value) (f : Nat → Value) (ts : List CellD) (d : DesD) (x : Int) (w : World) (hl : CellsS w w.heap.size v ts) (h : DesF w w.heap.size f d) :
    Calls Tryz.prog 42 #[.agg #[v], .agg #[f 0, f 1, f 2], .int .i64 x] w fun e w' => e = .returned (.int .i64 (placeCapY (placesY ts d) x)) ∧ Below w.heap.size w w' := by
  have C0 := Lib.hid (fun (w1 : World) (hb : Below w.heap.size w w1) => specIsDesign_any v f ts d w1 (hl.up hb) (h.up hb))
  have C1 := Lib.hid (fun (w1 : World) (hb : Below w.heap.size w w1) => specAt_any v f ts d x w1 (hl.up hb) (h.up hb))
  have C2 := Lib.hid (fun (w1 : World) (hb : Below w.heap.size w w1) (k : Nat) (hd : desB ts d = true) (hk : k < (places ts d).length) => specCap_any v f ts d k w1 (hl.up hb) (h.up hb) hd hk)
  have HL := Lib.hid (fun (w1 : World) (hb : Below w.heap.size w w1) => hl.up hb)
  have HD := Lib.hid (fun (w1 : World) (hb : Below w.heap.size w w1) => h.up hb)
  obtain ⟨al, cl, el⟩ := hl.slice
  obtain ⟨a0, c0, e0⟩ := h.1.slice; obtain ⟨a1, c1, e1⟩ := h.2.1.slice; obtain ⟨a2, c2, e2⟩ := h.2.2.slice
  rw [el, e0, e1, e2] at C1
  rw [el, e0, e1, e2] at C2
  rw [el, e0, e1, e2]
  rw [el, e0, e1, e2] at C0
  clear hl h HL HD
  clear C0 el e0 e1 e2
  cases hi : inB x 0 (((placesY ts d).length : Int) - 1)
  · have hA := Lib.hid (show atR (placesY ts d) x = .tuple #[.agg #[.int .i64 0, .int .i64 0, .int .i64 0, .bool false], .bool false] by simp [atR, hi])
    rw [hA.out] at C1
    have hQ := Lib.hid (show placeCapY (placesY ts d) x = -1 by simp [placeCapY, hi])
    rw [hQ.out]
    clear hi
    go_enter Tryz.func42, Tryz.ntmps42
    go_wp2_with (go_at_call 64; refine (C1.out _ (by (repeat (with_reducible first | exact Below.refl _ _ | assumption | refine ext_alloc ?_ _ | refine ext_drew ?_ | refine ext_trans ?_ (by assumption))))).mono ?_; rintro e w1 ⟨rfl, hb⟩; obtain ⟨hc, hf⟩ := bcell hb; have hz := hb.size; (try simp at hz); (try (have hz := Nat.lt_of_succ_le hz)); (try (have y0 : w.heap.size ≤ w1.heap.size := by omega)); (try (have z0 : w.heap.size < w1.heap.size := by omega)); (try (have z1 : w.heap.size + 1 < w1.heap.size := by omega)); (try (have z2 : w.heap.size + 1 + 1 < w1.heap.size := by omega)); (try (have z3 : w.heap.size + 1 + 1 + 1 < w1.heap.size := by omega)); (try (have z4 : w.heap.size + 1 + 1 + 1 + 1 < w1.heap.size := by omega)); (try (have x0 : wc.heap.size < w1.heap.size := by omega)); (try (have x1 : wc.heap.size ≤ w1.heap.size := by omega)))
    go_ret
    exact ⟨rfl, by (repeat (with_reducible first | exact Below.refl _ _ | assumption | refine ext_alloc ?_ _ | refine ext_drew ?_ | refine ext_trans ?_ (by assumption)))⟩
  · have ⟨i1, i2⟩ := inB_get hi
    obtain ⟨k, hkx⟩ := Int.eq_ofNat_of_zero_le i1
    subst hkx
    have hk : k < (placesY ts d).length := by omega
    have hA := Lib.hid (show atR (placesY ts d) (k : Int) = .tuple #[.agg #[.int .i64 (pll (placesY ts d) k).inst, .int .i64 (pll (placesY ts d) k).pin, .int .i64 (pll (placesY ts d) k).net, .bool (pll (placesY ts d) k).drv], .bool true] by simp [atR, hi])
    rw [hA.out] at C1
    have hQ := Lib.hid (show placeCapY (placesY ts d) (k : Int) = (pll (placesY ts d) k).load by simp [placeCapY, hi])
    rw [hQ.out]
    clear hi i1 i2 hA hQ
    have hd : desB ts d = true := by
      cases e : desB ts d
      · rw [placesY_no e] at hk
        exact absurd hk (by simp)
      · rfl
    rw [placesY_yes hd] at hk C1 ⊢
    have C2 := Lib.hid (fun (w1 : World) (hb : Below w.heap.size w w1) => C2.out w1 hb k hd hk)
    generalize pll (places ts d) k = p at C1 C2 ⊢
    clear hk hd
    go_enter Tryz.func42, Tryz.ntmps42
    go_wp2_with (first | (go_at_call 64; refine (C1.out _ (by (repeat (with_reducible first | exact Below.refl _ _ | assumption | refine ext_alloc ?_ _ | refine ext_drew ?_ | refine ext_trans ?_ (by assumption))))).mono ?_; rintro e w1 ⟨rfl, hb⟩; obtain ⟨hc, hf⟩ := bcell hb; have hz := hb.size; (try simp at hz); (try (have hz := Nat.lt_of_succ_le hz)); (try (have y0 : w.heap.size ≤ w1.heap.size := by omega)); (try (have z0 : w.heap.size < w1.heap.size := by omega)); (try (have z1 : w.heap.size + 1 < w1.heap.size := by omega)); (try (have z2 : w.heap.size + 1 + 1 < w1.heap.size := by omega)); (try (have z3 : w.heap.size + 1 + 1 + 1 < w1.heap.size := by omega)); (try (have z4 : w.heap.size + 1 + 1 + 1 + 1 < w1.heap.size := by omega)); (try (have x0 : wc.heap.size < w1.heap.size := by omega)); (try (have x1 : wc.heap.size ≤ w1.heap.size := by omega))) | (go_at_call 75; refine (C2.out _ (by (repeat (with_reducible first | exact Below.refl _ _ | assumption | refine ext_alloc ?_ _ | refine ext_drew ?_ | refine ext_trans ?_ (by assumption))))).mono ?_; rintro e w1 ⟨rfl, hb⟩; obtain ⟨hc, hf⟩ := bcell hb; have hz := hb.size; (try simp at hz); (try (have hz := Nat.lt_of_succ_le hz)); (try (have y0 : w.heap.size ≤ w1.heap.size := by omega)); (try (have z0 : w.heap.size < w1.heap.size := by omega)); (try (have z1 : w.heap.size + 1 < w1.heap.size := by omega)); (try (have z2 : w.heap.size + 1 + 1 < w1.heap.size := by omega)); (try (have z3 : w.heap.size + 1 + 1 + 1 < w1.heap.size := by omega)); (try (have z4 : w.heap.size + 1 + 1 + 1 + 1 < w1.heap.size := by omega)); (try (have x0 : wc.heap.size < w1.heap.size := by omega)); (try (have x1 : wc.heap.size ≤ w1.heap.size := by omega))))
    go_ret
    exact ⟨rfl, by (repeat (with_reducible first | exact Below.refl _ _ | assumption | refine ext_alloc ?_ _ | refine ext_drew ?_ | refine ext_trans ?_ (by assumption)))⟩
end Go.Proofs.YtibonacjbidfmaaGreat
