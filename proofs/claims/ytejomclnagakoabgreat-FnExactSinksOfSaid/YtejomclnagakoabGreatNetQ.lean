/-
The model's functions over designs, as the document lists them.
-/
import Derived.Test.YtejomclnagakoabGreatNetH
namespace Go.Proofs.YtejomclnagakoabGreat
open Go.ChangeShapes Go.WideShapes Go.ChangeAt Go.RowKit Go.Deep
set_option linter.unusedVariables false
set_option linter.unusedSimpArgs false
set_option maxRecDepth 100000
theorem placesY_yes {ts : List CellD} {d : DesD} (h : desB ts d = true) : placesY ts d = places ts d := by simp [placesY, h]
theorem placesY_no {ts : List CellD} {d : DesD} (h : desB ts d = false) : placesY ts d = [] := by simp [placesY, h]
def instanceOfY (P : List PlD) (x : Int) : Int × Int := if inB x 0 ((P.length : Int) - 1) then ((pll P x.toNat).inst, (pll P x.toNat).pin) else (-1, -1)
def placeNameY (P : List PlD) (x : Int) : ByteArray := if inB x 0 ((P.length : Int) - 1) then (pll P x.toNat).name else .empty
def netOfPlaceY (P : List PlD) (x : Int) : Int := if inB x 0 ((P.length : Int) - 1) then (pll P x.toNat).net else -1
def placeCapY (P : List PlD) (x : Int) : Int := if inB x 0 ((P.length : Int) - 1) then (pll P x.toNat).load else -1
theorem inB_nil (x : Int) : inB x 0 (((([] : List PlD).length : Nat) : Int) - 1) = false := by
  simp only [inB, Bool.and_eq_false_iff, decide_eq_false_iff_not, List.length_nil]
  omega
set_option maxHeartbeats 4000000 in
theorem specSinksOf_any (v : Value) (f : Nat → Value) (ts : List CellD) (d : DesD) (x : Int) (w : World) (hl : CellsS w w.heap.size v ts) (h : DesF w w.heap.size f d) :
    Calls Tryz.prog 28 #[.agg #[v], .agg #[f 0, f 1, f 2], .int .i64 x] w fun e w' => ∃ u, e = .returned u ∧ OwnS w' w.heap.size u (endsL (placesY ts d) x false) ∧ Below w.heap.size w w' := by
  have C0 := Lib.hid (fun (w1 : World) (hb : Below w.heap.size w w1) => specIsDesign_any v f ts d w1 (hl.up hb) (h.up hb))
  have C1 := Lib.hid (fun (w1 : World) (hb : Below w.heap.size w w1) => specSinks_any f ts d x w1 (h.up hb))
  have HL := Lib.hid (fun (w1 : World) (hb : Below w.heap.size w w1) => hl.up hb)
  have HD := Lib.hid (fun (w1 : World) (hb : Below w.heap.size w w1) => h.up hb)
  obtain ⟨al, cl, el⟩ := hl.slice
  obtain ⟨a0, c0, e0⟩ := h.1.slice; obtain ⟨a1, c1, e1⟩ := h.2.1.slice; obtain ⟨a2, c2, e2⟩ := h.2.2.slice
  rw [e0, e1, e2] at C1
  rw [el, e0, e1, e2]
  rw [el, e0, e1, e2] at C0
  clear hl h HL HD
  cases hd : desB ts d
  · rw [placesY_no hd]
    rw [hd] at C0
    clear hd C1 el e0 e1 e2
    go_enter Tryz.func28, Tryz.ntmps28
    go_wp2_with (go_at_call 58; refine (C0.out _ (by (repeat (with_reducible first | exact eR _ _ | assumption | refine eA ?_ _ | refine eD ?_ | refine eN ?_ _ | refine eS ?_ _ | refine eT ?_ (by assumption))))).mono ?_; rintro e w1 ⟨rfl, hb⟩; obtain ⟨hc, hf⟩ := bcell hb; have hz := hb.size; (try simp at hz); (try (have hz := Nat.lt_of_succ_le hz)); (try (have y0 : w.heap.size ≤ w1.heap.size := by omega)); (try (have z0 : w.heap.size < w1.heap.size := by omega)); (try (have z1 : w.heap.size + 1 < w1.heap.size := by omega)); (try (have z2 : w.heap.size + 1 + 1 < w1.heap.size := by omega)); (try (have z3 : w.heap.size + 1 + 1 + 1 < w1.heap.size := by omega)); (try (have z4 : w.heap.size + 1 + 1 + 1 + 1 < w1.heap.size := by omega)); (try (have x0 : wc.heap.size < w1.heap.size := by omega)); (try (have x1 : wc.heap.size ≤ w1.heap.size := by omega)))
    go_ret
    exact ⟨_, rfl, ⟨by simp [endsL], none, 0, rfl, fun hp => absurd hp (by simp [endsL])⟩, by (repeat (with_reducible first | exact eR _ _ | assumption | refine eA ?_ _ | refine eD ?_ | refine eN ?_ _ | refine eS ?_ _ | refine eT ?_ (by assumption)))⟩
  · rw [placesY_yes hd]
    have C1 := Lib.hid (fun (w1 : World) (hb : Below w.heap.size w w1) => C1.out w1 hb hd)
    rw [hd] at C0
    clear hd el e0 e1 e2
    go_enter Tryz.func28, Tryz.ntmps28
    go_wp2_with (first | (go_at_call 58; refine (C0.out _ (by (repeat (with_reducible first | exact eR _ _ | assumption | refine eA ?_ _ | refine eD ?_ | refine eN ?_ _ | refine eS ?_ _ | refine eT ?_ (by assumption))))).mono ?_; rintro e w1 ⟨rfl, hb⟩; obtain ⟨hc, hf⟩ := bcell hb; have hz := hb.size; (try simp at hz); (try (have hz := Nat.lt_of_succ_le hz)); (try (have y0 : w.heap.size ≤ w1.heap.size := by omega)); (try (have z0 : w.heap.size < w1.heap.size := by omega)); (try (have z1 : w.heap.size + 1 < w1.heap.size := by omega)); (try (have z2 : w.heap.size + 1 + 1 < w1.heap.size := by omega)); (try (have z3 : w.heap.size + 1 + 1 + 1 < w1.heap.size := by omega)); (try (have z4 : w.heap.size + 1 + 1 + 1 + 1 < w1.heap.size := by omega)); (try (have x0 : wc.heap.size < w1.heap.size := by omega)); (try (have x1 : wc.heap.size ≤ w1.heap.size := by omega))) | (go_at_call 59; refine (C1.out _ (by (repeat (with_reducible first | exact eR _ _ | assumption | refine eA ?_ _ | refine eD ?_ | refine eN ?_ _ | refine eS ?_ _ | refine eT ?_ (by assumption))))).mono ?_; rintro e w1 ⟨u, rfl, hu, hb⟩; have HU := Lib.hid (hu.mono (show w.heap.size ≤ _ from (show Below w.heap.size w _ by (repeat (with_reducible first | exact eR _ _ | assumption | refine eA ?_ _ | refine eD ?_ | refine eN ?_ _ | refine eS ?_ _ | refine eT ?_ (by assumption)))).size)); clear hu; obtain ⟨hc, hf⟩ := bcell hb; have hz := hb.size; (try simp at hz); (try (have hz := Nat.lt_of_succ_le hz)); (try (have y0 : w.heap.size ≤ w1.heap.size := by omega)); (try (have z0 : w.heap.size < w1.heap.size := by omega)); (try (have z1 : w.heap.size + 1 < w1.heap.size := by omega)); (try (have z2 : w.heap.size + 1 + 1 < w1.heap.size := by omega))))
    go_ret
    exact ⟨_, rfl, HU.out, by (repeat (with_reducible first | exact eR _ _ | assumption | refine eA ?_ _ | refine eD ?_ | refine eN ?_ _ | refine eS ?_ _ | refine eT ?_ (by assumption)))⟩
end Go.Proofs.YtejomclnagakoabGreat
