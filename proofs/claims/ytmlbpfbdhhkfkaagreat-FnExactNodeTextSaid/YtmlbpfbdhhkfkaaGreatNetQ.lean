/-
The model's functions over designs, as the document lists them.
-/
import Derived.Test.YtmlbpfbdhhkfkaaGreatNetH
namespace Go.Proofs.YtmlbpfbdhhkfkaaGreat
open Go.ChangeShapes Go.WideShapes Go.ChangeAt Go.RowKit Go.Deep
set_option linter.unusedVariables false
set_option linter.unusedSimpArgs false
set_option maxRecDepth 100000
theorem placesY_yes {ts : List CellD} {d : DesD} (h : desB ts d = true) : placesY ts d = places ts d := by simp [placesY, h]
theorem placesY_no {ts : List CellD} {d : DesD} (h : desB ts d = false) : placesY ts d = [] := by simp [placesY, h]
def instanceOfY (P : List PlD) (x : Int) : Int × Int := if inB x 0 ((P.length : Int) - 1) then ((pll P x.toNat).inst, (pll P x.toNat).pin) else (-1, -1)
def placeNameY (P : List PlD) (x : Int) : ByteArray := if inB x 0 ((P.length : Int) - 1) then (pll P x.toNat).name else .empty
def netOfPlaceY (P : List PlD) (x : Int) : Int := if inB x 0 ((P.length : Int) - 1) then (pll P x.toNat).net else -1
def placeCapY (P : List PlD) (x : Int) : Int := if inB x 0 ((P.length : Int) - 1) then (pll P x.toNat).load else -1
theorem inB_nil (x : Int) : inB x 0 (((([] : List PlD).length : Nat) : Int) - 1) = false := by
 simp only [inB, Bool.and_eq_false_iff, decide_eq_false_iff_not, List.length_nil]
 omega
set_option maxHeartbeats 4000000 in
theorem specPlaceName_any (v : Value) (f : Nat → Value) (ts : List CellD) (d : DesD) (x : Int) (w : World) (hl : CellsS w w.heap.size v ts) (h : DesF w w.heap.size f d) :
  Calls Tryz.prog 57 #[.agg #[v], .agg #[f 0, f 1, f 2], .int .i64 x] w fun e w' => e = .returned (.string (placeNameY (placesY ts d) x)) ∧ Below w.heap.size w w' := by
 have C0 := Lib.hid (fun (w1 : World) (hb : Below w.heap.size w w1) => specIsDesign_any v f ts d w1 (hl.up hb) (h.up hb))
 have C1 := Lib.hid (fun (w1 : World) (hb : Below w.heap.size w w1) => specAt_any v f ts d x w1 (hl.up hb) (h.up hb))
 have C2 := Lib.hid (fun (w1 : World) (hb : Below w.heap.size w w1) (k : Nat) (hd : desB ts d = true) (hk : k < (places ts d).length) => specName5_any v f ts d k w1 (hl.up hb) (h.up hb) hd hk)
 have HL := Lib.hid (fun (w1 : World) (hb : Below w.heap.size w w1) => hl.up hb)
 have HD := Lib.hid (fun (w1 : World) (hb : Below w.heap.size w w1) => h.up hb)
 obtain ⟨al, cl, el⟩ := hl.slice
 obtain ⟨a0, c0, e0⟩ := h.1.slice; obtain ⟨a1, c1, e1⟩ := h.2.1.slice; obtain ⟨a2, c2, e2⟩ := h.2.2.slice
 rw [el, e0, e1, e2] at C1
 rw [el, e0, e1, e2] at C2
 rw [el, e0, e1, e2]
 rw [el, e0, e1, e2] at C0
 clear hl h HL HD
 clear C0 el e0 e1 e2
 cases hi : inB x 0 (((placesY ts d).length : Int) - 1)
 ·have hA := Lib.hid (show atR (placesY ts d) x = .tuple #[.agg #[.int .i64 0, .int .i64 0, .int .i64 0, .bool false], .bool false] by simp [atR, hi])
  rw [hA.out] at C1
  have hQ := Lib.hid (show placeNameY (placesY ts d) x = .empty by simp [placeNameY, hi])
  rw [hQ.out]
  clear hi
  go_enter Tryz.func57, Tryz.ntmps57
  go_wp2_with (go_at_call 105; refine (C1.out _ eX).mono ?_; rintro e w1 ⟨rfl, hb⟩; have ⟨hc, hf⟩ := bcell hb; have hz := hb.size; (try simp at hz); (try have hz := Nat.lt_of_succ_le hz); (try have y0 := wy w w1); (try have z0 := wz0 w w1); (try have z1 := wz1 w w1); (try have z2 := wz2 w w1); (try have z3 := wz3 w w1); (try have z4 := wz4 w w1); (try have x0 := wz0 wc w1); (try have x1 := wy wc w1))
  go_ret
  exact ⟨rfl, eX⟩
 ·have ⟨i1, i2⟩ := inB_get hi
  obtain ⟨k, hkx⟩ := Int.eq_ofNat_of_zero_le i1
  subst hkx
  have hk : k < (placesY ts d).length := by omega
  have hA := Lib.hid (show atR (placesY ts d) (k : Int) = .tuple #[.agg #[.int .i64 (pll (placesY ts d) k).inst, .int .i64 (pll (placesY ts d) k).pin, .int .i64 (pll (placesY ts d) k).net, .bool (pll (placesY ts d) k).drv], .bool true] by simp [atR, hi])
  rw [hA.out] at C1
  have hQ := Lib.hid (show placeNameY (placesY ts d) (k : Int) = (pll (placesY ts d) k).name by simp [placeNameY, hi])
  rw [hQ.out]
  clear hi i1 i2 hA hQ
  have hd : desB ts d = true := by
   cases e : desB ts d
   ·rw [placesY_no e] at hk
    exact absurd hk (by simp)
   ·rfl
  rw [placesY_yes hd] at hk C1 ⊢
  have C2 := Lib.hid (fun (w1 : World) (hb : Below w.heap.size w w1) => C2.out w1 hb k hd hk)
  generalize pll (places ts d) k = p at C1 C2 ⊢
  clear hk hd
  go_enter Tryz.func57, Tryz.ntmps57
  go_wp2_with (first | (go_at_call 105; refine (C1.out _ eX).mono ?_; rintro e w1 ⟨rfl, hb⟩; have ⟨hc, hf⟩ := bcell hb; have hz := hb.size; (try simp at hz); (try have hz := Nat.lt_of_succ_le hz); (try have y0 := wy w w1); (try have z0 := wz0 w w1); (try have z1 := wz1 w w1); (try have z2 := wz2 w w1); (try have z3 := wz3 w w1); (try have z4 := wz4 w w1); (try have x0 := wz0 wc w1); (try have x1 := wy wc w1)) | (go_at_call 106; refine (C2.out _ eX).mono ?_; rintro e w1 ⟨rfl, hb⟩; have ⟨hc, hf⟩ := bcell hb; have hz := hb.size; (try simp at hz); (try have hz := Nat.lt_of_succ_le hz); (try have y0 := wy w w1); (try have z0 := wz0 w w1); (try have z1 := wz1 w w1); (try have z2 := wz2 w w1); (try have z3 := wz3 w w1); (try have z4 := wz4 w w1); (try have x0 := wz0 wc w1); (try have x1 := wy wc w1)))
  go_ret
  exact ⟨rfl, eX⟩
end Go.Proofs.YtmlbpfbdhhkfkaaGreat
