/-
The program's functions over designs.
-/
import Derived.Test.YtibonacjbidfmaaGreatNetF
import Derived.Test.YtibonacjbidfmaaGreatClone
import Derived.Laws.AppendOwnNone
namespace Go.Proofs.YtibonacjbidfmaaGreat
open Go.ChangeShapes Go.WideShapes Go.ChangeAt Go.RowKit Go.Deep
set_option linter.unusedVariables false
set_option linter.unusedSimpArgs false
set_option maxRecDepth 100000
theorem made0 (w : World) (e : TypeId) (g : Nat) (hg : g = w.heap.size) : (w.alloc (Obj.cells #[] e)).ownsRow g e 1 (.slice (some ⟨g, 0, none⟩) 0 0) 0 [] := by
  subst hg
  exact World.ownsRow_made w #[] 0 (Nat.le_refl _) (by unfold maxLen; omega) rfl
theorem PlS.at {w wr : World} {a : Option Addr} {cap k : Nat} {P : List PlD} (h : PlS w w.heap.size (.slice a P.length cap) P) (hb : Below w.heap.size w wr) (hk : k < P.length) :
    ∃ b off, a = some ⟨b, off, none⟩ ∧ b < w.heap.size ∧ wr.cell? ⟨b, off + k * 6, none⟩ = some (.int .i64 (pll P k).inst) ∧ wr.cell? ⟨b, off + k * 6 + 1, none⟩ = some (.int .i64 (pll P k).pin) ∧ wr.cell? ⟨b, off + k * 6 + 2, none⟩ = some (.string (pll P k).name) ∧ wr.cell? ⟨b, off + k * 6 + 3, none⟩ = some (.int .i64 (pll P k).net) ∧ wr.cell? ⟨b, off + k * 6 + 4, none⟩ = some (.int .i64 (pll P k).load) ∧ wr.cell? ⟨b, off + k * 6 + 5, none⟩ = some (.bool (pll P k).drv) := by
  obtain ⟨F, hc, hf⟩ := h
  obtain ⟨b, off, rfl, hlt, hx⟩ := hc.at hb hk
  have y0 := hx 0 (by omega); have y1 := hx 1 (by omega); have y2 := hx 2 (by omega); have y3 := hx 3 (by omega); have y4 := hx 4 (by omega); have y5 := hx 5 (by omega)
  obtain ⟨e0, e1, e2, e3, e4, e5⟩ := hf k hk
  rw [e0] at y0; rw [e1] at y1; rw [e2] at y2; rw [e3] at y3; rw [e4] at y4; rw [e5] at y5
  exact ⟨b, off, rfl, hlt, by simpa using y0, y1, y2, y3, y4, y5⟩
theorem implIsDesign_any (v : Value) (f : Nat → Value) (ts : List CellD) (d : DesD) (w : World) (hl : CellsS w w.heap.size v ts) (h : DesF w w.heap.size f d) :
    Calls Tryz.prog 18 #[.agg #[v], .agg #[f 0, f 1, f 2]] w fun e w' => e = .returned (.bool (desB ts d)) ∧ Below w.heap.size w w' := by
  have C := Lib.hid (fun (w1 : World) (hb : Below w.heap.size w w1) => netlistOf_any v f ts d w1 (hl.up hb) (h.up hb))
  obtain ⟨al, cl, el⟩ := hl.slice
  obtain ⟨a0, c0, e0⟩ := h.1.slice; obtain ⟨a1, c1, e1⟩ := h.2.1.slice; obtain ⟨a2, c2, e2⟩ := h.2.2.slice
  rw [el, e0, e1, e2] at C ⊢
  clear hl h el e0 e1 e2
  go_enter Tryz.func18, Tryz.ntmps18
  go_wp2_with fail
  go_at_call 55
  refine (C.out _ (by (repeat (with_reducible first | exact Below.refl _ _ | assumption | refine ext_alloc ?_ _ | refine ext_drew ?_ | refine ext_trans ?_ (by assumption))))).mono ?_
  rintro e w1 ⟨nv, rfl, aa, cc, m, rfl, hP, hLk, hb⟩
  obtain ⟨hc, hf⟩ := bcell hb
  have hz := hb.size
  go_wp2
  go_ret
  exact ⟨rfl, by (repeat (with_reducible first | exact Below.refl _ _ | assumption | refine ext_alloc ?_ _ | refine ext_drew ?_ | refine ext_trans ?_ (by assumption)))⟩
theorem implPlaceCount_any (v : Value) (f : Nat → Value) (ts : List CellD) (d : DesD) (w : World) (hl : CellsS w w.heap.size v ts) (h : DesF w w.heap.size f d) :
    Calls Tryz.prog 22 #[.agg #[v], .agg #[f 0, f 1, f 2]] w fun e w' => e = .returned (.int .i64 (if desB ts d then ((places ts d).length : Int) else -1)) ∧ Below w.heap.size w w' := by
  have C := Lib.hid (fun (w1 : World) (hb : Below w.heap.size w w1) => netlistOf_any v f ts d w1 (hl.up hb) (h.up hb))
  obtain ⟨al, cl, el⟩ := hl.slice
  obtain ⟨a0, c0, e0⟩ := h.1.slice; obtain ⟨a1, c1, e1⟩ := h.2.1.slice; obtain ⟨a2, c2, e2⟩ := h.2.2.slice
  rw [el, e0, e1, e2] at C ⊢
  clear hl h el e0 e1 e2
  have hPl := placesZ_len ts d
  cases hd : desB ts d
  · have HZ := Lib.hid (placesZ_no hd)
    unfold NetOf at C
    rw [hd] at C
    clear hd
    go_enter Tryz.func22, Tryz.ntmps22
    go_wp2_with fail
    go_at_call 55
    refine (C.out _ (by (repeat (with_reducible first | exact Below.refl _ _ | assumption | refine ext_alloc ?_ _ | refine ext_drew ?_ | refine ext_trans ?_ (by assumption))))).mono ?_
    rintro e w1 ⟨nv, rfl, aa, cc, m, rfl, hP, hLk, hb⟩
    have bA := Lib.hid hb
    obtain ⟨hc, hf⟩ := bcell hb
    have hz := hb.size
    clear hLk hP
    go_wp2
    go_ret
    exact ⟨rfl, by (repeat (with_reducible first | exact Below.refl _ _ | assumption | refine ext_alloc ?_ _ | refine ext_drew ?_ | refine ext_trans ?_ (by assumption)))⟩
  · have HZ := Lib.hid (placesZ_yes hd)
    unfold NetOf at C
    rw [hd] at C
    clear hd
    go_enter Tryz.func22, Tryz.ntmps22
    go_wp2_with fail
    go_at_call 55
    refine (C.out _ (by (repeat (with_reducible first | exact Below.refl _ _ | assumption | refine ext_alloc ?_ _ | refine ext_drew ?_ | refine ext_trans ?_ (by assumption))))).mono ?_
    rintro e w1 ⟨nv, rfl, aa, cc, m, rfl, hP, hLk, hb⟩
    obtain ⟨hc, hf⟩ := bcell hb
    have hz := hb.size
    clear hLk hP
    go_wp2
    go_ret
    exact ⟨by rw [← HZ.out]; rfl, by (repeat (with_reducible first | exact Below.refl _ _ | assumption | refine ext_alloc ?_ _ | refine ext_drew ?_ | refine ext_trans ?_ (by assumption)))⟩
set_option maxHeartbeats 4000000 in
theorem implPlaceOf_any (v : Value) (f : Nat → Value) (ts : List CellD) (d : DesD) (a b : Int) (w : World) (hl : CellsS w w.heap.size v ts) (h : DesF w w.heap.size f d) :
    Calls Tryz.prog 24 #[.agg #[v], .agg #[f 0, f 1, f 2], .int .i64 a, .int .i64 b] w fun e w' => e = .returned (.int .i64 (ix (fun i => ((pll (placesZ ts d) i).inst == a && (pll (placesZ ts d) i).pin == b)) (placesZ ts d).length)) ∧ Below w.heap.size w w' := by
  have C := Lib.hid (fun (w1 : World) (hb : Below w.heap.size w w1) => netlistOf_any v f ts d w1 (hl.up hb) (h.up hb))
  obtain ⟨al, cl, el⟩ := hl.slice
  obtain ⟨a0, c0, e0⟩ := h.1.slice; obtain ⟨a1, c1, e1⟩ := h.2.1.slice; obtain ⟨a2, c2, e2⟩ := h.2.2.slice
  rw [el, e0, e1, e2] at C ⊢
  clear hl h el e0 e1 e2
  have hPl := placesZ_len ts d
  unfold NetOf at C
  generalize hPP : placesZ ts d = P at C hPl ⊢
  clear hPP
  go_enter Tryz.func24, Tryz.ntmps24
  go_wp2_with fail
  go_at_call 55
  refine (C.out _ (by (repeat (with_reducible first | exact Below.refl _ _ | assumption | refine ext_alloc ?_ _ | refine ext_drew ?_ | refine ext_trans ?_ (by assumption))))).mono ?_
  rintro e w1 ⟨nv, rfl, aa, cc, m, rfl, hP, hLk, hb⟩
  have HP := Lib.hid hP
  have HK := Lib.hid hLk
  obtain ⟨hc, hf⟩ := bcell hb
  have hz := hb.size
  clear hP hLk
  go_wp2_with fail
  (go_at_call 62; refine (ixPk_any _ P a b _ (HP.out.up (by (repeat (with_reducible first | exact Below.refl _ _ | assumption | refine ext_alloc ?_ _ | refine ext_drew ?_ | refine ext_trans ?_ (by assumption)))))).mono ?_; rintro e w2 ⟨rfl, hb⟩; obtain ⟨hc, hf⟩ := bcell hb; have hz := hb.size; (try simp at hz); (try (have hz := Nat.lt_of_succ_le hz)); (try (have y0 : w.heap.size ≤ w2.heap.size := by omega)); (try (have z0 : w.heap.size < w2.heap.size := by omega)); (try (have z1 : w.heap.size + 1 < w2.heap.size := by omega)); (try (have z2 : w.heap.size + 1 + 1 < w2.heap.size := by omega)); (try (have z3 : w.heap.size + 1 + 1 + 1 < w2.heap.size := by omega)); (try (have z4 : w.heap.size + 1 + 1 + 1 + 1 < w2.heap.size := by omega)))
  go_wp2
  go_ret
  exact ⟨rfl, by (repeat (with_reducible first | exact Below.refl _ _ | assumption | refine ext_alloc ?_ _ | refine ext_drew ?_ | refine ext_trans ?_ (by assumption)))⟩
set_option maxHeartbeats 4000000 in
theorem implPlaceNamed_any (v : Value) (f : Nat → Value) (ts : List CellD) (d : DesD) (s : ByteArray) (w : World) (hl : CellsS w w.heap.size v ts) (h : DesF w w.heap.size f d) :
    Calls Tryz.prog 30 #[.agg #[v], .agg #[f 0, f 1, f 2], .string s] w fun e w' => e = .returned (.int .i64 (ix (fun i => ((pll (placesZ ts d) i).name.toList == s.toList)) (placesZ ts d).length)) ∧ Below w.heap.size w w' := by
  have C := Lib.hid (fun (w1 : World) (hb : Below w.heap.size w w1) => netlistOf_any v f ts d w1 (hl.up hb) (h.up hb))
  obtain ⟨al, cl, el⟩ := hl.slice
  obtain ⟨a0, c0, e0⟩ := h.1.slice; obtain ⟨a1, c1, e1⟩ := h.2.1.slice; obtain ⟨a2, c2, e2⟩ := h.2.2.slice
  rw [el, e0, e1, e2] at C ⊢
  clear hl h el e0 e1 e2
  have hPl := placesZ_len ts d
  unfold NetOf at C
  generalize hPP : placesZ ts d = P at C hPl ⊢
  clear hPP
  go_enter Tryz.func30, Tryz.ntmps30
  go_wp2_with fail
  go_at_call 55
  refine (C.out _ (by (repeat (with_reducible first | exact Below.refl _ _ | assumption | refine ext_alloc ?_ _ | refine ext_drew ?_ | refine ext_trans ?_ (by assumption))))).mono ?_
  rintro e w1 ⟨nv, rfl, aa, cc, m, rfl, hP, hLk, hb⟩
  have HP := Lib.hid hP
  have HK := Lib.hid hLk
  obtain ⟨hc, hf⟩ := bcell hb
  have hz := hb.size
  clear hP hLk
  go_wp2_with fail
  (go_at_call 67; refine (ixPm_any _ P s _ (HP.out.up (by (repeat (with_reducible first | exact Below.refl _ _ | assumption | refine ext_alloc ?_ _ | refine ext_drew ?_ | refine ext_trans ?_ (by assumption)))))).mono ?_; rintro e w2 ⟨rfl, hb⟩; obtain ⟨hc, hf⟩ := bcell hb; have hz := hb.size; (try simp at hz); (try (have hz := Nat.lt_of_succ_le hz)); (try (have y0 : w.heap.size ≤ w2.heap.size := by omega)); (try (have z0 : w.heap.size < w2.heap.size := by omega)); (try (have z1 : w.heap.size + 1 < w2.heap.size := by omega)); (try (have z2 : w.heap.size + 1 + 1 < w2.heap.size := by omega)); (try (have z3 : w.heap.size + 1 + 1 + 1 < w2.heap.size := by omega)); (try (have z4 : w.heap.size + 1 + 1 + 1 + 1 < w2.heap.size := by omega)))
  go_wp2
  go_ret
  exact ⟨rfl, by (repeat (with_reducible first | exact Below.refl _ _ | assumption | refine ext_alloc ?_ _ | refine ext_drew ?_ | refine ext_trans ?_ (by assumption)))⟩
def instanceOfZ (P : List PlD) (x : Int) : Int × Int := if inB x 0 ((P.length : Int) - 1) then ((pll P x.toNat).inst, (pll P x.toNat).pin) else (-1, -1)
set_option maxHeartbeats 4000000 in
theorem implInstanceOf_any (v : Value) (f : Nat → Value) (ts : List CellD) (d : DesD) (x : Int) (w : World) (hl : CellsS w w.heap.size v ts) (h : DesF w w.heap.size f d) :
    Calls Tryz.prog 26 #[.agg #[v], .agg #[f 0, f 1, f 2], .int .i64 x] w fun e w' => e = .returned (.tuple #[.int .i64 (instanceOfZ (placesZ ts d) x).1, .int .i64 (instanceOfZ (placesZ ts d) x).2]) ∧ Below w.heap.size w w' := by
  have C := Lib.hid (fun (w1 : World) (hb : Below w.heap.size w w1) => netlistOf_any v f ts d w1 (hl.up hb) (h.up hb))
  obtain ⟨al, cl, el⟩ := hl.slice
  obtain ⟨a0, c0, e0⟩ := h.1.slice; obtain ⟨a1, c1, e1⟩ := h.2.1.slice; obtain ⟨a2, c2, e2⟩ := h.2.2.slice
  rw [el, e0, e1, e2] at C ⊢
  clear hl h el e0 e1 e2
  have hPl := placesZ_len ts d
  unfold NetOf at C
  generalize hPP : placesZ ts d = P at C hPl ⊢
  clear hPP
  have hx := hPl
  cases hi : inB x 0 ((P.length : Int) - 1)
  · have hQ := Lib.hid (show instanceOfZ P x = (-1, -1) by simp [instanceOfZ, hi])
    rw [hQ.out]
    have HQ := Lib.hid (fun (aa : Option Addr) (cc : Nat) (w1 : World) => hasIxPl_any aa P.length cc x w1 (by omega))
    rw [hi] at HQ
    clear hi
    go_enter Tryz.func26, Tryz.ntmps26
    go_wp2_with fail
    go_at_call 55
    refine (C.out _ (by (repeat (with_reducible first | exact Below.refl _ _ | assumption | refine ext_alloc ?_ _ | refine ext_drew ?_ | refine ext_trans ?_ (by assumption))))).mono ?_
    rintro e w1 ⟨nv, rfl, aa, cc, m, rfl, hP, hLk, hb⟩
    have HP := Lib.hid hP
    have HK := Lib.hid hLk
    obtain ⟨hc, hf⟩ := bcell hb
    have hz := hb.size
    clear hP hLk
    go_wp2_with (go_at_call 65; refine (HQ.out _ _ _).mono ?_; rintro e w' ⟨rfl, hw'⟩; rw [hw']; clear hw' w')
    go_ret2
    exact ⟨rfl, by (repeat (with_reducible first | exact Below.refl _ _ | assumption | refine ext_alloc ?_ _ | refine ext_drew ?_ | refine ext_trans ?_ (by assumption)))⟩
  · have ⟨i1, i2⟩ := inB_get hi
    obtain ⟨k, hkx⟩ := Int.eq_ofNat_of_zero_le i1
    subst hkx
    have hk : k < P.length := by omega
    have hQ := Lib.hid (show instanceOfZ P (k : Int) = ((pll P k).inst, (pll P k).pin) by simp [instanceOfZ, hi])
    rw [hQ.out]
    have HQ := Lib.hid (fun (aa : Option Addr) (cc : Nat) (w1 : World) => hasIxPl_any aa P.length cc (k : Int) w1 (by omega))
    rw [hi] at HQ
    clear hi i1 i2
    go_enter Tryz.func26, Tryz.ntmps26
    go_wp2_with fail
    go_at_call 55
    refine (C.out _ (by (repeat (with_reducible first | exact Below.refl _ _ | assumption | refine ext_alloc ?_ _ | refine ext_drew ?_ | refine ext_trans ?_ (by assumption))))).mono ?_
    rintro e w1 ⟨nv, rfl, aa, cc, m, rfl, hP, hLk, hb⟩
    have HP := Lib.hid hP
    have HK := Lib.hid hLk
    obtain ⟨hc, hf⟩ := bcell hb
    have hz := hb.size
    clear hP hLk
    obtain ⟨b, off, rfl, hlt, y0, y1, y2, y3, y4, y5⟩ := HP.out.at (Below.refl _ _) hk
    have hI : (k : Int) < (P.length : Int) := by omega
    have i0 : (0 : Int) ≤ (k : Int) := by omega
    go_wp2_with (go_at_call 65; refine (HQ.out _ _ _).mono ?_; rintro e w' ⟨rfl, hw'⟩; rw [hw']; clear hw' w')
    go_quiet (fail)
    go_wp2
    go_ret2
    exact ⟨rfl, by (repeat (with_reducible first | exact Below.refl _ _ | assumption | refine ext_alloc ?_ _ | refine ext_drew ?_ | refine ext_drewN ?_ _ | refine ext_set ?_ (by first | exact Nat.le_refl _ | (simp; done) | (simp; omega) | omega) _ | refine ext_trans ?_ (by assumption)))⟩
def placeNameZ (P : List PlD) (x : Int) : ByteArray := if inB x 0 ((P.length : Int) - 1) then (pll P x.toNat).name else .empty
set_option maxHeartbeats 4000000 in
theorem implPlaceName_any (v : Value) (f : Nat → Value) (ts : List CellD) (d : DesD) (x : Int) (w : World) (hl : CellsS w w.heap.size v ts) (h : DesF w w.heap.size f d) :
    Calls Tryz.prog 28 #[.agg #[v], .agg #[f 0, f 1, f 2], .int .i64 x] w fun e w' => e = .returned (.string (placeNameZ (placesZ ts d) x)) ∧ Below w.heap.size w w' := by
  have C := Lib.hid (fun (w1 : World) (hb : Below w.heap.size w w1) => netlistOf_any v f ts d w1 (hl.up hb) (h.up hb))
  obtain ⟨al, cl, el⟩ := hl.slice
  obtain ⟨a0, c0, e0⟩ := h.1.slice; obtain ⟨a1, c1, e1⟩ := h.2.1.slice; obtain ⟨a2, c2, e2⟩ := h.2.2.slice
  rw [el, e0, e1, e2] at C ⊢
  clear hl h el e0 e1 e2
  have hPl := placesZ_len ts d
  unfold NetOf at C
  generalize hPP : placesZ ts d = P at C hPl ⊢
  clear hPP
  have hx := hPl
  cases hi : inB x 0 ((P.length : Int) - 1)
  · have hQ := Lib.hid (show placeNameZ P x = .empty by simp [placeNameZ, hi])
    rw [hQ.out]
    have HQ := Lib.hid (fun (aa : Option Addr) (cc : Nat) (w1 : World) => hasIxPl_any aa P.length cc x w1 (by omega))
    rw [hi] at HQ
    clear hi
    go_enter Tryz.func28, Tryz.ntmps28
    go_wp2_with fail
    go_at_call 55
    refine (C.out _ (by (repeat (with_reducible first | exact Below.refl _ _ | assumption | refine ext_alloc ?_ _ | refine ext_drew ?_ | refine ext_trans ?_ (by assumption))))).mono ?_
    rintro e w1 ⟨nv, rfl, aa, cc, m, rfl, hP, hLk, hb⟩
    have HP := Lib.hid hP
    have HK := Lib.hid hLk
    obtain ⟨hc, hf⟩ := bcell hb
    have hz := hb.size
    clear hP hLk
    go_wp2_with (go_at_call 65; refine (HQ.out _ _ _).mono ?_; rintro e w' ⟨rfl, hw'⟩; rw [hw']; clear hw' w')
    go_ret
    exact ⟨rfl, by (repeat (with_reducible first | exact Below.refl _ _ | assumption | refine ext_alloc ?_ _ | refine ext_drew ?_ | refine ext_trans ?_ (by assumption)))⟩
  · have ⟨i1, i2⟩ := inB_get hi
    obtain ⟨k, hkx⟩ := Int.eq_ofNat_of_zero_le i1
    subst hkx
    have hk : k < P.length := by omega
    have hQ := Lib.hid (show placeNameZ P (k : Int) = (pll P k).name by simp [placeNameZ, hi])
    rw [hQ.out]
    have HQ := Lib.hid (fun (aa : Option Addr) (cc : Nat) (w1 : World) => hasIxPl_any aa P.length cc (k : Int) w1 (by omega))
    rw [hi] at HQ
    clear hi i1 i2
    go_enter Tryz.func28, Tryz.ntmps28
    go_wp2_with fail
    go_at_call 55
    refine (C.out _ (by (repeat (with_reducible first | exact Below.refl _ _ | assumption | refine ext_alloc ?_ _ | refine ext_drew ?_ | refine ext_trans ?_ (by assumption))))).mono ?_
    rintro e w1 ⟨nv, rfl, aa, cc, m, rfl, hP, hLk, hb⟩
    have HP := Lib.hid hP
    have HK := Lib.hid hLk
    obtain ⟨hc, hf⟩ := bcell hb
    have hz := hb.size
    clear hP hLk
    obtain ⟨b, off, rfl, hlt, y0, y1, y2, y3, y4, y5⟩ := HP.out.at (Below.refl _ _) hk
    have hI : (k : Int) < (P.length : Int) := by omega
    have i0 : (0 : Int) ≤ (k : Int) := by omega
    go_wp2_with (go_at_call 65; refine (HQ.out _ _ _).mono ?_; rintro e w' ⟨rfl, hw'⟩; rw [hw']; clear hw' w')
    go_ret
    exact ⟨rfl, by (repeat (with_reducible first | exact Below.refl _ _ | assumption | refine ext_alloc ?_ _ | refine ext_drew ?_ | refine ext_trans ?_ (by assumption)))⟩
def netOfPlaceZ (P : List PlD) (x : Int) : Int := if inB x 0 ((P.length : Int) - 1) then (pll P x.toNat).net else -1
set_option maxHeartbeats 4000000 in
theorem implNetOfPlace_any (v : Value) (f : Nat → Value) (ts : List CellD) (d : DesD) (x : Int) (w : World) (hl : CellsS w w.heap.size v ts) (h : DesF w w.heap.size f d) :
    Calls Tryz.prog 32 #[.agg #[v], .agg #[f 0, f 1, f 2], .int .i64 x] w fun e w' => e = .returned (.int .i64 (netOfPlaceZ (placesZ ts d) x)) ∧ Below w.heap.size w w' := by
  have C := Lib.hid (fun (w1 : World) (hb : Below w.heap.size w w1) => netlistOf_any v f ts d w1 (hl.up hb) (h.up hb))
  obtain ⟨al, cl, el⟩ := hl.slice
  obtain ⟨a0, c0, e0⟩ := h.1.slice; obtain ⟨a1, c1, e1⟩ := h.2.1.slice; obtain ⟨a2, c2, e2⟩ := h.2.2.slice
  rw [el, e0, e1, e2] at C ⊢
  clear hl h el e0 e1 e2
  have hPl := placesZ_len ts d
  unfold NetOf at C
  generalize hPP : placesZ ts d = P at C hPl ⊢
  clear hPP
  have hx := hPl
  cases hi : inB x 0 ((P.length : Int) - 1)
  · have hQ := Lib.hid (show netOfPlaceZ P x = -1 by simp [netOfPlaceZ, hi])
    rw [hQ.out]
    have HQ := Lib.hid (fun (aa : Option Addr) (cc : Nat) (w1 : World) => hasIxPl_any aa P.length cc x w1 (by omega))
    rw [hi] at HQ
    clear hi
    go_enter Tryz.func32, Tryz.ntmps32
    go_wp2_with fail
    go_at_call 55
    refine (C.out _ (by (repeat (with_reducible first | exact Below.refl _ _ | assumption | refine ext_alloc ?_ _ | refine ext_drew ?_ | refine ext_trans ?_ (by assumption))))).mono ?_
    rintro e w1 ⟨nv, rfl, aa, cc, m, rfl, hP, hLk, hb⟩
    have HP := Lib.hid hP
    have HK := Lib.hid hLk
    obtain ⟨hc, hf⟩ := bcell hb
    have hz := hb.size
    clear hP hLk
    go_wp2_with (go_at_call 65; refine (HQ.out _ _ _).mono ?_; rintro e w' ⟨rfl, hw'⟩; rw [hw']; clear hw' w')
    go_ret
    exact ⟨rfl, by (repeat (with_reducible first | exact Below.refl _ _ | assumption | refine ext_alloc ?_ _ | refine ext_drew ?_ | refine ext_trans ?_ (by assumption)))⟩
  · have ⟨i1, i2⟩ := inB_get hi
    obtain ⟨k, hkx⟩ := Int.eq_ofNat_of_zero_le i1
    subst hkx
    have hk : k < P.length := by omega
    have hQ := Lib.hid (show netOfPlaceZ P (k : Int) = (pll P k).net by simp [netOfPlaceZ, hi])
    rw [hQ.out]
    have HQ := Lib.hid (fun (aa : Option Addr) (cc : Nat) (w1 : World) => hasIxPl_any aa P.length cc (k : Int) w1 (by omega))
    rw [hi] at HQ
    clear hi i1 i2
    go_enter Tryz.func32, Tryz.ntmps32
    go_wp2_with fail
    go_at_call 55
    refine (C.out _ (by (repeat (with_reducible first | exact Below.refl _ _ | assumption | refine ext_alloc ?_ _ | refine ext_drew ?_ | refine ext_trans ?_ (by assumption))))).mono ?_
    rintro e w1 ⟨nv, rfl, aa, cc, m, rfl, hP, hLk, hb⟩
    have HP := Lib.hid hP
    have HK := Lib.hid hLk
    obtain ⟨hc, hf⟩ := bcell hb
    have hz := hb.size
    clear hP hLk
    obtain ⟨b, off, rfl, hlt, y0, y1, y2, y3, y4, y5⟩ := HP.out.at (Below.refl _ _) hk
    have hI : (k : Int) < (P.length : Int) := by omega
    have i0 : (0 : Int) ≤ (k : Int) := by omega
    go_wp2_with (go_at_call 65; refine (HQ.out _ _ _).mono ?_; rintro e w' ⟨rfl, hw'⟩; rw [hw']; clear hw' w')
    go_ret
    exact ⟨rfl, by (repeat (with_reducible first | exact Below.refl _ _ | assumption | refine ext_alloc ?_ _ | refine ext_drew ?_ | refine ext_trans ?_ (by assumption)))⟩
def placeCapZ (P : List PlD) (x : Int) : Int := if inB x 0 ((P.length : Int) - 1) then (pll P x.toNat).load else -1
set_option maxHeartbeats 4000000 in
theorem implPlaceCap_any (v : Value) (f : Nat → Value) (ts : List CellD) (d : DesD) (x : Int) (w : World) (hl : CellsS w w.heap.size v ts) (h : DesF w w.heap.size f d) :
    Calls Tryz.prog 43 #[.agg #[v], .agg #[f 0, f 1, f 2], .int .i64 x] w fun e w' => e = .returned (.int .i64 (placeCapZ (placesZ ts d) x)) ∧ Below w.heap.size w w' := by
  have C := Lib.hid (fun (w1 : World) (hb : Below w.heap.size w w1) => netlistOf_any v f ts d w1 (hl.up hb) (h.up hb))
  obtain ⟨al, cl, el⟩ := hl.slice
  obtain ⟨a0, c0, e0⟩ := h.1.slice; obtain ⟨a1, c1, e1⟩ := h.2.1.slice; obtain ⟨a2, c2, e2⟩ := h.2.2.slice
  rw [el, e0, e1, e2] at C ⊢
  clear hl h el e0 e1 e2
  have hPl := placesZ_len ts d
  unfold NetOf at C
  generalize hPP : placesZ ts d = P at C hPl ⊢
  clear hPP
  have hx := hPl
  cases hi : inB x 0 ((P.length : Int) - 1)
  · have hQ := Lib.hid (show placeCapZ P x = -1 by simp [placeCapZ, hi])
    rw [hQ.out]
    have HQ := Lib.hid (fun (aa : Option Addr) (cc : Nat) (w1 : World) => hasIxPl_any aa P.length cc x w1 (by omega))
    rw [hi] at HQ
    clear hi
    go_enter Tryz.func43, Tryz.ntmps43
    go_wp2_with fail
    go_at_call 55
    refine (C.out _ (by (repeat (with_reducible first | exact Below.refl _ _ | assumption | refine ext_alloc ?_ _ | refine ext_drew ?_ | refine ext_trans ?_ (by assumption))))).mono ?_
    rintro e w1 ⟨nv, rfl, aa, cc, m, rfl, hP, hLk, hb⟩
    have HP := Lib.hid hP
    have HK := Lib.hid hLk
    obtain ⟨hc, hf⟩ := bcell hb
    have hz := hb.size
    clear hP hLk
    go_wp2_with (go_at_call 65; refine (HQ.out _ _ _).mono ?_; rintro e w' ⟨rfl, hw'⟩; rw [hw']; clear hw' w')
    go_ret
    exact ⟨rfl, by (repeat (with_reducible first | exact Below.refl _ _ | assumption | refine ext_alloc ?_ _ | refine ext_drew ?_ | refine ext_trans ?_ (by assumption)))⟩
  · have ⟨i1, i2⟩ := inB_get hi
    obtain ⟨k, hkx⟩ := Int.eq_ofNat_of_zero_le i1
    subst hkx
    have hk : k < P.length := by omega
    have hQ := Lib.hid (show placeCapZ P (k : Int) = (pll P k).load by simp [placeCapZ, hi])
    rw [hQ.out]
    have HQ := Lib.hid (fun (aa : Option Addr) (cc : Nat) (w1 : World) => hasIxPl_any aa P.length cc (k : Int) w1 (by omega))
    rw [hi] at HQ
    clear hi i1 i2
    go_enter Tryz.func43, Tryz.ntmps43
    go_wp2_with fail
    go_at_call 55
    refine (C.out _ (by (repeat (with_reducible first | exact Below.refl _ _ | assumption | refine ext_alloc ?_ _ | refine ext_drew ?_ | refine ext_trans ?_ (by assumption))))).mono ?_
    rintro e w1 ⟨nv, rfl, aa, cc, m, rfl, hP, hLk, hb⟩
    have HP := Lib.hid hP
    have HK := Lib.hid hLk
    obtain ⟨hc, hf⟩ := bcell hb
    have hz := hb.size
    clear hP hLk
    obtain ⟨b, off, rfl, hlt, y0, y1, y2, y3, y4, y5⟩ := HP.out.at (Below.refl _ _) hk
    have hI : (k : Int) < (P.length : Int) := by omega
    have i0 : (0 : Int) ≤ (k : Int) := by omega
    go_wp2_with (go_at_call 65; refine (HQ.out _ _ _).mono ?_; rintro e w' ⟨rfl, hw'⟩; rw [hw']; clear hw' w')
    go_ret
    exact ⟨rfl, by (repeat (with_reducible first | exact Below.refl _ _ | assumption | refine ext_alloc ?_ _ | refine ext_drew ?_ | refine ext_trans ?_ (by assumption)))⟩
def drvI (P : List PlD) (n : Int) : Int := if (endsL P n true).isEmpty then -1 else iv (endsL P n true) 0
set_option maxHeartbeats 4000000 in
theorem implDriverOf_any (v : Value) (f : Nat → Value) (ts : List CellD) (d : DesD) (x : Int) (w : World) (hl : CellsS w w.heap.size v ts) (h : DesF w w.heap.size f d) (hwf : (Lit.int .i64 x).wf = true) :
    Calls Tryz.prog 34 #[.agg #[v], .agg #[f 0, f 1, f 2], .int .i64 x] w fun e w' => e = .returned (.int .i64 (drvI (placesZ ts d) x)) ∧ Below w.heap.size w w' := by
  have C := Lib.hid (fun (w1 : World) (hb : Below w.heap.size w w1) => netlistOf_any v f ts d w1 (hl.up hb) (h.up hb))
  obtain ⟨al, cl, el⟩ := hl.slice
  obtain ⟨a0, c0, e0⟩ := h.1.slice; obtain ⟨a1, c1, e1⟩ := h.2.1.slice; obtain ⟨a2, c2, e2⟩ := h.2.2.slice
  rw [el, e0, e1, e2] at C ⊢
  clear hl h el e0 e1 e2
  have hPl := placesZ_len ts d
  unfold NetOf at C
  generalize hPP : placesZ ts d = P at C hPl ⊢
  clear hPP
  have hle := endsL_le P x true
  obtain ⟨L, hL⟩ : ∃ L, L = endsL P x true := ⟨_, rfl⟩
  have HL := Lib.hid hL
  rw [← hL] at hle
  clear hL
  cases he : L.isEmpty
  · have hQ := Lib.hid (show drvI P x = iv L 0 by unfold drvI; rw [← HL.out, he]; rfl)
    have hp : 0 < L.length := by cases L with | nil => simp at he | cons a b => simp
    rw [hQ.out]
    go_enter Tryz.func34, Tryz.ntmps34
    go_wp2_with fail
    go_at_call 55
    refine (C.out _ (by (repeat (with_reducible first | exact Below.refl _ _ | assumption | refine ext_alloc ?_ _ | refine ext_drew ?_ | refine ext_trans ?_ (by assumption))))).mono ?_
    rintro e w1 ⟨nv, rfl, aa, cc, m, rfl, hP, hLk, hb⟩
    have HP := Lib.hid hP
    have HK := Lib.hid hLk
    obtain ⟨hc, hf⟩ := bcell hb
    have hz := hb.size
    clear hP hLk
    have bA : Below w1.heap.size w1 (w1.alloc (Obj.cells #[.slice aa P.length cc, .map m] 78)) := (Below.refl _ _).alloc (Nat.le_refl _) _
    obtain ⟨u, _, hrun, hu, _⟩ := HK.out _ bA x true hwf
    rw [← HL.out, he] at hrun
    rw [← HL.out] at hu
    obtain ⟨_, pa, qa, rfl, hx⟩ := hu
    obtain ⟨b, off, rfl, hlt, hxx⟩ := hx hp
    have y0 := hxx 0 hp
    simp only [Nat.add_zero] at y0
    have hrun : (Instr.lookup 76 (.map m) (.agg #[.int .i64 x, .bool true]) true).run Tryz.prog (w1.alloc (Obj.cells #[.slice aa P.length cc, .map m] 78)) = .ok (.tuple #[.slice (some ⟨b, off, none⟩) L.length qa, .bool true]) _ := hrun
    have hpi : (0 : Int) < (L.length : Int) := by omega
    clear hx hxx he
    go_wp2
    go_ret
    exact ⟨rfl, by (repeat (with_reducible first | exact Below.refl _ _ | assumption | refine ext_alloc ?_ _ | refine ext_drew ?_ | refine ext_trans ?_ (by assumption)))⟩
  · have hQ := Lib.hid (show drvI P x = -1 by unfold drvI; rw [← HL.out, he]; rfl)
    rw [hQ.out]
    go_enter Tryz.func34, Tryz.ntmps34
    go_wp2_with fail
    go_at_call 55
    refine (C.out _ (by (repeat (with_reducible first | exact Below.refl _ _ | assumption | refine ext_alloc ?_ _ | refine ext_drew ?_ | refine ext_trans ?_ (by assumption))))).mono ?_
    rintro e w1 ⟨nv, rfl, aa, cc, m, rfl, hP, hLk, hb⟩
    have HP := Lib.hid hP
    have HK := Lib.hid hLk
    obtain ⟨hc, hf⟩ := bcell hb
    have hz := hb.size
    clear hP hLk
    have bA : Below w1.heap.size w1 (w1.alloc (Obj.cells #[.slice aa P.length cc, .map m] 78)) := (Below.refl _ _).alloc (Nat.le_refl _) _
    obtain ⟨u, _, hrun, hu, _⟩ := HK.out _ bA x true hwf
    rw [← HL.out, he] at hrun
    have hrun : (Instr.lookup 76 (.map m) (.agg #[.int .i64 x, .bool true]) true).run Tryz.prog (w1.alloc (Obj.cells #[.slice aa P.length cc, .map m] 78)) = .ok (.tuple #[u, .bool false]) _ := hrun
    clear hu he
    go_wp2
    go_ret
    exact ⟨rfl, by (repeat (with_reducible first | exact Below.refl _ _ | assumption | refine ext_alloc ?_ _ | refine ext_drew ?_ | refine ext_trans ?_ (by assumption)))⟩
def snkI (P : List PlD) (n : Int) : List Int := if (endsL P n true).isEmpty then [] else endsL P n false
set_option maxHeartbeats 4000000 in
theorem implSinksOf_any (v : Value) (f : Nat → Value) (ts : List CellD) (d : DesD) (x : Int) (w : World) (hl : CellsS w w.heap.size v ts) (h : DesF w w.heap.size f d) (hwf : (Lit.int .i64 x).wf = true) :
    Calls Tryz.prog 36 #[.agg #[v], .agg #[f 0, f 1, f 2], .int .i64 x] w fun e w' => ∃ u, e = .returned u ∧ OwnS w' w.heap.size u (snkI (placesZ ts d) x) ∧ Below w.heap.size w w' := by
  have C := Lib.hid (fun (w1 : World) (hb : Below w.heap.size w w1) => netlistOf_any v f ts d w1 (hl.up hb) (h.up hb))
  obtain ⟨al, cl, el⟩ := hl.slice
  obtain ⟨a0, c0, e0⟩ := h.1.slice; obtain ⟨a1, c1, e1⟩ := h.2.1.slice; obtain ⟨a2, c2, e2⟩ := h.2.2.slice
  rw [el, e0, e1, e2] at C ⊢
  clear hl h el e0 e1 e2
  have hPl := placesZ_len ts d
  unfold NetOf at C
  generalize hPP : placesZ ts d = P at C hPl ⊢
  clear hPP
  obtain ⟨i0, hi, hz0, hz1, hz2⟩ := info_parts Tryz.infoI64
  have hle := endsL_le P x false
  obtain ⟨L, hL⟩ : ∃ L, L = endsL P x true := ⟨_, rfl⟩
  have HL := Lib.hid hL
  clear hL
  obtain ⟨M, hM⟩ : ∃ M, M = endsL P x false := ⟨_, rfl⟩
  have HM := Lib.hid hM
  rw [← hM] at hle
  clear hM
  cases he : L.isEmpty
  · have hQ := Lib.hid (show snkI P x = M by unfold snkI; rw [← HL.out, he, ← HM.out]; rfl)
    rw [hQ.out]
    by_cases hp : 0 < M.length
    · skip
      go_enter Tryz.func36, Tryz.ntmps36
      go_wp2_with fail
      go_at_call 55
      refine (C.out _ (by (repeat (with_reducible first | exact Below.refl _ _ | assumption | refine ext_alloc ?_ _ | refine ext_drew ?_ | refine ext_trans ?_ (by assumption))))).mono ?_
      rintro e w1 ⟨nv, rfl, aa, cc, m, rfl, hP, hLk, hb⟩
      have HP := Lib.hid hP
      have HK := Lib.hid hLk
      obtain ⟨hc, hf⟩ := bcell hb
      have hz := hb.size
      clear hP hLk
      have bA : Below w1.heap.size w1 (w1.alloc (Obj.cells #[.slice aa P.length cc, .map m] 78)) := (Below.refl _ _).alloc (Nat.le_refl _) _
      have bC : Below w1.heap.size w1 ((w1.alloc (Obj.cells #[.slice aa P.length cc, .map m] 78)).alloc (Obj.cells #[] 2)) := bA.alloc (by simp) _
      obtain ⟨u, _, hrun, _, _⟩ := HK.out _ bA x true hwf
      rw [← HL.out, he] at hrun
      obtain ⟨q, hrun2, _, hq, hqn⟩ := HK.out _ bC x false hwf
      rw [← HM.out] at hq hqn
      have hrun : (Instr.lookup 76 (.map m) (.agg #[.int .i64 x, .bool true]) true).run Tryz.prog (w1.alloc (Obj.cells #[.slice aa P.length cc, .map m] 78)) = .ok (.tuple #[u, .bool true]) _ := hrun
      obtain ⟨_, pa, qa, rfl, hx⟩ := hq
      obtain ⟨b, off, rfl, hlt, hxx⟩ := hx hp
      have HXX := Lib.hid hxx
      have hrun2 : (Instr.lookup 76 (.map m) (.agg #[.int .i64 x, .bool false]) false).run Tryz.prog ((w1.alloc (Obj.cells #[.slice aa P.length cc, .map m] 78)).alloc (Obj.cells #[] 2)) = .ok (.slice (some ⟨b, off, none⟩) M.length qa) _ := hrun2
      clear hx hxx he hqn
      go_wp2_with (at_builtin; refine wpList_append_own _ rfl _ _ 55 rfl (w1.heap.size + 1) 2 i0 (.int .i64 0) 1 8 Tryz.underlying55 hi hz0 hz1 hz2 rfl (by decide) (.slice (some ⟨w1.heap.size + 1, 0, none⟩) 0 0) 0 [] rfl (made0 (w1.alloc (Obj.cells #[.slice aa P.length cc, .map m] 78)) _ _ (by simp)) ⟨b, off, none⟩ M.length qa (icells M) rfl (by simp [icells]) (int_cells HXX.out) icells_one (by unfold maxLen; omega) (by omega) (by simp) ?_; intro v' w2 hown' hgrow hnil)
      have hw1 : Below w.heap.size w w1 := by (repeat (with_reducible first | exact Below.refl _ _ | assumption | refine ext_alloc ?_ _ | refine ext_drew ?_ | refine ext_trans ?_ (by assumption)))
      have hs1 := hw1.size
      have hb2 : Below w.heap.size w w2 := (hw1.trans (bC.mono hs1)).grown hgrow (by simp; omega) (fun k hk => by have := own_blk hk; omega)
      have O := Lib.hid (show OwnS w2 w.heap.size v' M from (row_own (by simpa using hown') (by omega)).mono (by omega))
      clear hnil hgrow hown'
      go_ret
      exact ⟨_, rfl, O.out, hb2⟩
    · skip
      go_enter Tryz.func36, Tryz.ntmps36
      go_wp2_with fail
      go_at_call 55
      refine (C.out _ (by (repeat (with_reducible first | exact Below.refl _ _ | assumption | refine ext_alloc ?_ _ | refine ext_drew ?_ | refine ext_trans ?_ (by assumption))))).mono ?_
      rintro e w1 ⟨nv, rfl, aa, cc, m, rfl, hP, hLk, hb⟩
      have HP := Lib.hid hP
      have HK := Lib.hid hLk
      obtain ⟨hc, hf⟩ := bcell hb
      have hz := hb.size
      clear hP hLk
      have bA : Below w1.heap.size w1 (w1.alloc (Obj.cells #[.slice aa P.length cc, .map m] 78)) := (Below.refl _ _).alloc (Nat.le_refl _) _
      have bC : Below w1.heap.size w1 ((w1.alloc (Obj.cells #[.slice aa P.length cc, .map m] 78)).alloc (Obj.cells #[] 2)) := bA.alloc (by simp) _
      obtain ⟨u, _, hrun, _, _⟩ := HK.out _ bA x true hwf
      rw [← HL.out, he] at hrun
      obtain ⟨q, hrun2, _, hq, hqn⟩ := HK.out _ bC x false hwf
      rw [← HM.out] at hq hqn
      have hrun : (Instr.lookup 76 (.map m) (.agg #[.int .i64 x, .bool true]) true).run Tryz.prog (w1.alloc (Obj.cells #[.slice aa P.length cc, .map m] 78)) = .ok (.tuple #[u, .bool true]) _ := hrun
      obtain rfl : M = [] := by cases M with | nil => rfl | cons a b => simp at hp
      obtain rfl := hqn rfl
      have hrun2 : (Instr.lookup 76 (.map m) (.agg #[.int .i64 x, .bool false]) false).run Tryz.prog ((w1.alloc (Obj.cells #[.slice aa P.length cc, .map m] 78)).alloc (Obj.cells #[] 2)) = .ok (.slice none 0 0) _ := hrun2
      clear he hqn hq
      go_wp2_with (at_builtin; refine wpList_append_own_none rfl _ _ 55 rfl (w1.heap.size + 1) 2 i0 1 Tryz.underlying55 hi (.slice (some ⟨w1.heap.size + 1, 0, none⟩) 0 0) 0 [] rfl (made0 (w1.alloc (Obj.cells #[.slice aa P.length cc, .map m] 78)) _ _ (by simp)) rfl ?_)
      go_ret
      exact ⟨_, rfl, ⟨by simp, _, _, rfl, fun hp => absurd hp (by simp)⟩, by (repeat (with_reducible first | exact Below.refl _ _ | assumption | refine ext_alloc ?_ _ | refine ext_drew ?_ | refine ext_trans ?_ (by assumption)))⟩
  · have hQ := Lib.hid (show snkI P x = [] by unfold snkI; rw [← HL.out, he]; rfl)
    rw [hQ.out]
    go_enter Tryz.func36, Tryz.ntmps36
    go_wp2_with fail
    go_at_call 55
    refine (C.out _ (by (repeat (with_reducible first | exact Below.refl _ _ | assumption | refine ext_alloc ?_ _ | refine ext_drew ?_ | refine ext_trans ?_ (by assumption))))).mono ?_
    rintro e w1 ⟨nv, rfl, aa, cc, m, rfl, hP, hLk, hb⟩
    have HP := Lib.hid hP
    have HK := Lib.hid hLk
    obtain ⟨hc, hf⟩ := bcell hb
    have hz := hb.size
    clear hP hLk
    have bA : Below w1.heap.size w1 (w1.alloc (Obj.cells #[.slice aa P.length cc, .map m] 78)) := (Below.refl _ _).alloc (Nat.le_refl _) _
    obtain ⟨u, _, hrun, _, _⟩ := HK.out _ bA x true hwf
    rw [← HL.out, he] at hrun
    have hrun : (Instr.lookup 76 (.map m) (.agg #[.int .i64 x, .bool true]) true).run Tryz.prog (w1.alloc (Obj.cells #[.slice aa P.length cc, .map m] 78)) = .ok (.tuple #[u, .bool false]) _ := hrun
    clear he
    go_wp2
    go_ret
    exact ⟨_, rfl, ⟨by simp, none, 0, rfl, fun hp => absurd hp (by simp)⟩, by (repeat (with_reducible first | exact Below.refl _ _ | assumption | refine ext_alloc ?_ _ | refine ext_drew ?_ | refine ext_trans ?_ (by assumption)))⟩
end Go.Proofs.YtibonacjbidfmaaGreat
