/-
Contracts of WireText (program and model), for all wires whose sinks are at most 2^20.
-/
import Derived.Test.YtohlajoaheaplaaDoorTabT
import Derived.Test.YtohlajoaheaplaaDoorWirC
namespace Go.Proofs.YtohlajoaheaplaaDoor
open Go.ChangeShapes Go.WideShapes Go.ChangeAt Go.RowKit
set_option linter.unusedVariables false
set_option linter.unusedSimpArgs false
set_option maxRecDepth 100000
def wtL (p : WireD) : List UInt8 := listL p.parent ++ [124] ++ listL p.res ++ [124] ++ listL p.cap ++ [124] ++ listL p.sink
def wtS (p : WireD) (s : Int) : ByteArray := if wireB p s then ⟨(wtL p).toArray⟩ else ⟨#[]⟩
theorem wt_no {p : WireD} {s : Int} (h : wireB p s = false) : wtS p s = ⟨#[]⟩ := by simp [wtS, h]
theorem wt_yes {p : WireD} {s : Int} (h : wireB p s = true) : wtS p s = ⟨(wtL p).toArray⟩ := by simp [wtS, h]
theorem wire_small {p : WireD} {s : Int} (h : wireB p s = true) : Small p.parent ∧ Small p.res ∧ Small p.cap ∧ Small p.sink := by
  have ⟨hl, hn, hs⟩ := wire_get h
  have ⟨l0, l1, l2, l3, l4⟩ := lens_get hl
  refine ⟨fun i hi => ?_, fun i hi => ?_, fun i hi => ?_, fun i hi => ?_⟩
  · have := hn i hi
    simp only [nodeOk, topOk, Bool.and_eq_true] at this
    have h2 := this.2
    split at h2
    · simp only [Bool.and_eq_true, beq_iff_eq] at h2; omega
    · have := inB_get h2; omega
  · have := hn i (by omega)
    simp only [nodeOk, Bool.and_eq_true] at this
    have := inB_get this.1.2; omega
  · have := hn i (by omega)
    simp only [nodeOk, Bool.and_eq_true] at this
    have := inB_get this.1.1; omega
  · have := inB_get (hs i hi); omega
theorem list_len {xs : List Int} (h : Small xs) (hm : xs.length ≤ 1048576) : (listL xs).length ≤ 23068672 := by
  have := lk_len h _ (Nat.le_refl _)
  unfold listL
  omega
set_option maxHeartbeats 4000000 in
theorem specWirT_any (f : Nat → Value) (p : WireD) (s : Int) (w : World) (h : WireF w w.heap.size f p) (hm : p.sink.length ≤ 1048576) : Calls Tryd.prog 6 #[.agg #[f 0, f 1, f 2, f 3], .int .i64 s] w fun e w' => e = .returned (.string (wtS p s)) ∧ Below w.heap.size w w' := by
  have HI := Lib.hid (fun (w1 : World) (hb : Below w.heap.size w w1) => specIsWire_any f p s w1 (h.up hb))
  obtain ⟨x0, x1, x2, x3⟩ := h
  obtain ⟨a0, c0, e0⟩ := x0.slice; obtain ⟨a1, c1, e1⟩ := x1.slice; obtain ⟨a2, c2, e2⟩ := x2.slice; obtain ⟨a3, c3, e3⟩ := x3.slice
  rw [e0] at x0; rw [e1] at x1; rw [e2] at x2; rw [e3] at x3
  rw [e0, e1, e2, e3] at HI
  rw [e0, e1, e2, e3]
  have H0 := Lib.hid x0; have H1 := Lib.hid x1; have H2 := Lib.hid x2; have H3 := Lib.hid x3
  clear e0 e1 e2 e3 x0 x1 x2 x3
  cases hw : wireB p s
  · have HT := Lib.hid (wt_no hw)
    rw [hw] at HI
    clear hw
    go_enter Tryd.func6, Tryd.ntmps6
    go_wp2_with (go_at_call 15; refine (HI.out _ (by (repeat (with_reducible first | exact eR _ _ | assumption | refine eA ?_ _ | refine eD ?_ | refine eN ?_ _ | refine eS ?_ _ | refine eT ?_ (by assumption))))).mono ?_; rintro e w1 ⟨rfl, hb⟩; obtain ⟨hc, hf⟩ := bcell hb; have hz := hb.size; (try simp at hz); (try (have hz := Nat.lt_of_succ_le hz)); (try (have y0 : w.heap.size ≤ w1.heap.size := by omega)); (try (have z0 : w.heap.size < w1.heap.size := by omega)); (try (have z1 : w.heap.size + 1 < w1.heap.size := by omega)); (try (have z2 : w.heap.size + 1 + 1 < w1.heap.size := by omega)); (try (have z3 : w.heap.size + 1 + 1 + 1 < w1.heap.size := by omega)); (try (have z4 : w.heap.size + 1 + 1 + 1 + 1 < w1.heap.size := by omega)); (try (have x0 : wc.heap.size < w1.heap.size := by omega)); (try (have x1 : wc.heap.size ≤ w1.heap.size := by omega)))
    go_ret
    rw [HT.out]
    exact ⟨rfl, by (repeat (with_reducible first | exact eR _ _ | assumption | refine eA ?_ _ | refine eD ?_ | refine eN ?_ _ | refine eS ?_ _ | refine eT ?_ (by assumption)))⟩
  · have HT := Lib.hid (wt_yes hw)
    have ⟨k0, k1, k2, k3⟩ := wire_small hw
    have ⟨l0, l1, l2, l3, l4⟩ := lens_get (wire_get hw).1
    rw [hw] at HI
    clear hw
    have m0 := list_len k0 (by omega); have m1 := list_len k1 (by omega); have m2 := list_len k2 (by omega); have m3 := list_len k3 hm
    have HP0 := Lib.hid (fun (w1 : World) (hb : Below w.heap.size w w1) => specList_any _ p.parent w1 (H0.out.up hb) k0 (by omega))
    have HP1 := Lib.hid (fun (w1 : World) (hb : Below w.heap.size w w1) => specList_any _ p.res w1 (H1.out.up hb) k1 (by omega))
    have HP2 := Lib.hid (fun (w1 : World) (hb : Below w.heap.size w w1) => specList_any _ p.cap w1 (H2.out.up hb) k2 (by omega))
    have HP3 := Lib.hid (fun (w1 : World) (hb : Below w.heap.size w w1) => specList_any _ p.sink w1 (H3.out.up hb) k3 (by omega))
    clear k0 k1 k2 k3 l0 l1 l2 l3 l4 hm
    go_enter Tryd.func6, Tryd.ntmps6
    go_wp2_with fail
    go_at_call 15
    refine (HI.out _ (by (repeat (with_reducible first | exact eR _ _ | assumption | refine eA ?_ _ | refine eD ?_ | refine eN ?_ _ | refine eS ?_ _ | refine eT ?_ (by assumption))))).mono ?_
    rintro e w1 ⟨rfl, hb⟩
    have q0 : w1.cell? ⟨w.heap.size, 0, none⟩ = some (.slice a0 p.parent.length c0) := cell_keep (w0 := w.alloc (Obj.cells #[.slice a0 p.parent.length c0, .slice a1 p.res.length c1, .slice a2 p.cap.length c2, .slice a3 p.sink.length c3] 27)) (by simp [go_sem]) hb
    have q1 : w1.cell? ⟨w.heap.size, 1, none⟩ = some (.slice a1 p.res.length c1) := cell_keep (w0 := w.alloc (Obj.cells #[.slice a0 p.parent.length c0, .slice a1 p.res.length c1, .slice a2 p.cap.length c2, .slice a3 p.sink.length c3] 27)) (by simp [go_sem]) hb
    have q2 : w1.cell? ⟨w.heap.size, 2, none⟩ = some (.slice a2 p.cap.length c2) := cell_keep (w0 := w.alloc (Obj.cells #[.slice a0 p.parent.length c0, .slice a1 p.res.length c1, .slice a2 p.cap.length c2, .slice a3 p.sink.length c3] 27)) (by simp [go_sem]) hb
    have q3 : w1.cell? ⟨w.heap.size, 3, none⟩ = some (.slice a3 p.sink.length c3) := cell_keep (w0 := w.alloc (Obj.cells #[.slice a0 p.parent.length c0, .slice a1 p.res.length c1, .slice a2 p.cap.length c2, .slice a3 p.sink.length c3] 27)) (by simp [go_sem]) hb
    have z0 : w.heap.size < w1.heap.size := cell_lt q0
    have b1 : Below w.heap.size w w1 := by (repeat (with_reducible first | exact eR _ _ | assumption | refine eA ?_ _ | refine eD ?_ | refine eN ?_ _ | refine eS ?_ _ | refine eT ?_ (by assumption)))
    clear hb
    have M0 := Lib.hid m0
    have su1a : (listL p.parent).length + 1 ≤ 9223372036854775807 := by omega
    have su1b : ¬ 9223372036854775807 < (listL p.parent).length + 1 := by omega
    have su1c : ¬ (9223372036854775807 : Int) < (((listL p.parent).length : Nat) : Int) + 1 := by omega
    have su2a : (listL p.parent).length + 1 + (listL p.res).length ≤ 9223372036854775807 := by omega
    have su2b : ¬ 9223372036854775807 < (listL p.parent).length + 1 + (listL p.res).length := by omega
    have su2c : ¬ (9223372036854775807 : Int) < (((listL p.parent).length : Nat) : Int) + 1 + (((listL p.res).length : Nat) : Int) := by omega
    have su3a : (listL p.parent).length + 1 + (listL p.res).length + 1 ≤ 9223372036854775807 := by omega
    have su3b : ¬ 9223372036854775807 < (listL p.parent).length + 1 + (listL p.res).length + 1 := by omega
    have su3c : ¬ (9223372036854775807 : Int) < (((listL p.parent).length : Nat) : Int) + 1 + (((listL p.res).length : Nat) : Int) + 1 := by omega
    have su4a : (listL p.parent).length + 1 + (listL p.res).length + 1 + (listL p.cap).length ≤ 9223372036854775807 := by omega
    have su4b : ¬ 9223372036854775807 < (listL p.parent).length + 1 + (listL p.res).length + 1 + (listL p.cap).length := by omega
    have su4c : ¬ (9223372036854775807 : Int) < (((listL p.parent).length : Nat) : Int) + 1 + (((listL p.res).length : Nat) : Int) + 1 + (((listL p.cap).length : Nat) : Int) := by omega
    have su5a : (listL p.parent).length + 1 + (listL p.res).length + 1 + (listL p.cap).length + 1 ≤ 9223372036854775807 := by omega
    have su5b : ¬ 9223372036854775807 < (listL p.parent).length + 1 + (listL p.res).length + 1 + (listL p.cap).length + 1 := by omega
    have su5c : ¬ (9223372036854775807 : Int) < (((listL p.parent).length : Nat) : Int) + 1 + (((listL p.res).length : Nat) : Int) + 1 + (((listL p.cap).length : Nat) : Int) + 1 := by omega
    have su6a : (listL p.parent).length + 1 + (listL p.res).length + 1 + (listL p.cap).length + 1 + (listL p.sink).length ≤ 9223372036854775807 := by omega
    have su6b : ¬ 9223372036854775807 < (listL p.parent).length + 1 + (listL p.res).length + 1 + (listL p.cap).length + 1 + (listL p.sink).length := by omega
    have su6c : ¬ (9223372036854775807 : Int) < (((listL p.parent).length : Nat) : Int) + 1 + (((listL p.res).length : Nat) : Int) + 1 + (((listL p.cap).length : Nat) : Int) + 1 + (((listL p.sink).length : Nat) : Int) := by omega
    go_wp2_with fail
    go_region_held3 (fun w' => w'.cell? ⟨w.heap.size, 0, none⟩ = some (.slice a0 p.parent.length c0) ∧ w'.cell? ⟨w.heap.size, 1, none⟩ = some (.slice a1 p.res.length c1) ∧ w'.cell? ⟨w.heap.size, 2, none⟩ = some (.slice a2 p.cap.length c2) ∧ w'.cell? ⟨w.heap.size, 3, none⟩ = some (.slice a3 p.sink.length c3) ∧ Below w.heap.size w w' ∧ w.heap.size < w'.heap.size) (first | exact (Hid.out (by assumption)) | exact keep4 (Hid.out (by assumption)) ((Below.refl _ _).alloc (Nat.le_refl _) _) | exact keep4s (keep4s (Hid.out (by assumption)) (by first | assumption | (simp; done) | (simp; omega) | omega) (by first | assumption | (simp; done) | (simp; omega) | omega) (by first | assumption | (simp; done) | (simp; omega) | omega) (by first | assumption | (simp; done) | (simp; omega) | omega) (by first | assumption | (simp; done) | (simp; omega) | omega) (by first | assumption | (simp; done) | (simp; omega) | omega)) (by first | assumption | (simp; done) | (simp; omega) | omega) (by first | assumption | (simp; done) | (simp; omega) | omega) (by first | assumption | (simp; done) | (simp; omega) | omega) (by first | assumption | (simp; done) | (simp; omega) | omega) (by first | assumption | (simp; done) | (simp; omega) | omega) (by first | assumption | (simp; done) | (simp; omega) | omega) | exact keep4s (Hid.out (by assumption)) (by first | assumption | (simp; done) | (simp; omega) | omega) (by first | assumption | (simp; done) | (simp; omega) | omega) (by first | assumption | (simp; done) | (simp; omega) | omega) (by first | assumption | (simp; done) | (simp; omega) | omega) (by first | assumption | (simp; done) | (simp; omega) | omega) (by first | assumption | (simp; done) | (simp; omega) | omega) | ((repeat' apply And.intro) <;> first | assumption | ((repeat (with_reducible first | exact eR _ _ | assumption | refine eA ?_ _ | refine eD ?_ | refine eN ?_ _ | refine eS ?_ _ | refine eT ?_ (by assumption))); done) | (simp [go_sem]; done) | (simp [go_sem, *]; done) | (simp; omega) | omega)) (first | ((go_at_call 16; with_reducible refine (HP0.out _ (by (repeat (with_reducible first | exact eR _ _ | assumption | refine eA ?_ _ | refine eD ?_ | refine eN ?_ _ | refine eS ?_ _ | refine eT ?_ (by assumption))))).mono ?_; rintro e w2 ⟨rfl, hb⟩; have hz := hb.size; (try simp at hz)); have hS := Lib.hid (keep4 (by assumption) hb); have zL := (Hid.out hS).2.2.2.2.2) | ((go_at_call 16; with_reducible refine (HP1.out _ (by (repeat (with_reducible first | exact eR _ _ | assumption | refine eA ?_ _ | refine eD ?_ | refine eN ?_ _ | refine eS ?_ _ | refine eT ?_ (by assumption))))).mono ?_; rintro e w3 ⟨rfl, hb⟩; have hz := hb.size; (try simp at hz)); have hS := Lib.hid (keep4 (by assumption) hb); have zL := (Hid.out hS).2.2.2.2.2) | ((go_at_call 16; with_reducible refine (HP2.out _ (by (repeat (with_reducible first | exact eR _ _ | assumption | refine eA ?_ _ | refine eD ?_ | refine eN ?_ _ | refine eS ?_ _ | refine eT ?_ (by assumption))))).mono ?_; rintro e w4 ⟨rfl, hb⟩; have hz := hb.size; (try simp at hz)); have hS := Lib.hid (keep4 (by assumption) hb); have zL := (Hid.out hS).2.2.2.2.2) | ((go_at_call 16; with_reducible refine (HP3.out _ (by (repeat (with_reducible first | exact eR _ _ | assumption | refine eA ?_ _ | refine eD ?_ | refine eN ?_ _ | refine eS ?_ _ | refine eT ?_ (by assumption))))).mono ?_; rintro e w5 ⟨rfl, hb⟩; have hz := hb.size; (try simp at hz)); have hS := Lib.hid (keep4 (by assumption) hb); have zL := (Hid.out hS).2.2.2.2.2))
    all_goals (go_wp2_with fail; go_ret; rw [HT.out]; unfold wtL; rw [← ba_app, ← ba_app, ← ba_app, ← ba_app, ← ba_app, ← ba_app]; exact ⟨rfl, by (repeat (with_reducible first | exact eR _ _ | assumption | refine eA ?_ _ | refine eD ?_ | refine eN ?_ _ | refine eS ?_ _ | refine eT ?_ (by assumption)))⟩)
theorem join_four (a b c d : List UInt8) : Lib.join [a, b, c, d] [124] = a ++ [124] ++ b ++ [124] ++ c ++ [124] ++ d := by simp [Lib.join_cons, Lib.joinTail]
theorem join4 (a b c d : List UInt8) (w : World) (ha : a.length ≤ 23068672) (hb : b.length ≤ 23068672) (hc : c.length ≤ 23068672) (hd : d.length ≤ 23068672) :
    Calls Tryd.prog 20 #[.slice (some ⟨w.heap.size, 0, none⟩) 4 4, .string ⟨#[124]⟩] (w.alloc (Obj.cells #[.string ⟨a.toArray⟩, .string ⟨b.toArray⟩, .string ⟨c.toArray⟩, .string ⟨d.toArray⟩] 9)) fun e w' => e = .returned (.string ⟨(a ++ [124] ++ b ++ [124] ++ c ++ [124] ++ d).toArray⟩) ∧ Below (w.alloc (Obj.cells #[.string ⟨a.toArray⟩, .string ⟨b.toArray⟩, .string ⟨c.toArray⟩, .string ⟨d.toArray⟩] 9)).heap.size (w.alloc (Obj.cells #[.string ⟨a.toArray⟩, .string ⟨b.toArray⟩, .string ⟨c.toArray⟩, .string ⟨d.toArray⟩] 9)) w' := by
  have h := Tryd.strings_Join w.heap.size 0 4 [⟨a.toArray⟩, ⟨b.toArray⟩, ⟨c.toArray⟩, ⟨d.toArray⟩] ⟨#[124]⟩ (w.alloc (Obj.cells #[.string ⟨a.toArray⟩, .string ⟨b.toArray⟩, .string ⟨c.toArray⟩, .string ⟨d.toArray⟩] 9)) (fun j x hjx => by
    rcases j with _ | _ | _ | _ | j
    · simp at hjx; subst hjx; simp [go_sem]
    · simp at hjx; subst hjx; simp [go_sem]
    · simp at hjx; subst hjx; simp [go_sem]
    · simp at hjx; subst hjx; simp [go_sem]
    · simp at hjx) (by simp) (by simp) (by simp) (by
    have e : ([⟨a.toArray⟩, ⟨b.toArray⟩, ⟨c.toArray⟩, ⟨d.toArray⟩] : List ByteArray).map (·.data.toList) = [a, b, c, d] := by simp
    rw [e]
    show (Lib.join [a, b, c, d] [124]).length ≤ _
    rw [join_four]
    simp only [List.length_append, List.length_cons, List.length_nil]
    omega)
  have e : ([⟨a.toArray⟩, ⟨b.toArray⟩, ⟨c.toArray⟩, ⟨d.toArray⟩] : List ByteArray).map (·.data.toList) = [a, b, c, d] := by simp
  rw [e, show (⟨#[124]⟩ : ByteArray).data.toList = [124] from rfl, join_four] at h
  exact h
set_option maxHeartbeats 4000000 in
theorem implWirT_any (f : Nat → Value) (p : WireD) (s : Int) (w : World) (h : WireF w w.heap.size f p) (hm : p.sink.length ≤ 1048576) (htab : Tab w) : Calls Tryd.prog 8 #[.agg #[f 0, f 1, f 2, f 3], .int .i64 s] w fun e w' => e = .returned (.string (wtS p s)) ∧ Below w.heap.size w w' := by
  have HI := Lib.hid (fun (w1 : World) (hb : Below w.heap.size w w1) => implIsWire_any f p s w1 (h.up hb))
  have HTb := Lib.hid htab
  clear htab
  obtain ⟨x0, x1, x2, x3⟩ := h
  obtain ⟨a0, c0, e0⟩ := x0.slice; obtain ⟨a1, c1, e1⟩ := x1.slice; obtain ⟨a2, c2, e2⟩ := x2.slice; obtain ⟨a3, c3, e3⟩ := x3.slice
  rw [e0] at x0; rw [e1] at x1; rw [e2] at x2; rw [e3] at x3
  rw [e0, e1, e2, e3] at HI
  rw [e0, e1, e2, e3]
  have H0 := Lib.hid x0; have H1 := Lib.hid x1; have H2 := Lib.hid x2; have H3 := Lib.hid x3
  clear e0 e1 e2 e3 x0 x1 x2 x3
  cases hw : wireB p s
  · have HT := Lib.hid (wt_no hw)
    rw [hw] at HI
    clear hw
    go_enter Tryd.func8, Tryd.ntmps8
    go_wp2_with (go_at_call 18; refine (HI.out _ (by (repeat (with_reducible first | exact eR _ _ | assumption | refine eA ?_ _ | refine eD ?_ | refine eN ?_ _ | refine eS ?_ _ | refine eT ?_ (by assumption))))).mono ?_; rintro e w1 ⟨rfl, hb⟩; obtain ⟨hc, hf⟩ := bcell hb; have hz := hb.size; (try simp at hz); (try (have hz := Nat.lt_of_succ_le hz)); (try (have y0 : w.heap.size ≤ w1.heap.size := by omega)); (try (have z0 : w.heap.size < w1.heap.size := by omega)); (try (have z1 : w.heap.size + 1 < w1.heap.size := by omega)); (try (have z2 : w.heap.size + 1 + 1 < w1.heap.size := by omega)); (try (have z3 : w.heap.size + 1 + 1 + 1 < w1.heap.size := by omega)); (try (have z4 : w.heap.size + 1 + 1 + 1 + 1 < w1.heap.size := by omega)); (try (have x0 : wc.heap.size < w1.heap.size := by omega)); (try (have x1 : wc.heap.size ≤ w1.heap.size := by omega)))
    go_ret
    rw [HT.out]
    exact ⟨rfl, by (repeat (with_reducible first | exact eR _ _ | assumption | refine eA ?_ _ | refine eD ?_ | refine eN ?_ _ | refine eS ?_ _ | refine eT ?_ (by assumption)))⟩
  · have HT := Lib.hid (wt_yes hw)
    have ⟨k0, k1, k2, k3⟩ := wire_small hw
    have ⟨l0, l1, l2, l3, l4⟩ := lens_get (wire_get hw).1
    rw [hw] at HI
    clear hw
    have m0 := list_len k0 (by omega); have m1 := list_len k1 (by omega); have m2 := list_len k2 (by omega); have m3 := list_len k3 hm
    have HP0 := Lib.hid (fun (w1 : World) (hb : Below w.heap.size w w1) => numbers_all _ p.parent w1 (H0.out.up hb) k0 (by omega) (HTb.out.keep hb))
    have HP1 := Lib.hid (fun (w1 : World) (hb : Below w.heap.size w w1) => numbers_all _ p.res w1 (H1.out.up hb) k1 (by omega) (HTb.out.keep hb))
    have HP2 := Lib.hid (fun (w1 : World) (hb : Below w.heap.size w w1) => numbers_all _ p.cap w1 (H2.out.up hb) k2 (by omega) (HTb.out.keep hb))
    have HP3 := Lib.hid (fun (w1 : World) (hb : Below w.heap.size w w1) => numbers_all _ p.sink w1 (H3.out.up hb) k3 (by omega) (HTb.out.keep hb))
    have HMM := Lib.hid (And.intro m0 (And.intro m1 (And.intro m2 m3)))
    clear k0 k1 k2 k3 l0 l1 l2 l3 l4 hm m0 m1 m2 m3
    go_enter Tryd.func8, Tryd.ntmps8
    go_wp2_with fail
    go_at_call 18
    refine (HI.out _ (by (repeat (with_reducible first | exact eR _ _ | assumption | refine eA ?_ _ | refine eD ?_ | refine eN ?_ _ | refine eS ?_ _ | refine eT ?_ (by assumption))))).mono ?_
    rintro e w1 ⟨rfl, hb⟩
    have q0 : w1.cell? ⟨w.heap.size, 0, none⟩ = some (.slice a0 p.parent.length c0) := cell_keep (w0 := w.alloc (Obj.cells #[.slice a0 p.parent.length c0, .slice a1 p.res.length c1, .slice a2 p.cap.length c2, .slice a3 p.sink.length c3] 27)) (by simp [go_sem]) hb
    have q1 : w1.cell? ⟨w.heap.size, 1, none⟩ = some (.slice a1 p.res.length c1) := cell_keep (w0 := w.alloc (Obj.cells #[.slice a0 p.parent.length c0, .slice a1 p.res.length c1, .slice a2 p.cap.length c2, .slice a3 p.sink.length c3] 27)) (by simp [go_sem]) hb
    have q2 : w1.cell? ⟨w.heap.size, 2, none⟩ = some (.slice a2 p.cap.length c2) := cell_keep (w0 := w.alloc (Obj.cells #[.slice a0 p.parent.length c0, .slice a1 p.res.length c1, .slice a2 p.cap.length c2, .slice a3 p.sink.length c3] 27)) (by simp [go_sem]) hb
    have q3 : w1.cell? ⟨w.heap.size, 3, none⟩ = some (.slice a3 p.sink.length c3) := cell_keep (w0 := w.alloc (Obj.cells #[.slice a0 p.parent.length c0, .slice a1 p.res.length c1, .slice a2 p.cap.length c2, .slice a3 p.sink.length c3] 27)) (by simp [go_sem]) hb
    have z0 : w.heap.size < w1.heap.size := cell_lt q0
    have b1 : Below w.heap.size w w1 := by (repeat (with_reducible first | exact eR _ _ | assumption | refine eA ?_ _ | refine eD ?_ | refine eN ?_ _ | refine eS ?_ _ | refine eT ?_ (by assumption)))
    clear hb
    go_wp2_with fail
    go_region_held3 (fun w' => w'.cell? ⟨w.heap.size, 0, none⟩ = some (.slice a0 p.parent.length c0) ∧ w'.cell? ⟨w.heap.size, 1, none⟩ = some (.slice a1 p.res.length c1) ∧ w'.cell? ⟨w.heap.size, 2, none⟩ = some (.slice a2 p.cap.length c2) ∧ w'.cell? ⟨w.heap.size, 3, none⟩ = some (.slice a3 p.sink.length c3) ∧ Below w.heap.size w w' ∧ w.heap.size < w'.heap.size) (first | exact (Hid.out (by assumption)) | exact keep4 (Hid.out (by assumption)) ((Below.refl _ _).alloc (Nat.le_refl _) _) | exact keep4s (keep4s (Hid.out (by assumption)) (by first | assumption | (simp; done) | (simp; omega) | omega) (by first | assumption | (simp; done) | (simp; omega) | omega) (by first | assumption | (simp; done) | (simp; omega) | omega) (by first | assumption | (simp; done) | (simp; omega) | omega) (by first | assumption | (simp; done) | (simp; omega) | omega) (by first | assumption | (simp; done) | (simp; omega) | omega)) (by first | assumption | (simp; done) | (simp; omega) | omega) (by first | assumption | (simp; done) | (simp; omega) | omega) (by first | assumption | (simp; done) | (simp; omega) | omega) (by first | assumption | (simp; done) | (simp; omega) | omega) (by first | assumption | (simp; done) | (simp; omega) | omega) (by first | assumption | (simp; done) | (simp; omega) | omega) | exact keep4s (Hid.out (by assumption)) (by first | assumption | (simp; done) | (simp; omega) | omega) (by first | assumption | (simp; done) | (simp; omega) | omega) (by first | assumption | (simp; done) | (simp; omega) | omega) (by first | assumption | (simp; done) | (simp; omega) | omega) (by first | assumption | (simp; done) | (simp; omega) | omega) (by first | assumption | (simp; done) | (simp; omega) | omega) | ((repeat' apply And.intro) <;> first | assumption | ((repeat (with_reducible first | exact eR _ _ | assumption | refine eA ?_ _ | refine eD ?_ | refine eN ?_ _ | refine eS ?_ _ | refine eT ?_ (by assumption))); done) | (simp [go_sem]; done) | (simp [go_sem, *]; done) | (simp; omega) | omega)) (first | ((go_at_call 19; with_reducible refine (HP0.out _ (by (repeat (with_reducible first | exact eR _ _ | assumption | refine eA ?_ _ | refine eD ?_ | refine eN ?_ _ | refine eS ?_ _ | refine eT ?_ (by assumption))))).mono ?_; rintro e w2 ⟨rfl, hb⟩; have hz := hb.size; (try simp at hz)); have hS := Lib.hid (keep4 (by assumption) hb); have zL := (Hid.out hS).2.2.2.2.2) | ((go_at_call 19; with_reducible refine (HP1.out _ (by (repeat (with_reducible first | exact eR _ _ | assumption | refine eA ?_ _ | refine eD ?_ | refine eN ?_ _ | refine eS ?_ _ | refine eT ?_ (by assumption))))).mono ?_; rintro e w3 ⟨rfl, hb⟩; have hz := hb.size; (try simp at hz)); have hS := Lib.hid (keep4 (by assumption) hb); have zL := (Hid.out hS).2.2.2.2.2) | ((go_at_call 19; with_reducible refine (HP2.out _ (by (repeat (with_reducible first | exact eR _ _ | assumption | refine eA ?_ _ | refine eD ?_ | refine eN ?_ _ | refine eS ?_ _ | refine eT ?_ (by assumption))))).mono ?_; rintro e w4 ⟨rfl, hb⟩; have hz := hb.size; (try simp at hz)); have hS := Lib.hid (keep4 (by assumption) hb); have zL := (Hid.out hS).2.2.2.2.2) | ((go_at_call 19; with_reducible refine (HP3.out _ (by (repeat (with_reducible first | exact eR _ _ | assumption | refine eA ?_ _ | refine eD ?_ | refine eN ?_ _ | refine eS ?_ _ | refine eT ?_ (by assumption))))).mono ?_; rintro e w5 ⟨rfl, hb⟩; have hz := hb.size; (try simp at hz)); have hS := Lib.hid (keep4 (by assumption) hb); have zL := (Hid.out hS).2.2.2.2.2))
    all_goals
      have hcon := Lib.hid (join4 _ _ _ _ w5 HMM.out.1 HMM.out.2.1 HMM.out.2.2.1 HMM.out.2.2.2)
      have hw5 : Below w.heap.size w w5 := hS.out.2.2.2.2.1
      clear hS
      go_wp2_with fail
      go_at_call 20
      refine hcon.out.mono ?_
      rintro e w6 ⟨rfl, hb⟩
      go_wp2
      go_ret
      rw [HT.out, show wtL p = listL p.parent ++ 124 :: (listL p.res ++ 124 :: (listL p.cap ++ 124 :: listL p.sink)) by simp [wtL]]
      exact ⟨rfl, by (repeat (with_reducible first | exact eR _ _ | assumption | refine eA ?_ _ | refine eD ?_ | refine eN ?_ _ | refine eS ?_ _ | refine eT ?_ (by assumption)))⟩
end Go.Proofs.YtohlajoaheaplaaDoor
