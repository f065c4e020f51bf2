/-
Contracts of LumpedWire (program and model), for all numbers.
-/
import Derived.Test.YtejomclnagakoaaMarkW
namespace Go.Proofs.Ytejomclnagakoaa
open Go.ChangeShapes Go.WideShapes Go.ChangeAt Go.RowKit
set_option linter.unusedVariables false
set_option linter.unusedSimpArgs false
/-- A wire of the call's own, and a code. -/
def NewW (a b c d : List Int) (cd : Int) (w : World) (e : Ending) (w' : World) : Prop :=
  ∃ u0 u1 u2 u3 : Value, e = .returned (.tuple #[.agg #[u0, u1, u2, u3], .int .i64 cd]) ∧ W4 w' w.heap.size u0 u1 u2 u3 a b c d ∧ Below w.heap.size w w'
def NewW1 (a b c d : List Int) (w : World) (e : Ending) (w' : World) : Prop :=
  ∃ u0 u1 u2 u3 : Value, e = .returned (.agg #[u0, u1, u2, u3]) ∧ W4 w' w.heap.size u0 u1 u2 u3 a b c d ∧ Below w.heap.size w w'
def zerosI (n : Nat) : List Int := List.replicate n 0
theorem zerosI_len (n : Nat) : (zerosI n).length = n := by simp [zerosI]
theorem zeros_own {w : World} {base g n B : Nat} {e : TypeId} (h : w.ownsRow base e 1 (.slice (some ⟨g, 0, none⟩) n n) n (madeCells (Value.int .i64 0).cells (n * 1)).toList) (hB : B ≤ g) (hn : n ≤ 1000) : OwnS w B (.slice (some ⟨g, 0, none⟩) (zerosI n).length n) (zerosI n) := by
  rw [zerosI_len]
  refine ⟨by rw [zerosI_len]; omega, _, n, by rw [zerosI_len], fun hp => ⟨g, rfl, hB, ?_, fun i hi => ⟨?_, h.frozenAt i⟩⟩⟩
  · rw [zerosI_len] at hp
    have hc := h.cellAt 0 (by omega)
    rw [List.getElem?_eq_getElem (by rw [h.1]; omega)] at hc
    exact cell_lt hc
  · rw [zerosI_len] at hi
    have := h.cellAt i (by omega)
    rw [this]
    have hi' : i < n * 1 := by omega
    simp [madeCells, Value.cells, hi', Nat.mod_one, iv, zerosI, List.getD]
    exact ⟨⟨i, by simp [hi]⟩, by rw [List.getElem?_replicate, if_pos hi]; rfl⟩
theorem w4_empty (w : World) (B : Nat) : W4 w B (.slice none 0 0) (.slice none 0 0) (.slice none 0 0) (.slice none 0 0) [] [] [] [] := by
  have hb : Apart (.slice none 0 0) (.slice none 0 0) := fun g h => by obtain ⟨o, n, c, e, _⟩ := h; cases e
  exact ⟨own_empty _ _ _ _, own_empty _ _ _ _, own_empty _ _ _ _, own_empty _ _ _ _, hb, hb, hb, hb, hb, hb⟩
theorem implLump_no (s l : Int) (w : World) (h : inB s 0 100 = false ∨ inB l 0 500 = false) : Calls Try.prog 23 #[.int .i64 s, .int .i64 l] w (NewW [] [] [] [] 2 w) := by
  cases h0 : inB s 0 100
  · clear h
    go_enter Try.func23, Try.ntmps23
    go_wp2_with (go_at_call 51; refine (inRange_any _ _ _ _).mono ?_; rintro e w' ⟨rfl, rfl⟩)
    exact bodyPost_ret (v := .tuple #[.agg #[.slice none 0 0, .slice none 0 0, .slice none 0 0, .slice none 0 0], .int .i64 2]) (by simp [results, Try.results23, go_sem]) rfl ⟨_, _, _, _, rfl, w4_empty _ _, by (repeat (with_reducible first | exact eR _ _ | assumption | refine eA ?_ _ | refine eD ?_ | refine eN ?_ _ | refine eS ?_ _ | refine eT ?_ (by assumption)))⟩
  · have h1 : inB l 0 500 = false := by rcases h with h | h; · rw [h0] at h; cases h
                                        · exact h
    clear h
    go_enter Try.func23, Try.ntmps23
    go_wp2_with (go_at_call 51; refine (inRange_any _ _ _ _).mono ?_; rintro e w' ⟨rfl, rfl⟩)
    exact bodyPost_ret (v := .tuple #[.agg #[.slice none 0 0, .slice none 0 0, .slice none 0 0, .slice none 0 0], .int .i64 2]) (by simp [results, Try.results23, go_sem]) rfl ⟨_, _, _, _, rfl, w4_empty _ _, by (repeat (with_reducible first | exact eR _ _ | assumption | refine eA ?_ _ | refine eD ?_ | refine eN ?_ _ | refine eS ?_ _ | refine eT ?_ (by assumption)))⟩
set_option maxHeartbeats 1000000 in
theorem implLump_yes (n : Nat) (l : Int) (w : World) (hn : n ≤ 100) (h : inB l 0 500 = true) : Calls Try.prog 23 #[.int .i64 n, .int .i64 l] w (NewW [-1] [0] [l] (zerosI n) 0 w) := by
  obtain ⟨i0, hi, hz0, hz1, hz2⟩ := info_parts Try.infoInt
  have h0 : inB (n : Int) 0 100 = true := by simp [inB]; omega
  go_enter Try.func23, Try.ntmps23
  go_wp2_with (first
    | (go_at_call 51; refine (inRange_any _ _ _ _).mono ?_; rintro e w' ⟨rfl, rfl⟩)
    | (at_make; refine wpList_make_full _ rfl _ _ 36 rfl (w.heap.size + 1 + 1 + 1 + 1) 2 i0 (.int .i64 0) 1 Try.underlying36 hi hz0 hz1 .i64 .i64 _ _ n rfl rfl rfl rfl (by rw [hz2]; omega) (by unfold maxLen; omega) (by simp) ?_; intro w0 hown0 hgrow0; have hb0 := below_grown hgrow0; clear hgrow0; obtain ⟨hc, hf⟩ := bcell hb0; have hz := hb0.size; (try simp at hz); (try (have hz := Nat.lt_of_succ_le hz)); (try (have z0 : w.heap.size < w0.heap.size := by omega)); (try (have z1 : w.heap.size + 1 < w0.heap.size := by omega)); (try (have z2 : w.heap.size + 1 + 1 < w0.heap.size := by omega)); (try (have z3 : w.heap.size + 1 + 1 + 1 < w0.heap.size := by omega)); (try (have z4 : w.heap.size + 1 + 1 + 1 + 1 < w0.heap.size := by omega))))
  have O0 := Lib.hid (OwnS.keep (own_one (B := w.heap.size + 1) (g := w.heap.size + 1) (c := 1) (x := -1) (by simp [go_sem]) (by simp [go_sem]) (by omega)) hb0)
  have O1 := Lib.hid (OwnS.keep (own_one (B := w.heap.size + 1) (g := w.heap.size + 1 + 1) (c := 1) (x := 0) (by simp [go_sem]) (by simp [go_sem]) (by omega)) hb0)
  have O2 := Lib.hid (OwnS.keep (own_one (B := w.heap.size + 1) (g := w.heap.size + 1 + 1 + 1) (c := 1) (x := l) (by simp [go_sem]) (by simp [go_sem]) (by omega)) hb0)
  have O3 := Lib.hid (zeros_own (g := w.heap.size + 1 + 1 + 1 + 1) (B := w.heap.size + 1) (by simpa using hown0) (by omega) (by omega))
  have q0 := O0.out; have q1 := O1.out; have q2 := O2.out; have q3 := O3.out
  rw [zerosI_len] at q3
  have c0 : w0.cell? ⟨w.heap.size, 0, none⟩ = some (.slice none 0 0) := cell_keep (by simp [go_sem]) hb0
  have c1 : w0.cell? ⟨w.heap.size, 1, none⟩ = some (.slice none 0 0) := cell_keep (by simp [go_sem]) hb0
  have c2 : w0.cell? ⟨w.heap.size, 2, none⟩ = some (.slice none 0 0) := cell_keep (by simp [go_sem]) hb0
  have c3 : w0.cell? ⟨w.heap.size, 3, none⟩ = some (.slice none 0 0) := cell_keep (by simp [go_sem]) hb0
  clear hc hf
  refine bodyPost_ret (v := .tuple #[.agg #[.slice (some ⟨w.heap.size + 1, 0, none⟩) 1 1, .slice (some ⟨w.heap.size + 1 + 1, 0, none⟩) 1 1, .slice (some ⟨w.heap.size + 1 + 1 + 1, 0, none⟩) 1 1, .slice (some ⟨w.heap.size + 1 + 1 + 1 + 1, 0, none⟩) n n], .int .i64 0]) (by simp [results, Try.results23, go_sem, *]) rfl
    ⟨_, _, _, _, rfl, ⟨OwnS.mono (B := w.heap.size + 1) (by (repeat (first | (with_reducible assumption) | (with_reducible refine OwnS.alloc ?_ _) | (with_reducible refine OwnS.drew ?_) | (with_reducible refine OwnS.drewN ?_ _) | (with_reducible refine OwnS.set ?_ (by first | omega | (simp; omega) | simp) _) | (with_reducible refine OwnS.keep ?_ (by assumption))))) (by omega), OwnS.mono (B := w.heap.size + 1) (by (repeat (first | (with_reducible assumption) | (with_reducible refine OwnS.alloc ?_ _) | (with_reducible refine OwnS.drew ?_) | (with_reducible refine OwnS.drewN ?_ _) | (with_reducible refine OwnS.set ?_ (by first | omega | (simp; omega) | simp) _) | (with_reducible refine OwnS.keep ?_ (by assumption))))) (by omega), OwnS.mono (B := w.heap.size + 1) (by (repeat (first | (with_reducible assumption) | (with_reducible refine OwnS.alloc ?_ _) | (with_reducible refine OwnS.drew ?_) | (with_reducible refine OwnS.drewN ?_ _) | (with_reducible refine OwnS.set ?_ (by first | omega | (simp; omega) | simp) _) | (with_reducible refine OwnS.keep ?_ (by assumption))))) (by omega), OwnS.mono (B := w.heap.size + 1) (by (repeat (first | (with_reducible assumption) | (with_reducible refine OwnS.alloc ?_ _) | (with_reducible refine OwnS.drew ?_) | (with_reducible refine OwnS.drewN ?_ _) | (with_reducible refine OwnS.set ?_ (by first | omega | (simp; omega) | simp) _) | (with_reducible refine OwnS.keep ?_ (by assumption))))) (by omega), apart_ne (by omega), apart_ne (by omega), apart_ne (by omega), apart_ne (by omega), apart_ne (by omega), apart_ne (by omega)⟩, by (repeat (with_reducible first | exact eR _ _ | assumption | refine eA ?_ _ | refine eD ?_ | refine eN ?_ _ | refine eS ?_ _ | refine eT ?_ (by assumption)))⟩
set_option maxHeartbeats 1000000 in
theorem specLumped_any (n : Nat) (l : Int) (w : World) (hn : n ≤ 100) : Calls Try.prog 50 #[.int .i64 n, .int .i64 l] w (NewW1 [-1] [0] [l] (zerosI n) w) := by
  obtain ⟨i0, hi, hz0, hz1, hz2⟩ := info_parts Try.infoInt
  go_enter Try.func50, Try.ntmps50
  go_wp2_with (at_make; refine wpList_make_full _ rfl _ _ 36 rfl (w.heap.size + 1 + 1 + 1 + 1) 2 i0 (.int .i64 0) 1 Try.underlying36 hi hz0 hz1 .i64 .i64 _ _ n rfl rfl rfl rfl (by rw [hz2]; omega) (by unfold maxLen; omega) (by simp) ?_; intro w0 hown0 hgrow0; have hb0 := below_grown hgrow0; clear hgrow0; obtain ⟨hc, hf⟩ := bcell hb0; have hz := hb0.size; (try simp at hz); (try (have hz := Nat.lt_of_succ_le hz)); (try (have z0 : w.heap.size < w0.heap.size := by omega)); (try (have z1 : w.heap.size + 1 < w0.heap.size := by omega)); (try (have z2 : w.heap.size + 1 + 1 < w0.heap.size := by omega)); (try (have z3 : w.heap.size + 1 + 1 + 1 < w0.heap.size := by omega)); (try (have z4 : w.heap.size + 1 + 1 + 1 + 1 < w0.heap.size := by omega)))
  have O0 := Lib.hid (OwnS.keep (own_one (B := w.heap.size + 1) (g := w.heap.size + 1) (c := 1) (x := -1) (by simp [go_sem]) (by simp [go_sem]) (by omega)) hb0)
  have O1 := Lib.hid (OwnS.keep (own_one (B := w.heap.size + 1) (g := w.heap.size + 1 + 1) (c := 1) (x := 0) (by simp [go_sem]) (by simp [go_sem]) (by omega)) hb0)
  have O2 := Lib.hid (OwnS.keep (own_one (B := w.heap.size + 1) (g := w.heap.size + 1 + 1 + 1) (c := 1) (x := l) (by simp [go_sem]) (by simp [go_sem]) (by omega)) hb0)
  have O3 := Lib.hid (zeros_own (g := w.heap.size + 1 + 1 + 1 + 1) (B := w.heap.size + 1) (by simpa using hown0) (by omega) (by omega))
  have q0 := O0.out; have q1 := O1.out; have q2 := O2.out; have q3 := O3.out
  rw [zerosI_len] at q3
  have c0 : w0.cell? ⟨w.heap.size, 0, none⟩ = some (.slice none 0 0) := cell_keep (by simp [go_sem]) hb0
  have c1 : w0.cell? ⟨w.heap.size, 1, none⟩ = some (.slice none 0 0) := cell_keep (by simp [go_sem]) hb0
  have c2 : w0.cell? ⟨w.heap.size, 2, none⟩ = some (.slice none 0 0) := cell_keep (by simp [go_sem]) hb0
  have c3 : w0.cell? ⟨w.heap.size, 3, none⟩ = some (.slice none 0 0) := cell_keep (by simp [go_sem]) hb0
  clear hc hf
  refine bodyPost_ret (v := .agg #[.slice (some ⟨w.heap.size + 1, 0, none⟩) 1 1, .slice (some ⟨w.heap.size + 1 + 1, 0, none⟩) 1 1, .slice (some ⟨w.heap.size + 1 + 1 + 1, 0, none⟩) 1 1, .slice (some ⟨w.heap.size + 1 + 1 + 1 + 1, 0, none⟩) n n]) (by simp [results, Try.results50, go_sem, *]) rfl
    ⟨_, _, _, _, rfl, ⟨OwnS.mono (B := w.heap.size + 1) (by (repeat (first | (with_reducible assumption) | (with_reducible refine OwnS.alloc ?_ _) | (with_reducible refine OwnS.drew ?_) | (with_reducible refine OwnS.drewN ?_ _) | (with_reducible refine OwnS.set ?_ (by first | omega | (simp; omega) | simp) _) | (with_reducible refine OwnS.keep ?_ (by assumption))))) (by omega), OwnS.mono (B := w.heap.size + 1) (by (repeat (first | (with_reducible assumption) | (with_reducible refine OwnS.alloc ?_ _) | (with_reducible refine OwnS.drew ?_) | (with_reducible refine OwnS.drewN ?_ _) | (with_reducible refine OwnS.set ?_ (by first | omega | (simp; omega) | simp) _) | (with_reducible refine OwnS.keep ?_ (by assumption))))) (by omega), OwnS.mono (B := w.heap.size + 1) (by (repeat (first | (with_reducible assumption) | (with_reducible refine OwnS.alloc ?_ _) | (with_reducible refine OwnS.drew ?_) | (with_reducible refine OwnS.drewN ?_ _) | (with_reducible refine OwnS.set ?_ (by first | omega | (simp; omega) | simp) _) | (with_reducible refine OwnS.keep ?_ (by assumption))))) (by omega), OwnS.mono (B := w.heap.size + 1) (by (repeat (first | (with_reducible assumption) | (with_reducible refine OwnS.alloc ?_ _) | (with_reducible refine OwnS.drew ?_) | (with_reducible refine OwnS.drewN ?_ _) | (with_reducible refine OwnS.set ?_ (by first | omega | (simp; omega) | simp) _) | (with_reducible refine OwnS.keep ?_ (by assumption))))) (by omega), apart_ne (by omega), apart_ne (by omega), apart_ne (by omega), apart_ne (by omega), apart_ne (by omega), apart_ne (by omega)⟩, by (repeat (with_reducible first | exact eR _ _ | assumption | refine eA ?_ _ | refine eD ?_ | refine eN ?_ _ | refine eS ?_ _ | refine eT ?_ (by assumption)))⟩
theorem specLump_no (s l : Int) (w : World) (h : inB s 0 100 = false ∨ inB l 0 500 = false) : Calls Try.prog 22 #[.int .i64 s, .int .i64 l] w (NewW [] [] [] [] 2 w) := by
  cases h0 : inB s 0 100
  · clear h
    go_enter Try.func22, Try.ntmps22
    go_wp2_with (go_at_call 43; refine (l01In_any _ _ _ _).mono ?_; rintro e w' ⟨rfl, rfl⟩)
    exact bodyPost_ret (v := .tuple #[.agg #[.slice none 0 0, .slice none 0 0, .slice none 0 0, .slice none 0 0], .int .i64 2]) (by simp [results, Try.results22, go_sem]) rfl ⟨_, _, _, _, rfl, w4_empty _ _, by (repeat (with_reducible first | exact eR _ _ | assumption | refine eA ?_ _ | refine eD ?_ | refine eN ?_ _ | refine eS ?_ _ | refine eT ?_ (by assumption)))⟩
  · have h1 : inB l 0 500 = false := by rcases h with h | h; · rw [h0] at h; cases h
                                        · exact h
    clear h
    go_enter Try.func22, Try.ntmps22
    go_wp2_with (go_at_call 43; refine (l01In_any _ _ _ _).mono ?_; rintro e w' ⟨rfl, rfl⟩)
    exact bodyPost_ret (v := .tuple #[.agg #[.slice none 0 0, .slice none 0 0, .slice none 0 0, .slice none 0 0], .int .i64 2]) (by simp [results, Try.results22, go_sem]) rfl ⟨_, _, _, _, rfl, w4_empty _ _, by (repeat (with_reducible first | exact eR _ _ | assumption | refine eA ?_ _ | refine eD ?_ | refine eN ?_ _ | refine eS ?_ _ | refine eT ?_ (by assumption)))⟩
set_option maxHeartbeats 1000000 in
theorem specLump_yes (n : Nat) (l : Int) (w : World) (hn : n ≤ 100) (h : inB l 0 500 = true) : Calls Try.prog 22 #[.int .i64 n, .int .i64 l] w (NewW [-1] [0] [l] (zerosI n) 0 w) := by
  have h0 : inB (n : Int) 0 100 = true := by simp [inB]; omega
  go_enter Try.func22, Try.ntmps22
  go_wp2_with (go_at_call 43; refine (l01In_any _ _ _ _).mono ?_; rintro e w' ⟨rfl, rfl⟩)
  (go_at_call 50; refine (specLumped_any n l _ hn).mono ?_; rintro e w1 ⟨u0, u1, u2, u3, rfl, hu, hb⟩; obtain ⟨hc, hf⟩ := bcell hb; have hz := hb.size; (try simp at hz); (try (have hz := Nat.lt_of_succ_le hz)); (try (have y0 : w.heap.size ≤ w1.heap.size := by omega)); (try (have z0 : w.heap.size < w1.heap.size := by omega)); (try (have z1 : w.heap.size + 1 < w1.heap.size := by omega)); (try (have z2 : w.heap.size + 1 + 1 < w1.heap.size := by omega)); (try (have z3 : w.heap.size + 1 + 1 + 1 < w1.heap.size := by omega)); (try (have z4 : w.heap.size + 1 + 1 + 1 + 1 < w1.heap.size := by omega)))
  have U := Lib.hid hu
  obtain ⟨b0, d0, rfl⟩ := hu.1.slice; obtain ⟨b1, d1, rfl⟩ := hu.2.1.slice; obtain ⟨b2, d2, rfl⟩ := hu.2.2.1.slice; obtain ⟨b3, d3, rfl⟩ := hu.2.2.2.1.slice
  clear hu
  go_wp2_with fail
  have q0 := U.out.1.mono (C := w.heap.size + 1) (by simp)
  have q1 := U.out.2.1.mono (C := w.heap.size + 1) (by simp)
  have q2 := U.out.2.2.1.mono (C := w.heap.size + 1) (by simp)
  have q3 := U.out.2.2.2.1.mono (C := w.heap.size + 1) (by simp)
  refine bodyPost_ret (v := .tuple #[.agg #[.slice b0 [(-1 : Int)].length d0, .slice b1 [(0 : Int)].length d1, .slice b2 [l].length d2, .slice b3 (zerosI n).length d3], .int .i64 0]) (by simp [results, Try.results22, go_sem, *]) rfl
    ⟨_, _, _, _, rfl, ⟨OwnS.mono (B := w.heap.size + 1) (by (repeat (first | (with_reducible assumption) | (with_reducible refine OwnS.alloc ?_ _) | (with_reducible refine OwnS.drew ?_) | (with_reducible refine OwnS.drewN ?_ _) | (with_reducible refine OwnS.set ?_ (by first | omega | (simp; omega) | simp) _) | (with_reducible refine OwnS.keep ?_ (by assumption))))) (by omega), OwnS.mono (B := w.heap.size + 1) (by (repeat (first | (with_reducible assumption) | (with_reducible refine OwnS.alloc ?_ _) | (with_reducible refine OwnS.drew ?_) | (with_reducible refine OwnS.drewN ?_ _) | (with_reducible refine OwnS.set ?_ (by first | omega | (simp; omega) | simp) _) | (with_reducible refine OwnS.keep ?_ (by assumption))))) (by omega), OwnS.mono (B := w.heap.size + 1) (by (repeat (first | (with_reducible assumption) | (with_reducible refine OwnS.alloc ?_ _) | (with_reducible refine OwnS.drew ?_) | (with_reducible refine OwnS.drewN ?_ _) | (with_reducible refine OwnS.set ?_ (by first | omega | (simp; omega) | simp) _) | (with_reducible refine OwnS.keep ?_ (by assumption))))) (by omega), OwnS.mono (B := w.heap.size + 1) (by (repeat (first | (with_reducible assumption) | (with_reducible refine OwnS.alloc ?_ _) | (with_reducible refine OwnS.drew ?_) | (with_reducible refine OwnS.drewN ?_ _) | (with_reducible refine OwnS.set ?_ (by first | omega | (simp; omega) | simp) _) | (with_reducible refine OwnS.keep ?_ (by assumption))))) (by omega), U.out.2.2.2.2⟩, by (repeat (with_reducible first | exact eR _ _ | assumption | refine eA ?_ _ | refine eD ?_ | refine eN ?_ _ | refine eS ?_ _ | refine eT ?_ (by assumption)))⟩
end Go.Proofs.Ytejomclnagakoaa
