/-
The program's indexWith over places, by key and by name.
-/
import Derived.Test.YtibonacjbidfmaaGreatIndex
import Derived.Test.YtibonacjbidfmaaGreatNetP
namespace Go.Proofs.YtibonacjbidfmaaGreat
open Go.ChangeShapes Go.WideShapes Go.ChangeAt Go.RowKit
set_option linter.unusedVariables false
set_option linter.unusedSimpArgs false
def PlF (f : Nat → Value) (p : PlD) : Prop := f 0 = .int .i64 p.inst ∧ f 1 = .int .i64 p.pin ∧ f 2 = .string p.name ∧ f 3 = .int .i64 p.net ∧ f 4 = .int .i64 p.load ∧ f 5 = .bool p.drv
def PlS (w : World) (B : Nat) (v : Value) (P : List PlD) : Prop := ∃ F, CellS w B v P.length 6 F ∧ ∀ i, i < P.length → PlF (F i) (pll P i)
theorem PlS.keep {w w' : World} {B C : Nat} {v : Value} {P : List PlD} (h : PlS w B v P) (hb : Below B w w') (hB : B ≤ C) : PlS w' C v P := by
  obtain ⟨F, h0, h1⟩ := h
  exact ⟨F, h0.keep hb hB, h1⟩
theorem PlS.up {w w' : World} {v : Value} {P : List PlD} (h : PlS w w.heap.size v P) (hb : Below w.heap.size w w') : PlS w' w'.heap.size v P := h.keep hb hb.size
theorem PlS.slice {w : World} {L : Nat} {v : Value} {P : List PlD} (h : PlS w L v P) : ∃ p q, v = .slice p P.length q := by
  obtain ⟨F, ⟨_, a, cap, rfl, _⟩, _⟩ := h
  exact ⟨_, _, rfl⟩
theorem PlS.len {w : World} {L : Nat} {v : Value} {P : List PlD} (h : PlS w L v P) : P.length ≤ 9223372036854775807 := by
  obtain ⟨F, ⟨h0, _⟩, _⟩ := h
  exact h0
theorem keyOfPlace_any (f : Nat → Value) (p : PlD) (w : World) (h : PlF f p) : Calls Tryz.prog 63 #[.agg #[f 0, f 1, f 2, f 3, f 4, f 5]] w fun e w' => e = .returned (.agg #[.int .i64 p.inst, .int .i64 p.pin]) ∧ Below w.heap.size w w' := by
  obtain ⟨e0, e1, e2, e3, e4, e5⟩ := h
  rw [e0, e1, e2, e3, e4, e5]
  clear e0 e1 e2 e3 e4 e5
  go_enter Tryz.func63, Tryz.ntmps63
  go_wp2
  exact bodyPost_ret (v := .agg #[.int .i64 p.inst, .int .i64 p.pin]) (by simp [results, Tryz.results63, go_sem, *]) rfl ⟨rfl, by (repeat (first | (with_reducible exact Below.refl _ _) | (with_reducible assumption) | (with_reducible refine ext_alloc ?_ _) | (with_reducible refine ext_drew ?_) | (with_reducible refine ext_drewN ?_ _) | (with_reducible refine ext_set ?_ (by first | exact Nat.le_refl _ | (simp; done) | (simp; omega) | omega) _) | (with_reducible refine ext_trans ?_ (by assumption))))⟩
set_option maxHeartbeats 2000000 in
theorem ixPkC_any (f : Nat → Value) (p : PlD) (g1 g2 : Nat) (k1 k2 : Int) (w : World) (h : PlF f p) (h1 : w.cell? ⟨g1, 0, none⟩ = some (.func (.func 63) #[] #[])) (h2 : w.cell? ⟨g2, 0, none⟩ = some (.int .i64 k1)) (h3 : w.cell? ⟨g2, 1, none⟩ = some (.int .i64 k2)) :
    Calls Tryz.prog 94 #[.agg #[f 0, f 1, f 2, f 3, f 4, f 5], .pointer (some ⟨g1, 0, none⟩), .pointer (some ⟨g2, 0, none⟩)] w fun e w' => e = .returned (.bool ((p.inst == k1 && p.pin == k2))) ∧ Below w.heap.size w w' := by
  have l1 := cell_lt h1
  have l2 := cell_lt h2
  obtain ⟨e0, e1, e2, e3, e4, e5⟩ := h
  rw [e0, e1, e2, e3, e4, e5]
  clear e0 e1 e2 e3 e4 e5
  cases c0 : (p.inst == k1)
  · go_enter Tryz.func94, Tryz.ntmps94
    go_wp2
    go_region_held3 (fun w' => w'.cell? ⟨w.heap.size, 0, none⟩ = some (.int .i64 p.inst) ∧ w'.cell? ⟨w.heap.size, 1, none⟩ = some (.int .i64 p.pin) ∧ w'.cell? ⟨w.heap.size, 2, none⟩ = some (.string p.name) ∧ w'.cell? ⟨w.heap.size, 3, none⟩ = some (.int .i64 p.net) ∧ w'.cell? ⟨w.heap.size, 4, none⟩ = some (.int .i64 p.load) ∧ w'.cell? ⟨w.heap.size, 5, none⟩ = some (.bool p.drv) ∧ w'.cell? ⟨g1, 0, none⟩ = some (.func (.func 63) #[] #[]) ∧ w'.cell? ⟨g2, 0, none⟩ = some (.int .i64 k1) ∧ w'.cell? ⟨g2, 1, none⟩ = some (.int .i64 k2) ∧ Below w.heap.size w w' ∧ w.heap.size < w'.heap.size) (first | exact (Hid.out (by assumption)) | exact keep9 (Hid.out (by assumption)) ((Below.refl _ _).alloc (Nat.le_refl _) _) | exact keep9s (keep9s (Hid.out (by assumption)) (by first | assumption | (simp; done) | (simp; omega) | omega) (by first | assumption | (simp; done) | (simp; omega) | omega) (by first | assumption | (simp; done) | (simp; omega) | omega) (by first | assumption | (simp; done) | (simp; omega) | omega) (by first | assumption | (simp; done) | (simp; omega) | omega) (by first | assumption | (simp; done) | (simp; omega) | omega) (by first | assumption | (simp; done) | (simp; omega) | omega) (by first | assumption | (simp; done) | (simp; omega) | omega) (by first | assumption | (simp; done) | (simp; omega) | omega) (by first | assumption | (simp; done) | (simp; omega) | omega) (by first | assumption | (simp; done) | (simp; omega) | omega)) (by first | assumption | (simp; done) | (simp; omega) | omega) (by first | assumption | (simp; done) | (simp; omega) | omega) (by first | assumption | (simp; done) | (simp; omega) | omega) (by first | assumption | (simp; done) | (simp; omega) | omega) (by first | assumption | (simp; done) | (simp; omega) | omega) (by first | assumption | (simp; done) | (simp; omega) | omega) (by first | assumption | (simp; done) | (simp; omega) | omega) (by first | assumption | (simp; done) | (simp; omega) | omega) (by first | assumption | (simp; done) | (simp; omega) | omega) (by first | assumption | (simp; done) | (simp; omega) | omega) (by first | assumption | (simp; done) | (simp; omega) | omega) | exact keep9s (Hid.out (by assumption)) (by first | assumption | (simp; done) | (simp; omega) | omega) (by first | assumption | (simp; done) | (simp; omega) | omega) (by first | assumption | (simp; done) | (simp; omega) | omega) (by first | assumption | (simp; done) | (simp; omega) | omega) (by first | assumption | (simp; done) | (simp; omega) | omega) (by first | assumption | (simp; done) | (simp; omega) | omega) (by first | assumption | (simp; done) | (simp; omega) | omega) (by first | assumption | (simp; done) | (simp; omega) | omega) (by first | assumption | (simp; done) | (simp; omega) | omega) (by first | assumption | (simp; done) | (simp; omega) | omega) (by first | assumption | (simp; done) | (simp; omega) | omega) | ((repeat' apply And.intro) <;> first | assumption | ((repeat (first | (with_reducible exact Below.refl _ _) | (with_reducible assumption) | (with_reducible refine ext_alloc ?_ _) | (with_reducible refine ext_drew ?_) | (with_reducible refine ext_drewN ?_ _) | (with_reducible refine ext_set ?_ (by first | exact Nat.le_refl _ | (simp; done) | (simp; omega) | omega) _) | (with_reducible refine ext_trans ?_ (by assumption)))); done) | (simp [go_sem]; done) | (simp [go_sem, *]; done) | (simp; omega) | omega)) (first | ((go_at_call 63; refine (keyOfPlace_any (vec [.int .i64 p.inst, .int .i64 p.pin, .string p.name, .int .i64 p.net, .int .i64 p.load, .bool p.drv]) p _ ⟨rfl, rfl, rfl, rfl, rfl, rfl⟩).mono ?_; rintro e w1 ⟨rfl, hb⟩; obtain ⟨hc, hf⟩ := bcell hb; have hz := hb.size; (try simp at hz); (try (have hz := Nat.lt_of_succ_le hz)); (try (have y0 : w.heap.size ≤ w1.heap.size := by omega)); (try (have z0 : w.heap.size < w1.heap.size := by omega)); (try (have z1 : w.heap.size + 1 < w1.heap.size := by omega)); (try (have z2 : w.heap.size + 1 + 1 < w1.heap.size := by omega)); (try (have z3 : w.heap.size + 1 + 1 + 1 < w1.heap.size := by omega)); (try (have z4 : w.heap.size + 1 + 1 + 1 + 1 < w1.heap.size := by omega)); (try (have x0 : wc.heap.size < w1.heap.size := by omega)); (try (have x1 : wc.heap.size ≤ w1.heap.size := by omega))); have hS := Lib.hid (keep9 (by assumption) hb); have zL := (Hid.out hS).2.2.2.2.2.2.2.2.2.2))
    all_goals
      go_wp2_with fail
      go_ret
      exact ⟨rfl, by (repeat (first | (with_reducible exact Below.refl _ _) | (with_reducible assumption) | (with_reducible refine ext_alloc ?_ _) | (with_reducible refine ext_drew ?_) | (with_reducible refine ext_drewN ?_ _) | (with_reducible refine ext_set ?_ (by first | exact Nat.le_refl _ | (simp; done) | (simp; omega) | omega) _) | (with_reducible refine ext_trans ?_ (by assumption))))⟩
  · cases c1 : (p.pin == k2)
    · go_enter Tryz.func94, Tryz.ntmps94
      go_wp2
      go_region_held3 (fun w' => w'.cell? ⟨w.heap.size, 0, none⟩ = some (.int .i64 p.inst) ∧ w'.cell? ⟨w.heap.size, 1, none⟩ = some (.int .i64 p.pin) ∧ w'.cell? ⟨w.heap.size, 2, none⟩ = some (.string p.name) ∧ w'.cell? ⟨w.heap.size, 3, none⟩ = some (.int .i64 p.net) ∧ w'.cell? ⟨w.heap.size, 4, none⟩ = some (.int .i64 p.load) ∧ w'.cell? ⟨w.heap.size, 5, none⟩ = some (.bool p.drv) ∧ w'.cell? ⟨g1, 0, none⟩ = some (.func (.func 63) #[] #[]) ∧ w'.cell? ⟨g2, 0, none⟩ = some (.int .i64 k1) ∧ w'.cell? ⟨g2, 1, none⟩ = some (.int .i64 k2) ∧ Below w.heap.size w w' ∧ w.heap.size < w'.heap.size) (first | exact (Hid.out (by assumption)) | exact keep9 (Hid.out (by assumption)) ((Below.refl _ _).alloc (Nat.le_refl _) _) | exact keep9s (keep9s (Hid.out (by assumption)) (by first | assumption | (simp; done) | (simp; omega) | omega) (by first | assumption | (simp; done) | (simp; omega) | omega) (by first | assumption | (simp; done) | (simp; omega) | omega) (by first | assumption | (simp; done) | (simp; omega) | omega) (by first | assumption | (simp; done) | (simp; omega) | omega) (by first | assumption | (simp; done) | (simp; omega) | omega) (by first | assumption | (simp; done) | (simp; omega) | omega) (by first | assumption | (simp; done) | (simp; omega) | omega) (by first | assumption | (simp; done) | (simp; omega) | omega) (by first | assumption | (simp; done) | (simp; omega) | omega) (by first | assumption | (simp; done) | (simp; omega) | omega)) (by first | assumption | (simp; done) | (simp; omega) | omega) (by first | assumption | (simp; done) | (simp; omega) | omega) (by first | assumption | (simp; done) | (simp; omega) | omega) (by first | assumption | (simp; done) | (simp; omega) | omega) (by first | assumption | (simp; done) | (simp; omega) | omega) (by first | assumption | (simp; done) | (simp; omega) | omega) (by first | assumption | (simp; done) | (simp; omega) | omega) (by first | assumption | (simp; done) | (simp; omega) | omega) (by first | assumption | (simp; done) | (simp; omega) | omega) (by first | assumption | (simp; done) | (simp; omega) | omega) (by first | assumption | (simp; done) | (simp; omega) | omega) | exact keep9s (Hid.out (by assumption)) (by first | assumption | (simp; done) | (simp; omega) | omega) (by first | assumption | (simp; done) | (simp; omega) | omega) (by first | assumption | (simp; done) | (simp; omega) | omega) (by first | assumption | (simp; done) | (simp; omega) | omega) (by first | assumption | (simp; done) | (simp; omega) | omega) (by first | assumption | (simp; done) | (simp; omega) | omega) (by first | assumption | (simp; done) | (simp; omega) | omega) (by first | assumption | (simp; done) | (simp; omega) | omega) (by first | assumption | (simp; done) | (simp; omega) | omega) (by first | assumption | (simp; done) | (simp; omega) | omega) (by first | assumption | (simp; done) | (simp; omega) | omega) | ((repeat' apply And.intro) <;> first | assumption | ((repeat (first | (with_reducible exact Below.refl _ _) | (with_reducible assumption) | (with_reducible refine ext_alloc ?_ _) | (with_reducible refine ext_drew ?_) | (with_reducible refine ext_drewN ?_ _) | (with_reducible refine ext_set ?_ (by first | exact Nat.le_refl _ | (simp; done) | (simp; omega) | omega) _) | (with_reducible refine ext_trans ?_ (by assumption)))); done) | (simp [go_sem]; done) | (simp [go_sem, *]; done) | (simp; omega) | omega)) (first | ((go_at_call 63; refine (keyOfPlace_any (vec [.int .i64 p.inst, .int .i64 p.pin, .string p.name, .int .i64 p.net, .int .i64 p.load, .bool p.drv]) p _ ⟨rfl, rfl, rfl, rfl, rfl, rfl⟩).mono ?_; rintro e w1 ⟨rfl, hb⟩; obtain ⟨hc, hf⟩ := bcell hb; have hz := hb.size; (try simp at hz); (try (have hz := Nat.lt_of_succ_le hz)); (try (have y0 : w.heap.size ≤ w1.heap.size := by omega)); (try (have z0 : w.heap.size < w1.heap.size := by omega)); (try (have z1 : w.heap.size + 1 < w1.heap.size := by omega)); (try (have z2 : w.heap.size + 1 + 1 < w1.heap.size := by omega)); (try (have z3 : w.heap.size + 1 + 1 + 1 < w1.heap.size := by omega)); (try (have z4 : w.heap.size + 1 + 1 + 1 + 1 < w1.heap.size := by omega)); (try (have x0 : wc.heap.size < w1.heap.size := by omega)); (try (have x1 : wc.heap.size ≤ w1.heap.size := by omega))); have hS := Lib.hid (keep9 (by assumption) hb); have zL := (Hid.out hS).2.2.2.2.2.2.2.2.2.2))
      all_goals
        go_wp2_with fail
        go_ret
        exact ⟨rfl, by (repeat (first | (with_reducible exact Below.refl _ _) | (with_reducible assumption) | (with_reducible refine ext_alloc ?_ _) | (with_reducible refine ext_drew ?_) | (with_reducible refine ext_drewN ?_ _) | (with_reducible refine ext_set ?_ (by first | exact Nat.le_refl _ | (simp; done) | (simp; omega) | omega) _) | (with_reducible refine ext_trans ?_ (by assumption))))⟩
    · go_enter Tryz.func94, Tryz.ntmps94
      go_wp2
      go_region_held3 (fun w' => w'.cell? ⟨w.heap.size, 0, none⟩ = some (.int .i64 p.inst) ∧ w'.cell? ⟨w.heap.size, 1, none⟩ = some (.int .i64 p.pin) ∧ w'.cell? ⟨w.heap.size, 2, none⟩ = some (.string p.name) ∧ w'.cell? ⟨w.heap.size, 3, none⟩ = some (.int .i64 p.net) ∧ w'.cell? ⟨w.heap.size, 4, none⟩ = some (.int .i64 p.load) ∧ w'.cell? ⟨w.heap.size, 5, none⟩ = some (.bool p.drv) ∧ w'.cell? ⟨g1, 0, none⟩ = some (.func (.func 63) #[] #[]) ∧ w'.cell? ⟨g2, 0, none⟩ = some (.int .i64 k1) ∧ w'.cell? ⟨g2, 1, none⟩ = some (.int .i64 k2) ∧ Below w.heap.size w w' ∧ w.heap.size < w'.heap.size) (first | exact (Hid.out (by assumption)) | exact keep9 (Hid.out (by assumption)) ((Below.refl _ _).alloc (Nat.le_refl _) _) | exact keep9s (keep9s (Hid.out (by assumption)) (by first | assumption | (simp; done) | (simp; omega) | omega) (by first | assumption | (simp; done) | (simp; omega) | omega) (by first | assumption | (simp; done) | (simp; omega) | omega) (by first | assumption | (simp; done) | (simp; omega) | omega) (by first | assumption | (simp; done) | (simp; omega) | omega) (by first | assumption | (simp; done) | (simp; omega) | omega) (by first | assumption | (simp; done) | (simp; omega) | omega) (by first | assumption | (simp; done) | (simp; omega) | omega) (by first | assumption | (simp; done) | (simp; omega) | omega) (by first | assumption | (simp; done) | (simp; omega) | omega) (by first | assumption | (simp; done) | (simp; omega) | omega)) (by first | assumption | (simp; done) | (simp; omega) | omega) (by first | assumption | (simp; done) | (simp; omega) | omega) (by first | assumption | (simp; done) | (simp; omega) | omega) (by first | assumption | (simp; done) | (simp; omega) | omega) (by first | assumption | (simp; done) | (simp; omega) | omega) (by first | assumption | (simp; done) | (simp; omega) | omega) (by first | assumption | (simp; done) | (simp; omega) | omega) (by first | assumption | (simp; done) | (simp; omega) | omega) (by first | assumption | (simp; done) | (simp; omega) | omega) (by first | assumption | (simp; done) | (simp; omega) | omega) (by first | assumption | (simp; done) | (simp; omega) | omega) | exact keep9s (Hid.out (by assumption)) (by first | assumption | (simp; done) | (simp; omega) | omega) (by first | assumption | (simp; done) | (simp; omega) | omega) (by first | assumption | (simp; done) | (simp; omega) | omega) (by first | assumption | (simp; done) | (simp; omega) | omega) (by first | assumption | (simp; done) | (simp; omega) | omega) (by first | assumption | (simp; done) | (simp; omega) | omega) (by first | assumption | (simp; done) | (simp; omega) | omega) (by first | assumption | (simp; done) | (simp; omega) | omega) (by first | assumption | (simp; done) | (simp; omega) | omega) (by first | assumption | (simp; done) | (simp; omega) | omega) (by first | assumption | (simp; done) | (simp; omega) | omega) | ((repeat' apply And.intro) <;> first | assumption | ((repeat (first | (with_reducible exact Below.refl _ _) | (with_reducible assumption) | (with_reducible refine ext_alloc ?_ _) | (with_reducible refine ext_drew ?_) | (with_reducible refine ext_drewN ?_ _) | (with_reducible refine ext_set ?_ (by first | exact Nat.le_refl _ | (simp; done) | (simp; omega) | omega) _) | (with_reducible refine ext_trans ?_ (by assumption)))); done) | (simp [go_sem]; done) | (simp [go_sem, *]; done) | (simp; omega) | omega)) (first | ((go_at_call 63; refine (keyOfPlace_any (vec [.int .i64 p.inst, .int .i64 p.pin, .string p.name, .int .i64 p.net, .int .i64 p.load, .bool p.drv]) p _ ⟨rfl, rfl, rfl, rfl, rfl, rfl⟩).mono ?_; rintro e w1 ⟨rfl, hb⟩; obtain ⟨hc, hf⟩ := bcell hb; have hz := hb.size; (try simp at hz); (try (have hz := Nat.lt_of_succ_le hz)); (try (have y0 : w.heap.size ≤ w1.heap.size := by omega)); (try (have z0 : w.heap.size < w1.heap.size := by omega)); (try (have z1 : w.heap.size + 1 < w1.heap.size := by omega)); (try (have z2 : w.heap.size + 1 + 1 < w1.heap.size := by omega)); (try (have z3 : w.heap.size + 1 + 1 + 1 < w1.heap.size := by omega)); (try (have z4 : w.heap.size + 1 + 1 + 1 + 1 < w1.heap.size := by omega)); (try (have x0 : wc.heap.size < w1.heap.size := by omega)); (try (have x1 : wc.heap.size ≤ w1.heap.size := by omega))); have hS := Lib.hid (keep9 (by assumption) hb); have zL := (Hid.out hS).2.2.2.2.2.2.2.2.2.2))
      all_goals
        go_wp2_with fail
        go_ret
        exact ⟨rfl, by (repeat (first | (with_reducible exact Below.refl _ _) | (with_reducible assumption) | (with_reducible refine ext_alloc ?_ _) | (with_reducible refine ext_drew ?_) | (with_reducible refine ext_drewN ?_ _) | (with_reducible refine ext_set ?_ (by first | exact Nat.le_refl _ | (simp; done) | (simp; omega) | omega) _) | (with_reducible refine ext_trans ?_ (by assumption))))⟩
set_option maxHeartbeats 2000000 in
theorem ixPkF_any (v : Value) (ps : List PlD) (g1 g2 : Nat) (k1 k2 : Int) (w : World) (h : PlS w w.heap.size v ps) (h1 : w.cell? ⟨g1, 0, none⟩ = some (.func (.func 63) #[] #[])) (h2 : w.cell? ⟨g2, 0, none⟩ = some (.int .i64 k1)) (h3 : w.cell? ⟨g2, 1, none⟩ = some (.int .i64 k2)) :
    Calls Tryz.prog 93 #[v, .func (.func 94) #[] #[.pointer (some ⟨g1, 0, none⟩), .pointer (some ⟨g2, 0, none⟩)]] w fun e w' => e = .returned (.int .i64 (ix (fun i => ((pll ps i).inst == k1 && (pll ps i).pin == k2)) ps.length)) ∧ Below w.heap.size w w' := by
  obtain ⟨F, hc, hf⟩ := h
  obtain ⟨n, hnn⟩ : ∃ n, n = ps.length := ⟨_, rfl⟩
  rw [← hnn] at hc hf ⊢
  have HC := hc
  obtain ⟨hn, a, cap, rfl, _⟩ := hc
  have HC := Lib.hid HC; have HF := Lib.hid hf; have HN := Lib.hid hnn
  clear hf hnn
  go_enter Tryz.func93, Tryz.ntmps93
  go_wp2
  go_loopw [5, 8] (fun _ i wr => ∃ k : Nat, k ≤ n ∧ i = .int .i64 k ∧ Hid (∀ j, j < k → (((pll ps j).inst == k1 && (pll ps j).pin == k2)) = false) ∧ Below w.heap.size w wr) (fun _ i _ => n - (intOf i).toNat)
  case atStart => exact ⟨0, by omega, rfl, Lib.hid (fun j hj => absurd hj (Nat.not_lt_zero j)), by (repeat (first | (with_reducible exact Below.refl _ _) | (with_reducible assumption) | (with_reducible refine ext_alloc ?_ _) | (with_reducible refine ext_drew ?_) | (with_reducible refine ext_drewN ?_ _) | (with_reducible refine ext_set ?_ (by first | exact Nat.le_refl _ | (simp; done) | (simp; omega) | omega) _) | (with_reducible refine ext_trans ?_ (by assumption))))⟩
  case round =>
    obtain ⟨k, hk, rfl, hall, hbw⟩ := hrel
    by_cases hkn : k < n
    · obtain ⟨b, off, rfl, hlt, hx⟩ := HC.out.at hbw hkn
      have y0 := hx 0 (by omega)
      have y1 := hx 1 (by omega)
      have y2 := hx 2 (by omega)
      have y3 := hx 3 (by omega)
      have y4 := hx 4 (by omega)
      have y5 := hx 5 (by omega)
      simp only [Nat.add_zero] at y0
      have hI : (k : Int) < (n : Int) := by omega
      have i0 : (0 : Int) ≤ (k : Int) := by omega
      have HQ := Lib.hid (ixPkC_any (F k) (pll ps k) g1 g2 k1 k2 wr (HF.out k hkn) (cell_keep h1 hbw) (cell_keep h2 hbw) (cell_keep h3 hbw))
      clear hx h1 h2 h3
      cases hd : (((pll ps k).inst == k1 && (pll ps k).pin == k2))
      · have hok := Lib.hid (all_more hall.out hd)
        rw [hd] at HQ
        clear hd
        go_wp2_with (go_at_call 94; refine (HQ.out).mono ?_; rintro e w1 ⟨rfl, hb⟩; obtain ⟨hc, hf⟩ := bcell hb; have hz := hb.size; (try simp at hz); (try (have hz := Nat.lt_of_succ_le hz)); (try (have y0 : w.heap.size ≤ w1.heap.size := by omega)); (try (have z0 : w.heap.size < w1.heap.size := by omega)); (try (have z1 : w.heap.size + 1 < w1.heap.size := by omega)); (try (have z2 : w.heap.size + 1 + 1 < w1.heap.size := by omega)); (try (have z3 : w.heap.size + 1 + 1 + 1 < w1.heap.size := by omega)); (try (have z4 : w.heap.size + 1 + 1 + 1 + 1 < w1.heap.size := by omega)); (try (have x0 : wc.heap.size < w1.heap.size := by omega)); (try (have x1 : wc.heap.size ≤ w1.heap.size := by omega)))
        go_roundw
        case rel => exact ⟨k + 1, by omega, by go_num, hok, by (repeat (first | (with_reducible exact Below.refl _ _) | (with_reducible assumption) | (with_reducible refine ext_alloc ?_ _) | (with_reducible refine ext_drew ?_) | (with_reducible refine ext_drewN ?_ _) | (with_reducible refine ext_set ?_ (by first | exact Nat.le_refl _ | (simp; done) | (simp; omega) | omega) _) | (with_reducible refine ext_trans ?_ (by assumption))))⟩
        case measure => simp [intOf]; omega
      · have hok := Lib.hid (ix_at (q := fun i => ((pll ps i).inst == k1 && (pll ps i).pin == k2)) hkn hd hall.out)
        rw [hd] at HQ
        clear hd
        go_wp2_with (go_at_call 94; refine (HQ.out).mono ?_; rintro e w1 ⟨rfl, hb⟩; obtain ⟨hc, hf⟩ := bcell hb; have hz := hb.size; (try simp at hz); (try (have hz := Nat.lt_of_succ_le hz)); (try (have y0 : w.heap.size ≤ w1.heap.size := by omega)); (try (have z0 : w.heap.size < w1.heap.size := by omega)); (try (have z1 : w.heap.size + 1 < w1.heap.size := by omega)); (try (have z2 : w.heap.size + 1 + 1 < w1.heap.size := by omega)); (try (have z3 : w.heap.size + 1 + 1 + 1 < w1.heap.size := by omega)); (try (have z4 : w.heap.size + 1 + 1 + 1 + 1 < w1.heap.size := by omega)); (try (have x0 : wc.heap.size < w1.heap.size := by omega)); (try (have x1 : wc.heap.size ≤ w1.heap.size := by omega)))
        rw [hok.out]
        go_ret
        exact ⟨rfl, by (repeat (first | (with_reducible exact Below.refl _ _) | (with_reducible assumption) | (with_reducible refine ext_alloc ?_ _) | (with_reducible refine ext_drew ?_) | (with_reducible refine ext_drewN ?_ _) | (with_reducible refine ext_set ?_ (by first | exact Nat.le_refl _ | (simp; done) | (simp; omega) | omega) _) | (with_reducible refine ext_trans ?_ (by assumption))))⟩
    · obtain rfl : k = n := by omega
      have hok := Lib.hid (ix_none (q := fun i => ((pll ps i).inst == k1 && (pll ps i).pin == k2)) hall.out)
      have hI : ¬ (k : Int) < (k : Int) := by omega
      go_wp2
      rw [hok.out]
      go_ret
      exact ⟨rfl, hbw⟩
theorem ixPk_any (v : Value) (ps : List PlD) (k1 k2 : Int) (w : World) (h : PlS w w.heap.size v ps) :
    Calls Tryz.prog 62 #[v, .func (.func 63) #[] #[], .agg #[.int .i64 k1, .int .i64 k2]] w fun e w' => e = .returned (.int .i64 (ix (fun i => ((pll ps i).inst == k1 && (pll ps i).pin == k2)) ps.length)) ∧ Below w.heap.size w w' := by
  have H := Lib.hid h
  obtain ⟨p, q, rfl⟩ := h.slice
  clear h
  go_enter Tryz.func62, Tryz.ntmps62
  go_wp2_with fail
  (go_at_call 93; refine (ixPkF_any _ ps w.heap.size (w.heap.size + 1) k1 k2 _ (H.out.up (by (repeat (first | (with_reducible exact Below.refl _ _) | (with_reducible assumption) | (with_reducible refine ext_alloc ?_ _) | (with_reducible refine ext_drew ?_) | (with_reducible refine ext_drewN ?_ _) | (with_reducible refine ext_set ?_ (by first | exact Nat.le_refl _ | (simp; done) | (simp; omega) | omega) _) | (with_reducible refine ext_trans ?_ (by assumption)))))) (by simp [go_sem]) (by simp [go_sem]) (by simp [go_sem])).mono ?_; rintro e w1 ⟨rfl, hb⟩; obtain ⟨hc, hf⟩ := bcell hb; have hz := hb.size; (try simp at hz); (try (have hz := Nat.lt_of_succ_le hz)); (try (have y0 : w.heap.size ≤ w1.heap.size := by omega)); (try (have z0 : w.heap.size < w1.heap.size := by omega)); (try (have z1 : w.heap.size + 1 < w1.heap.size := by omega)); (try (have z2 : w.heap.size + 1 + 1 < w1.heap.size := by omega)); (try (have z3 : w.heap.size + 1 + 1 + 1 < w1.heap.size := by omega)); (try (have z4 : w.heap.size + 1 + 1 + 1 + 1 < w1.heap.size := by omega)))
  go_wp2_with fail
  go_ret
  exact ⟨rfl, by (repeat (first | (with_reducible exact Below.refl _ _) | (with_reducible assumption) | (with_reducible refine ext_alloc ?_ _) | (with_reducible refine ext_drew ?_) | (with_reducible refine ext_drewN ?_ _) | (with_reducible refine ext_set ?_ (by first | exact Nat.le_refl _ | (simp; done) | (simp; omega) | omega) _) | (with_reducible refine ext_trans ?_ (by assumption))))⟩
theorem nameOfPlace_any (f : Nat → Value) (p : PlD) (w : World) (h : PlF f p) : Calls Tryz.prog 68 #[.agg #[f 0, f 1, f 2, f 3, f 4, f 5]] w fun e w' => e = .returned (.string p.name) ∧ Below w.heap.size w w' := by
  obtain ⟨e0, e1, e2, e3, e4, e5⟩ := h
  rw [e0, e1, e2, e3, e4, e5]
  clear e0 e1 e2 e3 e4 e5
  go_enter Tryz.func68, Tryz.ntmps68
  go_wp2
  go_ret
  exact ⟨rfl, by (repeat (first | (with_reducible exact Below.refl _ _) | (with_reducible assumption) | (with_reducible refine ext_alloc ?_ _) | (with_reducible refine ext_drew ?_) | (with_reducible refine ext_drewN ?_ _) | (with_reducible refine ext_set ?_ (by first | exact Nat.le_refl _ | (simp; done) | (simp; omega) | omega) _) | (with_reducible refine ext_trans ?_ (by assumption))))⟩
set_option maxHeartbeats 2000000 in
theorem ixPmC_any (f : Nat → Value) (p : PlD) (g1 g2 : Nat) (s : ByteArray) (w : World) (h : PlF f p) (h1 : w.cell? ⟨g1, 0, none⟩ = some (.func (.func 68) #[] #[])) (h2 : w.cell? ⟨g2, 0, none⟩ = some (.string s)) :
    Calls Tryz.prog 96 #[.agg #[f 0, f 1, f 2, f 3, f 4, f 5], .pointer (some ⟨g1, 0, none⟩), .pointer (some ⟨g2, 0, none⟩)] w fun e w' => e = .returned (.bool (p.name.toList == s.toList)) ∧ Below w.heap.size w w' := by
  have l1 := cell_lt h1
  have l2 := cell_lt h2
  obtain ⟨e0, e1, e2, e3, e4, e5⟩ := h
  rw [e0, e1, e2, e3, e4, e5]
  clear e0 e1 e2 e3 e4 e5
  go_enter Tryz.func96, Tryz.ntmps96
  go_wp2
  go_region_held3 (fun w' => w'.cell? ⟨w.heap.size, 0, none⟩ = some (.int .i64 p.inst) ∧ w'.cell? ⟨w.heap.size, 1, none⟩ = some (.int .i64 p.pin) ∧ w'.cell? ⟨w.heap.size, 2, none⟩ = some (.string p.name) ∧ w'.cell? ⟨w.heap.size, 3, none⟩ = some (.int .i64 p.net) ∧ w'.cell? ⟨w.heap.size, 4, none⟩ = some (.int .i64 p.load) ∧ w'.cell? ⟨w.heap.size, 5, none⟩ = some (.bool p.drv) ∧ w'.cell? ⟨g1, 0, none⟩ = some (.func (.func 68) #[] #[]) ∧ w'.cell? ⟨g2, 0, none⟩ = some (.string s) ∧ Below w.heap.size w w' ∧ w.heap.size < w'.heap.size) (first | exact (Hid.out (by assumption)) | exact keep8 (Hid.out (by assumption)) ((Below.refl _ _).alloc (Nat.le_refl _) _) | exact keep8s (keep8s (Hid.out (by assumption)) (by first | assumption | (simp; done) | (simp; omega) | omega) (by first | assumption | (simp; done) | (simp; omega) | omega) (by first | assumption | (simp; done) | (simp; omega) | omega) (by first | assumption | (simp; done) | (simp; omega) | omega) (by first | assumption | (simp; done) | (simp; omega) | omega) (by first | assumption | (simp; done) | (simp; omega) | omega) (by first | assumption | (simp; done) | (simp; omega) | omega) (by first | assumption | (simp; done) | (simp; omega) | omega) (by first | assumption | (simp; done) | (simp; omega) | omega) (by first | assumption | (simp; done) | (simp; omega) | omega)) (by first | assumption | (simp; done) | (simp; omega) | omega) (by first | assumption | (simp; done) | (simp; omega) | omega) (by first | assumption | (simp; done) | (simp; omega) | omega) (by first | assumption | (simp; done) | (simp; omega) | omega) (by first | assumption | (simp; done) | (simp; omega) | omega) (by first | assumption | (simp; done) | (simp; omega) | omega) (by first | assumption | (simp; done) | (simp; omega) | omega) (by first | assumption | (simp; done) | (simp; omega) | omega) (by first | assumption | (simp; done) | (simp; omega) | omega) (by first | assumption | (simp; done) | (simp; omega) | omega) | exact keep8s (Hid.out (by assumption)) (by first | assumption | (simp; done) | (simp; omega) | omega) (by first | assumption | (simp; done) | (simp; omega) | omega) (by first | assumption | (simp; done) | (simp; omega) | omega) (by first | assumption | (simp; done) | (simp; omega) | omega) (by first | assumption | (simp; done) | (simp; omega) | omega) (by first | assumption | (simp; done) | (simp; omega) | omega) (by first | assumption | (simp; done) | (simp; omega) | omega) (by first | assumption | (simp; done) | (simp; omega) | omega) (by first | assumption | (simp; done) | (simp; omega) | omega) (by first | assumption | (simp; done) | (simp; omega) | omega) | ((repeat' apply And.intro) <;> first | assumption | ((repeat (first | (with_reducible exact Below.refl _ _) | (with_reducible assumption) | (with_reducible refine ext_alloc ?_ _) | (with_reducible refine ext_drew ?_) | (with_reducible refine ext_drewN ?_ _) | (with_reducible refine ext_set ?_ (by first | exact Nat.le_refl _ | (simp; done) | (simp; omega) | omega) _) | (with_reducible refine ext_trans ?_ (by assumption)))); done) | (simp [go_sem]; done) | (simp [go_sem, *]; done) | (simp; omega) | omega)) (first | ((go_at_call 68; refine (nameOfPlace_any (vec [.int .i64 p.inst, .int .i64 p.pin, .string p.name, .int .i64 p.net, .int .i64 p.load, .bool p.drv]) p _ ⟨rfl, rfl, rfl, rfl, rfl, rfl⟩).mono ?_; rintro e w1 ⟨rfl, hb⟩; obtain ⟨hc, hf⟩ := bcell hb; have hz := hb.size; (try simp at hz); (try (have hz := Nat.lt_of_succ_le hz)); (try (have y0 : w.heap.size ≤ w1.heap.size := by omega)); (try (have z0 : w.heap.size < w1.heap.size := by omega)); (try (have z1 : w.heap.size + 1 < w1.heap.size := by omega)); (try (have z2 : w.heap.size + 1 + 1 < w1.heap.size := by omega)); (try (have z3 : w.heap.size + 1 + 1 + 1 < w1.heap.size := by omega)); (try (have z4 : w.heap.size + 1 + 1 + 1 + 1 < w1.heap.size := by omega)); (try (have x0 : wc.heap.size < w1.heap.size := by omega)); (try (have x1 : wc.heap.size ≤ w1.heap.size := by omega))); have hS := Lib.hid (keep8 (by assumption) hb); have zL := (Hid.out hS).2.2.2.2.2.2.2.2.2))
  all_goals
    go_wp2_with fail
    go_ret
    exact ⟨rfl, by (repeat (first | (with_reducible exact Below.refl _ _) | (with_reducible assumption) | (with_reducible refine ext_alloc ?_ _) | (with_reducible refine ext_drew ?_) | (with_reducible refine ext_drewN ?_ _) | (with_reducible refine ext_set ?_ (by first | exact Nat.le_refl _ | (simp; done) | (simp; omega) | omega) _) | (with_reducible refine ext_trans ?_ (by assumption))))⟩
set_option maxHeartbeats 2000000 in
theorem ixPmF_any (v : Value) (ps : List PlD) (g1 g2 : Nat) (s : ByteArray) (w : World) (h : PlS w w.heap.size v ps) (h1 : w.cell? ⟨g1, 0, none⟩ = some (.func (.func 68) #[] #[])) (h2 : w.cell? ⟨g2, 0, none⟩ = some (.string s)) :
    Calls Tryz.prog 93 #[v, .func (.func 96) #[] #[.pointer (some ⟨g1, 0, none⟩), .pointer (some ⟨g2, 0, none⟩)]] w fun e w' => e = .returned (.int .i64 (ix (fun i => (pll ps i).name.toList == s.toList) ps.length)) ∧ Below w.heap.size w w' := by
  obtain ⟨F, hc, hf⟩ := h
  obtain ⟨n, hnn⟩ : ∃ n, n = ps.length := ⟨_, rfl⟩
  rw [← hnn] at hc hf ⊢
  have HC := hc
  obtain ⟨hn, a, cap, rfl, _⟩ := hc
  have HC := Lib.hid HC; have HF := Lib.hid hf; have HN := Lib.hid hnn
  clear hf hnn
  go_enter Tryz.func93, Tryz.ntmps93
  go_wp2
  go_loopw [5, 8] (fun _ i wr => ∃ k : Nat, k ≤ n ∧ i = .int .i64 k ∧ Hid (∀ j, j < k → ((pll ps j).name.toList == s.toList) = false) ∧ Below w.heap.size w wr) (fun _ i _ => n - (intOf i).toNat)
  case atStart => exact ⟨0, by omega, rfl, Lib.hid (fun j hj => absurd hj (Nat.not_lt_zero j)), by (repeat (first | (with_reducible exact Below.refl _ _) | (with_reducible assumption) | (with_reducible refine ext_alloc ?_ _) | (with_reducible refine ext_drew ?_) | (with_reducible refine ext_drewN ?_ _) | (with_reducible refine ext_set ?_ (by first | exact Nat.le_refl _ | (simp; done) | (simp; omega) | omega) _) | (with_reducible refine ext_trans ?_ (by assumption))))⟩
  case round =>
    obtain ⟨k, hk, rfl, hall, hbw⟩ := hrel
    by_cases hkn : k < n
    · obtain ⟨b, off, rfl, hlt, hx⟩ := HC.out.at hbw hkn
      have y0 := hx 0 (by omega)
      have y1 := hx 1 (by omega)
      have y2 := hx 2 (by omega)
      have y3 := hx 3 (by omega)
      have y4 := hx 4 (by omega)
      have y5 := hx 5 (by omega)
      simp only [Nat.add_zero] at y0
      have hI : (k : Int) < (n : Int) := by omega
      have i0 : (0 : Int) ≤ (k : Int) := by omega
      have HQ := Lib.hid (ixPmC_any (F k) (pll ps k) g1 g2 s wr (HF.out k hkn) (cell_keep h1 hbw) (cell_keep h2 hbw))
      clear hx h1 h2
      cases hd : ((pll ps k).name.toList == s.toList)
      · have hok := Lib.hid (all_more hall.out hd)
        rw [hd] at HQ
        clear hd
        go_wp2_with (go_at_call 96; refine (HQ.out).mono ?_; rintro e w1 ⟨rfl, hb⟩; obtain ⟨hc, hf⟩ := bcell hb; have hz := hb.size; (try simp at hz); (try (have hz := Nat.lt_of_succ_le hz)); (try (have y0 : w.heap.size ≤ w1.heap.size := by omega)); (try (have z0 : w.heap.size < w1.heap.size := by omega)); (try (have z1 : w.heap.size + 1 < w1.heap.size := by omega)); (try (have z2 : w.heap.size + 1 + 1 < w1.heap.size := by omega)); (try (have z3 : w.heap.size + 1 + 1 + 1 < w1.heap.size := by omega)); (try (have z4 : w.heap.size + 1 + 1 + 1 + 1 < w1.heap.size := by omega)); (try (have x0 : wc.heap.size < w1.heap.size := by omega)); (try (have x1 : wc.heap.size ≤ w1.heap.size := by omega)))
        go_roundw
        case rel => exact ⟨k + 1, by omega, by go_num, hok, by (repeat (first | (with_reducible exact Below.refl _ _) | (with_reducible assumption) | (with_reducible refine ext_alloc ?_ _) | (with_reducible refine ext_drew ?_) | (with_reducible refine ext_drewN ?_ _) | (with_reducible refine ext_set ?_ (by first | exact Nat.le_refl _ | (simp; done) | (simp; omega) | omega) _) | (with_reducible refine ext_trans ?_ (by assumption))))⟩
        case measure => simp [intOf]; omega
      · have hok := Lib.hid (ix_at (q := fun i => (pll ps i).name.toList == s.toList) hkn hd hall.out)
        rw [hd] at HQ
        clear hd
        go_wp2_with (go_at_call 96; refine (HQ.out).mono ?_; rintro e w1 ⟨rfl, hb⟩; obtain ⟨hc, hf⟩ := bcell hb; have hz := hb.size; (try simp at hz); (try (have hz := Nat.lt_of_succ_le hz)); (try (have y0 : w.heap.size ≤ w1.heap.size := by omega)); (try (have z0 : w.heap.size < w1.heap.size := by omega)); (try (have z1 : w.heap.size + 1 < w1.heap.size := by omega)); (try (have z2 : w.heap.size + 1 + 1 < w1.heap.size := by omega)); (try (have z3 : w.heap.size + 1 + 1 + 1 < w1.heap.size := by omega)); (try (have z4 : w.heap.size + 1 + 1 + 1 + 1 < w1.heap.size := by omega)); (try (have x0 : wc.heap.size < w1.heap.size := by omega)); (try (have x1 : wc.heap.size ≤ w1.heap.size := by omega)))
        rw [hok.out]
        go_ret
        exact ⟨rfl, by (repeat (first | (with_reducible exact Below.refl _ _) | (with_reducible assumption) | (with_reducible refine ext_alloc ?_ _) | (with_reducible refine ext_drew ?_) | (with_reducible refine ext_drewN ?_ _) | (with_reducible refine ext_set ?_ (by first | exact Nat.le_refl _ | (simp; done) | (simp; omega) | omega) _) | (with_reducible refine ext_trans ?_ (by assumption))))⟩
    · obtain rfl : k = n := by omega
      have hok := Lib.hid (ix_none (q := fun i => (pll ps i).name.toList == s.toList) hall.out)
      have hI : ¬ (k : Int) < (k : Int) := by omega
      go_wp2
      rw [hok.out]
      go_ret
      exact ⟨rfl, hbw⟩
theorem ixPm_any (v : Value) (ps : List PlD) (s : ByteArray) (w : World) (h : PlS w w.heap.size v ps) :
    Calls Tryz.prog 67 #[v, .func (.func 68) #[] #[], .string s] w fun e w' => e = .returned (.int .i64 (ix (fun i => (pll ps i).name.toList == s.toList) ps.length)) ∧ Below w.heap.size w w' := by
  have H := Lib.hid h
  obtain ⟨p, q, rfl⟩ := h.slice
  clear h
  go_enter Tryz.func67, Tryz.ntmps67
  go_wp2_with fail
  (go_at_call 93; refine (ixPmF_any _ ps w.heap.size (w.heap.size + 1) s _ (H.out.up (by (repeat (first | (with_reducible exact Below.refl _ _) | (with_reducible assumption) | (with_reducible refine ext_alloc ?_ _) | (with_reducible refine ext_drew ?_) | (with_reducible refine ext_drewN ?_ _) | (with_reducible refine ext_set ?_ (by first | exact Nat.le_refl _ | (simp; done) | (simp; omega) | omega) _) | (with_reducible refine ext_trans ?_ (by assumption)))))) (by simp [go_sem]) (by simp [go_sem])).mono ?_; rintro e w1 ⟨rfl, hb⟩; obtain ⟨hc, hf⟩ := bcell hb; have hz := hb.size; (try simp at hz); (try (have hz := Nat.lt_of_succ_le hz)); (try (have y0 : w.heap.size ≤ w1.heap.size := by omega)); (try (have z0 : w.heap.size < w1.heap.size := by omega)); (try (have z1 : w.heap.size + 1 < w1.heap.size := by omega)); (try (have z2 : w.heap.size + 1 + 1 < w1.heap.size := by omega)); (try (have z3 : w.heap.size + 1 + 1 + 1 < w1.heap.size := by omega)); (try (have z4 : w.heap.size + 1 + 1 + 1 + 1 < w1.heap.size := by omega)))
  go_wp2_with fail
  go_ret
  exact ⟨rfl, by (repeat (first | (with_reducible exact Below.refl _ _) | (with_reducible assumption) | (with_reducible refine ext_alloc ?_ _) | (with_reducible refine ext_drew ?_) | (with_reducible refine ext_drewN ?_ _) | (with_reducible refine ext_set ?_ (by first | exact Nat.le_refl _ | (simp; done) | (simp; omega) | omega) _) | (with_reducible refine ext_trans ?_ (by assumption))))⟩
end Go.Proofs.YtibonacjbidfmaaGreat
