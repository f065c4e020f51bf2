/-
Contracts of IsMonotone (program and model) and of valueAt, for all tables.
-/
import Derived.Test.YtckccpcigkbfmaaBound
namespace Go.Proofs.Ytckccpcigkbfmaa
open Go.ChangeShapes Go.WideShapes Go.ChangeAt Go.RowKit
set_option linter.unusedVariables false
/-- Value i is not smaller than the one for the load before it and the one for the slew before it, of tables with m loads. -/
def mnAt (m : Nat) (vs : List Int) (i : Nat) : Bool := (decide (i % m = 0) || decide (iv vs (i - 1) ≤ iv vs i)) && (decide (i < m) || decide (iv vs (i - m) ≤ iv vs i))
def monB (ss ls vs : List Int) : Bool := tabB ss ls vs && allB (mnAt ls.length vs) vs.length
theorem mon_no {ss ls vs : List Int} (h : tabB ss ls vs = false) : monB ss ls vs = false := by simp [monB, h]
theorem mon_bad {ss ls vs : List Int} {k : Nat} (hk : k < vs.length) (h : mnAt ls.length vs k = false) : monB ss ls vs = false := by simp [monB, allB_no hk h]
theorem mon_yes {ss ls vs : List Int} (ht : tabB ss ls vs = true) (h : ∀ i, i < vs.length → mnAt ls.length vs i = true) : monB ss ls vs = true := by simp [monB, ht, allB_yes h]
theorem mn_yes {m : Nat} {vs : List Int} {i : Nat} (h1 : i % m = 0 ∨ iv vs (i - 1) ≤ iv vs i) (h2 : i < m ∨ iv vs (i - m) ≤ iv vs i) : mnAt m vs i = true := by
  simp only [mnAt, Bool.and_eq_true, Bool.or_eq_true, decide_eq_true_eq]
  exact ⟨h1, h2⟩
theorem mn_no1 {m : Nat} {vs : List Int} {i : Nat} (h1 : ¬ i % m = 0) (h2 : ¬ iv vs (i - 1) ≤ iv vs i) : mnAt m vs i = false := by simp [mnAt, h1, h2]
theorem mn_no2 {m : Nat} {vs : List Int} {i : Nat} (h1 : m ≤ i) (h2 : ¬ iv vs (i - m) ≤ iv vs i) : mnAt m vs i = false := by
  have : ¬ i < m := by omega
  simp [mnAt, this, h2]
theorem md_zero {k m : Nat} (h : k % m = 0) : ¬ (0 : Int) < (k : Int) % (m : Int) := by
  have e : ((k % m : Nat) : Int) = (k : Int) % (m : Int) := Int.natCast_emod k m
  omega
theorem md_pos {j m : Nat} (h : 0 < (j + 1) % m) : (0 : Int) < ((j : Int) + 1) % (m : Int) := by
  have e : (((j + 1) % m : Nat) : Int) = ((j + 1 : Nat) : Int) % (m : Int) := Int.natCast_emod (j + 1) m
  have e2 : ((j + 1 : Nat) : Int) = (j : Int) + 1 := by omega
  rw [e2] at e
  omega
set_option maxHeartbeats 2000000 in
theorem specMono_any (v0 v1 v2 : Value) (ss ls vs : List Int) (w : World) (h0 : IntS w w.heap.size v0 ss) (h1 : IntS w w.heap.size v1 ls) (h2 : IntS w w.heap.size v2 vs) :
    Calls Try.prog 21 #[.agg #[v0, v1, v2]] w fun e w' => e = .returned (.bool (monB ss ls vs)) ∧ Below w.heap.size w w' := by
  have H0 := Lib.hid h0; have H1 := Lib.hid h1; have H2 := Lib.hid h2
  obtain ⟨_, a0, c0, rfl, _⟩ := h0; obtain ⟨hm, a1, c1, rfl, _⟩ := h1; obtain ⟨hn, a2, c2, rfl, hx0⟩ := h2
  cases ht : tabB ss ls vs
  · rw [mon_no ht]
    clear hx0
    go_enter Try.func21, Try.ntmps21
    go_wp2_with (go_at_call 23; refine (specIsTable_any _ _ _ _ _ _ _ (H0.out.up (by (repeat (first | (with_reducible exact Below.refl _ _) | (with_reducible assumption) | (with_reducible refine ext_alloc ?_ _) | (with_reducible refine ext_drew ?_) | (with_reducible refine ext_drewN ?_ _) | (with_reducible refine ext_set ?_ (by first | exact Nat.le_refl _ | (simp; done) | (simp; omega) | omega) _) | (with_reducible refine ext_trans ?_ (by assumption)))))) (H1.out.up (by (repeat (first | (with_reducible exact Below.refl _ _) | (with_reducible assumption) | (with_reducible refine ext_alloc ?_ _) | (with_reducible refine ext_drew ?_) | (with_reducible refine ext_drewN ?_ _) | (with_reducible refine ext_set ?_ (by first | exact Nat.le_refl _ | (simp; done) | (simp; omega) | omega) _) | (with_reducible refine ext_trans ?_ (by assumption)))))) (H2.out.up (by (repeat (first | (with_reducible exact Below.refl _ _) | (with_reducible assumption) | (with_reducible refine ext_alloc ?_ _) | (with_reducible refine ext_drew ?_) | (with_reducible refine ext_drewN ?_ _) | (with_reducible refine ext_set ?_ (by first | exact Nat.le_refl _ | (simp; done) | (simp; omega) | omega) _) | (with_reducible refine ext_trans ?_ (by assumption))))))).mono ?_; rintro e w1 ⟨rfl, hb⟩; obtain ⟨hc, hf⟩ := bcell hb; have hz := hb.size; (try simp at hz); (try (have hz := Nat.lt_of_succ_le hz)); (try (have y0 : w.heap.size ≤ w1.heap.size := by omega)); (try (have z0 : w.heap.size < w1.heap.size := by omega)); (try (have z1 : w.heap.size + 1 < w1.heap.size := by omega)); (try (have z2 : w.heap.size + 1 + 1 < w1.heap.size := by omega)); (try (have z3 : w.heap.size + 1 + 1 + 1 < w1.heap.size := by omega)); (try (have z4 : w.heap.size + 1 + 1 + 1 + 1 < w1.heap.size := by omega)); (try (have x0 : wc.heap.size < w1.heap.size := by omega)); (try (have x1 : wc.heap.size ≤ w1.heap.size := by omega)))
    go_ret
    exact ⟨rfl, by (repeat (first | (with_reducible exact Below.refl _ _) | (with_reducible assumption) | (with_reducible refine ext_alloc ?_ _) | (with_reducible refine ext_drew ?_) | (with_reducible refine ext_drewN ?_ _) | (with_reducible refine ext_set ?_ (by first | exact Nat.le_refl _ | (simp; done) | (simp; omega) | omega) _) | (with_reducible refine ext_trans ?_ (by assumption))))⟩
  · have ⟨hp, hp16⟩ := tab_pos ht
    have hm0 : 0 < ls.length := (ax_get (tab_get ht).2.1).1
    have hm4 : ls.length ≤ 4 := (ax_get (tab_get ht).2.1).2.1
    obtain ⟨b, off, rfl, hlt, hx⟩ := hx0 hp
    clear hx0
    obtain ⟨n, hnn⟩ : ∃ n, n = vs.length := ⟨_, rfl⟩
    obtain ⟨m, hmm⟩ : ∃ m, m = ls.length := ⟨_, rfl⟩
    have HN := Lib.hid hnn
    have HM := Lib.hid hmm
    have HT := Lib.hid ht
    rw [← hnn] at hn hp hp16 hx H2 ⊢
    rw [← hmm] at hm0 hm4 hm H1 ⊢
    have HX := Lib.hid hx
    clear hnn hmm hx
    have hmI : (0 : Int) < (m : Int) := by omega
    have hmz : ((m : Int) == 0) = false := by simp; omega
    go_enter Try.func21, Try.ntmps21
    go_wp2_with (go_at_call 23; refine (specIsTable_any _ _ _ _ _ _ _ (H0.out.up (by (repeat (first | (with_reducible exact Below.refl _ _) | (with_reducible assumption) | (with_reducible refine ext_alloc ?_ _) | (with_reducible refine ext_drew ?_) | (with_reducible refine ext_drewN ?_ _) | (with_reducible refine ext_set ?_ (by first | exact Nat.le_refl _ | (simp; done) | (simp; omega) | omega) _) | (with_reducible refine ext_trans ?_ (by assumption)))))) (H1.out.up (by (repeat (first | (with_reducible exact Below.refl _ _) | (with_reducible assumption) | (with_reducible refine ext_alloc ?_ _) | (with_reducible refine ext_drew ?_) | (with_reducible refine ext_drewN ?_ _) | (with_reducible refine ext_set ?_ (by first | exact Nat.le_refl _ | (simp; done) | (simp; omega) | omega) _) | (with_reducible refine ext_trans ?_ (by assumption)))))) (H2.out.up (by (repeat (first | (with_reducible exact Below.refl _ _) | (with_reducible assumption) | (with_reducible refine ext_alloc ?_ _) | (with_reducible refine ext_drew ?_) | (with_reducible refine ext_drewN ?_ _) | (with_reducible refine ext_set ?_ (by first | exact Nat.le_refl _ | (simp; done) | (simp; omega) | omega) _) | (with_reducible refine ext_trans ?_ (by assumption))))))).mono ?_; rintro e w1 ⟨rfl, hb⟩; obtain ⟨hc, hf⟩ := bcell hb; have hz := hb.size; (try simp at hz); (try (have hz := Nat.lt_of_succ_le hz)); (try (have y0 : w.heap.size ≤ w1.heap.size := by omega)); (try (have z0 : w.heap.size < w1.heap.size := by omega)); (try (have z1 : w.heap.size + 1 < w1.heap.size := by omega)); (try (have z2 : w.heap.size + 1 + 1 < w1.heap.size := by omega)); (try (have z3 : w.heap.size + 1 + 1 + 1 < w1.heap.size := by omega)); (try (have z4 : w.heap.size + 1 + 1 + 1 + 1 < w1.heap.size := by omega)); (try (have x0 : wc.heap.size < w1.heap.size := by omega)); (try (have x1 : wc.heap.size ≤ w1.heap.size := by omega)))
    have hbw1 : Below w.heap.size w w1 := by (repeat (first | (with_reducible exact Below.refl _ _) | (with_reducible assumption) | (with_reducible refine ext_alloc ?_ _) | (with_reducible refine ext_drew ?_) | (with_reducible refine ext_drewN ?_ _) | (with_reducible refine ext_set ?_ (by first | exact Nat.le_refl _ | (simp; done) | (simp; omega) | omega) _) | (with_reducible refine ext_trans ?_ (by assumption))))
    go_loopw [4] (fun i wr => ∃ k : Nat, k ≤ n ∧ i = .int .i64 k ∧ Hid (∀ j, j < k → mnAt m vs j = true) ∧ wr.cell? ⟨w.heap.size, 2, none⟩ = some (.slice (some ⟨b, off, none⟩) n c2) ∧ Below w.heap.size w wr) (fun i _ => n - (intOf i).toNat)
    case atStart => exact ⟨0, by omega, rfl, Lib.hid (fun j hj => absurd hj (Nat.not_lt_zero j)), by (first | assumption | (simp [go_sem, *]; done)), by (repeat (first | (with_reducible exact Below.refl _ _) | (with_reducible assumption) | (with_reducible refine ext_alloc ?_ _) | (with_reducible refine ext_drew ?_) | (with_reducible refine ext_drewN ?_ _) | (with_reducible refine ext_set ?_ (by first | exact Nat.le_refl _ | (simp; done) | (simp; omega) | omega) _) | (with_reducible refine ext_trans ?_ (by assumption))))⟩
    case round =>
      obtain ⟨k, hk, rfl, hall, q2, hbw⟩ := hrel
      by_cases hkn : k < n
      · have y0 : wr.cell? ⟨b, off + k, none⟩ = some (.int .i64 (iv vs k)) := by rw [hbw.cell (by show b < _; omega)]; exact HX.out k hkn
        clear hc hf hb hz ht
        by_cases hr : k % m = 0
        · have hr2 := md_zero hr
          have hr3 : decide ((0 : Int) < (k : Int) % (m : Int)) = false := by simp; omega
          have hr4 : ¬ 0 < k % m := by omega
          by_cases hg : m ≤ k
          · have hgI : decide ((m : Int) ≤ (k : Int)) = true := by simp; omega
            have y2 : wr.cell? ⟨b, off + (k - m), none⟩ = some (.int .i64 (iv vs (k - m))) := by rw [hbw.cell (by show b < _; omega)]; exact HX.out (k - m) (by omega)
            by_cases hv2 : iv vs (k - m) ≤ iv vs k
            · have hok := Lib.hid (all_more hall.out (mn_yes (.inl hr) (.inr hv2)))
              clear hr
              go_wp2
              go_quiet (fail)
              go_wp2
              go_roundw
              case rel => exact ⟨k + 1, by omega, by go_num, hok, by (first | assumption | (simp [go_sem, *]; done)), by (repeat (first | (with_reducible exact Below.refl _ _) | (with_reducible assumption) | (with_reducible refine ext_alloc ?_ _) | (with_reducible refine ext_drew ?_) | (with_reducible refine ext_drewN ?_ _) | (with_reducible refine ext_set ?_ (by first | exact Nat.le_refl _ | (simp; done) | (simp; omega) | omega) _) | (with_reducible refine ext_trans ?_ (by assumption))))⟩
              case measure => simp [intOf]; omega
            · have hQ := Lib.hid (mon_bad (ss := ss) (ls := ls) (vs := vs) (k := k) (by have := HN.out; omega) (by rw [← HM.out]; exact mn_no2 hg (by omega)))
              clear hr
              go_wp2
              go_quiet (fail)
              go_wp2
              rw [hQ.out]
              go_ret
              exact ⟨rfl, by (repeat (first | (with_reducible exact Below.refl _ _) | (with_reducible assumption) | (with_reducible refine ext_alloc ?_ _) | (with_reducible refine ext_drew ?_) | (with_reducible refine ext_drewN ?_ _) | (with_reducible refine ext_set ?_ (by first | exact Nat.le_refl _ | (simp; done) | (simp; omega) | omega) _) | (with_reducible refine ext_trans ?_ (by assumption))))⟩
          · have hgI : decide ((m : Int) ≤ (k : Int)) = false := by simp; omega
            have hok := Lib.hid (all_more hall.out (mn_yes (vs := vs) (.inl hr) (.inl (by omega))))
            clear hr
            go_wp2
            go_quiet (fail)
            go_wp2
            go_roundw
            case rel => exact ⟨k + 1, by omega, by go_num, hok, by (first | assumption | (simp [go_sem, *]; done)), by (repeat (first | (with_reducible exact Below.refl _ _) | (with_reducible assumption) | (with_reducible refine ext_alloc ?_ _) | (with_reducible refine ext_drew ?_) | (with_reducible refine ext_drewN ?_ _) | (with_reducible refine ext_set ?_ (by first | exact Nat.le_refl _ | (simp; done) | (simp; omega) | omega) _) | (with_reducible refine ext_trans ?_ (by assumption))))⟩
            case measure => simp [intOf]; omega
        · obtain ⟨j, rfl⟩ : ∃ j, k = j + 1 := ⟨k - 1, by cases k with | zero => simp at hr | succ j => simp⟩
          have y1 : wr.cell? ⟨b, off + j, none⟩ = some (.int .i64 (iv vs j)) := by rw [hbw.cell (by show b < _; omega)]; exact HX.out j (by omega)
          have hr1 : 0 < (j + 1) % m := by omega
          have hr2 := md_pos hr1
          have hr3 : decide ((0 : Int) < ((j : Int) + 1) % (m : Int)) = true := by simp; exact hr2
          by_cases hv : iv vs j ≤ iv vs (j + 1)
          · have hvd : decide (iv vs (j + 1) < iv vs j) = false := by simp; omega
            by_cases hg : m ≤ j + 1
            · have hgI : decide ((m : Int) ≤ (j : Int) + 1) = true := by simp; omega
              have y2 : wr.cell? ⟨b, off + (j + 1 - m), none⟩ = some (.int .i64 (iv vs (j + 1 - m))) := by rw [hbw.cell (by show b < _; omega)]; exact HX.out (j + 1 - m) (by omega)
              by_cases hv2 : iv vs (j + 1 - m) ≤ iv vs (j + 1)
              · have hok := Lib.hid (all_more hall.out (mn_yes (.inr (by simpa using hv)) (.inr hv2)))
                clear hr
                go_wp2
                go_quiet (fail)
                go_wp2
                go_roundw
                case rel => exact ⟨j + 1 + 1, by omega, by go_num, hok, by (first | assumption | (simp [go_sem, *]; done)), by (repeat (first | (with_reducible exact Below.refl _ _) | (with_reducible assumption) | (with_reducible refine ext_alloc ?_ _) | (with_reducible refine ext_drew ?_) | (with_reducible refine ext_drewN ?_ _) | (with_reducible refine ext_set ?_ (by first | exact Nat.le_refl _ | (simp; done) | (simp; omega) | omega) _) | (with_reducible refine ext_trans ?_ (by assumption))))⟩
                case measure => simp [intOf]; omega
              · have hQ := Lib.hid (mon_bad (ss := ss) (ls := ls) (vs := vs) (k := j + 1) (by have := HN.out; omega) (by rw [← HM.out]; exact mn_no2 hg (by omega)))
                clear hr
                go_wp2
                go_quiet (fail)
                go_wp2
                rw [hQ.out]
                go_ret
                exact ⟨rfl, by (repeat (first | (with_reducible exact Below.refl _ _) | (with_reducible assumption) | (with_reducible refine ext_alloc ?_ _) | (with_reducible refine ext_drew ?_) | (with_reducible refine ext_drewN ?_ _) | (with_reducible refine ext_set ?_ (by first | exact Nat.le_refl _ | (simp; done) | (simp; omega) | omega) _) | (with_reducible refine ext_trans ?_ (by assumption))))⟩
            · have hgI : decide ((m : Int) ≤ (j : Int) + 1) = false := by simp; omega
              have hok := Lib.hid (all_more hall.out (mn_yes (.inr (by simpa using hv)) (.inl (by omega))))
              clear hr
              go_wp2
              go_quiet (fail)
              go_wp2
              go_roundw
              case rel => exact ⟨j + 1 + 1, by omega, by go_num, hok, by (first | assumption | (simp [go_sem, *]; done)), by (repeat (first | (with_reducible exact Below.refl _ _) | (with_reducible assumption) | (with_reducible refine ext_alloc ?_ _) | (with_reducible refine ext_drew ?_) | (with_reducible refine ext_drewN ?_ _) | (with_reducible refine ext_set ?_ (by first | exact Nat.le_refl _ | (simp; done) | (simp; omega) | omega) _) | (with_reducible refine ext_trans ?_ (by assumption))))⟩
              case measure => simp [intOf]; omega
          · have hQ := Lib.hid (mon_bad (ss := ss) (ls := ls) (vs := vs) (k := j + 1) (by have := HN.out; omega) (by rw [← HM.out]; exact mn_no1 hr (by simp; omega)))
            clear hr
            go_wp2
            go_quiet (fail)
            go_wp2
            rw [hQ.out]
            go_ret
            exact ⟨rfl, by (repeat (first | (with_reducible exact Below.refl _ _) | (with_reducible assumption) | (with_reducible refine ext_alloc ?_ _) | (with_reducible refine ext_drew ?_) | (with_reducible refine ext_drewN ?_ _) | (with_reducible refine ext_set ?_ (by first | exact Nat.le_refl _ | (simp; done) | (simp; omega) | omega) _) | (with_reducible refine ext_trans ?_ (by assumption))))⟩
      · obtain rfl : k = n := by omega
        have hQ := Lib.hid (mon_yes HT.out (by rw [← HN.out, ← HM.out]; exact hall.out))
        go_wp2
        rw [hQ.out]
        go_ret
        exact ⟨rfl, hbw⟩
theorem valueAt_any (v0 v1 v2 : Value) (ss ls vs : List Int) (a c : Int) (w : World) (h0 : IntS w w.heap.size v0 ss) (h1 : IntS w w.heap.size v1 ls) (h2 : IntS w w.heap.size v2 vs)
    (ha : 0 ≤ a) (hc : 0 ≤ c) (hi : a.toNat * ls.length + c.toNat < vs.length) :
    Calls Try.prog 68 #[.agg #[v0, v1, v2], .int .i64 a, .int .i64 c] w fun e w' => e = .returned (.int .i64 (iv vs (a.toNat * ls.length + c.toNat))) ∧ Below w.heap.size w w' := by
  obtain ⟨s, rfl⟩ := Int.eq_ofNat_of_zero_le ha
  obtain ⟨l, rfl⟩ := Int.eq_ofNat_of_zero_le hc
  rw [Int.toNat_natCast, Int.toNat_natCast] at hi ⊢
  obtain ⟨_, a0, c0, rfl, _⟩ := h0; obtain ⟨hm, a1, c1, rfl, _⟩ := h1; obtain ⟨hn, a2, c2, rfl, hx0⟩ := h2
  obtain ⟨b, off, rfl, hlt, hx⟩ := hx0 (by omega)
  clear hx0
  obtain ⟨n, hnn⟩ : ∃ n, n = vs.length := ⟨_, rfl⟩
  obtain ⟨m, hmm⟩ : ∃ m, m = ls.length := ⟨_, rfl⟩
  rw [← hnn] at hn hi hx ⊢
  rw [← hmm] at hi hm ⊢
  have hq' : (s : Int) * (m : Int) = ((s * m : Nat) : Int) := by simp
  obtain ⟨q, hq⟩ : ∃ q, q = s * m := ⟨_, rfl⟩
  rw [← hq] at hi hq' ⊢
  have y0 := hx (q + l) hi
  clear hx hnn hmm hq
  have hiI : (q : Int) + (l : Int) < (n : Int) := by omega
  have hiI0 : (0 : Int) ≤ (q : Int) + (l : Int) := by omega
  go_enter Try.func68, Try.ntmps68
  go_wp2
  go_ret
  exact ⟨rfl, by (repeat (first | (with_reducible exact Below.refl _ _) | (with_reducible assumption) | (with_reducible refine ext_alloc ?_ _) | (with_reducible refine ext_drew ?_) | (with_reducible refine ext_drewN ?_ _) | (with_reducible refine ext_set ?_ (by first | exact Nat.le_refl _ | (simp; done) | (simp; omega) | omega) _) | (with_reducible refine ext_trans ?_ (by assumption))))⟩
end Go.Proofs.Ytckccpcigkbfmaa
