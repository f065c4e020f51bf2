/-
Contracts of the laws' own draws (roll, below): a number below n, and nothing that was there before has changed but the dice.
-/
import Derived.Test.YtckccpcigkbfmaaDraw
import Derived.Laws.Bits64b
namespace Go.Proofs.Ytckccpcigkbfmaa
open Go.ChangeShapes Go.WideShapes Go.ChangeAt Go.RowKit Go.Deep
set_option linter.unusedVariables false
set_option linter.unusedSimpArgs false
/-- Block g holds dice. -/
def Dice (w : World) (g : Nat) : Prop := ∃ (v : Value) (n : Nat) (k : Nat) (s : Int), BytesAt w g v n ∧ k ≤ n ∧ 0 ≤ s ∧ s ≤ 18446744073709551615 ∧ w.cell? ⟨g, 0, none⟩ = some v ∧ w.cell? ⟨g, 1, none⟩ = some (.int .i64 k) ∧ w.cell? ⟨g, 2, none⟩ = some (.int .u64 s) ∧
  w.frozen? ⟨g, 1, none⟩ = false ∧ w.frozen? ⟨g, 2, none⟩ = false ∧ g < w.heap.size
theorem Dice.lt {w : World} {g : Nat} (h : Dice w g) : g < w.heap.size := by
  obtain ⟨v, len, k, s, hv, hk, hs0, hs1, c0, c1, c2, f1, f2, hg⟩ := h
  exact hg
theorem Dice.below {w w' : World} {g : Nat} (h : Dice w g) (hb : Below w.heap.size w w') : Dice w' g := by
  obtain ⟨v, len, k, s, hv, hk, hs0, hs1, c0, c1, c2, f1, f2, hg⟩ := h
  exact ⟨v, len, k, s, hv.keep (hb.mono (Nat.le_of_lt hg)) (Nat.le_refl _), hk, hs0, hs1, cell_keep c0 hb, cell_keep c1 hb, cell_keep c2 hb, by rw [hb.frozen (by exact hg)]; exact f1, by rw [hb.frozen (by exact hg)]; exact f2, Nat.lt_of_lt_of_le hg hb.size⟩
theorem u64w (x : Int) : 0 ≤ IntKind.u64.wrap x ∧ IntKind.u64.wrap x ≤ 18446744073709551615 := by rw [IntKind.wrap_u64]; omega
theorem mask24 (x : Int) (h0 : 0 ≤ x) (h1 : x ≤ 18446744073709551615) : 0 ≤ bits .and .u64 x 16777215 ∧ bits .and .u64 x 16777215 ≤ 16777215 := by
  have h := bits_and_u64_nat x.toNat 16777215 (by omega) (by omega)
  rw [Int.toNat_of_nonneg h0] at h
  have h2 : x.toNat &&& 16777215 ≤ 16777215 := Nat.and_le_right
  have h3 : bits .and .u64 x 16777215 = ((x.toNat &&& 16777215 : Nat) : Int) := h
  omega
set_option maxHeartbeats 2000000 in
theorem roll_any (v : Value) (n : Nat) (sd : Int) (w : World) (h : BytesAt w w.heap.size v n) : Calls Try.prog 20 #[v, .int .u64 sd] w fun e w' => e = .returned (.pointer (some ⟨w.heap.size, 0, none⟩)) ∧ Dice w' w.heap.size ∧ Below w.heap.size w w' := by
  have h' := Lib.hid h
  obtain ⟨hn, h⟩ := h.parts
  rcases h with ⟨a, cap, rfl, rfl⟩ | ⟨b, off, cap, rfl, hlt, hx⟩
  · go_enter Try.func20, Try.ntmps20
    go_wp2
    go_loopw [6] (fun i wr => ∃ (s : Int), i = .int .i64 0 ∧ 0 ≤ s ∧ s ≤ 18446744073709551615 ∧ wr.cell? ⟨w.heap.size, 0, none⟩ = some (.slice a 0 cap) ∧ wr.cell? ⟨w.heap.size, 1, none⟩ = some (.int .i64 0) ∧ wr.cell? ⟨w.heap.size, 2, none⟩ = some (.int .u64 s) ∧
      wr.frozen? ⟨w.heap.size, 1, none⟩ = false ∧ wr.frozen? ⟨w.heap.size, 2, none⟩ = false ∧ w.heap.size < wr.heap.size ∧ Below w.heap.size w wr) (fun i _ => 0)
    case atStart =>
      exact ⟨_, rfl, (u64w _).1, (u64w _).2, by simp [go_sem], by simp [go_sem], by simp [go_sem]; rfl, by simp [go_sem], by simp [go_sem], by simp, by (repeat (first | (with_reducible exact Below.refl _ _) | (with_reducible assumption) | (with_reducible refine ext_alloc ?_ _) | (with_reducible refine ext_drew ?_) | (with_reducible refine ext_drewN ?_ _) | (with_reducible refine ext_set ?_ (by first | exact Nat.le_refl _ | (simp; done) | (simp; omega) | omega) _) | (with_reducible refine ext_trans ?_ (by assumption))))⟩
    case round =>
      obtain ⟨s, rfl, hs0, hs1, c0, c1, c2, f1, f2, hz, hbw⟩ := hrel
      go_wp2
      go_ret
      exact ⟨rfl, ⟨_, 0, 0, s, h'.out.keep hbw (Nat.le_refl _), by omega, hs0, hs1, c0, c1, c2, f1, f2, hz⟩, hbw⟩
  · go_enter Try.func20, Try.ntmps20
    go_wp2
    go_loopw [6] (fun i wr => ∃ (k : Nat) (s : Int), i = .int .i64 k ∧ k ≤ n ∧ 0 ≤ s ∧ s ≤ 18446744073709551615 ∧ wr.cell? ⟨w.heap.size, 0, none⟩ = some (.slice (some ⟨b, off, none⟩) n cap) ∧ wr.cell? ⟨w.heap.size, 1, none⟩ = some (.int .i64 0) ∧ wr.cell? ⟨w.heap.size, 2, none⟩ = some (.int .u64 s) ∧
      wr.frozen? ⟨w.heap.size, 1, none⟩ = false ∧ wr.frozen? ⟨w.heap.size, 2, none⟩ = false ∧ w.heap.size < wr.heap.size ∧ Below w.heap.size w wr) (fun i _ => n - (intOf i).toNat)
    case atStart =>
      exact ⟨0, _, rfl, by omega, (u64w _).1, (u64w _).2, by simp [go_sem], by simp [go_sem], by simp [go_sem]; rfl, by simp [go_sem], by simp [go_sem], by simp, by (repeat (first | (with_reducible exact Below.refl _ _) | (with_reducible assumption) | (with_reducible refine ext_alloc ?_ _) | (with_reducible refine ext_drew ?_) | (with_reducible refine ext_drewN ?_ _) | (with_reducible refine ext_set ?_ (by first | exact Nat.le_refl _ | (simp; done) | (simp; omega) | omega) _) | (with_reducible refine ext_trans ?_ (by assumption))))⟩
    case round =>
      obtain ⟨k, s, rfl, hk, hs0, hs1, c0, c1, c2, f1, f2, hz, hbw⟩ := hrel
      by_cases hlt : k < n
      · obtain ⟨c, hc0, hc1, hcell⟩ := hx k hlt
        have hce : wr.cell? ⟨b, off + k, none⟩ = some (.int .u8 c) := by rw [hbw.cell (by show b < _; omega)]; exact hcell
        have hne : w.heap.size ≠ b := by omega
        have hI : (k : Int) < (n : Int) := by omega
        have i0 : (0 : Int) ≤ (k : Int) := by omega
        clear hx hcell h'
        go_wp2
        go_region
        all_goals
          go_wp2
          go_roundw
          case rel =>
            refine ⟨k + 1, IntKind.u64.wrap (IntKind.u64.wrap (IntKind.u64.wrap (s * 1099511628211) + c) + 3), by go_num, by omega, (u64w _).1, (u64w _).2, ?_, ?_, ?_, ?_, ?_, ?_, ?_⟩
            all_goals first | (simp [go_sem, *]; done) | ((repeat (first | (with_reducible exact Below.refl _ _) | (with_reducible assumption) | (with_reducible refine ext_alloc ?_ _) | (with_reducible refine ext_drew ?_) | (with_reducible refine ext_drewN ?_ _) | (with_reducible refine ext_set ?_ (by first | exact Nat.le_refl _ | (simp; done) | (simp; omega) | omega) _) | (with_reducible refine ext_trans ?_ (by assumption)))); done)
          case measure => simp [intOf]; omega
      · obtain rfl : k = n := by omega
        have hI : ¬ (k : Int) < (k : Int) := by omega
        go_wp2
        go_ret
        exact ⟨rfl, ⟨_, k, 0, s, h'.out.keep hbw (Nat.le_refl _), by omega, hs0, hs1, c0, c1, c2, f1, f2, hz⟩, hbw⟩
/-- What below leaves: a number below n, and the dice of block g, which alone has changed. -/
def BelowP (g : Nat) (n : Int) (w : World) (e : Ending) (w' : World) : Prop := ∃ r : Int, 0 ≤ r ∧ r < n ∧ e = .returned (.int .i64 r) ∧ Dice w' g ∧ Only g w w'
theorem Dice.set {w : World} {g : Nat} {v : Value} {n k' : Nat} {s' : Int} (hv : BytesAt w g v n) (hk : k' ≤ n) (h0 : 0 ≤ s') (h1 : s' ≤ 18446744073709551615) (hg : g < w.heap.size) {w' : World} (ho : Only g w w') (e0 : w'.cell? ⟨g, 0, none⟩ = some v) (e1 : w'.cell? ⟨g, 1, none⟩ = some (.int .i64 k')) (e2 : w'.cell? ⟨g, 2, none⟩ = some (.int .u64 s'))
    (f1' : w'.frozen? ⟨g, 1, none⟩ = false) (f2' : w'.frozen? ⟨g, 2, none⟩ = false) : Dice w' g :=
  ⟨v, n, k', s', hv.keep (ho.below (Nat.le_refl _)) (Nat.le_refl _), hk, h0, h1, e0, e1, e2, f1', f2', by rw [ho.size]; exact hg⟩
set_option maxHeartbeats 4000000 in
theorem below_any (g : Nat) (n : Int) (w : World) (h : Dice w g) (hn1 : 1 ≤ n) (hn2 : n ≤ 2147483647) : Calls Try.prog 24 #[.pointer (some ⟨g, 0, none⟩), .int .i64 n] w (BelowP g n w) := by
  obtain ⟨v, len, k, s, hv, hk, hs0, hs1, c0, c1, c2, f1, f2, hg⟩ := h
  have hv' := Lib.hid hv
  obtain ⟨hl, hv⟩ := hv.parts
  have k0 : (0 : Int) ≤ (k : Int) := by omega
  have ⟨b0, b1⟩ := u64w (IntKind.u64.wrap (s * 6364136223846793005) + 1442695040888963407)
  have ⟨m0, m1⟩ := mask24 (IntKind.u64.wrap (IntKind.u64.wrap (s * 6364136223846793005) + 1442695040888963407) / 8589934592) (by omega) (by omega)
  obtain ⟨M, hM⟩ : ∃ M, IntKind.i64.wrap (bits .and .u64 (IntKind.u64.wrap (IntKind.u64.wrap (s * 6364136223846793005) + 1442695040888963407) / 8589934592) 16777215) = M := ⟨_, rfl⟩
  have hM2 := hM
  rw [IntWalk.i64_in _ (by omega)] at hM2
  rw [hM2] at m0 m1
  clear hM2 b0 b1
  have hn0 : ¬ n = 0 := by omega
  have hn0b : (n == 0) = false := by simpa using hn0
  rcases hv with ⟨a, cap, rfl, rfl⟩ | ⟨b, off, cap, rfl, hlt, hx⟩
  · have hk0 : k = 0 := by omega
    subst hk0
    go_enter Try.func24, Try.ntmps24
    go_wp2
    go_quiet (fail)
    go_wp2
    go_ret
    refine ⟨_, ?_, ?_, rfl, Dice.set (k' := 0) (s' := IntKind.u64.wrap (IntKind.u64.wrap (s * 6364136223846793005) + 1442695040888963407)) hv'.out (by omega) (u64w _).1 (u64w _).2 hg (by repeat (first | (with_reducible exact Only.refl _ _) | (with_reducible refine Only.setCell ?_ _ _) | (with_reducible refine Only.drewN ?_ _) | (with_reducible refine Only.drew ?_))) (by simp [go_sem, *]) (by simp [go_sem, *]) (by simp [go_sem, *]) (by simp [go_sem, *]) (by simp [go_sem, *]), (by repeat (first | (with_reducible exact Only.refl _ _) | (with_reducible refine Only.setCell ?_ _ _) | (with_reducible refine Only.drewN ?_ _) | (with_reducible refine Only.drew ?_)))⟩
    · exact Int.emod_nonneg _ (by omega)
    · exact Int.emod_lt_of_pos _ (by omega)

  · by_cases hkl : k < len
    · obtain ⟨c, hc0, hc1, hcell⟩ := hx k hkl
      have hI : (k : Int) < (len : Int) := by omega
      clear hx
      go_enter Try.func24, Try.ntmps24
      go_wp2
      go_quiet (fail)
      go_wp2
      go_quiet (fail)
      go_wp2
      go_ret
      refine ⟨_, ?_, ?_, rfl, Dice.set (k' := k + 1) (s' := IntKind.u64.wrap (IntKind.u64.wrap (s * 6364136223846793005) + 1442695040888963407)) hv'.out (by omega) (u64w _).1 (u64w _).2 hg (by repeat (first | (with_reducible exact Only.refl _ _) | (with_reducible refine Only.setCell ?_ _ _) | (with_reducible refine Only.drewN ?_ _) | (with_reducible refine Only.drew ?_))) (by simp [go_sem, *]) (by simp [go_sem, *]) (by simp [go_sem, *]) (by simp [go_sem, *]) (by simp [go_sem, *]), (by repeat (first | (with_reducible exact Only.refl _ _) | (with_reducible refine Only.setCell ?_ _ _) | (with_reducible refine Only.drewN ?_ _) | (with_reducible refine Only.drew ?_)))⟩
      · exact Int.emod_nonneg _ (by omega)
      · exact Int.emod_lt_of_pos _ (by omega)

    · have hI : ¬ (k : Int) < (len : Int) := by omega
      clear hx
      go_enter Try.func24, Try.ntmps24
      go_wp2
      go_quiet (fail)
      go_wp2
      go_ret
      refine ⟨_, ?_, ?_, rfl, Dice.set (k' := k) (s' := IntKind.u64.wrap (IntKind.u64.wrap (s * 6364136223846793005) + 1442695040888963407)) hv'.out (by omega) (u64w _).1 (u64w _).2 hg (by repeat (first | (with_reducible exact Only.refl _ _) | (with_reducible refine Only.setCell ?_ _ _) | (with_reducible refine Only.drewN ?_ _) | (with_reducible refine Only.drew ?_))) (by simp [go_sem, *]) (by simp [go_sem, *]) (by simp [go_sem, *]) (by simp [go_sem, *]) (by simp [go_sem, *]), (by repeat (first | (with_reducible exact Only.refl _ _) | (with_reducible refine Only.setCell ?_ _ _) | (with_reducible refine Only.drewN ?_ _) | (with_reducible refine Only.drew ?_)))⟩
      · exact Int.emod_nonneg _ (by omega)
      · exact Int.emod_lt_of_pos _ (by omega)

end Go.Proofs.Ytckccpcigkbfmaa
