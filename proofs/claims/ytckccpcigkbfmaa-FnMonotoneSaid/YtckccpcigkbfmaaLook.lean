/-
The contract of the model's LookUp, for all arguments.
-/
import Derived.Test.YtckccpcigkbfmaaMono
namespace Go.Proofs.Ytckccpcigkbfmaa
open Go.ChangeShapes Go.WideShapes Go.ChangeAt Go.RowKit
set_option linter.unusedVariables false
theorem lo_exists {xs : List Int} (h : axB xs = true) (x : Int) : ∃ i, IsLo xs (cl xs x) i := by
  have h0 := (ax_get h).1
  have hb := cl_bd h x
  have key : ∀ k, k < xs.length → (∃ i, IsLo xs (cl xs x) i) ∨ iv xs k ≤ cl xs x := by
    intro k
    induction k with
    | zero => intro _; exact .inr hb.1
    | succ k ih =>
      intro hk
      rcases ih (by omega) with h1 | h1
      · exact .inl h1
      · by_cases e : iv xs (k + 1) ≤ cl xs x
        · exact .inr e
        · exact .inl ⟨k, by omega, h1, fun _ => by omega⟩
  rcases key (xs.length - 1) (by omega) with h1 | h1
  · exact h1
  · exact ⟨xs.length - 1, by omega, h1, fun h => absurd h (by omega)⟩
/-- The sum of the four values around a point, each times its weight. -/
def lkS (ss ls vs : List Int) (x y : Int) (i k : Nat) : Int :=
  wA ss (cl ss x) i * wA ls (cl ls y) k * iv vs (i * ls.length + k) + wA ss (cl ss x) i * wB ls (cl ls y) k * iv vs (i * ls.length + up ls (cl ls y) k) +
  wB ss (cl ss x) i * wA ls (cl ls y) k * iv vs (up ss (cl ss x) i * ls.length + k) + wB ss (cl ss x) i * wB ls (cl ls y) k * iv vs (up ss (cl ss x) i * ls.length + up ls (cl ls y) k)
def lkW (ss ls : List Int) (x y : Int) (i k : Nat) : Int := (wA ss (cl ss x) i + wB ss (cl ss x) i) * (wA ls (cl ls y) k + wB ls (cl ls y) k)
theorem lo_next' {xs : List Int} (h : axB xs = true) {c : Int} {i : Nat} (hb : c ≤ iv xs (xs.length - 1)) (hi : IsLo xs c i) (hn : ¬ c = iv xs i) : i + 1 < xs.length := by
  obtain ⟨a0, a1, a2⟩ := hi
  apply Classical.byContradiction
  intro hc
  have : xs.length - 1 = i := by omega
  rw [this] at hb
  omega
theorem lo_gt {xs : List Int} (h : axB xs = true) {c : Int} {i q : Nat} (hi : IsLo xs c i) (h1 : i < q) (h2 : q < xs.length) : c < iv xs q := by
  have := hi.2.2 (by omega)
  have := ax_le h (i := i + 1) (j := q) (by omega) h2
  omega
set_option maxHeartbeats 2000000 in
theorem weights_c (v : Value) (xs : List Int) (x c : Int) (p : Nat) (w : World) (h : IntS w w.heap.size v xs) (ha : axB xs = true) (hc : c = cl xs x) (hp : IsLo xs c p) :
    Calls Try.prog 116 #[v, .int .i64 x] w fun e w' => e = .returned (.tuple #[.int .i64 p, .int .i64 (wA xs c p), .int .i64 (wB xs c p)]) ∧ ∃ n, w' = w.drewN n := by
  obtain ⟨hn, a, cap, rfl, hx0⟩ := h
  have ⟨n0, n4, hr, _⟩ := ax_get ha
  obtain ⟨b, off, rfl, hlt, hx⟩ := hx0 n0
  have HX := Lib.hid hx
  have HR := Lib.hid hr
  have y0 : w.cell? ⟨b, off, none⟩ = some (.int .i64 (iv xs 0)) := by simpa using hx 0 n0
  have yl := hx (xs.length - 1) (by omega)
  have hle := ax_le ha (i := 0) (j := xs.length - 1) (by omega) (by omega)
  have hlast : c ≤ iv xs (xs.length - 1) := by rw [hc]; exact (cl_bd ha x).2
  unfold cl at hc
  clear hx hx0 hr
  by_cases cA : x < iv xs 0
  · obtain rfl : c = iv xs 0 := by omega
    clear hc
    have HL := Lib.hid hp.2.1
    have HN := Lib.hid (fun e : ¬ iv xs 0 = iv xs p => lo_next' ha hlast hp e)
    have HG := Lib.hid (fun q (h1 : p < q) (h2 : q < xs.length) => lo_gt ha hp h1 h2)
    have ⟨hp0, _⟩ := hp
    clear hp
    clear hlast
    go_enter Try.func116, Try.ntmps116
    go_wp2_with fail
    go_loopw [8] (fun i wr => wr = w ∧ ∃ q : Nat, p ≤ q ∧ q < xs.length ∧ i = .int .i64 q) (fun i _ => (intOf i).toNat)
    case atStart => exact ⟨rfl, xs.length - 1, by omega, by omega, by go_num⟩
    case round =>
      obtain ⟨rfl, q, hpq, hq, rfl⟩ := hrel
      have yq := HX.out q hq
      have ⟨q0, q1⟩ := HR.out q hq
      by_cases e : q = p
      · subst e
        by_cases ec : iv xs 0 = iv xs q
        · have HA := Lib.hid (show wA xs (iv xs 0) q = 1 by unfold wA; rw [if_pos ec])
          have HB := Lib.hid (show wB xs (iv xs 0) q = 0 by unfold wB; rw [if_pos ec])
          have ecb : ((iv xs 0 : Int) == iv xs q) = true := by simpa using ec
          clear ec
          go_wp2
          go_ret3
          rw [HA.out, HB.out]
          exact ⟨rfl, 0, rfl⟩
        · have hq1 : q + 1 < xs.length := HN.out ec
          have HA := Lib.hid (show wA xs (iv xs 0) q = iv xs (q + 1) - iv xs 0 by unfold wA; rw [if_neg ec])
          have HB := Lib.hid (show wB xs (iv xs 0) q = iv xs 0 - iv xs q by unfold wB; rw [if_neg ec])
          have yq1 := HX.out (q + 1) hq1
          have ⟨q2, q3⟩ := HR.out (q + 1) hq1
          have hcq := HL.out
          have ecb : ((iv xs 0 : Int) == iv xs q) = false := by simpa using ec
          have hgt : iv xs q < iv xs 0 := by omega
          have hq1I : (q : Int) + 1 < (xs.length : Int) := by omega
          clear ec
          go_wp2
          go_quiet (fail)
          go_wp2
          go_ret3
          rw [HA.out, HB.out]
          exact ⟨rfl, nq, rfl⟩
      · obtain ⟨r, rfl⟩ : ∃ r, q = r + 1 := ⟨q - 1, by omega⟩
        have hlt3 := HG.out (r + 1) (by omega) hq
        have ecb : ((iv xs 0 : Int) == iv xs (r + 1)) = false := by simp; omega
        have ngt : ¬ iv xs (r + 1) < iv xs 0 := by omega
        go_wp2
        go_roundw
        case rel => exact ⟨trivial, r, by omega, by omega, by go_num⟩
        case measure => simp [intOf]
  · by_cases cB : x ≤ iv xs (xs.length - 1)
    · obtain rfl : c = x := by omega
      clear hc
      have HL := Lib.hid hp.2.1
      have HN := Lib.hid (fun e : ¬ c = iv xs p => lo_next' ha hlast hp e)
      have HG := Lib.hid (fun q (h1 : p < q) (h2 : q < xs.length) => lo_gt ha hp h1 h2)
      have ⟨hp0, _⟩ := hp
      clear hp
      clear hlast
      go_enter Try.func116, Try.ntmps116
      go_wp2_with fail
      go_loopw [8] (fun i wr => wr = w ∧ ∃ q : Nat, p ≤ q ∧ q < xs.length ∧ i = .int .i64 q) (fun i _ => (intOf i).toNat)
      case atStart => exact ⟨rfl, xs.length - 1, by omega, by omega, by go_num⟩
      case round =>
        obtain ⟨rfl, q, hpq, hq, rfl⟩ := hrel
        have yq := HX.out q hq
        have ⟨q0, q1⟩ := HR.out q hq
        by_cases e : q = p
        · subst e
          by_cases ec : c = iv xs q
          · have HA := Lib.hid (show wA xs (c) q = 1 by unfold wA; rw [if_pos ec])
            have HB := Lib.hid (show wB xs (c) q = 0 by unfold wB; rw [if_pos ec])
            have ecb : ((c : Int) == iv xs q) = true := by simpa using ec
            clear ec
            go_wp2
            go_ret3
            rw [HA.out, HB.out]
            exact ⟨rfl, 0, rfl⟩
          · have hq1 : q + 1 < xs.length := HN.out ec
            have HA := Lib.hid (show wA xs (c) q = iv xs (q + 1) - c by unfold wA; rw [if_neg ec])
            have HB := Lib.hid (show wB xs (c) q = c - iv xs q by unfold wB; rw [if_neg ec])
            have yq1 := HX.out (q + 1) hq1
            have ⟨q2, q3⟩ := HR.out (q + 1) hq1
            have hcq := HL.out
            have ecb : ((c : Int) == iv xs q) = false := by simpa using ec
            have hgt : iv xs q < c := by omega
            have hq1I : (q : Int) + 1 < (xs.length : Int) := by omega
            clear ec
            go_wp2
            go_quiet (fail)
            go_wp2
            go_ret3
            rw [HA.out, HB.out]
            exact ⟨rfl, nq, rfl⟩
        · obtain ⟨r, rfl⟩ : ∃ r, q = r + 1 := ⟨q - 1, by omega⟩
          have hlt3 := HG.out (r + 1) (by omega) hq
          have ecb : ((c : Int) == iv xs (r + 1)) = false := by simp; omega
          have ngt : ¬ iv xs (r + 1) < c := by omega
          go_wp2
          go_roundw
          case rel => exact ⟨trivial, r, by omega, by omega, by go_num⟩
          case measure => simp [intOf]
    · obtain rfl : c = iv xs (xs.length - 1) := by omega
      clear hc
      have HL := Lib.hid hp.2.1
      have HN := Lib.hid (fun e : ¬ iv xs (xs.length - 1) = iv xs p => lo_next' ha hlast hp e)
      have HG := Lib.hid (fun q (h1 : p < q) (h2 : q < xs.length) => lo_gt ha hp h1 h2)
      have ⟨hp0, _⟩ := hp
      clear hp
      clear hlast
      go_enter Try.func116, Try.ntmps116
      go_wp2_with fail
      go_loopw [8] (fun i wr => wr = w ∧ ∃ q : Nat, p ≤ q ∧ q < xs.length ∧ i = .int .i64 q) (fun i _ => (intOf i).toNat)
      case atStart => exact ⟨rfl, xs.length - 1, by omega, by omega, by go_num⟩
      case round =>
        obtain ⟨rfl, q, hpq, hq, rfl⟩ := hrel
        have yq := HX.out q hq
        have ⟨q0, q1⟩ := HR.out q hq
        by_cases e : q = p
        · subst e
          by_cases ec : iv xs (xs.length - 1) = iv xs q
          · have HA := Lib.hid (show wA xs (iv xs (xs.length - 1)) q = 1 by unfold wA; rw [if_pos ec])
            have HB := Lib.hid (show wB xs (iv xs (xs.length - 1)) q = 0 by unfold wB; rw [if_pos ec])
            have ecb : ((iv xs (xs.length - 1) : Int) == iv xs q) = true := by simpa using ec
            clear ec
            go_wp2
            go_ret3
            rw [HA.out, HB.out]
            exact ⟨rfl, 0, rfl⟩
          · have hq1 : q + 1 < xs.length := HN.out ec
            have HA := Lib.hid (show wA xs (iv xs (xs.length - 1)) q = iv xs (q + 1) - iv xs (xs.length - 1) by unfold wA; rw [if_neg ec])
            have HB := Lib.hid (show wB xs (iv xs (xs.length - 1)) q = iv xs (xs.length - 1) - iv xs q by unfold wB; rw [if_neg ec])
            have yq1 := HX.out (q + 1) hq1
            have ⟨q2, q3⟩ := HR.out (q + 1) hq1
            have hcq := HL.out
            have ecb : ((iv xs (xs.length - 1) : Int) == iv xs q) = false := by simpa using ec
            have hgt : iv xs q < iv xs (xs.length - 1) := by omega
            have hq1I : (q : Int) + 1 < (xs.length : Int) := by omega
            clear ec
            go_wp2
            go_quiet (fail)
            go_wp2
            go_ret3
            rw [HA.out, HB.out]
            exact ⟨rfl, nq, rfl⟩
        · obtain ⟨r, rfl⟩ : ∃ r, q = r + 1 := ⟨q - 1, by omega⟩
          have hlt3 := HG.out (r + 1) (by omega) hq
          have ecb : ((iv xs (xs.length - 1) : Int) == iv xs (r + 1)) = false := by simp; omega
          have ngt : ¬ iv xs (r + 1) < iv xs (xs.length - 1) := by omega
          go_wp2
          go_roundw
          case rel => exact ⟨trivial, r, by omega, by omega, by go_num⟩
          case measure => simp [intOf]
theorem weights_any (v : Value) (xs : List Int) (x : Int) (p : Nat) (w : World) (h : IntS w w.heap.size v xs) (ha : axB xs = true) (hp : IsLo xs (cl xs x) p) :
    Calls Try.prog 116 #[v, .int .i64 x] w fun e w' => e = .returned (.tuple #[.int .i64 p, .int .i64 (wA xs (cl xs x) p), .int .i64 (wB xs (cl xs x) p)]) ∧ ∃ n, w' = w.drewN n := weights_c v xs x _ p w h ha rfl hp
end Go.Proofs.Ytckccpcigkbfmaa
