/-
The contract of the model's DrawParseTime: a string of at most 2^20 bytes, and nothing that was there before has changed.
-/
import Derived.Test.YteflfmfcmdfenaaDoorDraw
import Derived.Test.YteflfmfcmdfenaaDoorTime
import Derived.Laws.IdiomStrings
import Derived.Laws.BytesArg
import Derived.Laws.AppendOwn
namespace Go.Proofs.YteflfmfcmdfenaaDoor
open Go.ChangeShapes Go.WideShapes Go.ChangeAt Go.RowKit Go.Deep
set_option linter.unusedVariables false
set_option maxRecDepth 100000
theorem fmtS_size (t : Int) : (fmtS t).size ≤ 42 := by
  unfold fmtS
  cases h : inB t (-1000000000) 1000000000
  · simp [ByteArray.size]
  · have ⟨i0, i1⟩ := inB_get h
    by_cases n : t < 0
    · have := fmtB_size (-t) (by omega) (by omega)
      have h1 : (ByteArray.mk #[45]).size = 1 := rfl
      simp [n, h1]
      omega
    · have := fmtB_size t (by omega) (by omega)
      simp [n]
      omega
theorem Src.keepB {w w' : World} {g : Nat} (h : Src w g) (hb : Below w.heap.size w w') : Src w' g := by
  obtain ⟨v, len, k, s, hv, hk, hs0, hs1, c0, c1, c2, f1, f2, hg⟩ := h
  exact ⟨v, len, k, s, hv.keep (hb.mono (Nat.le_of_lt hg)) (Nat.le_refl _), hk, hs0, hs1, cell_keep c0 hb, cell_keep c1 hb, cell_keep c2 hb, by rw [hb.frozen (by exact hg)]; exact f1, by rw [hb.frozen (by exact hg)]; exact f2, Nat.lt_of_lt_of_le hg hb.size⟩
theorem next_pos (g : Nat) (n : Int) (w : World) (h : Src w g) (hn1 : 1 ≤ n) (hn2 : n ≤ 2147483647) : Calls Tryd.prog 45 #[.pointer (some ⟨g, 0, none⟩), .int .i64 n] w (NextP g n w) := by
  by_cases hn : 1 < n
  · exact next_any g n w h hn hn2
  · have H := Lib.hid h
    clear h
    go_enter Tryd.func45, Tryd.ntmps45
    go_wp2
    go_ret
    exact ⟨0, by omega, by omega, rfl, H.out, Only.refl _ _⟩
/-- Block g holds n bytes that can be written. -/
def Bys (w : World) (g n : Nat) : Prop := ∀ i, i < n → (∃ c : Int, 0 ≤ c ∧ c ≤ 255 ∧ w.cell? ⟨g, i, none⟩ = some (.int .u8 c)) ∧ w.frozen? ⟨g, i, none⟩ = false
theorem Bys.only {w w' : World} {g g' n : Nat} (h : Bys w g n) (ho : Only g' w w') (hn : g ≠ g') : Bys w' g n := by
  intro i hi
  obtain ⟨⟨c, c0, c1, hc⟩, hf⟩ := h i hi
  exact ⟨⟨c, c0, c1, by rw [ho.cell (by exact hn)]; exact hc⟩, by rw [ho.frozen (by exact hn)]; exact hf⟩
theorem Bys.set {w : World} {g n q : Nat} {u : Int} (h : Bys w g n) (u0 : 0 ≤ u) (u1 : u ≤ 255) : Bys (w.setCell ⟨g, q, none⟩ (.int .u8 u)) g n := by
  intro i hi
  obtain ⟨⟨c, c0, c1, hc⟩, hf⟩ := h i hi
  refine ⟨?_, by simpa using hf⟩
  by_cases e : i = q
  · subst e
    exact ⟨u, u0, u1, by simp [go_sem, hc]⟩
  · exact ⟨c, c0, c1, by first | (simp [go_sem, hc]; done) | (simp [go_sem, hc]; omega)⟩
theorem bytes_of (s : ByteArray) (w : World) : ∃ cap W, (convert 9 22 (.string s)).run Tryd.prog w = .ok (.slice (some ⟨w.heap.size, 0, none⟩) s.size cap) W ∧ Below w.heap.size w W ∧ w.heap.size < W.heap.size ∧ Bys W w.heap.size s.size ∧ s.size ≤ cap := by
  refine ⟨_, _, run_bytes_of_string w 9 22 5 s Tryd.underlying9 Tryd.underlying22 Tryd.underlying5, ?_, ?_, ?_, grownCap_ge _ _ _ _⟩
  · exact ((Below.refl _ _).drew).alloc (Nat.le_refl _) _
  · simp
  · intro i hi
    refine ⟨⟨(s.data[i]'hi).toNat, by omega, ?_, ?_⟩, ?_⟩
    · have := (s.data[i]'hi).toNat_lt
      omega
    · have := World.cell?_alloc_mark w.drew (bytesRow s (grownCap w s.size 0 5)) 5 ((bytesRow s (grownCap w s.size 0 5)).size, (bytesRow s (grownCap w s.size 0 5)).size + 1) i
      exact this.trans (bytesRow_at s _ i hi)
    · have := World.frozen?_alloc_mark w.drew (bytesRow s (grownCap w s.size 0 5)) 5 (bytesRow s (grownCap w s.size 0 5)).size ((bytesRow s (grownCap w s.size 0 5)).size + 1) i
      refine this.trans ?_
      have h1 : i < (bytesRow s (grownCap w s.size 0 5)).size := by
        simp only [bytesRow, Array.size_append, Array.size_map]
        have : i < s.data.size := hi
        omega
      simp
      omega
theorem string_of {w : World} {g n : Nat} (h : Bys w g n) (cap : Nat) : ∃ s : ByteArray, s.size = n ∧ (convert 22 9 (.slice (some ⟨g, 0, none⟩) n cap)).run Tryd.prog w = .ok (.string s) w := by
  have h2 : ∀ i, ∃ c : Int, i < n → w.cell? ⟨g, i, none⟩ = some (.int .u8 c) := fun i => by
    by_cases hi : i < n
    · obtain ⟨⟨c, _, _, hc⟩, _⟩ := h i hi
      exact ⟨c, fun _ => hc⟩
    · exact ⟨0, fun h => absurd h hi⟩
  obtain ⟨f, hf⟩ := Classical.axiomOfChoice h2
  refine ⟨_, strOfNums_size _ |>.trans (by simp : ((List.range n).map f).length = n), ?_⟩
  refine run_convert_bytes_arg w 22 5 Tryd.underlying22 Tryd.underlying5 g 0 n cap ((List.range n).map f) (by simp) (fun i hi => ?_) 9 Tryd.underlying9
  have := hf i hi
  simp [List.getD, hi]
  exact this
set_option maxHeartbeats 2000000 in
theorem drawParse_any (v : Value) (n : Nat) (w : World) (h : BytesAt w w.heap.size v n) : Calls Tryd.prog 19 #[v] w fun e w' => (∃ s : ByteArray, s.size ≤ 1048576 ∧ e = .returned (.string s)) ∧ Below w.heap.size w w' := by
  have h' := Lib.hid h
  clear h
  go_enter Tryd.func19, Tryd.ntmps19
  go_wp2_with fail
  go_at_call 29
  refine (from_any v n _ h'.out).mono ?_
  rintro e w1 ⟨rfl, hs1, hb1⟩
  have S1 := Lib.hid hs1
  clear hs1
  go_wp2_with fail
  go_at_call 40
  refine (time_any _ _ S1.out).mono ?_
  rintro e w2 ⟨t, ht0, ht1, rfl, hs2, hc2⟩
  have hg2 := hs2.lt
  have S2 := Lib.hid hs2
  have B2 := Lib.hid (show Below w.heap.size w w2 from hb1.trans (hc2.below (Nat.le_refl _) hb1.size))
  clear hs2 hc2
  go_wp2_with fail
  go_at_call 44
  refine (specFormat_any t _).mono ?_
  rintro e w3 ⟨rfl, hb3⟩
  obtain ⟨cap, W, hconv, hbW, hlW, hby, hcap⟩ := bytes_of (fmtS t) w3
  have hz := fmtS_size t
  obtain ⟨s, hs⟩ : ∃ s, s = fmtS t := ⟨_, rfl⟩
  rw [← hs] at hconv hby hcap hz ⊢
  clear hs
  have hg3 : w.heap.size < w3.heap.size := Nat.lt_of_lt_of_le hg2 hb3.size
  have hne : w3.heap.size ≠ w.heap.size := by omega
  have S4 := Lib.hid ((S2.out.keepB hb3).keepB hbW)
  have B4 := Lib.hid (show Below w.heap.size w W from ext_trans (ext_trans B2.out hb3) hbW)
  have Y4 := Lib.hid hby
  clear hby hb3 hbW hb1
  go_wp2_with fail
  clear hconv
  go_at_call 45
  refine (next_any _ _ _ S4.out (by omega) (by omega)).mono ?_
  rintro e w5 ⟨r, hr0, hr1, rfl, hs5, ho5⟩
  have S5 := Lib.hid hs5
  have Y5 := Lib.hid (Y4.out.only ho5 hne)
  have B5 := Lib.hid (show Below w.heap.size w w5 from B4.out.trans (ho5.below (Nat.le_refl _)))
  clear hs5 ho5
  by_cases r0 : r = 0
  · subst r0
    by_cases hp : 0 < s.size
    · have hpI : (0 : Int) < (s.size : Int) := by omega
      go_wp2_with fail
      go_at_call 45
      refine (next_pos _ _ _ S5.out (by omega) (by omega)).mono ?_
      rintro e w6 ⟨r2, q0, q1, rfl, hs6, ho6⟩
      have S6 := Lib.hid hs6
      have Y6 := Lib.hid (Y5.out.only ho6 hne)
      have B6 := Lib.hid (show Below w.heap.size w w6 from B5.out.trans (ho6.below (Nat.le_refl _)))
      clear hs6 ho6
      obtain ⟨p, rfl⟩ : ∃ p : Nat, r2 = p := ⟨r2.toNat, by omega⟩
      go_wp2_with fail
      go_at_call 45
      refine (next_pos _ _ _ S6.out (by omega) (by omega)).mono ?_
      rintro e w7 ⟨r3, u0, u1, rfl, hs7, ho7⟩
      have Y7 := Lib.hid (Y6.out.only ho7 hne)
      have B7 := Lib.hid (show Below w.heap.size w w7 from B6.out.trans (ho7.below (Nat.le_refl _)))
      clear hs7 ho7
      obtain ⟨⟨c, c0, c1, hc⟩, hf⟩ := Y7.out p (by omega)
      have hpc : p < cap := by omega
      have hps : (p : Int) < (s.size : Int) := by omega
      rcases (show r3 = 0 ∨ r3 = 1 ∨ r3 = 2 ∨ r3 = 3 ∨ r3 = 4 ∨ r3 = 5 by omega) with rfl | rfl | rfl | rfl | rfl | rfl
      · obtain ⟨q, hq, hcv⟩ := string_of (Y7.out.set (q := p) (u := (((⟨#[48, 49, 50, 51, 46, 45]⟩ : ByteArray)[0]'(by decide)).toNat : Int)) (by decide) (by decide)) cap
        go_wp2
        go_ret
        exact ⟨⟨q, by omega, rfl⟩, B7.out.setCell (by show _ ≤ w3.heap.size; omega) _⟩
      · obtain ⟨q, hq, hcv⟩ := string_of (Y7.out.set (q := p) (u := (((⟨#[48, 49, 50, 51, 46, 45]⟩ : ByteArray)[1]'(by decide)).toNat : Int)) (by decide) (by decide)) cap
        go_wp2
        go_ret
        exact ⟨⟨q, by omega, rfl⟩, B7.out.setCell (by show _ ≤ w3.heap.size; omega) _⟩
      · obtain ⟨q, hq, hcv⟩ := string_of (Y7.out.set (q := p) (u := (((⟨#[48, 49, 50, 51, 46, 45]⟩ : ByteArray)[2]'(by decide)).toNat : Int)) (by decide) (by decide)) cap
        go_wp2
        go_ret
        exact ⟨⟨q, by omega, rfl⟩, B7.out.setCell (by show _ ≤ w3.heap.size; omega) _⟩
      · obtain ⟨q, hq, hcv⟩ := string_of (Y7.out.set (q := p) (u := (((⟨#[48, 49, 50, 51, 46, 45]⟩ : ByteArray)[3]'(by decide)).toNat : Int)) (by decide) (by decide)) cap
        go_wp2
        go_ret
        exact ⟨⟨q, by omega, rfl⟩, B7.out.setCell (by show _ ≤ w3.heap.size; omega) _⟩
      · obtain ⟨q, hq, hcv⟩ := string_of (Y7.out.set (q := p) (u := (((⟨#[48, 49, 50, 51, 46, 45]⟩ : ByteArray)[4]'(by decide)).toNat : Int)) (by decide) (by decide)) cap
        go_wp2
        go_ret
        exact ⟨⟨q, by omega, rfl⟩, B7.out.setCell (by show _ ≤ w3.heap.size; omega) _⟩
      · obtain ⟨q, hq, hcv⟩ := string_of (Y7.out.set (q := p) (u := (((⟨#[48, 49, 50, 51, 46, 45]⟩ : ByteArray)[5]'(by decide)).toNat : Int)) (by decide) (by decide)) cap
        go_wp2
        go_ret
        exact ⟨⟨q, by omega, rfl⟩, B7.out.setCell (by show _ ≤ w3.heap.size; omega) _⟩
    · have hpI : ¬ (0 : Int) < (s.size : Int) := by omega
      obtain ⟨q, hq, hcv⟩ := string_of Y5.out cap
      go_wp2
      go_ret
      exact ⟨⟨q, by omega, rfl⟩, B5.out⟩
  · have r0b : (r == 0) = false := by simpa using r0
    by_cases r1 : r = 1
    · subst r1
      go_wp2_with fail
      go_at_call 45
      refine (next_pos _ _ _ S5.out (by omega) (by omega)).mono ?_
      rintro e w6 ⟨r2, q0, q1, rfl, hs6, ho6⟩
      have Y6 := Lib.hid (Y5.out.only ho6 hne)
      have B6 := Lib.hid (show Below w.heap.size w w6 from B5.out.trans (ho6.below (Nat.le_refl _)))
      clear hs6 ho6
      obtain ⟨p, rfl⟩ : ∃ p : Nat, r2 = p := ⟨r2.toNat, by omega⟩
      have hpc : p ≤ cap := by omega
      have hpI : (p : Int) ≤ (cap : Int) := by omega
      obtain ⟨q, hq, hcv⟩ := string_of (fun i (hi : i < p) => Y6.out i (by omega)) cap
      go_wp2
      go_ret
      exact ⟨⟨q, by omega, rfl⟩, B6.out⟩
    · have r1b : (r == 1) = false := by simpa using r1
      obtain ⟨q, hq, hcv⟩ := string_of Y5.out cap
      go_wp2
      go_ret
      exact ⟨⟨q, by omega, rfl⟩, B5.out⟩
end Go.Proofs.YteflfmfcmdfenaaDoor
