/-
The program's lines of truth tables, for all lists of bits.
-/
import Derived.Test.YtmoolajapgacmaaGreatDoorLTI
import Derived.Laws.IdiomStrings
namespace Go.Proofs.YtmoolajapgacmaaGreatDoor
open Go.ChangeShapes Go.WideShapes Go.ChangeAt Go.RowKit
set_option linter.unusedVariables false
set_option linter.unusedSimpArgs false
set_option maxRecDepth 100000
/-- n bytes in block g, none frozen, of which the first k are the digits of xs. -/
def BRow (w : World) (g n k : Nat) (xs : List Int) : Prop :=
  g < w.heap.size ∧ (∀ j, j < n → w.frozen? ⟨g, j, none⟩ = false ∧ ∃ u, w.cell? ⟨g, j, none⟩ = some u) ∧ ∀ i, i < k → w.cell? ⟨g, i, none⟩ = some (.int .u8 (48 + iv xs i))
theorem BRow.store {w : World} {g n k : Nat} {xs : List Int} (h : BRow w g n k xs) (hk : k < n) : BRow (w.setCell ⟨g, k, none⟩ (.int .u8 (48 + iv xs k))) g n (k + 1) xs := by
  obtain ⟨h0, h1, h2⟩ := h
  obtain ⟨u0, e0⟩ := (h1 k hk).2
  refine ⟨by simpa [World.setCell] using h0, fun j hj => ⟨by simp [(h1 j hj).1], ?_⟩, fun i hi => ?_⟩
  · by_cases a : j = k
    · subst a; exact ⟨_, cs_same e0⟩
    · rw [cs_other (by omega)]; exact (h1 j hj).2
  · by_cases e : i = k
    · subst e; exact cs_same e0
    · rw [cs_other (by omega)]; exact h2 i (by omega)
theorem Tryz.infoByteB : (Tryz.prog.info? 5).map (fun i => (i.zero, i.size, i.bytes)) = some (some (.int .u8 0), 1, 1) := by kernel_rfl
set_option maxHeartbeats 1000000 in
theorem implTruT_any (v : Value) (xs : List Int) (w : World) (h : IntS w w.heap.size v xs) (hp : 0 < xs.length) (hm : xs.length ≤ 16) (hx : ∀ i, i < xs.length → 0 ≤ iv xs i ∧ iv xs i ≤ 1) : Calls Tryz.prog 65 #[v] w (Says (truL xs) w) := by
  obtain ⟨i0, hi, hz0, hz1, hz2⟩ := info_parts Tryz.infoByteB
  obtain ⟨hn, a, cap, rfl, hx0⟩ := h
  obtain ⟨b, off, rfl, hlt, hx1⟩ := hx0 hp
  have HX := Lib.hid hx1
  have HB := Lib.hid hx
  clear hx0 hx1 hx
  go_enter Tryz.func65, Tryz.ntmps65
  go_wp2_with (at_make; refine wpList_make_full _ rfl _ _ 22 rfl w.heap.size 5 i0 (.int .u8 0) 1 Tryz.underlying22 hi hz0 hz1 .i64 .i64 _ _ xs.length rfl rfl rfl rfl (by rw [hz2]; omega) (by unfold maxLen; omega) (Nat.le_refl _) ?_; intro w0 hown0 hgrow0; have hb0 := below_grown hgrow0; clear hgrow0)
  have hr0 : BRow w0 w.heap.size xs.length 0 xs := by
    rcases IRow.made (xs := xs) hown0 with hr | hr
    · exact ⟨hr.1, hr.2.1, fun i hi => absurd hi (Nat.not_lt_zero _)⟩
    · omega
  have B0 := Lib.hid hb0
  clear hown0 hb0
  go_loopw [11] (fun i wr => ∃ k : Nat, k ≤ xs.length ∧ i = .int .i64 k ∧ Hid (BRow wr w.heap.size xs.length k xs) ∧ Hid (Below w.heap.size w wr)) (fun i _ => xs.length - (intOf i).toNat)
  case atStart => exact ⟨0, by omega, rfl, Lib.hid hr0, B0⟩
  case round =>
    clear hr0 B0
    obtain ⟨k, hk, rfl, hr, hbw⟩ := hrel
    have hb1 := hbw.out
    by_cases hkn : k < xs.length
    · have y0 : wr.cell? ⟨b, off + k, none⟩ = some (.int .i64 (iv xs k)) := by rw [hb1.cell (by show b < _; omega)]; exact HX.out k hkn
      have ⟨v0, v1⟩ := HB.out k hkn
      obtain ⟨u0, e0⟩ := (hr.out.2.1 k (by omega)).2
      have f0 := (hr.out.2.1 k (by omega)).1
      have hrs := Lib.hid (hr.out.store hkn)
      have hI : (k : Int) < (xs.length : Int) := by omega
      have i0 : (0 : Int) ≤ (k : Int) := by omega
      have q1 : IntKind.u8.wrap (iv xs k) = iv xs k := by simp [IntKind.wrap, IntKind.signed, IntKind.bits]; omega
      have q2 : IntKind.u8.wrap (48 + iv xs k) = 48 + iv xs k := by simp [IntKind.wrap, IntKind.signed, IntKind.bits]; omega
      clear hr hb1
      go_wp2
      go_roundw
      case rel => exact ⟨k + 1, by omega, by go_num, hrs, Lib.hid (ext_set hbw.out (Nat.le_refl _) _)⟩
      case measure => simp [intOf]; omega
    · obtain rfl : k = xs.length := by omega
      have hcv : (convert 22 9 (.slice (some ⟨w.heap.size, 0, none⟩) xs.length xs.length)).run Tryz.prog wr = .ok (.string (bstr (xs.map dig))) wr := by
        have h := run_convert_bytes_back (P := Tryz.prog) wr 22 9 5 ⟨w.heap.size, 0, none⟩ xs.length (xs.map dig) Tryz.underlying22 Tryz.underlying5 Tryz.underlying9 (fun j hj => by
          have hj1 : j < xs.length := by simpa using hj
          have := hr.out.2.2 j hj1
          have ⟨v0, v1⟩ := HB.out j hj1
          have e : ((xs.map dig)[j].toNat : Int) = 48 + iv xs j := by
            have e1 : iv xs j = xs[j] := by simp [iv, List.getD, hj1]
            rw [e1] at v0 v1 ⊢
            simp only [List.getElem_map, dig]
            rw [UInt8.toNat_ofNat_of_lt' (by show _ < 256; omega)]
            omega
          rw [e]
          rw [Go.WideShapes.add_plain, Nat.zero_add]
          exact this)
        rw [List.length_map] at h
        exact h
      have hts : (bstr (xs.map dig)).size ≤ 16 := by rw [bstr_size, List.length_map]; exact hm
      obtain ⟨TS, hTS⟩ : ∃ TS, TS = bstr (xs.map dig) := ⟨_, rfl⟩
      rw [← hTS] at hcv hts
      have su1a : 6 + TS.size ≤ 9223372036854775807 := by omega
      have su1b : ¬ 9223372036854775807 < 6 + TS.size := by omega
      have su1c : ¬ (9223372036854775807 : Int) < 6 + ((TS.size : Nat) : Int) := by omega
      have HTS := Lib.hid hTS
      clear hTS hr
      go_wp2
      go_ret
      exact says (by rw [HTS.out]; simp [truL, bstr]) hbw.out
end Go.Proofs.YtmoolajapgacmaaGreatDoor
