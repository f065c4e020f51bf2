/-
The contract of the program's valuesAround, for all arguments within the table.
-/
import Derived.Test.YtckccpcigkbfmaaLookI
namespace Go.Proofs.Ytckccpcigkbfmaa
open Go.ChangeShapes Go.WideShapes Go.ChangeAt Go.RowKit
set_option linter.unusedVariables false
def Row4 (w : World) (g : Nat) (x0 x1 x2 x3 : Int) : Prop := w.cell? ⟨g, 0, none⟩ = some (.int .i64 x0) ∧ w.cell? ⟨g, 1, none⟩ = some (.int .i64 x1) ∧ w.cell? ⟨g, 2, none⟩ = some (.int .i64 x2) ∧ w.cell? ⟨g, 3, none⟩ = some (.int .i64 x3)
def Free4 (w : World) (g : Nat) : Prop := w.frozen? ⟨g, 0, none⟩ = false ∧ w.frozen? ⟨g, 1, none⟩ = false ∧ w.frozen? ⟨g, 2, none⟩ = false ∧ w.frozen? ⟨g, 3, none⟩ = false
theorem Row4.keep {w w1 : World} {g : Nat} {x0 x1 x2 x3 : Int} (h : Row4 w g x0 x1 x2 x3) (hb : Below w.heap.size w w1) : Row4 w1 g x0 x1 x2 x3 := ⟨cell_keep h.1 hb, cell_keep h.2.1 hb, cell_keep h.2.2.1 hb, cell_keep h.2.2.2 hb⟩
theorem Row4.other {w : World} {g g' o : Nat} {x0 x1 x2 x3 : Int} {v : Value} (h : Row4 w g x0 x1 x2 x3) (hg : g < g') : Row4 (w.setCell ⟨g', o, none⟩ v) g x0 x1 x2 x3 := ⟨cell_keep_set h.1 hg, cell_keep_set h.2.1 hg, cell_keep_set h.2.2.1 hg, cell_keep_set h.2.2.2 hg⟩
theorem Free4.keep {w w1 : World} {g : Nat} (h : Free4 w g) (hg : g < w.heap.size) (hb : Below w.heap.size w w1) : Free4 w1 g := by
  obtain ⟨h0, h1, h2, h3⟩ := h
  exact ⟨by rw [hb.frozen (by exact hg)]; exact h0, by rw [hb.frozen (by exact hg)]; exact h1, by rw [hb.frozen (by exact hg)]; exact h2, by rw [hb.frozen (by exact hg)]; exact h3⟩
theorem Free4.set {w : World} {g : Nat} {p : Addr} {v : Value} (h : Free4 w g) : Free4 (w.setCell p v) g := by
  obtain ⟨h0, h1, h2, h3⟩ := h
  exact ⟨by simp [go_sem, h0], by simp [go_sem, h1], by simp [go_sem, h2], by simp [go_sem, h3]⟩
/-- The blocks of a call of valuesAround: the table, both points, the result, the values so far. -/
def Ar (w wr : World) (v0 v1 v2 : Value) (i0 i1 a b k0 k1 c d x0 x1 x2 x3 : Int) : Prop :=
  Below w.heap.size w wr ∧ w.heap.size + 1 + 1 + 1 + 1 < wr.heap.size ∧ (wr.cell? ⟨w.heap.size, 0, none⟩ = some v0 ∧ wr.cell? ⟨w.heap.size, 1, none⟩ = some v1 ∧ wr.cell? ⟨w.heap.size, 2, none⟩ = some v2) ∧
  Row4 wr (w.heap.size + 1) i0 i1 a b ∧ Row4 wr (w.heap.size + 1 + 1) k0 k1 c d ∧ (Row4 wr (w.heap.size + 1 + 1 + 1) 0 0 0 0 ∧ Free4 wr (w.heap.size + 1 + 1 + 1)) ∧ Row4 wr (w.heap.size + 1 + 1 + 1 + 1) x0 x1 x2 x3 ∧ Free4 wr (w.heap.size + 1 + 1 + 1 + 1)
section
variable {w wr w1 : World} {v0 v1 v2 : Value} {i0 i1 a b k0 k1 c d x0 x1 x2 x3 : Int}
theorem Ar.keep (h : Ar w wr v0 v1 v2 i0 i1 a b k0 k1 c d x0 x1 x2 x3) (hb : Below wr.heap.size wr w1) : Ar w w1 v0 v1 v2 i0 i1 a b k0 k1 c d x0 x1 x2 x3 := by
  obtain ⟨h0, hz, ⟨h1, h2, h3⟩, h4, h5, ⟨h6, h7⟩, h8, h9⟩ := h
  exact ⟨ext_trans h0 hb, Nat.lt_of_lt_of_le hz hb.size, ⟨cell_keep h1 hb, cell_keep h2 hb, cell_keep h3 hb⟩, h4.keep hb, h5.keep hb, ⟨h6.keep hb, h7.keep (by omega) hb⟩, h8.keep hb, h9.keep (by omega) hb⟩
theorem Ar.drew (h : Ar w wr v0 v1 v2 i0 i1 a b k0 k1 c d x0 x1 x2 x3) : Ar w wr.drew v0 v1 v2 i0 i1 a b k0 k1 c d x0 x1 x2 x3 := h.keep (Below.refl _ _).drew
theorem Ar.set0 {y : Int} (h : Ar w wr v0 v1 v2 i0 i1 a b k0 k1 c d x0 x1 x2 x3) : Ar w (wr.setCell ⟨w.heap.size + 1 + 1 + 1 + 1, 0, none⟩ (.int .i64 y)) v0 v1 v2 i0 i1 a b k0 k1 c d y x1 x2 x3 := by
  obtain ⟨h0, hz, ⟨h1, h2, h3⟩, h4, h5, ⟨h6, h7⟩, ⟨g0, g1, g2, g3⟩, f⟩ := h
  have ff := f
  obtain ⟨f0, f1, f2, f3⟩ := f
  refine ⟨ext_set h0 (by show _ ≤ _ + 1 + 1 + 1 + 1; omega) _, by simpa [World.setCell] using hz, ⟨cell_keep_set h1 (by show _ < _ + 1 + 1 + 1 + 1; omega), cell_keep_set h2 (by show _ < _ + 1 + 1 + 1 + 1; omega), cell_keep_set h3 (by show _ < _ + 1 + 1 + 1 + 1; omega)⟩, h4.other (by omega), h5.other (by omega), ⟨h6.other (by omega), h7.set⟩, ?_, ff.set⟩
  exact ⟨by simp [go_sem, *], by simp [go_sem, *], by simp [go_sem, *], by simp [go_sem, *]⟩
theorem Ar.set1 {y : Int} (h : Ar w wr v0 v1 v2 i0 i1 a b k0 k1 c d x0 x1 x2 x3) : Ar w (wr.setCell ⟨w.heap.size + 1 + 1 + 1 + 1, 1, none⟩ (.int .i64 y)) v0 v1 v2 i0 i1 a b k0 k1 c d x0 y x2 x3 := by
  obtain ⟨h0, hz, ⟨h1, h2, h3⟩, h4, h5, ⟨h6, h7⟩, ⟨g0, g1, g2, g3⟩, f⟩ := h
  have ff := f
  obtain ⟨f0, f1, f2, f3⟩ := f
  refine ⟨ext_set h0 (by show _ ≤ _ + 1 + 1 + 1 + 1; omega) _, by simpa [World.setCell] using hz, ⟨cell_keep_set h1 (by show _ < _ + 1 + 1 + 1 + 1; omega), cell_keep_set h2 (by show _ < _ + 1 + 1 + 1 + 1; omega), cell_keep_set h3 (by show _ < _ + 1 + 1 + 1 + 1; omega)⟩, h4.other (by omega), h5.other (by omega), ⟨h6.other (by omega), h7.set⟩, ?_, ff.set⟩
  exact ⟨by simp [go_sem, *], by simp [go_sem, *], by simp [go_sem, *], by simp [go_sem, *]⟩
theorem Ar.set2 {y : Int} (h : Ar w wr v0 v1 v2 i0 i1 a b k0 k1 c d x0 x1 x2 x3) : Ar w (wr.setCell ⟨w.heap.size + 1 + 1 + 1 + 1, 2, none⟩ (.int .i64 y)) v0 v1 v2 i0 i1 a b k0 k1 c d x0 x1 y x3 := by
  obtain ⟨h0, hz, ⟨h1, h2, h3⟩, h4, h5, ⟨h6, h7⟩, ⟨g0, g1, g2, g3⟩, f⟩ := h
  have ff := f
  obtain ⟨f0, f1, f2, f3⟩ := f
  refine ⟨ext_set h0 (by show _ ≤ _ + 1 + 1 + 1 + 1; omega) _, by simpa [World.setCell] using hz, ⟨cell_keep_set h1 (by show _ < _ + 1 + 1 + 1 + 1; omega), cell_keep_set h2 (by show _ < _ + 1 + 1 + 1 + 1; omega), cell_keep_set h3 (by show _ < _ + 1 + 1 + 1 + 1; omega)⟩, h4.other (by omega), h5.other (by omega), ⟨h6.other (by omega), h7.set⟩, ?_, ff.set⟩
  exact ⟨by simp [go_sem, *], by simp [go_sem, *], by simp [go_sem, *], by simp [go_sem, *]⟩
theorem Ar.set3 {y : Int} (h : Ar w wr v0 v1 v2 i0 i1 a b k0 k1 c d x0 x1 x2 x3) : Ar w (wr.setCell ⟨w.heap.size + 1 + 1 + 1 + 1, 3, none⟩ (.int .i64 y)) v0 v1 v2 i0 i1 a b k0 k1 c d x0 x1 x2 y := by
  obtain ⟨h0, hz, ⟨h1, h2, h3⟩, h4, h5, ⟨h6, h7⟩, ⟨g0, g1, g2, g3⟩, f⟩ := h
  have ff := f
  obtain ⟨f0, f1, f2, f3⟩ := f
  refine ⟨ext_set h0 (by show _ ≤ _ + 1 + 1 + 1 + 1; omega) _, by simpa [World.setCell] using hz, ⟨cell_keep_set h1 (by show _ < _ + 1 + 1 + 1 + 1; omega), cell_keep_set h2 (by show _ < _ + 1 + 1 + 1 + 1; omega), cell_keep_set h3 (by show _ < _ + 1 + 1 + 1 + 1; omega)⟩, h4.other (by omega), h5.other (by omega), ⟨h6.other (by omega), h7.set⟩, ?_, ff.set⟩
  exact ⟨by simp [go_sem, *], by simp [go_sem, *], by simp [go_sem, *], by simp [go_sem, *]⟩
end
set_option maxHeartbeats 8000000 in
set_option maxRecDepth 100000 in
theorem around_c (v0 v1 v2 : Value) (i0 i1 a b k0 k1 c d V00 V01 V10 V11 : Int) (w : World)
    (h00 : ∀ w1, Below w.heap.size w w1 → Calls Try.prog 68 #[.agg #[v0, v1, v2], .int .i64 i0, .int .i64 k0] w1 fun e w' => e = .returned (.int .i64 V00) ∧ Below w1.heap.size w1 w')
    (h01 : ∀ w1, Below w.heap.size w w1 → Calls Try.prog 68 #[.agg #[v0, v1, v2], .int .i64 i0, .int .i64 k1] w1 fun e w' => e = .returned (.int .i64 V01) ∧ Below w1.heap.size w1 w')
    (h10 : ∀ w1, Below w.heap.size w w1 → Calls Try.prog 68 #[.agg #[v0, v1, v2], .int .i64 i1, .int .i64 k0] w1 fun e w' => e = .returned (.int .i64 V10) ∧ Below w1.heap.size w1 w')
    (h11 : ∀ w1, Below w.heap.size w w1 → Calls Try.prog 68 #[.agg #[v0, v1, v2], .int .i64 i1, .int .i64 k1] w1 fun e w' => e = .returned (.int .i64 V11) ∧ Below w1.heap.size w1 w') :
    Calls Try.prog 61 #[.agg #[v0, v1, v2], .agg #[.int .i64 i0, .int .i64 i1, .int .i64 a, .int .i64 b], .agg #[.int .i64 k0, .int .i64 k1, .int .i64 c, .int .i64 d]] w fun e w' => e = .returned (.agg #[.int .i64 V00, .int .i64 V01, .int .i64 V10, .int .i64 V11]) ∧ Below w.heap.size w w' := by
  have H00 := Lib.hid h00
  have H01 := Lib.hid h01
  have H10 := Lib.hid h10
  have H11 := Lib.hid h11
  clear h00 h01 h10 h11
  have ei0 : ∀ w, (Instr.index 88 (.agg #[.int .i64 i0, .int .i64 i1]) (.int .i64 0)).run Try.prog w = .ok (.int .i64 i0) w := fun _ => by kernel_rfl
  have ei1 : ∀ w, (Instr.index 88 (.agg #[.int .i64 i0, .int .i64 i1]) (.int .i64 1)).run Try.prog w = .ok (.int .i64 i1) w := fun _ => by kernel_rfl
  have ek0 : ∀ w, (Instr.index 88 (.agg #[.int .i64 k0, .int .i64 k1]) (.int .i64 0)).run Try.prog w = .ok (.int .i64 k0) w := fun _ => by kernel_rfl
  have ek1 : ∀ w, (Instr.index 88 (.agg #[.int .i64 k0, .int .i64 k1]) (.int .i64 1)).run Try.prog w = .ok (.int .i64 k1) w := fun _ => by kernel_rfl
  go_enter Try.func61, Try.ntmps61
  go_wp2_with fail
  go_loopw [14] (fun i wr => (i = .int .i64 0 ∧ Hid (Ar w wr v0 v1 v2 i0 i1 a b k0 k1 c d 0 0 0 0)) ∨ (i = .int .i64 1 ∧ Hid (Ar w wr v0 v1 v2 i0 i1 a b k0 k1 c d V00 V01 0 0)) ∨ (i = .int .i64 2 ∧ Hid (Ar w wr v0 v1 v2 i0 i1 a b k0 k1 c d V00 V01 V10 V11))) (fun i _ => 2 - (intOf i).toNat)
  case atStart => exact .inl ⟨rfl, Lib.hid ⟨by (repeat (first | (with_reducible exact Below.refl _ _) | (with_reducible assumption) | (with_reducible refine ext_alloc ?_ _) | (with_reducible refine ext_drew ?_) | (with_reducible refine ext_drewN ?_ _) | (with_reducible refine ext_set ?_ (by first | exact Nat.le_refl _ | (simp; done) | (simp; omega) | omega) _) | (with_reducible refine ext_trans ?_ (by assumption)))), (by first | (simp; done) | (simp; omega)), ⟨by simp [go_sem], by simp [go_sem], by simp [go_sem]⟩, ⟨by simp [go_sem], by simp [go_sem], by simp [go_sem], by simp [go_sem]⟩, ⟨by simp [go_sem], by simp [go_sem], by simp [go_sem], by simp [go_sem]⟩, ⟨⟨by simp [go_sem], by simp [go_sem], by simp [go_sem], by simp [go_sem]⟩, by simp [go_sem], by simp [go_sem], by simp [go_sem], by simp [go_sem]⟩, ⟨by simp [go_sem], by simp [go_sem], by simp [go_sem], by simp [go_sem]⟩, by simp [go_sem], by simp [go_sem], by simp [go_sem], by simp [go_sem]⟩⟩
  case round =>
    rcases hrel with ⟨rfl, AR⟩ | ⟨rfl, AR⟩ | ⟨rfl, AR⟩
    · obtain ⟨hB, hZ, ⟨t0, t1, t2⟩, ⟨r0, r1, r2, r3⟩, ⟨u0, u1, u2, u3⟩, _, ⟨x0, x1, x2, x3⟩, f0, f1, f2, f3⟩ := AR.out
      go_wp2_with fail
      have AR0 := AR; clear AR hB hZ t0 t1 t2 r0 r1 r2 r3 u0 u1 u2 u3 x0 x1 x2 x3 f0 f1 f2 f3
      go_loopw [20] (fun i wr => (i = .int .i64 0 ∧ Hid (Ar w wr v0 v1 v2 i0 i1 a b k0 k1 c d 0 0 0 0)) ∨ (i = .int .i64 1 ∧ Hid (Ar w wr v0 v1 v2 i0 i1 a b k0 k1 c d V00 0 0 0)) ∨ (i = .int .i64 2 ∧ Hid (Ar w wr v0 v1 v2 i0 i1 a b k0 k1 c d V00 V01 0 0))) (fun i _ => 2 - (intOf i).toNat)
      case atStart => exact .inl ⟨rfl, AR0⟩
      case round =>
        clear AR0
        rcases hrel with ⟨rfl, AR⟩ | ⟨rfl, AR⟩ | ⟨rfl, AR⟩
        · obtain ⟨hB, hZ, ⟨t0, t1, t2⟩, _, _, _, ⟨x0, x1, x2, x3⟩, f0, f1, f2, f3⟩ := AR.out
          have hz4 : w.heap.size + 1 + 1 + 1 + 1 < wr.heap.size := hZ
          go_wp2_with fail
          go_region_with (go_at_call 68; refine (H00.out _ (by (repeat (first | (with_reducible exact Below.refl _ _) | (with_reducible assumption) | (with_reducible refine ext_alloc ?_ _) | (with_reducible refine ext_drew ?_) | (with_reducible refine ext_drewN ?_ _) | (with_reducible refine ext_set ?_ (by first | exact Nat.le_refl _ | (simp; done) | (simp; omega) | omega) _) | (with_reducible refine ext_trans ?_ (by assumption)))))).mono ?_; rintro e w5 ⟨rfl, hb⟩; have A5 : Ar w w5 v0 v1 v2 i0 i1 a b k0 k1 c d 0 0 0 0 := (by first | exact AR.out.keep hb | exact AR.out.drew.keep hb); have AR5 := Lib.hid A5; obtain ⟨_, hz5, _, _, _, _, ⟨y0, y1, y2, y3⟩, d0, d1, d2, d3⟩ := A5)
          all_goals (go_wp2_with fail)
          all_goals go_roundw
          all_goals first | (show (_ : Nat) < _; simp [intOf]; done) | skip
          all_goals (refine .inr (.inl ⟨rfl, Lib.hid ?_⟩); exact Ar.set0 AR5.out)
        · obtain ⟨hB, hZ, ⟨t0, t1, t2⟩, _, _, _, ⟨x0, x1, x2, x3⟩, f0, f1, f2, f3⟩ := AR.out
          have hz4 : w.heap.size + 1 + 1 + 1 + 1 < wr.heap.size := hZ
          go_wp2_with fail
          go_region_with (go_at_call 68; refine (H01.out _ (by (repeat (first | (with_reducible exact Below.refl _ _) | (with_reducible assumption) | (with_reducible refine ext_alloc ?_ _) | (with_reducible refine ext_drew ?_) | (with_reducible refine ext_drewN ?_ _) | (with_reducible refine ext_set ?_ (by first | exact Nat.le_refl _ | (simp; done) | (simp; omega) | omega) _) | (with_reducible refine ext_trans ?_ (by assumption)))))).mono ?_; rintro e w5 ⟨rfl, hb⟩; have A5 : Ar w w5 v0 v1 v2 i0 i1 a b k0 k1 c d V00 0 0 0 := (by first | exact AR.out.keep hb | exact AR.out.drew.keep hb); have AR5 := Lib.hid A5; obtain ⟨_, hz5, _, _, _, _, ⟨y0, y1, y2, y3⟩, d0, d1, d2, d3⟩ := A5)
          all_goals (go_wp2_with fail)
          all_goals go_roundw
          all_goals first | (show (_ : Nat) < _; simp [intOf]; done) | skip
          all_goals (refine .inr (.inr ⟨rfl, Lib.hid ?_⟩); exact Ar.set1 AR5.out)
        · go_wp2_with fail
          go_roundw
          case rel => exact .inr (.inl ⟨rfl, AR⟩)
          case measure => simp [intOf]
    · obtain ⟨hB, hZ, ⟨t0, t1, t2⟩, ⟨r0, r1, r2, r3⟩, ⟨u0, u1, u2, u3⟩, _, ⟨x0, x1, x2, x3⟩, f0, f1, f2, f3⟩ := AR.out
      go_wp2_with fail
      have AR0 := AR; clear AR hB hZ t0 t1 t2 r0 r1 r2 r3 u0 u1 u2 u3 x0 x1 x2 x3 f0 f1 f2 f3
      go_loopw [20] (fun i wr => (i = .int .i64 0 ∧ Hid (Ar w wr v0 v1 v2 i0 i1 a b k0 k1 c d V00 V01 0 0)) ∨ (i = .int .i64 1 ∧ Hid (Ar w wr v0 v1 v2 i0 i1 a b k0 k1 c d V00 V01 V10 0)) ∨ (i = .int .i64 2 ∧ Hid (Ar w wr v0 v1 v2 i0 i1 a b k0 k1 c d V00 V01 V10 V11))) (fun i _ => 2 - (intOf i).toNat)
      case atStart => exact .inl ⟨rfl, AR0⟩
      case round =>
        clear AR0
        rcases hrel with ⟨rfl, AR⟩ | ⟨rfl, AR⟩ | ⟨rfl, AR⟩
        · obtain ⟨hB, hZ, ⟨t0, t1, t2⟩, _, _, _, ⟨x0, x1, x2, x3⟩, f0, f1, f2, f3⟩ := AR.out
          have hz4 : w.heap.size + 1 + 1 + 1 + 1 < wr.heap.size := hZ
          go_wp2_with fail
          go_region_with (go_at_call 68; refine (H10.out _ (by (repeat (first | (with_reducible exact Below.refl _ _) | (with_reducible assumption) | (with_reducible refine ext_alloc ?_ _) | (with_reducible refine ext_drew ?_) | (with_reducible refine ext_drewN ?_ _) | (with_reducible refine ext_set ?_ (by first | exact Nat.le_refl _ | (simp; done) | (simp; omega) | omega) _) | (with_reducible refine ext_trans ?_ (by assumption)))))).mono ?_; rintro e w5 ⟨rfl, hb⟩; have A5 : Ar w w5 v0 v1 v2 i0 i1 a b k0 k1 c d V00 V01 0 0 := (by first | exact AR.out.keep hb | exact AR.out.drew.keep hb); have AR5 := Lib.hid A5; obtain ⟨_, hz5, _, _, _, _, ⟨y0, y1, y2, y3⟩, d0, d1, d2, d3⟩ := A5)
          all_goals (go_wp2_with fail)
          all_goals go_roundw
          all_goals first | (show (_ : Nat) < _; simp [intOf]; done) | skip
          all_goals (refine .inr (.inl ⟨rfl, Lib.hid ?_⟩); exact Ar.set2 AR5.out)
        · obtain ⟨hB, hZ, ⟨t0, t1, t2⟩, _, _, _, ⟨x0, x1, x2, x3⟩, f0, f1, f2, f3⟩ := AR.out
          have hz4 : w.heap.size + 1 + 1 + 1 + 1 < wr.heap.size := hZ
          go_wp2_with fail
          go_region_with (go_at_call 68; refine (H11.out _ (by (repeat (first | (with_reducible exact Below.refl _ _) | (with_reducible assumption) | (with_reducible refine ext_alloc ?_ _) | (with_reducible refine ext_drew ?_) | (with_reducible refine ext_drewN ?_ _) | (with_reducible refine ext_set ?_ (by first | exact Nat.le_refl _ | (simp; done) | (simp; omega) | omega) _) | (with_reducible refine ext_trans ?_ (by assumption)))))).mono ?_; rintro e w5 ⟨rfl, hb⟩; have A5 : Ar w w5 v0 v1 v2 i0 i1 a b k0 k1 c d V00 V01 V10 0 := (by first | exact AR.out.keep hb | exact AR.out.drew.keep hb); have AR5 := Lib.hid A5; obtain ⟨_, hz5, _, _, _, _, ⟨y0, y1, y2, y3⟩, d0, d1, d2, d3⟩ := A5)
          all_goals (go_wp2_with fail)
          all_goals go_roundw
          all_goals first | (show (_ : Nat) < _; simp [intOf]; done) | skip
          all_goals (refine .inr (.inr ⟨rfl, Lib.hid ?_⟩); exact Ar.set3 AR5.out)
        · go_wp2_with fail
          go_roundw
          case rel => exact .inr (.inr ⟨rfl, AR⟩)
          case measure => simp [intOf]
    · obtain ⟨hB, hZ, ⟨t0, t1, t2⟩, _, _, ⟨⟨r0, r1, r2, r3⟩, g0, g1, g2, g3⟩, ⟨x0, x1, x2, x3⟩, f0, f1, f2, f3⟩ := AR.out
      go_wp2
      exact bodyPost_ret (v := .agg #[.int .i64 V00, .int .i64 V01, .int .i64 V10, .int .i64 V11]) (by simp [results, Try.results61, go_sem, *]) rfl ⟨rfl, by (repeat (first | (with_reducible exact Below.refl _ _) | (with_reducible assumption) | (with_reducible refine ext_alloc ?_ _) | (with_reducible refine ext_drew ?_) | (with_reducible refine ext_drewN ?_ _) | (with_reducible refine ext_set ?_ (by first | exact Nat.le_refl _ | (simp; done) | (simp; omega) | omega) _) | (with_reducible refine ext_trans ?_ (by assumption))))⟩
end Go.Proofs.Ytckccpcigkbfmaa
