/-
Contracts of the draws of spans of chapter 1 and of the laws' helpers 'other' and 'w5Sum'.
-/
import Derived.Test.YtocoolafnciniaaDraw
import Derived.Test.YtocoolafnciniaaHull
import Derived.OwnWalk
import Derived.Laws.AppendOwnNone
namespace Go.Proofs.Ytocoolafnciniaa
open Go.ChangeShapes Go.WideShapes Go.ChangeAt Go.RowKit Go.Deep
set_option linter.unusedVariables false
/-- A drawn span: its values are near the times. -/
def SpanP (g : Nat) (w : World) (e : Ending) (w' : World) : Prop := ∃ a b : Int, (-2000000000 ≤ a ∧ a ≤ 2000000000) ∧ (-2000000000 ≤ b ∧ b ≤ 2000000000) ∧ e = .returned (.agg #[.int .i64 a, .int .i64 b]) ∧ Src w' g ∧ Chg g w w'
theorem drawSpan_any (g : Nat) (w : World) (h : Src w g) : Calls Try.prog 41 #[.pointer (some ⟨g, 0, none⟩)] w (SpanP g w) := by
  have hgs := h.lt
  have hne : w.heap.size ≠ g := by omega
  have hs2' := Lib.hid h
  clear h
  go_enter Try.func41, Try.ntmps41
  go_wp2_with fail
  go_at_call 43
  refine (time_any _ _ (Src.alloc hs2'.out _ _)).mono ?_
  rintro e w1 ⟨t, ht0, ht1, rfl, hs2, ho2⟩
  have hs2' := Lib.hid hs2
  have ⟨hc, hf⟩ := chgcell ho2
  have hz := ho2.size
  simp at hz
  have z0 : w.heap.size < w1.heap.size := by omega
  clear hs2
  go_wp2_with fail
  go_at_call 34
  refine (next_any _ _ _ hs2'.out (by omega) (by omega)).mono ?_
  rintro e w2 ⟨r1, hr0, hr1, rfl, hs3, ho3⟩
  have hs3' := Lib.hid hs3
  have hoc := ocell ho3
  have hof := ofrozen ho3
  clear hs3
  go_wp2_with fail
  go_at_call 34
  refine (next_any _ _ _ hs3'.out (by omega) (by omega)).mono ?_
  rintro e w3 ⟨r2, hq0, hq1, rfl, hs4, ho4⟩
  have hs4' := Lib.hid hs4
  have hoc2 := ocell ho4
  have hof2 := ofrozen ho4
  clear hs4
  cases hr2 : (r2 == 0)
  · go_wp2
    exact bodyPost_ret (v := .agg #[.int .i64 t, .int .i64 (t + r1)]) (by simp [results, Try.results41, go_sem, hoc2, hoc, hc, hne]) rfl ⟨_, _, by omega, by omega, rfl, (hs4'.out.setOther hgs _).setOther hgs _, by (repeat (first | (with_reducible exact Chg.refl _ _) | (with_reducible assumption) | (with_reducible refine Chg.alloc ?_ _) | (with_reducible refine Chg.drew ?_) | (with_reducible refine Chg.drewN ?_ _) | (with_reducible refine Chg.setNew ?_ (by first | exact Nat.le_refl _ | (simp; done) | (simp; omega) | omega) _) | (with_reducible refine Chg.only ?_ (by assumption)) | (with_reducible refine Chg.trans ?_ (by assumption))))⟩
  · go_wp2
    exact bodyPost_ret (v := .agg #[.int .i64 t, .int .i64 (t - 1)]) (by simp [results, Try.results41, go_sem, hoc2, hoc, hc, hne]) rfl ⟨_, _, by omega, by omega, rfl, (hs4'.out.setOther hgs _).setOther hgs _, by (repeat (first | (with_reducible exact Chg.refl _ _) | (with_reducible assumption) | (with_reducible refine Chg.alloc ?_ _) | (with_reducible refine Chg.drew ?_) | (with_reducible refine Chg.drewN ?_ _) | (with_reducible refine Chg.setNew ?_ (by first | exact Nat.le_refl _ | (simp; done) | (simp; omega) | omega) _) | (with_reducible refine Chg.only ?_ (by assumption)) | (with_reducible refine Chg.trans ?_ (by assumption))))⟩
def Spans2 (w : World) (e : Ending) (w' : World) : Prop := ∃ a b c d : Int, (-2000000000 ≤ a ∧ a ≤ 2000000000) ∧ (-2000000000 ≤ b ∧ b ≤ 2000000000) ∧ (-2000000000 ≤ c ∧ c ≤ 2000000000) ∧ (-2000000000 ≤ d ∧ d ≤ 2000000000) ∧ e = .returned (.tuple #[.agg #[.int .i64 a, .int .i64 b], .agg #[.int .i64 c, .int .i64 d]]) ∧ Below w.heap.size w w'
theorem drawAddSpans_any (v : Value) (n : Nat) (w : World) (h : BytesAt w w.heap.size v n) : Calls Try.prog 15 #[v] w (Spans2 w) := by
  have h' := Lib.hid h
  clear h
  go_enter Try.func15, Try.ntmps15
  go_wp2_with fail
  go_at_call 33
  refine (from_any v n _ (h'.out.keep (by (repeat (first | (with_reducible exact Below.refl _ _) | (with_reducible assumption) | (with_reducible refine ext_alloc ?_ _) | (with_reducible refine ext_drew ?_) | (with_reducible refine ext_drewN ?_ _) | (with_reducible refine ext_set ?_ (by first | exact Nat.le_refl _ | (simp; done) | (simp; omega) | omega) _) | (with_reducible refine ext_trans ?_ (by assumption))))) (by simp; omega))).mono ?_
  rintro e w1 ⟨rfl, hs1, hb1⟩
  obtain ⟨g, hg⟩ : ∃ g, g = w.heap.size + 1 + 1 := ⟨_, rfl⟩
  have hsz : ((w.alloc (Obj.cells #[.int .i64 0, .int .i64 0] 29)).alloc (Obj.cells #[.int .i64 0, .int .i64 0] 29)).heap.size = g := by simp [hg]
  rw [hsz] at hs1 ⊢
  have hs1' := Lib.hid hs1
  have hgl := hs1.lt
  have ⟨hc1, hf1⟩ := bcell hb1
  have s0 := cell_keep (show ((w.alloc (Obj.cells #[.int .i64 0, .int .i64 0] 29)).alloc (Obj.cells #[.int .i64 0, .int .i64 0] 29)).cell? ⟨w.heap.size, 0, none⟩ = some (.int .i64 0) by simp [go_sem]) hb1
  have s1 := cell_keep (show ((w.alloc (Obj.cells #[.int .i64 0, .int .i64 0] 29)).alloc (Obj.cells #[.int .i64 0, .int .i64 0] 29)).cell? ⟨w.heap.size, 1, none⟩ = some (.int .i64 0) by simp [go_sem]) hb1
  have s2 := cell_keep (show ((w.alloc (Obj.cells #[.int .i64 0, .int .i64 0] 29)).alloc (Obj.cells #[.int .i64 0, .int .i64 0] 29)).cell? ⟨w.heap.size + 1, 0, none⟩ = some (.int .i64 0) by simp [go_sem]) hb1
  have s3 := cell_keep (show ((w.alloc (Obj.cells #[.int .i64 0, .int .i64 0] 29)).alloc (Obj.cells #[.int .i64 0, .int .i64 0] 29)).cell? ⟨w.heap.size + 1, 1, none⟩ = some (.int .i64 0) by simp [go_sem]) hb1
  have HG := Lib.hid hg
  have p0 : w.heap.size < g := by omega
  have p1 : w.heap.size + 1 < g := by omega
  have p2 : w.heap.size ≠ g := by omega
  have p3 : w.heap.size + 1 ≠ g := by omega
  have p4 : w.heap.size < w1.heap.size := by omega
  have p5 : w.heap.size + 1 < w1.heap.size := by omega
  clear hs1 hg hsz
  go_wp2_with fail
  go_at_call 41
  refine (drawSpan_any _ _ hs1'.out).mono ?_
  rintro e w2 ⟨a, b, ha, hb, rfl, hs2, ho2⟩
  have hs2' := Lib.hid hs2
  have ⟨hc2, hf2⟩ := chgcell ho2
  have t0 := cell_keep (ckeep_chg s0 ho2 p2) (ext_alloc (Below.refl _ _) (Obj.cells #[.int .i64 a, .int .i64 b] 29))
  have t1 := cell_keep (ckeep_chg s1 ho2 p2) (ext_alloc (Below.refl _ _) (Obj.cells #[.int .i64 a, .int .i64 b] 29))
  have t2 := cell_keep (ckeep_chg s2 ho2 p3) (ext_alloc (Below.refl _ _) (Obj.cells #[.int .i64 a, .int .i64 b] 29))
  have t3 := cell_keep (ckeep_chg s3 ho2 p3) (ext_alloc (Below.refl _ _) (Obj.cells #[.int .i64 a, .int .i64 b] 29))
  have hz2 := ho2.size
  have q0 : w.heap.size < w2.heap.size := by omega
  have q1 : w.heap.size + 1 < w2.heap.size := by omega
  have q2 := hs2.lt
  have q3 : w2.heap.size ≠ g := by omega
  have q4 : w.heap.size ≤ w2.heap.size := by omega
  clear hs2
  go_wp2_with fail
  go_region_with (go_at_call 41; refine (drawSpan_any _ _ (Src.drew (Src.alloc hs2'.out _ _))).mono ?_; rintro e w4 ⟨c, d, hc, hd, rfl, hs4, ho4⟩; have hs4' := Lib.hid hs4; have ⟨hc4, hf4⟩ := chgcell ho4; have u0 := ckeep_chgd t0 ho4 p2; have u1 := ckeep_chgd t1 ho4 p2; have u2 := ckeep_chgd t2 ho4 p3; have u3 := ckeep_chgd t3 ho4 p3; have hz4 := ho4.size; simp at hz4; have r0 : w2.heap.size < w4.heap.size := (by omega); have r1 : w.heap.size < w4.heap.size := (by omega); have r2 : w.heap.size + 1 < w4.heap.size := (by omega); clear hs4)
  all_goals go_wp2
  all_goals exact bodyPost_ret (v := .tuple #[.agg #[.int .i64 a, .int .i64 b], .agg #[.int .i64 c, .int .i64 d]]) (by simp [results, Try.results15, go_sem, *]) rfl ⟨a, b, c, d, ha, hb, by omega, by omega, rfl, by (repeat (first | (with_reducible exact Below.refl _ _) | (with_reducible assumption) | (with_reducible refine ext_alloc ?_ _) | (with_reducible refine ext_drew ?_) | (with_reducible refine ext_drewN ?_ _) | (with_reducible refine ext_set ?_ (by first | exact Nat.le_refl _ | (simp; done) | (simp; omega) | omega) _) | (with_reducible refine ext_trans ?_ (by assumption)) | (with_reducible refine ext_chg ?_ (by assumption) (by first | exact Nat.le_refl _ | omega)) | (with_reducible refine ext_only ?_ (by assumption) (by first | exact Nat.le_refl _ | omega))))⟩
theorem w5Sum_any (a b c d : Int) (w : World) : Calls Try.prog 21 #[.agg #[.int .i64 a, .int .i64 b], .agg #[.int .i64 c, .int .i64 d]] w fun e w' => e = .returned (.int .i64 (asC a b c d)) ∧ Below w.heap.size w w' := by
  go_enter Try.func21, Try.ntmps21
  go_wp2_with (go_at_call 26; refine (specAddSpans_any _ _ _ _ _).mono ?_; rintro e w1 ⟨rfl, hb⟩; obtain ⟨hc, hf⟩ := bcell hb; have hz := hb.size; (try simp at hz); (try (have hz := Nat.lt_of_succ_le hz)); (try (have y0 : w.heap.size ≤ w1.heap.size := by omega)); (try (have z0 : w.heap.size < w1.heap.size := by omega)); (try (have z1 : w.heap.size + 1 < w1.heap.size := by omega)); (try (have z2 : w.heap.size + 1 + 1 < w1.heap.size := by omega)); (try (have z3 : w.heap.size + 1 + 1 + 1 < w1.heap.size := by omega)); (try (have z4 : w.heap.size + 1 + 1 + 1 + 1 < w1.heap.size := by omega)); (try (have x0 : wc.heap.size < w1.heap.size := by omega)); (try (have x1 : wc.heap.size ≤ w1.heap.size := by omega)))
  go_ret
  exact ⟨rfl, by (repeat (first | (with_reducible exact Below.refl _ _) | (with_reducible assumption) | (with_reducible refine ext_alloc ?_ _) | (with_reducible refine ext_drew ?_) | (with_reducible refine ext_drewN ?_ _) | (with_reducible refine ext_set ?_ (by first | exact Nat.le_refl _ | (simp; done) | (simp; omega) | omega) _) | (with_reducible refine ext_trans ?_ (by assumption))))⟩
theorem bytes_of_row {w : World} {base : Nat} {e : TypeId} {v : Value} {n : Nat} {xs : List Value} (h : w.ownsRow base e 1 v n xs) (hn : 0 < n) (hm : n ≤ 9223372036854775807) (hx : ∀ u ∈ xs, ∃ c : Int, 0 ≤ c ∧ c ≤ 255 ∧ u = .int .u8 c) : BytesAt w w.heap.size v n := by
  have hlen := h.1
  have h' := h
  rcases h.2 with ⟨_, h0⟩ | ⟨g, cap, cur, rfl, _, hg, _⟩
  · omega
  · refine ⟨hm, .inr ⟨g, 0, cap, rfl, ?_, fun i hi => ?_⟩⟩
    · rcases Nat.lt_or_ge g w.heap.size with h1 | h1
      · exact h1
      · rw [Array.getElem?_eq_none h1] at hg
        cases hg
    · have hc := h'.cellAt i (by omega)
      have hi' : i < xs.length := by omega
      rw [List.getElem?_eq_getElem hi'] at hc
      obtain ⟨c, c0, c1, e1⟩ := hx _ (List.getElem_mem hi')
      exact ⟨c, c0, c1, by rw [Nat.zero_add, hc, e1]⟩
theorem src_cells {w : World} {b off n : Nat} {q : Nat → Int} (hq : ∀ i, i < n → 0 ≤ q i ∧ q i ≤ 255 ∧ w.cell? ⟨b, off + i, none⟩ = some (.int .u8 (q i))) (o : Obj) :
    ∀ j u, ((List.range n).map fun i => Value.int .u8 (q i))[j]? = some u → (w.alloc o).cell? ((⟨b, off, none⟩ : Addr).add j) = some u := by
  intro j u hj
  by_cases h : j < n
  · have e : u = Value.int .u8 (q j) := by simp [h] at hj; exact hj.symm
    rw [add_plain, e]
    exact cell_keep (hq j h).2.2 (ext_alloc (Below.refl _ _) o)
  · simp [h] at hj
def OtherP (w : World) (e : Ending) (w' : World) : Prop := ∃ (v : Value) (m : Nat), e = .returned v ∧ BytesAt w' w'.heap.size v m ∧ Below w.heap.size w w'
theorem Try.infoByte : (Try.prog.info? 5).map (fun i => (i.zero, i.size, i.bytes)) = some (some (.int .u8 0), 1, 1) := by kernel_rfl
theorem other_any (v : Value) (n : Nat) (k : Int) (w : World) (h : BytesAt w w.heap.size v n) (hn : n ≤ 4096) (hk : 0 ≤ k ∧ k ≤ 255) : Calls Try.prog 16 #[v, .int .u8 k] w (OtherP w) := by
  obtain ⟨_, h⟩ := h
  obtain ⟨i0, hi, hz0, hz1, hz2⟩ := info_parts Try.infoByte
  have k0 := hk.1
  have k1 := hk.2
  rcases h with ⟨rfl | ⟨ad, cap, rfl⟩, rfl⟩ | ⟨b, off, cap, rfl, hlt, hx⟩
  · go_enter Try.func16, Try.ntmps16
    go_wp2
    go_ret
    refine ⟨_, 3, rfl, bytes_of_row (World.ownsRow_lit w _ 3 (Nat.le_refl _) (by unfold maxLen; omega) rfl) (by omega) (by omega) ?_, by (repeat (first | (with_reducible exact Below.refl _ _) | (with_reducible assumption) | (with_reducible refine ext_alloc ?_ _) | (with_reducible refine ext_drew ?_) | (with_reducible refine ext_drewN ?_ _) | (with_reducible refine ext_set ?_ (by first | exact Nat.le_refl _ | (simp; done) | (simp; omega) | omega) _) | (with_reducible refine ext_trans ?_ (by assumption))))⟩
    intro u hu
    simp at hu
    rcases hu with rfl | rfl | rfl
    · exact ⟨_, k0, k1, rfl⟩
    · exact ⟨_, by omega, by omega, rfl⟩
    · exact ⟨_, by omega, by omega, rfl⟩
  · go_enter Try.func16, Try.ntmps16
    go_wp2
    go_ret
    refine ⟨_, 3, rfl, bytes_of_row (World.ownsRow_lit w _ 3 (Nat.le_refl _) (by unfold maxLen; omega) rfl) (by omega) (by omega) ?_, by (repeat (first | (with_reducible exact Below.refl _ _) | (with_reducible assumption) | (with_reducible refine ext_alloc ?_ _) | (with_reducible refine ext_drew ?_) | (with_reducible refine ext_drewN ?_ _) | (with_reducible refine ext_set ?_ (by first | exact Nat.le_refl _ | (simp; done) | (simp; omega) | omega) _) | (with_reducible refine ext_trans ?_ (by assumption))))⟩
    intro u hu
    simp at hu
    rcases hu with rfl | rfl | rfl
    · exact ⟨_, k0, k1, rfl⟩
    · exact ⟨_, by omega, by omega, rfl⟩
    · exact ⟨_, by omega, by omega, rfl⟩
  · obtain ⟨q, hq⟩ := choose_lt hx
    clear hx
    have HQ := Lib.hid hq
    clear hq
    go_enter Try.func16, Try.ntmps16
    go_wp2_with (at_builtin; refine wpList_append_own _ rfl _ _ 22 rfl w.heap.size 5 i0 (.int .u8 0) 1 1 Try.underlying22 hi hz0 hz1 hz2 rfl (by decide) (.slice (some ⟨w.heap.size, 0, none⟩) 3 3) 3 _ rfl (World.ownsRow_lit w _ 3 (Nat.le_refl _) (by unfold maxLen; omega) rfl) ⟨b, off, none⟩ n cap ((List.range n).map fun i => .int .u8 (q i)) rfl (by simp) (src_cells HQ.out _) (fun u hu => by obtain ⟨i, _, rfl⟩ := List.mem_map.mp hu; rfl) (by unfold maxLen; omega) (by omega) (by simp) ?_; intro v' w1 hown hgrow _)
    go_ret
    refine ⟨_, _, rfl, bytes_of_row hown (by omega) (by omega) ?_, ?_⟩
    · intro u hu
      simp at hu
      rcases hu with rfl | rfl | rfl | ⟨i, hin, rfl⟩
      · exact ⟨_, k0, k1, rfl⟩
      · exact ⟨_, by omega, by omega, rfl⟩
      · exact ⟨_, by omega, by omega, rfl⟩
      · exact ⟨_, (HQ.out i hin).1, (HQ.out i hin).2.1, rfl⟩
    · exact ((Below.refl _ _).alloc (Nat.le_refl _) _).grown hgrow (by simp) (fun k hk => Nat.le_of_eq (by simpa [Value.ownBlock] using hk))
end Go.Proofs.Ytocoolafnciniaa
