/-
LinksOf of the program; lists of links as answers: compared, marked and held.
-/
import Derived.Test.YtmlbpfbdhhkfkaaGreatGraph
import Derived.Test.YtmlbpfbdhhkfkaaGreatMark
import Derived.Test.YtmlbpfbdhhkfkaaGreatMarkD
import Derived.Test.YtmlbpfbdhhkfkaaGreatCellE
namespace Go.Proofs.YtmlbpfbdhhkfkaaGreat
open Go.ChangeShapes Go.WideShapes Go.ChangeAt Go.RowKit Go.Deep
set_option linter.unusedVariables false
set_option linter.unusedSimpArgs false
set_option maxRecDepth 100000
def flatL (L : List LkD) : List Int := L.flatMap (fun l => [l.src, l.dst, l.kind, l.ix])
theorem flatL_len : ∀ L : List LkD, (flatL L).length = L.length * 4
 | [] => rfl
 | l :: L => by
  have := flatL_len L
  simp only [flatL] at this ⊢
  rw [List.flatMap_cons, List.length_append, this, List.length_cons]
  simp only [List.length_cons, List.length_nil]; omega
theorem flatL_map (L : List LkD) : (L.map lkC).flatten = (flatL L).map (Value.int .i64) := by
 induction L with
 | nil => rfl
 | cons l L ih => simp only [flatL] at ih ⊢; rw [List.map_cons, List.flatten_cons, ih, List.flatMap_cons, List.map_append]; rfl
theorem flatL_at : ∀ (L : List LkD) (i : Nat), i < L.length → iv (flatL L) (i * 4) = (lkn L i).src ∧ iv (flatL L) (i * 4 + 1) = (lkn L i).dst ∧ iv (flatL L) (i * 4 + 2) = (lkn L i).kind ∧ iv (flatL L) (i * 4 + 3) = (lkn L i).ix
 | [], i, h => absurd h (by simp)
 | l :: L, 0, _ => ⟨rfl, rfl, rfl, rfl⟩
 | l :: L, i + 1, h => by
  have := flatL_at L i (by simpa using h)
  have e : ∀ j, iv (flatL (l :: L)) ((i + 1) * 4 + j) = iv (flatL L) (i * 4 + j) := fun j => by
   have e1 : (i + 1) * 4 + j = 4 + (i * 4 + j) := by omega
   rw [e1]
   show List.getD ([l.src, l.dst, l.kind, l.ix] ++ flatL L) _ 0 = _
   rw [List.getD_eq_getElem?_getD, List.getElem?_append_right (by simp)]
   simp [iv, List.getD]
  have e0 := e 0
  simp only [Nat.add_zero] at e0
  exact ⟨e0.trans this.1, (e 1).trans this.2.1, (e 2).trans this.2.2.1, (e 3).trans this.2.2.2⟩
/-- A list of n elements of four numbers each, in memory of its own. -/
def OwnQ (w : World) (B : Nat) (v : Value) (n : Nat) (xs : List Int) : Prop :=
 n ≤ 1048576 ∧ ∃ a cap, v = .slice a n cap ∧ (0 < n → ∃ g, a = some ⟨g, 0, none⟩ ∧ B ≤ g ∧ g < w.heap.size ∧ ∀ i, i < n * 4 → w.cell? ⟨g, i, none⟩ = some (.int .i64 (iv xs i)) ∧ w.frozen? ⟨g, i, none⟩ = false)
theorem GL.q {w : World} {B : Nat} {v : Value} {L : List LkD} (h : GL w B v L) (hl : L.length ≤ 1048576) : OwnQ w B v L.length (flatL L) := by
 have e : (L.map lkC).length = L.length := List.length_map _
 obtain ⟨a, cap, hv⟩ := own_slice h.1
 rw [e] at hv
 refine ⟨hl, a, cap, hv, fun hp => ?_⟩
 have h1 := h.1
 rcases h1.2 with ⟨_, h0⟩ | ⟨g, cap', cur, hv', hb, hgg, _, _, _, _⟩
 ·omega
 ·have ea : a = some ⟨g, 0, none⟩ := by rw [hv] at hv'; simp only [Value.slice.injEq] at hv'; exact hv'.1
  rw [hv'] at h1
  refine ⟨g, ea, hb, (Array.getElem?_eq_some_iff.1 hgg).1, fun i hi => ⟨?_, World.ownsRow.frozenAt h1 i⟩⟩
  rw [World.ownsRow.cellAt h1 i (by omega), flatL_map]
  have hlen := flatL_len L
  simp [iv, List.getD, show i < (flatL L).length by omega]
theorem OwnQ.slice {w : World} {B n : Nat} {v : Value} {xs : List Int} (h : OwnQ w B v n xs) : ∃ p q, v = .slice p n q := by
 obtain ⟨_, a, cap, e, _⟩ := h
 exact ⟨a, cap, e⟩
theorem OwnQ.blk {w : World} {B n g : Nat} {v : Value} {xs : List Int} (h : OwnQ w B v n xs) (hb : Blk v g) : B ≤ g ∧ g < w.heap.size := by
 obtain ⟨_, a, cap, rfl, h⟩ := h
 obtain ⟨o, m, c, e, hm⟩ := hb
 simp only [Value.slice.injEq] at e
 obtain ⟨e1, e2, _⟩ := e
 obtain ⟨g', e', hB, hg, _⟩ := h (by omega)
 rw [e1] at e'
 simp only [Option.some.injEq, Addr.mk.injEq] at e'
 omega
theorem OwnQ.keep {w w' : World} {B n : Nat} {v : Value} {xs : List Int} (h : OwnQ w B v n xs) (hb : Below w.heap.size w w') : OwnQ w' B v n xs := by
 obtain ⟨h0, a, cap, e, h⟩ := h
 refine ⟨h0, a, cap, e, fun hp => ?_⟩
 obtain ⟨g, e', hB, hg, hx⟩ := h hp
 refine ⟨g, e', hB, Nat.lt_of_lt_of_le hg hb.size, fun i hi => ?_⟩
 rw [hb.cell (p := ⟨g, i, none⟩) hg, hb.frozen (p := ⟨g, i, none⟩) hg]
 exact hx i hi
theorem OwnQ.sk {L R B n : Nat} {a b : World} {v : Value} {xs : List Int} (h : OwnQ a B v n xs) (hs : Sk L R a b) (hB : R ≤ B) : OwnQ b B v n xs := by
 obtain ⟨h0, p, cap, e, h⟩ := h
 refine ⟨h0, p, cap, e, fun hp => ?_⟩
 obtain ⟨g, e', hg, hlt, hx⟩ := h hp
 refine ⟨g, e', hg, Nat.lt_of_lt_of_le hlt hs.size, fun i hi => ⟨?_, ?_⟩⟩
 ·exact hs.keepC (hx i hi).1 (.inr (by omega))
 ·exact (hs.froz g i hlt).trans (hx i hi).2
theorem OwnQ.lks {w : World} {B : Nat} {v : Value} {L : List LkD} (h : OwnQ w B v L.length (flatL L)) : LkS w w.heap.size v L := by
 obtain ⟨h0, a, cap, e, h⟩ := h
 refine ⟨fun i j => .int .i64 (iv (flatL L) (i * 4 + j)), ⟨by omega, a, cap, e, fun hp => ?_⟩, fun i hi => ?_⟩
 ·obtain ⟨g, e', _, hg, hx⟩ := h hp
  exact ⟨g, 0, e', hg, fun i hi j hj => by rw [Nat.zero_add]; exact (hx (i * 4 + j) (by omega)).1⟩
 ·obtain ⟨e0, e1, e2, e3⟩ := flatL_at L i hi
  exact ⟨by show Value.int .i64 (iv (flatL L) (i * 4 + 0)) = _; rw [Nat.add_zero, e0], by show Value.int .i64 (iv (flatL L) (i * 4 + 1)) = _; rw [e1], by show Value.int .i64 (iv (flatL L) (i * 4 + 2)) = _; rw [e2], by show Value.int .i64 (iv (flatL L) (i * 4 + 3)) = _; rw [e3]⟩
def LkV (f : Nat → Value) (l : LkD) : Prop := f 0 = .int .i64 l.src ∧ f 1 = .int .i64 l.dst ∧ f 2 = .int .i64 l.kind ∧ f 3 = .int .i64 l.ix
theorem eqLink_same (f g : Nat → Value) (p : LkD) (w : World) (h : LkV f p) (h' : LkV g p) : Calls Tryz.prog 47 #[.agg #[f 0, f 1, f 2, f 3], .agg #[g 0, g 1, g 2, g 3]] w fun e w' => e = .returned (.bool true) ∧ Below w.heap.size w w' := by
 obtain ⟨e0, e1, e2, e3⟩ := h
 obtain ⟨g0, g1, g2, g3⟩ := h'
 rw [e0, e1, e2, e3, g0, g1, g2, g3]
 clear e0 e1 e2 e3 g0 g1 g2 g3
 go_enter Tryz.func47, Tryz.ntmps47
 go_wp2
 go_ret
 exact ⟨rfl, eX⟩
set_option maxHeartbeats 1000000 in
theorem eqLinks_same (v u : Value) (ts : List LkD) (w : World) (h : LkS w w.heap.size v ts) (h' : LkS w w.heap.size u ts) : Calls Tryz.prog 15 #[v, u] w fun e w' => e = .returned (.bool true) ∧ Below w.heap.size w w' := by
 obtain ⟨F, hc, hf⟩ := h
 obtain ⟨G, hc', hf'⟩ := h'
 obtain ⟨n, hnn⟩ : ∃ n, n = ts.length := ⟨_, rfl⟩
 rw [← hnn] at hc hf hc' hf'
 have HC := hc; have HC' := hc'
 obtain ⟨hn, a, cap, rfl, _⟩ := hc
 obtain ⟨_, a', cap', rfl, _⟩ := hc'
 have HC := Lib.hid HC; have HF := Lib.hid hf; have HC' := Lib.hid HC'; have HF' := Lib.hid hf'
 clear hf hf' hnn
 go_enter Tryz.func15, Tryz.ntmps15
 go_wp2
 go_loopw [5] (fun i wr => ∃ k : Nat, k ≤ n ∧ i = .int .i64 k ∧ Below w.heap.size w wr) (fun i _ => n - (intOf i).toNat)
 case atStart => exact ⟨0, by omega, rfl, eX⟩
 case round =>
  obtain ⟨k, hk, rfl, hbw⟩ := hrel
  by_cases hkn : k < n
  ·obtain ⟨b, off, rfl, hlt, hx⟩ := HC.out.at hbw hkn
   obtain ⟨b', off', rfl, hlt', hx'⟩ := HC'.out.at hbw hkn
   have y0 := hx 0 (by omega)
   have y1 := hx 1 (by omega)
   have y2 := hx 2 (by omega)
   have y3 := hx 3 (by omega)
   have z0 := hx' 0 (by omega)
   have z1 := hx' 1 (by omega)
   have z2 := hx' 2 (by omega)
   have z3 := hx' 3 (by omega)
   simp only [Nat.add_zero] at y0 z0
   have i0 : (0 : Int) ≤ (k : Int) := by omega
   have i1 : (k : Int) < (n : Int) := by omega
   have hbs : b < wr.heap.size := by have := hbw.size; omega
   clear hx hx'
   go_wp2
   go_region_held3 (fun w' => w'.cell? ⟨b, off + k * 4, none⟩ = some (F k 0) ∧ w'.cell? ⟨b, off + k * 4 + 1, none⟩ = some (F k 1) ∧ w'.cell? ⟨b, off + k * 4 + 2, none⟩ = some (F k 2) ∧ w'.cell? ⟨b, off + k * 4 + 3, none⟩ = some (F k 3) ∧ w'.cell? ⟨b', off' + k * 4, none⟩ = some (G k 0) ∧ w'.cell? ⟨b', off' + k * 4 + 1, none⟩ = some (G k 1) ∧ w'.cell? ⟨b', off' + k * 4 + 2, none⟩ = some (G k 2) ∧ w'.cell? ⟨b', off' + k * 4 + 3, none⟩ = some (G k 3) ∧ Below w.heap.size w w' ∧ b < w'.heap.size) (first | exact (Hid.out (by assumption)) | exact keep8 (Hid.out (by assumption)) ((Below.refl _ _).alloc (Nat.le_refl _) _) | exact keep8s (keep8s (Hid.out (by assumption))) | exact keep8s (Hid.out (by assumption)) | ((repeat' apply And.intro) <;> first | assumption | ((exact eX); done) | (simp [go_sem]; done) | (simp [go_sem, *]; done) | (simp; omega) | omega)) (first | ((go_at_call 47; refine (eqLink_same (F k) (G k) _ _ (HF.out k hkn) (HF'.out k hkn)).mono ?_; rintro e w1 ⟨rfl, hb⟩; have ⟨hc, hf⟩ := bcell hb; have hz := hb.size; (try simp at hz); (try have hz := Nat.lt_of_succ_le hz); (try have y0 := wy w w1); (try have z0 := wz0 w w1); (try have z1 := wz1 w w1); (try have z2 := wz2 w w1); (try have z3 := wz3 w w1); (try have z4 := wz4 w w1); (try have x0 := wz0 wc w1); (try have x1 := wy wc w1)); have hS := Lib.hid (keep8 (by assumption) hb); have zL := (Hid.out hS).2.2.2.2.2.2.2.2.2))
   all_goals
    go_wp2_with fail
    go_roundw
    case rel => exact ⟨k + 1, by omega, by go_num, eX⟩
    case measure => simp [intOf]; omega
  ·obtain rfl : k = n := by omega
   go_wp2
   go_ret
   exact ⟨rfl, hbw⟩
theorem Marks.belowQ {w w' : World} {B n : Nat} {v : Value} {xs : List Int} (m : Marks v w w') (h : OwnQ w B v n xs) : Below B w w' := ⟨m.os, m.tape, m.output, Nat.le_of_eq m.size.symm, fun k hk => m.block k (fun hb => by have := (h.blk hb).1; omega)⟩
def MarkQ (v : Value) (k : Int) (n B : Nat) (w : World) (e : Ending) (w' : World) : Prop := e = .returned (.int .i64 (k + ((n * 4 : Nat) : Int))) ∧ OwnQ w' B v n (seqI k (n * 4)) ∧ Marks v w w'
set_option maxHeartbeats 4000000 in
theorem markLinks_any (v : Value) (n : Nat) (xs : List Int) (k : Int) (B : Nat) (w : World) (h : OwnQ w B v n xs) (h0 : 0 ≤ k) (h1 : k + ((n * 4 : Nat) : Int) ≤ 1000000000000) : Calls Tryz.prog 18 #[v, .int .i64 k] w (MarkQ v k n B w) := by
 obtain ⟨hn, a, cap, rfl, hx0⟩ := h
 obtain ⟨g, hg⟩ : ∃ g, 0 < n → a = some ⟨g, 0, none⟩ ∧ B ≤ g ∧ IRow w g (n * 4) 0 (seqI k (n * 4)) := by
  by_cases hp : 0 < n
  ·obtain ⟨g, e, hB, hs, hx⟩ := hx0 hp
   exact ⟨g, fun _ => ⟨e, hB, hs, fun j hj => ⟨(hx j hj).2, _, (hx j hj).1⟩, fun i hi => absurd hi (Nat.not_lt_zero i)⟩⟩
  ·exact ⟨0, fun h => absurd h hp⟩
 have HG := Lib.hid hg
 clear hg hx0
 go_enter Tryz.func18, Tryz.ntmps18
 go_wp2
 go_loopw [5, 1] (fun i q wr => ∃ j : Nat, j ≤ n ∧ i = .int .i64 j ∧ q = .int .i64 (k + ((j * 4 : Nat) : Int)) ∧ Hid (0 < n → IRow wr g (n * 4) (j * 4) (seqI k (n * 4))) ∧ Hid (Marks (.slice a n cap) w wr)) (fun i _ _ => n - (intOf i).toNat)
 case atStart => exact ⟨0, by omega, rfl, by go_num, Lib.hid (fun hp => (HG.out hp).2.2), Lib.hid (Marks.refl _ _)⟩
 case round =>
  obtain ⟨j, hj, rfl, rfl, hr, hmk⟩ := hrel
  by_cases hjn : j < n
  ·obtain ⟨rfl, hB, _⟩ := HG.out (by omega)
   have hr1 := hr.out (by omega)
   obtain ⟨x0, e0⟩ := (hr1.2.1 (j * 4) (by omega)).2; obtain ⟨x1, e1⟩ := (hr1.2.1 (j * 4 + 1) (by omega)).2
   obtain ⟨x2, e2⟩ := (hr1.2.1 (j * 4 + 2) (by omega)).2; obtain ⟨x3, e3⟩ := (hr1.2.1 (j * 4 + 3) (by omega)).2
   have f0 := (hr1.2.1 (j * 4) (by omega)).1; have f1 := (hr1.2.1 (j * 4 + 1) (by omega)).1; have f2 := (hr1.2.1 (j * 4 + 2) (by omega)).1; have f3 := (hr1.2.1 (j * 4 + 3) (by omega)).1
   obtain ⟨q, hq⟩ : ∃ q : Int, q = k + ((j * 4 : Nat) : Int) := ⟨_, rfl⟩
   have hb : Blk (.slice (some ⟨g, 0, none⟩) n cap) g := ⟨0, n, cap, rfl, by omega⟩
   have s4 : (j + 1) * 4 = j * 4 + 1 + 1 + 1 + 1 := by omega
   have hrs := Lib.hid (fun (_ : 0 < n) => (show IRow ((((wr.setCell ⟨g, j * 4, none⟩ (.int .i64 q)).setCell ⟨g, j * 4 + 1, none⟩ (.int .i64 (q + 1))).setCell ⟨g, j * 4 + 2, none⟩ (.int .i64 (q + 1 + 1))).setCell ⟨g, j * 4 + 3, none⟩ (.int .i64 (q + 1 + 1 + 1))) g (n * 4) ((j + 1) * 4) (seqI k (n * 4)) from by
    rw [s4]
    exact (((hr1.store (by omega) (by rw [iv_seq _ _ _ (by omega), hq])).store (by omega) (by rw [iv_seq _ _ _ (by omega), hq]; omega)).store (by omega) (by rw [iv_seq _ _ _ (by omega), hq]; omega)).store (by omega) (by rw [iv_seq _ _ _ (by omega), hq]; omega)))
   have hms := Lib.hid ((((hmk.out.set (g := g) hb (j * 4) (.int .i64 q)).set (g := g) hb (j * 4 + 1) (.int .i64 (q + 1))).set (g := g) hb (j * 4 + 2) (.int .i64 (q + 1 + 1))).set (g := g) hb (j * 4 + 3) (.int .i64 (q + 1 + 1 + 1)))
   rw [← hq]
   have q0 : 0 ≤ q := by omega
   have q1 : q + 4 ≤ 1000000000000 := by omega
   have HQ := Lib.hid hq
   clear hr1 hr hmk hb s4 hq
   go_wp2
   go_roundw
   case rel => exact ⟨j + 1, by omega, by go_num, by rw [HQ.out]; go_num, hrs, hms⟩
   case measure => simp [intOf]; omega
  ·obtain rfl : j = n := by omega
   go_wp2
   go_ret
   refine ⟨rfl, ⟨hn, a, cap, rfl, fun hp => ?_⟩, hmk.out⟩
   obtain ⟨rfl, hB, _⟩ := HG.out hp
   obtain ⟨hs, hf, hx⟩ := hr.out hp
   exact ⟨g, rfl, hB, hs, fun i hi => ⟨hx i hi, (hf i hi).1⟩⟩
set_option maxHeartbeats 4000000 in
theorem heldLinks_any (v : Value) (k : Int) (n B : Nat) (w : World) (h : OwnQ w B v n (seqI k (n * 4))) (h0 : 0 ≤ k) (h1 : k + ((n * 4 : Nat) : Int) ≤ 1000000000000) : Calls Tryz.prog 19 #[v, .int .i64 k] w fun e w' => e = .returned (.int .i64 (k + ((n * 4 : Nat) : Int))) ∧ w' = w := by
 obtain ⟨hn, a, cap, rfl, hx0⟩ := h
 have HX := Lib.hid hx0
 clear hx0
 go_enter Tryz.func19, Tryz.ntmps19
 go_wp2
 go_loop [5, 1] (fun i q => ∃ j : Nat, j ≤ n ∧ i = .int .i64 j ∧ q = .int .i64 (k + ((j * 4 : Nat) : Int))) (fun i _ => n - (intOf i).toNat)
 case atStart => exact ⟨0, by omega, rfl, by go_num⟩
 case round =>
  obtain ⟨j, hj, rfl, rfl⟩ := hrel
  by_cases hjn : j < n
  ·obtain ⟨g, rfl, _, _, hx⟩ := HX.out (by omega)
   obtain ⟨q, hq⟩ : ∃ q : Int, q = k + ((j * 4 : Nat) : Int) := ⟨_, rfl⟩
   have y0 := (hx (j * 4) (by omega)).1; have y1 := (hx (j * 4 + 1) (by omega)).1; have y2 := (hx (j * 4 + 2) (by omega)).1; have y3 := (hx (j * 4 + 3) (by omega)).1
   rw [iv_seq _ _ _ (by omega)] at y0 y1 y2 y3
   rw [← hq] at y0 ⊢
   rw [show k + ((j * 4 + 1 : Nat) : Int) = q + 1 by omega] at y1
   rw [show k + ((j * 4 + 2 : Nat) : Int) = q + 1 + 1 by omega] at y2
   rw [show k + ((j * 4 + 3 : Nat) : Int) = q + 1 + 1 + 1 by omega] at y3
   have q0 : 0 ≤ q := by omega
   have q1 : q + 4 ≤ 1000000000000 := by omega
   have HQ := Lib.hid hq
   clear hx hq
   go_wp2
   go_round
   case rel => exact ⟨j + 1, by omega, by go_num, by rw [HQ.out]; go_num⟩
   case measure => simp [intOf]; omega
  ·obtain rfl : j = n := by omega
   go_wp2
   go_ret
   exact ⟨rfl, rfl⟩
def lkCode (z : BlkD) : Int := if blkB z then 0 else 1
def lkAns (z : BlkD) : List LkD := if blkB z then linksL z else []
theorem lkAns_len (z : BlkD) : (lkAns z).length ≤ 7000 := by
 unfold lkAns
 split
 ·next h => exact linksL_len h
 ·simp
def LkAR (L : List LkD) (c : Int) (w : World) (e : Ending) (w' : World) : Prop := ∃ u, e = .returned (.tuple #[u, .int .i64 c]) ∧ GL w' w.heap.size u L ∧ Below w.heap.size w w'
theorem gr_nil (z : BlkD) : grCode z [] = lkCode z := by
 unfold grCode lkCode
 cases blkB z <;> simp [ris_nil]
set_option maxHeartbeats 8000000 in
theorem implLinksOf_any (f : Nat → Value) (z : BlkD) (w : World) (h : BlkF w w.heap.size f z) :
  Calls Tryz.prog 14 #[.agg #[f 0, f 1, f 2, f 3, f 4]] w (LkAR (lkAns z) (lkCode z) w) := by
 have HB := Lib.hid (fun (w1 : World) (hb : Below w.heap.size w w1) => graphOf_any f z (.slice none 0 0) [] w1 (h.up hb) ⟨by simp, none, 0, rfl, fun hp => absurd hp (by simp)⟩ (by simp))
 obtain ⟨p0, q0, p1, q1, p2, q2, p3, q3, p4, q4, e0, e1, e2, e3, e4⟩ := h.five
 rw [e0, e1, e2, e3, e4] at HB
 rw [e0, e1, e2, e3, e4]
 clear e0 e1 e2 e3 e4 h
 unfold GraphR at HB
 rw [gr_nil] at HB
 cases hb : blkB z
 ·rw [show lkCode z = 1 by simp [lkCode, hb]] at HB ⊢
  have XL := Lib.hid (show lkAns z = [] by simp [lkAns, hb])
  clear hb
  go_enter Tryz.func14, Tryz.ntmps14
  go_wp2_with fail
  (go_at_call 46; refine (HB.out _ (by exact eX)).mono ?_; rintro e w1 ⟨gv, rfl, hyes, hno, hb⟩)
  obtain rfl := hno (by decide)
  clear hyes hno
  go_wp2
  go_ret2
  exact ⟨_, rfl, by rw [XL.out]; exact GR.nil _ _ _ _, eX⟩
 ·rw [show lkCode z = 0 by simp [lkCode, hb]] at HB ⊢
  have XL := Lib.hid (show lkAns z = linksL z by simp [lkAns, hb])
  have hll := linksL_len hb
  clear hb
  go_enter Tryz.func14, Tryz.ntmps14
  go_wp2_with fail
  (go_at_call 46; refine (HB.out _ (by exact eX)).mono ?_; rintro e w1 ⟨gv, rfl, hyes, hno, hb⟩)
  obtain ⟨lv, bo, bi, base, V, rfl, l1, l2, l3, d1, hGL, hR⟩ := hyes (by trivial)
  obtain ⟨la, lc, rfl⟩ := (GL.lks hGL (by omega)).slice
  have b1 : Below w.heap.size w w1 := by exact eX
  have bA : Below w1.heap.size w1 (w1.alloc (Obj.cells #[.slice la (linksL z).length lc, .slice (some ⟨bo, 0, none⟩) (nodesN z) (nodesN z), .slice (some ⟨bi, 0, none⟩) (nodesN z) (nodesN z)] 75)) := (Below.refl _ _).alloc (Nat.le_refl _) _
  have GA := Lib.hid (GR.low (GR.below hGL bA) (base' := w.heap.size) (by simp))
  clear hyes hno hb hGL hR bA
  go_wp2
  go_ret2
  exact ⟨_, rfl, by rw [XL.out]; exact GA.out, eX⟩
end Go.Proofs.YtmlbpfbdhhkfkaaGreat
