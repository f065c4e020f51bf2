/-
Contracts of the plain number functions of chapter 1 (program and model), for all arguments within the bounds that each one names.
-/
import Derived.Test.YtkpfbnffhhmokaaGreatRows
import Derived.WalkKit
import Derived.ProofKit
import Derived.OpenShut
import Derived.BigQuiet
import Derived.Deep.QuietTactic
import Derived.IntWalk
import Derived.Lib.Hide
import Derived.Below
import Derived.ChangeSame
import Derived.Lib.SmallJoins
import Derived.Outline
import Derived.Deep.RegionHeld3
import Derived.Deep.DeepCutAuto
import Derived.Lib.ItoaNum
import Derived.Lib.ItoaLen
import Derived.Laws.Concat
import Derived.WalkSpells
import Derived.WalkLawsBesides
import Derived.Laws.IdiomStrings
namespace Go.Proofs.YtkpfbnffhhmokaaGreat
open Go.ChangeShapes Go.WideShapes Go.ChangeAt Go.RowKit
theorem lh {p : Prop} (h : p) : Go.RowKit.Hid p := h
theorem Grown.drewN {W w : World} (h : Grown W w) (n : Nat) : Grown W (w.drewN n) := by
 induction n generalizing w with
 | zero => exact h
 | succ n ih => exact ih h.drew
theorem ext_trans {a b c : World} (h : Below a.heap.size a b) (k : Below b.heap.size b c) : Below a.heap.size a c := h.trans (k.mono h.size)
theorem ext_alloc {a b : World} (h : Below a.heap.size a b) (o : Obj) : Below a.heap.size a (b.alloc o) := h.alloc h.size o
theorem ext_drew {a b : World} (h : Below a.heap.size a b) : Below a.heap.size a b.drew := h.drew
theorem ext_drewN {a b : World} (h : Below a.heap.size a b) (n : Nat) : Below a.heap.size a (b.drewN n) := h.trans ⟨rfl, rfl, rfl, Nat.le_refl _, fun _ _ => rfl⟩
theorem ext_set {a b : World} (h : Below a.heap.size a b) {p : Addr} (hp : a.heap.size ≤ p.block) (v : Value) : Below a.heap.size a (b.setCell p v) := h.setCell hp v
theorem eR (w : World) (B : Nat) : Below B w w := Below.refl _ _
theorem eA {a b : World} (h : Below a.heap.size a b) (o : Obj) : Below a.heap.size a (b.alloc o) := ext_alloc h o
theorem eD {a b : World} (h : Below a.heap.size a b) : Below a.heap.size a b.drew := ext_drew h
theorem eN {a b : World} (h : Below a.heap.size a b) (n : Nat) : Below a.heap.size a (b.drewN n) := ext_drewN h n
theorem eS {a b : World} {p : Addr} (h : Below a.heap.size a b) (v : Value) (hp : a.heap.size ≤ p.block := by first | exact Nat.le_refl _ | (simp; done) | (simp; omega) | omega) : Below a.heap.size a (b.setCell p v) := ext_set h hp v
theorem eT {a b c : World} (h : Below a.heap.size a b) (k : Below b.heap.size b c) : Below a.heap.size a c := ext_trans h k
theorem eX {B : Nat} {a b : World} (h : Below B a b := by (repeat (with_reducible first | exact eR _ _ | assumption | refine eA ?_ _ | refine eD ?_ | refine eN ?_ _ | refine eS ?_ _ | refine eT ?_ (by assumption)))) : Below B a b := h
/-- What an activation holds behind a take. -/
theorem actP : (∀ (a : Act) (d : Tmp) (v : Value), a.put (some d) v = { a with tmps := a.tmps.setIfInBounds d v }) ∧ (∀ (a : Act) (v : Value), a.put none v = a) ∧
  (∀ (α : Type) (l : List α) (i : Nat) (h : i < l.toArray.size), l.toArray[i] = l[i]'(by simpa using h)) ∧ (∀ (α : Type) (a : α) (l : List α) (_ : 0 < (a :: l).length), (a :: l)[0] = a) ∧
  (∀ (α : Type) (a : α) (l : List α) (i : Nat) (h : i + 1 < (a :: l).length), (a :: l)[i + 1] = l[i]'(by simpa using h)) ∧
  (∀ (α : Type) (l : List α) (i : Nat) (a : α), l.toArray.setIfInBounds i a = (l.set i a).toArray) ∧ (∀ (α : Type) (a b : α) (l : List α), (a :: l).set 0 b = b :: l) ∧ (∀ (α : Type) (a b : α) (l : List α) (i : Nat), (a :: l).set (i + 1) b = a :: l.set i b) :=
 ⟨fun _ _ _ => rfl, fun _ _ => rfl, fun _ _ _ _ => rfl, fun _ _ _ _ => rfl, fun _ _ _ _ _ => rfl, fun _ _ _ _ => by simp, fun _ _ _ _ => rfl, fun _ _ _ _ _ => rfl⟩
/-- 'wpAnyH_take' of an operation that no guard strikes out. -/
theorem takeH {P : Program} {ops : Array Oper} {Q : Exit → Act → World → Prop} {md : Region.Mode} {S : World → Prop} (i : Nat) {oi : Oper} {v : Value} {fuel : Nat} {listed : Array Bool} {a : Act} {w : World} (hi : ops[i]? = some oi)
  (hy : ∀ w, S w → (execOp a.eval oi).run P w = .ok (.value v) w) (h : wpAnyH P md ops Q S fuel (listed.setIfInBounds i true) (a.put oi.dst v) w)
  (hs : Region.noSelect ops = true := by kernel_rfl) (hf : Region.free md ops listed i = true := by kernel_rfl) (hr : (Region.ready md ops listed).contains i = true := by kernel_rfl)
  (hQ : ∀ c a w, Q (.panic c) (a.put oi.dst v) w → Q (.panic c) a w := by exact fun _ _ _ h => h) (hg : Region.wanted oi (yielded ops a.tmps) = true := by rfl) (hS : S w := by with_reducible assumption) : wpAnyH P md ops Q S (fuel + 1) listed a w :=
 wpAnyH_take hi hs hf hr hQ (.inl ⟨hg, hy⟩) hS h
theorem bcell {W w1 : World} (hb : Below W.heap.size W w1) : (∀ b o, b < W.heap.size → w1.cell? ⟨b, o, none⟩ = W.cell? ⟨b, o, none⟩) ∧ (∀ b o, b < W.heap.size → w1.frozen? ⟨b, o, none⟩ = W.frozen? ⟨b, o, none⟩) :=
 ⟨fun b o h => hb.cell (p := ⟨b, o, none⟩) h, fun b o h => hb.frozen (p := ⟨b, o, none⟩) h⟩
theorem wy (a b : World) (h : a.heap.size ≤ b.heap.size := by omega) : a.heap.size ≤ b.heap.size := h
theorem wz0 (a b : World) (h : a.heap.size < b.heap.size := by omega) : a.heap.size < b.heap.size := h
theorem wz1 (a b : World) (h : a.heap.size + 1 < b.heap.size := by omega) : a.heap.size + 1 < b.heap.size := h
theorem wz2 (a b : World) (h : a.heap.size + 1 + 1 < b.heap.size := by omega) : a.heap.size + 1 + 1 < b.heap.size := h
theorem wz3 (a b : World) (h : a.heap.size + 1 + 1 + 1 < b.heap.size := by omega) : a.heap.size + 1 + 1 + 1 < b.heap.size := h
theorem wz4 (a b : World) (h : a.heap.size + 1 + 1 + 1 + 1 < b.heap.size := by omega) : a.heap.size + 1 + 1 + 1 + 1 < b.heap.size := h
theorem cell_lt {w : World} {g o : Nat} {v : Value} (h : w.cell? ⟨g, o, none⟩ = some v) : g < w.heap.size := by
 apply Classical.byContradiction
 intro hn
 have e : w.heap[g]? = none := by simpa using hn
 simp [World.cell?, e] at h
theorem cell_keep {w0 w1 : World} {g o : Nat} {v : Value} (h : w0.cell? ⟨g, o, none⟩ = some v) (hb : Below w0.heap.size w0 w1) : w1.cell? ⟨g, o, none⟩ = some v := by
 rw [hb.cell (cell_lt h)]; exact h
theorem cell_keep_set {w0 : World} {g o : Nat} {v u : Value} {p : Addr} (h : w0.cell? ⟨g, o, none⟩ = some v) (hp : g < p.block) : (w0.setCell p u).cell? ⟨g, o, none⟩ = some v := by
 rw [((Below.refl (g + 1) w0).setCell (by omega) u).cell (by show g < g + 1; omega)]; exact h
theorem keep2 {w w0 w1 : World} {L g0 g1 o0 o1 : Nat} {v0 v1 : Value} (h : w0.cell? ⟨g0, o0, none⟩ = some v0 ∧ w0.cell? ⟨g1, o1, none⟩ = some v1 ∧ Below w.heap.size w w0 ∧ L < w0.heap.size) (hb : Below w0.heap.size w0 w1) : w1.cell? ⟨g0, o0, none⟩ = some v0 ∧ w1.cell? ⟨g1, o1, none⟩ = some v1 ∧ Below w.heap.size w w1 ∧ L < w1.heap.size := by
 obtain ⟨h0, h1, hw, hL⟩ := h
 exact ⟨cell_keep h0 hb, cell_keep h1 hb, ext_trans hw hb, Nat.lt_of_lt_of_le hL hb.size⟩
theorem keep2s {w w0 : World} {L g0 g1 o0 o1 : Nat} {v0 v1 : Value} {p : Addr} {u : Value} (h : w0.cell? ⟨g0, o0, none⟩ = some v0 ∧ w0.cell? ⟨g1, o1, none⟩ = some v1 ∧ Below w.heap.size w w0 ∧ L < w0.heap.size) (hw : w.heap.size ≤ L + 1 := by first | assumption | (simp; done) | (simp; omega) | omega) (hp : L < p.block := by first | assumption | (simp; done) | (simp; omega) | omega) (q0 : g0 ≤ L := by first | assumption | (simp; done) | (simp; omega) | omega) (q1 : g1 ≤ L := by first | assumption | (simp; done) | (simp; omega) | omega) : (w0.setCell p u).cell? ⟨g0, o0, none⟩ = some v0 ∧ (w0.setCell p u).cell? ⟨g1, o1, none⟩ = some v1 ∧ Below w.heap.size w (w0.setCell p u) ∧ L < (w0.setCell p u).heap.size := by
 obtain ⟨h0, h1, hb, hL⟩ := h
 exact ⟨cell_keep_set h0 (by omega), cell_keep_set h1 (by omega), hb.setCell (by omega) u, by simpa [World.setCell] using hL⟩
theorem keep4 {w w0 w1 : World} {L g0 g1 g2 g3 o0 o1 o2 o3 : Nat} {v0 v1 v2 v3 : Value} (h : w0.cell? ⟨g0, o0, none⟩ = some v0 ∧ w0.cell? ⟨g1, o1, none⟩ = some v1 ∧ w0.cell? ⟨g2, o2, none⟩ = some v2 ∧ w0.cell? ⟨g3, o3, none⟩ = some v3 ∧ Below w.heap.size w w0 ∧ L < w0.heap.size) (hb : Below w0.heap.size w0 w1) : w1.cell? ⟨g0, o0, none⟩ = some v0 ∧ w1.cell? ⟨g1, o1, none⟩ = some v1 ∧ w1.cell? ⟨g2, o2, none⟩ = some v2 ∧ w1.cell? ⟨g3, o3, none⟩ = some v3 ∧ Below w.heap.size w w1 ∧ L < w1.heap.size := by
 obtain ⟨h0, h1, h2, h3, hw, hL⟩ := h
 exact ⟨cell_keep h0 hb, cell_keep h1 hb, cell_keep h2 hb, cell_keep h3 hb, ext_trans hw hb, Nat.lt_of_lt_of_le hL hb.size⟩
theorem keep6 {w w0 w1 : World} {L g0 g1 g2 g3 g4 g5 o0 o1 o2 o3 o4 o5 : Nat} {v0 v1 v2 v3 v4 v5 : Value} (h : w0.cell? ⟨g0, o0, none⟩ = some v0 ∧ w0.cell? ⟨g1, o1, none⟩ = some v1 ∧ w0.cell? ⟨g2, o2, none⟩ = some v2 ∧ w0.cell? ⟨g3, o3, none⟩ = some v3 ∧ w0.cell? ⟨g4, o4, none⟩ = some v4 ∧ w0.cell? ⟨g5, o5, none⟩ = some v5 ∧ Below w.heap.size w w0 ∧ L < w0.heap.size) (hb : Below w0.heap.size w0 w1) : w1.cell? ⟨g0, o0, none⟩ = some v0 ∧ w1.cell? ⟨g1, o1, none⟩ = some v1 ∧ w1.cell? ⟨g2, o2, none⟩ = some v2 ∧ w1.cell? ⟨g3, o3, none⟩ = some v3 ∧ w1.cell? ⟨g4, o4, none⟩ = some v4 ∧ w1.cell? ⟨g5, o5, none⟩ = some v5 ∧ Below w.heap.size w w1 ∧ L < w1.heap.size := by
 obtain ⟨h0, h1, h2, h3, h4, h5, hw, hL⟩ := h
 exact ⟨cell_keep h0 hb, cell_keep h1 hb, cell_keep h2 hb, cell_keep h3 hb, cell_keep h4 hb, cell_keep h5 hb, ext_trans hw hb, Nat.lt_of_lt_of_le hL hb.size⟩
theorem keep6s {w w0 : World} {L g0 g1 g2 g3 g4 g5 o0 o1 o2 o3 o4 o5 : Nat} {v0 v1 v2 v3 v4 v5 : Value} {p : Addr} {u : Value} (h : w0.cell? ⟨g0, o0, none⟩ = some v0 ∧ w0.cell? ⟨g1, o1, none⟩ = some v1 ∧ w0.cell? ⟨g2, o2, none⟩ = some v2 ∧ w0.cell? ⟨g3, o3, none⟩ = some v3 ∧ w0.cell? ⟨g4, o4, none⟩ = some v4 ∧ w0.cell? ⟨g5, o5, none⟩ = some v5 ∧ Below w.heap.size w w0 ∧ L < w0.heap.size) (hw : w.heap.size ≤ L + 1 := by first | assumption | (simp; done) | (simp; omega) | omega) (hp : L < p.block := by first | assumption | (simp; done) | (simp; omega) | omega) (q0 : g0 ≤ L := by first | assumption | (simp; done) | (simp; omega) | omega) (q1 : g1 ≤ L := by first | assumption | (simp; done) | (simp; omega) | omega) (q2 : g2 ≤ L := by first | assumption | (simp; done) | (simp; omega) | omega) (q3 : g3 ≤ L := by first | assumption | (simp; done) | (simp; omega) | omega) (q4 : g4 ≤ L := by first | assumption | (simp; done) | (simp; omega) | omega) (q5 : g5 ≤ L := by first | assumption | (simp; done) | (simp; omega) | omega) : (w0.setCell p u).cell? ⟨g0, o0, none⟩ = some v0 ∧ (w0.setCell p u).cell? ⟨g1, o1, none⟩ = some v1 ∧ (w0.setCell p u).cell? ⟨g2, o2, none⟩ = some v2 ∧ (w0.setCell p u).cell? ⟨g3, o3, none⟩ = some v3 ∧ (w0.setCell p u).cell? ⟨g4, o4, none⟩ = some v4 ∧ (w0.setCell p u).cell? ⟨g5, o5, none⟩ = some v5 ∧ Below w.heap.size w (w0.setCell p u) ∧ L < (w0.setCell p u).heap.size := by
 obtain ⟨h0, h1, h2, h3, h4, h5, hb, hL⟩ := h
 exact ⟨cell_keep_set h0 (by omega), cell_keep_set h1 (by omega), cell_keep_set h2 (by omega), cell_keep_set h3 (by omega), cell_keep_set h4 (by omega), cell_keep_set h5 (by omega), hb.setCell (by omega) u, by simpa [World.setCell] using hL⟩
section
variable {H : Type} {enc : TypeId × Value → H} {P : Program}
/-- The row's last step of a call that has made memory and left all that was there as it was. -/
theorem post_ext {f : Func} {s : ChangeSpec} {apart fresh handsOn again : Bool} {W W' : World} {args : Array Value} {v : Value} {ds gs : List (DataW H)} {before pa pv : List MemPlace}
  (hb : Below W.heap.size W W')
  (hW : DataW.Whole enc P f.params.toList s.vars apart W args.toList ds gs before)
  (hres : ∀ (b : Nat) (sp : Nat → Bool) (hd : Bool), DataW.TrodAll enc P W' b sp hd f.resultTypes.toList (v.resultList f.resultTypes.size) (s.fn H (ds ++ gs)).results [])
  (hargs : ∀ sp : Nat → Bool, (∀ p ∈ before, sp p.block = true) → DataW.TrodAll enc P W' 0 sp true f.params.toList args.toList (s.fn H (ds ++ gs)).args pa)
  (hvars : ∀ sp : Nat → Bool, (∀ p ∈ before, sp p.block = true) → DataW.TrodVars enc P W' sp s.vars (s.fn H (ds ++ gs)).vars pv)
  (hps : before = pa ++ pv)
  (hok : ∀ (j : Nat) (t : TypeId) (r : Value), f.resultTypes[j]? = some t → (v.resultList f.resultTypes.size)[j]? = some r → Value.okWide P W' .any 0 t r) :
  s.post enc P f apart fresh handsOn again W args v W' := by
 have old : ∀ p ∈ before, p.block < W.heap.size := fun p hp => hW.lt p hp
 have oldB : ∀ p ∈ before, (fun b => decide (b < W.heap.size)) p.block = true := fun p hp => by simpa using old p hp
 have frame : W.keptBut W' (fun p => p ∈ before ∧ p ∈ pa ++ pv) := World.keptBut_mono (fun p hp => ⟨hp, hps ▸ hp⟩) (hb.frame (· ∈ before))
 subst hps
 refine ⟨ds, gs, pa ++ pv, [], pa, pv, hW, hres _ _ _, hargs _ oldB, hvars _ oldB, World.keptBut_mono (fun p hp => ⟨hp.1, ?_⟩) frame, fun _ => ?_⟩
 ·simpa using hp.2
 ·obtain ⟨_, _, _, _, _, hz, hn⟩ := hW
  refine ⟨hok, _, _, ([] ++ pa) ++ pv, ⟨[] ++ pa, pv, trodAll_append (hargs _ (fun _ _ => rfl)) (hres _ _ _), hvars _ (fun _ _ => rfl), rfl, ?_, ?_⟩, ?_⟩
  ·intro b off hp
   have hin : MemPlace.cell b off ∈ pa ++ pv := by simpa using hp
   rw [hb.frozen (old _ hin)]
   exact hz b off hin
  ·intro ha
   simpa using hn ha
  ·intro p hp _
   simpa using hp
end
def inB (v lo hi : Int) : Bool := decide (lo ≤ v) && decide (v ≤ hi)
theorem inB_yes {v lo hi : Int} (h1 : lo ≤ v) (h2 : v ≤ hi) : inB v lo hi = true := by simp [inB, h1, h2]
theorem inB_get {v lo hi : Int} (h : inB v lo hi = true) : lo ≤ v ∧ v ≤ hi := by simpa [inB] using h
theorem inB_no1 {v lo hi : Int} (h1 : ¬ lo ≤ v) : inB v lo hi = false := by simp [inB, h1]
theorem inB_no2 {v lo hi : Int} (h2 : ¬ v ≤ hi) : inB v lo hi = false := by simp [inB, h2]
theorem inRange_any (v lo hi : Int) (w : World) : Calls Tryz.prog 106 #[.int .i64 v, .int .i64 lo, .int .i64 hi] w fun e w' => e = .returned (.bool (inB v lo hi)) ∧ w' = w := by
 by_cases h1 : lo ≤ v
 ·by_cases h2 : v ≤ hi
  ·rw [inB_yes h1 h2]
   go_enter Tryz.func106, Tryz.ntmps106
   go_wp2
   go_ret
   exact ⟨rfl, rfl⟩
  ·rw [inB_no2 h2]
   go_enter Tryz.func106, Tryz.ntmps106
   go_wp2
   go_ret
   exact ⟨rfl, rfl⟩
 ·rw [inB_no1 h1]
  go_enter Tryz.func106, Tryz.ntmps106
  go_wp2
  go_ret
  exact ⟨rfl, rfl⟩
theorem l01In_any (v lo hi : Int) (w : World) : Calls Tryz.prog 102 #[.int .i64 v, .int .i64 lo, .int .i64 hi] w fun e w' => e = .returned (.bool (inB v lo hi)) ∧ w' = w := by
 by_cases h1 : lo ≤ v
 ·by_cases h2 : v ≤ hi
  ·rw [inB_yes h1 h2]
   go_enter Tryz.func102, Tryz.ntmps102
   go_wp2
   go_ret
   exact ⟨rfl, rfl⟩
  ·rw [inB_no2 h2]
   go_enter Tryz.func102, Tryz.ntmps102
   go_wp2
   go_ret
   exact ⟨rfl, rfl⟩
 ·rw [inB_no1 h1]
  go_enter Tryz.func102, Tryz.ntmps102
  go_wp2
  go_ret
  exact ⟨rfl, rfl⟩
end Go.Proofs.YtkpfbnffhhmokaaGreat
namespace Go.Proofs.YtkpfbnffhhmokaaGreat
open Go.ChangeShapes Go.WideShapes Go.ChangeAt Go.RowKit
end Go.Proofs.YtkpfbnffhhmokaaGreat
namespace Go.Proofs.YtkpfbnffhhmokaaGreat
open Go.ChangeShapes Go.WideShapes Go.ChangeAt Go.RowKit
set_option linter.unusedVariables false
theorem conv_one {P : Program} {src dst e : TypeId} (x : Int) (hx : 0 ≤ x ∧ x ≤ 255) (hs : P.underlying src = some (.slice e)) (he : P.underlying e = some (.int .u8)) (hd : P.underlying dst = some .string) :
  ∀ (W : World) (b : Nat), W.cell? ⟨b, 0, none⟩ = some (.int .u8 x) → (convert src dst (.slice (some ⟨b, 0, none⟩) 1 1)).run P W = .ok (.string ⟨[UInt8.ofNat x.toNat].toArray⟩) W := by
 intro W b hc
 refine run_convert_bytes_back (P := P) W src dst e ⟨b, 0, none⟩ 1 [UInt8.ofNat x.toNat] hs he hd (fun j hj => ?_)
 obtain rfl : j = 0 := by simpa using hj
 have e : max x 0 % 256 = x := by omega
 simpa [Addr.add, e] using hc
end Go.Proofs.YtkpfbnffhhmokaaGreat
namespace Go.Proofs.YtkpfbnffhhmokaaGreat
open Go.ChangeShapes Go.WideShapes Go.ChangeAt Go.RowKit
set_option linter.unusedVariables false
set_option linter.unusedSimpArgs false
theorem hasIxPin_any (a : Option Addr) (n cap : Nat) (x : Int) (w : World) (hn : n ≤ 9223372036854775807) : Calls Tryz.prog 243 #[.slice a n cap, .int .i64 x] w fun e w' => e = .returned (.bool (inB x 0 ((n : Int) - 1))) ∧ w' = w := by
 go_enter Tryz.func243, Tryz.ntmps243
 go_wp2_with (go_at_call 106; refine (inRange_any _ _ _ _).mono ?_; rintro e w' ⟨rfl, hw'⟩; rw [hw']; clear hw' w')
 go_ret
 exact ⟨rfl, rfl⟩
theorem hasIxCell_any (a : Option Addr) (n cap : Nat) (x : Int) (w : World) (hn : n ≤ 9223372036854775807) : Calls Tryz.prog 183 #[.slice a n cap, .int .i64 x] w fun e w' => e = .returned (.bool (inB x 0 ((n : Int) - 1))) ∧ w' = w := by
 go_enter Tryz.func183, Tryz.ntmps183
 go_wp2_with (go_at_call 106; refine (inRange_any _ _ _ _).mono ?_; rintro e w' ⟨rfl, hw'⟩; rw [hw']; clear hw' w')
 go_ret
 exact ⟨rfl, rfl⟩
theorem hasIxStr_any (a : Option Addr) (n cap : Nat) (x : Int) (w : World) (hn : n ≤ 9223372036854775807) : Calls Tryz.prog 185 #[.slice a n cap, .int .i64 x] w fun e w' => e = .returned (.bool (inB x 0 ((n : Int) - 1))) ∧ w' = w := by
 go_enter Tryz.func185, Tryz.ntmps185
 go_wp2_with (go_at_call 106; refine (inRange_any _ _ _ _).mono ?_; rintro e w' ⟨rfl, hw'⟩; rw [hw']; clear hw' w')
 go_ret
 exact ⟨rfl, rfl⟩
end Go.Proofs.YtkpfbnffhhmokaaGreat
