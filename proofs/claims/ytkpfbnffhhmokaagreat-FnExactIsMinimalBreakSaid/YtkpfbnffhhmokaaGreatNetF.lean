/-
The program's indexWith over places, by key and by name.
-/
import Derived.Test.YtkpfbnffhhmokaaGreatIndex
import Derived.Test.YtkpfbnffhhmokaaGreatNetP
import Derived.Test.YtkpfbnffhhmokaaGreatNew
namespace Go.Proofs.YtkpfbnffhhmokaaGreat
open Go.ChangeShapes Go.WideShapes Go.ChangeAt Go.RowKit
set_option linter.unusedVariables false
set_option linter.unusedSimpArgs false
def PlF (f : Nat → Value) (p : PlD) : Prop := f 0 = .int .i64 p.inst ∧ f 1 = .int .i64 p.pin ∧ f 2 = .string p.name ∧ f 3 = .int .i64 p.net ∧ f 4 = .int .i64 p.load ∧ f 5 = .bool p.drv
def PlS (w : World) (B : Nat) (v : Value) (P : List PlD) : Prop := ∃ F, CellS w B v P.length 6 F ∧ ∀ i, i < P.length → PlF (F i) (pll P i)
theorem PlS.keep {w w' : World} {B C : Nat} {v : Value} {P : List PlD} (h : PlS w B v P) (hb : Below B w w') (hB : B ≤ C) : PlS w' C v P := by
 obtain ⟨F, h0, h1⟩ := h
 exact ⟨F, h0.keep hb hB, h1⟩
theorem PlS.up {w w' : World} {v : Value} {P : List PlD} (h : PlS w w.heap.size v P) (hb : Below w.heap.size w w') : PlS w' w'.heap.size v P := h.keep hb hb.size
theorem PlS.slice {w : World} {L : Nat} {v : Value} {P : List PlD} (h : PlS w L v P) : ∃ p q, v = .slice p P.length q := by
 obtain ⟨F, ⟨_, a, cap, rfl, _⟩, _⟩ := h
 exact ⟨_, _, rfl⟩
theorem PlS.len {w : World} {L : Nat} {v : Value} {P : List PlD} (h : PlS w L v P) : P.length ≤ 9223372036854775807 := by
 obtain ⟨F, ⟨h0, _⟩, _⟩ := h
 exact h0
end Go.Proofs.YtkpfbnffhhmokaaGreat
namespace Go.Proofs.YtkpfbnffhhmokaaGreat
open Go.ChangeShapes Go.WideShapes Go.ChangeAt Go.RowKit Go.Deep
set_option linter.unusedVariables false
set_option linter.unusedSimpArgs false
set_option maxRecDepth 100000
theorem ownsInts_IntS {w : World} {base : Nat} {e : TypeId} {v : Value} {xs : List Int} (h : w.ownsInts base e .i64 v xs) (hl : xs.length ≤ 9223372036854775807) : IntS w w.heap.size v xs := by
 obtain ⟨hr, _⟩ := h
 rcases hr.2 with ⟨rfl, h0⟩ | ⟨g, cap, cur, rfl, hg, hgg, _, _, _, _⟩
 ·exact ⟨hl, none, 0, by rw [h0], fun hp => absurd hp (by omega)⟩
 ·refine ⟨hl, _, cap, rfl, fun hp => ⟨g, 0, rfl, (Array.getElem?_eq_some_iff.1 hgg).1, fun i hi => ?_⟩⟩
  rw [Nat.zero_add, hr.cellAt i (by omega)]
  simp [iv, List.getD, hi]
theorem GR_PlS {w : World} {base : Nat} {t : TypeId} {v : Value} {P : List PlD} (h : GR w base t 6 v (P.map plC)) (hl : P.length ≤ 1048576) : PlS w w.heap.size v P := by
 have hl' : (P.map plC).length = P.length := List.length_map _
 have hc := (h.out (by omega) (by rw [hl']; exact hl)).cells
 rw [hl'] at hc
 refine ⟨_, hc, fun i hi => ?_⟩
 have e : (P.map plC).getD i [] = plC (pll P i) := by simp [List.getD, pll, hi]
 simp only [e]
 exact ⟨rfl, rfl, rfl, rfl, rfl, rfl⟩
def placesZ (ts : List CellD) (d : DesD) : List PlD := if desB ts d then places ts d else []
theorem placesZ_yes {ts : List CellD} {d : DesD} (h : desB ts d = true) : placesZ ts d = places ts d := by simp [placesZ, h]
theorem placesZ_no {ts : List CellD} {d : DesD} (h : desB ts d = false) : placesZ ts d = [] := by simp [placesZ, h]
theorem des_get {ts : List CellD} {d : DesD} (h : desB ts d = true) : libB ts = true ∧ sizesB d = true ∧ hasNm d = true ∧ connB ts d = true ∧ drvB ts d = true := by
 simp only [desB, Bool.and_eq_true] at h
 exact ⟨h.1.1.1.1, h.1.1.1.2, h.1.1.2, h.1.2, h.2⟩
theorem places_len {ts : List CellD} {d : DesD} (hl : libB ts = true) (hs : sizesB d = true) (hc : connB ts d = true) : (places ts d).length ≤ 100 := by
 simp only [sizesB, Bool.and_eq_true, decide_eq_true_eq] at hs
 have := pls_len hl hc d.insts.length (Nat.le_refl _)
 rw [places, List.length_append, plsP_len]
 omega
/-- What a look-up at an end answers. -/
def LookAt (w : World) (m : Option Nat) (P : List PlD) (n : Int) (d : Bool) : Prop :=
 ∃ u, (Instr.lookup 138 (.map m) (endKey n d) false).run Tryz.prog w = .ok u w ∧ (Instr.lookup 138 (.map m) (endKey n d) true).run Tryz.prog w = .ok (.tuple #[u, .bool (!(endsL P n d).isEmpty)]) w ∧ IntS w w.heap.size u (endsL P n d) ∧ (endsL P n d = [] → u = .slice none 0 0)
theorem ends_look {w : World} {base B : Nat} {P : List PlD} (h : Ends w base B P) (hP : P.length ≤ 1048576) (n : Int) (d : Bool) (hwf : (Lit.int .i64 n).wf = true) : LookAt w (some B) P n d := by
 obtain ⟨es, clock, hb, hbb, s1, s2, s3, own, cov, apart⟩ := h
 have K := Tryz.endK
 have ht : Tryz.prog.underlying 138 = some (.map 186 33) := Tryz.underlying138
 have hkey := Tryz.endOf n d hwf
 have keys : ∀ e ∈ es.toList, ∃ l, keyOf Tryz.prog 186 e.key = some l := fun e he => by
  obtain ⟨n, d, k1, k2, _⟩ := own e he
  exact ⟨_, by rw [k1]; exact Tryz.endOf n d k2⟩
 have hle := endsL_le P n d
 rcases K.find w hkey es.toList keys with ⟨h1, h2⟩ | ⟨j, e0, h1, h2, h3⟩
 ·have hempty : endsL P n d = [] := by
   apply Classical.byContradiction
   intro hne
   obtain ⟨x, hx, he⟩ := cov _ _ hne
   exact h2 x hx he
  refine ⟨.slice none 0 0, ?_, ?_, ?_⟩
  ·simp [Instr.lookup, run_underlying ht, MapKept.run_getObj_map hb, K.check w _ hkey, h1, Tryz.zeroInts, Result.andThen]
  ·simp [Instr.lookup, run_underlying ht, MapKept.run_getObj_map hb, K.check w _ hkey, h1, Tryz.zeroInts, Result.andThen, hempty]
  ·rw [hempty]; exact ⟨⟨by simp, none, 0, rfl, fun hp => absurd hp (by simp)⟩, fun _ => rfl⟩
 ·have hm0 : e0 ∈ es.toList := List.mem_of_getElem? h2
  obtain ⟨n0, d0, k1, k2, k3, k4⟩ := own e0 hm0
  obtain ⟨rfl, rfl⟩ := endKey_inj (k1.symm.trans h3)
  have hne : (endsL P n0 d0).isEmpty = false := by cases e : endsL P n0 d0 with | nil => exact absurd e k3 | cons a b => rfl
  refine ⟨e0.val, ?_, ?_, ownsInts_IntS k4 (by omega), fun e => absurd e k3⟩
  ·simp [Instr.lookup, run_underlying ht, MapKept.run_getObj_map hb, K.check w _ hkey, h1, Result.andThen]
  ·simp [Instr.lookup, run_underlying ht, MapKept.run_getObj_map hb, K.check w _ hkey, h1, Result.andThen, hne]
theorem none_look (w : World) (n : Int) (d : Bool) (hwf : (Lit.int .i64 n).wf = true) : LookAt w none [] n d := by
 have K := Tryz.endK
 have ht : Tryz.prog.underlying 138 = some (.map 186 33) := Tryz.underlying138
 have hkey := Tryz.endOf n d hwf
 have hempty : endsL [] n d = [] := rfl
 rcases K.find w hkey [] (by simp) with ⟨h1, _⟩ | ⟨j, e0, _, h2, _⟩
 ·refine ⟨.slice none 0 0, ?_, ?_, by rw [hempty]; exact ⟨by simp, none, 0, rfl, fun hp => absurd hp (by simp)⟩, fun _ => rfl⟩
  ·simp [Instr.lookup, run_underlying ht, K.check w _ hkey, h1, Tryz.zeroInts, Result.andThen]
  ·simp [Instr.lookup, run_underlying ht, K.check w _ hkey, h1, Tryz.zeroInts, Result.andThen, hempty]
 ·simp at h2
/-- The netlist that a design has for whoever reads it: its places, and the look-ups at its ends, here and in every later world. -/
def NetZ (w w' : World) (P : List PlD) (v : Value) : Prop :=
 ∃ a cap m, v = .agg #[.slice a P.length cap, .map m] ∧ PlS w' w'.heap.size (.slice a P.length cap) P ∧ (∀ wn, Below w'.heap.size w' wn → ∀ n d, (Lit.int .i64 n).wf = true → LookAt wn m P n d) ∧ Below w.heap.size w w'
theorem NetV.z {w w' wn : World} {P : List PlD} {v : Value} (h : NetV w w' P v) (hb : Below w'.heap.size w' wn) (hP : P.length ≤ 1048576) : NetZ w wn P v := by
 obtain ⟨a, cap, B, base, rfl, h0, h1, h2, hG, hE, hb0⟩ := h
 refine ⟨a, cap, some B, rfl, GR_PlS (hG.below hb) hP, fun wq hq n d hw => ends_look ((hE.kept (row := none) (grown_none hb none) (by simp) (fun k h => by cases h)).kept (row := none) (grown_none hq none) (by simp) (fun k h => by cases h)) hP n d hw, hb0.trans (hb.mono hb0.size)⟩
/-- The netlist itself, whose memory lies above L. -/
def NetK (w : World) (L : Nat) (P : List PlD) (v : Value) : Prop :=
 ∃ a cap B base, v = .agg #[.slice a P.length cap, .map (some B)] ∧ L ≤ B ∧ L ≤ base ∧ base ≤ w.heap.size ∧ GR w base 257 6 (.slice a P.length cap) (P.map plC) ∧ Ends w base B P
theorem NetV.k {w w' : World} {P : List PlD} {v : Value} (h : NetV w w' P v) : NetK w' w.heap.size P v := by
 obtain ⟨a, cap, B, base, e, h0, h1, h2, hG, hE, _⟩ := h
 exact ⟨a, cap, B, base, e, h0, h1, h2, hG, hE⟩
theorem NetK.slice {w : World} {L : Nat} {P : List PlD} {v : Value} (h : NetK w L P v) : ∃ a cap m, v = .agg #[.slice a P.length cap, .map m] := by
 obtain ⟨a, cap, B, base, e, _⟩ := h
 exact ⟨a, cap, _, e⟩
theorem NetK.below {w w' : World} {L : Nat} {P : List PlD} {v : Value} (h : NetK w L P v) (hb : Below w.heap.size w w') : NetK w' L P v := by
 obtain ⟨a, cap, B, base, e, h0, h1, h2, hG, hE⟩ := h
 exact ⟨a, cap, B, base, e, h0, h1, Nat.le_trans h2 hb.size, hG.below hb, hE.kept (row := none) (grown_none hb none) (by simp) (fun k h => by cases h)⟩
theorem NetK.set {w : World} {L : Nat} {P : List PlD} {v : Value} (h : NetK w L P v) {p : Addr} (hp : p.block < L) (u : Value) : NetK (w.setCell p u) L P v := by
 obtain ⟨a, cap, B, base, e, h0, h1, h2, hG, hE⟩ := h
 have g1 := grown_set w p u
 exact ⟨a, cap, B, base, e, h0, h1, Nat.le_trans h2 g1.size, hG.kept g1 (fun q hq e => by have := (hG.blk q hq).1; simp at e; omega), hE.kept g1 (by simp; omega) (fun q hq => .inl (by simp at hq; omega))⟩
theorem NetK.low {w : World} {L M : Nat} {P : List PlD} {v : Value} (h : NetK w L P v) (hM : M ≤ L) : NetK w M P v := by
 obtain ⟨a, cap, B, base, e, h0, h1, h2, hG, hE⟩ := h
 exact ⟨a, cap, B, base, e, Nat.le_trans hM h0, Nat.le_trans hM h1, h2, hG, hE⟩
/-- How it is read, here and in every later world. -/
theorem NetK.look {w : World} {L : Nat} {P : List PlD} {a : Option Addr} {n cap : Nat} {m : Option Nat} (h : NetK w L P (.agg #[.slice a n cap, .map m])) (hP : P.length ≤ 1048576) : n = P.length ∧ PlS w w.heap.size (.slice a n cap) P ∧ ∀ wn, Below w.heap.size w wn → ∀ n d, (Lit.int .i64 n).wf = true → LookAt wn m P n d := by
 obtain ⟨a', cap', B, base, e, h0, h1, h2, hG, hE⟩ := h
 simp only [Value.agg.injEq, Array.mk.injEq, List.cons.injEq, Value.slice.injEq, Value.map.injEq, and_true] at e
 obtain ⟨⟨rfl, rfl, rfl⟩, rfl⟩ := e
 exact ⟨rfl, GR_PlS hG hP, fun wn hwn k d hw => ends_look (hE.kept (row := none) (grown_none hwn none) (by simp) (fun k h => by cases h)) hP k d hw⟩
def NetOfA (ts : List CellD) (d : DesD) (w : World) (e : Ending) (w' : World) : Prop := ∃ v, e = .returned (.tuple #[v, .bool (desB ts d)]) ∧ NetZ w w' (placesZ ts d) v ∧ (desB ts d = true → NetK w' w.heap.size (placesZ ts d) v)
theorem netOf_no {ts : List CellD} {d : DesD} {w w' : World} {e : Ending} (h : desB ts d = false) (he : e = .returned (.tuple #[.agg #[.slice none 0 0, .map none], .bool false])) (hb : Below w.heap.size w w') : NetOfA ts d w e w' := by
 refine ⟨_, by rw [h]; exact he, ⟨none, 0, none, by rw [placesZ_no h]; rfl, ?_, fun wn _ n d hw => by rw [placesZ_no h]; exact none_look wn n d hw, hb⟩, fun e => by rw [h] at e; cases e⟩
 rw [placesZ_no h]
 exact ⟨fun _ _ => .bool false, ⟨by simp, none, 0, rfl, fun hp => absurd hp (by simp)⟩, fun i hi => absurd hi (by simp)⟩
set_option maxHeartbeats 16000000 in
theorem netlistOf_all (v : Value) (f : Nat → Value) (ts : List CellD) (d : DesD) (w : World) (hl : CellsS w w.heap.size v ts) (h : DesF w w.heap.size f d) :
  Calls Tryz.prog 117 #[.agg #[v], .agg #[f 0, f 1, f 2]] w (NetOfA ts d w) := by
 have C0 := lh (fun (w1 : World) (hb : Below w.heap.size w w1) => implIsLibrary_any v ts w1 (hl.up hb))
 have C1 := lh (fun (w1 : World) (hb : Below w.heap.size w w1) => wlim_any f d w1 (h.up hb))
 have C2 := lh (fun (w1 : World) (hb : Below w.heap.size w w1) => hasNm_any f d w1 (h.up hb))
 have C3 := lh (fun (w1 : World) (hb : Below w.heap.size w w1) => implConn_any v ts f d w1 (hl.up hb) (h.up hb))
 have C4 := lh (fun (w1 : World) (hb : Below w.heap.size w w1) => newNet_any v ts f d w1 (hl.up hb) (h.up hb))
 obtain ⟨al, cl, el⟩ := hl.slice
 obtain ⟨a0, c0, e0⟩ := h.1.slice; obtain ⟨a1, c1, e1⟩ := h.2.1.slice; obtain ⟨a2, c2, e2⟩ := h.2.2.slice
 have hn := h.2.1.len
 rw [el] at C0 C3 C4
 rw [e0, e1, e2] at C1 C2 C3 C4
 rw [el, e0, e1, e2]
 clear hl h el e0 e1 e2
 cases b0 : libB ts
 ·have hQ := lh (show desB ts d = false by simp [desB, b0])
  rw [b0] at C0
  clear C4 b0
  go_enter Tryz.func117, Tryz.ntmps117
  go_wp2_with (first | (go_at_call 147; refine (C0.out _ eX).mono ?_; rintro e w1 ⟨rfl, hb⟩; have ⟨hc, hf⟩ := bcell hb; have hz := hb.size; (try simp at hz); (try have hz := Nat.lt_of_succ_le hz); (try have y0 := wy w w1); (try have z0 := wz0 w w1); (try have z1 := wz1 w w1); (try have z2 := wz2 w w1); (try have z3 := wz3 w w1); (try have z4 := wz4 w w1); (try have x0 := wz0 wc w1); (try have x1 := wy wc w1)))
  exact bodyPost_ret (v := .tuple #[.agg #[.slice none 0 0, .map none], .bool false]) (by simp [results, Tryz.results117, go_sem, *]) rfl (netOf_no hQ.out rfl eX)
 ·skip
  cases b1 : sizesB d
  ·have hQ := lh (show desB ts d = false by simp [desB, b1])
   rw [b0] at C0
   rw [b1] at C1
   clear C4 b0 b1
   go_enter Tryz.func117, Tryz.ntmps117
   go_wp2_with (first | (go_at_call 147; refine (C0.out _ eX).mono ?_; rintro e w1 ⟨rfl, hb⟩; have ⟨hc, hf⟩ := bcell hb; have hz := hb.size; (try simp at hz); (try have hz := Nat.lt_of_succ_le hz); (try have y0 := wy w w1); (try have z0 := wz0 w w1); (try have z1 := wz1 w w1); (try have z2 := wz2 w w1); (try have z3 := wz3 w w1); (try have z4 := wz4 w w1); (try have x0 := wz0 wc w1); (try have x1 := wy wc w1)) | (go_at_call 148; refine (C1.out _ eX).mono ?_; rintro e w1 ⟨rfl, hb⟩; have ⟨hc, hf⟩ := bcell hb; have hz := hb.size; (try simp at hz); (try have hz := Nat.lt_of_succ_le hz); (try have y0 := wy w w1); (try have z0 := wz0 w w1); (try have z1 := wz1 w w1); (try have z2 := wz2 w w1); (try have z3 := wz3 w w1); (try have z4 := wz4 w w1); (try have x0 := wz0 wc w1); (try have x1 := wy wc w1)))
   exact bodyPost_ret (v := .tuple #[.agg #[.slice none 0 0, .map none], .bool false]) (by simp [results, Tryz.results117, go_sem, *]) rfl (netOf_no hQ.out rfl eX)
  ·skip
   cases b2 : hasNm d
   ·have hQ := lh (show desB ts d = false by simp [desB, b2])
    rw [b0] at C0
    rw [b1] at C1
    rw [b2] at C2
    clear C4 b0 b1 b2
    go_enter Tryz.func117, Tryz.ntmps117
    go_wp2_with (first | (go_at_call 147; refine (C0.out _ eX).mono ?_; rintro e w1 ⟨rfl, hb⟩; have ⟨hc, hf⟩ := bcell hb; have hz := hb.size; (try simp at hz); (try have hz := Nat.lt_of_succ_le hz); (try have y0 := wy w w1); (try have z0 := wz0 w w1); (try have z1 := wz1 w w1); (try have z2 := wz2 w w1); (try have z3 := wz3 w w1); (try have z4 := wz4 w w1); (try have x0 := wz0 wc w1); (try have x1 := wy wc w1)) | (go_at_call 148; refine (C1.out _ eX).mono ?_; rintro e w1 ⟨rfl, hb⟩; have ⟨hc, hf⟩ := bcell hb; have hz := hb.size; (try simp at hz); (try have hz := Nat.lt_of_succ_le hz); (try have y0 := wy w w1); (try have z0 := wz0 w w1); (try have z1 := wz1 w w1); (try have z2 := wz2 w w1); (try have z3 := wz3 w w1); (try have z4 := wz4 w w1); (try have x0 := wz0 wc w1); (try have x1 := wy wc w1)) | (go_at_call 149; refine (C2.out _ eX).mono ?_; rintro e w1 ⟨rfl, hb⟩; have ⟨hc, hf⟩ := bcell hb; have hz := hb.size; (try simp at hz); (try have hz := Nat.lt_of_succ_le hz); (try have y0 := wy w w1); (try have z0 := wz0 w w1); (try have z1 := wz1 w w1); (try have z2 := wz2 w w1); (try have z3 := wz3 w w1); (try have z4 := wz4 w w1); (try have x0 := wz0 wc w1); (try have x1 := wy wc w1)))
    exact bodyPost_ret (v := .tuple #[.agg #[.slice none 0 0, .map none], .bool false]) (by simp [results, Tryz.results117, go_sem, *]) rfl (netOf_no hQ.out rfl eX)
   ·skip
    cases b3 : connB ts d
    ·have hQ := lh (show desB ts d = false by simp [desB, b3])
     rw [b0] at C0
     rw [b1] at C1
     rw [b2] at C2
     rw [b3] at C3
     clear C4 b0 b1 b2 b3
     go_enter Tryz.func117, Tryz.ntmps117
     go_wp2_with (first | (go_at_call 147; refine (C0.out _ eX).mono ?_; rintro e w1 ⟨rfl, hb⟩; have ⟨hc, hf⟩ := bcell hb; have hz := hb.size; (try simp at hz); (try have hz := Nat.lt_of_succ_le hz); (try have y0 := wy w w1); (try have z0 := wz0 w w1); (try have z1 := wz1 w w1); (try have z2 := wz2 w w1); (try have z3 := wz3 w w1); (try have z4 := wz4 w w1); (try have x0 := wz0 wc w1); (try have x1 := wy wc w1)) | (go_at_call 148; refine (C1.out _ eX).mono ?_; rintro e w1 ⟨rfl, hb⟩; have ⟨hc, hf⟩ := bcell hb; have hz := hb.size; (try simp at hz); (try have hz := Nat.lt_of_succ_le hz); (try have y0 := wy w w1); (try have z0 := wz0 w w1); (try have z1 := wz1 w w1); (try have z2 := wz2 w w1); (try have z3 := wz3 w w1); (try have z4 := wz4 w w1); (try have x0 := wz0 wc w1); (try have x1 := wy wc w1)) | (go_at_call 149; refine (C2.out _ eX).mono ?_; rintro e w1 ⟨rfl, hb⟩; have ⟨hc, hf⟩ := bcell hb; have hz := hb.size; (try simp at hz); (try have hz := Nat.lt_of_succ_le hz); (try have y0 := wy w w1); (try have z0 := wz0 w w1); (try have z1 := wz1 w w1); (try have z2 := wz2 w w1); (try have z3 := wz3 w w1); (try have z4 := wz4 w w1); (try have x0 := wz0 wc w1); (try have x1 := wy wc w1)) | (go_at_call 150; refine (C3.out _ eX).mono ?_; rintro e w1 ⟨rfl, hb⟩; have ⟨hc, hf⟩ := bcell hb; have hz := hb.size; (try simp at hz); (try have hz := Nat.lt_of_succ_le hz); (try have y0 := wy w w1); (try have z0 := wz0 w w1); (try have z1 := wz1 w w1); (try have z2 := wz2 w w1); (try have z3 := wz3 w w1); (try have z4 := wz4 w w1); (try have x0 := wz0 wc w1); (try have x1 := wy wc w1)))
     exact bodyPost_ret (v := .tuple #[.agg #[.slice none 0 0, .map none], .bool false]) (by simp [results, Tryz.results117, go_sem, *]) rfl (netOf_no hQ.out rfl eX)
    ·skip
     have hPl := places_len b0 b1 b3
     have HM30 := lh (show d.nets.length ≤ 30 by have h' := b1; simp only [sizesB, Bool.and_eq_true, decide_eq_true_eq] at h'; exact h'.1.2)
     rw [b0] at C0
     rw [b1] at C1
     rw [b2] at C2
     rw [b3] at C3
     have C4 := lh (fun (w1 : World) (hb : Below w.heap.size w w1) => C4.out w1 hb b0 b1 b2 b3)
     have HD := lh (show desB ts d = drvB ts d by simp [desB, b0, b1, b2, b3])
     clear b0 b1 b2 b3
     obtain ⟨m, hmm⟩ : ∃ m, m = d.nets.length := ⟨_, rfl⟩
     have MM := lh hmm
     rw [← hmm] at hn C1 C2 C3 C4 HM30 ⊢
     clear hmm
     go_enter Tryz.func117, Tryz.ntmps117
     go_wp2_with (first | (go_at_call 147; refine (C0.out _ eX).mono ?_; rintro e w1 ⟨rfl, hb⟩; have ⟨hc, hf⟩ := bcell hb; have hz := hb.size; (try simp at hz); (try have hz := Nat.lt_of_succ_le hz); (try have y0 := wy w w1); (try have z0 := wz0 w w1); (try have z1 := wz1 w w1); (try have z2 := wz2 w w1); (try have z3 := wz3 w w1); (try have z4 := wz4 w w1); (try have x0 := wz0 wc w1); (try have x1 := wy wc w1)) | (go_at_call 148; refine (C1.out _ eX).mono ?_; rintro e w1 ⟨rfl, hb⟩; have ⟨hc, hf⟩ := bcell hb; have hz := hb.size; (try simp at hz); (try have hz := Nat.lt_of_succ_le hz); (try have y0 := wy w w1); (try have z0 := wz0 w w1); (try have z1 := wz1 w w1); (try have z2 := wz2 w w1); (try have z3 := wz3 w w1); (try have z4 := wz4 w w1); (try have x0 := wz0 wc w1); (try have x1 := wy wc w1)) | (go_at_call 149; refine (C2.out _ eX).mono ?_; rintro e w1 ⟨rfl, hb⟩; have ⟨hc, hf⟩ := bcell hb; have hz := hb.size; (try simp at hz); (try have hz := Nat.lt_of_succ_le hz); (try have y0 := wy w w1); (try have z0 := wz0 w w1); (try have z1 := wz1 w w1); (try have z2 := wz2 w w1); (try have z3 := wz3 w w1); (try have z4 := wz4 w w1); (try have x0 := wz0 wc w1); (try have x1 := wy wc w1)) | (go_at_call 150; refine (C3.out _ eX).mono ?_; rintro e w1 ⟨rfl, hb⟩; have ⟨hc, hf⟩ := bcell hb; have hz := hb.size; (try simp at hz); (try have hz := Nat.lt_of_succ_le hz); (try have y0 := wy w w1); (try have z0 := wz0 w w1); (try have z1 := wz1 w w1); (try have z2 := wz2 w w1); (try have z3 := wz3 w w1); (try have z4 := wz4 w w1); (try have x0 := wz0 wc w1); (try have x1 := wy wc w1)))
     refine (C4.out _ eX).mono ?_
     rintro e w5 ⟨nv, rfl, aa, cc, B, base, rfl, hB, hbase, hbs, hG, hE, hb⟩
     have hz5 := hb.size
     have bB : Below ((((w.alloc (Obj.cells #[.slice al ts.length cl] 39)).alloc (Obj.cells #[.slice a0 d.insts.length c0, .slice a1 m c1, .slice a2 d.ports.length c2] 43)).alloc (Obj.cells #[.slice none 0 0, .map none] 140))).heap.size (((w.alloc (Obj.cells #[.slice al ts.length cl] 39)).alloc (Obj.cells #[.slice a0 d.insts.length c0, .slice a1 m c1, .slice a2 d.ports.length c2] 43)).alloc (Obj.cells #[.slice none 0 0, .map none] 140)) w5 := eX
     have r1 : w5.cell? ⟨w.heap.size + 1, 1, none⟩ = some (.slice a1 m c1) := cell_keep (w0 := (((w.alloc (Obj.cells #[.slice al ts.length cl] 39)).alloc (Obj.cells #[.slice a0 d.insts.length c0, .slice a1 m c1, .slice a2 d.ports.length c2] 43)).alloc (Obj.cells #[.slice none 0 0, .map none] 140))) (by simp [go_sem]) bB
     have r40 : w5.cell? ⟨w.heap.size + 1 + 1, 0, none⟩ = some (.slice none 0 0) := cell_keep (w0 := (((w.alloc (Obj.cells #[.slice al ts.length cl] 39)).alloc (Obj.cells #[.slice a0 d.insts.length c0, .slice a1 m c1, .slice a2 d.ports.length c2] 43)).alloc (Obj.cells #[.slice none 0 0, .map none] 140))) (by simp [go_sem]) bB
     have r41 : w5.cell? ⟨w.heap.size + 1 + 1, 1, none⟩ = some (.map none) := cell_keep (w0 := (((w.alloc (Obj.cells #[.slice al ts.length cl] 39)).alloc (Obj.cells #[.slice a0 d.insts.length c0, .slice a1 m c1, .slice a2 d.ports.length c2] 43)).alloc (Obj.cells #[.slice none 0 0, .map none] 140))) (by simp [go_sem]) bB
     have rf0 : w5.frozen? ⟨w.heap.size + 1 + 1, 0, none⟩ = false := by rw [bB.frozen (p := ⟨w.heap.size + 1 + 1, 0, none⟩) (by simp)]; simp [go_sem]
     have rf1 : w5.frozen? ⟨w.heap.size + 1 + 1, 1, none⟩ = false := by rw [bB.frozen (p := ⟨w.heap.size + 1 + 1, 1, none⟩) (by simp)]; simp [go_sem]
     have bw5 : Below w.heap.size w w5 := eX
     have hm30 : m ≤ 30 := HM30.out
     have x2 : w.heap.size + 1 + 1 < w5.heap.size := cell_lt r40
     have x1 : w.heap.size + 1 < w5.heap.size := by omega
     have bA : Below w5.heap.size w5 (w5.alloc (Obj.cells #[.slice aa (places ts d).length cc, .map (some B)] 140)) := (Below.refl _ _).alloc (Nat.le_refl _) _
     have HG := lh (hG.below bA)
     have HE := lh (hE.kept (row := none) (grown_none bA none) (by simp) (fun k h => by cases h))
     have k1 := cell_keep r1 bA
     have k40 := cell_keep r40 bA
     have k41 := cell_keep r41 bA
     have kf0 : (w5.alloc (Obj.cells #[.slice aa (places ts d).length cc, .map (some B)] 140)).frozen? ⟨w.heap.size + 1 + 1, 0, none⟩ = false := by rw [bA.frozen (p := ⟨w.heap.size + 1 + 1, 0, none⟩) x2]; exact rf0
     have kf1 : (w5.alloc (Obj.cells #[.slice aa (places ts d).length cc, .map (some B)] 140)).frozen? ⟨w.heap.size + 1 + 1, 1, none⟩ = false := by rw [bA.frozen (p := ⟨w.heap.size + 1 + 1, 1, none⟩) x2]; exact rf1
     obtain ⟨W, hW⟩ : ∃ W, W = w5.alloc (Obj.cells #[.slice aa (places ts d).length cc, .map (some B)] 140) := ⟨_, rfl⟩
     have n0 : W.cell? ⟨w5.heap.size, 0, none⟩ = some (.slice aa (places ts d).length cc) := by rw [hW]; simp [go_sem]
     have n1 : W.cell? ⟨w5.heap.size, 1, none⟩ = some (.map (some B)) := by rw [hW]; simp [go_sem]
     have bW := bw5.trans (bA.mono bw5.size)
     rw [← hW] at HG HE k1 k40 k41 kf0 kf1 bA bW
     clear hb bB bw5
     go_wp2
     rw [← hW]
     clear hW r1 r40 r41 rf0 rf1
     go_loop [36] (fun i => ∃ k : Nat, k ≤ m ∧ i = .int .i64 k ∧ Hid (∀ j, j < k → (endsL (places ts d) (j : Nat) true).length = 1)) (fun i => m - (intOf i).toNat)
     case atStart => exact ⟨0, by omega, rfl, lh (fun j hj => absurd hj (Nat.not_lt_zero j))⟩
     case round =>
      obtain ⟨k, hk, rfl, hall⟩ := hrel
      by_cases hkm : k < m
      ·obtain ⟨u, hrun, _, hu, _⟩ := ends_look HE.out (by omega) (k : Int) true (WalkArith.wf_i64 (by omega))
       obtain ⟨pa, qa, rfl⟩ := hu.slice
       have hrun : (Instr.lookup 138 (.map (some B)) (.agg #[.int .i64 (k : Int), .bool true]) false).run Tryz.prog W = _ := hrun
       obtain ⟨L, hL⟩ : ∃ L, L = (endsL (places ts d) (k : Int) true).length := ⟨_, rfl⟩
       rw [← hL] at hrun
       have HL := lh hL
       have hI : (k : Int) < (m : Int) := by omega
       have i0 : (0 : Int) ≤ (k : Int) := by omega
       clear hu hL
       by_cases l1 : L = 1
       ·have l2 : ((L : Int) == 1) = true := by simp [l1]
        have l3 : ((L : Int) != 1) = false := by simp [l1]
        have hok := lh (all_next (P := fun j => (endsL (places ts d) (j : Nat) true).length = 1) hall.out (by rw [← HL.out]; exact l1))
        clear l1
        go_wp2
        go_round
        case rel => exact ⟨k + 1, by omega, by go_num, hok⟩
        case measure => simp [intOf]; omega
       ·have l2 : ((L : Int) == 1) = false := by simp; omega
        have l3 : ((L : Int) != 1) = true := by simp; omega
        have hQ := lh (show desB ts d = false by rw [HD.out]; exact allB_no (p := fun n : Nat => decide ((endsL (places ts d) n true).length = 1)) (k := k) (by rw [← MM.out]; exact hkm) (by simp only [decide_eq_false_iff_not]; rw [← HL.out]; exact l1))
        clear l1
        have x3 : w.heap.size + 1 + 1 < W.heap.size := cell_lt k40
        go_wp2
        exact bodyPost_ret (v := .tuple #[.agg #[.slice none 0 0, .map none], .bool false]) (by simp [results, Tryz.results117, go_sem, k40, k41, x3]) rfl (netOf_no hQ.out rfl eX)
      ·obtain rfl : k = m := by omega
       have hI : ¬ (k : Int) < (k : Int) := by omega
       have hQ := lh (show desB ts d = true by rw [HD.out]; exact allB_yes (p := fun n : Nat => decide ((endsL (places ts d) n true).length = 1)) (fun i hi => by simp only [decide_eq_true_eq]; exact hall.out i (by rw [MM.out]; exact hi)))
       have x3 : w.heap.size + 1 + 1 < W.heap.size := cell_lt k40
       have hwb : w.heap.size + 1 + 1 < base := by omega
       have hwB : w.heap.size + 1 + 1 < B := by omega
       go_wp2
       have g1 := grown_set W ⟨w.heap.size + 1 + 1, 0, none⟩ (.slice aa (places ts d).length cc)
       have g2 := grown_set (W.setCell ⟨w.heap.size + 1 + 1, 0, none⟩ (.slice aa (places ts d).length cc)) ⟨w.heap.size + 1 + 1, 1, none⟩ (.map (some B))
       have hG2 := (HG.out.kept g1 (fun q hq e => by have := (HG.out.blk q hq).1; simp at e; omega)).kept g2 (fun q hq e => by have := (HG.out.blk q hq).1; simp at e; omega)
       have hE2 := (HE.out.kept g1 (by simp; omega) (fun q hq => .inl (by simp at hq; omega))).kept g2 (by simp; omega) (fun q hq => .inl (by simp at hq; omega))
       have hV : NetV w ((W.setCell ⟨w.heap.size + 1 + 1, 0, none⟩ (.slice aa (places ts d).length cc)).setCell ⟨w.heap.size + 1 + 1, 1, none⟩ (.map (some B))) (places ts d) (.agg #[.slice aa (places ts d).length cc, .map (some B)]) := ⟨aa, cc, B, base, rfl, by omega, by omega, by have := g1.size; have := g2.size; have := bA.size; omega, hG2, hE2, eX⟩
       have hZ := hV.z (Below.refl _ _) (by omega)
       exact bodyPost_ret (v := .tuple #[.agg #[.slice aa (places ts d).length cc, .map (some B)], .bool true]) (by simp [results, Tryz.results117, go_sem, k40, k41, x3]) rfl ⟨_, by rw [hQ.out], by rw [placesZ_yes hQ.out]; exact hZ, fun _ => by rw [placesZ_yes hQ.out]; exact hV.k⟩
theorem netSinks_any (a : Option Addr) (n cap : Nat) (m : Option Nat) (P : List PlD) (x : Int) (w : World) (hwf : (Lit.int .i64 x).wf = true) (hK : ∀ wn, Below w.heap.size w wn → ∀ n d, (Lit.int .i64 n).wf = true → LookAt wn m P n d) :
  Calls Tryz.prog 119 #[.agg #[.slice a n cap, .map m], .int .i64 x] w fun e w' => (∃ u, e = .returned u ∧ IntS w' w'.heap.size u (endsL P x false) ∧ (endsL P x false = [] → u = .slice none 0 0)) ∧ Below w.heap.size w w' := by
 have bA : Below w.heap.size w (w.alloc (Obj.cells #[.slice a n cap, .map m] 140)) := (Below.refl _ _).alloc (Nat.le_refl _) _
 obtain ⟨u, hrun, _, hu, hn⟩ := hK _ bA x false hwf
 have hrun : (Instr.lookup 138 (.map m) (.agg #[.int .i64 x, .bool false]) false).run Tryz.prog (w.alloc (Obj.cells #[.slice a n cap, .map m] 140)) = .ok u _ := hrun
 have HU := lh hu
 have HB := lh bA
 have HN := lh hn
 obtain ⟨p, q, rfl⟩ := hu.slice
 clear hu hK bA hn
 go_enter Tryz.func119, Tryz.ntmps119
 go_wp2
 go_ret
 exact ⟨⟨_, rfl, HU.out, HN.out⟩, HB.out⟩
end Go.Proofs.YtkpfbnffhhmokaaGreat
