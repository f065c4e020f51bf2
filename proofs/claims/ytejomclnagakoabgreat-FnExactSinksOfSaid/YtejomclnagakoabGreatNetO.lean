/-
The program's functions over designs.
-/
import Derived.Test.YtejomclnagakoabGreatNetF
import Derived.Test.YtejomclnagakoabGreatGrow
import Derived.Test.YtejomclnagakoabGreatClone
import Derived.Laws.AppendOwnNone
namespace Go.Proofs.YtejomclnagakoabGreat
open Go.ChangeShapes Go.WideShapes Go.ChangeAt Go.RowKit Go.Deep
set_option linter.unusedVariables false
set_option linter.unusedSimpArgs false
set_option maxRecDepth 100000
theorem made0 (w : World) (e : TypeId) (g : Nat) (hg : g = w.heap.size) : (w.alloc (Obj.cells #[] e)).ownsRow g e 1 (.slice (some ⟨g, 0, none⟩) 0 0) 0 [] := by
  subst hg
  exact World.ownsRow_made w #[] 0 (Nat.le_refl _) (by unfold maxLen; omega) rfl
theorem PlS.at {w wr : World} {a : Option Addr} {cap k : Nat} {P : List PlD} (h : PlS w w.heap.size (.slice a P.length cap) P) (hb : Below w.heap.size w wr) (hk : k < P.length) :
    ∃ b off, a = some ⟨b, off, none⟩ ∧ b < w.heap.size ∧ wr.cell? ⟨b, off + k * 6, none⟩ = some (.int .i64 (pll P k).inst) ∧ wr.cell? ⟨b, off + k * 6 + 1, none⟩ = some (.int .i64 (pll P k).pin) ∧ wr.cell? ⟨b, off + k * 6 + 2, none⟩ = some (.string (pll P k).name) ∧ wr.cell? ⟨b, off + k * 6 + 3, none⟩ = some (.int .i64 (pll P k).net) ∧ wr.cell? ⟨b, off + k * 6 + 4, none⟩ = some (.int .i64 (pll P k).load) ∧ wr.cell? ⟨b, off + k * 6 + 5, none⟩ = some (.bool (pll P k).drv) := by
  obtain ⟨F, hc, hf⟩ := h
  obtain ⟨b, off, rfl, hlt, hx⟩ := hc.at hb hk
  have y0 := hx 0 (by omega); have y1 := hx 1 (by omega); have y2 := hx 2 (by omega); have y3 := hx 3 (by omega); have y4 := hx 4 (by omega); have y5 := hx 5 (by omega)
  obtain ⟨e0, e1, e2, e3, e4, e5⟩ := hf k hk
  rw [e0] at y0; rw [e1] at y1; rw [e2] at y2; rw [e3] at y3; rw [e4] at y4; rw [e5] at y5
  exact ⟨b, off, rfl, hlt, by simpa using y0, y1, y2, y3, y4, y5⟩
def instanceOfZ (P : List PlD) (x : Int) : Int × Int := if inB x 0 ((P.length : Int) - 1) then ((pll P x.toNat).inst, (pll P x.toNat).pin) else (-1, -1)
def placeNameZ (P : List PlD) (x : Int) : ByteArray := if inB x 0 ((P.length : Int) - 1) then (pll P x.toNat).name else .empty
def netOfPlaceZ (P : List PlD) (x : Int) : Int := if inB x 0 ((P.length : Int) - 1) then (pll P x.toNat).net else -1
def placeCapZ (P : List PlD) (x : Int) : Int := if inB x 0 ((P.length : Int) - 1) then (pll P x.toNat).load else -1
def drvI (P : List PlD) (n : Int) : Int := if (endsL P n true).isEmpty then -1 else iv (endsL P n true) 0
def snkI (P : List PlD) (n : Int) : List Int := if (endsL P n true).isEmpty then [] else endsL P n false
set_option maxHeartbeats 4000000 in
theorem implSinksOf_any (v : Value) (f : Nat → Value) (ts : List CellD) (d : DesD) (x : Int) (w : World) (hl : CellsS w w.heap.size v ts) (h : DesF w w.heap.size f d) (hwf : (Lit.int .i64 x).wf = true) :
    Calls Tryz.prog 31 #[.agg #[v], .agg #[f 0, f 1, f 2], .int .i64 x] w fun e w' => ∃ u, e = .returned u ∧ OwnS w' w.heap.size u (snkI (placesZ ts d) x) ∧ Below w.heap.size w w' := by
  have C := Lib.hid (fun (w1 : World) (hb : Below w.heap.size w w1) => netlistOf_any v f ts d w1 (hl.up hb) (h.up hb))
  obtain ⟨al, cl, el⟩ := hl.slice
  obtain ⟨a0, c0, e0⟩ := h.1.slice; obtain ⟨a1, c1, e1⟩ := h.2.1.slice; obtain ⟨a2, c2, e2⟩ := h.2.2.slice
  rw [el, e0, e1, e2] at C ⊢
  clear hl h el e0 e1 e2
  have hPl := placesZ_len ts d
  unfold NetOf at C
  generalize hPP : placesZ ts d = P at C hPl ⊢
  clear hPP
  obtain ⟨i0, hi, hz0, hz1, hz2⟩ := info_parts Tryz.infoI64
  have hle := endsL_le P x false
  obtain ⟨L, hL⟩ : ∃ L, L = endsL P x true := ⟨_, rfl⟩
  have HL := Lib.hid hL
  clear hL
  obtain ⟨M, hM⟩ : ∃ M, M = endsL P x false := ⟨_, rfl⟩
  have HM := Lib.hid hM
  rw [← hM] at hle
  clear hM
  cases he : L.isEmpty
  · have hQ := Lib.hid (show snkI P x = M by unfold snkI; rw [← HL.out, he, ← HM.out]; rfl)
    rw [hQ.out]
    by_cases hp : 0 < M.length
    · skip
      go_enter Tryz.func31, Tryz.ntmps31
      go_wp2_with fail
      go_at_call 64
      refine (C.out _ (by (repeat (with_reducible first | exact eR _ _ | assumption | refine eA ?_ _ | refine eD ?_ | refine eN ?_ _ | refine eS ?_ _ | refine eT ?_ (by assumption))))).mono ?_
      rintro e w1 ⟨nv, rfl, aa, cc, m, rfl, hP, hLk, hb⟩
      have HP := Lib.hid hP
      have HK := Lib.hid hLk
      have hw1 := Lib.hid (show Below w.heap.size w w1 by (repeat (with_reducible first | exact eR _ _ | assumption | refine eA ?_ _ | refine eD ?_ | refine eN ?_ _ | refine eS ?_ _ | refine eT ?_ (by assumption))))
      have hz := hb.size
      clear hP hLk hb
      have bA : Below w1.heap.size w1 (w1.alloc (Obj.cells #[.slice aa P.length cc, .map m] 106)) := (Below.refl _ _).alloc (Nat.le_refl _) _
      have bC := Lib.hid (show Below w1.heap.size w1 ((w1.alloc (Obj.cells #[.slice aa P.length cc, .map m] 106)).alloc (Obj.cells #[] 2)) from bA.alloc (by simp) _)
      have G0 := Lib.hid (GI.lit (w1.alloc (Obj.cells #[.slice aa P.length cc, .map m] 106)) (w1.heap.size + 1) (w1.heap.size + 1) (by simp) (by simp) 2 rfl)
      obtain ⟨u, _, hrun, _, _⟩ := HK.out _ bA x true hwf
      rw [← HL.out, he] at hrun
      have hrun : (Instr.lookup 104 (.map m) (.agg #[.int .i64 x, .bool true]) true).run Tryz.prog (w1.alloc (Obj.cells #[.slice aa P.length cc, .map m] 106)) = .ok (.tuple #[u, .bool true]) _ := hrun
      clear he bA
      go_wp2_with fail
      go_at_call 65
      refine (netSinks_any aa P.length cc m P x _ hwf (fun wn hwn => HK.out wn (ext_trans bC.out hwn))).mono ?_
      rintro e w2 ⟨⟨q, rfl, hq, hqn⟩, hb2⟩
      rw [← HM.out] at hq hqn
      have G2 := Lib.hid (G0.out.below hb2)
      have bw2 := Lib.hid (show Below w.heap.size w w2 from (hw1.out.trans (bC.out.mono hw1.out.size)).trans (hb2.mono (by have := hw1.out.size; simp; omega)))
      have sz2 : w1.heap.size + 1 + 1 ≤ w2.heap.size := by have := hb2.size; simpa using this
      have sz1 := hw1.out.size
      clear hqn
      obtain ⟨_, pa, qa, rfl, hx⟩ := hq
      clear hb2
      obtain ⟨b, off, rfl, hlt, hxx⟩ := hx hp
      have HXX := Lib.hid hxx
      clear hx hxx
      go_wp2_with (at_builtin; refine wpList_append_own _ rfl _ _ 49 rfl (w1.heap.size + 1) 2 i0 (.int .i64 0) 1 8 Tryz.underlying49 hi hz0 hz1 hz2 rfl (by decide) (.slice (some ⟨w1.heap.size + 1, 0, none⟩) 0 0) 0 [] rfl G2.out ⟨b, off, none⟩ M.length qa (icells M) rfl (by simp [icells]) (int_cells HXX.out) icells_one (by unfold maxLen; omega) (by omega) (by omega) ?_; intro v' w3 hown' hgrow hnil)
      have hb3 : Below w.heap.size w w3 := bw2.out.grown hgrow (by omega) (fun k hk => by have := own_blk hk; omega)
      have O := Lib.hid (show OwnS w3 w.heap.size v' M from (row_own (by simpa using hown') (by omega)).mono (by omega))
      clear hnil hgrow hown'
      go_ret
      exact ⟨_, rfl, O.out, hb3⟩
    · skip
      go_enter Tryz.func31, Tryz.ntmps31
      go_wp2_with fail
      go_at_call 64
      refine (C.out _ (by (repeat (with_reducible first | exact eR _ _ | assumption | refine eA ?_ _ | refine eD ?_ | refine eN ?_ _ | refine eS ?_ _ | refine eT ?_ (by assumption))))).mono ?_
      rintro e w1 ⟨nv, rfl, aa, cc, m, rfl, hP, hLk, hb⟩
      have HP := Lib.hid hP
      have HK := Lib.hid hLk
      have hw1 := Lib.hid (show Below w.heap.size w w1 by (repeat (with_reducible first | exact eR _ _ | assumption | refine eA ?_ _ | refine eD ?_ | refine eN ?_ _ | refine eS ?_ _ | refine eT ?_ (by assumption))))
      have hz := hb.size
      clear hP hLk hb
      have bA : Below w1.heap.size w1 (w1.alloc (Obj.cells #[.slice aa P.length cc, .map m] 106)) := (Below.refl _ _).alloc (Nat.le_refl _) _
      have bC := Lib.hid (show Below w1.heap.size w1 ((w1.alloc (Obj.cells #[.slice aa P.length cc, .map m] 106)).alloc (Obj.cells #[] 2)) from bA.alloc (by simp) _)
      have G0 := Lib.hid (GI.lit (w1.alloc (Obj.cells #[.slice aa P.length cc, .map m] 106)) (w1.heap.size + 1) (w1.heap.size + 1) (by simp) (by simp) 2 rfl)
      obtain ⟨u, _, hrun, _, _⟩ := HK.out _ bA x true hwf
      rw [← HL.out, he] at hrun
      have hrun : (Instr.lookup 104 (.map m) (.agg #[.int .i64 x, .bool true]) true).run Tryz.prog (w1.alloc (Obj.cells #[.slice aa P.length cc, .map m] 106)) = .ok (.tuple #[u, .bool true]) _ := hrun
      clear he bA
      go_wp2_with fail
      go_at_call 65
      refine (netSinks_any aa P.length cc m P x _ hwf (fun wn hwn => HK.out wn (ext_trans bC.out hwn))).mono ?_
      rintro e w2 ⟨⟨q, rfl, hq, hqn⟩, hb2⟩
      rw [← HM.out] at hq hqn
      have G2 := Lib.hid (G0.out.below hb2)
      have bw2 := Lib.hid (show Below w.heap.size w w2 from (hw1.out.trans (bC.out.mono hw1.out.size)).trans (hb2.mono (by have := hw1.out.size; simp; omega)))
      have sz2 : w1.heap.size + 1 + 1 ≤ w2.heap.size := by have := hb2.size; simpa using this
      have sz1 := hw1.out.size
      obtain rfl : M = [] := by cases M with | nil => rfl | cons a b => simp at hp
      obtain rfl := hqn rfl
      clear hb2 hq hqn
      go_wp2_with (at_builtin; refine wpList_append_own_none rfl _ _ 49 rfl (w1.heap.size + 1) 2 i0 1 Tryz.underlying49 hi (.slice (some ⟨w1.heap.size + 1, 0, none⟩) 0 0) 0 [] rfl G2.out rfl ?_)
      go_ret
      exact ⟨_, rfl, ⟨by simp, _, _, rfl, fun hp => absurd hp (by simp)⟩, bw2.out⟩
  · have hQ := Lib.hid (show snkI P x = [] by unfold snkI; rw [← HL.out, he]; rfl)
    rw [hQ.out]
    go_enter Tryz.func31, Tryz.ntmps31
    go_wp2_with fail
    go_at_call 64
    refine (C.out _ (by (repeat (with_reducible first | exact eR _ _ | assumption | refine eA ?_ _ | refine eD ?_ | refine eN ?_ _ | refine eS ?_ _ | refine eT ?_ (by assumption))))).mono ?_
    rintro e w1 ⟨nv, rfl, aa, cc, m, rfl, hP, hLk, hb⟩
    have HP := Lib.hid hP
    have HK := Lib.hid hLk
    obtain ⟨hc, hf⟩ := bcell hb
    have hz := hb.size
    clear hP hLk
    have bA : Below w1.heap.size w1 (w1.alloc (Obj.cells #[.slice aa P.length cc, .map m] 106)) := (Below.refl _ _).alloc (Nat.le_refl _) _
    obtain ⟨u, _, hrun, _, _⟩ := HK.out _ bA x true hwf
    rw [← HL.out, he] at hrun
    have hrun : (Instr.lookup 104 (.map m) (.agg #[.int .i64 x, .bool true]) true).run Tryz.prog (w1.alloc (Obj.cells #[.slice aa P.length cc, .map m] 106)) = .ok (.tuple #[u, .bool false]) _ := hrun
    clear he
    go_wp2
    go_ret
    exact ⟨_, rfl, ⟨by simp, none, 0, rfl, fun hp => absurd hp (by simp)⟩, by (repeat (with_reducible first | exact eR _ _ | assumption | refine eA ?_ _ | refine eD ?_ | refine eN ?_ _ | refine eS ?_ _ | refine eT ?_ (by assumption)))⟩
end Go.Proofs.YtejomclnagakoabGreat
