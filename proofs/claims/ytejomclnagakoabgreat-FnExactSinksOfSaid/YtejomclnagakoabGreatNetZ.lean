/-
The program's answers over designs, in the model's words.
-/
import Derived.Test.YtejomclnagakoabGreatNetQ
import Derived.Test.YtejomclnagakoabGreatNetO
import Derived.Test.YtejomclnagakoabGreatOpenD
namespace Go.Proofs.YtejomclnagakoabGreat
open Go.ChangeShapes Go.WideShapes Go.ChangeAt Go.RowKit Go.Deep
set_option linter.unusedVariables false
theorem placesZY (ts : List CellD) (d : DesD) : placesZ ts d = placesY ts d := rfl
theorem instZY (ts : List CellD) (d : DesD) (x : Int) : instanceOfZ (placesZ ts d) x = instanceOfY (placesY ts d) x := rfl
theorem nameZY (ts : List CellD) (d : DesD) (x : Int) : placeNameZ (placesZ ts d) x = placeNameY (placesY ts d) x := rfl
theorem netZY (ts : List CellD) (d : DesD) (x : Int) : netOfPlaceZ (placesZ ts d) x = netOfPlaceY (placesY ts d) x := rfl
theorem capZY (ts : List CellD) (d : DesD) (x : Int) : placeCapZ (placesZ ts d) x = placeCapY (placesY ts d) x := rfl
theorem endsL_head {P : List PlD} {n : Int} {b : Bool} {z : Int} {r : List Int} (h : endsL P n b = z :: r) : ∃ k : Nat, z = (k : Int) ∧ k < P.length ∧ atEnd n b (pll P k) = true ∧ ∀ j, j < k → atEnd n b (pll P j) = false := by
  unfold endsL at h
  cases e : (List.range P.length).filter (fun i => atEnd n b (pll P i)) with
  | nil => rw [e] at h; cases h
  | cons k q =>
    rw [e] at h
    simp only [List.map_cons, List.cons.injEq] at h
    have hk : k ∈ (List.range P.length).filter (fun i => atEnd n b (pll P i)) := by rw [e]; exact List.mem_cons_self ..
    have hk' := List.mem_filter.1 hk
    refine ⟨k, h.1.symm, List.mem_range.1 hk'.1, hk'.2, fun j hj => ?_⟩
    cases hq : atEnd n b (pll P j)
    · rfl
    · have hjm : j ∈ (List.range P.length).filter (fun i => atEnd n b (pll P i)) := List.mem_filter.2 ⟨List.mem_range.2 (by have := List.mem_range.1 hk'.1; omega), hq⟩
      have hp : ((List.range P.length).filter (fun i => atEnd n b (pll P i))).Pairwise (· < ·) := List.Pairwise.filter _ List.pairwise_lt_range
      rw [e] at hjm hp
      rcases List.mem_cons.1 hjm with rfl | hjm
      · omega
      · have := (List.pairwise_cons.1 hp).1 j hjm
        omega
theorem drv_ix (P : List PlD) (n : Int) : drvI P n = ix (fun i => ((pll P i).net == n && (pll P i).drv)) P.length := by
  have hb : ∀ i, atEnd n true (pll P i) = ((pll P i).net == n && (pll P i).drv) := fun i => by cases h : (pll P i).drv <;> simp [atEnd, h]
  unfold drvI
  cases e : endsL P n true with
  | nil =>
    refine Eq.trans (if_pos rfl) (ix_none (fun j hj => ?_)).symm
    rw [← hb]
    cases hq : atEnd n true (pll P j)
    · rfl
    · have : (j : Int) ∈ endsL P n true := List.mem_map.2 ⟨j, List.mem_filter.2 ⟨List.mem_range.2 hj, hq⟩, rfl⟩
      rw [e] at this
      cases this
  | cons z r =>
    obtain ⟨k, rfl, hk, h1, h0⟩ := endsL_head e
    refine Eq.trans (if_neg (by simp)) (ix_at hk (by rw [← hb]; exact h1) (fun j hj => by rw [← hb]; exact h0 j hj)).symm
/-- In a design that is valid a net that has a sink has a driver. -/
theorem snk_is (ts : List CellD) (d : DesD) (n : Int) : snkI (placesZ ts d) n = endsL (placesY ts d) n false := by
  rw [placesZY]
  unfold snkI
  cases hd : desB ts d
  · rw [placesY_no hd]; rfl
  rw [placesY_yes hd]
  cases e : endsL (places ts d) n true with
  | cons z r => rfl
  | nil =>
    show [] = _
    cases e2 : endsL (places ts d) n false with
    | nil => rfl
    | cons z r =>
      obtain ⟨k, _, hk, h1, _⟩ := endsL_head e2
      have hn : (pll (places ts d) k).net = n := by simp only [atEnd, Bool.and_eq_true, beq_iff_eq] at h1; exact h1.1
      have hcn := (desG hd).2.2.2.1
      have hr : 0 ≤ n ∧ n < d.nets.length := by
        rcases pll_cases hk with ⟨i, j, hi, hj, ep⟩ | ⟨j, hj, ep⟩
        · rw [ep] at hn
          obtain ⟨_, _, hnp, hv⟩ := conn_inst hcn hi
          have := hv j (by rw [hnp]; exact hj)
          rw [← hn]
          exact this
        · rw [ep] at hn
          have := (conn_port hcn hj).2
          rw [← hn]
          exact this
      have hdr := (desG hd).2.2.2.2
      have := allB_get (p := fun n : Nat => decide ((endsL (places ts d) n true).length = 1)) hdr n.toNat (by omega)
      simp only [decide_eq_true_eq] at this
      rw [show ((n.toNat : Nat) : Int) = n by omega, e] at this
      simp at this
end Go.Proofs.YtejomclnagakoabGreat
