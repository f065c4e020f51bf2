/-
Contracts of the model's decimal numerals (l01Number), for all numbers from 0 on.
-/
import Derived.Test.YtohlajoaheaplaaDoorNum
import Derived.Lib.ItoaNum
import Derived.Lib.ItoaLen
import Derived.Laws.Concat
import Derived.WalkSpells
import Derived.WalkLawsBesides
import Derived.Laws.IdiomStrings
namespace Go.Proofs.YtohlajoaheaplaaDoor
open Go.ChangeShapes Go.WideShapes Go.ChangeAt Go.RowKit
set_option linter.unusedVariables false
theorem ret_str {a b : List UInt8} (h : a = b) : Ending.returned (.string ⟨a.toArray⟩) = .returned (.string ⟨b.toArray⟩) := by rw [h]
theorem conv_one {P : Program} {src dst e : TypeId} (x : Int) (hx : 0 ≤ x ∧ x ≤ 255) (hs : P.underlying src = some (.slice e)) (he : P.underlying e = some (.int .u8)) (hd : P.underlying dst = some .string) :
    ∀ (W : World) (b : Nat), W.cell? ⟨b, 0, none⟩ = some (.int .u8 x) → (convert src dst (.slice (some ⟨b, 0, none⟩) 1 1)).run P W = .ok (.string ⟨[UInt8.ofNat x.toNat].toArray⟩) W := by
  intro W b hc
  refine run_convert_bytes_back (P := P) W src dst e ⟨b, 0, none⟩ 1 [UInt8.ofNat x.toNat] hs he hd (fun j hj => ?_)
  obtain rfl : j = 0 := by simpa using hj
  have e : max x 0 % 256 = x := by omega
  simpa [Addr.add, e] using hc
theorem number_any (k : Nat) : ∀ (n : Int) (w : World), n.toNat < k → 0 ≤ n → n ≤ 9223372036854775807 →
    Calls Tryd.prog 29 #[.int .i64 n] w fun e w' => e = .returned (.string ⟨(Lib.decDigits n.toNat).toArray⟩) ∧ Below w.heap.size w w' := by
  induction k with
  | zero => intro n w hk; omega
  | succ k ih =>
    intro n w hk h0 h1
    by_cases hs : n < 10
    · have hcv := conv_one (48 + n) (by omega) Tryd.underlying53 Tryd.underlying5 Tryd.underlying9
      go_enter Tryd.func29, Tryd.ntmps29
      go_wp2_with fail
      go_ret
      refine ⟨?_, by (repeat (with_reducible first | exact eR _ _ | assumption | refine eA ?_ _ | refine eD ?_ | refine eN ?_ _ | refine eS ?_ _ | refine eT ?_ (by assumption)))⟩
      rw [Lib.decDigits, dif_pos (by omega)]
      have e : (48 + n).toNat = 48 + n.toNat := by omega
      exact ret_str (by rw [e])
    · go_enter Tryd.func29, Tryd.ntmps29
      go_wp2_with fail
      have hcv := conv_one (48 + n % 10) (by omega) Tryd.underlying53 Tryd.underlying5 Tryd.underlying9
      have hI := ih (n / 10)
      have q0 : (n / 10).toNat < k := by omega
      have q1 : 0 ≤ n / 10 := by omega
      have q2 : n / 10 ≤ 9223372036854775807 := by omega
      have e1 : IntKind.i64.wrap (n.tdiv 10) = n / 10 := by rw [Int.tdiv_eq_ediv_of_nonneg h0]; exact IntWalk.i64_in _ (by omega)
      have e2 : IntKind.i64.wrap (48 + n.tmod 10) = 48 + n % 10 := by rw [Int.tmod_eq_emod_of_nonneg h0]; exact IntWalk.i64_in _ (by omega)
      have e3 : IntKind.u8.wrap (48 + n % 10) = 48 + n % 10 := by simp [IntKind.wrap, IntKind.signed, IntKind.bits]; omega
      have hl : (Lib.decDigits (n / 10).toNat).length ≤ 20 := by rw [Lib.decDigits_length]; exact Lib.nDigits_le20 _ (by omega)
      have hl2 : (Lib.decDigits (n / 10).toNat).length + 1 ≤ 9223372036854775807 := by omega
      have hl3 : ¬ 9223372036854775807 < (Lib.decDigits (n / 10).toNat).length + 1 := by omega
      have hl4 : ¬ (9223372036854775807 : Int) < ((Lib.decDigits (n / 10).toNat).length : Int) + 1 := by omega
      have HF : Hid (Lib.decDigits n.toNat = Lib.decDigits (n / 10).toNat ++ [UInt8.ofNat (48 + n % 10).toNat]) := Lib.hid (by
        rw [Lib.decDigits, dif_neg (by omega)]
        have a1 : n.toNat / 10 = (n / 10).toNat := by omega
        have a2 : 48 + n.toNat % 10 = (48 + n % 10).toNat := by omega
        rw [a1, a2])
      go_region_with (go_at_call 29; refine (hI _ q0 q1 q2).mono ?_; rintro e w1 ⟨rfl, hb⟩; obtain ⟨hc, hf⟩ := bcell hb; have hz := hb.size; (try simp at hz); (try (have hz := Nat.lt_of_succ_le hz)))
      all_goals go_wp2_with fail
      all_goals (go_ret; rw [HF.out]; refine ⟨?_, by (repeat (with_reducible first | exact eR _ _ | assumption | refine eA ?_ _ | refine eD ?_ | refine eN ?_ _ | refine eS ?_ _ | refine eT ?_ (by assumption)))⟩)
      all_goals exact ret_str rfl
end Go.Proofs.YtohlajoaheaplaaDoor
