/-
Contracts of InstanceNamed, NetNamed and PortNamed (program and model), for all designs and strings.
-/
import Derived.Test.YtejomclnagakoaaIndexD
namespace Go.Proofs.Ytejomclnagakoaa
open Go.ChangeShapes Go.WideShapes Go.ChangeAt Go.RowKit
set_option linter.unusedVariables false
set_option linter.unusedSimpArgs false
set_option maxHeartbeats 2000000 in
theorem specInstanceNamed_any (f : Nat → Value) (d : DesD) (s : ByteArray) (w : World) (h : DesF w w.heap.size f d) : Calls Try.prog 9 #[.agg #[f 0, f 1, f 2], .string s] w fun e w' => e = .returned (.int .i64 (ix (fun i => (inn d.insts i).name.toList == s.toList) d.insts.length)) ∧ Below w.heap.size w w' := by
  obtain ⟨p0, q0, e0⟩ := h.1.slice; obtain ⟨p1, q1, e1⟩ := h.2.1.slice; obtain ⟨p2, q2, e2⟩ := h.2.2.slice
  obtain ⟨F, hc, hf⟩ := h.1
  rw [e0] at hc
  rw [e0, e1, e2]
  clear e0 e1 e2 h
  have HC := Lib.hid hc
  have HF := Lib.hid hf
  have hn := hc.1
  clear hc hf
  obtain ⟨ps, hps⟩ : ∃ ps, ps = d.insts := ⟨_, rfl⟩
  rw [← hps] at HC HF hn ⊢
  clear hps
  generalize d.insts.length = n0 at *
  generalize d.nets.length = n1 at *
  generalize d.ports.length = n2 at *
  obtain ⟨n, hnn⟩ : ∃ n, n = ps.length := ⟨_, rfl⟩
  rw [← hnn] at HC hn ⊢
  have HN := Lib.hid hnn
  clear hnn
  go_enter Try.func9, Try.ntmps9
  go_wp2
  go_loopw [5] (fun i wr => ∃ k : Nat, k ≤ n ∧ i = .int .i64 k ∧ Hid (∀ j, j < k → ((inn ps j).name.toList == s.toList) = false) ∧ Below w.heap.size w wr ∧ wr.cell? ⟨w.heap.size, 0, none⟩ = some (.slice p0 n q0)) (fun i _ => n - (intOf i).toNat)
  case atStart => exact ⟨0, by omega, rfl, Lib.hid (fun j hj => absurd hj (Nat.not_lt_zero j)), by (repeat (with_reducible first | exact eR _ _ | assumption | refine eA ?_ _ | refine eD ?_ | refine eN ?_ _ | refine eS ?_ _ | refine eT ?_ (by assumption))), by simp [go_sem]⟩
  case round =>
    obtain ⟨k, hk, rfl, hall, hbw, r0⟩ := hrel
    by_cases hkn : k < n
    · obtain ⟨b, off, e, hlt, hx⟩ := HC.out.at hbw hkn
      have y0 := hx 0 (by omega)
      rw [(HF.out k (by have := HN.out; omega)).1] at y0
      simp only [Nat.add_zero] at y0
      subst e
      have hI : (k : Int) < (n : Int) := by omega
      have i0 : (0 : Int) ≤ (k : Int) := by omega
      clear hx
      cases hd : ((inn ps k).name.toList == s.toList)
      · have hok := Lib.hid (all_more hall.out hd)
        go_wp2
        go_roundw
        case rel => exact ⟨k + 1, by omega, by go_num, hok, by (repeat (with_reducible first | exact eR _ _ | assumption | refine eA ?_ _ | refine eD ?_ | refine eN ?_ _ | refine eS ?_ _ | refine eT ?_ (by assumption))), by simp [go_sem, *]⟩
        case measure => simp [intOf]; omega
      · have hok := Lib.hid (ix_at (q := fun i => (inn ps i).name.toList == s.toList) hkn hd hall.out)
        go_wp2
        rw [hok.out]
        go_ret
        exact ⟨rfl, by (repeat (with_reducible first | exact eR _ _ | assumption | refine eA ?_ _ | refine eD ?_ | refine eN ?_ _ | refine eS ?_ _ | refine eT ?_ (by assumption)))⟩
    · obtain rfl : k = n := by omega
      have hok := Lib.hid (ix_none (q := fun i => (inn ps i).name.toList == s.toList) hall.out)
      have hI : ¬ (k : Int) < (k : Int) := by omega
      go_wp2
      rw [hok.out]
      go_ret
      exact ⟨rfl, by (repeat (with_reducible first | exact eR _ _ | assumption | refine eA ?_ _ | refine eD ?_ | refine eN ?_ _ | refine eS ?_ _ | refine eT ?_ (by assumption)))⟩
theorem implInstanceNamed_any (f : Nat → Value) (d : DesD) (s : ByteArray) (w : World) (h : DesF w w.heap.size f d) : Calls Try.prog 11 #[.agg #[f 0, f 1, f 2], .string s] w fun e w' => e = .returned (.int .i64 (ix (fun i => (inn d.insts i).name.toList == s.toList) d.insts.length)) ∧ Below w.heap.size w w' := by
  obtain ⟨p0, q0, e0⟩ := h.1.slice; obtain ⟨p1, q1, e1⟩ := h.2.1.slice; obtain ⟨p2, q2, e2⟩ := h.2.2.slice
  have HI := Lib.hid (fun (w1 : World) (hb : Below w.heap.size w w1) => ixIn_any (f 0) d.insts s w1 (h.1.up hb))
  rw [e0] at HI
  rw [e0, e1, e2]
  clear e0 e1 e2 h
  go_enter Try.func11, Try.ntmps11
  go_wp2_with (go_at_call 32; refine (HI.out _ (by (repeat (with_reducible first | exact eR _ _ | assumption | refine eA ?_ _ | refine eD ?_ | refine eN ?_ _ | refine eS ?_ _ | refine eT ?_ (by assumption))))).mono ?_; rintro e w1 ⟨rfl, hb⟩; obtain ⟨hc, hf⟩ := bcell hb; have hz := hb.size; (try simp at hz); (try (have hz := Nat.lt_of_succ_le hz)); (try (have y0 : w.heap.size ≤ w1.heap.size := by omega)); (try (have z0 : w.heap.size < w1.heap.size := by omega)); (try (have z1 : w.heap.size + 1 < w1.heap.size := by omega)); (try (have z2 : w.heap.size + 1 + 1 < w1.heap.size := by omega)); (try (have z3 : w.heap.size + 1 + 1 + 1 < w1.heap.size := by omega)); (try (have z4 : w.heap.size + 1 + 1 + 1 + 1 < w1.heap.size := by omega)); (try (have x0 : wc.heap.size < w1.heap.size := by omega)); (try (have x1 : wc.heap.size ≤ w1.heap.size := by omega)))
  go_ret
  exact ⟨rfl, by (repeat (with_reducible first | exact eR _ _ | assumption | refine eA ?_ _ | refine eD ?_ | refine eN ?_ _ | refine eS ?_ _ | refine eT ?_ (by assumption)))⟩
theorem implNetNamed_any (f : Nat → Value) (d : DesD) (s : ByteArray) (w : World) (h : DesF w w.heap.size f d) : Calls Try.prog 14 #[.agg #[f 0, f 1, f 2], .string s] w fun e w' => e = .returned (.int .i64 (ix (fun i => (sn d.nets i).toList == s.toList) d.nets.length)) ∧ Below w.heap.size w w' := by
  obtain ⟨p0, q0, e0⟩ := h.1.slice; obtain ⟨p1, q1, e1⟩ := h.2.1.slice; obtain ⟨p2, q2, e2⟩ := h.2.2.slice
  have HI := Lib.hid (fun (w1 : World) (hb : Below w.heap.size w w1) => ixSt_any (f 1) d.nets s w1 (h.2.1.up hb).q)
  rw [e1] at HI
  rw [e0, e1, e2]
  clear e0 e1 e2 h
  go_enter Try.func14, Try.ntmps14
  go_wp2_with (go_at_call 38; refine (HI.out _ (by (repeat (with_reducible first | exact eR _ _ | assumption | refine eA ?_ _ | refine eD ?_ | refine eN ?_ _ | refine eS ?_ _ | refine eT ?_ (by assumption))))).mono ?_; rintro e w1 ⟨rfl, hb⟩; obtain ⟨hc, hf⟩ := bcell hb; have hz := hb.size; (try simp at hz); (try (have hz := Nat.lt_of_succ_le hz)); (try (have y0 : w.heap.size ≤ w1.heap.size := by omega)); (try (have z0 : w.heap.size < w1.heap.size := by omega)); (try (have z1 : w.heap.size + 1 < w1.heap.size := by omega)); (try (have z2 : w.heap.size + 1 + 1 < w1.heap.size := by omega)); (try (have z3 : w.heap.size + 1 + 1 + 1 < w1.heap.size := by omega)); (try (have z4 : w.heap.size + 1 + 1 + 1 + 1 < w1.heap.size := by omega)); (try (have x0 : wc.heap.size < w1.heap.size := by omega)); (try (have x1 : wc.heap.size ≤ w1.heap.size := by omega)))
  go_ret
  exact ⟨rfl, by (repeat (with_reducible first | exact eR _ _ | assumption | refine eA ?_ _ | refine eD ?_ | refine eN ?_ _ | refine eS ?_ _ | refine eT ?_ (by assumption)))⟩
set_option maxHeartbeats 2000000 in
theorem specPortNamed_any (f : Nat → Value) (d : DesD) (s : ByteArray) (w : World) (h : DesF w w.heap.size f d) : Calls Try.prog 15 #[.agg #[f 0, f 1, f 2], .string s] w fun e w' => e = .returned (.int .i64 (ix (fun i => (ptn d.ports i).name.toList == s.toList) d.ports.length)) ∧ Below w.heap.size w w' := by
  obtain ⟨p0, q0, e0⟩ := h.1.slice; obtain ⟨p1, q1, e1⟩ := h.2.1.slice; obtain ⟨p2, q2, e2⟩ := h.2.2.slice
  obtain ⟨F, hc, hf⟩ := h.2.2
  rw [e2] at hc
  rw [e0, e1, e2]
  clear e0 e1 e2 h
  have HC := Lib.hid hc
  have HF := Lib.hid hf
  have hn := hc.1
  clear hc hf
  obtain ⟨ps, hps⟩ : ∃ ps, ps = d.ports := ⟨_, rfl⟩
  rw [← hps] at HC HF hn ⊢
  clear hps
  generalize d.insts.length = n0 at *
  generalize d.nets.length = n1 at *
  generalize d.ports.length = n2 at *
  obtain ⟨n, hnn⟩ : ∃ n, n = ps.length := ⟨_, rfl⟩
  rw [← hnn] at HC hn ⊢
  have HN := Lib.hid hnn
  clear hnn
  go_enter Try.func15, Try.ntmps15
  go_wp2
  go_loopw [5] (fun i wr => ∃ k : Nat, k ≤ n ∧ i = .int .i64 k ∧ Hid (∀ j, j < k → ((ptn ps j).name.toList == s.toList) = false) ∧ Below w.heap.size w wr ∧ wr.cell? ⟨w.heap.size, 2, none⟩ = some (.slice p2 n q2)) (fun i _ => n - (intOf i).toNat)
  case atStart => exact ⟨0, by omega, rfl, Lib.hid (fun j hj => absurd hj (Nat.not_lt_zero j)), by (repeat (with_reducible first | exact eR _ _ | assumption | refine eA ?_ _ | refine eD ?_ | refine eN ?_ _ | refine eS ?_ _ | refine eT ?_ (by assumption))), by simp [go_sem]⟩
  case round =>
    obtain ⟨k, hk, rfl, hall, hbw, r0⟩ := hrel
    by_cases hkn : k < n
    · obtain ⟨b, off, e, hlt, hx⟩ := HC.out.at hbw hkn
      have y0 := hx 0 (by omega)
      rw [(HF.out k (by have := HN.out; omega)).1] at y0
      simp only [Nat.add_zero] at y0
      subst e
      have hI : (k : Int) < (n : Int) := by omega
      have i0 : (0 : Int) ≤ (k : Int) := by omega
      clear hx
      cases hd : ((ptn ps k).name.toList == s.toList)
      · have hok := Lib.hid (all_more hall.out hd)
        go_wp2
        go_roundw
        case rel => exact ⟨k + 1, by omega, by go_num, hok, by (repeat (with_reducible first | exact eR _ _ | assumption | refine eA ?_ _ | refine eD ?_ | refine eN ?_ _ | refine eS ?_ _ | refine eT ?_ (by assumption))), by simp [go_sem, *]⟩
        case measure => simp [intOf]; omega
      · have hok := Lib.hid (ix_at (q := fun i => (ptn ps i).name.toList == s.toList) hkn hd hall.out)
        go_wp2
        rw [hok.out]
        go_ret
        exact ⟨rfl, by (repeat (with_reducible first | exact eR _ _ | assumption | refine eA ?_ _ | refine eD ?_ | refine eN ?_ _ | refine eS ?_ _ | refine eT ?_ (by assumption)))⟩
    · obtain rfl : k = n := by omega
      have hok := Lib.hid (ix_none (q := fun i => (ptn ps i).name.toList == s.toList) hall.out)
      have hI : ¬ (k : Int) < (k : Int) := by omega
      go_wp2
      rw [hok.out]
      go_ret
      exact ⟨rfl, by (repeat (with_reducible first | exact eR _ _ | assumption | refine eA ?_ _ | refine eD ?_ | refine eN ?_ _ | refine eS ?_ _ | refine eT ?_ (by assumption)))⟩
theorem implPortNamed_any (f : Nat → Value) (d : DesD) (s : ByteArray) (w : World) (h : DesF w w.heap.size f d) : Calls Try.prog 16 #[.agg #[f 0, f 1, f 2], .string s] w fun e w' => e = .returned (.int .i64 (ix (fun i => (ptn d.ports i).name.toList == s.toList) d.ports.length)) ∧ Below w.heap.size w w' := by
  obtain ⟨p0, q0, e0⟩ := h.1.slice; obtain ⟨p1, q1, e1⟩ := h.2.1.slice; obtain ⟨p2, q2, e2⟩ := h.2.2.slice
  have HI := Lib.hid (fun (w1 : World) (hb : Below w.heap.size w w1) => ixPo_any (f 2) d.ports s w1 (h.2.2.up hb))
  rw [e2] at HI
  rw [e0, e1, e2]
  clear e0 e1 e2 h
  go_enter Try.func16, Try.ntmps16
  go_wp2_with (go_at_call 40; refine (HI.out _ (by (repeat (with_reducible first | exact eR _ _ | assumption | refine eA ?_ _ | refine eD ?_ | refine eN ?_ _ | refine eS ?_ _ | refine eT ?_ (by assumption))))).mono ?_; rintro e w1 ⟨rfl, hb⟩; obtain ⟨hc, hf⟩ := bcell hb; have hz := hb.size; (try simp at hz); (try (have hz := Nat.lt_of_succ_le hz)); (try (have y0 : w.heap.size ≤ w1.heap.size := by omega)); (try (have z0 : w.heap.size < w1.heap.size := by omega)); (try (have z1 : w.heap.size + 1 < w1.heap.size := by omega)); (try (have z2 : w.heap.size + 1 + 1 < w1.heap.size := by omega)); (try (have z3 : w.heap.size + 1 + 1 + 1 < w1.heap.size := by omega)); (try (have z4 : w.heap.size + 1 + 1 + 1 + 1 < w1.heap.size := by omega)); (try (have x0 : wc.heap.size < w1.heap.size := by omega)); (try (have x1 : wc.heap.size ≤ w1.heap.size := by omega)))
  go_ret
  exact ⟨rfl, by (repeat (with_reducible first | exact eR _ _ | assumption | refine eA ?_ _ | refine eD ?_ | refine eN ?_ _ | refine eS ?_ _ | refine eT ?_ (by assumption)))⟩
set_option maxHeartbeats 2000000 in
theorem specIndex_any (v : Value) (us : List ByteArray) (s : ByteArray) (w : World) (h : TxS w w.heap.size v us) : Calls Try.prog 37 #[v, .string s] w fun e w' => e = .returned (.int .i64 (ix (fun i => (sn us i).toList == s.toList) us.length)) ∧ Below w.heap.size w w' := by
  obtain ⟨a, cap, rfl⟩ := h.slice
  have hn := h.len
  have H := Lib.hid h
  clear h
  go_enter Try.func37, Try.ntmps37
  go_wp2
  go_loopw [5] (fun i wr => ∃ k : Nat, k ≤ us.length ∧ i = .int .i64 k ∧ Hid (∀ j, j < k → ((sn us j).toList == s.toList) = false) ∧ Below w.heap.size w wr) (fun i _ => us.length - (intOf i).toNat)
  case atStart => exact ⟨0, by omega, rfl, Lib.hid (fun j hj => absurd hj (Nat.not_lt_zero j)), by (repeat (with_reducible first | exact eR _ _ | assumption | refine eA ?_ _ | refine eD ?_ | refine eN ?_ _ | refine eS ?_ _ | refine eT ?_ (by assumption)))⟩
  case round =>
    obtain ⟨k, hk, rfl, hall, hbw⟩ := hrel
    by_cases hkn : k < us.length
    · obtain ⟨b, off, rfl, hlt, y0⟩ := H.out.at hbw hkn
      have hI : (k : Int) < (us.length : Int) := by omega
      have i0 : (0 : Int) ≤ (k : Int) := by omega
      cases hd : ((sn us k).toList == s.toList)
      · have hok := Lib.hid (all_more hall.out hd)
        go_wp2
        go_roundw
        case rel => exact ⟨k + 1, by omega, by go_num, hok, by (repeat (with_reducible first | exact eR _ _ | assumption | refine eA ?_ _ | refine eD ?_ | refine eN ?_ _ | refine eS ?_ _ | refine eT ?_ (by assumption)))⟩
        case measure => simp [intOf]; omega
      · have hok := Lib.hid (ix_at (q := fun i => (sn us i).toList == s.toList) hkn hd hall.out)
        go_wp2
        rw [hok.out]
        go_ret
        exact ⟨rfl, by (repeat (with_reducible first | exact eR _ _ | assumption | refine eA ?_ _ | refine eD ?_ | refine eN ?_ _ | refine eS ?_ _ | refine eT ?_ (by assumption)))⟩
    · obtain rfl : k = us.length := by omega
      have hok := Lib.hid (ix_none (q := fun i => (sn us i).toList == s.toList) hall.out)
      have hI : ¬ (us.length : Int) < (us.length : Int) := by omega
      go_wp2
      rw [hok.out]
      go_ret
      exact ⟨rfl, by (repeat (with_reducible first | exact eR _ _ | assumption | refine eA ?_ _ | refine eD ?_ | refine eN ?_ _ | refine eS ?_ _ | refine eT ?_ (by assumption)))⟩
theorem specNetNamed_any (f : Nat → Value) (d : DesD) (s : ByteArray) (w : World) (h : DesF w w.heap.size f d) : Calls Try.prog 13 #[.agg #[f 0, f 1, f 2], .string s] w fun e w' => e = .returned (.int .i64 (ix (fun i => (sn d.nets i).toList == s.toList) d.nets.length)) ∧ Below w.heap.size w w' := by
  obtain ⟨p0, q0, e0⟩ := h.1.slice; obtain ⟨p1, q1, e1⟩ := h.2.1.slice; obtain ⟨p2, q2, e2⟩ := h.2.2.slice
  have HI := Lib.hid (fun (w1 : World) (hb : Below w.heap.size w w1) => specIndex_any (f 1) d.nets s w1 (h.2.1.up hb))
  rw [e1] at HI
  rw [e0, e1, e2]
  clear e0 e1 e2 h
  go_enter Try.func13, Try.ntmps13
  go_wp2_with (go_at_call 37; refine (HI.out _ (by (repeat (with_reducible first | exact eR _ _ | assumption | refine eA ?_ _ | refine eD ?_ | refine eN ?_ _ | refine eS ?_ _ | refine eT ?_ (by assumption))))).mono ?_; rintro e w1 ⟨rfl, hb⟩; obtain ⟨hc, hf⟩ := bcell hb; have hz := hb.size; (try simp at hz); (try (have hz := Nat.lt_of_succ_le hz)); (try (have y0 : w.heap.size ≤ w1.heap.size := by omega)); (try (have z0 : w.heap.size < w1.heap.size := by omega)); (try (have z1 : w.heap.size + 1 < w1.heap.size := by omega)); (try (have z2 : w.heap.size + 1 + 1 < w1.heap.size := by omega)); (try (have z3 : w.heap.size + 1 + 1 + 1 < w1.heap.size := by omega)); (try (have z4 : w.heap.size + 1 + 1 + 1 + 1 < w1.heap.size := by omega)); (try (have x0 : wc.heap.size < w1.heap.size := by omega)); (try (have x1 : wc.heap.size ≤ w1.heap.size := by omega)))
  go_ret
  exact ⟨rfl, by (repeat (with_reducible first | exact eR _ _ | assumption | refine eA ?_ _ | refine eD ?_ | refine eN ?_ _ | refine eS ?_ _ | refine eT ?_ (by assumption)))⟩
end Go.Proofs.Ytejomclnagakoaa
