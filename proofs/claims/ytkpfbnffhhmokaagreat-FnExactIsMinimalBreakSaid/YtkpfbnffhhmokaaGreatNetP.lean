/-
The places of a design, what is at the ends of a net, and the rules of a design: plain lists, no program.
-/
import Derived.Test.YtkpfbnffhhmokaaGreatLib
import Derived.Test.YtkpfbnffhhmokaaGreatDes
namespace Go.Proofs.YtkpfbnffhhmokaaGreat
open Go.ChangeShapes Go.WideShapes Go.ChangeAt Go.RowKit
set_option linter.unusedVariables false
set_option linter.unusedSimpArgs false
/-! The places of a design. -/
structure PlD where
 inst : Int
 pin : Int
 name : ByteArray
 net : Int
 load : Int
 drv : Bool
def pll (P : List PlD) (i : Nat) : PlD := P.getD i ⟨0, 0, .empty, 0, 0, false⟩
def xcell (ts : List CellD) (x : InstD) : CellD := cn ts x.cell.toNat
def pinNm (a b : ByteArray) : ByteArray := (a ++ ⟨#[47]⟩) ++ b
def plI (ts : List CellD) (x : InstD) (i k : Nat) : PlD := ⟨i, k, pinNm x.name (pn (xcell ts x).pins k).name, iv x.nets k, (pn (xcell ts x).pins k).cap, decide ((pn (xcell ts x).pins k).dir = 2)⟩
def plsI (ts : List CellD) (x : InstD) (i m : Nat) : List PlD := (List.range m).map (plI ts x i)
def pls (ts : List CellD) (d : DesD) (n : Nat) : List PlD := (List.range n).flatMap (fun i => plsI ts (inn d.insts i) i (xcell ts (inn d.insts i)).pins.length)
def plP (d : DesD) (k : Nat) : PlD := ⟨-1, k, (ptn d.ports k).name, (ptn d.ports k).net, 0, decide ((ptn d.ports k).dir = 1)⟩
def plsP (d : DesD) (m : Nat) : List PlD := (List.range m).map (plP d)
def places (ts : List CellD) (d : DesD) : List PlD := pls ts d d.insts.length ++ plsP d d.ports.length
theorem plsI_succ (ts : List CellD) (x : InstD) (i m : Nat) : plsI ts x i (m + 1) = plsI ts x i m ++ [plI ts x i m] := by simp [plsI, List.range_succ]
theorem pls_succ (ts : List CellD) (d : DesD) (n : Nat) : pls ts d (n + 1) = pls ts d n ++ plsI ts (inn d.insts n) n (xcell ts (inn d.insts n)).pins.length := by simp [pls, List.range_succ]
theorem plsP_succ (d : DesD) (m : Nat) : plsP d (m + 1) = plsP d m ++ [plP d m] := by simp [plsP, List.range_succ]
/-! What becomes of the ends of a net. -/
def atEnd (n : Int) (b : Bool) (p : PlD) : Bool := p.net == n && p.drv == b
def endsL (P : List PlD) (n : Int) (b : Bool) : List Int := ((List.range P.length).filter (fun i => atEnd n b (pll P i))).map (fun i : Nat => (i : Int))
theorem pll_left (P Q : List PlD) (i : Nat) (h : i < P.length) : pll (P ++ Q) i = pll P i := by simp [pll, List.getD, List.getElem?_append_left h]
theorem pll_snoc (P : List PlD) (p : PlD) : pll (P ++ [p]) P.length = p := by simp [pll, List.getD]
theorem endsL_snoc (P : List PlD) (p : PlD) (n : Int) (b : Bool) : endsL (P ++ [p]) n b = if atEnd n b p then endsL P n b ++ [(P.length : Int)] else endsL P n b := by
 have h : (List.range P.length).filter (fun i => atEnd n b (pll (P ++ [p]) i)) = (List.range P.length).filter (fun i => atEnd n b (pll P i)) :=
  List.filter_congr (fun i hi => by rw [pll_left P [p] i (List.mem_range.1 hi)])
 unfold endsL
 rw [List.length_append, List.length_singleton, List.range_succ, List.filter_append, h]
 by_cases e : atEnd n b p = true
 ·simp [pll_snoc, e]
 ·simp [pll_snoc, e]
theorem endsL_len (P : List PlD) (n : Int) (b : Bool) : (endsL P n b).length = (P.filter (atEnd n b)).length := by
 have key : ∀ (m : Nat), m ≤ P.length → ((List.range m).filter (fun i => atEnd n b (pll P i))).length = ((P.take m).filter (atEnd n b)).length := by
  intro m
  induction m with
  | zero => intro _; simp
  | succ m ih =>
   intro hm
   have e : pll P m = P[m] := by simp [pll, List.getD, List.getElem?_eq_getElem (show m < P.length by omega)]
   rw [List.range_succ, List.filter_append, List.length_append, ih (by omega), List.take_succ_eq_append_getElem (by omega), List.filter_append, List.length_append]
   by_cases h : atEnd n b P[m] = true
   ·simp [e, h]
   ·simp [e, h]
 have := key P.length (Nat.le_refl _)
 rw [List.take_length] at this
 unfold endsL
 rw [List.length_map, this]
/-! The rules of a design. -/
def difN (nm : Nat → ByteArray) (k : Nat) : Bool := allB (fun j => !((nm j).toList == (nm k).toList)) k
def namesB (nm : Nat → ByteArray) (n : Nat) : Bool := allB (fun i => nameB (nm i)) n && allB (difN nm) n
theorem names_bad {nm : Nat → ByteArray} {n k : Nat} (hk : k < n) (h : nameB (nm k) = false) : namesB nm n = false := by
 unfold namesB
 rw [allB_no (p := fun i => nameB (nm i)) hk h]
 rfl
theorem names_all {nm : Nat → ByteArray} {n : Nat} (h : ∀ i, i < n → nameB (nm i) = true) : namesB nm n = allB (difN nm) n := by
 unfold namesB
 rw [allB_yes (p := fun i => nameB (nm i)) h]
 rfl
def netsOk (m : Nat) (x : InstD) : Bool := allB (fun k => inB (iv x.nets k) 0 ((m : Int) - 1)) x.nets.length
def instOk (ts : List CellD) (m : Nat) (x : InstD) : Bool := inB x.cell 0 ((ts.length : Int) - 1) && decide (x.nets.length = (xcell ts x).pins.length) && netsOk m x
def portOk (m : Nat) (p : PortD) : Bool := (decide (p.dir = 1) || decide (p.dir = 2)) && inB p.net 0 ((m : Int) - 1)
def connB (ts : List CellD) (d : DesD) : Bool := allB (fun i => instOk ts d.nets.length (inn d.insts i)) d.insts.length && allB (fun i => portOk d.nets.length (ptn d.ports i)) d.ports.length
def drvB (ts : List CellD) (d : DesD) : Bool := allB (fun n : Nat => decide ((endsL (places ts d) n true).length = 1)) d.nets.length
def sizesB (d : DesD) : Bool := decide (d.insts.length ≤ 14) && decide (d.nets.length ≤ 30) && decide (d.ports.length ≤ 8)
def hasNm (d : DesD) : Bool := namesB (fun i => (inn d.insts i).name) d.insts.length && namesB (sn d.nets) d.nets.length && namesB (fun i => (ptn d.ports i).name) d.ports.length
def desB (ts : List CellD) (d : DesD) : Bool := libB ts && sizesB d && hasNm d && connB ts d && drvB ts d
theorem conn_bad_i {ts : List CellD} {d : DesD} {k : Nat} (hk : k < d.insts.length) (h : instOk ts d.nets.length (inn d.insts k) = false) : connB ts d = false := by
 unfold connB
 rw [allB_no (p := fun i => instOk ts d.nets.length (inn d.insts i)) hk h]
 rfl
theorem conn_bad_p {ts : List CellD} {d : DesD} {k : Nat} (hk : k < d.ports.length) (h : portOk d.nets.length (ptn d.ports k) = false) : connB ts d = false := by
 unfold connB
 rw [allB_no (p := fun i => portOk d.nets.length (ptn d.ports i)) hk h, Bool.and_false]
theorem conn_all {ts : List CellD} {d : DesD} (h : ∀ k, k < d.insts.length → instOk ts d.nets.length (inn d.insts k) = true) (h' : ∀ k, k < d.ports.length → portOk d.nets.length (ptn d.ports k) = true) : connB ts d = true := by
 unfold connB
 rw [allB_yes (p := fun i => instOk ts d.nets.length (inn d.insts i)) h, allB_yes (p := fun i => portOk d.nets.length (ptn d.ports i)) h']
 rfl
theorem inst_cell {ts : List CellD} {m : Nat} {x : InstD} (h : inB x.cell 0 ((ts.length : Int) - 1) = false) : instOk ts m x = false := by simp [instOk, h]
theorem inst_len {ts : List CellD} {m : Nat} {x : InstD} (h : ¬ x.nets.length = (xcell ts x).pins.length) : instOk ts m x = false := by simp [instOk, h]
theorem inst_nets {ts : List CellD} {m : Nat} {x : InstD} (h : inB x.cell 0 ((ts.length : Int) - 1) = true) (h1 : x.nets.length = (xcell ts x).pins.length) : instOk ts m x = netsOk m x := by simp [instOk, h, h1]
theorem port_dir {m : Nat} {p : PortD} (h : ¬ p.dir = 1) (h1 : ¬ p.dir = 2) : portOk m p = false := by simp [portOk, h, h1]
theorem port_net {m : Nat} {p : PortD} (h : p.dir = 1 ∨ p.dir = 2) : portOk m p = inB p.net 0 ((m : Int) - 1) := by
 rcases h with h | h <;> simp [portOk, h]
theorem conn_inst {ts : List CellD} {d : DesD} (h : connB ts d = true) {i : Nat} (hi : i < d.insts.length) : 0 ≤ (inn d.insts i).cell ∧ (inn d.insts i).cell < ts.length ∧ (inn d.insts i).nets.length = (xcell ts (inn d.insts i)).pins.length ∧ ∀ k, k < (inn d.insts i).nets.length → 0 ≤ iv (inn d.insts i).nets k ∧ iv (inn d.insts i).nets k < d.nets.length := by
 simp only [connB, Bool.and_eq_true] at h
 have h1 := allB_get h.1 i hi
 simp only [instOk, netsOk, inB, Bool.and_eq_true, decide_eq_true_eq] at h1
 obtain ⟨⟨⟨a, b⟩, c⟩, e⟩ := h1
 refine ⟨a, by omega, c, fun k hk => ?_⟩
 have := allB_get e k hk
 simp only [Bool.and_eq_true, decide_eq_true_eq] at this
 omega
theorem conn_port {ts : List CellD} {d : DesD} (h : connB ts d = true) {i : Nat} (hi : i < d.ports.length) : ((ptn d.ports i).dir = 1 ∨ (ptn d.ports i).dir = 2) ∧ 0 ≤ (ptn d.ports i).net ∧ (ptn d.ports i).net < d.nets.length := by
 simp only [connB, Bool.and_eq_true] at h
 have h1 := allB_get h.2 i hi
 simp only [portOk, inB, Bool.and_eq_true, Bool.or_eq_true, decide_eq_true_eq] at h1
 omega
theorem lib_cell {ts : List CellD} (h : libB ts = true) {x : InstD} (h0 : 0 ≤ x.cell) (h1 : x.cell < ts.length) : cellB (xcell ts x) = true := by
 simp only [libB, Bool.and_eq_true] at h
 exact allB_get (p := fun i => cellB (cn ts i)) h.1.2 x.cell.toNat (by omega)
theorem pin_drv {c : CellD} (h : cellB c = true) {k : Nat} (hk : k < c.pins.length) : decide ((pn c.pins k).dir = 2) = decide (k + 1 = c.pins.length) := by
 have h2 := (pins_get (cell_get h).1).2.2.1 k hk
 unfold pinOk at h2
 by_cases e : k + 1 = c.pins.length
 ·rw [if_pos e] at h2
  simp only [Bool.and_eq_true, decide_eq_true_eq] at h2
  simp [e, h2.2.1.1]
 ·rw [if_neg e] at h2
  simp only [Bool.and_eq_true, decide_eq_true_eq] at h2
  simp [e, h2.2]
/-! The model's places: no names, no loads, the last pin drives. -/
def mpI (x : InstD) (i k : Nat) : PlD := ⟨i, k, .empty, iv x.nets k, 0, decide (k + 1 = x.nets.length)⟩
def mplsI (x : InstD) (i m : Nat) : List PlD := (List.range m).map (mpI x i)
def mpls (d : DesD) (n : Nat) : List PlD := (List.range n).flatMap (fun i => mplsI (inn d.insts i) i (inn d.insts i).nets.length)
def mpP (d : DesD) (k : Nat) : PlD := ⟨-1, k, .empty, (ptn d.ports k).net, 0, decide ((ptn d.ports k).dir = 1)⟩
def mplsP (d : DesD) (m : Nat) : List PlD := (List.range m).map (mpP d)
def mplaces (d : DesD) : List PlD := mpls d d.insts.length ++ mplsP d d.ports.length
theorem mplsI_succ (x : InstD) (i m : Nat) : mplsI x i (m + 1) = mplsI x i m ++ [mpI x i m] := by simp [mplsI, List.range_succ]
theorem mpls_succ (d : DesD) (n : Nat) : mpls d (n + 1) = mpls d n ++ mplsI (inn d.insts n) n (inn d.insts n).nets.length := by simp [mpls, List.range_succ]
theorem mplsP_succ (d : DesD) (m : Nat) : mplsP d (m + 1) = mplsP d m ++ [mpP d m] := by simp [mplsP, List.range_succ]
def strip (p : PlD) : PlD := ⟨p.inst, p.pin, .empty, p.net, 0, p.drv⟩
theorem mplaces_is {ts : List CellD} {d : DesD} (hl : libB ts = true) (hc : connB ts d = true) : mplaces d = (places ts d).map strip := by
 have h1 : ∀ n, n ≤ d.insts.length → mpls d n = (pls ts d n).map strip := by
  intro n
  induction n with
  | zero => intro _; simp [mpls, pls]
  | succ n ih =>
   intro hn
   obtain ⟨a, b, c, _⟩ := conn_inst hc (show n < d.insts.length by omega)
   have hcl := lib_cell hl a b
   rw [mpls_succ, pls_succ, List.map_append, ih (by omega)]
   congr 1
   rw [mplsI, plsI, List.map_map, c]
   refine List.map_congr_left (fun k hk => ?_)
   have hk := List.mem_range.1 hk
   simp only [mpI, Function.comp, strip, plI, pin_drv hcl hk, c]
 rw [mplaces, places, List.map_append, h1 _ (Nat.le_refl _)]
 congr 1
 rw [mplsP, plsP, List.map_map]
 rfl
theorem pll_strip (P : List PlD) (i : Nat) : pll (P.map strip) i = strip (pll P i) := by
 simp only [pll, List.getD, List.getElem?_map]
 cases P[i]? <;> rfl
/-! The model's count of the drivers of a net. -/
def cntI (d : DesD) (n : Int) : Nat → Nat
 | 0 => 0
 | k + 1 => cntI d n k + if iv (inn d.insts k).nets ((inn d.insts k).nets.length - 1) = n then 1 else 0
def cntP (d : DesD) (n : Int) : Nat → Nat
 | 0 => 0
 | k + 1 => cntP d n k + if (ptn d.ports k).dir = 1 ∧ (ptn d.ports k).net = n then 1 else 0
theorem cnt_is {ts : List CellD} {d : DesD} (hl : libB ts = true) (hc : connB ts d = true) (n : Int) : (endsL (places ts d) n true).length = cntI d n d.insts.length + cntP d n d.ports.length := by
 have h0 : ∀ (c : CellD) (x : InstD) (i m : Nat), cellB c = true → xcell ts x = c → x.nets.length = c.pins.length → m ≤ c.pins.length → ((plsI ts x i m).filter (atEnd n true)).length = if m = c.pins.length ∧ iv x.nets (m - 1) = n then 1 else 0 := by
  intro c x i m hcl hx hlen
  have h2 := (pins_get (cell_get hcl).1).1
  induction m with
  | zero => intro _; rw [if_neg (by omega)]; simp [plsI]
  | succ m ih =>
   intro hm
   rw [plsI_succ, List.filter_append, List.length_append, ih (by omega), if_neg (by omega)]
   have hd := pin_drv hcl (show m < c.pins.length by omega)
   by_cases e : m + 1 = c.pins.length
   ·have e' : c.pins.length - 1 = m := by omega
    by_cases e2 : iv x.nets m = n
    ·simp [plI, atEnd, hx, hd, e, e', e2]
    ·simp [plI, atEnd, hx, hd, e, e', e2]
   ·simp [plI, atEnd, hx, hd, e]
 have h1 : ∀ m, m ≤ d.insts.length → ((pls ts d m).filter (atEnd n true)).length = cntI d n m := by
  intro m
  induction m with
  | zero => intro _; simp [pls, cntI]
  | succ m ih =>
   intro hm
   obtain ⟨a, b, c, _⟩ := conn_inst hc (show m < d.insts.length by omega)
   have hcl := lib_cell hl a b
   rw [pls_succ, List.filter_append, List.length_append, ih (by omega), h0 _ _ _ _ hcl rfl c (Nat.le_refl _), cntI, ← c]
   simp
 have h2 : ∀ m, ((plsP d m).filter (atEnd n true)).length = cntP d n m := by
  intro m
  induction m with
  | zero => simp [plsP, cntP]
  | succ m ih =>
   rw [plsP_succ, List.filter_append, List.length_append, ih, cntP]
   congr 1
   by_cases e : (ptn d.ports m).dir = 1 <;> by_cases e2 : (ptn d.ports m).net = n <;> simp [plP, atEnd, e, e2]
 rw [endsL_len, places, List.filter_append, List.length_append, h1 _ (Nat.le_refl _), h2]
theorem drv_is {ts : List CellD} {d : DesD} (hl : libB ts = true) (hc : connB ts d = true) : drvB ts d = allB (fun n : Nat => decide (cntI d n d.insts.length + cntP d n d.ports.length = 1)) d.nets.length := by
 unfold drvB
 congr 1
 funext n
 rw [cnt_is hl hc]
end Go.Proofs.YtkpfbnffhhmokaaGreat
