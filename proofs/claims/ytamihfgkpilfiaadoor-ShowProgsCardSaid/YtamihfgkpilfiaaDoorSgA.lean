/- Programs as texts, as plain functions on lists of bytes. -/
import Derived.Test.YtamihfgkpilfiaaDoorGIsS
import Derived.Test.YtamihfgkpilfiaaDoorShTx
import Derived.Test.YtamihfgkpilfiaaDoorLexA
import Derived.Test.YtamihfgkpilfiaaDoorRows
import Derived.WalkKit
import Derived.WalkLawsBesides
import Derived.WalkSpells
import Derived.ProofKit
import Derived.Outline
import Derived.Deep.QuietTactic
import Derived.BigQuiet
import Derived.Deep.Light
import Derived.Deep.CutBlock
import Derived.Deep.DeepCutAuto
import Derived.Deep.DeepFit
import Derived.Deep.LoopGhost
import Derived.Lib.Hide
import Derived.Lib.OthersKept
import Derived.IntWalk
import Derived.StillTailTactics
namespace Go.Proofs.YtamihfgkpilfiaaDoor
open Go.RowKit
/-! Programs as texts: variables, preds. -/
def dTx (d : Dc) : L8 := [118, 97, 114] ++ dgs d.order ++ [32] ++ d.name.data.toList
def dsTx : List Dc → L8
  | [] => []
  | d :: r => (dTx d ++ [59, 10]) ++ dsTx r
def prTx : Bool → List Dc → L8
  | _, [] => []
  | first, d :: r => ((if first then [] else [44, 32]) ++ dTx d) ++ prTx false r
def pdTx (p : Pd) : L8 := ([112, 114, 101, 100, 32] ++ p.name.data.toList ++ [40]) ++ prTx true p.params ++ ([41, 32, 61, 32] ++ p.body.fx ++ [59, 10])
def pdsTx : List Pd → L8
  | [] => []
  | p :: r => pdTx p ++ pdsTx r
def pgTx (ds : List Dc) (ps : List Pd) (T : Nd) : L8 := dsTx ds ++ pdsTx ps ++ (T.fx ++ [59, 10])
theorem dok_parts {d : Dc} (h : d.ok = true) : nameB d.name = true ∧ 0 ≤ d.order ∧ d.order ≤ 2 := by
  unfold Dc.ok at h
  simp only [Bool.and_eq_true, decide_eq_true_eq] at h
  exact ⟨h.1.1, h.1.2, h.2⟩
theorem dTx_len {d : Dc} (h : d.ok = true) : (dTx d).length ≤ 2006 := by
  obtain ⟨h1, h2, h3⟩ := dok_parts h
  have g1 := nameB_size h1
  have g2 := dgs_len h2 (by omega)
  unfold dTx
  simp only [List.length_append, List.length_cons, List.length_nil, sz_len]
  omega
theorem dsTx_len : ∀ {l : List Dc}, l.all Dc.ok = true → (dsTx l).length ≤ 2008 * l.length
  | [], _ => by simp [dsTx]
  | d :: r, h => by
    rw [List.all_cons, Bool.and_eq_true] at h
    have h1 := dTx_len h.1
    have h2 := dsTx_len h.2
    unfold dsTx
    simp only [List.length_append, List.length_cons, List.length_nil]
    omega
theorem prTx_len : ∀ {l : List Dc} (b : Bool), l.all Dc.ok = true → (prTx b l).length ≤ 2008 * l.length
  | [], _, _ => by simp [prTx]
  | d :: r, b, h => by
    rw [List.all_cons, Bool.and_eq_true] at h
    have h1 := dTx_len h.1
    have h2 := prTx_len false h.2
    have h3 : (if b then ([] : L8) else [44, 32]).length ≤ 2 := by cases b <;> decide
    unfold prTx
    simp only [List.length_append, List.length_cons]
    omega
theorem pok_parts {p : Pd} (h : p.okS = true) : nameB p.name = true ∧ p.params.length ≤ 6 ∧ p.params.all Dc.ok = true ∧ p.body.okF = true ∧ p.body.size ≤ 2000 := by
  unfold Pd.okS Nd.okS at h
  simp only [Bool.and_eq_true, decide_eq_true_eq] at h
  obtain ⟨⟨⟨h1, h2⟩, h3⟩, ⟨_, h4⟩, h5⟩ := h
  exact ⟨h1, by omega, h3, h5, h4⟩
theorem pdTx_len {p : Pd} (h : p.okS = true) : (pdTx p).length ≤ 4300000 := by
  obtain ⟨h1, h2, h3, h4, h5⟩ := pok_parts h
  have g1 := nameB_size h1
  have g2 := prTx_len true h3
  have g3 := len_F _ h4
  unfold pdTx
  simp only [List.length_append, List.length_cons, List.length_nil, sz_len]
  omega
theorem pdsTx_len : ∀ {l : List Pd}, l.all Pd.okS = true → (pdsTx l).length ≤ 4300000 * l.length
  | [], _ => by simp [pdsTx]
  | p :: r, h => by
    rw [List.all_cons, Bool.and_eq_true] at h
    have h1 := pdTx_len h.1
    have h2 := pdsTx_len h.2
    unfold pdsTx
    simp only [List.length_append, List.length_cons]
    omega
theorem pgTx_len {ds : List Dc} {ps : List Pd} {T : Nd} (hd : ds.all Dc.ok = true) (hp : ps.all Pd.okS = true) (hT : T.okF = true) (hs : T.size ≤ 2000) : (pgTx ds ps T).length ≤ 4300000 * (ds.length + ps.length + 1) := by
  have h1 := dsTx_len hd
  have h2 := pdsTx_len hp
  have h3 := len_F _ hT
  unfold pgTx
  simp only [List.length_append, List.length_cons, List.length_nil]
  omega
/-! The lists as loops go. -/
theorem dsTx_append : ∀ (x y : List Dc), dsTx (x ++ y) = dsTx x ++ dsTx y
  | [], _ => rfl
  | d :: r, y => by show (dTx d ++ [59, 10]) ++ dsTx (r ++ y) = _; rw [dsTx_append r y, ← List.append_assoc]; rfl
theorem pdsTx_append : ∀ (x y : List Pd), pdsTx (x ++ y) = pdsTx x ++ pdsTx y
  | [], _ => rfl
  | p :: r, y => by show pdTx p ++ pdsTx (r ++ y) = _; rw [pdsTx_append r y, ← List.append_assoc]; rfl
theorem dsTx_take (l : List Dc) (k : Nat) (d : Dc) (h : l[k]? = some d) : dsTx (l.take (k + 1)) = dsTx (l.take k) ++ (dTx d ++ [59, 10]) := by
  rw [List.take_add_one, h, dsTx_append]
  show _ ++ ((dTx d ++ [59, 10]) ++ []) = _
  rw [List.append_nil]
theorem pdsTx_take (l : List Pd) (k : Nat) (p : Pd) (h : l[k]? = some p) : pdsTx (l.take (k + 1)) = pdsTx (l.take k) ++ pdTx p := by
  rw [List.take_add_one, h, pdsTx_append]
  show _ ++ (pdTx p ++ []) = _
  rw [List.append_nil]
theorem prTx_append : ∀ (x y : List Dc) (b : Bool), prTx b (x ++ y) = prTx b x ++ prTx (b && x.isEmpty) y
  | [], y, b => by cases b <;> rfl
  | d :: r, y, b => by
    have e : (b && (d :: r).isEmpty) = (false && r.isEmpty) := by cases b <;> rfl
    rw [e]
    show ((if b then ([] : L8) else [44, 32]) ++ dTx d) ++ prTx false (r ++ y) = (((if b then ([] : L8) else [44, 32]) ++ dTx d) ++ prTx false r) ++ _
    rw [prTx_append r y false]
    simp only [List.append_assoc]
theorem prTx_take (l : List Dc) (k : Nat) (d : Dc) (h : l[k]? = some d) : prTx true (l.take (k + 1)) = prTx true (l.take k) ++ (if (k == 0) = true then [] else [44, 32]) ++ dTx d := by
  rw [List.take_add_one, h, prTx_append]
  have hk : k < l.length := (List.getElem?_eq_some_iff.1 h).1
  show _ ++ (((if (true && (l.take k).isEmpty) = true then ([] : L8) else [44, 32]) ++ dTx d) ++ []) = _
  rw [List.append_nil, ← List.append_assoc]
  congr 2
  cases k with
  | zero => rfl
  | succ k =>
    have : (l.take (k + 1)).isEmpty = false := by
      cases l with
      | nil => simp at hk
      | cons => rfl
    rw [this]; rfl
theorem dsTx_le (l : List Dc) (k : Nat) : (dsTx (l.take k)).length ≤ (dsTx l).length := by
  have h := congrArg (fun z => (dsTx z).length) (List.take_append_drop k l)
  simp only [dsTx_append, List.length_append] at h
  omega
theorem pdsTx_le (l : List Pd) (k : Nat) : (pdsTx (l.take k)).length ≤ (pdsTx l).length := by
  have h := congrArg (fun z => (pdsTx z).length) (List.take_append_drop k l)
  simp only [pdsTx_append, List.length_append] at h
  omega
theorem prTx_le (l : List Dc) (k : Nat) : (prTx true (l.take k)).length ≤ (prTx true l).length := by
  have h := congrArg (fun z => (prTx true z).length) (List.take_append_drop k l)
  simp only [prTx_append, List.length_append] at h
  omega
end Go.Proofs.YtamihfgkpilfiaaDoor
