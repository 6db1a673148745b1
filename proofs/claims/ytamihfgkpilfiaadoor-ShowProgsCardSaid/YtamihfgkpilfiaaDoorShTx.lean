/- Formulas and terms as texts, as plain functions on lists of bytes; what a formula, a term is, case by case. -/
import Derived.Test.YtamihfgkpilfiaaDoorGPure
import Derived.Test.YtamihfgkpilfiaaDoorNodeR
import Derived.Test.YtamihfgkpilfiaaDoorLexA
import Derived.Test.YtamihfgkpilfiaaDoorRows
import Derived.WalkKit
import Derived.WalkLawsBesides
import Derived.WalkSpells
import Derived.ProofKit
import Derived.Outline
import Derived.Deep.QuietTactic
import Derived.BigQuiet
import Derived.Deep.Light
import Derived.Deep.CutBlock
import Derived.Deep.DeepCutAuto
import Derived.Deep.DeepFit
import Derived.Deep.LoopGhost
import Derived.Lib.Hide
import Derived.Lib.OthersKept
import Derived.IntWalk
import Derived.StillTailTactics
namespace Go.Proofs.YtamihfgkpilfiaaDoor
open Go.RowKit
/-! Formulas and terms as texts, plainly. -/
abbrev L8 := List UInt8
def opSign (op : ByteArray) : L8 :=
  if op.toList == [97, 110, 100] then [38] else if op.toList == [111, 114] then [124] else if op.toList == [105, 109, 112] then [61, 62] else if op.toList == [105, 102, 102] then [60, 61, 62]
  else if op.toList == [101, 113] then [61] else if op.toList == [110, 101] then [126, 61] else if op.toList == [108, 116] then [60] else if op.toList == [108, 101] then [60, 61]
  else if op.toList == [109, 105, 110, 117, 115] then [92] else op.data.toList
def dgs (n : Int) : L8 := Lib.decDigits n.toNat
def nthF : List (L8 × L8) → Nat → L8
  | [], _ => []
  | x :: _, 0 => x.1
  | _ :: r, i + 1 => nthF r i
def nthT : List (L8 × L8) → Nat → L8
  | [], _ => []
  | x :: _, 0 => x.2
  | _ :: r, i + 1 => nthT r i
/-- Terms, with commas between them; ahead of the first, too, if it is not the first. -/
def rowT : Bool → List (L8 × L8) → L8
  | _, [] => []
  | first, x :: r => ((if first then [] else [44, 32]) ++ x.2) ++ rowT false r
def fTxt (op name : ByteArray) (n : Int) (ks : List (L8 × L8)) : L8 :=
  if opF0 op then op.data.toList
  else if op.toList == [110, 111, 116] then [126] ++ nthF ks 0
  else if opF2 op then [40] ++ (nthF ks 0 ++ ([32] ++ opSign op ++ [32]) ++ nthF ks 1) ++ [41]
  else if opFq op then ([40] ++ op.data.toList ++ dgs n ++ [32] ++ name.data.toList ++ [58, 32]) ++ nthF ks 0 ++ [41]
  else if op.toList == [105, 115] then name.data.toList
  else if opFr op then nthT ks 0 ++ ([32] ++ opSign op ++ [32]) ++ nthT ks 1
  else if op.toList == [99, 97, 108, 108] then (name.data.toList ++ [40]) ++ rowT true ks ++ [41]
  else []
def tTxt (op name : ByteArray) (n : Int) (ks : List (L8 × L8)) : L8 :=
  if op.toList == [118, 97, 114] then name.data.toList
  else if op.toList == [110, 117, 109] then dgs n
  else if op.toList == [112, 108, 117, 115] then nthT ks 0 ++ ([32, 43, 32] ++ dgs n)
  else if op.toList == [115, 101, 116] then [123] ++ rowT true ks ++ [125]
  else if isJoin op then nthT ks 0 ++ ([32] ++ opSign op ++ [32]) ++ nthT ks 1
  else []
def Fo.tx : Fo → List (L8 × L8)
  | .nil => []
  | .cons op name n _ _ _ kids rest => (fTxt op name n kids.tx, tTxt op name n kids.tx) :: rest.tx
def Nd.fx (T : Nd) : L8 := fTxt T.op T.name T.n T.kids.tx
def Nd.tx (T : Nd) : L8 := tTxt T.op T.name T.n T.kids.tx
theorem ba_of {s : ByteArray} {l : L8} (h : (s.toList == l) = true) : s = ⟨l.toArray⟩ := by
  have h1 : s.toList = l := by simpa using h
  rw [← h1, Lib.toList_data]
theorem ba_emp {s : ByteArray} (h : (s.toList == []) = true) : s = ⟨#[]⟩ := ba_of h
theorem nameB_size {s : ByteArray} (h : nameB s = true) : s.size ≤ 2000 := by
  by_cases h2 : s.size ≤ 2000
  · exact h2
  · rw [nameB_big s h2] at h; cases h
theorem fit_un {name : ByteArray} {ln mn n lk mk : Int} {len : Nat} {all : Bool} (h : fitB false name ln mn n lk mk len all = true) : name = ⟨#[]⟩ ∧ (ln ≤ n ∧ n ≤ mn ∧ lk ≤ (len : Int) ∧ (len : Int) ≤ mk) ∧ all = true := by
  unfold fitB at h
  simp only [Bool.and_eq_true, decide_eq_true_eq] at h
  obtain ⟨⟨h1, ⟨⟨h2, h3⟩, h4⟩, h5⟩, h6⟩ := h
  exact ⟨ba_emp (by simpa using h1), ⟨h2, h3, h4, h5⟩, h6⟩
theorem fit_nm {name : ByteArray} {ln mn n lk mk : Int} {len : Nat} {all : Bool} (h : fitB true name ln mn n lk mk len all = true) : nameB name = true ∧ (ln ≤ n ∧ n ≤ mn ∧ lk ≤ (len : Int) ∧ (len : Int) ≤ mk) ∧ all = true := by
  unfold fitB at h
  simp only [Bool.and_eq_true, decide_eq_true_eq] at h
  obtain ⟨⟨h1, ⟨⟨h2, h3⟩, h4⟩, h5⟩, h6⟩ := h
  exact ⟨by simpa using h1, ⟨h2, h3, h4, h5⟩, h6⟩
theorem Fo.len0 {F : Fo} (h : (F.len : Int) ≤ 0) : F = .nil := by
  cases F with
  | nil => rfl
  | cons => exfalso; simp only [Fo.len] at h; omega
theorem Fo.len1 {F : Fo} (h : 1 ≤ (F.len : Int)) (h2 : (F.len : Int) ≤ 1) : ∃ op name n pos a cap kids, F = .cons op name n pos a cap kids .nil := by
  cases F with
  | nil => exfalso; simp only [Fo.len] at h; omega
  | cons op name n pos a cap kids rest =>
    simp only [Fo.len] at h2
    rw [Fo.len0 (F := rest) (by omega)]
    exact ⟨_, _, _, _, _, _, _, rfl⟩
theorem Fo.len2 {F : Fo} (h : 2 ≤ (F.len : Int)) (h2 : (F.len : Int) ≤ 2) : ∃ op name n pos a cap kids op' name' n' pos' a' cap' kids', F = .cons op name n pos a cap kids (.cons op' name' n' pos' a' cap' kids' .nil) := by
  cases F with
  | nil => exfalso; simp only [Fo.len] at h; omega
  | cons op name n pos a cap kids rest =>
    simp only [Fo.len] at h h2
    obtain ⟨op', name', n', pos', a', cap', kids', rfl⟩ := Fo.len1 (F := rest) (by omega) (by omega)
    exact ⟨_, _, _, _, _, _, _, _, _, _, _, _, _, _, rfl⟩
/-- What a term is. -/
inductive TmV : Nd → Prop
  | var (name : ByteArray) (pos : Int) (a : Option Addr) (cap : Nat) (h : nameB name = true) : TmV ⟨⟨#[118, 97, 114]⟩, name, 0, pos, a, cap, .nil⟩
  | num (n pos : Int) (a : Option Addr) (cap : Nat) (h0 : 0 ≤ n) (h1 : n ≤ 99) : TmV ⟨⟨#[110, 117, 109]⟩, ⟨#[]⟩, n, pos, a, cap, .nil⟩
  | plus (n pos : Int) (a : Option Addr) (cap : Nat) (name : ByteArray) (pos' : Int) (a' : Option Addr) (cap' : Nat) (h0 : 1 ≤ n) (h1 : n ≤ 99) (h : nameB name = true) : TmV ⟨⟨#[112, 108, 117, 115]⟩, ⟨#[]⟩, n, pos, a, cap, .cons ⟨#[118, 97, 114]⟩ name 0 pos' a' cap' .nil .nil⟩
  | set (pos : Int) (a : Option Addr) (cap : Nat) (kids : Fo) (hl : kids.len ≤ 6) (h : kids.allB Nd.okN = true) : TmV ⟨⟨#[115, 101, 116]⟩, ⟨#[]⟩, 0, pos, a, cap, kids⟩
  | join (op : ByteArray) (pos : Int) (a : Option Addr) (cap : Nat) (x y : Nd) (ho : isJoin op = true) (hx : x.okT = true) (hy : y.okT = true) (hj : isJoin y.op = false) : TmV ⟨op, ⟨#[]⟩, 0, pos, a, cap, .cons x.op x.name x.n x.pos x.a x.cap x.kids (.cons y.op y.name y.n y.pos y.a y.cap y.kids .nil)⟩
theorem bool_cases (b : Bool) : b = true ∨ b = false := by cases b <;> simp
theorem okT_var {T : Nd} (h : T.okT = true) (hop : (T.op.toList == [118, 97, 114]) = true) : T.op = ⟨#[118, 97, 114]⟩ ∧ nameB T.name = true ∧ T.n = 0 ∧ T.kids = .nil := by
  unfold Nd.okT stepT at h
  rw [if_pos hop] at h
  obtain ⟨h1, ⟨h2, h3, _, h5⟩, _⟩ := fit_nm h
  exact ⟨ba_of hop, h1, by omega, Fo.len0 h5⟩
theorem okT_view (T : Nd) (h : T.okT = true) : TmV T := by
  obtain ⟨op, name, n, pos, a, cap, kids⟩ := T
  rcases bool_cases (op.toList == [118, 97, 114]) with e1 | e1
  · obtain ⟨h1, h2, h3, h4⟩ := okT_var h e1
    simp only at h1 h2 h3 h4
    subst h1; subst h3; subst h4
    exact .var _ _ _ _ h2
  unfold Nd.okT stepT at h
  simp only at h
  rw [if_neg (by simp [e1])] at h
  rcases bool_cases (op.toList == [110, 117, 109]) with e2 | e2
  · rw [if_pos e2] at h
    obtain ⟨h1, ⟨h2, h3, _, h5⟩, _⟩ := fit_un h
    rw [ba_of e2, h1, Fo.len0 h5]
    exact .num _ _ _ _ h2 h3
  rw [if_neg (by simp [e2])] at h
  rcases bool_cases (op.toList == [112, 108, 117, 115]) with e3 | e3
  · rw [if_pos e3] at h
    obtain ⟨h1, ⟨h2, h3, h4, h5⟩, h6⟩ := fit_un h
    obtain ⟨op', name', n', pos', a', cap', kids', rfl⟩ := Fo.len1 h4 h5
    rw [sorts_v] at h6
    simp only [Fo.allB, Bool.and_true] at h6
    unfold Nd.okV at h6
    rw [Bool.and_eq_true] at h6
    obtain ⟨g1, g2, g3, g4⟩ := okT_var h6.2 h6.1
    simp only at g1 g2 g3 g4
    subst g1; subst g3; subst g4
    rw [ba_of e3, h1]
    exact .plus _ _ _ _ _ _ _ _ h2 h3 g2
  rw [if_neg (by simp [e3])] at h
  rcases bool_cases (op.toList == [115, 101, 116]) with e4 | e4
  · rw [if_pos e4] at h
    obtain ⟨h1, ⟨h2, h3, h4, h5⟩, h6⟩ := fit_un h
    rw [sorts_n] at h6
    rw [ba_of e4, h1, show n = 0 by omega]
    exact .set _ _ _ _ (by omega) h6
  rw [if_neg (by simp [e4])] at h
  rw [Bool.and_eq_true, Bool.and_eq_true] at h
  obtain ⟨⟨ho, hf⟩, hs⟩ := h
  obtain ⟨h1, ⟨h2, h3, h4, h5⟩, h6⟩ := fit_un hf
  obtain ⟨op1, name1, n1, pos1, a1, cap1, kids1, op2, name2, n2, pos2, a2, cap2, kids2, rfl⟩ := Fo.len2 h4 h5
  rw [sorts_t] at h6
  simp only [Fo.allB, Bool.and_true, Bool.and_eq_true] at h6
  rw [h1, show n = 0 by omega]
  exact .join op pos a cap ⟨op1, name1, n1, pos1, a1, cap1, kids1⟩ ⟨op2, name2, n2, pos2, a2, cap2, kids2⟩ ho h6.1 h6.2 (by simpa [Fo.second] using hs)
/-- What a formula is. -/
inductive FmV : Nd → Prop
  | lit (op : ByteArray) (pos : Int) (a : Option Addr) (cap : Nat) (ho : opF0 op = true) : FmV ⟨op, ⟨#[]⟩, 0, pos, a, cap, .nil⟩
  | not (pos : Int) (a : Option Addr) (cap : Nat) (x : Nd) (hx : x.okF = true) : FmV ⟨⟨#[110, 111, 116]⟩, ⟨#[]⟩, 0, pos, a, cap, .cons x.op x.name x.n x.pos x.a x.cap x.kids .nil⟩
  | two (op : ByteArray) (pos : Int) (a : Option Addr) (cap : Nat) (x y : Nd) (ho : opF2 op = true) (hx : x.okF = true) (hy : y.okF = true) : FmV ⟨op, ⟨#[]⟩, 0, pos, a, cap, .cons x.op x.name x.n x.pos x.a x.cap x.kids (.cons y.op y.name y.n y.pos y.a y.cap y.kids .nil)⟩
  | quant (op name : ByteArray) (n pos : Int) (a : Option Addr) (cap : Nat) (x : Nd) (ho : opFq op = true) (h : nameB name = true) (h0 : 0 ≤ n) (h1 : n ≤ 2) (hx : x.okF = true) : FmV ⟨op, name, n, pos, a, cap, .cons x.op x.name x.n x.pos x.a x.cap x.kids .nil⟩
  | is (name : ByteArray) (pos : Int) (a : Option Addr) (cap : Nat) (h : nameB name = true) : FmV ⟨⟨#[105, 115]⟩, name, 0, pos, a, cap, .nil⟩
  | rel (op : ByteArray) (pos : Int) (a : Option Addr) (cap : Nat) (x y : Nd) (ho : opFr op = true) (hx : x.okT = true) (hy : y.okT = true) : FmV ⟨op, ⟨#[]⟩, 0, pos, a, cap, .cons x.op x.name x.n x.pos x.a x.cap x.kids (.cons y.op y.name y.n y.pos y.a y.cap y.kids .nil)⟩
  | call (name : ByteArray) (pos : Int) (a : Option Addr) (cap : Nat) (kids : Fo) (hn : nameB name = true) (hl : kids.len ≤ 6) (h : kids.allB Nd.okT = true) : FmV ⟨⟨#[99, 97, 108, 108]⟩, name, 0, pos, a, cap, kids⟩
theorem okF_view (T : Nd) (h : T.okF = true) : FmV T := by
  obtain ⟨op, name, n, pos, a, cap, kids⟩ := T
  unfold Nd.okF stepF at h
  simp only at h
  rcases bool_cases (opF0 op) with e1 | e1
  · rw [if_pos e1] at h
    obtain ⟨h1, ⟨h2, h3, _, h5⟩, _⟩ := fit_un h
    rw [h1, Fo.len0 h5, show n = 0 by omega]
    exact .lit _ _ _ _ e1
  rw [if_neg (by simp [e1])] at h
  rcases bool_cases (op.toList == [110, 111, 116]) with e2 | e2
  · rw [if_pos e2] at h
    obtain ⟨h1, ⟨h2, h3, h4, h5⟩, h6⟩ := fit_un h
    obtain ⟨op', name', n', pos', a', cap', kids', rfl⟩ := Fo.len1 h4 h5
    rw [sorts_f] at h6
    simp only [Fo.allB, Bool.and_true] at h6
    rw [ba_of e2, h1, show n = 0 by omega]
    exact .not pos a cap ⟨op', name', n', pos', a', cap', kids'⟩ h6
  rw [if_neg (by simp [e2])] at h
  rcases bool_cases (opF2 op) with e3 | e3
  · rw [if_pos e3] at h
    obtain ⟨h1, ⟨h2, h3, h4, h5⟩, h6⟩ := fit_un h
    obtain ⟨op1, name1, n1, pos1, a1, cap1, kids1, op2, name2, n2, pos2, a2, cap2, kids2, rfl⟩ := Fo.len2 h4 h5
    rw [sorts_f] at h6
    simp only [Fo.allB, Bool.and_true, Bool.and_eq_true] at h6
    rw [h1, show n = 0 by omega]
    exact .two op pos a cap ⟨op1, name1, n1, pos1, a1, cap1, kids1⟩ ⟨op2, name2, n2, pos2, a2, cap2, kids2⟩ e3 h6.1 h6.2
  rw [if_neg (by simp [e3])] at h
  rcases bool_cases (opFq op) with e4 | e4
  · rw [if_pos e4] at h
    obtain ⟨h1, ⟨h2, h3, h4, h5⟩, h6⟩ := fit_nm h
    obtain ⟨op', name', n', pos', a', cap', kids', rfl⟩ := Fo.len1 h4 h5
    rw [sorts_f] at h6
    simp only [Fo.allB, Bool.and_true] at h6
    exact .quant op name n pos a cap ⟨op', name', n', pos', a', cap', kids'⟩ e4 h1 h2 h3 h6
  rw [if_neg (by simp [e4])] at h
  rcases bool_cases (op.toList == [105, 115]) with e5 | e5
  · rw [if_pos e5] at h
    obtain ⟨h1, ⟨h2, h3, h4, h5⟩, _⟩ := fit_nm h
    rw [ba_of e5, Fo.len0 h5, show n = 0 by omega]
    exact .is _ _ _ _ h1
  rw [if_neg (by simp [e5])] at h
  rcases bool_cases (opFr op) with e6 | e6
  · rw [if_pos e6] at h
    obtain ⟨h1, ⟨h2, h3, h4, h5⟩, h6⟩ := fit_un h
    obtain ⟨op1, name1, n1, pos1, a1, cap1, kids1, op2, name2, n2, pos2, a2, cap2, kids2, rfl⟩ := Fo.len2 h4 h5
    rw [sorts_t] at h6
    simp only [Fo.allB, Bool.and_true, Bool.and_eq_true] at h6
    rw [h1, show n = 0 by omega]
    exact .rel op pos a cap ⟨op1, name1, n1, pos1, a1, cap1, kids1⟩ ⟨op2, name2, n2, pos2, a2, cap2, kids2⟩ e6 h6.1 h6.2
  rw [if_neg (by simp [e6])] at h
  rcases bool_cases (op.toList == [99, 97, 108, 108]) with e7 | e7
  · rw [if_pos e7] at h
    obtain ⟨h1, ⟨h2, h3, h4, h5⟩, h6⟩ := fit_nm h
    rw [sorts_t] at h6
    rw [ba_of e7, show n = 0 by omega]
    exact .call _ _ _ _ _ h1 (by omega) h6
  rw [if_neg (by simp [e7])] at h
  cases h
theorem dgs_len {n : Int} (h0 : 0 ≤ n) (h1 : n ≤ 99) : (dgs n).length ≤ 2 := by
  unfold dgs
  obtain ⟨k, rfl⟩ := Int.eq_ofNat_of_zero_le h0
  show (Lib.decDigits k).length ≤ 2
  have hk : k ≤ 99 := by omega
  rw [Lib.decDigits]
  split
  · simp
  · rw [List.length_append, Lib.decDigits, dif_pos (by omega)]
    simp
theorem opSign_len {op : ByteArray} (h : isJoin op = true ∨ opF2 op = true ∨ opFr op = true) : (opSign op).length ≤ 5 := by
  have hs : op.data.toList.length ≤ 5 := by
    rw [← Lib.toList_data]
    unfold isJoin opF2 opFr at h
    simp only [Bool.or_eq_true, beq_iff_eq] at h
    rcases h with ((h | h) | h) | (((h | h) | h) | h) | ((((((h | h) | h) | h) | h) | h) | h) <;> (rw [h]; decide)
  unfold opSign
  repeat' (split; · decide)
  exact hs
theorem fo_size_pos (x : Nd) (r : Fo) : (Fo.cons x.op x.name x.n x.pos x.a x.cap x.kids r).size = x.size + r.size := by
  show x.kids.size + 1 + r.size = x.kids.size + 1 + r.size; rfl
def LenT (T : Nd) : Prop := T.okT = true → T.tx.length + 50 ≤ 2100 * T.size
def LenF (T : Nd) : Prop := T.okF = true → T.fx.length + 50 ≤ 2100 * T.size
theorem row_len {F : Fo} (h : Fo.All LenT F) (hk : F.allB Nd.okT = true) : ∀ b, (rowT b F.tx).length ≤ 2100 * F.size := by
  induction F with
  | nil => intro b; simp [Fo.tx, rowT]
  | cons op name n pos a cap kids rest ihk ihr =>
    intro b
    obtain ⟨h1, h2⟩ := h
    simp only [Fo.allB, Bool.and_eq_true] at hk
    have g1 := h1 hk.1
    have g2 := ihr h2 hk.2 false
    have g3 : (if b then ([] : L8) else [44, 32]).length ≤ 2 := by cases b <;> decide
    show ((((if b then ([] : L8) else [44, 32]) ++ tTxt op name n kids.tx) ++ rowT false rest.tx)).length ≤ 2100 * (kids.size + 1 + rest.size)
    have g1' : (tTxt op name n kids.tx).length + 50 ≤ 2100 * (kids.size + 1) := g1
    rw [List.length_append, List.length_append]
    omega
theorem okN_T {F : Fo} (h : F.allB Nd.okN = true) : F.allB Nd.okT = true := by
  induction F with
  | nil => rfl
  | cons op name n pos a cap kids rest ihk ihr =>
    simp only [Fo.allB, Bool.and_eq_true] at h ⊢
    obtain ⟨h1, h2⟩ := h
    unfold Nd.okN at h1
    simp only [Bool.and_eq_true] at h1
    exact ⟨h1.2, ihr h2⟩
theorem sz_len (s : ByteArray) : s.data.toList.length = s.size := by rw [Array.length_toList]; rfl
theorem join_ops {op : ByteArray} (h : isJoin op = true) : (op.toList == [118, 97, 114]) = false ∧ (op.toList == [110, 117, 109]) = false ∧ (op.toList == [112, 108, 117, 115]) = false ∧ (op.toList == [115, 101, 116]) = false := by
  unfold isJoin at h
  simp only [Bool.or_eq_true, beq_iff_eq] at h
  rcases h with (h | h) | h <;> (rw [h]; decide)
theorem tx_join {op : ByteArray} (h : isJoin op = true) (name : ByteArray) (n : Int) (ks : List (L8 × L8)) : tTxt op name n ks = nthT ks 0 ++ ([32] ++ opSign op ++ [32]) ++ nthT ks 1 := by
  obtain ⟨h1, h2, h3, h4⟩ := join_ops h
  unfold tTxt
  rw [if_neg (by simp [h1]), if_neg (by simp [h2]), if_neg (by simp [h3]), if_neg (by simp [h4]), if_pos h]
theorem tx_var (name : ByteArray) (n : Int) (ks : List (L8 × L8)) : tTxt ⟨#[118, 97, 114]⟩ name n ks = name.data.toList := by unfold tTxt; simp [Lib.toList_data]
theorem tx_num (name : ByteArray) (n : Int) (ks : List (L8 × L8)) : tTxt ⟨#[110, 117, 109]⟩ name n ks = dgs n := by unfold tTxt; simp [Lib.toList_data]
theorem tx_plus (name : ByteArray) (n : Int) (ks : List (L8 × L8)) : tTxt ⟨#[112, 108, 117, 115]⟩ name n ks = nthT ks 0 ++ ([32, 43, 32] ++ dgs n) := by unfold tTxt; simp [Lib.toList_data]
theorem tx_set (name : ByteArray) (n : Int) (ks : List (L8 × L8)) : tTxt ⟨#[115, 101, 116]⟩ name n ks = [123] ++ rowT true ks ++ [125] := by unfold tTxt; simp [Lib.toList_data]
theorem fx_not (name : ByteArray) (n : Int) (ks : List (L8 × L8)) : fTxt ⟨#[110, 111, 116]⟩ name n ks = [126] ++ nthF ks 0 := by unfold fTxt opF0; simp [Lib.toList_data]
theorem fx_is (name : ByteArray) (n : Int) (ks : List (L8 × L8)) : fTxt ⟨#[105, 115]⟩ name n ks = name.data.toList := by unfold fTxt opF0 opF2 opFq; simp [Lib.toList_data]
theorem fx_call (name : ByteArray) (n : Int) (ks : List (L8 × L8)) : fTxt ⟨#[99, 97, 108, 108]⟩ name n ks = (name.data.toList ++ [40]) ++ rowT true ks ++ [41] := by unfold fTxt opF0 opF2 opFq opFr; simp [Lib.toList_data]
theorem len_T (T : Nd) : LenT T := by
  refine Nd.all_of (P := LenT) ?_ T
  intro T hk h
  cases okT_view T h with
  | var name pos a cap hn =>
    have h1 := nameB_size hn
    show (tTxt _ name 0 []).length + 50 ≤ 2100 * (0 + 1)
    rw [tx_var]
    rw [sz_len]; omega
  | num n pos a cap h0 h1 =>
    show (tTxt _ _ n []).length + 50 ≤ 2100 * (0 + 1)
    rw [tx_num]
    have := dgs_len h0 h1
    omega
  | plus n pos a cap name pos' a' cap' h0 h1 hn =>
    show (tTxt _ _ n [(fTxt ⟨#[118, 97, 114]⟩ name 0 [], tTxt ⟨#[118, 97, 114]⟩ name 0 [])]).length + 50 ≤ 2100 * (0 + 1 + 0 + 1)
    rw [tx_plus]
    show (tTxt ⟨#[118, 97, 114]⟩ name 0 [] ++ _).length + 50 ≤ _
    rw [tx_var]
    have := dgs_len (n := n) (by omega) h1
    have h1 := nameB_size hn
    simp only [List.length_append, sz_len, List.length_cons, List.length_nil]
    omega
  | set pos a cap kids hl hn =>
    show (tTxt _ _ 0 kids.tx).length + 50 ≤ 2100 * (kids.size + 1)
    rw [tx_set]
    have := row_len (F := kids) hk (okN_T hn) true
    simp only [List.length_append, List.length_cons, List.length_nil]
    omega
  | join op pos a cap x y ho hx hy hj =>
    show (tTxt op ⟨#[]⟩ 0 ((x.fx, x.tx) :: (y.fx, y.tx) :: [])).length + 50 ≤ 2100 * (x.kids.size + 1 + (y.kids.size + 1 + 0) + 1)
    rw [tx_join ho]
    have g1 : x.tx.length + 50 ≤ 2100 * (x.kids.size + 1) := hk.1 hx
    have g2 : y.tx.length + 50 ≤ 2100 * (y.kids.size + 1) := hk.2.1 hy
    have g3 := opSign_len (.inl ho)
    simp only [List.length_append, List.length_cons, List.length_nil, nthT]
    omega
theorem fx_two {op : ByteArray} (h : opF2 op = true) (name : ByteArray) (n : Int) (ks : List (L8 × L8)) : fTxt op name n ks = [40] ++ (nthF ks 0 ++ ([32] ++ opSign op ++ [32]) ++ nthF ks 1) ++ [41] := by
  have h1 : opF0 op = false ∧ (op.toList == [110, 111, 116]) = false := by
    unfold opF2 at h
    simp only [Bool.or_eq_true, beq_iff_eq] at h
    unfold opF0
    rcases h with ((h | h) | h) | h <;> (rw [h]; decide)
  unfold fTxt
  rw [if_neg (by simp [h1.1]), if_neg (by simp [h1.2]), if_pos h]
theorem fx_q {op : ByteArray} (h : opFq op = true) (name : ByteArray) (n : Int) (ks : List (L8 × L8)) : fTxt op name n ks = ([40] ++ op.data.toList ++ dgs n ++ [32] ++ name.data.toList ++ [58, 32]) ++ nthF ks 0 ++ [41] := by
  have h1 : opF0 op = false ∧ (op.toList == [110, 111, 116]) = false ∧ opF2 op = false := by
    unfold opFq at h
    simp only [Bool.or_eq_true, beq_iff_eq] at h
    unfold opF0 opF2
    rcases h with h | h <;> (rw [h]; decide)
  unfold fTxt
  rw [if_neg (by simp [h1.1]), if_neg (by simp [h1.2.1]), if_neg (by simp [h1.2.2]), if_pos h]
theorem fx_rel {op : ByteArray} (h : opFr op = true) (name : ByteArray) (n : Int) (ks : List (L8 × L8)) : fTxt op name n ks = nthT ks 0 ++ ([32] ++ opSign op ++ [32]) ++ nthT ks 1 := by
  have h1 : opF0 op = false ∧ (op.toList == [110, 111, 116]) = false ∧ opF2 op = false ∧ opFq op = false ∧ (op.toList == [105, 115]) = false := by
    unfold opFr at h
    simp only [Bool.or_eq_true, beq_iff_eq] at h
    unfold opF0 opF2 opFq
    rcases h with (((((h | h) | h) | h) | h) | h) | h <;> (rw [h]; decide)
  unfold fTxt
  rw [if_neg (by simp [h1.1]), if_neg (by simp [h1.2.1]), if_neg (by simp [h1.2.2.1]), if_neg (by simp [h1.2.2.2.1]), if_neg (by simp [h1.2.2.2.2]), if_pos h]
theorem len_F (T : Nd) : LenF T := by
  refine Nd.all_of (P := LenF) ?_ T
  intro T hk h
  cases okF_view T h with
  | lit op pos a cap ho =>
    show (fTxt op ⟨#[]⟩ 0 []).length + 50 ≤ 2100 * (0 + 1)
    unfold fTxt
    rw [if_pos ho, ← Lib.toList_data]
    unfold opF0 at ho
    simp only [Bool.or_eq_true, beq_iff_eq] at ho
    rcases ho with ho | ho <;> (rw [ho]; decide)
  | not pos a cap x hx =>
    show (fTxt _ _ 0 [(x.fx, x.tx)]).length + 50 ≤ 2100 * (x.kids.size + 1 + 0 + 1)
    rw [fx_not]
    show ([126] ++ x.fx).length + 50 ≤ _
    have g1 : x.fx.length + 50 ≤ 2100 * (x.kids.size + 1) := hk.1 hx
    simp only [List.length_append, List.length_cons, List.length_nil]
    omega
  | two op pos a cap x y ho hx hy =>
    show (fTxt op ⟨#[]⟩ 0 ((x.fx, x.tx) :: (y.fx, y.tx) :: [])).length + 50 ≤ 2100 * (x.kids.size + 1 + (y.kids.size + 1 + 0) + 1)
    have g1 : x.fx.length + 50 ≤ 2100 * (x.kids.size + 1) := hk.1 hx
    have g2 : y.fx.length + 50 ≤ 2100 * (y.kids.size + 1) := hk.2.1 hy
    have g3 := opSign_len (.inr (.inl ho))
    rw [fx_two ho]
    simp only [List.length_append, List.length_cons, List.length_nil, nthF]
    omega
  | quant op name n pos a cap x ho hn h0 h1 hx =>
    show (fTxt op name n ((x.fx, x.tx) :: [])).length + 50 ≤ 2100 * (x.kids.size + 1 + 0 + 1)
    have g1 : x.fx.length + 50 ≤ 2100 * (x.kids.size + 1) := hk.1 hx
    have g2 := dgs_len h0 (by omega)
    have g3 := nameB_size hn
    have g4 : op.data.toList.length ≤ 3 := by
      rw [← Lib.toList_data]
      unfold opFq at ho
      simp only [Bool.or_eq_true, beq_iff_eq] at ho
      rcases ho with ho | ho <;> (rw [ho]; decide)
    rw [fx_q ho]
    simp only [List.length_append, List.length_cons, List.length_nil, nthF, sz_len name]
    omega
  | is name pos a cap hn =>
    show (fTxt _ name 0 []).length + 50 ≤ 2100 * (0 + 1)
    rw [fx_is]
    have := nameB_size hn
    rw [sz_len]; omega
  | rel op pos a cap x y ho hx hy =>
    show (fTxt op ⟨#[]⟩ 0 ((x.fx, x.tx) :: (y.fx, y.tx) :: [])).length + 50 ≤ 2100 * (x.kids.size + 1 + (y.kids.size + 1 + 0) + 1)
    have g1 : x.tx.length + 50 ≤ 2100 * (x.kids.size + 1) := len_T _ hx
    have g2 : y.tx.length + 50 ≤ 2100 * (y.kids.size + 1) := len_T _ hy
    have g3 := opSign_len (.inr (.inr ho))
    rw [fx_rel ho]
    simp only [List.length_append, List.length_cons, List.length_nil, nthT]
    omega
  | call name pos a cap kids hn hl hks =>
    show (fTxt _ name 0 kids.tx).length + 50 ≤ 2100 * (kids.size + 1)
    rw [fx_call]
    have := row_len (Fo.all_of (fun T _ => len_T T) kids) hks true
    have g := nameB_size hn
    simp only [List.length_append, List.length_cons, List.length_nil, sz_len name]
    omega
end Go.Proofs.YtamihfgkpilfiaaDoor
