/- Rows of kids: list. -/
import Derived.Test.YtmmicnjiikiklaaDoorPSay
import Derived.Test.YtmmicnjiikiklaaDoorLexA
import Derived.Test.YtmmicnjiikiklaaDoorRows
import Derived.WalkKit
import Derived.WalkLawsBesides
import Derived.WalkSpells
import Derived.ProofKit
import Derived.Outline
import Derived.Deep.QuietTactic
import Derived.BigQuiet
import Derived.Deep.Light
import Derived.Deep.CutBlock
import Derived.Deep.DeepCutAuto
import Derived.Deep.DeepFit
import Derived.Deep.LoopGhost
import Derived.Lib.Hide
import Derived.Lib.OthersKept
import Derived.IntWalk
import Derived.StillTailTactics
import Derived.Maps.AppendAt
namespace Go.Proofs.YtmmicnjiikiklaaDoor
open Go.RowKit
/-! Rows of kids: list. -/
def flatF : Fo → List Value
  | .nil => []
  | .cons op name n pos a cap kids rest => .string op :: .string name :: .int .i64 n :: .int .i64 pos :: .slice a kids.len cap :: flatF rest
theorem flatF_len (F : Fo) : (flatF F).length = F.len * 5 := by
  induction F with
  | nil => rfl
  | cons op name n pos a cap kids rest ihk ihr => show (flatF rest).length + 1 + 1 + 1 + 1 + 1 = (rest.len + 1) * 5; rw [ihr]; omega
def Fo.snoc : Fo → Nd → Fo
  | .nil, T => .cons T.op T.name T.n T.pos T.a T.cap T.kids .nil
  | .cons op name n pos a cap kids rest, T => .cons op name n pos a cap kids (rest.snoc T)
theorem snoc_len (F : Fo) (T : Nd) : (F.snoc T).len = F.len + 1 := by
  induction F with
  | nil => rfl
  | cons op name n pos a cap kids rest ihk ihr => show (rest.snoc T).len + 1 = _; rw [ihr]; rfl
theorem flatF_snoc (F : Fo) (T : Nd) : flatF (F.snoc T) = flatF F ++ [.string T.op, .string T.name, .int .i64 T.n, .int .i64 T.pos, .slice T.a T.kids.len T.cap] := by
  induction F with
  | nil => rfl
  | cons op name n pos a cap kids rest ihk ihr => show _ :: _ :: _ :: _ :: _ :: flatF (rest.snoc T) = _; rw [ihr]; rfl
theorem ofL_snoc (l : List Nd) (T : Nd) (F : Fo) (h : F.strip = Fo.ofL l) : (F.snoc T).strip = Fo.ofL (l ++ [T.strip]) := by
  induction F generalizing l with
  | nil =>
    cases l with
    | nil => rfl
    | cons a r => cases h
  | cons op name n pos a cap kids rest ihk ihr =>
    cases l with
    | nil => cases h
    | cons b r =>
      obtain ⟨h1, h2, h3, h4, h5, h6, h7⟩ : op = b.op ∧ name = b.name ∧ n = b.n ∧ pos = b.pos ∧ none = (none : Option Addr) ∧ kids.strip = b.kids ∧ rest.strip = Fo.ofL r := by
        have h' : Fo.cons op name n pos none 0 kids.strip rest.strip = Fo.cons b.op b.name b.n b.pos none 0 b.kids (Fo.ofL r) := h
        simp only [Fo.cons.injEq] at h'
        exact ⟨h'.1, h'.2.1, h'.2.2.1, h'.2.2.2.1, rfl, h'.2.2.2.2.2.2.1, h'.2.2.2.2.2.2.2⟩
      show Fo.cons op name n pos none 0 kids.strip (rest.snoc T).strip = Fo.cons b.op b.name b.n b.pos none 0 b.kids (Fo.ofL (r ++ [T.strip]))
      rw [ihr r h7, h1, h2, h3, h4, h6]
theorem ofL_len (l : List Nd) : (Fo.ofL l).len = l.length := by
  induction l with
  | nil => rfl
  | cons a r ih => show (Fo.ofL r).len + 1 = _; rw [ih]; rfl
theorem strip_len (F : Fo) : F.strip.len = F.len := by
  induction F with
  | nil => rfl
  | cons op name n pos a cap kids rest ihk ihr => show rest.strip.len + 1 = _; rw [ihr]; rfl
/-- Each node of a row has its kids in blocks of a set. -/
def Fo.Kids (S : Nat → Prop) (w : World) : Fo → Prop
  | .nil => True
  | .cons op name n pos a cap kids rest => Nd.Good S w ⟨op, name, n, pos, a, cap, kids⟩ ∧ rest.Kids S w
theorem Fo.Kids.from {S : Nat → Prop} {w w' : World} (hg : From S w w') : ∀ {F : Fo}, F.Kids S w → F.Kids S w' := by
  intro F
  induction F with
  | nil => intro _; trivial
  | cons op name n pos a cap kids rest ihk ihr => exact fun h => ⟨h.1.from hg, ihr h.2⟩
theorem Fo.Kids.lt {S : Nat → Prop} {w : World} : ∀ {F : Fo}, F.Kids S w → F.Kids (fun i => S i ∧ i < w.heap.size) w := by
  intro F
  induction F with
  | nil => intro _; trivial
  | cons op name n pos a cap kids rest ihk ihr => exact fun h => ⟨h.1.lt, ihr h.2⟩
theorem Fo.Kids.mono {S S' : Nat → Prop} {w : World} (hl : ∀ b, S b → S' b) : ∀ {F : Fo}, F.Kids S w → F.Kids S' w := by
  intro F
  induction F with
  | nil => intro _; trivial
  | cons op name n pos a cap kids rest ihk ihr => exact fun h => ⟨h.1.mono hl, ihr h.2⟩
theorem Fo.Kids.snoc {S : Nat → Prop} {w : World} {T : Nd} (hT : T.Good S w) : ∀ {F : Fo}, F.Kids S w → (F.snoc T).Kids S w := by
  intro F
  induction F with
  | nil => intro _; exact ⟨hT, trivial⟩
  | cons op name n pos a cap kids rest ihk ihr => exact fun h => ⟨h.1, ihr h.2⟩
theorem Fo.Kids.above {S : Nat → Prop} {w : World} : ∀ {F : Fo}, F.Kids S w → F.above S := by
  intro F
  induction F with
  | nil => intro _; trivial
  | cons op name n pos a cap kids rest ihk ihr => exact fun h => ⟨h.1.above.1, h.1.above.2, ihr h.2⟩
theorem Fo.Kids.lies {S : Nat → Prop} {w : World} {g : Nat} : ∀ {F : Fo} {o : Nat}, (∀ j v, (flatF F)[j]? = some v → w.cell? ⟨g, o + j, none⟩ = some v) → F.Kids S w → F.In w g o := by
  intro F
  induction F with
  | nil => intro o _ _; trivial
  | cons op name n pos a cap kids rest ihk ihr =>
    intro o hc hk
    refine ⟨⟨hc 0 _ rfl, hc 1 _ rfl, hc 2 _ rfl, hc 3 _ rfl, hc 4 _ rfl⟩, hk.1.lies, ihr (fun j v hj => ?_) hk.2⟩
    have := hc (j + 5) v hj
    rw [show o + (j + 5) = o + 5 + j by omega] at this
    exact this
/-- A row that a call owns, whose nodes' kids lie well, is a row of kids. -/
theorem row_good {lo : Nat} {w : World} {v : Value} {F : Fo} (h : w.ownsRow lo 26 5 v F.len (flatF F)) (hk : F.Kids (fun b => lo ≤ b ∧ some b ≠ v.ownBlock) w) (hl : F.len ≤ 140737488351232) :
    ∃ a cap, v = .slice a F.len cap ∧ ∀ op name n pos cap', Nd.Good (fun b => lo ≤ b) w ⟨op, name, n, pos, a, cap', F⟩ := by
  rcases h.2 with ⟨rfl, h0⟩ | ⟨g, cap, cur, rfl, hb, hg, hrest⟩
  · have hF : F = .nil := by cases F with
      | nil => rfl
      | cons op name n pos a cap kids rest => cases h0
    subst hF
    exact ⟨none, 0, rfl, fun op name n pos cap' => Nd.Good.leaf _ _ _ _ _ _ _ _⟩
  · refine ⟨some ⟨g, 0, none⟩, cap, rfl, fun op name n pos cap' => ?_⟩
    have hc : ∀ j v, (flatF F)[j]? = some v → w.cell? ⟨g, 0 + j, none⟩ = some v := by
      intro j v hj
      rw [Nat.zero_add]
      have hjl : j < F.len * 5 := by rw [← flatF_len]; exact (List.getElem?_eq_some_iff.1 hj).1
      exact (h.cellAt j hjl).trans hj
    have hin := Fo.Kids.lies hc hk
    rcases Nat.eq_zero_or_pos F.len with h0 | h0
    · have hF : F = .nil := by cases F with
        | nil => rfl
        | cons op name n pos a cap kids rest => cases h0
      subst hF
      exact Nd.Good.leaf _ _ _ _ _ _ _ _
    · refine ⟨.inr ⟨g, 0, rfl, hl, ⟨h0, ?_⟩, hin⟩, .inr ⟨g, 0, rfl, hb⟩, (hk.mono (fun b hb => hb.1)).above⟩
      unfold World.frozen?
      simp only [hg]
      rfl
theorem own_form {w : World} {base e size n : Nat} {v : Value} {xs : List Value} (h : w.ownsRow base e size v n xs) : ∃ a cap, v = .slice a n cap := by
  rcases h.2 with ⟨rfl, h0⟩ | ⟨g, cap, cur, rfl, _⟩
  · exact ⟨none, 0, by rw [h0]⟩
  · exact ⟨_, cap, rfl⟩
theorem clo_t : clo false = (ByteArray.mk #[41]).toList := by decide +kernel
theorem clo_p : clo true = (ByteArray.mk #[125]).toList := by decide +kernel
def OutL (B : Nat) (d : Int) (S : Nat → Prop) (w' : World) (a : Option Addr) (F : Fo) : Res (List Nd) → Prop
  | .ok ts l => RdS w' B d (.good l) ∧ (∀ op name n pos cap, Nd.Good S w' ⟨op, name, n, pos, a, cap, F⟩) ∧ F.strip = Fo.ofL ts
  | .bad p e => RdS w' B d (.bad p e)
def PostL (B : Nat) (d : Int) (w : World) (r : Res (List Nd)) (e : Ending) (w' : World) : Prop := ∃ (a : Option Addr) (F : Fo) (cap : Nat), e = .returned (.slice a F.len cap) ∧ Kp B w w' ∧ OutL B d (fun b => w.heap.size ≤ b) w' a F r
theorem Tryd.infoNode : (Tryd.prog.info? 26).map (fun i => (i.zero, i.size, i.bytes)) = some (some (.agg #[.string ⟨#[]⟩, .string ⟨#[]⟩, .int .i64 0, .int .i64 0, .slice none 0 0]), 5, 72) := by kernel_rfl
theorem cell_five_new (w : World) (a b c d e : Value) (t : TypeId) : ∀ j u, [a, b, c, d, e][j]? = some u → (w.alloc (.cells #[a, b, c, d, e] t)).cell? ((⟨w.heap.size, 0, none⟩ : Addr).add j) = some u := by
  intro j u hj
  have hx := new_at w (.cells #[a, b, c, d, e] t)
  rw [show (⟨w.heap.size, 0, none⟩ : Addr).add j = ⟨w.heap.size, 0 + j, none⟩ from by unfold Addr.add; split <;> simp_all, cell_of_row _ _ _ _ _ _ hx, Nat.zero_add]
  simpa using hj
/-- What an append to a row keeps. -/
theorem kids_append {lo : Nat} {w w' : World} {v v' : Value} {F : Fo} {U : Nd} (hk : F.Kids (fun b => lo ≤ b ∧ some b ≠ v.ownBlock) w) (hU : U.Good (fun b => lo ≤ b ∧ some b ≠ v.ownBlock) w) (hg : w.grownBy w' v.ownBlock) (hv : v'.ownBlock = v.ownBlock ∨ v'.ownBlock = some w.heap.size) : (F.snoc U).Kids (fun b => lo ≤ b ∧ some b ≠ v'.ownBlock) w' := by
  have hf : From (fun i => (lo ≤ i ∧ some i ≠ v.ownBlock) ∧ i < w.heap.size) w w' := ⟨hg.size, fun b hb hl => hg.block b hl hb.1.2⟩
  refine Fo.Kids.mono (S := fun i => (lo ≤ i ∧ some i ≠ v.ownBlock) ∧ i < w.heap.size) (fun b hb => ⟨hb.1.1, ?_⟩) (Fo.Kids.snoc (hU.lt.from hf) (hk.lt.from hf))
  rcases hv with hv | hv
  · rw [hv]; exact hb.1.2
  · rw [hv]; intro h; have := Option.some.inj h; omega
theorem kp_append {B : Nat} {a w w' : World} {row : Option Nat} (h : Kp B a w) (hg : w.grownBy w' row) (hr : ∀ k, row = some k → a.heap.size ≤ k) : Kp B a w' :=
  ⟨hg.os.trans h.os, hg.tape.trans h.tape, hg.output.trans h.output, Nat.le_trans h.size hg.size, fun i hi hne => (hg.block i (Nat.lt_of_lt_of_le hi h.size) (fun e => by have := hr i e.symm; omega)).trans (h.block i hi hne)⟩
theorem rds_append {B : Nat} {d : Int} {s : St} {w w' : World} {row : Option Nat} (h : RdS w B d s) (hg : w.grownBy w' row) (hr : ∀ k, row = some k → B < k) : RdS w' B d s :=
  h.same fun g hgB => hg.block g (Nat.lt_of_le_of_lt hgB h.lt) (fun e => by have := hr g e.symm; omega)
set_option maxRecDepth 100000 in
set_option maxHeartbeats 16000000 in
theorem listT (f : Nat) (ih : ∀ g, g ≤ f → SayN 114 3 (fun f _ l => pKid f false l) g) (hbk : BadN 114) (l : List Tok) (w : World) (B d : Nat) (hdd : d ≤ 30) (hP : PTB B w) (hE : EndsOk l) (hneed : 4 + 20 * l.length ≤ f + 1) (hS : RdS w B (d : Int) (.good l)) :
    Calls Tryd.prog 113 #[.pointer (some ⟨B, 0, none⟩), .string ⟨#[41]⟩, .func (.func 114) #[.pointer (some ⟨B, 0, none⟩)] #[]] w (PostL B d w (pList (f + 1) false l)) := by
  obtain ⟨i0, hi, hz0, hz1, hz2⟩ := info_parts Tryd.infoNode
  have HIF := Lib.hid (And.intro hi (And.intro hz0 (And.intro hz1 hz2)))
  clear hi hz0 hz1 hz2
  have hc5 := cellsNode
  have hB := hS.lt
  have HS := Lib.hid hS
  have HP := Lib.hid hP
  have HE := Lib.hid hE
  have HBK := Lib.hid hbk
  have HIH := Lib.hid ih
  clear hS hP hE hbk ih
  generalize hr : pList (f + 1) false l = r
  by_cases hw : ((wrd l).toList == clo false) = true
  · have hwx : ((wrd l).toList == (⟨#[41]⟩ : ByteArray).toList) = true := by rw [← clo_t]; exact hw
    have HRE : RowKit.Hid (r = .ok [] l.tail) := Lib.hid (by rw [← hr]; unfold pList; rw [if_pos hw])
    have HC := Lib.hid (may_yes l ⟨#[41]⟩ w B d hwx HS.out)
    clear hr hw hwx
    go_enter Tryd.func113, Tryd.ntmps113
    go_wp2_with fail
    refine HC.out.mono ?_
    rintro e w1 ⟨rfl, hk1, hr1⟩
    go_wp2_with fail
    go_ret
    refine ⟨none, .nil, 0, rfl, hk1, ?_⟩
    rw [HRE.out]
    exact ⟨hr1, fun _ _ _ _ _ => Nd.Good.leaf _ _ _ _ _ _ _ _, rfl⟩
  · have hw' : ((wrd l).toList == (⟨#[41]⟩ : ByteArray).toList) = false := by rw [← clo_t]; simpa using hw
    obtain ⟨rk, hq⟩ : ∃ rk, pKid f false l = rk := ⟨_, rfl⟩
    have HOK : RowKit.Hid (∀ t l', rk = .ok t l' → r = pListL f false [t] l' ∧ Suf l' l) := Lib.hid (fun t l' h => ⟨by rw [← hr]; unfold pList; rw [if_neg hw, hq, h], (suf_terms f).2.2.1 _ _ _ _ (hq.trans h)⟩)
    have HBAD : RowKit.Hid (∀ a e, rk = .bad a e → r = .bad a e) := Lib.hid (fun a e h => by rw [← hr]; unfold pList; rw [if_neg hw, hq, h])
    have HC1 := Lib.hid (may_no l ⟨#[41]⟩ w B d hw' HS.out)
    have HKID := Lib.hid (fun W (hp : PTB B W) (hr : RdS W B (d : Int) (.good l)) => HIH.out f (Nat.le_refl _) l W B d hdd hp HE.out (by omega) hr)
    simp only [hq] at HKID
    clear hr hw hw' hq
    go_enter Tryd.func113, Tryd.ntmps113
    go_wp2_with fail
    refine HC1.out.mono ?_
    rintro e w1 ⟨rfl, hk1, hr1⟩
    have HC2 := Lib.hid (HKID.out w1 (HP.out.kp hk1) hr1)
    have HK1 := Lib.hid hk1
    clear hk1 hr1 HC1
    go_wp2_with fail
    refine HC2.out.mono ?_
    rintro e w2 ⟨T, rfl, hk2, ho2⟩
    have HO2 := Lib.hid ho2
    have hz12 := HK1.out.size
    have hz2 := hk2.size
    have HK2 := Lib.hid (HK1.out.trans hk2)
    clear ho2 hk2 HC2 HKID
    go_wp2_with fail
    have HOWN := Lib.hid (World.ownsRow_lit (base := w.heap.size) (e := 26) (size := 5) w2 #[.string T.op, .string T.name, .int .i64 T.n, .int .i64 T.pos, .slice T.a T.kids.len T.cap] 1 (by omega) (by unfold maxLen; decide) (by rfl))
    go_loopg [7] f (fun gf v7 wx => ∃ (F : Fo) (a : Option Addr) (cap : Nat), v7 = .slice a F.len cap ∧ RowKit.Hid (wx.ownsRow w.heap.size 26 5 (.slice a F.len cap) F.len (flatF F)) ∧ F.len ≤ 7 ∧ RowKit.Hid (Kp B w wx) ∧
      ((∃ l ts, RdS wx B (d : Int) (.good l) ∧ EndsOk l ∧ (1 + 20 * l.length ≤ gf ∧ gf ≤ f) ∧ RowKit.Hid (F.Kids (fun b => w.heap.size ≤ b ∧ some b ≠ (Value.slice a F.len cap).ownBlock) wx) ∧ RowKit.Hid (F.strip = Fo.ofL ts) ∧ F.len ≤ 6 ∧ RowKit.Hid (r = pListL gf false ts l)) ∨ (∃ p e, RdS wx B (d : Int) (.bad p e) ∧ r = .bad p e)))
    case atStart =>
      refine ⟨.cons T.op T.name T.n T.pos T.a T.cap T.kids .nil, some ⟨w2.heap.size, 0, none⟩, 1, rfl, HOWN, by show 0 + 1 ≤ 7; omega, Lib.hid (HK2.out.alloc _), ?_⟩
      have ho := HO2.out
      cases rk with
      | ok t l' =>
        obtain ⟨h1, h2, h3⟩ := ho
        obtain ⟨r1, r2⟩ := HOK.out t l' rfl
        refine .inl ⟨l', [t], h1.alloc _, r2.e.ends HE.out, ⟨by have := r2.len; omega, Nat.le_refl _⟩, Lib.hid ⟨(h2.lt.from (From.alloc _ _ _)).mono (fun b hb => ⟨by have := hb.1; omega, fun h => ?_⟩), trivial⟩, Lib.hid ?_, by show 0 + 1 ≤ 6; omega, Lib.hid r1⟩
        · have h5 := hb.2
          have h6 : b = w2.heap.size := Option.some.inj h
          omega
        · rw [← h3]; rfl
      | bad a e =>
        have ho : RdS w2 B (d : Int) (.bad a e) := ho
        exact .inr ⟨a, e, ho.alloc _, HBAD.out a e rfl⟩
    case round =>
      clear HOK HBAD HO2 HOWN HK1 HK2
      obtain ⟨F, a, cap, rfl, HOWN, hF7, HK, hor⟩ := hrel
      rcases hor with ⟨lx, ts, hrd, hends, ⟨hneed2, hgf⟩, HKD, HST, hF6, HRE⟩ | ⟨p, e, hrd, hre⟩
      · obtain ⟨g', rfl⟩ : ∃ g', gk = g' + 1 := ⟨gk - 1, by omega⟩
        have HRD := Lib.hid hrd
        have HEN := Lib.hid hends
        clear hrd hends
        by_cases hcm : ((wrd lx).toList == (ByteArray.mk #[44]).toList) = true
        · have hcm44 : ((wrd lx).toList == [44]) = true := by rw [← show (ByteArray.mk #[44]).toList = [44] from by decide +kernel]; exact hcm
          have hne := ne_of_wrd hcm44
          have HC3 := Lib.hid (may_yes lx ⟨#[44]⟩ wr B d hcm HRD.out)
          have hlen : F.len = ts.length := by rw [← strip_len, HST.out, ofL_len]
          by_cases h6 : F.len = 6
          · have h6i : ((F.len : Int) == 6) = true := by rw [beq_iff_eq]; omega
            have hts : (ts.length == 6) = true := by rw [← hlen, h6]; rfl
            have HR2 := Lib.hid (show r = .bad (hd lx.tail).pos 2 from by rw [HRE.out]; unfold pListL; rw [if_pos hcm44, if_pos hts])
            have HUN := Lib.hid (fun W (h : RdS W B (d : Int) (.good lx.tail)) => unfit_g lx.tail W B d h)
            generalize (hd lx.tail).pos = pp at HR2 HUN
            clear hcm hcm44 hts h6 hlen HRE hne
            go_wp2_with fail
            refine HC3.out.mono ?_
            rintro e w3 ⟨rfl, hk3, hr3⟩
            have HC4 := Lib.hid (HUN.out w3 hr3)
            have HK3 := Lib.hid hk3
            clear hk3 hr3 HC3
            go_wp2_with fail
            refine HC4.out.mono ?_
            rintro e w4 ⟨rfl, hk4, hr4⟩
            have HC5 := Lib.hid (HBK.out w4 B d _ _ hdd (HP.out.kp (HK.out.trans (HK3.out.trans hk4))) hr4)
            have HK4 := Lib.hid (HK3.out.trans hk4)
            clear hk4 hr4 HC4 HK3
            go_wp2_with fail
            refine HC5.out.mono ?_
            rintro e w5 ⟨U, rfl, hk5, ho5⟩
            have HKK := Lib.hid (HK4.out.trans hk5)
            have HR5 := Lib.hid (show RdS w5 B (d : Int) (.bad pp 2) from ho5)
            have hzz := HKK.out.size
            have hzw := HK.out.size
            clear hk5 ho5 HC5 HK4
            have hown5 := HOWN.out.kept HKK.out (.inr (fun h => by have := (HOWN.out.lt _ h).1; omega))
            have hlt5 := HOWN.out.lt
            have HOWN5 := Lib.hid hown5
            have HLT := Lib.hid hlt5
            clear hown5 hlt5
            go_wp2_with (at_builtin; refine wpList_append_own_at _ rfl _ _ 24 rfl w.heap.size 26 i0 (.agg #[.string ⟨#[]⟩, .string ⟨#[]⟩, .int .i64 0, .int .i64 0, .slice none 0 0]) 5 72 Tryd.underlying24 HIF.out.1 HIF.out.2.1 HIF.out.2.2.1 HIF.out.2.2.2 rfl (by decide) _ _ _ rfl (HOWN5.out.alloc _) ⟨w5.heap.size, 0, none⟩ 1 1 [.string U.op, .string U.name, .int .i64 U.n, .int .i64 U.pos, .slice U.a U.kids.len U.cap] rfl rfl (cell_five_new _ _ _ _ _ _ _) (fun x hx => by simp at hx; rcases hx with rfl | rfl | rfl | rfl | rfl <;> rfl) (by unfold maxLen; omega) (by omega) (by simp; omega) ?_; intro v' w9 hown9 hgrow9 _ hlie9)
            obtain ⟨a', cap', rfl⟩ := own_form hown9
            have HOWN9 := Lib.hid hown9
            have HGR := Lib.hid hgrow9
            have HLIE := Lib.hid hlie9
            clear hown9 hgrow9 hlie9
            go_wp2_with fail
            go_roundg g'
            case rel =>
              refine ⟨F.snoc U, a', cap', by rw [snoc_len], Lib.hid (by rw [snoc_len, flatF_snoc]; exact HOWN9.out), by rw [snoc_len]; omega, Lib.hid (kp_append ((HK.out.trans HKK.out).alloc _) HGR.out (fun k hk => (HLT.out k hk).1)), ?_⟩
              exact .inr ⟨_, _, rds_append (HR5.out.alloc _) HGR.out (fun k hk => by have := (HLT.out k hk).1; omega), HR2.out⟩
            case measure => omega
          · have h6i : ((F.len : Int) == 6) = false := by rw [beq_eq_false_iff_ne]; omega
            have hts : ¬ (ts.length == 6) = true := by rw [← hlen, beq_iff_eq]; exact h6
            obtain ⟨rk', hq⟩ : ∃ rk', pKid g' false lx.tail = rk' := ⟨_, rfl⟩
            have HOK2 : RowKit.Hid (∀ k l', rk' = .ok k l' → r = pListL g' false (ts ++ [k]) l' ∧ Suf l' lx) := Lib.hid (fun k l' h => ⟨by rw [HRE.out]; conv => { lhs; unfold pListL }; rw [if_pos hcm44, if_neg hts, hq, h], ((suf_terms g').2.2.1 _ _ _ _ (hq.trans h)).trans (Suf.tail hne).e⟩)
            have HBAD2 : RowKit.Hid (∀ a e, rk' = .bad a e → r = .bad a e) := Lib.hid (fun a e h => by rw [HRE.out]; conv => { lhs; unfold pListL }; rw [if_pos hcm44, if_neg hts, hq, h])
            have HKID2 := Lib.hid (fun W (hp : PTB B W) (hr : RdS W B (d : Int) (.good lx.tail)) => HIH.out g' (by omega) lx.tail W B d hdd hp HEN.out.tail (by have := (Suf.tail hne).len; omega) hr)
            simp only [hq] at HKID2
            have hF5 : F.len + 1 ≤ 6 := by omega
            clear hcm hcm44 hts h6 hlen HRE hne hq
            go_wp2_with fail
            refine HC3.out.mono ?_
            rintro e w3 ⟨rfl, hk3, hr3⟩
            have HC4 := Lib.hid (HKID2.out w3 (HP.out.kp (HK.out.trans hk3)) hr3)
            have HK3 := Lib.hid hk3
            clear hk3 hr3 HC3
            go_wp2_with fail
            refine HC4.out.mono ?_
            rintro e w5 ⟨U, rfl, hk5, ho5⟩
            have HKK := Lib.hid (HK3.out.trans hk5)
            have HO5 := Lib.hid ho5
            have hz3 := HK3.out.size
            have hzz := HKK.out.size
            have hzw := HK.out.size
            clear hk5 ho5 HC4 HK3
            have hown5 := HOWN.out.kept HKK.out (.inr (fun h => by have := (HOWN.out.lt _ h).1; omega))
            have hlt5 := HOWN.out.lt
            have HOWN5 := Lib.hid hown5
            have HLT := Lib.hid hlt5
            clear hown5 hlt5
            go_wp2_with (at_builtin; refine wpList_append_own_at _ rfl _ _ 24 rfl w.heap.size 26 i0 (.agg #[.string ⟨#[]⟩, .string ⟨#[]⟩, .int .i64 0, .int .i64 0, .slice none 0 0]) 5 72 Tryd.underlying24 HIF.out.1 HIF.out.2.1 HIF.out.2.2.1 HIF.out.2.2.2 rfl (by decide) _ _ _ rfl (HOWN5.out.alloc _) ⟨w5.heap.size, 0, none⟩ 1 1 [.string U.op, .string U.name, .int .i64 U.n, .int .i64 U.pos, .slice U.a U.kids.len U.cap] rfl rfl (cell_five_new _ _ _ _ _ _ _) (fun x hx => by simp at hx; rcases hx with rfl | rfl | rfl | rfl | rfl <;> rfl) (by unfold maxLen; omega) (by omega) (by simp; omega) ?_; intro v' w9 hown9 hgrow9 _ hlie9)
            obtain ⟨a', cap', rfl⟩ := own_form hown9
            have HOWN9 := Lib.hid hown9
            have HGR := Lib.hid hgrow9
            have HLIE := Lib.hid hlie9
            clear hown9 hgrow9 hlie9
            go_wp2_with fail
            go_roundg g'
            case rel =>
              refine ⟨F.snoc U, a', cap', by rw [snoc_len], Lib.hid (by rw [snoc_len, flatF_snoc]; exact HOWN9.out), by rw [snoc_len]; omega, Lib.hid (kp_append ((HK.out.trans HKK.out).alloc _) HGR.out (fun k hk => (HLT.out k hk).1)), ?_⟩
              cases rk' with
              | ok k l' =>
                obtain ⟨hr5, hg5, hs5⟩ := HO5.out
                obtain ⟨r1, r2⟩ := HOK2.out k l' rfl
                refine .inl ⟨l', ts ++ [k], rds_append (hr5.alloc _) HGR.out (fun k hk => by have := (HLT.out k hk).1; omega), r2.e.ends HEN.out, ⟨by have := r2.len; omega, by omega⟩, Lib.hid ?_, Lib.hid (by rw [← hs5]; exact ofL_snoc ts U F HST.out), by rw [snoc_len]; omega, Lib.hid r1⟩
                have hk := kids_append ((HKD.out.from (HKK.out.from (fun h => absurd h.1 (by omega)))).from (From.alloc _ _ _)) ((hg5.mono (fun b hb => ⟨by omega, fun h => by have := (HLT.out b h.symm).2; omega⟩)).from (From.alloc _ _ _)) HGR.out HLIE.out
                rw [snoc_len]
                exact hk
              | bad a e =>
                have ho : RdS w5 B (d : Int) (.bad a e) := HO5.out
                exact .inr ⟨a, e, rds_append (ho.alloc _) HGR.out (fun k hk => by have := (HLT.out k hk).1; omega), HBAD2.out a e rfl⟩
            case measure => omega
        · have hcm44 : ¬ ((wrd lx).toList == [44]) = true := by rw [← show (ByteArray.mk #[44]).toList = [44] from by decide +kernel]; exact hcm
          have hcm' : ((wrd lx).toList == (ByteArray.mk #[44]).toList) = false := by simpa using hcm
          have HC3 := Lib.hid (may_no lx ⟨#[44]⟩ wr B d hcm' HRD.out)
          by_cases hcl : ((wrd lx).toList == clo false) = true
          · have HR2 := Lib.hid (show r = .ok ts lx.tail from by rw [HRE.out]; unfold pListL; rw [if_neg (show ¬ ((wrd lx).toList == [44]) = true from hcm44), if_pos hcl])
            have HMU := Lib.hid (fun W (h : RdS W B (d : Int) (.good lx)) => must_yes lx ⟨#[41]⟩ W B d (by rw [← clo_t]; exact hcl) h)
            clear hcm hcm' hcl hcm44 HRE
            go_wp2_with fail
            refine HC3.out.mono ?_
            rintro e w3 ⟨rfl, hk3, hr3⟩
            have HC4 := Lib.hid (HMU.out w3 hr3)
            have HK3 := Lib.hid hk3
            clear hk3 hr3 HC3
            go_wp2_with fail
            refine HC4.out.mono ?_
            rintro e w4 ⟨rfl, hk4, hr4⟩
            go_wp2_with fail
            go_ret
            have hkk := HK3.out.trans hk4
            have hown := HOWN.out.kept hkk (.inr (fun h => by have := (HOWN.out.lt _ h).1; omega))
            obtain ⟨a', cap', hv, hgd⟩ := row_good hown (HKD.out.from (hkk.from (fun h => absurd h.1 (by omega)))) (by omega)
            obtain ⟨rfl, rfl⟩ : a = a' ∧ cap = cap' := by cases hv; exact ⟨rfl, rfl⟩
            refine ⟨a, F, cap, rfl, HK.out.trans hkk, ?_⟩
            rw [HR2.out]
            exact ⟨hr4, fun op name n pos cap => hgd op name n pos cap, HST.out⟩
          · have hcl' : ((wrd lx).toList == (⟨#[41]⟩ : ByteArray).toList) = false := by rw [← clo_t]; simpa using hcl
            have HR2 := Lib.hid (show r = .bad (hd lx).pos 2 from by rw [HRE.out]; unfold pListL; rw [if_neg (show ¬ ((wrd lx).toList == [44]) = true from hcm44), if_neg hcl])
            have HMU := Lib.hid (fun W (h : RdS W B (d : Int) (.good lx)) => must_no lx ⟨#[41]⟩ W B d hcl' h)
            clear hcm hcm' hcl hcl' hcm44 HRE
            go_wp2_with fail
            refine HC3.out.mono ?_
            rintro e w3 ⟨rfl, hk3, hr3⟩
            have HC4 := Lib.hid (HMU.out w3 hr3)
            have HK3 := Lib.hid hk3
            clear hk3 hr3 HC3
            go_wp2_with fail
            refine HC4.out.mono ?_
            rintro e w4 ⟨rfl, hk4, hr4⟩
            go_wp2_with fail
            go_ret
            refine ⟨a, F, cap, rfl, HK.out.trans (HK3.out.trans hk4), ?_⟩
            rw [HR2.out]
            exact hr4
      · have HC3 := Lib.hid (may_b ⟨#[44]⟩ wr B d p e (by decide +kernel) hrd)
        have HRE := Lib.hid hre
        have HMU := Lib.hid (fun W (h : RdS W B (d : Int) (.bad p e)) => must_b ⟨#[41]⟩ W B d p e (by decide +kernel) h)
        clear hrd hre
        go_wp2_with fail
        refine HC3.out.mono ?_
        rintro x w3 ⟨rfl, hk3, hr3⟩
        have HC4 := Lib.hid (HMU.out w3 hr3)
        have HK3 := Lib.hid hk3
        clear hk3 hr3 HC3
        go_wp2_with fail
        refine HC4.out.mono ?_
        rintro x w4 ⟨rfl, hk4, hr4⟩
        go_wp2_with fail
        go_ret
        refine ⟨a, F, cap, rfl, HK.out.trans (HK3.out.trans hk4), ?_⟩
        rw [HRE.out]
        exact hr4
set_option maxRecDepth 100000 in
set_option maxHeartbeats 16000000 in
theorem listP (f : Nat) (ih : ∀ g, g ≤ f → SayN 116 3 (fun f _ l => pKid f true l) g) (hbk : BadN 116) (l : List Tok) (w : World) (B d : Nat) (hdd : d ≤ 30) (hP : PTB B w) (hE : EndsOk l) (hneed : 4 + 20 * l.length ≤ f + 1) (hS : RdS w B (d : Int) (.good l)) :
    Calls Tryd.prog 113 #[.pointer (some ⟨B, 0, none⟩), .string ⟨#[125]⟩, .func (.func 116) #[.pointer (some ⟨B, 0, none⟩)] #[]] w (PostL B d w (pList (f + 1) true l)) := by
  obtain ⟨i0, hi, hz0, hz1, hz2⟩ := info_parts Tryd.infoNode
  have HIF := Lib.hid (And.intro hi (And.intro hz0 (And.intro hz1 hz2)))
  clear hi hz0 hz1 hz2
  have hc5 := cellsNode
  have hB := hS.lt
  have HS := Lib.hid hS
  have HP := Lib.hid hP
  have HE := Lib.hid hE
  have HBK := Lib.hid hbk
  have HIH := Lib.hid ih
  clear hS hP hE hbk ih
  generalize hr : pList (f + 1) true l = r
  by_cases hw : ((wrd l).toList == clo true) = true
  · have hwx : ((wrd l).toList == (⟨#[125]⟩ : ByteArray).toList) = true := by rw [← clo_p]; exact hw
    have HRE : RowKit.Hid (r = .ok [] l.tail) := Lib.hid (by rw [← hr]; unfold pList; rw [if_pos hw])
    have HC := Lib.hid (may_yes l ⟨#[125]⟩ w B d hwx HS.out)
    clear hr hw hwx
    go_enter Tryd.func113, Tryd.ntmps113
    go_wp2_with fail
    refine HC.out.mono ?_
    rintro e w1 ⟨rfl, hk1, hr1⟩
    go_wp2_with fail
    go_ret
    refine ⟨none, .nil, 0, rfl, hk1, ?_⟩
    rw [HRE.out]
    exact ⟨hr1, fun _ _ _ _ _ => Nd.Good.leaf _ _ _ _ _ _ _ _, rfl⟩
  · have hw' : ((wrd l).toList == (⟨#[125]⟩ : ByteArray).toList) = false := by rw [← clo_p]; simpa using hw
    obtain ⟨rk, hq⟩ : ∃ rk, pKid f true l = rk := ⟨_, rfl⟩
    have HOK : RowKit.Hid (∀ t l', rk = .ok t l' → r = pListL f true [t] l' ∧ Suf l' l) := Lib.hid (fun t l' h => ⟨by rw [← hr]; unfold pList; rw [if_neg hw, hq, h], (suf_terms f).2.2.1 _ _ _ _ (hq.trans h)⟩)
    have HBAD : RowKit.Hid (∀ a e, rk = .bad a e → r = .bad a e) := Lib.hid (fun a e h => by rw [← hr]; unfold pList; rw [if_neg hw, hq, h])
    have HC1 := Lib.hid (may_no l ⟨#[125]⟩ w B d hw' HS.out)
    have HKID := Lib.hid (fun W (hp : PTB B W) (hr : RdS W B (d : Int) (.good l)) => HIH.out f (Nat.le_refl _) l W B d hdd hp HE.out (by omega) hr)
    simp only [hq] at HKID
    clear hr hw hw' hq
    go_enter Tryd.func113, Tryd.ntmps113
    go_wp2_with fail
    refine HC1.out.mono ?_
    rintro e w1 ⟨rfl, hk1, hr1⟩
    have HC2 := Lib.hid (HKID.out w1 (HP.out.kp hk1) hr1)
    have HK1 := Lib.hid hk1
    clear hk1 hr1 HC1
    go_wp2_with fail
    refine HC2.out.mono ?_
    rintro e w2 ⟨T, rfl, hk2, ho2⟩
    have HO2 := Lib.hid ho2
    have hz12 := HK1.out.size
    have hz2 := hk2.size
    have HK2 := Lib.hid (HK1.out.trans hk2)
    clear ho2 hk2 HC2 HKID
    go_wp2_with fail
    have HOWN := Lib.hid (World.ownsRow_lit (base := w.heap.size) (e := 26) (size := 5) w2 #[.string T.op, .string T.name, .int .i64 T.n, .int .i64 T.pos, .slice T.a T.kids.len T.cap] 1 (by omega) (by unfold maxLen; decide) (by rfl))
    go_loopg [7] f (fun gf v7 wx => ∃ (F : Fo) (a : Option Addr) (cap : Nat), v7 = .slice a F.len cap ∧ RowKit.Hid (wx.ownsRow w.heap.size 26 5 (.slice a F.len cap) F.len (flatF F)) ∧ F.len ≤ 7 ∧ RowKit.Hid (Kp B w wx) ∧
      ((∃ l ts, RdS wx B (d : Int) (.good l) ∧ EndsOk l ∧ (1 + 20 * l.length ≤ gf ∧ gf ≤ f) ∧ RowKit.Hid (F.Kids (fun b => w.heap.size ≤ b ∧ some b ≠ (Value.slice a F.len cap).ownBlock) wx) ∧ RowKit.Hid (F.strip = Fo.ofL ts) ∧ F.len ≤ 6 ∧ RowKit.Hid (r = pListL gf true ts l)) ∨ (∃ p e, RdS wx B (d : Int) (.bad p e) ∧ r = .bad p e)))
    case atStart =>
      refine ⟨.cons T.op T.name T.n T.pos T.a T.cap T.kids .nil, some ⟨w2.heap.size, 0, none⟩, 1, rfl, HOWN, by show 0 + 1 ≤ 7; omega, Lib.hid (HK2.out.alloc _), ?_⟩
      have ho := HO2.out
      cases rk with
      | ok t l' =>
        obtain ⟨h1, h2, h3⟩ := ho
        obtain ⟨r1, r2⟩ := HOK.out t l' rfl
        refine .inl ⟨l', [t], h1.alloc _, r2.e.ends HE.out, ⟨by have := r2.len; omega, Nat.le_refl _⟩, Lib.hid ⟨(h2.lt.from (From.alloc _ _ _)).mono (fun b hb => ⟨by have := hb.1; omega, fun h => ?_⟩), trivial⟩, Lib.hid ?_, by show 0 + 1 ≤ 6; omega, Lib.hid r1⟩
        · have h5 := hb.2
          have h6 : b = w2.heap.size := Option.some.inj h
          omega
        · rw [← h3]; rfl
      | bad a e =>
        have ho : RdS w2 B (d : Int) (.bad a e) := ho
        exact .inr ⟨a, e, ho.alloc _, HBAD.out a e rfl⟩
    case round =>
      clear HOK HBAD HO2 HOWN HK1 HK2
      obtain ⟨F, a, cap, rfl, HOWN, hF7, HK, hor⟩ := hrel
      rcases hor with ⟨lx, ts, hrd, hends, ⟨hneed2, hgf⟩, HKD, HST, hF6, HRE⟩ | ⟨p, e, hrd, hre⟩
      · obtain ⟨g', rfl⟩ : ∃ g', gk = g' + 1 := ⟨gk - 1, by omega⟩
        have HRD := Lib.hid hrd
        have HEN := Lib.hid hends
        clear hrd hends
        by_cases hcm : ((wrd lx).toList == (ByteArray.mk #[44]).toList) = true
        · have hcm44 : ((wrd lx).toList == [44]) = true := by rw [← show (ByteArray.mk #[44]).toList = [44] from by decide +kernel]; exact hcm
          have hne := ne_of_wrd hcm44
          have HC3 := Lib.hid (may_yes lx ⟨#[44]⟩ wr B d hcm HRD.out)
          have hlen : F.len = ts.length := by rw [← strip_len, HST.out, ofL_len]
          by_cases h6 : F.len = 6
          · have h6i : ((F.len : Int) == 6) = true := by rw [beq_iff_eq]; omega
            have hts : (ts.length == 6) = true := by rw [← hlen, h6]; rfl
            have HR2 := Lib.hid (show r = .bad (hd lx.tail).pos 2 from by rw [HRE.out]; unfold pListL; rw [if_pos hcm44, if_pos hts])
            have HUN := Lib.hid (fun W (h : RdS W B (d : Int) (.good lx.tail)) => unfit_g lx.tail W B d h)
            generalize (hd lx.tail).pos = pp at HR2 HUN
            clear hcm hcm44 hts h6 hlen HRE hne
            go_wp2_with fail
            refine HC3.out.mono ?_
            rintro e w3 ⟨rfl, hk3, hr3⟩
            have HC4 := Lib.hid (HUN.out w3 hr3)
            have HK3 := Lib.hid hk3
            clear hk3 hr3 HC3
            go_wp2_with fail
            refine HC4.out.mono ?_
            rintro e w4 ⟨rfl, hk4, hr4⟩
            have HC5 := Lib.hid (HBK.out w4 B d _ _ hdd (HP.out.kp (HK.out.trans (HK3.out.trans hk4))) hr4)
            have HK4 := Lib.hid (HK3.out.trans hk4)
            clear hk4 hr4 HC4 HK3
            go_wp2_with fail
            refine HC5.out.mono ?_
            rintro e w5 ⟨U, rfl, hk5, ho5⟩
            have HKK := Lib.hid (HK4.out.trans hk5)
            have HR5 := Lib.hid (show RdS w5 B (d : Int) (.bad pp 2) from ho5)
            have hzz := HKK.out.size
            have hzw := HK.out.size
            clear hk5 ho5 HC5 HK4
            have hown5 := HOWN.out.kept HKK.out (.inr (fun h => by have := (HOWN.out.lt _ h).1; omega))
            have hlt5 := HOWN.out.lt
            have HOWN5 := Lib.hid hown5
            have HLT := Lib.hid hlt5
            clear hown5 hlt5
            go_wp2_with (at_builtin; refine wpList_append_own_at _ rfl _ _ 24 rfl w.heap.size 26 i0 (.agg #[.string ⟨#[]⟩, .string ⟨#[]⟩, .int .i64 0, .int .i64 0, .slice none 0 0]) 5 72 Tryd.underlying24 HIF.out.1 HIF.out.2.1 HIF.out.2.2.1 HIF.out.2.2.2 rfl (by decide) _ _ _ rfl (HOWN5.out.alloc _) ⟨w5.heap.size, 0, none⟩ 1 1 [.string U.op, .string U.name, .int .i64 U.n, .int .i64 U.pos, .slice U.a U.kids.len U.cap] rfl rfl (cell_five_new _ _ _ _ _ _ _) (fun x hx => by simp at hx; rcases hx with rfl | rfl | rfl | rfl | rfl <;> rfl) (by unfold maxLen; omega) (by omega) (by simp; omega) ?_; intro v' w9 hown9 hgrow9 _ hlie9)
            obtain ⟨a', cap', rfl⟩ := own_form hown9
            have HOWN9 := Lib.hid hown9
            have HGR := Lib.hid hgrow9
            have HLIE := Lib.hid hlie9
            clear hown9 hgrow9 hlie9
            go_wp2_with fail
            go_roundg g'
            case rel =>
              refine ⟨F.snoc U, a', cap', by rw [snoc_len], Lib.hid (by rw [snoc_len, flatF_snoc]; exact HOWN9.out), by rw [snoc_len]; omega, Lib.hid (kp_append ((HK.out.trans HKK.out).alloc _) HGR.out (fun k hk => (HLT.out k hk).1)), ?_⟩
              exact .inr ⟨_, _, rds_append (HR5.out.alloc _) HGR.out (fun k hk => by have := (HLT.out k hk).1; omega), HR2.out⟩
            case measure => omega
          · have h6i : ((F.len : Int) == 6) = false := by rw [beq_eq_false_iff_ne]; omega
            have hts : ¬ (ts.length == 6) = true := by rw [← hlen, beq_iff_eq]; exact h6
            obtain ⟨rk', hq⟩ : ∃ rk', pKid g' true lx.tail = rk' := ⟨_, rfl⟩
            have HOK2 : RowKit.Hid (∀ k l', rk' = .ok k l' → r = pListL g' true (ts ++ [k]) l' ∧ Suf l' lx) := Lib.hid (fun k l' h => ⟨by rw [HRE.out]; conv => { lhs; unfold pListL }; rw [if_pos hcm44, if_neg hts, hq, h], ((suf_terms g').2.2.1 _ _ _ _ (hq.trans h)).trans (Suf.tail hne).e⟩)
            have HBAD2 : RowKit.Hid (∀ a e, rk' = .bad a e → r = .bad a e) := Lib.hid (fun a e h => by rw [HRE.out]; conv => { lhs; unfold pListL }; rw [if_pos hcm44, if_neg hts, hq, h])
            have HKID2 := Lib.hid (fun W (hp : PTB B W) (hr : RdS W B (d : Int) (.good lx.tail)) => HIH.out g' (by omega) lx.tail W B d hdd hp HEN.out.tail (by have := (Suf.tail hne).len; omega) hr)
            simp only [hq] at HKID2
            have hF5 : F.len + 1 ≤ 6 := by omega
            clear hcm hcm44 hts h6 hlen HRE hne hq
            go_wp2_with fail
            refine HC3.out.mono ?_
            rintro e w3 ⟨rfl, hk3, hr3⟩
            have HC4 := Lib.hid (HKID2.out w3 (HP.out.kp (HK.out.trans hk3)) hr3)
            have HK3 := Lib.hid hk3
            clear hk3 hr3 HC3
            go_wp2_with fail
            refine HC4.out.mono ?_
            rintro e w5 ⟨U, rfl, hk5, ho5⟩
            have HKK := Lib.hid (HK3.out.trans hk5)
            have HO5 := Lib.hid ho5
            have hz3 := HK3.out.size
            have hzz := HKK.out.size
            have hzw := HK.out.size
            clear hk5 ho5 HC4 HK3
            have hown5 := HOWN.out.kept HKK.out (.inr (fun h => by have := (HOWN.out.lt _ h).1; omega))
            have hlt5 := HOWN.out.lt
            have HOWN5 := Lib.hid hown5
            have HLT := Lib.hid hlt5
            clear hown5 hlt5
            go_wp2_with (at_builtin; refine wpList_append_own_at _ rfl _ _ 24 rfl w.heap.size 26 i0 (.agg #[.string ⟨#[]⟩, .string ⟨#[]⟩, .int .i64 0, .int .i64 0, .slice none 0 0]) 5 72 Tryd.underlying24 HIF.out.1 HIF.out.2.1 HIF.out.2.2.1 HIF.out.2.2.2 rfl (by decide) _ _ _ rfl (HOWN5.out.alloc _) ⟨w5.heap.size, 0, none⟩ 1 1 [.string U.op, .string U.name, .int .i64 U.n, .int .i64 U.pos, .slice U.a U.kids.len U.cap] rfl rfl (cell_five_new _ _ _ _ _ _ _) (fun x hx => by simp at hx; rcases hx with rfl | rfl | rfl | rfl | rfl <;> rfl) (by unfold maxLen; omega) (by omega) (by simp; omega) ?_; intro v' w9 hown9 hgrow9 _ hlie9)
            obtain ⟨a', cap', rfl⟩ := own_form hown9
            have HOWN9 := Lib.hid hown9
            have HGR := Lib.hid hgrow9
            have HLIE := Lib.hid hlie9
            clear hown9 hgrow9 hlie9
            go_wp2_with fail
            go_roundg g'
            case rel =>
              refine ⟨F.snoc U, a', cap', by rw [snoc_len], Lib.hid (by rw [snoc_len, flatF_snoc]; exact HOWN9.out), by rw [snoc_len]; omega, Lib.hid (kp_append ((HK.out.trans HKK.out).alloc _) HGR.out (fun k hk => (HLT.out k hk).1)), ?_⟩
              cases rk' with
              | ok k l' =>
                obtain ⟨hr5, hg5, hs5⟩ := HO5.out
                obtain ⟨r1, r2⟩ := HOK2.out k l' rfl
                refine .inl ⟨l', ts ++ [k], rds_append (hr5.alloc _) HGR.out (fun k hk => by have := (HLT.out k hk).1; omega), r2.e.ends HEN.out, ⟨by have := r2.len; omega, by omega⟩, Lib.hid ?_, Lib.hid (by rw [← hs5]; exact ofL_snoc ts U F HST.out), by rw [snoc_len]; omega, Lib.hid r1⟩
                have hk := kids_append ((HKD.out.from (HKK.out.from (fun h => absurd h.1 (by omega)))).from (From.alloc _ _ _)) ((hg5.mono (fun b hb => ⟨by omega, fun h => by have := (HLT.out b h.symm).2; omega⟩)).from (From.alloc _ _ _)) HGR.out HLIE.out
                rw [snoc_len]
                exact hk
              | bad a e =>
                have ho : RdS w5 B (d : Int) (.bad a e) := HO5.out
                exact .inr ⟨a, e, rds_append (ho.alloc _) HGR.out (fun k hk => by have := (HLT.out k hk).1; omega), HBAD2.out a e rfl⟩
            case measure => omega
        · have hcm44 : ¬ ((wrd lx).toList == [44]) = true := by rw [← show (ByteArray.mk #[44]).toList = [44] from by decide +kernel]; exact hcm
          have hcm' : ((wrd lx).toList == (ByteArray.mk #[44]).toList) = false := by simpa using hcm
          have HC3 := Lib.hid (may_no lx ⟨#[44]⟩ wr B d hcm' HRD.out)
          by_cases hcl : ((wrd lx).toList == clo true) = true
          · have HR2 := Lib.hid (show r = .ok ts lx.tail from by rw [HRE.out]; unfold pListL; rw [if_neg (show ¬ ((wrd lx).toList == [44]) = true from hcm44), if_pos hcl])
            have HMU := Lib.hid (fun W (h : RdS W B (d : Int) (.good lx)) => must_yes lx ⟨#[125]⟩ W B d (by rw [← clo_p]; exact hcl) h)
            clear hcm hcm' hcl hcm44 HRE
            go_wp2_with fail
            refine HC3.out.mono ?_
            rintro e w3 ⟨rfl, hk3, hr3⟩
            have HC4 := Lib.hid (HMU.out w3 hr3)
            have HK3 := Lib.hid hk3
            clear hk3 hr3 HC3
            go_wp2_with fail
            refine HC4.out.mono ?_
            rintro e w4 ⟨rfl, hk4, hr4⟩
            go_wp2_with fail
            go_ret
            have hkk := HK3.out.trans hk4
            have hown := HOWN.out.kept hkk (.inr (fun h => by have := (HOWN.out.lt _ h).1; omega))
            obtain ⟨a', cap', hv, hgd⟩ := row_good hown (HKD.out.from (hkk.from (fun h => absurd h.1 (by omega)))) (by omega)
            obtain ⟨rfl, rfl⟩ : a = a' ∧ cap = cap' := by cases hv; exact ⟨rfl, rfl⟩
            refine ⟨a, F, cap, rfl, HK.out.trans hkk, ?_⟩
            rw [HR2.out]
            exact ⟨hr4, fun op name n pos cap => hgd op name n pos cap, HST.out⟩
          · have hcl' : ((wrd lx).toList == (⟨#[125]⟩ : ByteArray).toList) = false := by rw [← clo_p]; simpa using hcl
            have HR2 := Lib.hid (show r = .bad (hd lx).pos 2 from by rw [HRE.out]; unfold pListL; rw [if_neg (show ¬ ((wrd lx).toList == [44]) = true from hcm44), if_neg hcl])
            have HMU := Lib.hid (fun W (h : RdS W B (d : Int) (.good lx)) => must_no lx ⟨#[125]⟩ W B d hcl' h)
            clear hcm hcm' hcl hcl' hcm44 HRE
            go_wp2_with fail
            refine HC3.out.mono ?_
            rintro e w3 ⟨rfl, hk3, hr3⟩
            have HC4 := Lib.hid (HMU.out w3 hr3)
            have HK3 := Lib.hid hk3
            clear hk3 hr3 HC3
            go_wp2_with fail
            refine HC4.out.mono ?_
            rintro e w4 ⟨rfl, hk4, hr4⟩
            go_wp2_with fail
            go_ret
            refine ⟨a, F, cap, rfl, HK.out.trans (HK3.out.trans hk4), ?_⟩
            rw [HR2.out]
            exact hr4
      · have HC3 := Lib.hid (may_b ⟨#[44]⟩ wr B d p e (by decide +kernel) hrd)
        have HRE := Lib.hid hre
        have HMU := Lib.hid (fun W (h : RdS W B (d : Int) (.bad p e)) => must_b ⟨#[125]⟩ W B d p e (by decide +kernel) h)
        clear hrd hre
        go_wp2_with fail
        refine HC3.out.mono ?_
        rintro x w3 ⟨rfl, hk3, hr3⟩
        have HC4 := Lib.hid (HMU.out w3 hr3)
        have HK3 := Lib.hid hk3
        clear hk3 hr3 HC3
        go_wp2_with fail
        refine HC4.out.mono ?_
        rintro x w4 ⟨rfl, hk4, hr4⟩
        go_wp2_with fail
        go_ret
        refine ⟨a, F, cap, rfl, HK.out.trans (HK3.out.trans hk4), ?_⟩
        rw [HRE.out]
        exact hr4
end Go.Proofs.YtmmicnjiikiklaaDoor
