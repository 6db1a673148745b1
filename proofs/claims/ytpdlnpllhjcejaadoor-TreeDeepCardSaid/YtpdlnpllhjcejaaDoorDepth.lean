/- tree.Depth, for every node. -/
import Derived.Test.YtpdlnpllhjcejaaDoorBelow
import Derived.Test.YtpdlnpllhjcejaaDoorLexPure2
import Derived.Test.YtpdlnpllhjcejaaDoorRows
import Derived.WalkKit
import Derived.WalkLawsBesides
import Derived.WalkSpells
import Derived.ProofKit
import Derived.Outline
import Derived.Deep.QuietTactic
import Derived.BigQuiet
import Derived.Deep.Light
import Derived.Deep.CutBlock
import Derived.Deep.DeepCutAuto
import Derived.Deep.DeepFit
import Derived.Deep.LoopGhost
import Derived.Lib.Hide
import Derived.Lib.OthersKept
import Derived.IntWalk
import Derived.StillTailTactics
namespace Go.Proofs.YtpdlnpllhjcejaaDoor
open Go.RowKit
/-! tree.Depth. -/
def dl : List Rw → Nat
  | [] => 0
  | r :: rs => max r.F.deep (dl rs)
theorem dl_mem {rs : List Rw} {r : Rw} (h : r ∈ rs) : r.F.deep ≤ dl rs := by
  induction rs with
  | nil => cases h
  | cons x rs ih =>
    show r.F.deep ≤ max x.F.deep (dl rs)
    rcases List.mem_cons.1 h with rfl | h
    · omega
    · have := ih h; omega
theorem dl_le {rs : List Rw} {m : Nat} (h : ∀ r ∈ rs, r.F.deep ≤ m) : dl rs ≤ m := by
  induction rs with
  | nil => exact Nat.zero_le _
  | cons x rs ih =>
    have h1 := h x (List.mem_cons_self ..)
    have h2 := ih fun r hr => h r (List.mem_cons_of_mem _ hr)
    show max x.F.deep (dl rs) ≤ m
    omega
theorem kid_deep : ∀ {F : Fo} {r : Rw}, F.kidOf r → r.F.deep + 1 ≤ F.deep := by
  intro F
  induction F with
  | nil => intro r h; exact h.elim
  | cons op name n pos a cap kids rest ihk ihr =>
    intro r h
    show r.F.deep + 1 ≤ max (kids.deep + 1) rest.deep
    rcases h with ⟨h, _⟩ | h
    · rw [h]; omega
    · have := ihr h; omega
theorem Next.deep {rs rs' : List Rw} (h : Next rs rs') (hne : rs' ≠ []) : dl rs' + 1 ≤ dl rs := by
  have h1 : 1 ≤ dl rs := by
    cases rs' with
    | nil => exact absurd rfl hne
    | cons r' rs' =>
      obtain ⟨r, hr, hk⟩ := h.kid r' (List.mem_cons_self ..)
      have := kid_deep hk
      have := dl_mem hr
      omega
  have h2 : dl rs' ≤ dl rs - 1 := dl_le fun r' hr' => by
    obtain ⟨r, hr, hk⟩ := h.kid r' hr'
    have := kid_deep hk
    have := dl_mem hr
    omega
  omega
/-- Each node has one kid at most. -/
def Fo.line : Fo → Prop
  | .nil => True
  | .cons _ _ _ _ _ _ kids rest => rest = .nil ∧ Fo.line kids
def Nd.line (T : Nd) : Prop := T.kids.line
def lineL (rs : List Rw) : Prop := rs.length ≤ 1 ∧ ∀ r ∈ rs, r.F.line ∧ 0 < r.F.len
theorem size_pos {F : Fo} (h : 0 < F.len) : 0 < F.size := Nat.lt_of_lt_of_le h (len_size F)
/-- Of a line the level below has one level less. -/
theorem Next.line {rs rs' : List Rw} (h : Next rs rs') (hl : lineL rs) (hne : rs ≠ []) (hin : ∀ r ∈ rs', 0 < r.F.len) : lineL rs' ∧ dl rs' + 1 = dl rs := by
  obtain ⟨r, rfl⟩ : ∃ r, rs = [r] := by
    cases rs with
    | nil => exact absurd rfl hne
    | cons r rs =>
      cases rs with
      | nil => exact ⟨r, rfl⟩
      | cons x rs => have := hl.1; simp at this
  obtain ⟨hline, hlen⟩ := hl.2 r (List.mem_cons_self ..)
  obtain ⟨rb, ro, rc, RF⟩ := r
  cases RF with
  | nil => exact absurd hlen (Nat.lt_irrefl 0)
  | cons op name n pos a cap kids rest =>
    obtain ⟨hrest, hkl⟩ := hline
    obtain rfl : rest = .nil := hrest
    have hd : dl [Rw.mk rb ro rc (.cons op name n pos a cap kids .nil)] = kids.deep + 1 := by
      show max (max (kids.deep + 1) 0) 0 = _
      omega
    have hkid : ∀ r' ∈ rs', r'.F = kids := by
      intro r' hr'
      obtain ⟨r, hr, hk⟩ := h.kid r' hr'
      obtain rfl : r = _ := by simpa using hr
      rcases hk with ⟨hk, _⟩ | hk
      · exact hk.symm
      · exact hk.elim
    have hsz := h.size
    have ht : total [Rw.mk rb ro rc (.cons op name n pos a cap kids .nil)] = kids.size + 1 + 0 + 0 := rfl
    rw [ht] at hsz
    rw [hd]
    cases rs' with
    | nil =>
      have hlf := h.none.1 rfl _ (List.mem_cons_self ..)
      obtain rfl : kids = .nil := hlf.1
      exact ⟨⟨Nat.zero_le _, fun r hr => by simp at hr⟩, rfl⟩
    | cons r1 rs1 =>
      have hk1 := hkid r1 (List.mem_cons_self ..)
      have hp1 := hin r1 (List.mem_cons_self ..)
      rw [hk1] at hp1
      have hsp := size_pos hp1
      cases rs1 with
      | nil =>
        refine ⟨⟨Nat.le_refl _, fun r hr => ?_⟩, ?_⟩
        · obtain rfl : r = r1 := by simpa using hr
          rw [hk1]; exact ⟨hkl, hp1⟩
        · show max r1.F.deep 0 + 1 = _
          rw [hk1]; omega
      | cons r2 rs2 =>
        have hk2 := hkid r2 (by simp)
        have h3 : total (r1 :: r2 :: rs2) = r1.F.size + (r2.F.size + total rs2) := rfl
        rw [h3, hk1, hk2] at hsz
        simp at hsz
        omega
theorem line_len {F : Fo} (h : F.line) : F.len ≤ 1 := by
  cases F with
  | nil => exact Nat.zero_le _
  | cons op name n pos a cap kids rest => obtain ⟨h1, _⟩ := h; subst h1; exact Nat.le_refl _
/-- What Depth answers: no more than there is; just that, of a line. -/
def DepthOut (T : Nd) (d : Int) : Prop := 1 ≤ d ∧ d ≤ 31 ∧ d ≤ T.deep ∧ (T.line → d = min (T.deep : Int) 31)
/-- A node by itself, in a row of its own, in a level of its own. -/
theorem level_one (w : World) (op name : ByteArray) (n pos : Int) (a : Option Addr) (cap : Nat) (kids : Fo) (hT : Nd.In w ⟨op, name, n, pos, a, cap, kids⟩) :
    LevelIn (((w.alloc (boxOf op name n pos a kids.len cap)).alloc (boxOf op name n pos a kids.len cap)).alloc (.cells #[.slice (some ⟨w.heap.size + 1, 0, none⟩) 1 1] 35)) (.slice (some ⟨w.heap.size + 1 + 1, 0, none⟩) 1 1) [⟨w.heap.size + 1, 0, 1, .cons op name n pos a cap kids .nil⟩] := by
  have hb : ∀ o1 o2 o3 : Obj, Below w.heap.size w (((w.alloc o1).alloc o2).alloc o3) := fun o1 o2 o3 => (((Below.refl _ _).alloc (Nat.le_refl _) _).alloc (by simp) _).alloc (by simp; omega) _
  have hs2 : ((w.alloc (boxOf op name n pos a kids.len cap)).alloc (boxOf op name n pos a kids.len cap)).heap.size = w.heap.size + 1 + 1 := by simp
  have hh1 : (((w.alloc (boxOf op name n pos a kids.len cap)).alloc (boxOf op name n pos a kids.len cap)).alloc (.cells #[.slice (some ⟨w.heap.size + 1, 0, none⟩) 1 1] 35)).heap[w.heap.size + 1]? = some (boxOf op name n pos a kids.len cap) := by
    rw [Below.heap_alloc _ _ _ (by simp)]
    have := new_at (w.alloc (boxOf op name n pos a kids.len cap)) (boxOf op name n pos a kids.len cap)
    rw [alloc_size] at this
    exact this
  have hh2 : (((w.alloc (boxOf op name n pos a kids.len cap)).alloc (boxOf op name n pos a kids.len cap)).alloc (.cells #[.slice (some ⟨w.heap.size + 1, 0, none⟩) 1 1] 35)).heap[w.heap.size + 1 + 1]? = some (.cells #[.slice (some ⟨w.heap.size + 1, 0, none⟩) 1 1] 35) := by
    rw [← hs2]; exact new_at _ _
  have hT2 := hT.below (hb (boxOf op name n pos a kids.len cap) (boxOf op name n pos a kids.len cap) (.cells #[.slice (some ⟨w.heap.size + 1, 0, none⟩) 1 1] 35))
  generalize (((w.alloc (boxOf op name n pos a kids.len cap)).alloc (boxOf op name n pos a kids.len cap)).alloc (.cells #[.slice (some ⟨w.heap.size + 1, 0, none⟩) 1 1] 35)) = W at hh1 hh2 hT2
  refine ⟨some ⟨w.heap.size + 1 + 1, 0, none⟩, 1, rfl, fun i r hr => ⟨w.heap.size + 1 + 1, 0, rfl, ?_⟩, fun r hr => ?_⟩
  · cases i with
    | zero =>
      obtain rfl : _ = r := by simpa using hr
      rw [cell_of_row _ _ _ _ _ _ hh2]
      rfl
    | succ i => simp at hr
  · obtain rfl : r = _ := by simpa using hr
    refine ⟨⟨⟨?_, ?_, ?_, ?_, ?_⟩, hT2, trivial⟩, by show 1 ≤ _; omega, Nat.lt_succ_self 0, ?_⟩
    · show W.cell? ⟨w.heap.size + 1, 0, none⟩ = _
      rw [cell_of_row _ _ _ _ _ _ hh1]; rfl
    · show W.cell? ⟨w.heap.size + 1, 1, none⟩ = _
      rw [cell_of_row _ _ _ _ _ _ hh1]; rfl
    · show W.cell? ⟨w.heap.size + 1, 2, none⟩ = _
      rw [cell_of_row _ _ _ _ _ _ hh1]; rfl
    · show W.cell? ⟨w.heap.size + 1, 3, none⟩ = _
      rw [cell_of_row _ _ _ _ _ _ hh1]; rfl
    · show W.cell? ⟨w.heap.size + 1, 4, none⟩ = _
      rw [cell_of_row _ _ _ _ _ _ hh1]; rfl
    · show W.frozen? ⟨w.heap.size + 1, 0, none⟩ = false
      unfold World.frozen?
      simp only [hh1]
      rfl
/-- What the loop knows: so deep has been gone, these rows are still to come. -/
structure Down (T : Nd) (d : Nat) (rs : List Rw) : Prop where
  most : d + dl rs ≤ T.deep
  line : T.line → lineL rs ∧ d + dl rs = T.deep
  room : total rs ≤ 3000
theorem Down.next {T : Nd} {d : Nat} {rs rs' : List Rw} (h : Down T d rs) (hn : Next rs rs') (hne : rs ≠ []) (hin : ∀ r ∈ rs, 0 < r.F.len) (hin' : ∀ r ∈ rs', 0 < r.F.len) : Down T (d + 1) rs' := by
  have h1 : 1 ≤ dl rs := by
    cases rs with
    | nil => exact absurd rfl hne
    | cons r rs =>
      have h2 := hin r (List.mem_cons_self ..)
      have h3 := dl_mem (List.mem_cons_self (a := r) (l := rs))
      have h4 : 1 ≤ r.F.deep := by
        obtain ⟨rb, ro, rc, RF⟩ := r
        cases RF with
        | nil => exact absurd h2 (Nat.lt_irrefl 0)
        | cons op name n pos a cap kids rest => show 1 ≤ max (kids.deep + 1) rest.deep; omega
      omega
  refine ⟨?_, fun hl => ?_, ?_⟩
  · have := h.most
    by_cases hz : rs' = []
    · subst hz; show d + 1 + 0 ≤ _; omega
    · have := hn.deep hz; omega
  · obtain ⟨h2, h3⟩ := h.line hl
    obtain ⟨h4, h5⟩ := hn.line h2 hne hin'
    exact ⟨h4, by omega⟩
  · have := hn.size; have := h.room; omega
theorem Down.out {T : Nd} {d : Nat} {rs : List Rw} (h : Down T d rs) (h1 : 1 ≤ d) (h2 : d ≤ 31) (h3 : rs = [] ∨ d = 31) : DepthOut T d := by
  have h4 := h.most
  refine ⟨by omega, by omega, by omega, fun hl => ?_⟩
  have h5 := (h.line hl).2
  rcases h3 with rfl | rfl
  · have h6 : dl [] = 0 := rfl
    omega
  · omega
theorem Down.first (T : Nd) (b : Nat) (hs : T.size ≤ 3000) : Down T 0 [⟨b, 0, 1, .cons T.op T.name T.n T.pos T.a T.cap T.kids .nil⟩] := by
  have hd : dl [⟨b, 0, 1, .cons T.op T.name T.n T.pos T.a T.cap T.kids .nil⟩] = T.deep := by
    show max (max (T.kids.deep + 1) 0) 0 = T.kids.deep + 1
    omega
  refine ⟨by omega, fun hl => ⟨⟨Nat.le_refl _, fun r hr => ?_⟩, by omega⟩, ?_⟩
  · obtain rfl : r = _ := by simpa using hr
    exact ⟨⟨rfl, hl⟩, Nat.lt_succ_self 0⟩
  · show (T.kids.size + 1 + 0) + 0 ≤ 3000
    have : T.size = T.kids.size + 1 := rfl
    omega
set_option maxRecDepth 100000 in
set_option maxHeartbeats 8000000 in
theorem depth_any (T : Nd) (w : World) (hT : T.In w) (hs : T.size ≤ 3000) : Calls Tryd.prog 21 #[T.val] w fun e w' => (∃ d, e = .returned (.int .i64 d) ∧ DepthOut T d) ∧ Below w.heap.size w w' := by
  obtain ⟨op, name, n, pos, a, cap, kids⟩ := T
  have hc5 := cellsNode
  rw [Nd.val_def]
  have HT := Lib.hid hT
  have HS := Lib.hid hs
  clear hT hs
  show Calls _ _ #[.agg #[.string op, .string name, .int .i64 n, .int .i64 pos, .slice a kids.len cap]] w _
  go_enter Tryd.func21, Tryd.ntmps21
  go_wp2_with fail
  have hlev := level_one w op name n pos a cap kids HT.out
  refine (below_any _ _ _ hlev (by have := HS.out; show (kids.size + 1 + 0) + 0 ≤ 3000; have h : (Nd.mk op name n pos a cap kids).size = kids.size + 1 := rfl; omega)).mono ?_
  rintro e w1 ⟨v1, rs1, rfl, hl1, hn1, hb1⟩
  obtain ⟨a1, cap1, rfl, hl2⟩ := hl1
  have hl1 : LevelIn w1 (.slice a1 rs1.length cap1) rs1 := ⟨a1, cap1, rfl, hl2⟩
  have HL1 := Lib.hid hl1
  have HN1 := Lib.hid hn1
  have hbb : Below w.heap.size w w1 := ((((Below.refl _ _).alloc (Nat.le_refl _) _).alloc (by simp) _).alloc (by simp; omega) _).trans (hb1.mono (by simp; omega))
  have hins1 : ∀ r ∈ rs1, 0 < r.F.len := fun r hr => (hl2.2 r hr).2.2.1
  have hD := (Down.first ⟨op, name, n, pos, a, cap, kids⟩ (w.heap.size + 1) HS.out).next hn1 (by simp) (by intro r hr; rw [List.mem_singleton] at hr; subst hr; exact Nat.lt_succ_self 0) hins1
  have HD := Lib.hid hD
  clear hl1 hn1 hl2 hb1 hlev hD hins1
  go_wp2_with fail
  go_loopw [3, 4] (fun dv lv wr => ∃ (d : Nat) (rs : List Rw) (a' : Option Addr) (cap' : Nat), dv = .int .i64 d ∧ lv = .slice a' rs.length cap' ∧ 1 ≤ d ∧ d ≤ 31 ∧ RowKit.Hid (LevelIn wr (.slice a' rs.length cap') rs) ∧ RowKit.Hid (Down ⟨op, name, n, pos, a, cap, kids⟩ d rs) ∧ Below w.heap.size w wr) (fun dv _ _ => 31 - (intOf dv).toNat)
  case atStart => exact ⟨1, rs1, a1, cap1, rfl, rfl, by omega, by omega, HL1, HD, hbb⟩
  case round =>
    obtain ⟨d, rs, a', cap', rfl, rfl, hd1, hd2, HL, HD2, hbx⟩ := hrel
    by_cases hz : rs = []
    · have hout := HD2.out.out hd1 hd2 (.inl hz)
      subst hz
      have HO := Lib.hid hout
      clear hout HD2 HL HD HL1 HN1 HT HS
      go_wp2_with fail
      go_ret
      exact ⟨⟨d, rfl, HO.out⟩, hbx⟩
    · have hlen : 0 < rs.length := List.length_pos_iff.2 hz
      have HZ := Lib.hid hz
      clear hz
      have hl0 : (0 : Int) < rs.length := by omega
      by_cases h31 : d = 31
      · have hout := HD2.out.out hd1 hd2 (.inr h31)
        have HO := Lib.hid hout
        have h30 : ¬ (d : Int) ≤ 30 := by omega
        clear hout HD2 HL HD HL1 HN1 HT HS h31
        go_wp2_with fail
        go_ret
        exact ⟨⟨d, rfl, HO.out⟩, hbx⟩
      · have h30 : (d : Int) ≤ 30 := by omega
        clear h31
        go_wp2_with fail
        refine (below_any _ _ _ HL.out HD2.out.room).mono ?_
        rintro e w2 ⟨v2, rs2, rfl, hl2, hn2, hb2⟩
        have hins : ∀ r ∈ rs, 0 < r.F.len := by obtain ⟨_, _, _, _, h⟩ := HL.out; exact fun r hr => (h r hr).2.2.1
        obtain ⟨a2, cap2, rfl, hl3⟩ := hl2
        have hins2 : ∀ r ∈ rs2, 0 < r.F.len := fun r hr => (hl3.2 r hr).2.2.1
        have HL2 := Lib.hid (show LevelIn w2 (.slice a2 rs2.length cap2) rs2 from ⟨a2, cap2, rfl, hl3⟩)
        have HD3 := Lib.hid (HD2.out.next hn2 HZ.out hins hins2)
        have hbx2 := hbx.trans (hb2.mono hbx.size)
        clear hl3 hn2 hb2 hins hins2 HD2 HL HZ
        go_wp2
        go_roundw
        case rel => exact ⟨d + 1, rs2, a2, cap2, by go_num, rfl, by omega, by omega, HL2, HD3, hbx2⟩
        case measure => (try simp [intOf]); omega
end Go.Proofs.YtpdlnpllhjcejaaDoor
