/- The reference s has, its loops. -/
import Derived.Test.YtamihfgkpilfiaaDoorGNamesR
import Derived.Test.YtamihfgkpilfiaaDoorNodeR
import Derived.Test.YtamihfgkpilfiaaDoorRefA
import Derived.Test.YtamihfgkpilfiaaDoorLexA
import Derived.Test.YtamihfgkpilfiaaDoorRows
import Derived.WalkKit
import Derived.WalkLawsBesides
import Derived.WalkSpells
import Derived.ProofKit
import Derived.Outline
import Derived.Deep.QuietTactic
import Derived.BigQuiet
import Derived.Deep.Light
import Derived.Deep.CutBlock
import Derived.Deep.DeepCutAuto
import Derived.Deep.DeepFit
import Derived.Deep.LoopGhost
import Derived.Lib.Hide
import Derived.Lib.OthersKept
import Derived.IntWalk
import Derived.StillTailTactics
namespace Go.Proofs.YtamihfgkpilfiaaDoor
open Go.RowKit
/-! sibylref3.Set, sibylref3.has. -/
set_option maxRecDepth 100000 in
set_option maxHeartbeats 8000000 in
theorem set_any (op name : ByteArray) (n pos : Int) (a : Option Addr) (k cap : Nat) (w : World) : Calls Tryd.prog 51 #[.agg #[.string op, .string name, .int .i64 n, .int .i64 pos, .slice a k cap]] w fun e w' => e = .returned (.bool (isJoin op)) ∧ Below w.heap.size w w' := by
  have hc5 := cellsNode
  by_cases o1 : op.toList = [117, 110, 105, 111, 110]
  · have e1 : (op.toList == [117, 110, 105, 111, 110]) = true := by simp [o1]
    have HR := Lib.hid (show isJoin op = true from by unfold isJoin; rw [e1]; simp)
    clear o1
    go_enter Tryd.func51, Tryd.ntmps51
    go_wp2_with fail
    go_ret
    exact ⟨by rw [HR.out]; rfl, below_box _ _⟩
  have e1 : (op.toList == [117, 110, 105, 111, 110]) = false := by simp [o1]
  clear o1
  by_cases o2 : op.toList = [105, 110, 116, 101, 114]
  · have e2 : (op.toList == [105, 110, 116, 101, 114]) = true := by simp [o2]
    have HR := Lib.hid (show isJoin op = true from by unfold isJoin; rw [e1, e2]; simp)
    clear o2
    go_enter Tryd.func51, Tryd.ntmps51
    go_wp2_with fail
    go_ret
    exact ⟨by rw [HR.out]; rfl, below_box _ _⟩
  have e2 : (op.toList == [105, 110, 116, 101, 114]) = false := by simp [o2]
  clear o2
  by_cases o3 : op.toList = [109, 105, 110, 117, 115]
  · have e3 : (op.toList == [109, 105, 110, 117, 115]) = true := by simp [o3]
    have HR := Lib.hid (show isJoin op = true from by unfold isJoin; rw [e1, e2, e3]; simp)
    clear o3
    go_enter Tryd.func51, Tryd.ntmps51
    go_wp2_with fail
    go_ret
    exact ⟨by rw [HR.out]; rfl, below_box _ _⟩
  have e3 : (op.toList == [109, 105, 110, 117, 115]) = false := by simp [o3]
  clear o3
  have HR := Lib.hid (show isJoin op = false from by unfold isJoin; rw [e1, e2, e3]; rfl)
  go_enter Tryd.func51, Tryd.ntmps51
  go_wp2_with fail
  go_ret
  exact ⟨by rw [HR.out]; rfl, below_box _ _⟩
def hasB (name : ByteArray) (n : Int) (len : Nat) (m : Int) (nm num : Bool) : Bool := decide ((len : Int) = m) && (nm || name.toList == []) && (num || decide (n = 0)) && (!nm || nameB name)
abbrev UT (w : World) : Prop := Lib.Utf8Tabs 0 1 w
set_option maxRecDepth 100000 in
set_option maxHeartbeats 16000000 in
theorem rhas_any (op name : ByteArray) (n pos : Int) (a : Option Addr) (len cap : Nat) (m : Int) (nm num : Bool) (w : World) (hU : UT w) (hs : name.size ≤ 140737488351232) :
    Calls Tryd.prog 48 #[.agg #[.string op, .string name, .int .i64 n, .int .i64 pos, .slice a len cap], .int .i64 m, .bool nm, .bool num] w fun e w' => e = .returned (.bool (hasB name n len m nm num)) ∧ Below w.heap.size w w' := by
  have hc5 := cellsNode
  have HC := Lib.hid (isName_any name (w.alloc (boxOf op name n pos a len cap)) hs (Utf8Tabs_below hU (below_box _ _)))
  clear hU
  by_cases hl : (len : Int) = m
  · have hl1 : ((len : Int) == m) = true := by simp [hl]
    have HL := Lib.hid hl
    clear hl
    cases nm with
    | true =>
      cases num with
      | true =>
        have HO := Lib.hid (show hasB name n len m true true = nameB name from by unfold hasB; rw [decide_eq_true HL.out]; simp)
        go_enter Tryd.func48, Tryd.ntmps48
        go_wp2_with fail
        refine HC.out.mono ?_
        rintro e w2 ⟨rfl, hb2⟩
        have hbb := box_then hb2
        clear hb2 HC
        go_wp2_with fail
        go_ret
        exact ⟨by rw [HO.out]; rfl, hbb⟩
      | false =>
        by_cases hn : n = 0
        · have hn1 : (n == 0) = true := by simp [hn]
          have HO := Lib.hid (show hasB name n len m true false = nameB name from by unfold hasB; rw [decide_eq_true HL.out, decide_eq_true hn]; simp)
          clear hn
          go_enter Tryd.func48, Tryd.ntmps48
          go_wp2_with fail
          refine HC.out.mono ?_
          rintro e w2 ⟨rfl, hb2⟩
          have hbb := box_then hb2
          clear hb2 HC
          go_wp2_with fail
          go_ret
          exact ⟨by rw [HO.out]; rfl, hbb⟩
        · have hn1 : (n == 0) = false := by simp [hn]
          have HO := Lib.hid (show hasB name n len m true false = false from by unfold hasB; rw [decide_eq_false hn]; simp)
          clear HC
          go_enter Tryd.func48, Tryd.ntmps48
          go_wp2_with fail
          go_ret
          exact ⟨by rw [HO.out]; rfl, below_box _ _⟩
    | false =>
      by_cases he : name.toList = []
      · have he1 : (name.toList == []) = true := by simp [he]
        have HE := Lib.hid he
        clear he HC
        cases num with
        | true =>
          have HO := Lib.hid (show hasB name n len m false true = true from by unfold hasB; rw [decide_eq_true HL.out]; simp [HE.out])
          go_enter Tryd.func48, Tryd.ntmps48
          go_wp2_with fail
          go_ret
          exact ⟨by rw [HO.out]; rfl, below_box _ _⟩
        | false =>
          by_cases hn : n = 0
          · have hn1 : (n == 0) = true := by simp [hn]
            have HO := Lib.hid (show hasB name n len m false false = true from by unfold hasB; rw [decide_eq_true HL.out, decide_eq_true hn]; simp [HE.out])
            clear hn
            go_enter Tryd.func48, Tryd.ntmps48
            go_wp2_with fail
            go_ret
            exact ⟨by rw [HO.out]; rfl, below_box _ _⟩
          · have hn1 : (n == 0) = false := by simp [hn]
            have HO := Lib.hid (show hasB name n len m false false = false from by unfold hasB; rw [decide_eq_false hn]; simp)
            go_enter Tryd.func48, Tryd.ntmps48
            go_wp2_with fail
            go_ret
            exact ⟨by rw [HO.out]; rfl, below_box _ _⟩
      · have he1 : (name.toList == []) = false := by simp [he]
        have HO := Lib.hid (show hasB name n len m false num = false from by unfold hasB; simp [he])
        clear HC
        go_enter Tryd.func48, Tryd.ntmps48
        go_wp2_with fail
        go_ret
        exact ⟨by rw [HO.out]; rfl, below_box _ _⟩
  · have hl1 : ((len : Int) == m) = false := by simp [hl]
    have HO := Lib.hid (show hasB name n len m nm num = false from by unfold hasB; rw [decide_eq_false hl]; simp)
    clear HC
    go_enter Tryd.func48, Tryd.ntmps48
    go_wp2_with fail
    go_ret
    exact ⟨by rw [HO.out]; rfl, below_box _ _⟩
end Go.Proofs.YtamihfgkpilfiaaDoor
namespace Go.Proofs.YtamihfgkpilfiaaDoor
open Go.RowKit
/-! sibylref3.terms, sibylref3.formulas. -/
/-- What sibyl/sibylref3.term says of a node. -/
def SayRT (T : Nd) : Prop := ∀ w : World, UT w → T.In w → T.sized → Calls Tryd.prog 23 #[T.val] w fun e w' => e = .returned (.bool T.okT) ∧ Below w.heap.size w w'
set_option maxRecDepth 100000 in
set_option maxHeartbeats 16000000 in
theorem terms_any (T : Nd) (w : World) (hU : UT w) (hin : T.In w) (hsz : T.sized) (hk : Fo.All SayRT T.kids) : Calls Tryd.prog 50 #[T.val] w fun e w' => e = .returned (.bool T.kids.sorts.t) ∧ Below w.heap.size w w' := by
  obtain ⟨op, name, n, pos, a, cap, kids⟩ := T
  have hc5 := cellsNode
  rw [sorts_t]
  obtain ⟨_, hks⟩ := hsz
  show Calls _ _ _ w fun e w' => e = .returned (.bool (kids.allB Nd.okT)) ∧ _
  have HU := Lib.hid hU
  have HS := Lib.hid hks
  have HK := Lib.hid hk
  have HB := Lib.hid (new_at w (boxOf op name n pos a kids.len cap))
  have HI := Lib.hid hin
  clear hU hks hk hin
  rw [Nd.val_def]
  rcases HI.out with hnil | ⟨kb, ko, hab, hlim, hpos, hkin⟩
  · obtain rfl : kids = .nil := hnil
    have hz0 : ((Fo.nil.len : Nat) : Int) = 0 := rfl
    go_enter Tryd.func50, Tryd.ntmps50
    go_wp2_with fail
    go_loopw [3] (fun i wr => i = .int .i64 0 ∧ RowKit.Hid (wr.heap[w.heap.size]? = some (boxOf op name n pos a Fo.nil.len cap)) ∧ Below w.heap.size w wr) (fun _ _ => 0)
    case atStart => exact ⟨rfl, HB, below_box _ _⟩
    case round =>
      obtain ⟨rfl, HX, hbx⟩ := hrel
      obtain ⟨b0, b1, b2, b3, b4⟩ := box_cells HX.out
      go_wp2_with fail
      go_ret
      exact ⟨rfl, hbx⟩
  · obtain rfl : a = some ⟨kb, ko, none⟩ := hab
    have hlim : kids.len ≤ 140737488351232 := hlim
    have HST := Lib.hid (Tail.start hkin HK.out)
    clear hkin hpos
    go_enter Tryd.func50, Tryd.ntmps50
    go_wp2_with fail
    go_loopw [3] (fun i wr => ∃ (k : Nat) (R : Fo), i = .int .i64 k ∧ RowKit.Hid (Tail wr SayRT kids R kb ko k) ∧ RowKit.Hid (kids.allB Nd.okT = R.allB Nd.okT) ∧ RowKit.Hid R.sized ∧ RowKit.Hid (wr.heap[w.heap.size]? = some (boxOf op name n pos (some ⟨kb, ko, none⟩) kids.len cap)) ∧ Below w.heap.size w wr) (fun i _ => kids.len - (intOf i).toNat)
    case atStart => exact ⟨0, kids, rfl, Lib.hid (HST.out.below (below_box _ _)), Lib.hid rfl, HS, HB, below_box _ _⟩
    case round =>
      obtain ⟨k, R, rfl, HTL, HAL, HRS, HX, hbx⟩ := hrel
      obtain ⟨b0, b1, b2, b3, b4⟩ := box_cells HX.out
      cases R with
      | nil =>
        have hkl : k = kids.len := by have := HTL.out.len; simpa [Fo.len] using this
        subst hkl
        go_wp2_with fail
        go_ret
        exact ⟨by rw [HAL.out]; rfl, hbx⟩
      | cons op1 name1 n1 pos1 a1 cap1 kids1 rest =>
        obtain ⟨hnode, hin1, hP, hkl, hnext⟩ := HTL.out.next
        have hkl2 : (k : Int) < kids.len := by omega
        obtain ⟨c0, c1, c2, c3, c4⟩ := hnode
        have HN1 := Lib.hid hnext
        have hcall := hP wr (Utf8Tabs_below HU.out hbx) hin1 ⟨HRS.out.1, HRS.out.2.1⟩
        rw [Nd.val_def] at hcall
        have HCL := Lib.hid hcall
        have HR2 := Lib.hid HRS.out.2.2
        clear hnext hin1 hP hcall HTL
        go_wp2_with fail
        refine HCL.out.mono ?_
        rintro e w3 ⟨rfl, hb3⟩
        have hbx2 := hbx.trans (hb3.mono hbx.size)
        have HX2 := Lib.hid ((hb3.block _ (lt_heap HX.out)).trans HX.out)
        have HN2 := Lib.hid (HN1.out.below hb3)
        clear hb3 HN1 HX HCL b0 b1 b2 b3 b4
        by_cases hp1 : Nd.okT ⟨op1, name1, n1, pos1, a1, cap1, kids1⟩ = true
        · have HA2 := Lib.hid (show kids.allB Nd.okT = rest.allB Nd.okT from by rw [HAL.out]; show (Nd.okT _ && rest.allB Nd.okT) = _; rw [hp1]; rfl)
          rw [hp1]
          clear hp1
          go_wp2_with fail
          go_roundw
          case rel => exact ⟨k + 1, rest, by go_num, HN2, HA2, HR2, HX2, hbx2⟩
          case measure => (try simp [intOf]); omega
        · have hp2 : Nd.okT ⟨op1, name1, n1, pos1, a1, cap1, kids1⟩ = false := by simpa using hp1
          have HA2 := Lib.hid (show kids.allB Nd.okT = false from by rw [HAL.out]; show (Nd.okT _ && rest.allB Nd.okT) = _; rw [hp2]; rfl)
          rw [hp2]
          clear hp1 hp2
          go_wp2_with fail
          go_ret
          exact ⟨by rw [HA2.out]; rfl, hbx2⟩
/-- What sibyl/sibylref3.formula says of a node. -/
def SayRF (T : Nd) : Prop := ∀ w : World, UT w → T.In w → T.sized → Calls Tryd.prog 22 #[T.val] w fun e w' => e = .returned (.bool T.okF) ∧ Below w.heap.size w w'
set_option maxRecDepth 100000 in
set_option maxHeartbeats 16000000 in
theorem formulas_any (T : Nd) (w : World) (hU : UT w) (hin : T.In w) (hsz : T.sized) (hk : Fo.All SayRF T.kids) : Calls Tryd.prog 49 #[T.val] w fun e w' => e = .returned (.bool T.kids.sorts.f) ∧ Below w.heap.size w w' := by
  obtain ⟨op, name, n, pos, a, cap, kids⟩ := T
  have hc5 := cellsNode
  rw [sorts_f]
  obtain ⟨_, hks⟩ := hsz
  show Calls _ _ _ w fun e w' => e = .returned (.bool (kids.allB Nd.okF)) ∧ _
  have HU := Lib.hid hU
  have HS := Lib.hid hks
  have HK := Lib.hid hk
  have HB := Lib.hid (new_at w (boxOf op name n pos a kids.len cap))
  have HI := Lib.hid hin
  clear hU hks hk hin
  rw [Nd.val_def]
  rcases HI.out with hnil | ⟨kb, ko, hab, hlim, hpos, hkin⟩
  · obtain rfl : kids = .nil := hnil
    have hz0 : ((Fo.nil.len : Nat) : Int) = 0 := rfl
    go_enter Tryd.func49, Tryd.ntmps49
    go_wp2_with fail
    go_loopw [3] (fun i wr => i = .int .i64 0 ∧ RowKit.Hid (wr.heap[w.heap.size]? = some (boxOf op name n pos a Fo.nil.len cap)) ∧ Below w.heap.size w wr) (fun _ _ => 0)
    case atStart => exact ⟨rfl, HB, below_box _ _⟩
    case round =>
      obtain ⟨rfl, HX, hbx⟩ := hrel
      obtain ⟨b0, b1, b2, b3, b4⟩ := box_cells HX.out
      go_wp2_with fail
      go_ret
      exact ⟨rfl, hbx⟩
  · obtain rfl : a = some ⟨kb, ko, none⟩ := hab
    have hlim : kids.len ≤ 140737488351232 := hlim
    have HST := Lib.hid (Tail.start hkin HK.out)
    clear hkin hpos
    go_enter Tryd.func49, Tryd.ntmps49
    go_wp2_with fail
    go_loopw [3] (fun i wr => ∃ (k : Nat) (R : Fo), i = .int .i64 k ∧ RowKit.Hid (Tail wr SayRF kids R kb ko k) ∧ RowKit.Hid (kids.allB Nd.okF = R.allB Nd.okF) ∧ RowKit.Hid R.sized ∧ RowKit.Hid (wr.heap[w.heap.size]? = some (boxOf op name n pos (some ⟨kb, ko, none⟩) kids.len cap)) ∧ Below w.heap.size w wr) (fun i _ => kids.len - (intOf i).toNat)
    case atStart => exact ⟨0, kids, rfl, Lib.hid (HST.out.below (below_box _ _)), Lib.hid rfl, HS, HB, below_box _ _⟩
    case round =>
      obtain ⟨k, R, rfl, HTL, HAL, HRS, HX, hbx⟩ := hrel
      obtain ⟨b0, b1, b2, b3, b4⟩ := box_cells HX.out
      cases R with
      | nil =>
        have hkl : k = kids.len := by have := HTL.out.len; simpa [Fo.len] using this
        subst hkl
        go_wp2_with fail
        go_ret
        exact ⟨by rw [HAL.out]; rfl, hbx⟩
      | cons op1 name1 n1 pos1 a1 cap1 kids1 rest =>
        obtain ⟨hnode, hin1, hP, hkl, hnext⟩ := HTL.out.next
        have hkl2 : (k : Int) < kids.len := by omega
        obtain ⟨c0, c1, c2, c3, c4⟩ := hnode
        have HN1 := Lib.hid hnext
        have hcall := hP wr (Utf8Tabs_below HU.out hbx) hin1 ⟨HRS.out.1, HRS.out.2.1⟩
        rw [Nd.val_def] at hcall
        have HCL := Lib.hid hcall
        have HR2 := Lib.hid HRS.out.2.2
        clear hnext hin1 hP hcall HTL
        go_wp2_with fail
        refine HCL.out.mono ?_
        rintro e w3 ⟨rfl, hb3⟩
        have hbx2 := hbx.trans (hb3.mono hbx.size)
        have HX2 := Lib.hid ((hb3.block _ (lt_heap HX.out)).trans HX.out)
        have HN2 := Lib.hid (HN1.out.below hb3)
        clear hb3 HN1 HX HCL b0 b1 b2 b3 b4
        by_cases hp1 : Nd.okF ⟨op1, name1, n1, pos1, a1, cap1, kids1⟩ = true
        · have HA2 := Lib.hid (show kids.allB Nd.okF = rest.allB Nd.okF from by rw [HAL.out]; show (Nd.okF _ && rest.allB Nd.okF) = _; rw [hp1]; rfl)
          rw [hp1]
          clear hp1
          go_wp2_with fail
          go_roundw
          case rel => exact ⟨k + 1, rest, by go_num, HN2, HA2, HR2, HX2, hbx2⟩
          case measure => (try simp [intOf]); omega
        · have hp2 : Nd.okF ⟨op1, name1, n1, pos1, a1, cap1, kids1⟩ = false := by simpa using hp1
          have HA2 := Lib.hid (show kids.allB Nd.okF = false from by rw [HAL.out]; show (Nd.okF _ && rest.allB Nd.okF) = _; rw [hp2]; rfl)
          rw [hp2]
          clear hp1 hp2
          go_wp2_with fail
          go_ret
          exact ⟨by rw [HA2.out]; rfl, hbx2⟩
end Go.Proofs.YtamihfgkpilfiaaDoor
