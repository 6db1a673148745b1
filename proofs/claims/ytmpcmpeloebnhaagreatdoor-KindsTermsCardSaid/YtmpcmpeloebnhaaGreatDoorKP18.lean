/- Parts of the proof: KR SfA KT LexTb Law. -/
import Derived.Test.YtmpcmpeloebnhaaGreatDoorKP02
import Derived.Test.YtmpcmpeloebnhaaGreatDoorKP00
import Derived.Test.YtmpcmpeloebnhaaGreatDoorRows
import Derived.Test.YtmpcmpeloebnhaaGreatDoorKP06
import Derived.Test.YtmpcmpeloebnhaaGreatDoorKP17
import Derived.Test.YtmpcmpeloebnhaaGreatDoorKP07
import Derived.Test.YtmpcmpeloebnhaaGreatDoorTie
import Derived.WalkKit
import Derived.WalkLawsBesides
import Derived.WalkSpells
import Derived.ProofKit
import Derived.Outline
import Derived.Deep.QuietTactic
import Derived.BigQuiet
import Derived.Deep.Light
import Derived.Deep.CutBlock
import Derived.Deep.DeepCutAuto
import Derived.Deep.DeepFit
import Derived.Deep.LoopGhost
import Derived.Lib.Hide
import Derived.Lib.OthersKept
import Derived.IntWalk
import Derived.StillTailTactics
import Derived.Maps.OwnSet
import Derived.Maps.OwnOps
import Derived.Deep.RegionHeld3
import Derived.OrdersHeld
import Derived.RegionTactic
import Derived.BigRegion
import Derived.Lib.LaidTab
import Derived.Lib.LaidU8
import Derived.Deep.DeepLaidRun
import Derived.OpenShut
import Derived.Carry
import Derived.ChangeOld
import Derived.Deep.DeepHandedRow
namespace Go.Proofs.YtmpcmpeloebnhaaGreatDoor
open Go.RowKit
open Go.Maps
theorem wrap_m {d : Int} (h0 : -9223372036854775807 ≤ d) (h : d ≤ 9223372036854775807) : IntKind.wrap .i64 (d - 1) = d - 1 := by
 simp [IntKind.wrap, IntKind.bits, IntKind.signed]
 omega
set_option maxRecDepth 100000 in
set_option maxHeartbeats 16000000 in
theorem rorder_any (l : List Dc) (a : Option Addr) (cap : Nat) (name : ByteArray) (w : World) (h : DcsIn w a l) (hl : l.length ≤ 1000000) :
  Calls Tryz.prog 56 #[.slice a l.length cap, .string name] w fun e w' => e = .returned (.int .i64 (ordD l name)) ∧ Below w.heap.size w w' := by
 have hc3 := cellsDecl
 obtain ⟨q0, hq0⟩ : ∃ q0, q0 = ordD l name := ⟨_, rfl⟩
 rw [← hq0]
 have hw0 : IntKind.wrap .i64 ((l.length : Int) - 1) = (l.length : Int) - 1 := wrap_m (by omega) (by omega)
 have HD : RowKit.Hid (l = [] ∨ ∃ b o, a = some ⟨b, o, none⟩ ∧ ∀ i d, l[i]? = some d → DcAt w b (o + i * 3) d) := Lib.hid (by
  rcases h with h | ⟨b, o, h1, h2, h3, h4⟩
  ·exact .inl h
  ·exact .inr ⟨b, o, h1, h3⟩)
 have HQ := Lib.hid (show q0 = ordD (l.take l.length) name from by rw [List.take_length]; exact hq0)
 clear h hq0
 go_enter Tryz.func56, Tryz.ntmps56
 go_wp2_with fail
 go_loopw [5] (fun i wr => ∃ k : Nat, i = .int .i64 ((k : Int) - 1) ∧ k ≤ l.length ∧ RowKit.Hid (q0 = ordD (l.take k) name) ∧ Below w.heap.size w wr) (fun i _ => (intOf i + 1).toNat)
 case atStart => exact ⟨l.length, rfl, Nat.le_refl _, HQ, Below.refl _ _⟩
 case round =>
  obtain ⟨k, rfl, hk, HL, hbx⟩ := hrel
  cases k with
  | zero =>
   have hneg : ¬ (0 : Int) ≤ ((0 : Nat) : Int) - 1 := by omega
   have hz : q0 = -1 := HL.out
   subst hz
   go_wp2_with fail
   go_ret
   exact ⟨rfl, hbx⟩
  | succ k =>
   have hkl : k < l.length := by omega
   have hkz : (((k + 1 : Nat) : Int) - 1) = (k : Int) := by omega
   rcases HD.out with hnil | ⟨b, o, hab, hat⟩
   ·rw [hnil] at hkl; cases hkl
   ·subst hab
    have hg := List.getElem?_eq_getElem hkl
    obtain ⟨c0, c1, c2⟩ := (hat k (l[k]'hkl) hg).below hbx
    have htk : l.take (k + 1) = l.take k ++ [l[k]'hkl] := by rw [List.take_add_one, hg]; rfl
    clear hg hat
    generalize (l[k]'hkl) = d at c0 c1 c2 htk
    have hod : q0 = (if name = d.name then d.order else ordD (l.take k) name) := by rw [HL.out, htk, ordD_snoc]; rfl
    obtain ⟨nm, od, po⟩ := d
    simp only [] at c0 c1 c2 hod
    have hi0 : (0 : Int) ≤ (k : Int) := by omega
    have hi1 : (k : Int) < (l.length : Int) := by omega
    have hw1 : IntKind.wrap .i64 ((k : Int) - 1) = (k : Int) - 1 := wrap_m (by omega) (by omega)
    rw [hkz]
    clear htk HL
    by_cases hn : nm = name
    ·have hz : q0 = od := by rw [hod, if_pos hn.symm]
     subst hz
     subst hn
     clear hod
     go_wp2_with fail
     go_ret
     exact ⟨rfl, hbx⟩
    ·have HL2 := Lib.hid (show q0 = ordD (l.take k) name from by rw [hod, if_neg (fun e => hn e.symm)])
     have hnb : (nm.toList == name.toList) = false := by
      rw [beq_eq_false_iff_ne]
      intro e
      rw [Lib.toList_data, Lib.toList_data] at e
      exact hn (ByteArray.ext (Array.toList_inj.1 e))
     clear hod
     go_wp2_with fail
     go_roundw
     case rel => exact ⟨k, rfl, by omega, HL2, hbx⟩
     case measure => simp [intOf]
def SayRk (ds : List Dc) (da : Option Addr) (dc : Nat) (T : Nd) : Prop := ∀ w : World, DcsIn w da ds → T.In w → T.sized → T.okT = true → Calls Tryz.prog 22 #[.slice da ds.length dc, T.val] w fun e w' => e = .returned (.tuple #[.int .i64 (T.kd (ordD ds)).k, .int .i64 (T.kd (ordD ds)).pos, .int .i64 (T.kd (ordD ds)).e]) ∧ Below w.heap.size w w'
def Fo.alG (O : ByteArray → Int) (want : Int) (plus : Bool) (pos : Int) : Fo → Int × Int
 | .nil => (0, 0)
 | .cons op name n p a cap kids rest => mustK want (Nd.kd O ⟨op, name, n, p, a, cap, kids⟩) (if plus then pos else p) (rest.alG O want plus pos)
theorem alG_al (O : ByteArray → Int) (want pos : Int) (F : Fo) : F.alG O want false pos = F.al O want := by
 induction F with
 | nil => rfl
 | cons op name n p a cap kids rest ihk ihr => show mustK want _ (if false = true then pos else p) (rest.alG O want false pos) = mustK want _ p (rest.al O want); rw [ihr]; rfl
set_option maxRecDepth 100000 in
set_option maxHeartbeats 16000000 in
theorem rk_var_no (op name : ByteArray) (n pos : Int) (a : Option Addr) (cap : Nat) (kids : Fo) (w : World) (ds : List Dc) (da : Option Addr) (dc : Nat) (hd : DcsIn w da ds) (_hdl : ds.length ≤ 1000000) (h0 : (op.toList == [118, 97, 114]) = true) (hn : ordD ds name < 0) :
  Calls Tryz.prog 22 #[.slice da ds.length dc, .agg #[.string op, .string name, .int .i64 n, .int .i64 pos, .slice a kids.len cap]] w fun e w' => e = .returned (.tuple #[.int .i64 0, .int .i64 pos, .int .i64 5]) ∧ Below w.heap.size w w' := by
 have hc5 := cellsNode
 have HW := Lib.hid (below_box w (boxOf op name n pos a kids.len cap))
 have HB := Lib.hid (new_at w (boxOf op name n pos a kids.len cap))
 obtain ⟨b0, b1, b2, b3, b4⟩ := box_cells HB.out
 have HC := Lib.hid (rorder_any ds da dc name _ (hd.below HW.out) _hdl)
 generalize ordD ds name = k at HC hn
 clear hd
 go_enter Tryz.func22, Tryz.ntmps22
 go_wp2_with fail
 refine HC.out.mono ?_
 rintro e w2 ⟨rfl, hb2⟩
 have hbb := HW.out.trans (hb2.mono HW.out.size)
 obtain ⟨b0, b1, b2, b3, b4⟩ := box_cells ((hb2.block _ (lt_heap HB.out)).trans HB.out)
 clear hb2 HC
 go_wp2_with fail
 go_region
 all_goals
  go_wp2_with fail
  go_ret3
  exact ⟨rfl, (by repeat (with_reducible first | exact hbb | refine Below.drew ?_))⟩
set_option maxRecDepth 100000 in
set_option maxHeartbeats 16000000 in
theorem rk_var_yes (op name : ByteArray) (n pos : Int) (a : Option Addr) (cap : Nat) (kids : Fo) (w : World) (ds : List Dc) (da : Option Addr) (dc : Nat) (hd : DcsIn w da ds) (_hdl : ds.length ≤ 1000000) (h0 : (op.toList == [118, 97, 114]) = true) (hn : ¬ ordD ds name < 0) :
  Calls Tryz.prog 22 #[.slice da ds.length dc, .agg #[.string op, .string name, .int .i64 n, .int .i64 pos, .slice a kids.len cap]] w fun e w' => e = .returned (.tuple #[.int .i64 (ordD ds name), .int .i64 0, .int .i64 0]) ∧ Below w.heap.size w w' := by
 have hc5 := cellsNode
 have HW := Lib.hid (below_box w (boxOf op name n pos a kids.len cap))
 have HB := Lib.hid (new_at w (boxOf op name n pos a kids.len cap))
 obtain ⟨b0, b1, b2, b3, b4⟩ := box_cells HB.out
 have HC := Lib.hid (rorder_any ds da dc name _ (hd.below HW.out) _hdl)
 generalize ordD ds name = k at HC hn ⊢
 clear hd
 go_enter Tryz.func22, Tryz.ntmps22
 go_wp2_with fail
 refine HC.out.mono ?_
 rintro e w2 ⟨rfl, hb2⟩
 have hbb := HW.out.trans (hb2.mono HW.out.size)
 obtain ⟨b0, b1, b2, b3, b4⟩ := box_cells ((hb2.block _ (lt_heap HB.out)).trans HB.out)
 clear hb2 HC
 go_wp2_with fail
 go_ret3
 exact ⟨rfl, hbb⟩
set_option maxRecDepth 100000 in
set_option maxHeartbeats 16000000 in
theorem rk_num (op name : ByteArray) (n pos : Int) (a : Option Addr) (cap : Nat) (kids : Fo) (w : World) (ds : List Dc) (da : Option Addr) (dc : Nat) (hd : DcsIn w da ds) (_hdl : ds.length ≤ 1000000) (h0 : (op.toList == [118, 97, 114]) = false) (h1 : (op.toList == [110, 117, 109]) = true) :
  Calls Tryz.prog 22 #[.slice da ds.length dc, .agg #[.string op, .string name, .int .i64 n, .int .i64 pos, .slice a kids.len cap]] w fun e w' => e = .returned (.tuple #[.int .i64 1, .int .i64 0, .int .i64 0]) ∧ Below w.heap.size w w' := by
 have hc5 := cellsNode
 have HW := Lib.hid (below_box w (boxOf op name n pos a kids.len cap))
 have HB := Lib.hid (new_at w (boxOf op name n pos a kids.len cap))
 obtain ⟨b0, b1, b2, b3, b4⟩ := box_cells HB.out
 have _ := hd
 go_enter Tryz.func22, Tryz.ntmps22
 go_wp2_with fail
 go_ret3
 exact ⟨rfl, HW.out⟩
set_option maxRecDepth 100000 in
set_option maxHeartbeats 16000000 in
theorem rk_plus (op name : ByteArray) (n pos : Int) (a : Option Addr) (cap : Nat) (kids : Fo) (w : World) (ds : List Dc) (da : Option Addr) (dc : Nat) (hd : DcsIn w da ds) (_hdl : ds.length ≤ 1000000) (h0 : (op.toList == [118, 97, 114]) = false) (h1 : (op.toList == [110, 117, 109]) = false) (h2 : (op.toList == [112, 108, 117, 115]) = true) (h3 : (op.toList == [115, 101, 116]) = false) (hin : KidsIn w a kids) (hsz : kids.sized) (hok : kids.allB Nd.okT = true) (hk : Fo.All (SayRk ds da dc) kids) (rv : Value) (hrv : rv = (if (kids.alG (ordD ds) 1 true pos).2 = 0 then .tuple #[.int .i64 1, .int .i64 0, .int .i64 0] else .tuple #[.int .i64 0, .int .i64 (kids.alG (ordD ds) 1 true pos).1, .int .i64 (kids.alG (ordD ds) 1 true pos).2])) :
  Calls Tryz.prog 22 #[.slice da ds.length dc, .agg #[.string op, .string name, .int .i64 n, .int .i64 pos, .slice a kids.len cap]] w fun e w' => e = .returned rv ∧ Below w.heap.size w w' := by
 have hc5 := cellsNode
 have HW := Lib.hid (below_box w (boxOf op name n pos a kids.len cap))
 have HB := Lib.hid (new_at w (boxOf op name n pos a kids.len cap))
 obtain ⟨b0, b1, b2, b3, b4⟩ := box_cells HB.out
 have HD := Lib.hid hd
 have HSZ := Lib.hid hsz
 have HOK := Lib.hid hok
 obtain ⟨q0, hq0⟩ : ∃ q0, q0 = kids.alG (ordD ds) 1 true pos := ⟨_, rfl⟩
 rw [← hq0] at hrv
 have HRV := Lib.hid hrv
 have HQ := Lib.hid hq0
 clear hd hsz hok hrv hq0
 rcases hin with hnil | ⟨kb, ko, hab, hlim, hpos, hkin⟩
 ·subst hnil
  have hz0 : ((Fo.nil.len : Nat) : Int) = 0 := rfl
  have hz : q0 = (0, 0) := HQ.out
  have HR2 := Lib.hid (show rv = .tuple #[.int .i64 1, .int .i64 0, .int .i64 0] from by rw [HRV.out, hz, if_pos rfl])
  clear hz HQ HRV hk
  go_enter Tryz.func22, Tryz.ntmps22
  go_wp2_with fail
  go_loopw [10] (fun i wr => i = .int .i64 0 ∧ RowKit.Hid (wr.heap[w.heap.size]? = some (boxOf op name n pos a Fo.nil.len cap)) ∧ Below w.heap.size w wr) (fun _ _ => 0)
  case atStart => exact ⟨rfl, HB, HW.out⟩
  case round =>
   obtain ⟨rfl, HX, hbx⟩ := hrel
   clear b0 b1 b2 b3 b4
   obtain ⟨b0, b1, b2, b3, b4⟩ := box_cells HX.out
   go_wp2_with fail
   go_ret3
   exact ⟨by rw [HR2.out]; rfl, hbx⟩
 ·subst hab
  have HST := Lib.hid (Tail.start (hkin.below HW.out) hk)
  clear hkin hpos hk
  go_enter Tryz.func22, Tryz.ntmps22
  go_wp2_with fail
  go_loopw [10] (fun i wr => ∃ (k : Nat) (R : Fo), i = .int .i64 k ∧ RowKit.Hid (Tail wr (SayRk ds da dc) kids R kb ko k) ∧ RowKit.Hid (q0 = R.alG (ordD ds) 1 true pos) ∧ RowKit.Hid (R.allB Nd.okT = true) ∧ RowKit.Hid R.sized ∧ RowKit.Hid (wr.heap[w.heap.size]? = some (boxOf op name n pos (some ⟨kb, ko, none⟩) kids.len cap)) ∧ Below w.heap.size w wr) (fun i _ => kids.len - (intOf i).toNat)
  case atStart => exact ⟨0, kids, rfl, HST, HQ, HOK, HSZ, HB, HW.out⟩
  case round =>
   obtain ⟨k, R, rfl, HTL, HAL, HKO, HRS, HX, hbx⟩ := hrel
   clear b0 b1 b2 b3 b4
   obtain ⟨b0, b1, b2, b3, b4⟩ := box_cells HX.out
   cases R with
   | nil =>
    have hkl : k = kids.len := by have := HTL.out.len; simpa [Fo.len] using this
    subst hkl
    have hz : q0 = (0, 0) := HAL.out
    have HR2 := Lib.hid (show rv = .tuple #[.int .i64 1, .int .i64 0, .int .i64 0] from by rw [HRV.out, hz, if_pos rfl])
    clear hz
    go_wp2_with fail
    go_ret3
    exact ⟨by rw [HR2.out]; rfl, hbx⟩
   | cons op1 name1 n1 pos1 a1 cap1 kids1 rest =>
    obtain ⟨hnode, hin1, hP, hkl, hnext⟩ := HTL.out.next
    have hkl2 : (k : Int) < kids.len := by omega
    have hkl0 : (0 : Int) ≤ k := by omega
    obtain ⟨c0, c1, c2, c3, c4⟩ := hnode
    have HN1 := Lib.hid hnext
    have hok2 : (Nd.okT ⟨op1, name1, n1, pos1, a1, cap1, kids1⟩ && rest.allB Nd.okT) = true := HKO.out
    rw [Bool.and_eq_true] at hok2
    have hcall := hP wr (HD.out.below hbx) hin1 ⟨HRS.out.1, HRS.out.2.1⟩ hok2.1
    rw [Nd.val_def] at hcall
    have hal : q0 = mustK 1 (Nd.kd (ordD ds) ⟨op1, name1, n1, pos1, a1, cap1, kids1⟩) pos (rest.alG (ordD ds) 1 true pos) := HAL.out
    generalize Nd.kd (ordD ds) ⟨op1, name1, n1, pos1, a1, cap1, kids1⟩ = r at hcall hal
    obtain ⟨rk, rp, re⟩ := r
    simp only [] at hcall hal
    have HCL := Lib.hid hcall
    have HR2' := Lib.hid HRS.out.2.2
    have HK2 := Lib.hid hok2.2
    clear hnext hin1 hP hcall HTL hok2 HAL
    by_cases he : re = 0
    ·subst he
     by_cases hkk : rk = 1
     ·have HA2 := Lib.hid (show q0 = rest.alG (ordD ds) 1 true pos from by rw [hal]; unfold mustK; rw [if_pos rfl, if_pos hkk])
      clear hal
      subst hkk
      go_wp2_with fail
      refine HCL.out.mono ?_
      rintro e w3 ⟨rfl, hb3⟩
      have hbx2 := hbx.trans (hb3.mono hbx.size)
      have HX2 := Lib.hid ((hb3.block _ (lt_heap HX.out)).trans HX.out)
      have HN2 := Lib.hid (HN1.out.below hb3)
      clear hb3 HN1 HX HCL b0 b1 b2 b3 b4 c0 c1 c2 c3 c4
      go_wp2_with fail
      go_roundw
      case rel => exact ⟨k + 1, rest, by go_num, HN2, HA2, HK2, HR2', HX2, hbx2⟩
      case measure => (try simp [intOf]); omega
     ·have hz : q0 = (pos, 7) := by rw [hal]; unfold mustK; rw [if_pos rfl, if_neg hkk]
      have HR3 := Lib.hid (show rv = .tuple #[.int .i64 0, .int .i64 pos, .int .i64 7] from by rw [HRV.out, hz]; rfl)
      have hkb : (rk != 1) = true := by simp [hkk]
      clear hal hz hkk
      go_wp2_with fail
      refine HCL.out.mono ?_
      rintro e w3 ⟨rfl, hb3⟩
      have hbx2 := hbx.trans (hb3.mono hbx.size)
      replace b0 := cell_below hb3 b0
      replace b3 := cell_below hb3 b3
      replace b4 := cell_below hb3 b4
      replace c3 := cell_below hb3 c3
      clear hb3 HCL
      go_wp2_with fail
      go_ret3
      exact ⟨by rw [HR3.out]; rfl, hbx2⟩
    ·have hz : q0 = (rp, re) := by rw [hal]; unfold mustK; rw [if_neg he]
     have HR3 := Lib.hid (show rv = .tuple #[.int .i64 0, .int .i64 rp, .int .i64 re] from by rw [HRV.out, hz, if_neg he])
     have heb : (re != 0) = true := by simp [he]
     clear hal hz he
     go_wp2_with fail
     refine HCL.out.mono ?_
     rintro e w3 ⟨rfl, hb3⟩
     have hbx2 := hbx.trans (hb3.mono hbx.size)
     clear hb3 HCL
     go_wp2_with fail
     go_ret3
     exact ⟨by rw [HR3.out]; rfl, hbx2⟩
set_option maxRecDepth 100000 in
set_option maxHeartbeats 16000000 in
theorem rk_set (op name : ByteArray) (n pos : Int) (a : Option Addr) (cap : Nat) (kids : Fo) (w : World) (ds : List Dc) (da : Option Addr) (dc : Nat) (hd : DcsIn w da ds) (_hdl : ds.length ≤ 1000000) (h0 : (op.toList == [118, 97, 114]) = false) (h1 : (op.toList == [110, 117, 109]) = false) (h2 : (op.toList == [112, 108, 117, 115]) = false) (h3 : (op.toList == [115, 101, 116]) = true) (hin : KidsIn w a kids) (hsz : kids.sized) (hok : kids.allB Nd.okT = true) (hk : Fo.All (SayRk ds da dc) kids) (rv : Value) (hrv : rv = (if (kids.alG (ordD ds) 1 false pos).2 = 0 then .tuple #[.int .i64 2, .int .i64 0, .int .i64 0] else .tuple #[.int .i64 0, .int .i64 (kids.alG (ordD ds) 1 false pos).1, .int .i64 (kids.alG (ordD ds) 1 false pos).2])) :
  Calls Tryz.prog 22 #[.slice da ds.length dc, .agg #[.string op, .string name, .int .i64 n, .int .i64 pos, .slice a kids.len cap]] w fun e w' => e = .returned rv ∧ Below w.heap.size w w' := by
 have hc5 := cellsNode
 have HW := Lib.hid (below_box w (boxOf op name n pos a kids.len cap))
 have HB := Lib.hid (new_at w (boxOf op name n pos a kids.len cap))
 obtain ⟨b0, b1, b2, b3, b4⟩ := box_cells HB.out
 have HD := Lib.hid hd
 have HSZ := Lib.hid hsz
 have HOK := Lib.hid hok
 obtain ⟨q0, hq0⟩ : ∃ q0, q0 = kids.alG (ordD ds) 1 false pos := ⟨_, rfl⟩
 rw [← hq0] at hrv
 have HRV := Lib.hid hrv
 have HQ := Lib.hid hq0
 clear hd hsz hok hrv hq0
 rcases hin with hnil | ⟨kb, ko, hab, hlim, hpos, hkin⟩
 ·subst hnil
  have hz0 : ((Fo.nil.len : Nat) : Int) = 0 := rfl
  have hz : q0 = (0, 0) := HQ.out
  have HR2 := Lib.hid (show rv = .tuple #[.int .i64 2, .int .i64 0, .int .i64 0] from by rw [HRV.out, hz, if_pos rfl])
  clear hz HQ HRV hk
  go_enter Tryz.func22, Tryz.ntmps22
  go_wp2_with fail
  go_loopw [10] (fun i wr => i = .int .i64 0 ∧ RowKit.Hid (wr.heap[w.heap.size]? = some (boxOf op name n pos a Fo.nil.len cap)) ∧ Below w.heap.size w wr) (fun _ _ => 0)
  case atStart => exact ⟨rfl, HB, HW.out⟩
  case round =>
   obtain ⟨rfl, HX, hbx⟩ := hrel
   clear b0 b1 b2 b3 b4
   obtain ⟨b0, b1, b2, b3, b4⟩ := box_cells HX.out
   go_wp2_with fail
   go_ret3
   exact ⟨by rw [HR2.out]; rfl, hbx⟩
 ·subst hab
  have HST := Lib.hid (Tail.start (hkin.below HW.out) hk)
  clear hkin hpos hk
  go_enter Tryz.func22, Tryz.ntmps22
  go_wp2_with fail
  go_loopw [10] (fun i wr => ∃ (k : Nat) (R : Fo), i = .int .i64 k ∧ RowKit.Hid (Tail wr (SayRk ds da dc) kids R kb ko k) ∧ RowKit.Hid (q0 = R.alG (ordD ds) 1 false pos) ∧ RowKit.Hid (R.allB Nd.okT = true) ∧ RowKit.Hid R.sized ∧ RowKit.Hid (wr.heap[w.heap.size]? = some (boxOf op name n pos (some ⟨kb, ko, none⟩) kids.len cap)) ∧ Below w.heap.size w wr) (fun i _ => kids.len - (intOf i).toNat)
  case atStart => exact ⟨0, kids, rfl, HST, HQ, HOK, HSZ, HB, HW.out⟩
  case round =>
   obtain ⟨k, R, rfl, HTL, HAL, HKO, HRS, HX, hbx⟩ := hrel
   clear b0 b1 b2 b3 b4
   obtain ⟨b0, b1, b2, b3, b4⟩ := box_cells HX.out
   cases R with
   | nil =>
    have hkl : k = kids.len := by have := HTL.out.len; simpa [Fo.len] using this
    subst hkl
    have hz : q0 = (0, 0) := HAL.out
    have HR2 := Lib.hid (show rv = .tuple #[.int .i64 2, .int .i64 0, .int .i64 0] from by rw [HRV.out, hz, if_pos rfl])
    clear hz
    go_wp2_with fail
    go_ret3
    exact ⟨by rw [HR2.out]; rfl, hbx⟩
   | cons op1 name1 n1 pos1 a1 cap1 kids1 rest =>
    obtain ⟨hnode, hin1, hP, hkl, hnext⟩ := HTL.out.next
    have hkl2 : (k : Int) < kids.len := by omega
    have hkl0 : (0 : Int) ≤ k := by omega
    obtain ⟨c0, c1, c2, c3, c4⟩ := hnode
    have HN1 := Lib.hid hnext
    have hok2 : (Nd.okT ⟨op1, name1, n1, pos1, a1, cap1, kids1⟩ && rest.allB Nd.okT) = true := HKO.out
    rw [Bool.and_eq_true] at hok2
    have hcall := hP wr (HD.out.below hbx) hin1 ⟨HRS.out.1, HRS.out.2.1⟩ hok2.1
    rw [Nd.val_def] at hcall
    have hal : q0 = mustK 1 (Nd.kd (ordD ds) ⟨op1, name1, n1, pos1, a1, cap1, kids1⟩) pos1 (rest.alG (ordD ds) 1 false pos) := HAL.out
    generalize Nd.kd (ordD ds) ⟨op1, name1, n1, pos1, a1, cap1, kids1⟩ = r at hcall hal
    obtain ⟨rk, rp, re⟩ := r
    simp only [] at hcall hal
    have HCL := Lib.hid hcall
    have HR2' := Lib.hid HRS.out.2.2
    have HK2 := Lib.hid hok2.2
    clear hnext hin1 hP hcall HTL hok2 HAL
    by_cases he : re = 0
    ·subst he
     by_cases hkk : rk = 1
     ·have HA2 := Lib.hid (show q0 = rest.alG (ordD ds) 1 false pos from by rw [hal]; unfold mustK; rw [if_pos rfl, if_pos hkk])
      clear hal
      subst hkk
      go_wp2_with fail
      refine HCL.out.mono ?_
      rintro e w3 ⟨rfl, hb3⟩
      have hbx2 := hbx.trans (hb3.mono hbx.size)
      have HX2 := Lib.hid ((hb3.block _ (lt_heap HX.out)).trans HX.out)
      have HN2 := Lib.hid (HN1.out.below hb3)
      clear hb3 HN1 HX HCL b0 b1 b2 b3 b4 c0 c1 c2 c3 c4
      go_wp2_with fail
      go_roundw
      case rel => exact ⟨k + 1, rest, by go_num, HN2, HA2, HK2, HR2', HX2, hbx2⟩
      case measure => (try simp [intOf]); omega
     ·have hz : q0 = (pos1, 7) := by rw [hal]; unfold mustK; rw [if_pos rfl, if_neg hkk]
      have HR3 := Lib.hid (show rv = .tuple #[.int .i64 0, .int .i64 pos1, .int .i64 7] from by rw [HRV.out, hz]; rfl)
      have hkb : (rk != 1) = true := by simp [hkk]
      clear hal hz hkk
      go_wp2_with fail
      refine HCL.out.mono ?_
      rintro e w3 ⟨rfl, hb3⟩
      have hbx2 := hbx.trans (hb3.mono hbx.size)
      replace b0 := cell_below hb3 b0
      replace b3 := cell_below hb3 b3
      replace b4 := cell_below hb3 b4
      replace c3 := cell_below hb3 c3
      clear hb3 HCL
      go_wp2_with fail
      go_ret3
      exact ⟨by rw [HR3.out]; rfl, hbx2⟩
    ·have hz : q0 = (rp, re) := by rw [hal]; unfold mustK; rw [if_neg he]
     have HR3 := Lib.hid (show rv = .tuple #[.int .i64 0, .int .i64 rp, .int .i64 re] from by rw [HRV.out, hz, if_neg he])
     have heb : (re != 0) = true := by simp [he]
     clear hal hz he
     go_wp2_with fail
     refine HCL.out.mono ?_
     rintro e w3 ⟨rfl, hb3⟩
     have hbx2 := hbx.trans (hb3.mono hbx.size)
     clear hb3 HCL
     go_wp2_with fail
     go_ret3
     exact ⟨by rw [HR3.out]; rfl, hbx2⟩
set_option maxRecDepth 100000 in
set_option maxHeartbeats 16000000 in
theorem rk_join (op name : ByteArray) (n pos : Int) (a : Option Addr) (cap : Nat) (kids : Fo) (w : World) (ds : List Dc) (da : Option Addr) (dc : Nat) (hd : DcsIn w da ds) (_hdl : ds.length ≤ 1000000) (h0 : (op.toList == [118, 97, 114]) = false) (h1 : (op.toList == [110, 117, 109]) = false) (h2 : (op.toList == [112, 108, 117, 115]) = false) (h3 : (op.toList == [115, 101, 116]) = false) (hin : KidsIn w a kids) (hsz : kids.sized) (hok : kids.allB Nd.okT = true) (hk : Fo.All (SayRk ds da dc) kids) (rv : Value) (hrv : rv = (if (kids.alG (ordD ds) 2 false pos).2 = 0 then .tuple #[.int .i64 2, .int .i64 0, .int .i64 0] else .tuple #[.int .i64 0, .int .i64 (kids.alG (ordD ds) 2 false pos).1, .int .i64 (kids.alG (ordD ds) 2 false pos).2])) :
  Calls Tryz.prog 22 #[.slice da ds.length dc, .agg #[.string op, .string name, .int .i64 n, .int .i64 pos, .slice a kids.len cap]] w fun e w' => e = .returned rv ∧ Below w.heap.size w w' := by
 have hc5 := cellsNode
 have HW := Lib.hid (below_box w (boxOf op name n pos a kids.len cap))
 have HB := Lib.hid (new_at w (boxOf op name n pos a kids.len cap))
 obtain ⟨b0, b1, b2, b3, b4⟩ := box_cells HB.out
 have HD := Lib.hid hd
 have HSZ := Lib.hid hsz
 have HOK := Lib.hid hok
 obtain ⟨q0, hq0⟩ : ∃ q0, q0 = kids.alG (ordD ds) 2 false pos := ⟨_, rfl⟩
 rw [← hq0] at hrv
 have HRV := Lib.hid hrv
 have HQ := Lib.hid hq0
 clear hd hsz hok hrv hq0
 rcases hin with hnil | ⟨kb, ko, hab, hlim, hpos, hkin⟩
 ·subst hnil
  have hz0 : ((Fo.nil.len : Nat) : Int) = 0 := rfl
  have hz : q0 = (0, 0) := HQ.out
  have HR2 := Lib.hid (show rv = .tuple #[.int .i64 2, .int .i64 0, .int .i64 0] from by rw [HRV.out, hz, if_pos rfl])
  clear hz HQ HRV hk
  go_enter Tryz.func22, Tryz.ntmps22
  go_wp2_with fail
  go_loopw [10] (fun i wr => i = .int .i64 0 ∧ RowKit.Hid (wr.heap[w.heap.size]? = some (boxOf op name n pos a Fo.nil.len cap)) ∧ Below w.heap.size w wr) (fun _ _ => 0)
  case atStart => exact ⟨rfl, HB, HW.out⟩
  case round =>
   obtain ⟨rfl, HX, hbx⟩ := hrel
   clear b0 b1 b2 b3 b4
   obtain ⟨b0, b1, b2, b3, b4⟩ := box_cells HX.out
   go_wp2_with fail
   go_ret3
   exact ⟨by rw [HR2.out]; rfl, hbx⟩
 ·subst hab
  have HST := Lib.hid (Tail.start (hkin.below HW.out) hk)
  clear hkin hpos hk
  go_enter Tryz.func22, Tryz.ntmps22
  go_wp2_with fail
  go_loopw [10] (fun i wr => ∃ (k : Nat) (R : Fo), i = .int .i64 k ∧ RowKit.Hid (Tail wr (SayRk ds da dc) kids R kb ko k) ∧ RowKit.Hid (q0 = R.alG (ordD ds) 2 false pos) ∧ RowKit.Hid (R.allB Nd.okT = true) ∧ RowKit.Hid R.sized ∧ RowKit.Hid (wr.heap[w.heap.size]? = some (boxOf op name n pos (some ⟨kb, ko, none⟩) kids.len cap)) ∧ Below w.heap.size w wr) (fun i _ => kids.len - (intOf i).toNat)
  case atStart => exact ⟨0, kids, rfl, HST, HQ, HOK, HSZ, HB, HW.out⟩
  case round =>
   obtain ⟨k, R, rfl, HTL, HAL, HKO, HRS, HX, hbx⟩ := hrel
   clear b0 b1 b2 b3 b4
   obtain ⟨b0, b1, b2, b3, b4⟩ := box_cells HX.out
   cases R with
   | nil =>
    have hkl : k = kids.len := by have := HTL.out.len; simpa [Fo.len] using this
    subst hkl
    have hz : q0 = (0, 0) := HAL.out
    have HR2 := Lib.hid (show rv = .tuple #[.int .i64 2, .int .i64 0, .int .i64 0] from by rw [HRV.out, hz, if_pos rfl])
    clear hz
    go_wp2_with fail
    go_ret3
    exact ⟨by rw [HR2.out]; rfl, hbx⟩
   | cons op1 name1 n1 pos1 a1 cap1 kids1 rest =>
    obtain ⟨hnode, hin1, hP, hkl, hnext⟩ := HTL.out.next
    have hkl2 : (k : Int) < kids.len := by omega
    have hkl0 : (0 : Int) ≤ k := by omega
    obtain ⟨c0, c1, c2, c3, c4⟩ := hnode
    have HN1 := Lib.hid hnext
    have hok2 : (Nd.okT ⟨op1, name1, n1, pos1, a1, cap1, kids1⟩ && rest.allB Nd.okT) = true := HKO.out
    rw [Bool.and_eq_true] at hok2
    have hcall := hP wr (HD.out.below hbx) hin1 ⟨HRS.out.1, HRS.out.2.1⟩ hok2.1
    rw [Nd.val_def] at hcall
    have hal : q0 = mustK 2 (Nd.kd (ordD ds) ⟨op1, name1, n1, pos1, a1, cap1, kids1⟩) pos1 (rest.alG (ordD ds) 2 false pos) := HAL.out
    generalize Nd.kd (ordD ds) ⟨op1, name1, n1, pos1, a1, cap1, kids1⟩ = r at hcall hal
    obtain ⟨rk, rp, re⟩ := r
    simp only [] at hcall hal
    have HCL := Lib.hid hcall
    have HR2' := Lib.hid HRS.out.2.2
    have HK2 := Lib.hid hok2.2
    clear hnext hin1 hP hcall HTL hok2 HAL
    by_cases he : re = 0
    ·subst he
     by_cases hkk : rk = 2
     ·have HA2 := Lib.hid (show q0 = rest.alG (ordD ds) 2 false pos from by rw [hal]; unfold mustK; rw [if_pos rfl, if_pos hkk])
      clear hal
      subst hkk
      go_wp2_with fail
      refine HCL.out.mono ?_
      rintro e w3 ⟨rfl, hb3⟩
      have hbx2 := hbx.trans (hb3.mono hbx.size)
      have HX2 := Lib.hid ((hb3.block _ (lt_heap HX.out)).trans HX.out)
      have HN2 := Lib.hid (HN1.out.below hb3)
      clear hb3 HN1 HX HCL b0 b1 b2 b3 b4 c0 c1 c2 c3 c4
      go_wp2_with fail
      go_roundw
      case rel => exact ⟨k + 1, rest, by go_num, HN2, HA2, HK2, HR2', HX2, hbx2⟩
      case measure => (try simp [intOf]); omega
     ·have hz : q0 = (pos1, 7) := by rw [hal]; unfold mustK; rw [if_pos rfl, if_neg hkk]
      have HR3 := Lib.hid (show rv = .tuple #[.int .i64 0, .int .i64 pos1, .int .i64 7] from by rw [HRV.out, hz]; rfl)
      have hkb : (rk != 2) = true := by simp [hkk]
      clear hal hz hkk
      go_wp2_with fail
      refine HCL.out.mono ?_
      rintro e w3 ⟨rfl, hb3⟩
      have hbx2 := hbx.trans (hb3.mono hbx.size)
      replace b0 := cell_below hb3 b0
      replace b3 := cell_below hb3 b3
      replace b4 := cell_below hb3 b4
      replace c3 := cell_below hb3 c3
      clear hb3 HCL
      go_wp2_with fail
      go_ret3
      exact ⟨by rw [HR3.out]; rfl, hbx2⟩
    ·have hz : q0 = (rp, re) := by rw [hal]; unfold mustK; rw [if_neg he]
     have HR3 := Lib.hid (show rv = .tuple #[.int .i64 0, .int .i64 rp, .int .i64 re] from by rw [HRV.out, hz, if_neg he])
     have heb : (re != 0) = true := by simp [he]
     clear hal hz he
     go_wp2_with fail
     refine HCL.out.mono ?_
     rintro e w3 ⟨rfl, hb3⟩
     have hbx2 := hbx.trans (hb3.mono hbx.size)
     clear hb3 HCL
     go_wp2_with fail
     go_ret3
     exact ⟨by rw [HR3.out]; rfl, hbx2⟩
theorem rkind_of (ds : List Dc) (da : Option Addr) (dc : Nat) (hdl : ds.length ≤ 1000000) (T : Nd) (hk : Fo.All (SayRk ds da dc) T.kids) : SayRk ds da dc T := by
 intro w hd hin hsz hok
 obtain ⟨hko, hkp⟩ := kids_okT hok
 obtain ⟨op, name, n, pos, a, cap, kids⟩ := T
 have hs2 : kids.sized := hsz.2
 have hkin : KidsIn w a kids := hin
 simp only [] at hko hkp hk
 show Calls _ _ _ w fun e w' => e = .returned (.tuple #[.int .i64 (stepK (ordD ds) op name pos (kids.ks (ordD ds))).k, .int .i64 (stepK (ordD ds) op name pos (kids.ks (ordD ds))).pos, .int .i64 (stepK (ordD ds) op name pos (kids.ks (ordD ds))).e]) ∧ _
 rw [Nd.val_def]
 rcases bool_two (op.toList == [118, 97, 114]) with h0 | h0
 ·unfold stepK
  simp only [h0, if_true]
  by_cases hn : ordD ds name < 0
  ·rw [if_pos hn]
   exact rk_var_no op name n pos a cap kids w ds da dc hd hdl h0 hn
  ·rw [if_neg hn]
   exact rk_var_yes op name n pos a cap kids w ds da dc hd hdl h0 hn
 ·rcases bool_two (op.toList == [110, 117, 109]) with h1 | h1
  ·unfold stepK
   simp only [h0, h1, if_true]
   exact rk_num op name n pos a cap kids w ds da dc hd hdl h0 h1
  ·rcases bool_two (op.toList == [112, 108, 117, 115]) with h2 | h2
   ·have hl := hkp h2
    have h3 : (op.toList == [115, 101, 116]) = false := by
     rw [beq_iff_eq] at h2
     rw [h2]
     decide
    refine rk_plus op name n pos a cap kids w ds da dc hd hdl h0 h1 h2 h3 hkin hs2 hko hk _ ?_
    unfold stepK
    simp only [h0, h1, h2, if_true]
    cases kids with
    | nil => cases hl
    | cons op1 name1 n1 pos1 a1 cap1 kids1 rest =>
     have hl1 : rest.len + 1 = 1 := hl
     have hr : rest = .nil := nil_of_len (by omega)
     subst hr
     show _ = (if (mustK 1 (Nd.kd (ordD ds) ⟨op1, name1, n1, pos1, a1, cap1, kids1⟩) pos (0, 0)).2 = 0 then _ else _)
     show Value.tuple #[.int .i64 (if (Nd.kd (ordD ds) ⟨op1, name1, n1, pos1, a1, cap1, kids1⟩).e = 0 then (if (Nd.kd (ordD ds) ⟨op1, name1, n1, pos1, a1, cap1, kids1⟩).k = 1 then (⟨1, 0, 0⟩ : KR) else ⟨0, pos, 7⟩) else ⟨0, (Nd.kd (ordD ds) ⟨op1, name1, n1, pos1, a1, cap1, kids1⟩).pos, (Nd.kd (ordD ds) ⟨op1, name1, n1, pos1, a1, cap1, kids1⟩).e⟩).k, .int .i64 (if (Nd.kd (ordD ds) ⟨op1, name1, n1, pos1, a1, cap1, kids1⟩).e = 0 then (if (Nd.kd (ordD ds) ⟨op1, name1, n1, pos1, a1, cap1, kids1⟩).k = 1 then (⟨1, 0, 0⟩ : KR) else ⟨0, pos, 7⟩) else ⟨0, (Nd.kd (ordD ds) ⟨op1, name1, n1, pos1, a1, cap1, kids1⟩).pos, (Nd.kd (ordD ds) ⟨op1, name1, n1, pos1, a1, cap1, kids1⟩).e⟩).pos, .int .i64 (if (Nd.kd (ordD ds) ⟨op1, name1, n1, pos1, a1, cap1, kids1⟩).e = 0 then (if (Nd.kd (ordD ds) ⟨op1, name1, n1, pos1, a1, cap1, kids1⟩).k = 1 then (⟨1, 0, 0⟩ : KR) else ⟨0, pos, 7⟩) else ⟨0, (Nd.kd (ordD ds) ⟨op1, name1, n1, pos1, a1, cap1, kids1⟩).pos, (Nd.kd (ordD ds) ⟨op1, name1, n1, pos1, a1, cap1, kids1⟩).e⟩).e] = (if (mustK 1 (Nd.kd (ordD ds) ⟨op1, name1, n1, pos1, a1, cap1, kids1⟩) pos (0, 0)).2 = 0 then .tuple #[.int .i64 1, .int .i64 0, .int .i64 0] else .tuple #[.int .i64 0, .int .i64 (mustK 1 (Nd.kd (ordD ds) ⟨op1, name1, n1, pos1, a1, cap1, kids1⟩) pos (0, 0)).1, .int .i64 (mustK 1 (Nd.kd (ordD ds) ⟨op1, name1, n1, pos1, a1, cap1, kids1⟩) pos (0, 0)).2])
     generalize Nd.kd (ordD ds) ⟨op1, name1, n1, pos1, a1, cap1, kids1⟩ = r
     obtain ⟨rk, rp, re⟩ := r
     unfold mustK
     simp only []
     by_cases he : re = 0
     ·by_cases hk1 : rk = 1
      ·simp [he, hk1]
      ·simp [he, hk1]
     ·simp [he]
   ·rcases bool_two (op.toList == [115, 101, 116]) with h3 | h3
    ·refine rk_set op name n pos a cap kids w ds da dc hd hdl h0 h1 h2 h3 hkin hs2 hko hk _ ?_
     unfold stepK
     simp only [h0, h1, h2, h3, if_true]
     rw [al_1, alG_al]
     by_cases hz : (kids.al (ordD ds) 1).2 = 0
     ·simp [hz]
     ·simp [hz]
    ·refine rk_join op name n pos a cap kids w ds da dc hd hdl h0 h1 h2 h3 hkin hs2 hko hk _ ?_
     unfold stepK
     simp only [h0, h1, h2, h3]
     rw [al_2, alG_al]
     by_cases hz : (kids.al (ordD ds) 2).2 = 0
     ·simp [hz]
     ·simp [hz]
theorem rkind_all (ds : List Dc) (da : Option Addr) (dc : Nat) (hdl : ds.length ≤ 1000000) (T : Nd) : SayRk ds da dc T := Nd.all_of (P := SayRk ds da dc) (fun T hk => rkind_of ds da dc hdl T hk) T
end Go.Proofs.YtmpcmpeloebnhaaGreatDoor
namespace Go.Proofs.YtmpcmpeloebnhaaGreatDoor
open Go.RowKit
set_option maxRecDepth 100000 in
set_option maxHeartbeats 8000000 in
theorem rIsT_any (T : Nd) (w : World) (hU : UT w) (hT : T.In w) (hsz : T.sized) : Calls Tryz.prog 20 #[T.val] w fun e w' => e = .returned (.bool ((decide (T.deep ≤ 30) && decide (T.size ≤ 2000)) && T.okT)) ∧ Below w.heap.size w w' := by
 have hf := fun W h1 h2 => gterms_all T W h1 h2 hsz
 have hb := fun W h => small_any T W h
 obtain ⟨op, name, n, pos, a, cap, kids⟩ := T
 generalize (Nd.mk op name n pos a cap kids).okT = q at hf
 generalize (decide ((Nd.mk op name n pos a cap kids).deep ≤ 30) && decide ((Nd.mk op name n pos a cap kids).size ≤ 2000)) = sm at hb
 have HI := Lib.hid hT
 have HU := Lib.hid hU
 have HF := Lib.hid hf
 have HC := Lib.hid (hb (w.alloc (boxOf op name n pos a kids.len cap)) (hT.below (below_box _ _)))
 have HB := Lib.hid (new_at w (boxOf op name n pos a kids.len cap))
 have HZ := Lib.hid (lt_heap HB.out)
 have hc5 := cellsNode
 clear hf hb hT hU hsz
 rw [Nd.val_def]
 cases sm with
 | true =>
  go_enter Tryz.func20, Tryz.ntmps20
  go_wp2_with fail
  refine HC.out.mono ?_
  rintro e w2 ⟨rfl, hb2⟩
  have hbb := box_then hb2
  obtain ⟨b0, b1, b2, b3, b4⟩ := box_cells (show w2.heap[w.heap.size]? = _ from (hb2.block _ HZ.out).trans HB.out)
  have hcall := HF.out w2 (Utf8Tabs_below HU.out hbb) (HI.out.below hbb)
  rw [Nd.val_def] at hcall
  have HC2 := Lib.hid hcall
  clear hb2 HC hcall
  go_wp2_with fail
  refine HC2.out.mono ?_
  rintro e w3 ⟨rfl, hb3⟩
  have hb4 := hbb.trans (hb3.mono hbb.size)
  clear hb3 HC2
  go_wp2_with fail
  go_ret
  exact ⟨rfl, hb4⟩
 | false =>
  go_enter Tryz.func20, Tryz.ntmps20
  go_wp2_with fail
  refine HC.out.mono ?_
  rintro e w2 ⟨rfl, hb2⟩
  have hbb := box_then hb2
  clear hb2 HC
  go_wp2_with fail
  go_ret
  exact ⟨rfl, hbb⟩
end Go.Proofs.YtmpcmpeloebnhaaGreatDoor
namespace Go.Proofs.YtmpcmpeloebnhaaGreatDoor
open Go.RowKit
open Go.Maps
set_option maxRecDepth 100000 in
set_option maxHeartbeats 16000000 in
theorem kknown_any (w : World) (hU : UT w) (hT : LTabs w) : Calls Tryz.prog 19 #[] w fun e w' => e = .returned (.bool true) ∧ Below w.heap.size w w' := by
 have hc7 := cellsProg7
 have HC := Lib.hid (rparse_chk knownK 10 7 knownK_chk w hU)
 have HT := Lib.hid hT
 clear hU hT
 go_enter Tryz.func19, Tryz.ntmps19
 go_wp2_with fail
 refine HC.out.mono ?_
 rintro e w1 ⟨hb1, ds, da, dc, pa, pc, Ps, T, rfl, hd, hp, hm, hms, hmd, hmz, hdl, hpl, hck⟩
 have HB1 := Lib.hid hb1
 have hbx := below_box w1 (pgB da ds.length dc pa Ps.length pc T)
 have hcall := kcheck_any ds da dc Ps pa pc T (w1.alloc (pgB da ds.length dc pa Ps.length pc T)) (HT.out.below (hb1.alloc hb1.size _)) (hd.below hbx) ⟨by rcases hp.1 with h | ⟨b, o, h1, h2, h3⟩; exact .inl h; exact .inr ⟨b, o, h1, h2, fun i p hi => (h3 i p hi).below hbx⟩, fun p hi => (hp.2 p hi).below hbx⟩ (hm.below hbx) hms hmd hmz hdl hpl
 rw [hck] at hcall
 have HC2 := Lib.hid hcall
 obtain ⟨p0, p1, p2, p3, p4, p5, p6⟩ := pg_cells (new_at w1 (pgB da ds.length dc pa Ps.length pc T))
 clear hcall hbx hd hp hm hms hmd hmz hdl hpl hck HC hb1 HT
 go_wp2_with fail
 refine HC2.out.mono ?_
 rintro e w2 ⟨rfl, hb2⟩
 have hbb := HB1.out.trans ((box_then hb2).mono HB1.out.size)
 clear hb2 HC2
 go_wp2_with fail
 go_ret
 exact ⟨rfl, hbb⟩
def InB (w : World) (T : Nd) (W : World) : Prop := W.heap[w.heap.size]? = some (boxOf T.op T.name T.n T.pos T.a T.kids.len T.cap) ∧ Below w.heap.size w W
theorem InB.next {w W W' : World} {T : Nd} (h : InB w T W) (hb : Below W.heap.size W W') : InB w T W' := ⟨by rw [hb.block _ (lt_heap h.1)]; exact h.1, h.2.trans (hb.mono h.2.size)⟩
set_option maxRecDepth 100000 in
set_option maxHeartbeats 16000000 in
theorem kterms_walk (ds : List Dc) (da : Option Addr) (dc : Nat) (T : Nd) (w : World) (hd : DcsIn w da ds) (hm : T.In w) (hms : T.sized) (hU : UT w) (hT : LTabs w) :
  Calls Tryz.prog 7 #[.slice da ds.length dc, T.val] w fun e w' => e = .returned (.bool true) ∧ Below w.heap.size w w' := by
 have hc5 := cellsNode
 have HI0 := Lib.hid (show InB w T (w.alloc (boxOf T.op T.name T.n T.pos T.a T.kids.len T.cap)) from ⟨new_at w _, below_box w _⟩)
 have HU := Lib.hid hU
 have HT := Lib.hid hT
 have HD := Lib.hid hd
 have HM := Lib.hid hm
 have HMS := Lib.hid hms
 have HSZ := Lib.hid (fun W (h : InB w T W) => rsize_any T W (HM.out.below h.2))
 have HIT := Lib.hid (fun W (h : InB w T W) => rIsT_any T W (Utf8Tabs_below HU.out h.2) (HM.out.below h.2) HMS.out)
 clear hU hT hd hm hms
 by_cases h30 : ds.length ≤ 30
 ·have hdl : ¬ ((30 : Int) < (ds.length : Int)) := by omega
  by_cases h100 : T.size ≤ 100
  ·have hsv : min (T.size : Int) 2001 = T.size := by omega
   have hs100 : ¬ ((100 : Int) < (T.size : Int)) := by omega
   rw [hsv] at HSZ
   by_cases h31 : T.deep ≤ 30
   ·have h2000 : T.size ≤ 2000 := by omega
    rcases bool_two T.okT with hok | hok
    ·rw [decide_eq_true h31, decide_eq_true h2000, hok] at HIT
     have HK := Lib.hid (fun W (h : InB w T W) => kKind_any ds da dc T W (HT.out.below h.2) (HD.out.below h.2) (HM.out.below h.2) HMS.out h31 h2000 hok (by omega))
     have HRK := Lib.hid (fun W (h : InB w T W) => rkind_all ds da dc (by omega) T W (HD.out.below h.2) (HM.out.below h.2) HMS.out hok)
     generalize T.kd (ordD ds) = r at HK HRK
     obtain ⟨rk, rp, re⟩ := r
     simp only [] at HK HRK
     have HKN := Lib.hid (fun W (h : InB w T W) => kknown_any W (Utf8Tabs_below HU.out h.2) (HT.out.below h.2))
     rw [Nd.val_def] at HSZ HIT HK HRK ⊢
     have HC1 := Lib.hid (HSZ.out _ HI0.out)
     obtain ⟨b0, b1, b2, b3, b4⟩ := box_cells HI0.out.1
     clear h31 h2000 hok hsv h100 h30
     go_enter Tryz.func7, Tryz.ntmps7
     go_wp2_with fail
     refine HC1.out.mono ?_
     rintro e w1 ⟨rfl, hb1⟩
     have HI1 := Lib.hid (HI0.out.next hb1)
     have HC2 := Lib.hid (HIT.out _ HI1.out)
     clear hb1 HC1 HI0 HSZ b0 b1 b2 b3 b4
     obtain ⟨b0, b1, b2, b3, b4⟩ := box_cells HI1.out.1
     go_wp2_with fail
     refine HC2.out.mono ?_
     rintro e w2 ⟨rfl, hb2⟩
     have HI2 := Lib.hid (HI1.out.next hb2)
     have HC3 := Lib.hid (HK.out _ HI2.out)
     clear hb2 HC2 HI1 HIT b0 b1 b2 b3 b4
     obtain ⟨b0, b1, b2, b3, b4⟩ := box_cells HI2.out.1
     go_wp2_with fail
     refine HC3.out.mono ?_
     rintro e w3 ⟨rfl, hb3⟩
     have HI3 := Lib.hid (HI2.out.next hb3)
     have HC4 := Lib.hid (HRK.out _ HI3.out)
     clear hb3 HC3 HI2 HK b0 b1 b2 b3 b4
     obtain ⟨b0, b1, b2, b3, b4⟩ := box_cells HI3.out.1
     go_wp2_with fail
     refine HC4.out.mono ?_
     rintro e w4 ⟨rfl, hb4⟩
     have HI4 := Lib.hid (HI3.out.next hb4)
     have HC5 := Lib.hid (HKN.out _ HI4.out)
     clear hb4 HC4 HI3 HRK b0 b1 b2 b3 b4 HKN
     go_wp2_with fail
     refine HC5.out.mono ?_
     rintro e w5 ⟨rfl, hb5⟩
     have HI5 := Lib.hid (HI4.out.next hb5)
     clear hb5 HC5 HI4
     go_wp2_with fail
     go_ret
     exact ⟨rfl, HI5.out.2⟩
    ·rw [decide_eq_true h31, decide_eq_true h2000, hok] at HIT
     rw [Nd.val_def] at HSZ HIT ⊢
     have HC1 := Lib.hid (HSZ.out _ HI0.out)
     obtain ⟨b0, b1, b2, b3, b4⟩ := box_cells HI0.out.1
     clear h31 h2000 hok hsv h100 h30
     go_enter Tryz.func7, Tryz.ntmps7
     go_wp2_with fail
     refine HC1.out.mono ?_
     rintro e w1 ⟨rfl, hb1⟩
     have HI1 := Lib.hid (HI0.out.next hb1)
     have HC2 := Lib.hid (HIT.out _ HI1.out)
     clear hb1 HC1 HI0 HSZ b0 b1 b2 b3 b4
     obtain ⟨b0, b1, b2, b3, b4⟩ := box_cells HI1.out.1
     go_wp2_with fail
     refine HC2.out.mono ?_
     rintro e w2 ⟨rfl, hb2⟩
     have HI2 := Lib.hid (HI1.out.next hb2)
     clear hb2 HC2 HI1 HIT
     go_wp2_with fail
     go_ret
     exact ⟨rfl, HI2.out.2⟩
   ·rw [decide_eq_false h31] at HIT
    rw [Nd.val_def] at HSZ HIT ⊢
    have HC1 := Lib.hid (HSZ.out _ HI0.out)
    obtain ⟨b0, b1, b2, b3, b4⟩ := box_cells HI0.out.1
    clear h31 hsv h100 h30
    go_enter Tryz.func7, Tryz.ntmps7
    go_wp2_with fail
    refine HC1.out.mono ?_
    rintro e w1 ⟨rfl, hb1⟩
    have HI1 := Lib.hid (HI0.out.next hb1)
    have HC2 := Lib.hid (HIT.out _ HI1.out)
    clear hb1 HC1 HI0 HSZ b0 b1 b2 b3 b4
    obtain ⟨b0, b1, b2, b3, b4⟩ := box_cells HI1.out.1
    go_wp2_with fail
    refine HC2.out.mono ?_
    rintro e w2 ⟨rfl, hb2⟩
    have HI2 := Lib.hid (HI1.out.next hb2)
    clear hb2 HC2 HI1 HIT
    go_wp2_with fail
    go_ret
    exact ⟨rfl, HI2.out.2⟩
  ·have hbig : (100 : Int) < min (T.size : Int) 2001 := by omega
   generalize min (T.size : Int) 2001 = sv at HSZ hbig
   rw [Nd.val_def] at HSZ ⊢
   have HC1 := Lib.hid (HSZ.out _ HI0.out)
   obtain ⟨b0, b1, b2, b3, b4⟩ := box_cells HI0.out.1
   clear h100 h30
   go_enter Tryz.func7, Tryz.ntmps7
   go_wp2_with fail
   refine HC1.out.mono ?_
   rintro e w1 ⟨rfl, hb1⟩
   have HI1 := Lib.hid (HI0.out.next hb1)
   clear hb1 HC1 HI0 HSZ b0 b1 b2 b3 b4
   go_wp2_with fail
   go_ret
   exact ⟨rfl, HI1.out.2⟩
 ·have hdl : (30 : Int) < (ds.length : Int) := by omega
  rw [Nd.val_def]
  clear h30
  go_enter Tryz.func7, Tryz.ntmps7
  go_wp2_with fail
  go_ret
  exact ⟨rfl, HI0.out.2⟩
end Go.Proofs.YtmpcmpeloebnhaaGreatDoor
namespace Go.Proofs.YtmpcmpeloebnhaaGreatDoor
open Go.RowKit
open Go.Lib in
theorem cells_of_strs {H : Type} {enc : TypeId × Value → H} {P : Program} {w : World} {base : Nat} {sp : Nat → Bool} {held : Bool} {fuel : Nat} {t e : TypeId} {n : Nat} {cs : List Value} {zs : List ByteArray} {p : List MemPlace}
  (ht : P.underlying t = some (.array n e)) (he : P.underlying e = some .string) (hce : P.cellsOf e = 1) (hct : P.cellsOf t = n)
  (h : DataW.trod enc P w base sp held fuel t cs = some (.agg (zs.map fun z => .lit (.string z.data.toList)), p)) : cs = zs.map Value.string := by
 cases fuel with
 | zero => simp [DataW.trod] at h
 | succ fuel =>
  simp only [DataW.trod, ht, hce, hct, Nat.mul_one] at h
  split at h
  ·rename_i hl
   obtain ⟨xs, hm, hx⟩ := Option.map_eq_some_iff.1 h
   have hxs : xs.map (·.1) = zs.map fun z => (DataW.lit (.string z.data.toList) : DataW H) := by
    have := congrArg Prod.fst hx
    simpa using this
   have hxl : xs.length = n := by simpa using mapM_length hm
   have hzl : zs.length = n := by
    have := congrArg List.length hxs
    simp at this
    omega
   apply List.ext_getElem?
   intro i
   by_cases hi : i < n
   ·obtain ⟨b, hb, hf⟩ := mapM_at hm i i (by simp [hi])
    obtain ⟨z, hc, rfl, _⟩ := DataW.trod_string he hf
    have h1 : cs[i]? = some (.string z) := by
     have := congrArg (·[0]?) hc
     simpa [List.getElem?_take, List.getElem?_drop] using this
    have h2 : (xs.map (·.1))[i]? = some (DataW.lit (.string z.data.toList) : DataW H) := by simp [hb]
    rw [hxs] at h2
    simp only [List.getElem?_map, Option.map_eq_some_iff, DataW.lit.injEq, Lit.string.injEq] at h2
    obtain ⟨z', hz', hzz⟩ := h2
    obtain rfl : z' = z := ByteArray.ext (Array.ext' hzz)
    simp [h1, hz']
   ·rw [List.getElem?_eq_none (by omega), List.getElem?_eq_none (by simp; omega)]
  ·cases h
theorem space_eq : (Lib.tabData .u8 Lib.asciiSpaceTab : DataW Unit) = Rows.laid_strings_asciiSpace := by kernel_rfl
theorem signs_eq : (DataW.agg (sigs.map fun z => .lit (.string z.data.toList)) : DataW Unit) = Rows.laid_sibyl_lex_signs := by kernel_rfl
theorem first_eq : Lib.firstData = Rows.laid_unicode_utf8_first := by kernel_rfl
theorem ltabs_of {l : List (String × DataW Unit)} {W : World} (h : laidMet Tryz.prog l W) (h1 : ("strings.asciiSpace", Rows.laid_strings_asciiSpace) ∈ l) (h2 : ("sibyl/lex.signs", Rows.laid_sibyl_lex_signs) ∈ l) : LTabs W := by
 have r1 := Lib.laidMet.reads h h1
 have r2 := Lib.laidMet.reads h h2
 rw [← space_eq] at r1
 rw [← signs_eq] at r2
 constructor
 ·obtain ⟨g, t, cs, fuel, p, hg, hty, hvar, hd⟩ := r1
  obtain rfl := Option.some.inj ((show Tryz.prog.globalNamed "strings.asciiSpace" = some 4 by kernel_rfl).symm.trans hg)
  obtain rfl := Option.some.inj ((show (Tryz.prog.globals[4]?).map (·.type) = some 148 by kernel_rfl).symm.trans hty)
  unfold Lib.TabIs
  rw [hvar, ← Lib.cells_of_tab Tryz.underlying148 Tryz.underlying5 (by kernel_rfl) (by kernel_rfl) hd]
 ·obtain ⟨g, t, cs, fuel, p, hg, hty, hvar, hd⟩ := r2
  obtain rfl := Option.some.inj ((show Tryz.prog.globalNamed "sibyl/lex.signs" = some 0 by kernel_rfl).symm.trans hg)
  obtain rfl := Option.some.inj ((show (Tryz.prog.globals[0]?).map (·.type) = some 139 by kernel_rfl).symm.trans hty)
  rw [hvar, ← cells_of_strs Tryz.underlying139 Tryz.underlying9 (by kernel_rfl) (by kernel_rfl) hd]
def firstCells : Array Value := (Go.Pinned.utf8FirstZ.map fun (n : Nat) => Value.int .u8 (n : Int)).toArray
def acceptCells : Array Value := ((List.range 16).flatMap fun i => [Value.int .u8 (Lib.accLo i : Int), Value.int .u8 (Lib.accHi i : Int)]).toArray
def putIn (h : Array Obj) (g : Nat) (cs : Array Value) : Array Obj := h.modify g fun
 | .cells _ t frozen => .cells cs t frozen
 | o => o
noncomputable def laidWorld (os : Os) : World :=
 let N := (World.settled Tryz.prog os).heap.size
 let w0 := World.holding Tryz.prog os ⟨#[.cells (Lib.whiteT.map fun (z : Nat) => Value.int .u16 (z : Int)).toArray (Tryz.lays199_ren.t 198), .cells #[.slice (some ⟨N, 0, none⟩) 7 7, .slice none 0 0, .int .i64 2] (Tryz.lays199_ren.t 196)], #[], []⟩
 { w0 with heap := putIn (putIn (putIn (putIn (putIn w0.heap 4 (Lib.asciiSpaceTab.map fun z => Value.int .u8 z).toArray) 0 (sigs.map Value.string).toArray) 2 firstCells) 3 acceptCells) 5 #[.pointer (some ⟨N + 1, 0, none⟩)] }
theorem laid_met5 (os : Os) (args : Array Value) : laidMet Tryz.prog [("unicode/utf8.acceptRanges", Rows.laid_unicode_utf8_acceptRanges), ("unicode.White_Space", Rows.laid_unicode_White_Space), ("strings.asciiSpace", Rows.laid_strings_asciiSpace), ("sibyl/lex.signs", Rows.laid_sibyl_lex_signs), ("unicode/utf8.first", Rows.laid_unicode_utf8_first)] ((laidWorld os).forCall (fun _ _ => 0) ⟨#[], args, []⟩).memory :=
 laidMet_of_run3 10 (by kernel_rfl) (by kernel_rfl) (by kernel_rfl)
end Go.Proofs.YtmpcmpeloebnhaaGreatDoor
namespace Go.Proofs.YtmpcmpeloebnhaaGreatDoor
open Go.RowKit
theorem accept_eq : Lib.acceptData = Rows.laid_unicode_utf8_acceptRanges := by kernel_rfl
theorem u8tabs_of {l : List (String × DataW Unit)} {W : World} (h : laidMet Tryz.prog l W) (h1 : ("unicode/utf8.first", Rows.laid_unicode_utf8_first) ∈ l) (h2 : ("unicode/utf8.acceptRanges", Rows.laid_unicode_utf8_acceptRanges) ∈ l) : Lib.Utf8Tabs 2 3 W := by
 have r1 := Lib.laidMet.reads h h1
 have r2 := Lib.laidMet.reads h h2
 rw [← first_eq] at r1
 rw [← accept_eq] at r2
 exact utf8Tabs_of_reads (ρ := Tryz.lays260_ren) { Tryz.lays260 with } ⟨by kernel_rfl, by kernel_rfl, by kernel_rfl, by kernel_rfl, by kernel_rfl, by kernel_rfl, by kernel_rfl⟩ r1 r2
end Go.Proofs.YtmpcmpeloebnhaaGreatDoor
namespace Go.Proofs.YtmpcmpeloebnhaaGreatDoor
open Go.ChangeShapes Go.WideShapes Go.ChangeAt Go.RowKit
def paramsRowed (P : Program) (ts : List TypeId) : Bool := ts.all fun t => P.readableRec t && decide (t < P.types.size)
theorem below_trodAll {H : Type} {enc : TypeId × Value → H} {P : Program} (hl : laidOutB P = true) {W W' : World} (hb : Below W.heap.size W W') :
  ∀ {ts : List TypeId} {vs : List Value} {ds : List (DataW H)} {ps : List MemPlace}, paramsRowed P ts = true → DataW.TrodAll enc P W 0 (fun _ => true) true ts vs ds ps → (∀ x ∈ ps, x.block < W.heap.size) →
   DataW.TrodAll enc P W' 0 (fun b => decide (b < W.heap.size)) true ts vs ds ps
 | [], [], [], _, _, h, _ => h
 | [], _ :: _, _, _, _, h, _ => h.elim
 | [], [], _ :: _, _, _, h, _ => h.elim
 | _ :: _, [], _, _, _, h, _ => h.elim
 | _ :: _, _ :: _, [], _, _, h, _ => h.elim
 | t :: ts, v :: vs, d :: ds, ps, hr, h, hlt => by
  obtain ⟨p, q, h1, h2, rfl⟩ := h
  simp only [paramsRowed, List.all_cons, Bool.and_eq_true, decide_eq_true_eq] at hr
  exact ⟨p, q, Below.trod hl hr.1.1 hr.1.2 h1 hb (fun x hx => hlt x (List.mem_append_left _ hx)),
   below_trodAll hl hb (by simpa [paramsRowed] using hr.2) h2 (fun x hx => hlt x (List.mem_append_right _ hx)), rfl⟩
theorem law_post {H : Type} {enc : TypeId × Value → H} {P : Program} {f : Func} {s : ChangeSpec} {W W' : World} {args : Array Value} {ds gs : List (DataW H)} {before : List MemPlace} {tb : TypeId}
  (hl : laidOutB P = true) (hb : Below W.heap.size W W') (hpr : paramsRowed P f.params.toList = true) (hvars : s.vars = []) (hres : f.resultTypes = #[tb]) (htb : P.underlying tb = some .bool)
  (hfn : s.fn H ds = { results := [.lit (.bool true)], args := ds })
  (hW : DataW.Whole enc P f.params.toList s.vars false W args.toList ds gs before) : s.post enc P f false true false false W args (.bool true) W' := by
 have hW' := hW
 obtain ⟨p, q, hA, hV, rfl, _, _⟩ := hW
 rw [hvars] at hV
 obtain ⟨rfl, rfl⟩ := trodVars_none hV
 have hlt : ∀ x ∈ p, x.block < W.heap.size := fun x hx => hW'.lt x (List.mem_append_left _ hx)
 have e1 : s.fn H (ds ++ []) = { results := [.lit (.bool true)], args := ds } := by rw [List.append_nil]; exact hfn
 refine ⟨ds, [], p ++ [], [], p, [], hW', ?_, ?_, ?_, hb.frame _, fun h => by cases h⟩
 ·rw [e1, hres]
  exact trodAll_cons_mk (shut_bool htb true) trodAll_mk0
 ·rw [e1]
  exact below_trodAll hl hb hpr hA hlt
 ·rw [e1, hvars]
  exact rfl
end Go.Proofs.YtmpcmpeloebnhaaGreatDoor
