/- Parts of the proof: GRefA TrA. -/
import Derived.Test.YtmlmjopfbohglaaGreatDoorPg06
namespace Go.Proofs.YtmlmjopfbohglaaGreatDoor
open Go.RowKit
set_option maxRecDepth 100000 in
set_option maxHeartbeats 8000000 in
theorem set_any (op name:ByteArray) (n pos:Int) (a:Option Addr) (k cap:Nat) (w:World):Calls Tryz.prog 153 #[.agg #[.string op,.string name,.int .i64 n,.int .i64 pos,.slice a k cap]] w fun e w'=>e=.returned (.bool (isJoin op))∧Below w.heap.size w w':=by
 have hc5:=cellsNode
 by_cases o1:op.toList=[117,110,105,111,110]
 ·have e1:(op.toList == [117,110,105,111,110])=true:=by simp [o1]
  have HR:=Lib.hid (show isJoin op=true from by unfold isJoin;rw [e1];simp)
  clear o1
  go_enter Tryz.func153,Tryz.ntmps153
  go_wp2_with fail
  go_ret
  exact ⟨by rw [HR.out];rfl,below_box _ _⟩
 have e1:(op.toList == [117,110,105,111,110])=false:=by simp [o1]
 clear o1
 by_cases o2:op.toList=[105,110,116,101,114]
 ·have e2:(op.toList == [105,110,116,101,114])=true:=by simp [o2]
  have HR:=Lib.hid (show isJoin op=true from by unfold isJoin;rw [e1,e2];simp)
  clear o2
  go_enter Tryz.func153,Tryz.ntmps153
  go_wp2_with fail
  go_ret
  exact ⟨by rw [HR.out];rfl,below_box _ _⟩
 have e2:(op.toList == [105,110,116,101,114])=false:=by simp [o2]
 clear o2
 by_cases o3:op.toList=[109,105,110,117,115]
 ·have e3:(op.toList == [109,105,110,117,115])=true:=by simp [o3]
  have HR:=Lib.hid (show isJoin op=true from by unfold isJoin;rw [e1,e2,e3];simp)
  clear o3
  go_enter Tryz.func153,Tryz.ntmps153
  go_wp2_with fail
  go_ret
  exact ⟨by rw [HR.out];rfl,below_box _ _⟩
 have e3:(op.toList == [109,105,110,117,115])=false:=by simp [o3]
 clear o3
 have HR:=Lib.hid (show isJoin op=false from by unfold isJoin;rw [e1,e2,e3];rfl)
 go_enter Tryz.func153,Tryz.ntmps153
 go_wp2_with fail
 go_ret
 exact ⟨by rw [HR.out];rfl,below_box _ _⟩
def hasB (name:ByteArray) (n:Int) (len:Nat) (m:Int) (nm num:Bool):Bool:=decide ((len:Int)=m) && (nm || name.toList == []) && (num || decide (n=0)) && (!nm || nameB name)
abbrev UT (w:World):Prop:=Lib.Utf8Tabs 2 3 w
set_option maxRecDepth 100000 in
set_option maxHeartbeats 16000000 in
theorem rhas_any (op name:ByteArray) (n pos:Int) (a:Option Addr) (len cap:Nat) (m:Int) (nm num:Bool) (w:World) (hU:UT w) (hs:name.size≤140737488351232) :
  Calls Tryz.prog 88 #[.agg #[.string op,.string name,.int .i64 n,.int .i64 pos,.slice a len cap],.int .i64 m,.bool nm,.bool num] w fun e w'=>e=.returned (.bool (hasB name n len m nm num))∧Below w.heap.size w w':=by
 have hc5:=cellsNode
 have HC:=Lib.hid (isName_any name (w.alloc (boxOf op name n pos a len cap)) hs (Utf8Tabs_below hU (below_box _ _)))
 clear hU
 by_cases hl:(len:Int)=m
 ·have hl1:((len:Int) == m)=true:=by simp [hl]
  have HL:=Lib.hid hl
  clear hl
  cases nm with
  | true =>
   cases num with
   | true =>
    have HO:=Lib.hid (show hasB name n len m true true=nameB name from by unfold hasB;rw [decide_eq_true HL.out];simp)
    go_enter Tryz.func88,Tryz.ntmps88
    go_wp2_with fail
    refine HC.out.mono ?_
    rintro e w2 ⟨rfl,hb2⟩
    have hbb:=box_then hb2
    clear hb2 HC
    go_wp2_with fail
    go_ret
    exact ⟨by rw [HO.out];rfl,hbb⟩
   | false =>
    by_cases hn:n=0
    ·have hn1:(n == 0)=true:=by simp [hn]
     have HO:=Lib.hid (show hasB name n len m true false=nameB name from by unfold hasB;rw [decide_eq_true HL.out,decide_eq_true hn];simp)
     clear hn
     go_enter Tryz.func88,Tryz.ntmps88
     go_wp2_with fail
     refine HC.out.mono ?_
     rintro e w2 ⟨rfl,hb2⟩
     have hbb:=box_then hb2
     clear hb2 HC
     go_wp2_with fail
     go_ret
     exact ⟨by rw [HO.out];rfl,hbb⟩
    ·have hn1:(n == 0)=false:=by simp [hn]
     have HO:=Lib.hid (show hasB name n len m true false=false from by unfold hasB;rw [decide_eq_false hn];simp)
     clear HC
     go_enter Tryz.func88,Tryz.ntmps88
     go_wp2_with fail
     go_ret
     exact ⟨by rw [HO.out];rfl,below_box _ _⟩
  | false =>
   by_cases he:name.toList=[]
   ·have he1:(name.toList == [])=true:=by simp [he]
    have HE:=Lib.hid he
    clear he HC
    cases num with
    | true =>
     have HO:=Lib.hid (show hasB name n len m false true=true from by unfold hasB;rw [decide_eq_true HL.out];simp [HE.out])
     go_enter Tryz.func88,Tryz.ntmps88
     go_wp2_with fail
     go_ret
     exact ⟨by rw [HO.out];rfl,below_box _ _⟩
    | false =>
     by_cases hn:n=0
     ·have hn1:(n == 0)=true:=by simp [hn]
      have HO:=Lib.hid (show hasB name n len m false false=true from by unfold hasB;rw [decide_eq_true HL.out,decide_eq_true hn];simp [HE.out])
      clear hn
      go_enter Tryz.func88,Tryz.ntmps88
      go_wp2_with fail
      go_ret
      exact ⟨by rw [HO.out];rfl,below_box _ _⟩
     ·have hn1:(n == 0)=false:=by simp [hn]
      have HO:=Lib.hid (show hasB name n len m false false=false from by unfold hasB;rw [decide_eq_false hn];simp)
      go_enter Tryz.func88,Tryz.ntmps88
      go_wp2_with fail
      go_ret
      exact ⟨by rw [HO.out];rfl,below_box _ _⟩
   ·have he1:(name.toList == [])=false:=by simp [he]
    have HO:=Lib.hid (show hasB name n len m false num=false from by unfold hasB;simp [he])
    clear HC
    go_enter Tryz.func88,Tryz.ntmps88
    go_wp2_with fail
    go_ret
    exact ⟨by rw [HO.out];rfl,below_box _ _⟩
 ·have hl1:((len:Int) == m)=false:=by simp [hl]
  have HO:=Lib.hid (show hasB name n len m nm num=false from by unfold hasB;rw [decide_eq_false hl];simp)
  clear HC
  go_enter Tryz.func88,Tryz.ntmps88
  go_wp2_with fail
  go_ret
  exact ⟨by rw [HO.out];rfl,below_box _ _⟩
end Go.Proofs.YtmlmjopfbohglaaGreatDoor
namespace Go.Proofs.YtmlmjopfbohglaaGreatDoor
open Go.RowKit
def SayRT (T:Nd):Prop:=∀ w:World,UT w→T.In w→T.sized→Calls Tryz.prog 108 #[T.val] w fun e w'=>e=.returned (.bool T.okT)∧Below w.heap.size w w'
set_option maxRecDepth 100000 in
set_option maxHeartbeats 16000000 in
theorem terms_any (T:Nd) (w:World) (hU:UT w) (hin:T.In w) (hsz:T.sized) (hk:Fo.All SayRT T.kids):Calls Tryz.prog 90 #[T.val] w fun e w'=>e=.returned (.bool T.kids.sorts.t)∧Below w.heap.size w w':=by
 obtain ⟨op,name,n,pos,a,cap,kids⟩:=T
 have hc5:=cellsNode
 rw [sorts_t]
 obtain ⟨_,hks⟩:=hsz
 show Calls _ _ _ w fun e w'=>e=.returned (.bool (kids.allB Nd.okT))∧_
 have HU:=Lib.hid hU
 have HS:=Lib.hid hks
 have HK:=Lib.hid hk
 have HB:=Lib.hid (new_at w (boxOf op name n pos a kids.len cap))
 have HI:=Lib.hid hin
 clear hU hks hk hin
 rw [Nd.val_def]
 rcases HI.out with hnil | ⟨kb,ko,hab,hlim,hpos,hkin⟩
 ·obtain rfl:kids=.nil:=hnil
  have hz0:((Fo.nil.len:Nat):Int)=0:=rfl
  go_enter Tryz.func90,Tryz.ntmps90
  go_wp2_with fail
  go_loopw [3] (fun i wr=>i=.int .i64 0∧RowKit.Hid (wr.heap[w.heap.size]? = some (boxOf op name n pos a Fo.nil.len cap))∧Below w.heap.size w wr) (fun _ _=>0)
  case atStart=>exact ⟨rfl,HB,below_box _ _⟩
  case round =>
   obtain ⟨rfl,HX,hbx⟩:=hrel
   obtain ⟨b0,b1,b2,b3,b4⟩:=box_cells HX.out
   go_wp2_with fail
   go_ret
   exact ⟨rfl,hbx⟩
 ·obtain rfl:a=some ⟨kb,ko,none⟩:=hab
  have hlim:kids.len≤140737488351232:=hlim
  have HST:=Lib.hid (Tail.start hkin HK.out)
  clear hkin hpos
  go_enter Tryz.func90,Tryz.ntmps90
  go_wp2_with fail
  go_loopw [3] (fun i wr=>∃ (k:Nat) (R:Fo),i=.int .i64 k∧RowKit.Hid (Tail wr SayRT kids R kb ko k)∧RowKit.Hid (kids.allB Nd.okT=R.allB Nd.okT)∧RowKit.Hid R.sized∧RowKit.Hid (wr.heap[w.heap.size]? = some (boxOf op name n pos (some ⟨kb,ko,none⟩) kids.len cap))∧Below w.heap.size w wr) (fun i _=>kids.len - (intOf i).toNat)
  case atStart=>exact ⟨0,kids,rfl,Lib.hid (HST.out.below (below_box _ _)),Lib.hid rfl,HS,HB,below_box _ _⟩
  case round =>
   obtain ⟨k,R,rfl,HTL,HAL,HRS,HX,hbx⟩:=hrel
   obtain ⟨b0,b1,b2,b3,b4⟩:=box_cells HX.out
   cases R with
   | nil =>
    have hkl:k=kids.len:=by have:=HTL.out.len;simpa [Fo.len] using this
    subst hkl
    go_wp2_with fail
    go_ret
    exact ⟨by rw [HAL.out];rfl,hbx⟩
   | cons op1 name1 n1 pos1 a1 cap1 kids1 rest =>
    obtain ⟨hnode,hin1,hP,hkl,hnext⟩:=HTL.out.next
    have hkl2:(k:Int) < kids.len:=by omega
    obtain ⟨c0,c1,c2,c3,c4⟩:=hnode
    have HN1:=Lib.hid hnext
    have hcall:=hP wr (Utf8Tabs_below HU.out hbx) hin1 ⟨HRS.out.1,HRS.out.2.1⟩
    rw [Nd.val_def] at hcall
    have HCL:=Lib.hid hcall
    have HR2:=Lib.hid HRS.out.2.2
    clear hnext hin1 hP hcall HTL
    go_wp2_with fail
    refine HCL.out.mono ?_
    rintro e w3 ⟨rfl,hb3⟩
    have hbx2:=hbx.trans (hb3.mono hbx.size)
    have HX2:=Lib.hid ((hb3.block _ (lt_heap HX.out)).trans HX.out)
    have HN2:=Lib.hid (HN1.out.below hb3)
    clear hb3 HN1 HX HCL b0 b1 b2 b3 b4
    by_cases hp1:Nd.okT ⟨op1,name1,n1,pos1,a1,cap1,kids1⟩=true
    ·have HA2:=Lib.hid (show kids.allB Nd.okT=rest.allB Nd.okT from by rw [HAL.out];show (Nd.okT _ && rest.allB Nd.okT)=_;rw [hp1];rfl)
     rw [hp1]
     clear hp1
     go_wp2_with fail
     go_roundw
     case rel=>exact ⟨k+1,rest,by go_num,HN2,HA2,HR2,HX2,hbx2⟩
     case measure=>(try simp [intOf]);omega
    ·have hp2:Nd.okT ⟨op1,name1,n1,pos1,a1,cap1,kids1⟩=false:=by simpa using hp1
     have HA2:=Lib.hid (show kids.allB Nd.okT=false from by rw [HAL.out];show (Nd.okT _ && rest.allB Nd.okT)=_;rw [hp2];rfl)
     rw [hp2]
     clear hp1 hp2
     go_wp2_with fail
     go_ret
     exact ⟨by rw [HA2.out];rfl,hbx2⟩
def SayRF (T:Nd):Prop:=∀ w:World,UT w→T.In w→T.sized→Calls Tryz.prog 46 #[T.val] w fun e w'=>e=.returned (.bool T.okF)∧Below w.heap.size w w'
set_option maxRecDepth 100000 in
set_option maxHeartbeats 16000000 in
theorem formulas_any (T:Nd) (w:World) (hU:UT w) (hin:T.In w) (hsz:T.sized) (hk:Fo.All SayRF T.kids):Calls Tryz.prog 89 #[T.val] w fun e w'=>e=.returned (.bool T.kids.sorts.f)∧Below w.heap.size w w':=by
 obtain ⟨op,name,n,pos,a,cap,kids⟩:=T
 have hc5:=cellsNode
 rw [sorts_f]
 obtain ⟨_,hks⟩:=hsz
 show Calls _ _ _ w fun e w'=>e=.returned (.bool (kids.allB Nd.okF))∧_
 have HU:=Lib.hid hU
 have HS:=Lib.hid hks
 have HK:=Lib.hid hk
 have HB:=Lib.hid (new_at w (boxOf op name n pos a kids.len cap))
 have HI:=Lib.hid hin
 clear hU hks hk hin
 rw [Nd.val_def]
 rcases HI.out with hnil | ⟨kb,ko,hab,hlim,hpos,hkin⟩
 ·obtain rfl:kids=.nil:=hnil
  have hz0:((Fo.nil.len:Nat):Int)=0:=rfl
  go_enter Tryz.func89,Tryz.ntmps89
  go_wp2_with fail
  go_loopw [3] (fun i wr=>i=.int .i64 0∧RowKit.Hid (wr.heap[w.heap.size]? = some (boxOf op name n pos a Fo.nil.len cap))∧Below w.heap.size w wr) (fun _ _=>0)
  case atStart=>exact ⟨rfl,HB,below_box _ _⟩
  case round =>
   obtain ⟨rfl,HX,hbx⟩:=hrel
   obtain ⟨b0,b1,b2,b3,b4⟩:=box_cells HX.out
   go_wp2_with fail
   go_ret
   exact ⟨rfl,hbx⟩
 ·obtain rfl:a=some ⟨kb,ko,none⟩:=hab
  have hlim:kids.len≤140737488351232:=hlim
  have HST:=Lib.hid (Tail.start hkin HK.out)
  clear hkin hpos
  go_enter Tryz.func89,Tryz.ntmps89
  go_wp2_with fail
  go_loopw [3] (fun i wr=>∃ (k:Nat) (R:Fo),i=.int .i64 k∧RowKit.Hid (Tail wr SayRF kids R kb ko k)∧RowKit.Hid (kids.allB Nd.okF=R.allB Nd.okF)∧RowKit.Hid R.sized∧RowKit.Hid (wr.heap[w.heap.size]? = some (boxOf op name n pos (some ⟨kb,ko,none⟩) kids.len cap))∧Below w.heap.size w wr) (fun i _=>kids.len - (intOf i).toNat)
  case atStart=>exact ⟨0,kids,rfl,Lib.hid (HST.out.below (below_box _ _)),Lib.hid rfl,HS,HB,below_box _ _⟩
  case round =>
   obtain ⟨k,R,rfl,HTL,HAL,HRS,HX,hbx⟩:=hrel
   obtain ⟨b0,b1,b2,b3,b4⟩:=box_cells HX.out
   cases R with
   | nil =>
    have hkl:k=kids.len:=by have:=HTL.out.len;simpa [Fo.len] using this
    subst hkl
    go_wp2_with fail
    go_ret
    exact ⟨by rw [HAL.out];rfl,hbx⟩
   | cons op1 name1 n1 pos1 a1 cap1 kids1 rest =>
    obtain ⟨hnode,hin1,hP,hkl,hnext⟩:=HTL.out.next
    have hkl2:(k:Int) < kids.len:=by omega
    obtain ⟨c0,c1,c2,c3,c4⟩:=hnode
    have HN1:=Lib.hid hnext
    have hcall:=hP wr (Utf8Tabs_below HU.out hbx) hin1 ⟨HRS.out.1,HRS.out.2.1⟩
    rw [Nd.val_def] at hcall
    have HCL:=Lib.hid hcall
    have HR2:=Lib.hid HRS.out.2.2
    clear hnext hin1 hP hcall HTL
    go_wp2_with fail
    refine HCL.out.mono ?_
    rintro e w3 ⟨rfl,hb3⟩
    have hbx2:=hbx.trans (hb3.mono hbx.size)
    have HX2:=Lib.hid ((hb3.block _ (lt_heap HX.out)).trans HX.out)
    have HN2:=Lib.hid (HN1.out.below hb3)
    clear hb3 HN1 HX HCL b0 b1 b2 b3 b4
    by_cases hp1:Nd.okF ⟨op1,name1,n1,pos1,a1,cap1,kids1⟩=true
    ·have HA2:=Lib.hid (show kids.allB Nd.okF=rest.allB Nd.okF from by rw [HAL.out];show (Nd.okF _ && rest.allB Nd.okF)=_;rw [hp1];rfl)
     rw [hp1]
     clear hp1
     go_wp2_with fail
     go_roundw
     case rel=>exact ⟨k+1,rest,by go_num,HN2,HA2,HR2,HX2,hbx2⟩
     case measure=>(try simp [intOf]);omega
    ·have hp2:Nd.okF ⟨op1,name1,n1,pos1,a1,cap1,kids1⟩=false:=by simpa using hp1
     have HA2:=Lib.hid (show kids.allB Nd.okF=false from by rw [HAL.out];show (Nd.okF _ && rest.allB Nd.okF)=_;rw [hp2];rfl)
     rw [hp2]
     clear hp1 hp2
     go_wp2_with fail
     go_ret
     exact ⟨by rw [HA2.out];rfl,hbx2⟩
def SizePost (T:Nd) (m:Int) (w:World) (e:Ending) (w':World):Prop:=e=.returned (.int .i64 (min (T.size:Int) m))∧Below w.heap.size w w'
def SizeC (T:Nd):Prop:=∀ (m:Int) (w:World),1≤m→m≤2001→T.In w→Calls Tryz.prog 190 #[T.val,.int .i64 m] w (SizePost T m w)
set_option maxRecDepth 100000 in
set_option maxHeartbeats 4000000 in
theorem sizeUpTo_any (T:Nd):SizeC T:=by
 refine Nd.all_of (P:=SizeC) ?_ T
 rintro ⟨op,name,n,pos,a,cap,kids⟩ hk m w hm1 hm2 hin
 rw [Nd.val_def]
 unfold SizePost
 have hc5:=cellsNode
 have hsz:(Nd.mk op name n pos a cap kids).size=kids.size+1:=rfl
 rcases hin with hnil | ⟨b,o,hab,hlim,_,hin⟩
 ·obtain rfl:kids=.nil:=hnil
  show Calls _ _ #[.agg #[.string op,.string name,.int .i64 n,.int .i64 pos,.slice a 0 cap],.int .i64 m] w _
  have hr:min (((Nd.mk op name n pos a cap Fo.nil).size:Nat):Int) m=1:=by show min ((0+1:Nat):Int) m=1;omega
  rw [hr]
  clear hsz hk hr
  go_enter Tryz.func190,Tryz.ntmps190
  go_wp2
  go_loopw [5,11] (fun s i wr=>s=.int .i64 1∧i=.int .i64 0∧Below w.heap.size w wr) (fun _ _ _=>0)
  case atStart=>exact ⟨rfl,rfl,by first | exact (Below.refl _ _).alloc (Nat.le_refl _) _ | skip⟩
  case round =>
   obtain ⟨rfl,rfl,hbx⟩:=hrel
   go_wp2
   go_ret
   exact ⟨rfl,hbx⟩
 ·obtain rfl:a=some ⟨b,o,none⟩:=hab
  have hlim:kids.len≤140737488351232:=hlim
  show Calls _ _ #[.agg #[.string op,.string name,.int .i64 n,.int .i64 pos,.slice (some ⟨b,o,none⟩) kids.len cap],.int .i64 m] w _
  rw [hsz]
  have hst:=Tail.start hin hk
  clear hk hin hsz
  go_enter Tryz.func190,Tryz.ntmps190
  have HS:=Lib.hid hst
  clear hst
  go_wp2
  go_loopw [5,11] (fun s i wr=>∃ (k:Nat) (z:Int) (R:Fo),s=.int .i64 z∧i=.int .i64 k∧1≤z∧z≤m∧RowKit.Hid (min (z+R.size) m=min (((kids.size+1:Nat):Int)) m)∧RowKit.Hid (Tail wr SizeC kids R b o k)∧Below w.heap.size w wr) (fun _ i _=>kids.len - (intOf i).toNat)
  case atStart =>
   refine ⟨0,1,kids,rfl,rfl,by omega,hm1,Lib.hid (by congr 1;omega),Lib.hid (HS.out.below ((Below.refl _ _).alloc (Nat.le_refl _) _)),(Below.refl _ _).alloc (Nat.le_refl _) _⟩
  case round =>
   obtain ⟨k,z,R,rfl,rfl,hz1,hzm,HM,HT,hbx⟩:=hrel
   cases R with
   | nil =>
    have hkl:k=kids.len:=by have:=HT.out.len;simpa [Fo.len] using this
    have hres:min (((kids.size+1:Nat):Int)) m=z:=by rw [← HM.out];show min (z+((0:Nat):Int)) m=z;omega
    have HR:=Lib.hid hres
    subst hkl
    clear HM HT HS hres
    go_wp2
    go_ret
    exact ⟨by rw [HR.out];rfl,hbx⟩
   | cons op1 name1 n1 pos1 a1 cap1 kids1 rest =>
    obtain ⟨hnode,hin1,hP,hkl,hnext⟩:=HT.out.next
    have hkl':(k:Int) < kids.len:=by omega
    obtain ⟨c0,c1,c2,c3,c4⟩:=hnode
    have HN:=Lib.hid hnext
    have HI:=Lib.hid hin1
    have HP:=Lib.hid hP
    clear hnext hin1 hP HT HS
    by_cases hzz:z=m
    ·subst hzz
     have hres:min (((kids.size+1:Nat):Int)) z=z:=by rw [← HM.out];omega
     have HR:=Lib.hid hres
     clear HM hres HN HI HP
     go_wp2
     go_ret
     exact ⟨by rw [HR.out];rfl,by first | exact hbx.alloc hbx.size _ | exact hbx⟩
    ·have hzb:(z == m)=false:=by simpa using hzz
     have hzd:decide (z=m)=false:=by simpa using hzz
     have hzl:z < m:=by omega
     have hba:∀ ob,Below w.heap.size w (wr.alloc ob):=fun ob=>hbx.alloc hbx.size ob
     have HB:=Lib.hid hba
     clear hba
     go_wp2_with fail
     have hcall:=HP.out (m - z) (wr.alloc (.cells (nodeCells op1 name1 n1 pos1 a1 kids1.len cap1) 26)) (by omega) (by omega) (HI.out.below ((Below.refl _ _).alloc (Nat.le_refl _) _))
     rw [Nd.val_def] at hcall
     refine hcall.mono ?_
     rintro e w2 ⟨rfl,hb2⟩
     have hz1:(((Nd.mk op1 name1 n1 pos1 a1 cap1 kids1).size:Nat):Int)=kids1.size+1:=rfl
     have hbx2:=(HB.out _).trans (hb2.mono (HB.out _).size)
     generalize hy:min (((Nd.mk op1 name1 n1 pos1 a1 cap1 kids1).size:Nat):Int) (m - z)=y
     have hy0:0≤y∧y≤m - z:=by omega
     have HT2:=HN.out.below (((Below.refl _ _).alloc (Nat.le_refl _) _).trans (hb2.mono (by simp)))
     have HM2:min (z+y+(rest.size:Int)) m=min (((kids.size+1:Nat):Int)) m:=by
      rw [← HM.out]
      have:(((Fo.cons op1 name1 n1 pos1 a1 cap1 kids1 rest).size:Nat):Int)=kids1.size+1+rest.size:=rfl
      omega
     have HM3:=Lib.hid HM2
     have HT3:=Lib.hid HT2
     clear HM HP HI HN HM2 HT2 hcall hy hz1 HB hb2
     go_wp2
     go_roundw
     case rel=>exact ⟨k+1,z+y,rest,by go_num,by go_num,by omega,by omega,HM3,HT3,hbx2⟩
     case measure=>(try simp [intOf]);omega
end Go.Proofs.YtmlmjopfbohglaaGreatDoor
namespace Go.Proofs.YtmlmjopfbohglaaGreatDoor
open Go.RowKit
def RSizeC (T:Nd):Prop:=∀ (m:Int) (w:World),1≤m→m≤2001→T.In w→Calls Tryz.prog 44 #[T.val,.int .i64 m] w (SizePost T m w)
set_option maxRecDepth 100000 in
set_option maxHeartbeats 4000000 in
theorem rcount_any (T:Nd):RSizeC T:=by
 refine Nd.all_of (P:=RSizeC) ?_ T
 rintro ⟨op,name,n,pos,a,cap,kids⟩ hk m w hm1 hm2 hin
 rw [Nd.val_def]
 unfold SizePost
 have hc5:=cellsNode
 have hsz:(Nd.mk op name n pos a cap kids).size=kids.size+1:=rfl
 rcases hin with hnil | ⟨b,o,hab,hlim,_,hin⟩
 ·obtain rfl:kids=.nil:=hnil
  show Calls _ _ #[.agg #[.string op,.string name,.int .i64 n,.int .i64 pos,.slice a 0 cap],.int .i64 m] w _
  have hr:min (((Nd.mk op name n pos a cap Fo.nil).size:Nat):Int) m=1:=by show min ((0+1:Nat):Int) m=1;omega
  have hr2:min 1 m=1:=by omega
  rw [hr]
  clear hsz hk hr
  have hbc:=box_cell w op name n pos a 0 cap
  go_enter Tryz.func44,Tryz.ntmps44
  go_wp2
  go_loopw [5,6] (fun s i wr=>s=.int .i64 1∧i=.int .i64 0∧wr.cell? ⟨w.heap.size,4,none⟩=some (.slice a 0 cap)∧Below w.heap.size w wr) (fun _ _ _=>0)
  case atStart=>exact ⟨rfl,rfl,hbc,(Below.refl _ _).alloc (Nat.le_refl _) _⟩
  case round =>
   obtain ⟨rfl,rfl,hbc,hbx⟩:=hrel
   go_wp2
   go_ret
   exact ⟨rfl,hbx⟩
 ·obtain rfl:a=some ⟨b,o,none⟩:=hab
  have hlim:kids.len≤140737488351232:=hlim
  show Calls _ _ #[.agg #[.string op,.string name,.int .i64 n,.int .i64 pos,.slice (some ⟨b,o,none⟩) kids.len cap],.int .i64 m] w _
  rw [hsz]
  have hst:=Tail.start hin hk
  have hbc:=box_cell w op name n pos (some ⟨b,o,none⟩) kids.len cap
  have hs1:=alloc_size w (boxOf op name n pos (some ⟨b,o,none⟩) kids.len cap)
  have HBC:=Lib.hid hbc
  have HS1:=Lib.hid hs1
  clear hk hin hsz hbc hs1
  go_enter Tryz.func44,Tryz.ntmps44
  have HS:=Lib.hid hst
  clear hst
  go_wp2
  go_loopw [5,6] (fun s i wr=>∃ (k:Nat) (z:Int) (R:Fo),s=.int .i64 z∧i=.int .i64 k∧1≤z∧z≤m∧RowKit.Hid (min (z+R.size) m=min (((kids.size+1:Nat):Int)) m)∧RowKit.Hid (Tail wr RSizeC kids R b o k)∧RowKit.Hid (wr.cell? ⟨w.heap.size,4,none⟩=some (.slice (some ⟨b,o,none⟩) kids.len cap))∧w.heap.size < wr.heap.size∧Below w.heap.size w wr) (fun _ i _=>kids.len - (intOf i).toNat)
  case atStart =>
   refine ⟨0,1,kids,rfl,rfl,by omega,hm1,Lib.hid (by congr 1;omega),Lib.hid (HS.out.below ((Below.refl _ _).alloc (Nat.le_refl _) _)),HBC,by rw [alloc_size];omega,(Below.refl _ _).alloc (Nat.le_refl _) _⟩
  case round =>
   obtain ⟨k,z,R,rfl,rfl,hz1,hzm,HM,HT,HBX,hsx,hbx⟩:=hrel
   have hbox:=HBX.out
   cases R with
   | nil =>
    have hkl:k=kids.len:=by have:=HT.out.len;simpa [Fo.len] using this
    have hres:min (((kids.size+1:Nat):Int)) m=z:=by rw [← HM.out];show min (z+((0:Nat):Int)) m=z;omega
    have hres2:min z m=z:=by omega
    have HR:=Lib.hid hres
    subst hkl
    clear HM HT HS hres HBX HBC HS1
    go_wp2
    go_ret
    exact ⟨by rw [HR.out];rfl,hbx⟩
   | cons op1 name1 n1 pos1 a1 cap1 kids1 rest =>
    obtain ⟨hnode,hin1,hP,hkl,hnext⟩:=HT.out.next
    have hkl':(k:Int) < kids.len:=by omega
    obtain ⟨c0,c1,c2,c3,c4⟩:=hnode
    have HN:=Lib.hid hnext
    have HI:=Lib.hid hin1
    have HP:=Lib.hid hP
    clear hnext hin1 hP HT HS HBC HS1
    by_cases hzz:z=m
    ·subst hzz
     have hres:min (((kids.size+1:Nat):Int)) z=z:=by rw [← HM.out];omega
     have hres2:min z z=z:=by omega
     have HR:=Lib.hid hres
     clear HM hres HN HI HP HBX
     go_wp2
     go_ret
     exact ⟨by rw [HR.out];rfl,hbx⟩
    ·have hzl:z < m:=by omega
     have hcall:=HP.out (m - z) wr (by omega) (by omega) HI.out
     rw [Nd.val_def] at hcall
     have HC:=Lib.hid hcall
     clear hcall HP
     go_wp2_with fail
     refine HC.out.mono ?_
     rintro e w2 ⟨rfl,hb2⟩
     have hz1:(((Nd.mk op1 name1 n1 pos1 a1 cap1 kids1).size:Nat):Int)=kids1.size+1:=rfl
     have hbx2:=hbx.trans (hb2.mono hbx.size)
     generalize hy:min (((Nd.mk op1 name1 n1 pos1 a1 cap1 kids1).size:Nat):Int) (m - z)=y
     have hy0:0≤y∧y≤m - z:=by omega
     have HT2:=HN.out.below hb2
     have HX2:=cell_below hb2 HBX.out
     have hsx2:w.heap.size < w2.heap.size:=Nat.lt_of_lt_of_le hsx hb2.size
     have HM2:min (z+y+(rest.size:Int)) m=min (((kids.size+1:Nat):Int)) m:=by
      rw [← HM.out]
      have:(((Fo.cons op1 name1 n1 pos1 a1 cap1 kids1 rest).size:Nat):Int)=kids1.size+1+rest.size:=rfl
      omega
     have HM3:=Lib.hid HM2
     have HT3:=Lib.hid HT2
     have HX3:=Lib.hid HX2
     clear HM HI HN HM2 HT2 HX2 HC hy hz1 hb2 HBX hbox
     go_wp2
     go_roundw
     case rel=>exact ⟨k+1,z+y,rest,by go_num,by go_num,by omega,by omega,HM3,HT3,HX3,hsx2,hbx2⟩
     case measure=>(try simp [intOf]);omega
end Go.Proofs.YtmlmjopfbohglaaGreatDoor
namespace Go.Proofs.YtmlmjopfbohglaaGreatDoor
open Go.RowKit
def Fo.deep:Fo→Nat
 | .nil=>0
 | .cons _ _ _ _ _ _ k r=>max (k.deep+1) r.deep
def Nd.deep (T:Nd):Nat:=T.kids.deep+1
def DeepPost (T:Nd) (m:Int) (w:World) (e:Ending) (w':World):Prop:=e=.returned (.int .i64 (min (T.deep:Int) m))∧Below w.heap.size w w'
def RDeepC (T:Nd):Prop:=∀ (m:Int) (w:World),1≤m→m≤31→T.In w→Calls Tryz.prog 91 #[T.val,.int .i64 m] w (DeepPost T m w)
set_option maxRecDepth 100000 in
set_option maxHeartbeats 4000000 in
theorem rdeep_any (T:Nd):RDeepC T:=by
 refine Nd.all_of (P:=RDeepC) ?_ T
 rintro ⟨op,name,n,pos,a,cap,kids⟩ hk m w hm1 hm2 hin
 rw [Nd.val_def]
 unfold DeepPost
 have hc5:=cellsNode
 have hdp:(Nd.mk op name n pos a cap kids).deep=kids.deep+1:=rfl
 by_cases hm:m=1
 ·subst hm
  have hr:min (((Nd.mk op name n pos a cap kids).deep:Nat):Int) 1=1:=by rw [hdp];omega
  rw [hr]
  clear hdp hr hk hin
  show Calls _ _ #[.agg #[.string op,.string name,.int .i64 n,.int .i64 pos,.slice a kids.len cap],.int .i64 1] w _
  go_enter Tryz.func91,Tryz.ntmps91
  go_wp2
  go_ret
  exact ⟨rfl,(Below.refl _ _).alloc (Nat.le_refl _) _⟩
 have hm3:2≤m:=by omega
 clear hm
 rcases hin with hnil | ⟨b,o,hab,hlim,_,hin⟩
 ·obtain rfl:kids=.nil:=hnil
  show Calls _ _ #[.agg #[.string op,.string name,.int .i64 n,.int .i64 pos,.slice a 0 cap],.int .i64 m] w _
  have hr:min (((Nd.mk op name n pos a cap Fo.nil).deep:Nat):Int) m=1:=by show min ((0+1:Nat):Int) m=1;omega
  rw [hr]
  clear hdp hk hr
  have hbc:=box_cell w op name n pos a 0 cap
  go_enter Tryz.func91,Tryz.ntmps91
  go_wp2
  go_loopw [5,6] (fun s i wr=>s=.int .i64 0∧i=.int .i64 0∧wr.cell? ⟨w.heap.size,4,none⟩=some (.slice a 0 cap)∧Below w.heap.size w wr) (fun _ _ _=>0)
  case atStart=>exact ⟨rfl,rfl,hbc,(Below.refl _ _).alloc (Nat.le_refl _) _⟩
  case round =>
   obtain ⟨rfl,rfl,hbc,hbx⟩:=hrel
   go_wp2
   go_ret
   exact ⟨rfl,hbx⟩
 ·obtain rfl:a=some ⟨b,o,none⟩:=hab
  have hlim:kids.len≤140737488351232:=hlim
  show Calls _ _ #[.agg #[.string op,.string name,.int .i64 n,.int .i64 pos,.slice (some ⟨b,o,none⟩) kids.len cap],.int .i64 m] w _
  rw [hdp]
  have hst:=Tail.start hin hk
  have hbc:=box_cell w op name n pos (some ⟨b,o,none⟩) kids.len cap
  have HBC:=Lib.hid hbc
  clear hk hin hdp hbc
  go_enter Tryz.func91,Tryz.ntmps91
  have HS:=Lib.hid hst
  clear hst
  go_wp2
  go_loopw [5,6] (fun s i wr=>∃ (k:Nat) (z:Int) (R:Fo),s=.int .i64 z∧i=.int .i64 k∧0≤z∧z≤m - 1∧RowKit.Hid (max z (min R.deep (m - 1))=min (kids.deep:Int) (m - 1))∧RowKit.Hid (Tail wr RDeepC kids R b o k)∧RowKit.Hid (wr.cell? ⟨w.heap.size,4,none⟩=some (.slice (some ⟨b,o,none⟩) kids.len cap))∧w.heap.size < wr.heap.size∧Below w.heap.size w wr) (fun _ i _=>kids.len - (intOf i).toNat)
  case atStart =>
   refine ⟨0,0,kids,rfl,rfl,by omega,by omega,Lib.hid (by omega),Lib.hid (HS.out.below ((Below.refl _ _).alloc (Nat.le_refl _) _)),HBC,by rw [alloc_size];omega,(Below.refl _ _).alloc (Nat.le_refl _) _⟩
  case round =>
   obtain ⟨k,z,R,rfl,rfl,hz1,hzm,HM,HT,HBX,hsx,hbx⟩:=hrel
   have hbox:=HBX.out
   cases R with
   | nil =>
    have hkl:k=kids.len:=by have:=HT.out.len;simpa [Fo.len] using this
    have hres:min (((kids.deep+1:Nat):Int)) m=z+1:=by
     have h1:=HM.out
     have h2:max z (min ((0:Nat):Int) (m - 1))=min (kids.deep:Int) (m - 1):=h1
     omega
    have HR:=Lib.hid hres
    subst hkl
    clear HM HT HS hres HBX HBC
    go_wp2
    go_ret
    exact ⟨by rw [HR.out];rfl,hbx⟩
   | cons op1 name1 n1 pos1 a1 cap1 kids1 rest =>
    obtain ⟨hnode,hin1,hP,hkl,hnext⟩:=HT.out.next
    have hkl':(k:Int) < kids.len:=by omega
    obtain ⟨c0,c1,c2,c3,c4⟩:=hnode
    have HN:=Lib.hid hnext
    have hcall:=hP (m - 1) wr (by omega) (by omega) hin1
    rw [Nd.val_def] at hcall
    have HC:=Lib.hid hcall
    clear hcall hP hnext hin1 HT HS HBC
    go_wp2_with fail
    refine HC.out.mono ?_
    rintro e w2 ⟨rfl,hb2⟩
    have hbx2:=hbx.trans (hb2.mono hbx.size)
    have hd1:(((Nd.mk op1 name1 n1 pos1 a1 cap1 kids1).deep:Nat):Int)=kids1.deep+1:=rfl
    generalize hy:min (((Nd.mk op1 name1 n1 pos1 a1 cap1 kids1).deep:Nat):Int) (m - 1)=y
    have hy0:0≤y∧y≤m - 1:=by omega
    have HT2:=HN.out.below hb2
    have HX2:=cell_below hb2 HBX.out
    have hsx2:w.heap.size < w2.heap.size:=Nat.lt_of_lt_of_le hsx hb2.size
    have HM2:max (max z y) (min (rest.deep:Int) (m - 1))=min (kids.deep:Int) (m - 1):=by
     rw [← HM.out]
     have:(((Fo.cons op1 name1 n1 pos1 a1 cap1 kids1 rest).deep:Nat):Int)=max ((kids1.deep:Int)+1) (rest.deep:Int):=by show ((max (kids1.deep+1) rest.deep:Nat):Int)=_;omega
     omega
    have HM3:=Lib.hid HM2
    have HT3:=Lib.hid HT2
    have HX3:=Lib.hid HX2
    clear HM HN HM2 HT2 HX2 HC hy hd1 hb2 HBX hbox
    have hmx:0≤max z y∧max z y≤m - 1:=by omega
    go_wp2
    go_roundw
    case rel=>exact ⟨k+1,max z y,rest,by go_num,by go_num,by omega,by omega,HM3,HT3,HX3,hsx2,hbx2⟩
    case measure=>(try simp [intOf]);omega
end Go.Proofs.YtmlmjopfbohglaaGreatDoor
