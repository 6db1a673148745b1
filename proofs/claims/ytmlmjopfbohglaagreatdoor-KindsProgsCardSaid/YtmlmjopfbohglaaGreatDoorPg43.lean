/- Parts of the proof: KR KU. -/
import Derived.Test.YtmlmjopfbohglaaGreatDoorPg26
namespace Go.Proofs.YtmlmjopfbohglaaGreatDoor
open Go.RowKit
open Go.Maps
theorem wrap_m {d:Int} (h0 : -9223372036854775807≤d) (h:d≤9223372036854775807):IntKind.wrap .i64 (d - 1)=d - 1:=by
 simp [IntKind.wrap,IntKind.bits,IntKind.signed]
 omega
set_option maxRecDepth 100000 in
set_option maxHeartbeats 16000000 in
theorem rorder_any (l:List Dc) (a:Option Addr) (cap:Nat) (name:ByteArray) (w:World) (h:DcsIn w a l) (hl:l.length≤1000000) :
  Calls Tryz.prog 101 #[.slice a l.length cap,.string name] w fun e w'=>e=.returned (.int .i64 (ordD l name))∧Below w.heap.size w w':=by
 have hc3:=cellsDecl
 obtain ⟨q0,hq0⟩:∃ q0,q0=ordD l name:=⟨_,rfl⟩
 rw [← hq0]
 have hw0:IntKind.wrap .i64 ((l.length:Int) - 1)=(l.length:Int) - 1:=wrap_m (by omega) (by omega)
 have HD:RowKit.Hid (l=[]∨∃ b o,a=some ⟨b,o,none⟩∧∀ i d,l[i]? = some d→DcAt w b (o+i * 3) d):=Lib.hid (by
  rcases h with h | ⟨b,o,h1,h2,h3,h4⟩
  ·exact .inl h
  ·exact .inr ⟨b,o,h1,h3⟩)
 have HQ:=Lib.hid (show q0=ordD (l.take l.length) name from by rw [List.take_length];exact hq0)
 clear h hq0
 go_enter Tryz.func101,Tryz.ntmps101
 go_wp2_with fail
 go_loopw [5] (fun i wr=>∃ k:Nat,i=.int .i64 ((k:Int) - 1)∧k≤l.length∧RowKit.Hid (q0=ordD (l.take k) name)∧Below w.heap.size w wr) (fun i _=>(intOf i+1).toNat)
 case atStart=>exact ⟨l.length,rfl,Nat.le_refl _,HQ,Below.refl _ _⟩
 case round =>
  obtain ⟨k,rfl,hk,HL,hbx⟩:=hrel
  cases k with
  | zero =>
   have hneg:¬ (0:Int)≤((0:Nat):Int) - 1:=by omega
   have hz:q0 = -1:=HL.out
   subst hz
   go_wp2_with fail
   go_ret
   exact ⟨rfl,hbx⟩
  | succ k =>
   have hkl:k < l.length:=by omega
   have hkz:(((k+1:Nat):Int) - 1)=(k:Int):=by omega
   rcases HD.out with hnil | ⟨b,o,hab,hat⟩
   ·rw [hnil] at hkl;cases hkl
   ·subst hab
    have hg:=List.getElem?_eq_getElem hkl
    obtain ⟨c0,c1,c2⟩:=(hat k (l[k]'hkl) hg).below hbx
    have htk:l.take (k+1)=l.take k ++ [l[k]'hkl]:=by rw [List.take_add_one,hg];rfl
    clear hg hat
    generalize (l[k]'hkl)=d at c0 c1 c2 htk
    have hod:q0=(if name=d.name then d.order else ordD (l.take k) name):=by rw [HL.out,htk,ordD_snoc];rfl
    obtain ⟨nm,od,po⟩:=d
    simp only [] at c0 c1 c2 hod
    have hi0:(0:Int)≤(k:Int):=by omega
    have hi1:(k:Int) < (l.length:Int):=by omega
    have hw1:IntKind.wrap .i64 ((k:Int) - 1)=(k:Int) - 1:=wrap_m (by omega) (by omega)
    rw [hkz]
    clear htk HL
    by_cases hn:nm=name
    ·have hz:q0=od:=by rw [hod,if_pos hn.symm]
     subst hz
     subst hn
     clear hod
     go_wp2_with fail
     go_ret
     exact ⟨rfl,hbx⟩
    ·have HL2:=Lib.hid (show q0=ordD (l.take k) name from by rw [hod,if_neg (fun e=>hn e.symm)])
     have hnb:(nm.toList == name.toList)=false:=by
      rw [beq_eq_false_iff_ne]
      intro e
      rw [Lib.toList_data,Lib.toList_data] at e
      exact hn (ByteArray.ext (Array.toList_inj.1 e))
     clear hod
     go_wp2_with fail
     go_roundw
     case rel=>exact ⟨k,rfl,by omega,HL2,hbx⟩
     case measure=>simp [intOf]
def SayRk (ds:List Dc) (da:Option Addr) (dc:Nat) (T:Nd):Prop:=∀ w:World,DcsIn w da ds→T.In w→T.sized→T.okT=true→Calls Tryz.prog 148 #[.slice da ds.length dc,T.val] w fun e w'=>e=.returned (.tuple #[.int .i64 (T.kd (ordD ds)).k,.int .i64 (T.kd (ordD ds)).pos,.int .i64 (T.kd (ordD ds)).e])∧Below w.heap.size w w'
def Fo.alG (O:ByteArray→Int) (want:Int) (plus:Bool) (pos:Int):Fo→Int × Int
 | .nil=>(0,0)
 | .cons op name n p a cap kids rest=>mustK want (Nd.kd O ⟨op,name,n,p,a,cap,kids⟩) (if plus then pos else p) (rest.alG O want plus pos)
theorem alG_al (O:ByteArray→Int) (want pos:Int) (F:Fo):F.alG O want false pos=F.al O want:=by
 induction F with
 | nil=>rfl
 | cons op name n p a cap kids rest ihk ihr=>show mustK want _ (if false=true then pos else p) (rest.alG O want false pos)=mustK want _ p (rest.al O want);rw [ihr];rfl
set_option maxRecDepth 100000 in
set_option maxHeartbeats 16000000 in
theorem rk_var_no (op name:ByteArray) (n pos:Int) (a:Option Addr) (cap:Nat) (kids:Fo) (w:World) (ds:List Dc) (da:Option Addr) (dc:Nat) (hd:DcsIn w da ds) (_hdl:ds.length≤1000000) (h0:(op.toList == [118,97,114])=true) (hn:ordD ds name < 0) :
  Calls Tryz.prog 148 #[.slice da ds.length dc,.agg #[.string op,.string name,.int .i64 n,.int .i64 pos,.slice a kids.len cap]] w fun e w'=>e=.returned (.tuple #[.int .i64 0,.int .i64 pos,.int .i64 5])∧Below w.heap.size w w':=by
 have hc5:=cellsNode
 have HW:=Lib.hid (below_box w (boxOf op name n pos a kids.len cap))
 have HB:=Lib.hid (new_at w (boxOf op name n pos a kids.len cap))
 obtain ⟨b0,b1,b2,b3,b4⟩:=box_cells HB.out
 have HC:=Lib.hid (rorder_any ds da dc name _ (hd.below HW.out) _hdl)
 generalize ordD ds name=k at HC hn
 clear hd
 go_enter Tryz.func148,Tryz.ntmps148
 go_wp2_with fail
 refine HC.out.mono ?_
 rintro e w2 ⟨rfl,hb2⟩
 have hbb:=HW.out.trans (hb2.mono HW.out.size)
 obtain ⟨b0,b1,b2,b3,b4⟩:=box_cells ((hb2.block _ (lt_heap HB.out)).trans HB.out)
 clear hb2 HC
 go_wp2_with fail
 go_region
 all_goals
  go_wp2_with fail
  go_ret3
  exact ⟨rfl,(by repeat (with_reducible first | exact hbb | refine Below.drew ?_))⟩
set_option maxRecDepth 100000 in
set_option maxHeartbeats 16000000 in
theorem rk_var_yes (op name:ByteArray) (n pos:Int) (a:Option Addr) (cap:Nat) (kids:Fo) (w:World) (ds:List Dc) (da:Option Addr) (dc:Nat) (hd:DcsIn w da ds) (_hdl:ds.length≤1000000) (h0:(op.toList == [118,97,114])=true) (hn:¬ ordD ds name < 0) :
  Calls Tryz.prog 148 #[.slice da ds.length dc,.agg #[.string op,.string name,.int .i64 n,.int .i64 pos,.slice a kids.len cap]] w fun e w'=>e=.returned (.tuple #[.int .i64 (ordD ds name),.int .i64 0,.int .i64 0])∧Below w.heap.size w w':=by
 have hc5:=cellsNode
 have HW:=Lib.hid (below_box w (boxOf op name n pos a kids.len cap))
 have HB:=Lib.hid (new_at w (boxOf op name n pos a kids.len cap))
 obtain ⟨b0,b1,b2,b3,b4⟩:=box_cells HB.out
 have HC:=Lib.hid (rorder_any ds da dc name _ (hd.below HW.out) _hdl)
 generalize ordD ds name=k at HC hn ⊢
 clear hd
 go_enter Tryz.func148,Tryz.ntmps148
 go_wp2_with fail
 refine HC.out.mono ?_
 rintro e w2 ⟨rfl,hb2⟩
 have hbb:=HW.out.trans (hb2.mono HW.out.size)
 obtain ⟨b0,b1,b2,b3,b4⟩:=box_cells ((hb2.block _ (lt_heap HB.out)).trans HB.out)
 clear hb2 HC
 go_wp2_with fail
 go_ret3
 exact ⟨rfl,hbb⟩
set_option maxRecDepth 100000 in
set_option maxHeartbeats 16000000 in
theorem rk_num (op name:ByteArray) (n pos:Int) (a:Option Addr) (cap:Nat) (kids:Fo) (w:World) (ds:List Dc) (da:Option Addr) (dc:Nat) (hd:DcsIn w da ds) (_hdl:ds.length≤1000000) (h0:(op.toList == [118,97,114])=false) (h1:(op.toList == [110,117,109])=true) :
  Calls Tryz.prog 148 #[.slice da ds.length dc,.agg #[.string op,.string name,.int .i64 n,.int .i64 pos,.slice a kids.len cap]] w fun e w'=>e=.returned (.tuple #[.int .i64 1,.int .i64 0,.int .i64 0])∧Below w.heap.size w w':=by
 have hc5:=cellsNode
 have HW:=Lib.hid (below_box w (boxOf op name n pos a kids.len cap))
 have HB:=Lib.hid (new_at w (boxOf op name n pos a kids.len cap))
 obtain ⟨b0,b1,b2,b3,b4⟩:=box_cells HB.out
 have _:=hd
 go_enter Tryz.func148,Tryz.ntmps148
 go_wp2_with fail
 go_ret3
 exact ⟨rfl,HW.out⟩
set_option maxRecDepth 100000 in
set_option maxHeartbeats 16000000 in
theorem rk_plus (op name:ByteArray) (n pos:Int) (a:Option Addr) (cap:Nat) (kids:Fo) (w:World) (ds:List Dc) (da:Option Addr) (dc:Nat) (hd:DcsIn w da ds) (_hdl:ds.length≤1000000) (h0:(op.toList == [118,97,114])=false) (h1:(op.toList == [110,117,109])=false) (h2:(op.toList == [112,108,117,115])=true) (h3:(op.toList == [115,101,116])=false) (hin:KidsIn w a kids) (hsz:kids.sized) (hok:kids.allB Nd.okT=true) (hk:Fo.All (SayRk ds da dc) kids) (rv:Value) (hrv:rv=(if (kids.alG (ordD ds) 1 true pos).2=0 then .tuple #[.int .i64 1,.int .i64 0,.int .i64 0] else .tuple #[.int .i64 0,.int .i64 (kids.alG (ordD ds) 1 true pos).1,.int .i64 (kids.alG (ordD ds) 1 true pos).2])) :
  Calls Tryz.prog 148 #[.slice da ds.length dc,.agg #[.string op,.string name,.int .i64 n,.int .i64 pos,.slice a kids.len cap]] w fun e w'=>e=.returned rv∧Below w.heap.size w w':=by
 have hc5:=cellsNode
 have HW:=Lib.hid (below_box w (boxOf op name n pos a kids.len cap))
 have HB:=Lib.hid (new_at w (boxOf op name n pos a kids.len cap))
 obtain ⟨b0,b1,b2,b3,b4⟩:=box_cells HB.out
 have HD:=Lib.hid hd
 have HSZ:=Lib.hid hsz
 have HOK:=Lib.hid hok
 obtain ⟨q0,hq0⟩:∃ q0,q0=kids.alG (ordD ds) 1 true pos:=⟨_,rfl⟩
 rw [← hq0] at hrv
 have HRV:=Lib.hid hrv
 have HQ:=Lib.hid hq0
 clear hd hsz hok hrv hq0
 rcases hin with hnil | ⟨kb,ko,hab,hlim,hpos,hkin⟩
 ·subst hnil
  have hz0:((Fo.nil.len:Nat):Int)=0:=rfl
  have hz:q0=(0,0):=HQ.out
  have HR2:=Lib.hid (show rv=.tuple #[.int .i64 1,.int .i64 0,.int .i64 0] from by rw [HRV.out,hz,if_pos rfl])
  clear hz HQ HRV hk
  go_enter Tryz.func148,Tryz.ntmps148
  go_wp2_with fail
  go_loopw [10] (fun i wr=>i=.int .i64 0∧RowKit.Hid (wr.heap[w.heap.size]? = some (boxOf op name n pos a Fo.nil.len cap))∧Below w.heap.size w wr) (fun _ _=>0)
  case atStart=>exact ⟨rfl,HB,HW.out⟩
  case round =>
   obtain ⟨rfl,HX,hbx⟩:=hrel
   clear b0 b1 b2 b3 b4
   obtain ⟨b0,b1,b2,b3,b4⟩:=box_cells HX.out
   go_wp2_with fail
   go_ret3
   exact ⟨by rw [HR2.out];rfl,hbx⟩
 ·subst hab
  have HST:=Lib.hid (Tail.start (hkin.below HW.out) hk)
  clear hkin hpos hk
  go_enter Tryz.func148,Tryz.ntmps148
  go_wp2_with fail
  go_loopw [10] (fun i wr=>∃ (k:Nat) (R:Fo),i=.int .i64 k∧RowKit.Hid (Tail wr (SayRk ds da dc) kids R kb ko k)∧RowKit.Hid (q0=R.alG (ordD ds) 1 true pos)∧RowKit.Hid (R.allB Nd.okT=true)∧RowKit.Hid R.sized∧RowKit.Hid (wr.heap[w.heap.size]? = some (boxOf op name n pos (some ⟨kb,ko,none⟩) kids.len cap))∧Below w.heap.size w wr) (fun i _=>kids.len - (intOf i).toNat)
  case atStart=>exact ⟨0,kids,rfl,HST,HQ,HOK,HSZ,HB,HW.out⟩
  case round =>
   obtain ⟨k,R,rfl,HTL,HAL,HKO,HRS,HX,hbx⟩:=hrel
   clear b0 b1 b2 b3 b4
   obtain ⟨b0,b1,b2,b3,b4⟩:=box_cells HX.out
   cases R with
   | nil =>
    have hkl:k=kids.len:=by have:=HTL.out.len;simpa [Fo.len] using this
    subst hkl
    have hz:q0=(0,0):=HAL.out
    have HR2:=Lib.hid (show rv=.tuple #[.int .i64 1,.int .i64 0,.int .i64 0] from by rw [HRV.out,hz,if_pos rfl])
    clear hz
    go_wp2_with fail
    go_ret3
    exact ⟨by rw [HR2.out];rfl,hbx⟩
   | cons op1 name1 n1 pos1 a1 cap1 kids1 rest =>
    obtain ⟨hnode,hin1,hP,hkl,hnext⟩:=HTL.out.next
    have hkl2:(k:Int) < kids.len:=by omega
    have hkl0:(0:Int)≤k:=by omega
    obtain ⟨c0,c1,c2,c3,c4⟩:=hnode
    have HN1:=Lib.hid hnext
    have hok2:(Nd.okT ⟨op1,name1,n1,pos1,a1,cap1,kids1⟩ && rest.allB Nd.okT)=true:=HKO.out
    rw [Bool.and_eq_true] at hok2
    have hcall:=hP wr (HD.out.below hbx) hin1 ⟨HRS.out.1,HRS.out.2.1⟩ hok2.1
    rw [Nd.val_def] at hcall
    have hal:q0=mustK 1 (Nd.kd (ordD ds) ⟨op1,name1,n1,pos1,a1,cap1,kids1⟩) pos (rest.alG (ordD ds) 1 true pos):=HAL.out
    generalize Nd.kd (ordD ds) ⟨op1,name1,n1,pos1,a1,cap1,kids1⟩=r at hcall hal
    obtain ⟨rk,rp,re⟩:=r
    simp only [] at hcall hal
    have HCL:=Lib.hid hcall
    have HR2':=Lib.hid HRS.out.2.2
    have HK2:=Lib.hid hok2.2
    clear hnext hin1 hP hcall HTL hok2 HAL
    by_cases he:re=0
    ·subst he
     by_cases hkk:rk=1
     ·have HA2:=Lib.hid (show q0=rest.alG (ordD ds) 1 true pos from by rw [hal];unfold mustK;rw [if_pos rfl,if_pos hkk])
      clear hal
      subst hkk
      go_wp2_with fail
      refine HCL.out.mono ?_
      rintro e w3 ⟨rfl,hb3⟩
      have hbx2:=hbx.trans (hb3.mono hbx.size)
      have HX2:=Lib.hid ((hb3.block _ (lt_heap HX.out)).trans HX.out)
      have HN2:=Lib.hid (HN1.out.below hb3)
      clear hb3 HN1 HX HCL b0 b1 b2 b3 b4 c0 c1 c2 c3 c4
      go_wp2_with fail
      go_roundw
      case rel=>exact ⟨k+1,rest,by go_num,HN2,HA2,HK2,HR2',HX2,hbx2⟩
      case measure=>(try simp [intOf]);omega
     ·have hz:q0=(pos,7):=by rw [hal];unfold mustK;rw [if_pos rfl,if_neg hkk]
      have HR3:=Lib.hid (show rv=.tuple #[.int .i64 0,.int .i64 pos,.int .i64 7] from by rw [HRV.out,hz];rfl)
      have hkb:(rk != 1)=true:=by simp [hkk]
      clear hal hz hkk
      go_wp2_with fail
      refine HCL.out.mono ?_
      rintro e w3 ⟨rfl,hb3⟩
      have hbx2:=hbx.trans (hb3.mono hbx.size)
      replace b0:=cell_below hb3 b0
      replace b3:=cell_below hb3 b3
      replace b4:=cell_below hb3 b4
      replace c3:=cell_below hb3 c3
      clear hb3 HCL
      go_wp2_with fail
      go_ret3
      exact ⟨by rw [HR3.out];rfl,hbx2⟩
    ·have hz:q0=(rp,re):=by rw [hal];unfold mustK;rw [if_neg he]
     have HR3:=Lib.hid (show rv=.tuple #[.int .i64 0,.int .i64 rp,.int .i64 re] from by rw [HRV.out,hz,if_neg he])
     have heb:(re != 0)=true:=by simp [he]
     clear hal hz he
     go_wp2_with fail
     refine HCL.out.mono ?_
     rintro e w3 ⟨rfl,hb3⟩
     have hbx2:=hbx.trans (hb3.mono hbx.size)
     clear hb3 HCL
     go_wp2_with fail
     go_ret3
     exact ⟨by rw [HR3.out];rfl,hbx2⟩
set_option maxRecDepth 100000 in
set_option maxHeartbeats 16000000 in
theorem rk_set (op name:ByteArray) (n pos:Int) (a:Option Addr) (cap:Nat) (kids:Fo) (w:World) (ds:List Dc) (da:Option Addr) (dc:Nat) (hd:DcsIn w da ds) (_hdl:ds.length≤1000000) (h0:(op.toList == [118,97,114])=false) (h1:(op.toList == [110,117,109])=false) (h2:(op.toList == [112,108,117,115])=false) (h3:(op.toList == [115,101,116])=true) (hin:KidsIn w a kids) (hsz:kids.sized) (hok:kids.allB Nd.okT=true) (hk:Fo.All (SayRk ds da dc) kids) (rv:Value) (hrv:rv=(if (kids.alG (ordD ds) 1 false pos).2=0 then .tuple #[.int .i64 2,.int .i64 0,.int .i64 0] else .tuple #[.int .i64 0,.int .i64 (kids.alG (ordD ds) 1 false pos).1,.int .i64 (kids.alG (ordD ds) 1 false pos).2])) :
  Calls Tryz.prog 148 #[.slice da ds.length dc,.agg #[.string op,.string name,.int .i64 n,.int .i64 pos,.slice a kids.len cap]] w fun e w'=>e=.returned rv∧Below w.heap.size w w':=by
 have hc5:=cellsNode
 have HW:=Lib.hid (below_box w (boxOf op name n pos a kids.len cap))
 have HB:=Lib.hid (new_at w (boxOf op name n pos a kids.len cap))
 obtain ⟨b0,b1,b2,b3,b4⟩:=box_cells HB.out
 have HD:=Lib.hid hd
 have HSZ:=Lib.hid hsz
 have HOK:=Lib.hid hok
 obtain ⟨q0,hq0⟩:∃ q0,q0=kids.alG (ordD ds) 1 false pos:=⟨_,rfl⟩
 rw [← hq0] at hrv
 have HRV:=Lib.hid hrv
 have HQ:=Lib.hid hq0
 clear hd hsz hok hrv hq0
 rcases hin with hnil | ⟨kb,ko,hab,hlim,hpos,hkin⟩
 ·subst hnil
  have hz0:((Fo.nil.len:Nat):Int)=0:=rfl
  have hz:q0=(0,0):=HQ.out
  have HR2:=Lib.hid (show rv=.tuple #[.int .i64 2,.int .i64 0,.int .i64 0] from by rw [HRV.out,hz,if_pos rfl])
  clear hz HQ HRV hk
  go_enter Tryz.func148,Tryz.ntmps148
  go_wp2_with fail
  go_loopw [10] (fun i wr=>i=.int .i64 0∧RowKit.Hid (wr.heap[w.heap.size]? = some (boxOf op name n pos a Fo.nil.len cap))∧Below w.heap.size w wr) (fun _ _=>0)
  case atStart=>exact ⟨rfl,HB,HW.out⟩
  case round =>
   obtain ⟨rfl,HX,hbx⟩:=hrel
   clear b0 b1 b2 b3 b4
   obtain ⟨b0,b1,b2,b3,b4⟩:=box_cells HX.out
   go_wp2_with fail
   go_ret3
   exact ⟨by rw [HR2.out];rfl,hbx⟩
 ·subst hab
  have HST:=Lib.hid (Tail.start (hkin.below HW.out) hk)
  clear hkin hpos hk
  go_enter Tryz.func148,Tryz.ntmps148
  go_wp2_with fail
  go_loopw [10] (fun i wr=>∃ (k:Nat) (R:Fo),i=.int .i64 k∧RowKit.Hid (Tail wr (SayRk ds da dc) kids R kb ko k)∧RowKit.Hid (q0=R.alG (ordD ds) 1 false pos)∧RowKit.Hid (R.allB Nd.okT=true)∧RowKit.Hid R.sized∧RowKit.Hid (wr.heap[w.heap.size]? = some (boxOf op name n pos (some ⟨kb,ko,none⟩) kids.len cap))∧Below w.heap.size w wr) (fun i _=>kids.len - (intOf i).toNat)
  case atStart=>exact ⟨0,kids,rfl,HST,HQ,HOK,HSZ,HB,HW.out⟩
  case round =>
   obtain ⟨k,R,rfl,HTL,HAL,HKO,HRS,HX,hbx⟩:=hrel
   clear b0 b1 b2 b3 b4
   obtain ⟨b0,b1,b2,b3,b4⟩:=box_cells HX.out
   cases R with
   | nil =>
    have hkl:k=kids.len:=by have:=HTL.out.len;simpa [Fo.len] using this
    subst hkl
    have hz:q0=(0,0):=HAL.out
    have HR2:=Lib.hid (show rv=.tuple #[.int .i64 2,.int .i64 0,.int .i64 0] from by rw [HRV.out,hz,if_pos rfl])
    clear hz
    go_wp2_with fail
    go_ret3
    exact ⟨by rw [HR2.out];rfl,hbx⟩
   | cons op1 name1 n1 pos1 a1 cap1 kids1 rest =>
    obtain ⟨hnode,hin1,hP,hkl,hnext⟩:=HTL.out.next
    have hkl2:(k:Int) < kids.len:=by omega
    have hkl0:(0:Int)≤k:=by omega
    obtain ⟨c0,c1,c2,c3,c4⟩:=hnode
    have HN1:=Lib.hid hnext
    have hok2:(Nd.okT ⟨op1,name1,n1,pos1,a1,cap1,kids1⟩ && rest.allB Nd.okT)=true:=HKO.out
    rw [Bool.and_eq_true] at hok2
    have hcall:=hP wr (HD.out.below hbx) hin1 ⟨HRS.out.1,HRS.out.2.1⟩ hok2.1
    rw [Nd.val_def] at hcall
    have hal:q0=mustK 1 (Nd.kd (ordD ds) ⟨op1,name1,n1,pos1,a1,cap1,kids1⟩) pos1 (rest.alG (ordD ds) 1 false pos):=HAL.out
    generalize Nd.kd (ordD ds) ⟨op1,name1,n1,pos1,a1,cap1,kids1⟩=r at hcall hal
    obtain ⟨rk,rp,re⟩:=r
    simp only [] at hcall hal
    have HCL:=Lib.hid hcall
    have HR2':=Lib.hid HRS.out.2.2
    have HK2:=Lib.hid hok2.2
    clear hnext hin1 hP hcall HTL hok2 HAL
    by_cases he:re=0
    ·subst he
     by_cases hkk:rk=1
     ·have HA2:=Lib.hid (show q0=rest.alG (ordD ds) 1 false pos from by rw [hal];unfold mustK;rw [if_pos rfl,if_pos hkk])
      clear hal
      subst hkk
      go_wp2_with fail
      refine HCL.out.mono ?_
      rintro e w3 ⟨rfl,hb3⟩
      have hbx2:=hbx.trans (hb3.mono hbx.size)
      have HX2:=Lib.hid ((hb3.block _ (lt_heap HX.out)).trans HX.out)
      have HN2:=Lib.hid (HN1.out.below hb3)
      clear hb3 HN1 HX HCL b0 b1 b2 b3 b4 c0 c1 c2 c3 c4
      go_wp2_with fail
      go_roundw
      case rel=>exact ⟨k+1,rest,by go_num,HN2,HA2,HK2,HR2',HX2,hbx2⟩
      case measure=>(try simp [intOf]);omega
     ·have hz:q0=(pos1,7):=by rw [hal];unfold mustK;rw [if_pos rfl,if_neg hkk]
      have HR3:=Lib.hid (show rv=.tuple #[.int .i64 0,.int .i64 pos1,.int .i64 7] from by rw [HRV.out,hz];rfl)
      have hkb:(rk != 1)=true:=by simp [hkk]
      clear hal hz hkk
      go_wp2_with fail
      refine HCL.out.mono ?_
      rintro e w3 ⟨rfl,hb3⟩
      have hbx2:=hbx.trans (hb3.mono hbx.size)
      replace b0:=cell_below hb3 b0
      replace b3:=cell_below hb3 b3
      replace b4:=cell_below hb3 b4
      replace c3:=cell_below hb3 c3
      clear hb3 HCL
      go_wp2_with fail
      go_ret3
      exact ⟨by rw [HR3.out];rfl,hbx2⟩
    ·have hz:q0=(rp,re):=by rw [hal];unfold mustK;rw [if_neg he]
     have HR3:=Lib.hid (show rv=.tuple #[.int .i64 0,.int .i64 rp,.int .i64 re] from by rw [HRV.out,hz,if_neg he])
     have heb:(re != 0)=true:=by simp [he]
     clear hal hz he
     go_wp2_with fail
     refine HCL.out.mono ?_
     rintro e w3 ⟨rfl,hb3⟩
     have hbx2:=hbx.trans (hb3.mono hbx.size)
     clear hb3 HCL
     go_wp2_with fail
     go_ret3
     exact ⟨by rw [HR3.out];rfl,hbx2⟩
set_option maxRecDepth 100000 in
set_option maxHeartbeats 16000000 in
theorem rk_join (op name:ByteArray) (n pos:Int) (a:Option Addr) (cap:Nat) (kids:Fo) (w:World) (ds:List Dc) (da:Option Addr) (dc:Nat) (hd:DcsIn w da ds) (_hdl:ds.length≤1000000) (h0:(op.toList == [118,97,114])=false) (h1:(op.toList == [110,117,109])=false) (h2:(op.toList == [112,108,117,115])=false) (h3:(op.toList == [115,101,116])=false) (hin:KidsIn w a kids) (hsz:kids.sized) (hok:kids.allB Nd.okT=true) (hk:Fo.All (SayRk ds da dc) kids) (rv:Value) (hrv:rv=(if (kids.alG (ordD ds) 2 false pos).2=0 then .tuple #[.int .i64 2,.int .i64 0,.int .i64 0] else .tuple #[.int .i64 0,.int .i64 (kids.alG (ordD ds) 2 false pos).1,.int .i64 (kids.alG (ordD ds) 2 false pos).2])) :
  Calls Tryz.prog 148 #[.slice da ds.length dc,.agg #[.string op,.string name,.int .i64 n,.int .i64 pos,.slice a kids.len cap]] w fun e w'=>e=.returned rv∧Below w.heap.size w w':=by
 have hc5:=cellsNode
 have HW:=Lib.hid (below_box w (boxOf op name n pos a kids.len cap))
 have HB:=Lib.hid (new_at w (boxOf op name n pos a kids.len cap))
 obtain ⟨b0,b1,b2,b3,b4⟩:=box_cells HB.out
 have HD:=Lib.hid hd
 have HSZ:=Lib.hid hsz
 have HOK:=Lib.hid hok
 obtain ⟨q0,hq0⟩:∃ q0,q0=kids.alG (ordD ds) 2 false pos:=⟨_,rfl⟩
 rw [← hq0] at hrv
 have HRV:=Lib.hid hrv
 have HQ:=Lib.hid hq0
 clear hd hsz hok hrv hq0
 rcases hin with hnil | ⟨kb,ko,hab,hlim,hpos,hkin⟩
 ·subst hnil
  have hz0:((Fo.nil.len:Nat):Int)=0:=rfl
  have hz:q0=(0,0):=HQ.out
  have HR2:=Lib.hid (show rv=.tuple #[.int .i64 2,.int .i64 0,.int .i64 0] from by rw [HRV.out,hz,if_pos rfl])
  clear hz HQ HRV hk
  go_enter Tryz.func148,Tryz.ntmps148
  go_wp2_with fail
  go_loopw [10] (fun i wr=>i=.int .i64 0∧RowKit.Hid (wr.heap[w.heap.size]? = some (boxOf op name n pos a Fo.nil.len cap))∧Below w.heap.size w wr) (fun _ _=>0)
  case atStart=>exact ⟨rfl,HB,HW.out⟩
  case round =>
   obtain ⟨rfl,HX,hbx⟩:=hrel
   clear b0 b1 b2 b3 b4
   obtain ⟨b0,b1,b2,b3,b4⟩:=box_cells HX.out
   go_wp2_with fail
   go_ret3
   exact ⟨by rw [HR2.out];rfl,hbx⟩
 ·subst hab
  have HST:=Lib.hid (Tail.start (hkin.below HW.out) hk)
  clear hkin hpos hk
  go_enter Tryz.func148,Tryz.ntmps148
  go_wp2_with fail
  go_loopw [10] (fun i wr=>∃ (k:Nat) (R:Fo),i=.int .i64 k∧RowKit.Hid (Tail wr (SayRk ds da dc) kids R kb ko k)∧RowKit.Hid (q0=R.alG (ordD ds) 2 false pos)∧RowKit.Hid (R.allB Nd.okT=true)∧RowKit.Hid R.sized∧RowKit.Hid (wr.heap[w.heap.size]? = some (boxOf op name n pos (some ⟨kb,ko,none⟩) kids.len cap))∧Below w.heap.size w wr) (fun i _=>kids.len - (intOf i).toNat)
  case atStart=>exact ⟨0,kids,rfl,HST,HQ,HOK,HSZ,HB,HW.out⟩
  case round =>
   obtain ⟨k,R,rfl,HTL,HAL,HKO,HRS,HX,hbx⟩:=hrel
   clear b0 b1 b2 b3 b4
   obtain ⟨b0,b1,b2,b3,b4⟩:=box_cells HX.out
   cases R with
   | nil =>
    have hkl:k=kids.len:=by have:=HTL.out.len;simpa [Fo.len] using this
    subst hkl
    have hz:q0=(0,0):=HAL.out
    have HR2:=Lib.hid (show rv=.tuple #[.int .i64 2,.int .i64 0,.int .i64 0] from by rw [HRV.out,hz,if_pos rfl])
    clear hz
    go_wp2_with fail
    go_ret3
    exact ⟨by rw [HR2.out];rfl,hbx⟩
   | cons op1 name1 n1 pos1 a1 cap1 kids1 rest =>
    obtain ⟨hnode,hin1,hP,hkl,hnext⟩:=HTL.out.next
    have hkl2:(k:Int) < kids.len:=by omega
    have hkl0:(0:Int)≤k:=by omega
    obtain ⟨c0,c1,c2,c3,c4⟩:=hnode
    have HN1:=Lib.hid hnext
    have hok2:(Nd.okT ⟨op1,name1,n1,pos1,a1,cap1,kids1⟩ && rest.allB Nd.okT)=true:=HKO.out
    rw [Bool.and_eq_true] at hok2
    have hcall:=hP wr (HD.out.below hbx) hin1 ⟨HRS.out.1,HRS.out.2.1⟩ hok2.1
    rw [Nd.val_def] at hcall
    have hal:q0=mustK 2 (Nd.kd (ordD ds) ⟨op1,name1,n1,pos1,a1,cap1,kids1⟩) pos1 (rest.alG (ordD ds) 2 false pos):=HAL.out
    generalize Nd.kd (ordD ds) ⟨op1,name1,n1,pos1,a1,cap1,kids1⟩=r at hcall hal
    obtain ⟨rk,rp,re⟩:=r
    simp only [] at hcall hal
    have HCL:=Lib.hid hcall
    have HR2':=Lib.hid HRS.out.2.2
    have HK2:=Lib.hid hok2.2
    clear hnext hin1 hP hcall HTL hok2 HAL
    by_cases he:re=0
    ·subst he
     by_cases hkk:rk=2
     ·have HA2:=Lib.hid (show q0=rest.alG (ordD ds) 2 false pos from by rw [hal];unfold mustK;rw [if_pos rfl,if_pos hkk])
      clear hal
      subst hkk
      go_wp2_with fail
      refine HCL.out.mono ?_
      rintro e w3 ⟨rfl,hb3⟩
      have hbx2:=hbx.trans (hb3.mono hbx.size)
      have HX2:=Lib.hid ((hb3.block _ (lt_heap HX.out)).trans HX.out)
      have HN2:=Lib.hid (HN1.out.below hb3)
      clear hb3 HN1 HX HCL b0 b1 b2 b3 b4 c0 c1 c2 c3 c4
      go_wp2_with fail
      go_roundw
      case rel=>exact ⟨k+1,rest,by go_num,HN2,HA2,HK2,HR2',HX2,hbx2⟩
      case measure=>(try simp [intOf]);omega
     ·have hz:q0=(pos1,7):=by rw [hal];unfold mustK;rw [if_pos rfl,if_neg hkk]
      have HR3:=Lib.hid (show rv=.tuple #[.int .i64 0,.int .i64 pos1,.int .i64 7] from by rw [HRV.out,hz];rfl)
      have hkb:(rk != 2)=true:=by simp [hkk]
      clear hal hz hkk
      go_wp2_with fail
      refine HCL.out.mono ?_
      rintro e w3 ⟨rfl,hb3⟩
      have hbx2:=hbx.trans (hb3.mono hbx.size)
      replace b0:=cell_below hb3 b0
      replace b3:=cell_below hb3 b3
      replace b4:=cell_below hb3 b4
      replace c3:=cell_below hb3 c3
      clear hb3 HCL
      go_wp2_with fail
      go_ret3
      exact ⟨by rw [HR3.out];rfl,hbx2⟩
    ·have hz:q0=(rp,re):=by rw [hal];unfold mustK;rw [if_neg he]
     have HR3:=Lib.hid (show rv=.tuple #[.int .i64 0,.int .i64 rp,.int .i64 re] from by rw [HRV.out,hz,if_neg he])
     have heb:(re != 0)=true:=by simp [he]
     clear hal hz he
     go_wp2_with fail
     refine HCL.out.mono ?_
     rintro e w3 ⟨rfl,hb3⟩
     have hbx2:=hbx.trans (hb3.mono hbx.size)
     clear hb3 HCL
     go_wp2_with fail
     go_ret3
     exact ⟨by rw [HR3.out];rfl,hbx2⟩
theorem rkind_of (ds:List Dc) (da:Option Addr) (dc:Nat) (hdl:ds.length≤1000000) (T:Nd) (hk:Fo.All (SayRk ds da dc) T.kids):SayRk ds da dc T:=by
 intro w hd hin hsz hok
 obtain ⟨hko,hkp⟩:=kids_okT hok
 obtain ⟨op,name,n,pos,a,cap,kids⟩:=T
 have hs2:kids.sized:=hsz.2
 have hkin:KidsIn w a kids:=hin
 simp only [] at hko hkp hk
 show Calls _ _ _ w fun e w'=>e=.returned (.tuple #[.int .i64 (stepK (ordD ds) op name pos (kids.ks (ordD ds))).k,.int .i64 (stepK (ordD ds) op name pos (kids.ks (ordD ds))).pos,.int .i64 (stepK (ordD ds) op name pos (kids.ks (ordD ds))).e])∧_
 rw [Nd.val_def]
 rcases bool_two (op.toList == [118,97,114]) with h0 | h0
 ·unfold stepK
  simp only [h0,if_true]
  by_cases hn:ordD ds name < 0
  ·rw [if_pos hn]
   exact rk_var_no op name n pos a cap kids w ds da dc hd hdl h0 hn
  ·rw [if_neg hn]
   exact rk_var_yes op name n pos a cap kids w ds da dc hd hdl h0 hn
 ·rcases bool_two (op.toList == [110,117,109]) with h1 | h1
  ·unfold stepK
   simp only [h0,h1,if_true]
   exact rk_num op name n pos a cap kids w ds da dc hd hdl h0 h1
  ·rcases bool_two (op.toList == [112,108,117,115]) with h2 | h2
   ·have hl:=hkp h2
    have h3:(op.toList == [115,101,116])=false:=by
     rw [beq_iff_eq] at h2
     rw [h2]
     decide
    refine rk_plus op name n pos a cap kids w ds da dc hd hdl h0 h1 h2 h3 hkin hs2 hko hk _ ?_
    unfold stepK
    simp only [h0,h1,h2,if_true]
    cases kids with
    | nil=>cases hl
    | cons op1 name1 n1 pos1 a1 cap1 kids1 rest =>
     have hl1:rest.len+1=1:=hl
     have hr:rest=.nil:=nil_of_len (by omega)
     subst hr
     show _=(if (mustK 1 (Nd.kd (ordD ds) ⟨op1,name1,n1,pos1,a1,cap1,kids1⟩) pos (0,0)).2=0 then _ else _)
     show Value.tuple #[.int .i64 (if (Nd.kd (ordD ds) ⟨op1,name1,n1,pos1,a1,cap1,kids1⟩).e=0 then (if (Nd.kd (ordD ds) ⟨op1,name1,n1,pos1,a1,cap1,kids1⟩).k=1 then (⟨1,0,0⟩:KR) else ⟨0,pos,7⟩) else ⟨0,(Nd.kd (ordD ds) ⟨op1,name1,n1,pos1,a1,cap1,kids1⟩).pos,(Nd.kd (ordD ds) ⟨op1,name1,n1,pos1,a1,cap1,kids1⟩).e⟩).k,.int .i64 (if (Nd.kd (ordD ds) ⟨op1,name1,n1,pos1,a1,cap1,kids1⟩).e=0 then (if (Nd.kd (ordD ds) ⟨op1,name1,n1,pos1,a1,cap1,kids1⟩).k=1 then (⟨1,0,0⟩:KR) else ⟨0,pos,7⟩) else ⟨0,(Nd.kd (ordD ds) ⟨op1,name1,n1,pos1,a1,cap1,kids1⟩).pos,(Nd.kd (ordD ds) ⟨op1,name1,n1,pos1,a1,cap1,kids1⟩).e⟩).pos,.int .i64 (if (Nd.kd (ordD ds) ⟨op1,name1,n1,pos1,a1,cap1,kids1⟩).e=0 then (if (Nd.kd (ordD ds) ⟨op1,name1,n1,pos1,a1,cap1,kids1⟩).k=1 then (⟨1,0,0⟩:KR) else ⟨0,pos,7⟩) else ⟨0,(Nd.kd (ordD ds) ⟨op1,name1,n1,pos1,a1,cap1,kids1⟩).pos,(Nd.kd (ordD ds) ⟨op1,name1,n1,pos1,a1,cap1,kids1⟩).e⟩).e]=(if (mustK 1 (Nd.kd (ordD ds) ⟨op1,name1,n1,pos1,a1,cap1,kids1⟩) pos (0,0)).2=0 then .tuple #[.int .i64 1,.int .i64 0,.int .i64 0] else .tuple #[.int .i64 0,.int .i64 (mustK 1 (Nd.kd (ordD ds) ⟨op1,name1,n1,pos1,a1,cap1,kids1⟩) pos (0,0)).1,.int .i64 (mustK 1 (Nd.kd (ordD ds) ⟨op1,name1,n1,pos1,a1,cap1,kids1⟩) pos (0,0)).2])
     generalize Nd.kd (ordD ds) ⟨op1,name1,n1,pos1,a1,cap1,kids1⟩=r
     obtain ⟨rk,rp,re⟩:=r
     unfold mustK
     simp only []
     by_cases he:re=0
     ·by_cases hk1:rk=1
      ·simp [he,hk1]
      ·simp [he,hk1]
     ·simp [he]
   ·rcases bool_two (op.toList == [115,101,116]) with h3 | h3
    ·refine rk_set op name n pos a cap kids w ds da dc hd hdl h0 h1 h2 h3 hkin hs2 hko hk _ ?_
     unfold stepK
     simp only [h0,h1,h2,h3,if_true]
     rw [al_1,alG_al]
     by_cases hz:(kids.al (ordD ds) 1).2=0
     ·simp [hz]
     ·simp [hz]
    ·refine rk_join op name n pos a cap kids w ds da dc hd hdl h0 h1 h2 h3 hkin hs2 hko hk _ ?_
     unfold stepK
     simp only [h0,h1,h2,h3]
     rw [al_2,alG_al]
     by_cases hz:(kids.al (ordD ds) 2).2=0
     ·simp [hz]
     ·simp [hz]
theorem rkind_all (ds:List Dc) (da:Option Addr) (dc:Nat) (hdl:ds.length≤1000000) (T:Nd):SayRk ds da dc T:=Nd.all_of (P:=SayRk ds da dc) (fun T hk=>rkind_of ds da dc hdl T hk) T
def fidx:List Pd→ByteArray→Nat→Int
 | [],_,_=>-1
 | p :: r,x,k=>if p.name=x then (k:Int) else fidx r x (k+1)
def PdRows (w:World) (a:Option Addr) (l:List Pd):Prop:=l=[]∨∃ b o,a=some ⟨b,o,none⟩∧∀ i p,l[i]? = some p→PdAt w b (o+i * 8) p
theorem PdRows.below {w w':World} {a:Option Addr} {l:List Pd} (h:PdRows w a l) (hb:Below w.heap.size w w'):PdRows w' a l:=by
 rcases h with h | ⟨b,o,h1,h2⟩
 ·exact .inl h
 ·exact .inr ⟨b,o,h1,fun i p hi=>(h2 i p hi).below hb⟩
theorem PdRows.take {w:World} {a:Option Addr} {l:List Pd} (h:PdRows w a l) (n:Nat):PdRows w a (l.take n):=by
 rcases h with h | ⟨b,o,h1,h2⟩
 ·left;rw [h];simp
 ·right
  refine ⟨b,o,h1,fun i p hi=>h2 i p ?_⟩
  rw [List.getElem?_take] at hi
  split at hi
  ·exact hi
  ·cases hi
theorem fidx_none:∀ (l:List Pd) (x:ByteArray) (k:Nat),predsK l x=none→fidx l x k = -1:=by
 intro l
 induction l with
 | nil=>intro x k _;rfl
 | cons p r ih =>
  intro x k h
  unfold predsK at h
  rw [List.find?_cons] at h
  show (if p.name=x then (k:Int) else fidx r x (k+1)) = -1
  by_cases hp:p.name=x
  ·rw [decide_eq_true hp] at h;cases h
  ·rw [if_neg hp]
   rw [decide_eq_false hp] at h
   exact ih x (k+1) h
theorem fidx_some:∀ (l:List Pd) (x:ByteArray) (k:Nat) (ds:List Dc),predsK l x=some ds→∃ i p,l[i]? = some p∧fidx l x k=((k+i:Nat):Int)∧p.params=ds:=by
 intro l
 induction l with
 | nil=>intro x k ds h;cases h
 | cons p r ih =>
  intro x k ds h
  unfold predsK at h
  rw [List.find?_cons] at h
  by_cases hp:p.name=x
  ·rw [decide_eq_true hp] at h
   have h2:p.params=ds:=Option.some.inj h
   refine ⟨0,p,rfl,?_,h2⟩
   show (if p.name=x then (k:Int) else _)=_
   rw [if_pos hp,Nat.add_zero]
  ·rw [decide_eq_false hp] at h
   obtain ⟨i,q,h1,h2,h3⟩:=ih x (k+1) ds h
   refine ⟨i+1,q,by simpa using h1,?_,h3⟩
   show (if p.name=x then (k:Int) else fidx r x (k+1))=_
   rw [if_neg hp,h2]
   congr 1
   omega
set_option maxRecDepth 100000 in
set_option maxHeartbeats 16000000 in
theorem rfind_any (l:List Pd) (a:Option Addr) (cap:Nat) (name:ByteArray) (w:World) (h:PdRows w a l) (hl:l.length≤1000000) :
  Calls Tryz.prog 59 #[.slice a l.length cap,.string name] w fun e w'=>e=.returned (.int .i64 (fidx l name 0))∧Below w.heap.size w w':=by
 have hc8:=cellsPred
 obtain ⟨q0,hq0⟩:∃ q0,q0=fidx l name 0:=⟨_,rfl⟩
 rw [← hq0]
 have HD:=Lib.hid h
 have HQ:=Lib.hid (show q0=fidx (l.drop 0) name 0 from hq0)
 clear h hq0
 go_enter Tryz.func59,Tryz.ntmps59
 go_wp2_with fail
 go_loopw [5] (fun i wr=>∃ k:Nat,i=.int .i64 k∧k≤l.length∧RowKit.Hid (q0=fidx (l.drop k) name k)∧Below w.heap.size w wr) (fun i _=>l.length - (intOf i).toNat)
 case atStart=>exact ⟨0,rfl,Nat.zero_le _,HQ,Below.refl _ _⟩
 case round =>
  obtain ⟨k,rfl,hk,HL,hbx⟩:=hrel
  by_cases hkl:k < l.length
  ·have hkl2:(k:Int) < l.length:=by omega
   have hk0:(0:Int)≤k:=by omega
   rcases HD.out with hnil | ⟨b,o,hab,hat⟩
   ·rw [hnil] at hkl;cases hkl
   ·subst hab
    have hg:=List.getElem?_eq_getElem hkl
    obtain ⟨c0,c1,_⟩:=(hat k (l[k]'hkl) hg).below hbx
    have hdr:l.drop k=(l[k]'hkl) :: l.drop (k+1):=List.drop_eq_getElem_cons hkl
    clear hg hat
    generalize (l[k]'hkl)=P at c0 c1 hdr
    have hod:q0=(if P.name=name then (k:Int) else fidx (l.drop (k+1)) name (k+1)):=by rw [HL.out,hdr];rfl
    generalize P.name=nm at c0 hod
    clear hdr HL c1
    by_cases hn:nm=name
    ·have hz:q0=(k:Int):=by rw [hod,if_pos hn]
     subst hn
     have HZ:=Lib.hid hz
     clear hod hz
     go_wp2_with fail
     go_ret
     exact ⟨by rw [HZ.out];rfl,hbx⟩
    ·have HL2:=Lib.hid (show q0=fidx (l.drop (k+1)) name (k+1) from by rw [hod,if_neg hn])
     have hnb:(nm.toList == name.toList)=false:=by
      rw [beq_eq_false_iff_ne]
      intro e
      rw [Lib.toList_data,Lib.toList_data] at e
      exact hn (ByteArray.ext (Array.toList_inj.1 e))
     clear hod
     go_wp2_with fail
     go_roundw
     case rel=>exact ⟨k+1,by go_num,by omega,HL2,hbx⟩
     case measure=>(try simp [intOf]);omega
  ·obtain rfl:k=l.length:=by omega
   have hz:q0 = -1:=by rw [HL.out,List.drop_length];rfl
   subst hz
   go_wp2_with fail
   go_ret
   exact ⟨rfl,hbx⟩
end Go.Proofs.YtmlmjopfbohglaaGreatDoor
