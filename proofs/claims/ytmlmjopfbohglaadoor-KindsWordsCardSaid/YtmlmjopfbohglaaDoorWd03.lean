/- Parts of the proof: KA KB KC PPure. -/
import Derived.Test.YtmlmjopfbohglaaDoorWd02
import Derived.Deep.RegionHeld3
import Derived.OrdersHeld
import Derived.RegionTactic
import Derived.BigRegion
namespace Go.Proofs.YtmlmjopfbohglaaDoor
open Go.RowKit
open Go.Maps
abbrev scV (M:Nat) (pv:Value):Value:=.agg #[.map (some M),pv]
abbrev scBox (M:Nat) (pv:Value):Obj:=.cells #[.map (some M),pv] 83
theorem cellsScope:Tryd.prog.cellsOf 83=2:=by kernel_rfl
theorem sc_cells {w:World} {B M:Nat} {pv:Value} (h:w.heap[B]? = some (scBox M pv)):w.cell? ⟨B,0,none⟩=some (.map (some M))∧w.cell? ⟨B,1,none⟩=some pv:=by
 refine ⟨?_,?_⟩ <;> (rw [cell_of_row _ _ _ _ _ _ h];rfl)
def OrdIs (w:World) (M n:Nat) (O:ByteArray→Int):Prop:=∃ f:ByteArray→Option Value,SMap Tryd.prog 9 w M n f∧∀ s,(f s=none∧O s = -1)∨f s=some (.int .i64 (O s))
theorem OrdIs.same {w w':World} {M n:Nat} {O:ByteArray→Int} (h:OrdIs w M n O) (hs:w'.heap[M]? = w.heap[M]?):OrdIs w' M n O:=by
 obtain ⟨f,h1,h2⟩:=h
 exact ⟨f,h1.same hs,h2⟩
theorem OrdIs.lt {w:World} {M n:Nat} {O:ByteArray→Int} (h:OrdIs w M n O):M < w.heap.size:=by
 obtain ⟨f,h1,h2⟩:=h
 exact h1.lt
theorem OrdIs.below {w w':World} {M n:Nat} {O:ByteArray→Int} (h:OrdIs w M n O) (hb:Below w.heap.size w w'):OrdIs w' M n O:=h.same (hb.block M h.lt)
theorem OrdIs.drew {w:World} {M n:Nat} {O:ByteArray→Int} (h:OrdIs w M n O):OrdIs w.drew M n O:=h.same rfl
theorem zeroInt (w:World):(zeroValue 3).run Tryd.prog w=.ok (.int .i64 0) w:=by kernel_rfl
set_option maxRecDepth 100000 in
set_option maxHeartbeats 8000000 in
theorem korder_any (M n:Nat) (pv:Value) (O:ByteArray→Int) (name:ByteArray) (w:World) (h:OrdIs w M n O) (hs:name.size≤140737488351232) :
  Calls Tryd.prog 94 #[scV M pv,.string name] w fun e w'=>e=.returned (.int .i64 (O name))∧Below w.heap.size w w':=by
 obtain ⟨f,h1,h2⟩:=h
 have hc2:=cellsScope
 have HM:=Lib.hid (h1.same (show (w.alloc (scBox M pv)).heap[M]? = w.heap[M]? from Below.heap_alloc _ _ _ h1.lt))
 obtain ⟨k0,k1⟩:=sc_cells (new_at w (scBox M pv))
 have hsz:name.size≤maxLen:=by unfold maxLen;omega
 rcases h2 name with ⟨hn,hO⟩ | hn
 ·rw [hO]
  clear h2 h1 hO
  have HN:=Lib.hid hn
  clear hn
  go_enter Tryd.func94,Tryd.ntmps94
  go_wp2_with (at_lookup;refine wpList_lookup_smap _ rfl _ _ 81 rfl 9 3 Tryd.underlying9 Tryd.underlying81 (zeroInt _) M n f rfl HM.out name rfl hsz ?_;rw [HN.out])
  go_wp2_with fail
  go_ret
  exact ⟨rfl,below_box _ _⟩
 ·generalize O name=k at hn ⊢
  clear h2 h1
  have HN:=Lib.hid hn
  clear hn
  go_enter Tryd.func94,Tryd.ntmps94
  go_wp2_with (at_lookup;refine wpList_lookup_smap _ rfl _ _ 81 rfl 9 3 Tryd.underlying9 Tryd.underlying81 (zeroInt _) M n f rfl HM.out name rfl hsz ?_;rw [HN.out])
  go_wp2_with fail
  go_ret
  exact ⟨rfl,below_box _ _⟩
theorem fitB_len {nm:Bool} {name:ByteArray} {ln mn n lk mk:Int} {len:Nat} {all:Bool} (h:fitB nm name ln mn n lk mk len all=true):lk≤(len:Int)∧(len:Int)≤mk∧all=true:=by
 unfold fitB at h
 simp only [Bool.and_eq_true,decide_eq_true_eq] at h
 exact ⟨h.1.2.1.2,h.1.2.2,h.2⟩
theorem allB_imp {p q:Nd→Bool} (h:∀ T,p T=true→q T=true):∀ {F:Fo},F.allB p=true→F.allB q=true:=by
 intro F
 induction F with
 | nil=>intro _;rfl
 | cons op name n pos a cap kids rest ihk ihr =>
  intro h1
  have h2:(p ⟨op,name,n,pos,a,cap,kids⟩ && rest.allB p)=true:=h1
  rw [Bool.and_eq_true] at h2
  show (q ⟨op,name,n,pos,a,cap,kids⟩ && rest.allB q)=true
  rw [h _ h2.1,ihr h2.2]
  rfl
theorem nil_of_len {F:Fo} (h:F.len=0):F=.nil:=by
 cases F with
 | nil=>rfl
 | cons op name n pos a cap kids rest=>cases h
theorem kids_okT {T:Nd} (h:T.okT=true):T.kids.allB Nd.okT=true∧((T.op.toList == [112,108,117,115])=true→T.kids.len=1):=by
 have h0:stepT T.op T.name T.n T.kids.len T.kids.sorts.t T.kids.sorts.v T.kids.sorts.n T.kids.second=true:=h
 unfold stepT at h0
 split at h0
 ·rename_i h1
  have h2:=fitB_len h0
  have h3:=nil_of_len (F:=T.kids) (by omega)
  refine ⟨by rw [h3];rfl,fun h4=>?_⟩
  rw [beq_iff_eq] at h1 h4
  rw [h1] at h4
  cases h4
 ·split at h0
  ·rename_i h1
   have h2:=fitB_len h0
   have h3:=nil_of_len (F:=T.kids) (by omega)
   refine ⟨by rw [h3];rfl,fun h4=>?_⟩
   rw [beq_iff_eq] at h1 h4
   rw [h1] at h4
   cases h4
  ·split at h0
   ·have h2:=fitB_len h0
    refine ⟨?_,fun _=>by omega⟩
    have h3:=h2.2.2
    rw [sorts_v] at h3
    exact allB_imp (fun T hT=>by unfold Nd.okV at hT;rw [Bool.and_eq_true] at hT;exact hT.2) h3
   ·rename_i h9
    split at h0
    ·have h2:=fitB_len h0
     have h3:=h2.2.2
     rw [sorts_n] at h3
     exact ⟨allB_imp (fun T hT=>by unfold Nd.okN at hT;rw [Bool.and_eq_true] at hT;exact hT.2) h3,fun h4=>absurd h4 h9⟩
    ·rw [Bool.and_eq_true,Bool.and_eq_true] at h0
     have h3:=(fitB_len h0.1.2).2.2
     rw [sorts_t] at h3
     exact ⟨h3,fun h4=>absurd h4 h9⟩
def Fo.al (O:ByteArray→Int) (want:Int):Fo→Int × Int
 | .nil=>(0,0)
 | .cons op name n pos a cap kids rest=>mustK want (Nd.kd O ⟨op,name,n,pos,a,cap,kids⟩) pos (rest.al O want)
theorem al_1 (O:ByteArray→Int) (F:Fo):(F.ks O).n1=F.al O 1:=by
 induction F with
 | nil=>rfl
 | cons op name n pos a cap kids rest ihk ihr=>show mustK 1 _ pos (rest.ks O).n1=mustK 1 _ pos (rest.al O 1);rw [ihr];rfl
theorem al_2 (O:ByteArray→Int) (F:Fo):(F.ks O).n2=F.al O 2:=by
 induction F with
 | nil=>rfl
 | cons op name n pos a cap kids rest ihk ihr=>show mustK 2 _ pos (rest.ks O).n2=mustK 2 _ pos (rest.al O 2);rw [ihr];rfl
def SayKd (T:Nd):Prop:=∀ (w:World) (M n:Nat) (pv:Value) (O:ByteArray→Int),OrdIs w M n O→T.In w→T.sized→T.okT=true→Calls Tryd.prog 95 #[scV M pv,T.val] w fun e w'=>e=.returned (.tuple #[.int .i64 (T.kd O).k,.int .i64 (T.kd O).pos,.int .i64 (T.kd O).e])∧Below w.heap.size w w'
theorem stepK_pos (O:ByteArray→Int) (op name:ByteArray) (pos:Int) (ks:KS) (h:(stepK O op name pos ks).e=0):(stepK O op name pos ks).pos=0:=by
 revert h
 unfold stepK
 repeat' split
 all_goals first | (intro _;rfl) | (intro h;exact absurd h (by first | assumption | simp))
set_option maxRecDepth 100000 in
set_option maxHeartbeats 8000000 in
theorem kmust_of (T:Nd) (hT:SayKd T) (w:World) (M n:Nat) (pv:Value) (O:ByteArray→Int) (want place:Int) (ho:OrdIs w M n O) (hin:T.In w) (hsz:T.sized) (hok:T.okT=true) :
  Calls Tryd.prog 97 #[scV M pv,.int .i64 want,T.val,.int .i64 place] w fun e w'=>e=.returned (.tuple #[.int .i64 (mustK want (T.kd O) place (0,0)).1,.int .i64 (mustK want (T.kd O) place (0,0)).2])∧Below w.heap.size w w':=by
 have hc2:=cellsScope
 have hc5:=cellsNode
 have hW:=two_boxes w (scBox M pv) (boxOf T.op T.name T.n T.pos T.a T.kids.len T.cap)
 have HC:=hT _ M n pv O (ho.below hW) (hin.below hW) hsz hok
 have hps:(T.kd O).e=0→(T.kd O).pos=0:=stepK_pos O T.op T.name T.pos (T.kids.ks O)
 generalize T.kd O=r at HC hps ⊢
 obtain ⟨rk,rp,re⟩:=r
 simp only [] at HC hps ⊢
 rw [Nd.val_def] at HC ⊢
 have HC:=Lib.hid HC
 have HW:=Lib.hid hW
 clear hW hT ho hin
 have hx:w.heap.size < (w.alloc (scBox M pv)).heap.size:=by simp
 obtain ⟨k0,k1⟩:=sc_cells ((Below.heap_alloc (w.alloc (scBox M pv)) (boxOf T.op T.name T.n T.pos T.a T.kids.len T.cap) _ hx).trans (new_at w (scBox M pv)))
 obtain ⟨b0,b1,b2,b3,b4⟩:=box_cells (show ((w.alloc (scBox M pv)).alloc (boxOf T.op T.name T.n T.pos T.a T.kids.len T.cap)).heap[w.heap.size+1]? = some (boxOf T.op T.name T.n T.pos T.a T.kids.len T.cap) from by have h:=new_at (w.alloc (scBox M pv)) (boxOf T.op T.name T.n T.pos T.a T.kids.len T.cap);rw [alloc_size] at h;exact h)
 by_cases he:re=0
 ·subst he
  obtain rfl:=hps rfl
  by_cases hk:rk=want
  ·subst hk
   have hm:mustK rk ⟨rk,0,0⟩ place (0,0)=(0,0):=by unfold mustK;simp
   rw [hm]
   have hkb:(rk != rk)=false:=by simp
   clear hm
   go_enter Tryd.func97,Tryd.ntmps97
   go_wp2_with fail
   refine HC.out.mono ?_
   rintro e w2 ⟨rfl,hb2⟩
   have hbb:=HW.out.trans (hb2.mono HW.out.size)
   clear hb2 HC
   go_wp2_with fail
   go_ret2
   exact ⟨rfl,hbb⟩
  ·have hm:mustK want ⟨rk,0,0⟩ place (0,0)=(place,7):=by unfold mustK;simp [hk]
   rw [hm]
   have hkb:(rk != want)=true:=by simp [hk]
   clear hm hk
   go_enter Tryd.func97,Tryd.ntmps97
   go_wp2_with fail
   refine HC.out.mono ?_
   rintro e w2 ⟨rfl,hb2⟩
   have hbb:=HW.out.trans (hb2.mono HW.out.size)
   clear hb2 HC
   go_wp2_with fail
   go_ret2
   exact ⟨rfl,hbb⟩
 ·have hm:mustK want ⟨rk,rp,re⟩ place (0,0)=(rp,re):=by unfold mustK;simp [he]
  rw [hm]
  have heb:(re == 0)=false:=by simp [he]
  clear hm he hps
  go_enter Tryd.func97,Tryd.ntmps97
  go_wp2_with fail
  refine HC.out.mono ?_
  rintro e w2 ⟨rfl,hb2⟩
  have hbb:=HW.out.trans (hb2.mono HW.out.size)
  clear hb2 HC
  go_wp2_with fail
  go_ret2
  exact ⟨rfl,hbb⟩
theorem mustK_go {want:Int} {r:KR} {p:Int} {q:Int × Int} (h:(mustK want r p (0,0)).2=0):mustK want r p q=q:=by
 unfold mustK at h ⊢
 by_cases he:r.e=0
 ·rw [if_pos he] at h ⊢
  by_cases hk:r.k=want
  ·rw [if_pos hk]
  ·rw [if_neg hk] at h
   cases h
 ·rw [if_neg he] at h
  exact absurd h he
theorem mustK_stop {want:Int} {r:KR} {p:Int} {q:Int × Int} (h:¬ (mustK want r p (0,0)).2=0):mustK want r p q=mustK want r p (0,0):=by
 unfold mustK at h ⊢
 by_cases he:r.e=0
 ·rw [if_pos he] at h ⊢
  by_cases hk:r.k=want
  ·rw [if_pos hk] at h
   exact absurd rfl h
  ·rw [if_neg hk,if_pos he,if_neg hk]
 ·rw [if_neg he,if_neg he]
def KidsIn (w:World) (a:Option Addr) (F:Fo):Prop:=F=.nil∨∃ b o,a=some ⟨b,o,none⟩∧F.len≤140737488351232∧(0 < F.len∧w.frozen? ⟨b,o,none⟩=false)∧F.In w b o
set_option maxRecDepth 100000 in
set_option maxHeartbeats 16000000 in
theorem kall_of (F:Fo) (a:Option Addr) (cap:Nat) (w:World) (M n:Nat) (pv:Value) (O:ByteArray→Int) (want:Int) (ho:OrdIs w M n O) (hin:KidsIn w a F) (hs:F.sized) (hok:F.allB Nd.okT=true) (hk:Fo.All SayKd F) :
  Calls Tryd.prog 122 #[scV M pv,.int .i64 want,.slice a F.len cap] w fun e w'=>e=.returned (.tuple #[.int .i64 (F.al O want).1,.int .i64 (F.al O want).2])∧Below w.heap.size w w':=by
 have hc2:=cellsScope
 have hc5:=cellsNode
 have HO:=Lib.hid ho
 have HS:=Lib.hid (new_at w (scBox M pv))
 have HOK:=Lib.hid hok
 have HSZ:=Lib.hid hs
 clear ho hok hs
 rcases hin with rfl | ⟨kb,ko,rfl,hlim,hpos,hkin⟩
 ·have hz0:((Fo.nil.len:Nat):Int)=0:=rfl
  show Calls _ _ _ w fun e w'=>e=.returned (.tuple #[.int .i64 0,.int .i64 0])∧_
  go_enter Tryd.func122,Tryd.ntmps122
  go_wp2_with fail
  go_loopw [14] (fun i wr=>i=.int .i64 0∧Below w.heap.size w wr) (fun _ _=>0)
  case atStart=>exact ⟨rfl,below_box _ _⟩
  case round =>
   obtain ⟨rfl,hbx⟩:=hrel
   go_wp2_with fail
   go_ret2
   exact ⟨rfl,hbx⟩
 ·have HST:=Lib.hid (Tail.start hkin hk)
  obtain ⟨q0,hq0⟩:∃ q0,F.al O want=q0:=⟨_,rfl⟩
  rw [hq0]
  have HQ0:=Lib.hid hq0.symm
  clear hkin hpos hq0
  go_enter Tryd.func122,Tryd.ntmps122
  go_wp2_with fail
  go_loopw [14] (fun i wr=>∃ (k:Nat) (R:Fo),i=.int .i64 k∧RowKit.Hid (Tail wr SayKd F R kb ko k)∧RowKit.Hid (q0=R.al O want)∧RowKit.Hid (R.allB Nd.okT=true)∧RowKit.Hid R.sized∧RowKit.Hid (wr.heap[w.heap.size]? = some (scBox M pv))∧Below w.heap.size w wr) (fun i _=>F.len - (intOf i).toNat)
  case atStart=>exact ⟨0,F,rfl,Lib.hid (HST.out.below (below_box _ _)),HQ0,HOK,HSZ,HS,below_box _ _⟩
  case round =>
   obtain ⟨k,R,rfl,HTL,HAL,HKO,HRS,HX,hbx⟩:=hrel
   obtain ⟨s0,s1⟩:=sc_cells HX.out
   cases R with
   | nil =>
    have hkl:k=F.len:=by have:=HTL.out.len;simpa [Fo.len] using this
    subst hkl
    have hz:q0=(0,0):=HAL.out
    subst hz
    go_wp2_with fail
    go_ret2
    exact ⟨rfl,hbx⟩
   | cons op1 name1 n1 pos1 a1 cap1 kids1 rest =>
    obtain ⟨hnode,hin1,hP,hkl,hnext⟩:=HTL.out.next
    have hkl2:(k:Int) < F.len:=by omega
    obtain ⟨c0,c1,c2,c3,c4⟩:=hnode
    have HN1:=Lib.hid hnext
    have hok2:(Nd.okT ⟨op1,name1,n1,pos1,a1,cap1,kids1⟩ && rest.allB Nd.okT)=true:=HKO.out
    rw [Bool.and_eq_true] at hok2
    have hcall:=kmust_of ⟨op1,name1,n1,pos1,a1,cap1,kids1⟩ hP (wr.alloc (boxOf op1 name1 n1 pos1 a1 kids1.len cap1)) M n pv O want pos1 (HO.out.below (hbx.alloc hbx.size _)) (hin1.below (below_box _ _)) ⟨HRS.out.1,HRS.out.2.1⟩ hok2.1
    rw [Nd.val_def] at hcall
    have hal:q0=mustK want (Nd.kd O ⟨op1,name1,n1,pos1,a1,cap1,kids1⟩) pos1 (rest.al O want):=HAL.out
    have hgo:=@mustK_go want (Nd.kd O ⟨op1,name1,n1,pos1,a1,cap1,kids1⟩) pos1 (rest.al O want)
    have hstop:=@mustK_stop want (Nd.kd O ⟨op1,name1,n1,pos1,a1,cap1,kids1⟩) pos1 (rest.al O want)
    generalize mustK want (Nd.kd O ⟨op1,name1,n1,pos1,a1,cap1,kids1⟩) pos1 (0,0)=q at hcall hgo hstop
    obtain ⟨qp,qe⟩:=q
    simp only [] at hcall hgo hstop
    have HCL:=Lib.hid hcall
    have HR2:=Lib.hid HRS.out.2.2
    have HK2:=Lib.hid hok2.2
    have HBX:=Lib.hid (new_at wr (boxOf op1 name1 n1 pos1 a1 kids1.len cap1))
    obtain ⟨b0,b1,b2,b3,b4⟩:=box_cells HBX.out
    have hxs:=lt_heap HX.out
    obtain ⟨r0,r1⟩:=sc_cells ((Below.heap_alloc wr (boxOf op1 name1 n1 pos1 a1 kids1.len cap1) _ hxs).trans HX.out)
    clear hnext hin1 hP hcall HTL hok2
    by_cases he:qe=0
    ·have HA2:=Lib.hid (show q0=rest.al O want from by rw [hal,hgo he])
     clear hal hgo hstop HAL
     subst he
     go_wp2_with fail
     refine HCL.out.mono ?_
     rintro e w3 ⟨rfl,hb3⟩
     have hbx2:=hbx.trans ((box_then hb3).mono hbx.size)
     have HX2:=Lib.hid (((box_then hb3).block _ (lt_heap HX.out)).trans HX.out)
     have HN2:=Lib.hid (HN1.out.below (box_then hb3))
     clear hb3 HN1 HX HCL b0 b1 b2 b3 b4 c0 c1 c2 c3 c4 s0 s1 r0 r1
     go_wp2_with fail
     go_roundw
     case rel=>exact ⟨k+1,rest,by go_num,HN2,HA2,HK2,HR2,HX2,hbx2⟩
     case measure=>(try simp [intOf]);omega
    ·have HA2:=Lib.hid (show q0=(qp,qe) from by rw [hal,hstop he])
     have heb:(qe != 0)=true:=by simp [he]
     clear hal hgo hstop HAL he
     go_wp2_with fail
     refine HCL.out.mono ?_
     rintro e w3 ⟨rfl,hb3⟩
     have hbx2:=hbx.trans ((box_then hb3).mono hbx.size)
     clear hb3 HN1 HX HCL b0 b1 b2 b3 b4 c0 c1 c2 c3 c4 s0 s1 r0 r1
     go_wp2_with fail
     go_ret2
     rw [HA2.out]
     exact ⟨rfl,hbx2⟩
set_option maxRecDepth 100000 in
set_option maxHeartbeats 16000000 in
theorem kd_var_no (op name:ByteArray) (n pos:Int) (a:Option Addr) (cap:Nat) (kids:Fo) (w:World) (M m:Nat) (pv:Value) (O:ByteArray→Int) (ho:OrdIs w M m O) (h0:(op.toList == [118,97,114])=true) (hs:name.size≤140737488351232) (hn:O name < 0) :
  Calls Tryd.prog 95 #[scV M pv,.agg #[.string op,.string name,.int .i64 n,.int .i64 pos,.slice a kids.len cap]] w fun e w'=>e=.returned (.tuple #[.int .i64 0,.int .i64 pos,.int .i64 5])∧Below w.heap.size w w':=by
 have hc2:=cellsScope
 have hc5:=cellsNode
 have HW:=Lib.hid (two_boxes w (scBox M pv) (boxOf op name n pos a kids.len cap))
 have hx:w.heap.size < (w.alloc (scBox M pv)).heap.size:=by simp
 have HS:=Lib.hid ((Below.heap_alloc (w.alloc (scBox M pv)) (boxOf op name n pos a kids.len cap) _ hx).trans (new_at w (scBox M pv)))
 have HB:=Lib.hid (show ((w.alloc (scBox M pv)).alloc (boxOf op name n pos a kids.len cap)).heap[w.heap.size+1]? = some (boxOf op name n pos a kids.len cap) from by have h:=new_at (w.alloc (scBox M pv)) (boxOf op name n pos a kids.len cap);rw [alloc_size] at h;exact h)
 obtain ⟨k0,k1⟩:=sc_cells HS.out
 obtain ⟨b0,b1,b2,b3,b4⟩:=box_cells HB.out
 have HC:=Lib.hid (korder_any M m pv O name _ (ho.below HW.out) hs)
 generalize O name=k at HC hn
 clear ho hs
 go_enter Tryd.func95,Tryd.ntmps95
 go_wp2_with fail
 refine HC.out.mono ?_
 rintro e w2 ⟨rfl,hb2⟩
 have hbb:=HW.out.trans (hb2.mono HW.out.size)
 obtain ⟨b0,b1,b2,b3,b4⟩:=box_cells ((hb2.block _ (lt_heap HB.out)).trans HB.out)
 clear hb2 HC
 go_wp2_with fail
 go_region
 all_goals
  go_wp2_with fail
  go_ret3
  exact ⟨rfl,(by repeat (with_reducible first | exact hbb | refine Below.drew ?_))⟩
set_option maxRecDepth 100000 in
set_option maxHeartbeats 16000000 in
theorem kd_var_yes (op name:ByteArray) (n pos:Int) (a:Option Addr) (cap:Nat) (kids:Fo) (w:World) (M m:Nat) (pv:Value) (O:ByteArray→Int) (ho:OrdIs w M m O) (h0:(op.toList == [118,97,114])=true) (hs:name.size≤140737488351232) (hn:¬ O name < 0) :
  Calls Tryd.prog 95 #[scV M pv,.agg #[.string op,.string name,.int .i64 n,.int .i64 pos,.slice a kids.len cap]] w fun e w'=>e=.returned (.tuple #[.int .i64 (O name),.int .i64 0,.int .i64 0])∧Below w.heap.size w w':=by
 have hc2:=cellsScope
 have hc5:=cellsNode
 have HW:=Lib.hid (two_boxes w (scBox M pv) (boxOf op name n pos a kids.len cap))
 have hx:w.heap.size < (w.alloc (scBox M pv)).heap.size:=by simp
 have HS:=Lib.hid ((Below.heap_alloc (w.alloc (scBox M pv)) (boxOf op name n pos a kids.len cap) _ hx).trans (new_at w (scBox M pv)))
 have HB:=Lib.hid (show ((w.alloc (scBox M pv)).alloc (boxOf op name n pos a kids.len cap)).heap[w.heap.size+1]? = some (boxOf op name n pos a kids.len cap) from by have h:=new_at (w.alloc (scBox M pv)) (boxOf op name n pos a kids.len cap);rw [alloc_size] at h;exact h)
 obtain ⟨k0,k1⟩:=sc_cells HS.out
 obtain ⟨b0,b1,b2,b3,b4⟩:=box_cells HB.out
 have HC:=Lib.hid (korder_any M m pv O name _ (ho.below HW.out) hs)
 generalize O name=k at HC hn ⊢
 clear ho hs
 go_enter Tryd.func95,Tryd.ntmps95
 go_wp2_with fail
 refine HC.out.mono ?_
 rintro e w2 ⟨rfl,hb2⟩
 have hbb:=HW.out.trans (hb2.mono HW.out.size)
 obtain ⟨b0,b1,b2,b3,b4⟩:=box_cells ((hb2.block _ (lt_heap HB.out)).trans HB.out)
 clear hb2 HC
 go_wp2_with fail
 go_ret3
 exact ⟨rfl,hbb⟩
set_option maxRecDepth 100000 in
set_option maxHeartbeats 16000000 in
theorem kd_num (op name:ByteArray) (n pos:Int) (a:Option Addr) (cap:Nat) (kids:Fo) (w:World) (M m:Nat) (pv:Value) (O:ByteArray→Int) (ho:OrdIs w M m O) (h0:(op.toList == [118,97,114])=false) (h1:(op.toList == [110,117,109])=true) :
  Calls Tryd.prog 95 #[scV M pv,.agg #[.string op,.string name,.int .i64 n,.int .i64 pos,.slice a kids.len cap]] w fun e w'=>e=.returned (.tuple #[.int .i64 1,.int .i64 0,.int .i64 0])∧Below w.heap.size w w':=by
 have hc2:=cellsScope
 have hc5:=cellsNode
 have HW:=Lib.hid (two_boxes w (scBox M pv) (boxOf op name n pos a kids.len cap))
 have hx:w.heap.size < (w.alloc (scBox M pv)).heap.size:=by simp
 have HS:=Lib.hid ((Below.heap_alloc (w.alloc (scBox M pv)) (boxOf op name n pos a kids.len cap) _ hx).trans (new_at w (scBox M pv)))
 have HB:=Lib.hid (show ((w.alloc (scBox M pv)).alloc (boxOf op name n pos a kids.len cap)).heap[w.heap.size+1]? = some (boxOf op name n pos a kids.len cap) from by have h:=new_at (w.alloc (scBox M pv)) (boxOf op name n pos a kids.len cap);rw [alloc_size] at h;exact h)
 obtain ⟨k0,k1⟩:=sc_cells HS.out
 obtain ⟨b0,b1,b2,b3,b4⟩:=box_cells HB.out
 have _:=ho
 go_enter Tryd.func95,Tryd.ntmps95
 go_wp2_with fail
 go_ret3
 exact ⟨rfl,HW.out⟩
set_option maxRecDepth 100000 in
set_option maxHeartbeats 16000000 in
theorem kd_set_ok (op name:ByteArray) (n pos:Int) (a:Option Addr) (cap:Nat) (kids:Fo) (w:World) (M m:Nat) (pv:Value) (O:ByteArray→Int) (ho:OrdIs w M m O) (h0:(op.toList == [118,97,114])=false) (h1:(op.toList == [110,117,109])=false) (h2:(op.toList == [112,108,117,115])=false) (h3:(op.toList == [115,101,116])=true) (q1 q2:Int) (hq:q2=0) (hc:∀ W,OrdIs W M m O→Below w.heap.size w W→Calls Tryd.prog 122 #[scV M pv,.int .i64 1,.slice a kids.len cap] W fun e w'=>e=.returned (.tuple #[.int .i64 q1,.int .i64 q2])∧Below W.heap.size W w') :
  Calls Tryd.prog 95 #[scV M pv,.agg #[.string op,.string name,.int .i64 n,.int .i64 pos,.slice a kids.len cap]] w fun e w'=>e=.returned (.tuple #[.int .i64 2,.int .i64 0,.int .i64 0])∧Below w.heap.size w w':=by
 have hc2:=cellsScope
 have hc5:=cellsNode
 have HW:=Lib.hid (two_boxes w (scBox M pv) (boxOf op name n pos a kids.len cap))
 have hx:w.heap.size < (w.alloc (scBox M pv)).heap.size:=by simp
 have HS:=Lib.hid ((Below.heap_alloc (w.alloc (scBox M pv)) (boxOf op name n pos a kids.len cap) _ hx).trans (new_at w (scBox M pv)))
 have HB:=Lib.hid (show ((w.alloc (scBox M pv)).alloc (boxOf op name n pos a kids.len cap)).heap[w.heap.size+1]? = some (boxOf op name n pos a kids.len cap) from by have h:=new_at (w.alloc (scBox M pv)) (boxOf op name n pos a kids.len cap);rw [alloc_size] at h;exact h)
 obtain ⟨k0,k1⟩:=sc_cells HS.out
 obtain ⟨b0,b1,b2,b3,b4⟩:=box_cells HB.out
 have HC:=Lib.hid (hc _ (ho.below HW.out) HW.out)
 clear ho hc
 subst hq
 go_enter Tryd.func95,Tryd.ntmps95
 go_wp2_with fail
 refine HC.out.mono ?_
 rintro e w2 ⟨rfl,hb2⟩
 have hbb:=HW.out.trans (hb2.mono HW.out.size)
 clear hb2 HC
 go_wp2_with fail
 go_ret3
 exact ⟨rfl,hbb⟩
set_option maxRecDepth 100000 in
set_option maxHeartbeats 16000000 in
theorem kd_set_bad (op name:ByteArray) (n pos:Int) (a:Option Addr) (cap:Nat) (kids:Fo) (w:World) (M m:Nat) (pv:Value) (O:ByteArray→Int) (ho:OrdIs w M m O) (h0:(op.toList == [118,97,114])=false) (h1:(op.toList == [110,117,109])=false) (h2:(op.toList == [112,108,117,115])=false) (h3:(op.toList == [115,101,116])=true) (q1 q2:Int) (hq:¬ q2=0) (hc:∀ W,OrdIs W M m O→Below w.heap.size w W→Calls Tryd.prog 122 #[scV M pv,.int .i64 1,.slice a kids.len cap] W fun e w'=>e=.returned (.tuple #[.int .i64 q1,.int .i64 q2])∧Below W.heap.size W w') :
  Calls Tryd.prog 95 #[scV M pv,.agg #[.string op,.string name,.int .i64 n,.int .i64 pos,.slice a kids.len cap]] w fun e w'=>e=.returned (.tuple #[.int .i64 0,.int .i64 q1,.int .i64 q2])∧Below w.heap.size w w':=by
 have hc2:=cellsScope
 have hc5:=cellsNode
 have HW:=Lib.hid (two_boxes w (scBox M pv) (boxOf op name n pos a kids.len cap))
 have hx:w.heap.size < (w.alloc (scBox M pv)).heap.size:=by simp
 have HS:=Lib.hid ((Below.heap_alloc (w.alloc (scBox M pv)) (boxOf op name n pos a kids.len cap) _ hx).trans (new_at w (scBox M pv)))
 have HB:=Lib.hid (show ((w.alloc (scBox M pv)).alloc (boxOf op name n pos a kids.len cap)).heap[w.heap.size+1]? = some (boxOf op name n pos a kids.len cap) from by have h:=new_at (w.alloc (scBox M pv)) (boxOf op name n pos a kids.len cap);rw [alloc_size] at h;exact h)
 obtain ⟨k0,k1⟩:=sc_cells HS.out
 obtain ⟨b0,b1,b2,b3,b4⟩:=box_cells HB.out
 have HC:=Lib.hid (hc _ (ho.below HW.out) HW.out)
 clear ho hc
 have hqb:(q2 != 0)=true:=by simp [hq]
 clear hq
 go_enter Tryd.func95,Tryd.ntmps95
 go_wp2_with fail
 refine HC.out.mono ?_
 rintro e w2 ⟨rfl,hb2⟩
 have hbb:=HW.out.trans (hb2.mono HW.out.size)
 clear hb2 HC
 go_wp2_with fail
 go_ret3
 exact ⟨rfl,hbb⟩
set_option maxRecDepth 100000 in
set_option maxHeartbeats 16000000 in
theorem kd_join_ok (op name:ByteArray) (n pos:Int) (a:Option Addr) (cap:Nat) (kids:Fo) (w:World) (M m:Nat) (pv:Value) (O:ByteArray→Int) (ho:OrdIs w M m O) (h0:(op.toList == [118,97,114])=false) (h1:(op.toList == [110,117,109])=false) (h2:(op.toList == [112,108,117,115])=false) (h3:(op.toList == [115,101,116])=false) (q1 q2:Int) (hq:q2=0) (hc:∀ W,OrdIs W M m O→Below w.heap.size w W→Calls Tryd.prog 122 #[scV M pv,.int .i64 2,.slice a kids.len cap] W fun e w'=>e=.returned (.tuple #[.int .i64 q1,.int .i64 q2])∧Below W.heap.size W w') :
  Calls Tryd.prog 95 #[scV M pv,.agg #[.string op,.string name,.int .i64 n,.int .i64 pos,.slice a kids.len cap]] w fun e w'=>e=.returned (.tuple #[.int .i64 2,.int .i64 0,.int .i64 0])∧Below w.heap.size w w':=by
 have hc2:=cellsScope
 have hc5:=cellsNode
 have HW:=Lib.hid (two_boxes w (scBox M pv) (boxOf op name n pos a kids.len cap))
 have hx:w.heap.size < (w.alloc (scBox M pv)).heap.size:=by simp
 have HS:=Lib.hid ((Below.heap_alloc (w.alloc (scBox M pv)) (boxOf op name n pos a kids.len cap) _ hx).trans (new_at w (scBox M pv)))
 have HB:=Lib.hid (show ((w.alloc (scBox M pv)).alloc (boxOf op name n pos a kids.len cap)).heap[w.heap.size+1]? = some (boxOf op name n pos a kids.len cap) from by have h:=new_at (w.alloc (scBox M pv)) (boxOf op name n pos a kids.len cap);rw [alloc_size] at h;exact h)
 obtain ⟨k0,k1⟩:=sc_cells HS.out
 obtain ⟨b0,b1,b2,b3,b4⟩:=box_cells HB.out
 have HC:=Lib.hid (hc _ (ho.below HW.out) HW.out)
 clear ho hc
 subst hq
 go_enter Tryd.func95,Tryd.ntmps95
 go_wp2_with fail
 refine HC.out.mono ?_
 rintro e w2 ⟨rfl,hb2⟩
 have hbb:=HW.out.trans (hb2.mono HW.out.size)
 clear hb2 HC
 go_wp2_with fail
 go_ret3
 exact ⟨rfl,hbb⟩
set_option maxRecDepth 100000 in
set_option maxHeartbeats 16000000 in
theorem kd_join_bad (op name:ByteArray) (n pos:Int) (a:Option Addr) (cap:Nat) (kids:Fo) (w:World) (M m:Nat) (pv:Value) (O:ByteArray→Int) (ho:OrdIs w M m O) (h0:(op.toList == [118,97,114])=false) (h1:(op.toList == [110,117,109])=false) (h2:(op.toList == [112,108,117,115])=false) (h3:(op.toList == [115,101,116])=false) (q1 q2:Int) (hq:¬ q2=0) (hc:∀ W,OrdIs W M m O→Below w.heap.size w W→Calls Tryd.prog 122 #[scV M pv,.int .i64 2,.slice a kids.len cap] W fun e w'=>e=.returned (.tuple #[.int .i64 q1,.int .i64 q2])∧Below W.heap.size W w') :
  Calls Tryd.prog 95 #[scV M pv,.agg #[.string op,.string name,.int .i64 n,.int .i64 pos,.slice a kids.len cap]] w fun e w'=>e=.returned (.tuple #[.int .i64 0,.int .i64 q1,.int .i64 q2])∧Below w.heap.size w w':=by
 have hc2:=cellsScope
 have hc5:=cellsNode
 have HW:=Lib.hid (two_boxes w (scBox M pv) (boxOf op name n pos a kids.len cap))
 have hx:w.heap.size < (w.alloc (scBox M pv)).heap.size:=by simp
 have HS:=Lib.hid ((Below.heap_alloc (w.alloc (scBox M pv)) (boxOf op name n pos a kids.len cap) _ hx).trans (new_at w (scBox M pv)))
 have HB:=Lib.hid (show ((w.alloc (scBox M pv)).alloc (boxOf op name n pos a kids.len cap)).heap[w.heap.size+1]? = some (boxOf op name n pos a kids.len cap) from by have h:=new_at (w.alloc (scBox M pv)) (boxOf op name n pos a kids.len cap);rw [alloc_size] at h;exact h)
 obtain ⟨k0,k1⟩:=sc_cells HS.out
 obtain ⟨b0,b1,b2,b3,b4⟩:=box_cells HB.out
 have HC:=Lib.hid (hc _ (ho.below HW.out) HW.out)
 clear ho hc
 have hqb:(q2 != 0)=true:=by simp [hq]
 clear hq
 go_enter Tryd.func95,Tryd.ntmps95
 go_wp2_with fail
 refine HC.out.mono ?_
 rintro e w2 ⟨rfl,hb2⟩
 have hbb:=HW.out.trans (hb2.mono HW.out.size)
 clear hb2 HC
 go_wp2_with fail
 go_ret3
 exact ⟨rfl,hbb⟩
end Go.Proofs.YtmlmjopfbohglaaDoor
namespace Go.Proofs.YtmlmjopfbohglaaDoor
open Go.RowKit
abbrev emp0:ByteArray:=⟨#[]⟩
inductive Res (α:Type) where
 | ok (x:α) (l:List Tok)
 | bad (at' err:Int)
def Fo.ofL:List Nd→Fo
 | []=>.nil
 | T :: r=>.cons T.op T.name T.n T.pos none 0 T.kids (Fo.ofL r)
def mkN (op name:ByteArray) (n pos:Int) (kids:List Nd):Nd:=⟨op,name,n,pos,none,0,Fo.ofL kids⟩
def Fo.strip:Fo→Fo
 | .nil=>.nil
 | .cons op name n pos _ _ kids rest=>.cons op name n pos none 0 kids.strip rest.strip
def Nd.strip (T:Nd):Nd:=⟨T.op,T.name,T.n,T.pos,none,0,T.kids.strip⟩
def hd (l:List Tok):Tok:=l.headD ⟨0,⟨#[]⟩,0,0⟩
def wrd (l:List Tok):ByteArray:=if (hd l).kind == 3 then (hd l).text else ⟨#[]⟩
def psigs:List (Int × ByteArray × ByteArray):=[(0,⟨#[60,61,62]⟩,⟨#[105,102,102]⟩),(1,⟨#[61,62]⟩,⟨#[105,109,112]⟩),(2,⟨#[124]⟩,⟨#[111,114]⟩),(3,⟨#[38]⟩,⟨#[97,110,100]⟩),(4,⟨#[61]⟩,⟨#[101,113]⟩),(4,⟨#[126,61]⟩,⟨#[110,101]⟩),(4,⟨#[60]⟩,⟨#[108,116]⟩),(4,⟨#[60,61]⟩,⟨#[108,101]⟩),(4,⟨#[105,110]⟩,⟨#[105,110]⟩),(4,⟨#[110,111,116,105,110]⟩,⟨#[110,111,116,105,110]⟩),(4,⟨#[115,117,98]⟩,⟨#[115,117,98]⟩),(5,⟨#[117,110,105,111,110]⟩,⟨#[117,110,105,111,110]⟩),(5,⟨#[105,110,116,101,114]⟩,⟨#[105,110,116,101,114]⟩),(5,⟨#[92]⟩,⟨#[109,105,110,117,115]⟩)]
def psgF (lv:Int) (x:ByteArray):List (Int × ByteArray × ByteArray)→ByteArray
 | []=>⟨#[]⟩
 | s :: r=>if s.1 == lv && s.2.1.toList == x.toList then s.2.2 else psgF lv x r
def psg (lv:Int) (x:ByteArray):ByteArray:=psgF lv x psigs
def clo (br:Bool):List UInt8:=if br then [125] else [41]
abbrev tSetB:ByteArray:=⟨#[115,101,116]⟩
abbrev tPlusB:ByteArray:=⟨#[112,108,117,115]⟩
abbrev tVarB:ByteArray:=⟨#[118,97,114]⟩
abbrev tNumB:ByteArray:=⟨#[110,117,109]⟩
abbrev tCallB:ByteArray:=⟨#[99,97,108,108]⟩
abbrev tIsB:ByteArray:=⟨#[105,115]⟩
abbrev tNotB:ByteArray:=⟨#[110,111,116]⟩
abbrev tExB:ByteArray:=⟨#[101,120]⟩
abbrev tAllB:ByteArray:=⟨#[97,108,108]⟩
def ordW (w:List UInt8):Int:=(w.getLastD 48).toNat - 48
def isExW (w:List UInt8):Bool:=w == [101,120,48] || w == [101,120,49] || w == [101,120,50]
def isAllW (w:List UInt8):Bool:=w == [97,108,108,48] || w == [97,108,108,49] || w == [97,108,108,50]
mutual
def pPart:Nat→Bool→List Tok→Res Nd
 | 0,_,_=>.bad 0 0
 | f+1,br,l =>
  if (wrd l).toList == [123] then
   (if br then .bad (hd l).pos 2 else match pList f true l.tail with
    | .ok ks l'=>.ok (mkN tSetB emp0 0 (hd l).pos ks) l'
    | .bad a e=>.bad a e)
  else if (hd l).kind == 1 then
   (if (wrd l.tail).toList == [43] then
    (if (hd l.tail.tail).kind == 2 && !((hd l.tail.tail).n == 0) then .ok (mkN tPlusB emp0 (hd l.tail.tail).n (hd l).pos [mkN tVarB (hd l).text 0 (hd l).pos []]) l.tail.tail.tail else .bad (hd l.tail.tail).pos 2)
   else .ok (mkN tVarB (hd l).text 0 (hd l).pos []) l.tail)
  else if (hd l).kind == 2 then .ok (mkN tNumB emp0 (hd l).n (hd l).pos []) l.tail
  else .bad (hd l).pos 2
def pList:Nat→Bool→List Tok→Res (List Nd)
 | 0,_,_=>.bad 0 0
 | f+1,br,l =>
  if (wrd l).toList == clo br then .ok [] l.tail
  else match pKid f br l with
   | .ok n l'=>pListL f br [n] l'
   | .bad a e=>.bad a e
def pKid:Nat→Bool→List Tok→Res Nd
 | 0,_,_=>.bad 0 0
 | f+1,true,l=>pPart f true l
 | f+1,false,l=>pTerm f l
def pListL:Nat→Bool→List Nd→List Tok→Res (List Nd)
 | 0,_,_,_=>.bad 0 0
 | f+1,br,acc,l =>
  if (wrd l).toList == [44] then
   (if acc.length == 6 then .bad (hd l.tail).pos 2
   else match pKid f br l.tail with
    | .ok n l'=>pListL f br (acc ++ [n]) l'
    | .bad a e=>.bad a e)
  else if (wrd l).toList == clo br then .ok acc l.tail else .bad (hd l).pos 2
def pTerm:Nat→List Tok→Res Nd
 | 0,_=>.bad 0 0
 | f+1,l=>match pPart f false l with
  | .ok n l'=>pTermL f n l'
  | .bad a e=>.bad a e
def pTermL:Nat→Nd→List Tok→Res Nd
 | 0,_,_=>.bad 0 0
 | f+1,n,l =>
  if (psg 5 (wrd l)).toList == [] then .ok n l
  else match pPart f false l.tail with
   | .ok k l'=>pTermL f (mkN (psg 5 (wrd l)) emp0 0 (hd l).pos [n,k]) l'
   | .bad a e=>.bad a e
end
def pAtom (f:Nat) (l:List Tok):Res Nd :=
 if (hd l).kind == 1 && (wrd l.tail).toList == [40] then
  (match pList f false l.tail.tail with
   | .ok ks l'=>.ok (mkN tCallB (hd l).text 0 (hd l).pos ks) l'
   | .bad a e=>.bad a e)
 else match pTerm f l with
  | .ok n l' =>
   if (psg 4 (wrd l')).toList == [] then (if n.op.toList == [118,97,114] then .ok (mkN tIsB n.name 0 n.pos []) l' else .bad (hd l).pos 2)
   else (match pTerm f l'.tail with
    | .ok m l2=>.ok (mkN (psg 4 (wrd l')) emp0 0 (hd l').pos [n,m]) l2
    | .bad a e=>.bad a e)
  | .bad a e=>.bad a e
mutual
def pUn:Nat→Nat→List Tok→Res Nd
 | 0,_,_=>.bad 0 0
 | f+1,d,l =>
  if 29 < d then .bad (hd l).pos 4
  else if (wrd l).toList == [126] then
   (match pUn f (d+1) l.tail with
    | .ok n l'=>.ok (mkN tNotB emp0 0 (hd l).pos [n]) l'
    | .bad a e=>.bad a e)
  else if isExW (wrd l).toList then pQuant f tExB d l
  else if isAllW (wrd l).toList then pQuant f tAllB d l
  else if (wrd l).toList == [116,114,117,101] || (wrd l).toList == [102,97,108,115,101] then .ok (mkN (hd l).text emp0 0 (hd l).pos []) l.tail
  else if (wrd l).toList == [40] then
   (match pForm f (d+1) l.tail with
    | .ok n l'=>if (wrd l').toList == [41] then .ok n l'.tail else .bad (hd l').pos 2
    | .bad a e=>.bad a e)
  else pAtom f l
def pQuant:Nat→ByteArray→Nat→List Tok→Res Nd
 | 0,_,_,_=>.bad 0 0
 | f+1,op,d,l =>
  if (hd l.tail).kind == 1 then
   (if (wrd l.tail.tail).toList == [58] then
    (match pForm f (d+1) l.tail.tail.tail with
     | .ok n l'=>.ok (mkN op (hd l.tail).text (ordW (hd l).text.toList) (hd l).pos [n]) l'
     | .bad a e=>.bad a e)
   else .bad (hd l.tail.tail).pos 2)
  else .bad (hd l.tail).pos 2
def pAnd:Nat→Nat→List Tok→Res Nd
 | 0,_,_=>.bad 0 0
 | f+1,d,l=>match pUn f d l with
  | .ok n l'=>pAndL f d n l'
  | .bad a e=>.bad a e
def pAndL:Nat→Nat→Nd→List Tok→Res Nd
 | 0,_,_,_=>.bad 0 0
 | f+1,d,n,l =>
  if (psg 3 (wrd l)).toList == [] then .ok n l
  else match pUn f d l.tail with
   | .ok k l'=>pAndL f d (mkN (psg 3 (wrd l)) emp0 0 (hd l).pos [n,k]) l'
   | .bad a e=>.bad a e
def pOr:Nat→Nat→List Tok→Res Nd
 | 0,_,_=>.bad 0 0
 | f+1,d,l=>match pAnd f d l with
  | .ok n l'=>pOrL f d n l'
  | .bad a e=>.bad a e
def pOrL:Nat→Nat→Nd→List Tok→Res Nd
 | 0,_,_,_=>.bad 0 0
 | f+1,d,n,l =>
  if (psg 2 (wrd l)).toList == [] then .ok n l
  else match pAnd f d l.tail with
   | .ok k l'=>pOrL f d (mkN (psg 2 (wrd l)) emp0 0 (hd l).pos [n,k]) l'
   | .bad a e=>.bad a e
def pForm:Nat→Nat→List Tok→Res Nd
 | 0,_,_=>.bad 0 0
 | f+1,d,l=>match pImp f d l with
  | .ok n l'=>pFormL f d n l'
  | .bad a e=>.bad a e
def pFormL:Nat→Nat→Nd→List Tok→Res Nd
 | 0,_,_,_=>.bad 0 0
 | f+1,d,n,l =>
  if (psg 0 (wrd l)).toList == [] then .ok n l
  else match pImp f d l.tail with
   | .ok k l'=>pFormL f d (mkN (psg 0 (wrd l)) emp0 0 (hd l).pos [n,k]) l'
   | .bad a e=>.bad a e
def pImp:Nat→Nat→List Tok→Res Nd
 | 0,_,_=>.bad 0 0
 | f+1,d,l=>match pOr f d l with
  | .ok n l' =>
   if (psg 1 (wrd l')).toList == [] then .ok n l'
   else (match pImp f d l'.tail with
    | .ok k l2=>.ok (mkN (psg 1 (wrd l')) emp0 0 (hd l').pos [n,k]) l2
    | .bad a e=>.bad a e)
  | .bad a e=>.bad a e
end
end Go.Proofs.YtmlmjopfbohglaaDoor
