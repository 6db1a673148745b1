/- Parts of the proof: KI KJ KL. -/
import Derived.Test.YtmlmjopfbohglaaDoorWd08
namespace Go.Proofs.YtmlmjopfbohglaaDoor
open Go.RowKit
open Go.Maps
theorem okF_parts {T:Nd} (h:T.okF=true) :
  ((T.op.toList == [101,120])=true∨(T.op.toList == [97,108,108])=true→T.kids.len=1∧T.kids.allB Nd.okF=true) ∧
  (opFr T.op=true→T.kids.len=2∧T.kids.allB Nd.okT=true) ∧
  ((T.op.toList == [99,97,108,108])=true→T.kids.allB Nd.okT=true) ∧
  ((T.op.toList == [101,120])=false→(T.op.toList == [97,108,108])=false→(T.op.toList == [105,115])=false→opFr T.op=false→(T.op.toList == [99,97,108,108])=false→T.kids.allB Nd.okF=true):=by
 have h0:stepF T.op T.name T.n T.kids.len T.kids.sorts.f T.kids.sorts.t=true:=h
 refine ⟨fun hq=>?_,fun hr=>?_,fun hc=>?_,fun n1 n2 n3 n4 n5=>?_⟩
 ·have h1:fitB true T.name 0 2 T.n 1 1 T.kids.len T.kids.sorts.f=true:=by
   rcases hq with hq | hq <;>
   ·rw [beq_iff_eq] at hq
    unfold stepF opF0 opF2 opFq at h0
    rw [hq] at h0
    simpa using h0
  have h2:=fitB_len h1
  have h3:=h2.2.2
  rw [sorts_f] at h3
  exact ⟨by omega,h3⟩
 ·have h1:fitB false T.name 0 0 T.n 2 2 T.kids.len T.kids.sorts.t=true:=by
   unfold opFr at hr
   simp only [Bool.or_eq_true,beq_iff_eq] at hr
   rcases hr with (((((hr | hr) | hr) | hr) | hr) | hr) | hr <;>
   ·unfold stepF opF0 opF2 opFq opFr at h0
    rw [hr] at h0
    simpa using h0
  have h2:=fitB_len h1
  have h3:=h2.2.2
  rw [sorts_t] at h3
  exact ⟨by omega,h3⟩
 ·have h1:fitB true T.name 0 0 T.n 0 6 T.kids.len T.kids.sorts.t=true:=by
   rw [beq_iff_eq] at hc
   unfold stepF opF0 opF2 opFq opFr at h0
   rw [hc] at h0
   simpa using h0
  have h2:=fitB_len h1
  have h3:=h2.2.2
  rw [sorts_t] at h3
  exact h3
 ·unfold stepF at h0
  split at h0
  ·have h2:=fitB_len h0
   rw [nil_of_len (F:=T.kids) (by omega)]
   rfl
  ·split at h0
   ·have h2:=(fitB_len h0).2.2
    rw [sorts_f] at h2
    exact h2
   ·split at h0
    ·have h2:=(fitB_len h0).2.2
     rw [sorts_f] at h2
     exact h2
    ·rw [if_neg (by unfold opFq;rw [n1,n2];decide),if_neg (by rw [n3];decide),if_neg (by rw [n4];decide),if_neg (by rw [n5];decide)] at h0
     cases h0
theorem kp_keep {w w':World} {M m:Nat} {O:ByteArray→Int} {b:Nat} (ho:OrdIs w M m O) (h:Below w.heap.size w w'):Kp M w w'∧∃ m',m'≤m+b∧OrdIs w' M m' O:=⟨Kp.of_below h,m,by omega,ho.below h⟩
theorem fs_one (Q:ByteArray→Option (List Dc)) (op name:ByteArray) (n pos:Int) (a:Option Addr) (cap:Nat) (kids:Fo) (O:ByteArray→Int):Fo.fs Q (.cons op name n pos a cap kids .nil) O=if (Nd.fk Q O ⟨op,name,n,pos,a,cap,kids⟩).2=0 then (0,0) else Nd.fk Q O ⟨op,name,n,pos,a,cap,kids⟩:=rfl
theorem relK_pos0 (op:ByteArray) (pos:Int) (x y:KR) (h:(relK op pos x y).2=0):relK op pos x y=(0,0):=by
 revert h
 unfold relK
 repeat' split
 all_goals first | (intro _;rfl) | (intro h;exact absurd h (by first | assumption | simp))
theorem mustK_pos0 {want:Int} {r:KR} {p:Int} {q:Int × Int} (hq:q.2=0→q=(0,0)) (h:(mustK want r p q).2=0):mustK want r p q=(0,0):=by
 revert h
 unfold mustK
 split
 ·split
  ·exact hq
  ·intro h;exact absurd h (by simp)
 ·rename_i he
  intro h;exact absurd h he
theorem callK_pos0 (O:ByteArray→Int) (pos:Int):∀ (F:Fo) (ds:List Dc),(callK O pos F ds).2=0→callK O pos F ds=(0,0):=by
 intro F
 induction F with
 | nil=>intro ds _;cases ds <;> rfl
 | cons op name n p a cap kids rest ihk ihr =>
  intro ds
  cases ds with
  | nil=>intro _;rfl
  | cons d ds =>
   rw [callK_must]
   exact mustK_pos0 (ihr ds)
theorem fk_pos0 (Q:ByteArray→Option (List Dc)):∀ F:Fo,(∀ O,(F.fs Q O).2=0→F.fs Q O=(0,0))∧Fo.All (fun T=>∀ O,(T.fk Q O).2=0→T.fk Q O=(0,0)) F:=by
 intro F
 induction F with
 | nil=>exact ⟨fun _ _=>rfl,trivial⟩
 | cons op name n pos a cap kids rest ihk ihr =>
  have h1:∀ O,(Nd.fk Q O ⟨op,name,n,pos,a,cap,kids⟩).2=0→Nd.fk Q O ⟨op,name,n,pos,a,cap,kids⟩=(0,0):=by
   intro O
   unfold Nd.fk stepFK
   split
   ·exact ihk.1 _
   ·split
    ·split
     ·intro h;exact absurd h (by simp)
     ·split
      ·intro _;rfl
      ·intro h;exact absurd h (by simp)
    ·split
     ·exact relK_pos0 _ _ _ _
     ·split
      ·split
       ·intro h;exact absurd h (by simp)
       ·split
        ·exact callK_pos0 _ _ _ _
        ·intro h;exact absurd h (by simp)
      ·exact ihk.1 _
  refine ⟨fun O=>?_,h1,ihr.2⟩
  show (if (Nd.fk Q O ⟨op,name,n,pos,a,cap,kids⟩).2=0 then rest.fs Q O else Nd.fk Q O ⟨op,name,n,pos,a,cap,kids⟩).2=0→(if (Nd.fk Q O ⟨op,name,n,pos,a,cap,kids⟩).2=0 then rest.fs Q O else Nd.fk Q O ⟨op,name,n,pos,a,cap,kids⟩)=(0,0)
  split
  ·exact ihr.1 O
  ·rename_i he
   intro h;exact absurd h he
theorem kformula_of (T:Nd) (hk:Fo.All SayFk T.kids):SayFk T:=by
 intro w M m pv O Q ho hp hin hsz hok hm
 obtain ⟨hA,hB,hC,hD⟩:=okF_parts hok
 have hts:T.size=T.kids.size+1:=rfl
 obtain ⟨op,name,n,pos,a,cap,kids⟩:=T
 have hs1:name.size≤140737488351232:=hsz.1
 have hs2:kids.sized:=hsz.2
 have hkin:KidsIn w a kids:=hin
 simp only [] at hA hB hC hD hk hts
 rw [hts] at hm ⊢
 have e1:([101,120]:List UInt8)=[101,120]:=rfl
 rw [Nd.val_def]
 simp only []
 have hquant:(op.toList == [101,120])=true∨(op.toList == [97,108,108])=true→∀ W,Below w.heap.size w W→Calls Tryd.prog 67 #[scV M pv,.agg #[.string op,.string name,.int .i64 n,.int .i64 pos,.slice a kids.len cap]] W fun e w'=>e=.returned (.tuple #[.int .i64 (Nd.fk Q O ⟨op,name,n,pos,a,cap,kids⟩).1,.int .i64 (Nd.fk Q O ⟨op,name,n,pos,a,cap,kids⟩).2])∧(Kp M w w'∧∃ m',m'≤m+2 * (kids.size+1)∧OrdIs w' M m' O):=by
  intro hq W hW
  obtain ⟨hl,hkf⟩:=hA hq
  have hfk:Nd.fk Q O ⟨op,name,n,pos,a,cap,kids⟩=kids.fs Q (updO O name n):=by
   unfold Nd.fk stepFK
   rw [if_pos (by rcases hq with h | h <;> simp [h])]
  cases kids with
  | nil=>cases hl
  | cons op1 name1 n1 pos1 a1 cap1 kids1 rest =>
   have hl1:rest.len+1=1:=hl
   have hr:rest=.nil:=nil_of_len (by omega)
   subst hr
   rcases hkin with h | ⟨kb,ko,rfl,hlim,hpos,hnode,hin1,hrest⟩
   ·cases h
   ·have hkk:(Nd.okF ⟨op1,name1,n1,pos1,a1,cap1,kids1⟩ && Fo.nil.allB Nd.okF)=true:=hkf
    rw [Bool.and_eq_true] at hkk
    have hP:SayFk ⟨op1,name1,n1,pos1,a1,cap1,kids1⟩:=hk.1
    have hin3:Nd.In w ⟨op1,name1,n1,pos1,a1,cap1,kids1⟩:=hin1
    have hz:Fo.size (.cons op1 name1 n1 pos1 a1 cap1 kids1 .nil)=kids1.size+1+0:=rfl
    have hz2:Nd.size ⟨op1,name1,n1,pos1,a1,cap1,kids1⟩=kids1.size+1:=rfl
    rw [hz] at hm ⊢
    have hfe:Nd.fk Q O ⟨op,name,n,pos,some ⟨kb,ko,none⟩,cap,.cons op1 name1 n1 pos1 a1 cap1 kids1 .nil⟩=Nd.fk Q (updO O name n) ⟨op1,name1,n1,pos1,a1,cap1,kids1⟩:=by
     rw [hfk,fs_one]
     split
     ·rename_i h0
      exact (((fk_pos0 Q (.cons op1 name1 n1 pos1 a1 cap1 kids1 .nil)).2.1 (updO O name n)) h0).symm
     ·rfl
    have h:=kquant_of op name n pos kb ko (Fo.len (.cons op1 name1 n1 pos1 a1 cap1 kids1 .nil)) cap op1 name1 n1 pos1 a1 kids1.len cap1 W M m (m+1+2 * (kids1.size+1)) pv O (ho.below hW) hs1 (by rw [hl];omega) (by omega) (by omega) (hnode.below hW) (Nd.fk Q (updO O name n) ⟨op1,name1,n1,pos1,a1,cap1,kids1⟩).1 (Nd.fk Q (updO O name n) ⟨op1,name1,n1,pos1,a1,cap1,kids1⟩).2
     (fun W2 g1 g2 g3=>by
      have hh:=hP W2 M (m+1) pv (updO O name n) Q g1 ((hp.below hW).kp g2 g3) ((hin3.below hW).cl g3) ⟨hs2.1,hs2.2.1⟩ hkk.1 (by rw [hz2];omega)
      rw [hz2,Nd.val_def] at hh
      exact hh)
    refine h.mono ?_
    rintro e w' ⟨rfl,hk1,m',hm',ho'⟩
    rw [hfe]
    exact ⟨rfl,(Kp.of_below hW).trans hk1,m',by omega,ho'⟩
 have hrel:opFr op=true→(op.toList == [101,120])=false→(op.toList == [97,108,108])=false→(op.toList == [105,115])=false→∀ W,Below w.heap.size w W→Calls Tryd.prog 69 #[scV M pv,.agg #[.string op,.string name,.int .i64 n,.int .i64 pos,.slice a kids.len cap]] W fun e w'=>e=.returned (.tuple #[.int .i64 (Nd.fk Q O ⟨op,name,n,pos,a,cap,kids⟩).1,.int .i64 (Nd.fk Q O ⟨op,name,n,pos,a,cap,kids⟩).2])∧(Kp M w w'∧∃ m',m'≤m+2 * (kids.size+1)∧OrdIs w' M m' O):=by
  intro hr n0 n1' n2 W hW
  obtain ⟨hl,hkt⟩:=hB hr
  have hfk:Nd.fk Q O ⟨op,name,n,pos,a,cap,kids⟩=relK op pos (kids.ks O).h (kids.rest.ks O).h:=by
   unfold Nd.fk stepFK
   simp only [n0,n1',n2,hr]
   rfl
  cases kids with
  | nil=>cases hl
  | cons op1 name1 n1 pos1 a1 cap1 kids1 rest =>
   cases rest with
   | nil=>cases hl
   | cons op2 name2 n2 pos2 a2 cap2 kids2 rest2 =>
    rcases hkin with h | ⟨kb,ko,rfl,hlim,hpos,hnode,hin1,hnode2,hin2,hrest⟩
    ·cases h
    ·have hkk:(Nd.okT ⟨op1,name1,n1,pos1,a1,cap1,kids1⟩ && (Nd.okT ⟨op2,name2,n2,pos2,a2,cap2,kids2⟩ && rest2.allB Nd.okT))=true:=hkt
     rw [Bool.and_eq_true,Bool.and_eq_true] at hkk
     have hi1:Nd.In w ⟨op1,name1,n1,pos1,a1,cap1,kids1⟩:=hin1
     have hi2:Nd.In w ⟨op2,name2,n2,pos2,a2,cap2,kids2⟩:=hin2
     have h:=krel_any op name n pos kb ko (Fo.len (.cons op1 name1 n1 pos1 a1 cap1 kids1 (.cons op2 name2 n2 pos2 a2 cap2 kids2 rest2))) cap W M m pv O (ho.below hW) hl op1 name1 n1 pos1 a1 kids1.len cap1 op2 name2 n2 pos2 a2 kids2.len cap2 (hnode.below hW) (hnode2.below hW) (Nd.kd O ⟨op1,name1,n1,pos1,a1,cap1,kids1⟩) (Nd.kd O ⟨op2,name2,n2,pos2,a2,cap2,kids2⟩)
      (fun W2 g1 g2=>kkind_all ⟨op1,name1,n1,pos1,a1,cap1,kids1⟩ W2 M m pv O g1 ((hi1.below hW).below g2) ⟨hs2.1,hs2.2.1⟩ hkk.1)
      (fun W2 g1 g2=>kkind_all ⟨op2,name2,n2,pos2,a2,cap2,kids2⟩ W2 M m pv O g1 ((hi2.below hW).below g2) ⟨hs2.2.2.1,hs2.2.2.2.1⟩ hkk.2.1)
     refine h.mono ?_
     rintro e w' ⟨rfl,hb⟩
     rw [hfk]
     exact ⟨rfl,kp_keep ho (hW.trans (hb.mono hW.size))⟩
 rcases bool_two (op.toList == [101,120]) with h0 | h0
 ·exact kform_ex op name n pos a cap kids w M pv _ h0 _ _ (hquant (.inl h0))
 rcases bool_two (op.toList == [97,108,108]) with h1 | h1
 ·exact kform_all op name n pos a cap kids w M pv _ h0 h1 _ _ (hquant (.inr h1))
 rcases bool_two (op.toList == [105,115]) with h2 | h2
 ·refine kform_is op name n pos a cap kids w M pv _ h0 h1 h2 _ _ (fun W hW=>?_)
  have hfk:Nd.fk Q O ⟨op,name,n,pos,a,cap,kids⟩=(if O name < 0 then (pos,(5:Int)) else if O name=0 then (0,0) else (pos,7)):=by
   unfold Nd.fk stepFK
   simp only [h0,h1,h2]
   rfl
  rw [hfk]
  refine (kflag_any op name n pos a cap kids W M m pv O (ho.below hW) hs1).mono ?_
  rintro e w' ⟨rfl,hb⟩
  exact ⟨rfl,kp_keep ho (hW.trans (hb.mono hW.size))⟩
 rcases bool_two (op.toList == [101,113]) with h3 | h3
 ·exact kform_eq op name n pos a cap kids w M pv _ h0 h1 h2 h3 _ _ (hrel (by unfold opFr;simp [h3]) h0 h1 h2)
 rcases bool_two (op.toList == [110,101]) with h4 | h4
 ·exact kform_ne op name n pos a cap kids w M pv _ h0 h1 h2 h3 h4 _ _ (hrel (by unfold opFr;simp [h4]) h0 h1 h2)
 rcases bool_two (op.toList == [108,116]) with h5 | h5
 ·exact kform_lt op name n pos a cap kids w M pv _ h0 h1 h2 h3 h4 h5 _ _ (hrel (by unfold opFr;simp [h5]) h0 h1 h2)
 rcases bool_two (op.toList == [108,101]) with h6 | h6
 ·exact kform_le op name n pos a cap kids w M pv _ h0 h1 h2 h3 h4 h5 h6 _ _ (hrel (by unfold opFr;simp [h6]) h0 h1 h2)
 rcases bool_two (op.toList == [105,110]) with h7 | h7
 ·exact kform_in op name n pos a cap kids w M pv _ h0 h1 h2 h3 h4 h5 h6 h7 _ _ (hrel (by unfold opFr;simp [h7]) h0 h1 h2)
 rcases bool_two (op.toList == [110,111,116,105,110]) with h8 | h8
 ·exact kform_notin op name n pos a cap kids w M pv _ h0 h1 h2 h3 h4 h5 h6 h7 h8 _ _ (hrel (by unfold opFr;simp [h8]) h0 h1 h2)
 rcases bool_two (op.toList == [115,117,98]) with h9 | h9
 ·exact kform_sub op name n pos a cap kids w M pv _ h0 h1 h2 h3 h4 h5 h6 h7 h8 h9 _ _ (hrel (by unfold opFr;simp [h9]) h0 h1 h2)
 have hnr:opFr op=false:=by unfold opFr;rw [h3,h4,h5,h6,h7,h8,h9];rfl
 rcases bool_two (op.toList == [99,97,108,108]) with h10 | h10
 ·refine kform_call op name n pos a cap kids w M pv _ h0 h1 h2 h3 h4 h5 h6 h7 h8 h9 h10 _ _ (fun W hW=>?_)
  have hfk:Nd.fk Q O ⟨op,name,n,pos,a,cap,kids⟩=callR O Q name pos kids:=by
   unfold Nd.fk stepFK callR
   simp only [h0,h1,h2,hnr,h10]
   rfl
  rw [hfk]
  have hkW:KidsIn W a kids:=((show Nd.In w ⟨op,name,n,pos,a,cap,kids⟩ from hkin).below hW:Nd.In W ⟨op,name,n,pos,a,cap,kids⟩)
  refine (kcall_any op name n pos a cap kids W M m pv O Q (ho.below hW) (hp.below hW) hs1 hkW hs2 (hC h10)).mono ?_
  rintro e w' ⟨rfl,hb⟩
  exact ⟨rfl,kp_keep ho (hW.trans (hb.mono hW.size))⟩
 ·have hfk:Nd.fk Q O ⟨op,name,n,pos,a,cap,kids⟩=kids.fs Q O:=by
   unfold Nd.fk stepFK
   simp only [h0,h1,h2,hnr,h10]
   rfl
  rw [hfk]
  refine (kform_kids op name n pos a cap kids w M m pv O Q ho hp hkin hs2 (hD h0 h1 h2 hnr h10) hk (by omega) h0 h1 h2 h3 h4 h5 h6 h7 h8 h9 h10).mono ?_
  rintro e w' ⟨he,hk1,m',hm',ho'⟩
  exact ⟨he,hk1,m',by omega,ho'⟩
theorem kformula_all (T:Nd):SayFk T:=Nd.all_of (P:=SayFk) (fun T hk=>kformula_of T hk) T
def inB (x:ByteArray) (l:List ByteArray):Bool:=l.any fun y=>decide (y=x)
def twD:List ByteArray→List Dc→Option Int
 | _,[]=>none
 | seen,d :: r=>if inB d.name seen=true then some d.pos else twD (seen ++ [d.name]) r
def onceR (l:List Dc):Int × Int:=match twD [] l with | some p=>(p,6) | none=>(0,0)
abbrev dcBox (t:ByteArray) (o p:Int):Obj:=.cells #[.string t,.int .i64 o,.int .i64 p] 55
theorem dc_cells {w:World} {B:Nat} {t:ByteArray} {o p:Int} (h:w.heap[B]? = some (dcBox t o p)):w.cell? ⟨B,0,none⟩=some (.string t)∧w.cell? ⟨B,1,none⟩=some (.int .i64 o)∧w.cell? ⟨B,2,none⟩=some (.int .i64 p):=by
 refine ⟨?_,?_,?_⟩ <;> (rw [cell_of_row _ _ _ _ _ _ h];rfl)
theorem zeroUnit (w:World):(zeroValue 87).run Tryd.prog w=.ok (.agg #[]) w:=by kernel_rfl
def seenF (l:List ByteArray):ByteArray→Option Value:=fun s=>if inB s l=true then some (.agg #[]) else none
theorem seenF_snoc (l:List ByteArray) (x:ByteArray) (s:ByteArray):(if s=x then some (.agg #[]) else seenF l s)=seenF (l ++ [x]) s:=by
 unfold seenF inB
 rw [List.any_append]
 by_cases hs:s=x
 ·simp [hs]
 ·have h2:([x].any fun y=>decide (y=s))=false:=by simp;exact fun h=>hs h.symm
  rw [if_neg hs,h2,Bool.or_false]
theorem twD_cons (seen:List ByteArray) (d:Dc) (r:List Dc):twD seen (d :: r)=if inB d.name seen=true then some d.pos else twD (seen ++ [d.name]) r:=rfl
set_option maxRecDepth 100000 in
set_option maxHeartbeats 16000000 in
theorem konce_any (l:List Dc) (a:Option Addr) (cap:Nat) (w:World) (hl:l.length≤1000000) (h:DcsIn w a l) :
  Calls Tryd.prog 37 #[.slice a l.length cap] w fun e w'=>e=.returned (.tuple #[.int .i64 (onceR l).1,.int .i64 (onceR l).2])∧Below w.heap.size w w':=by
 have hc3:=cellsDecl
 have hmm:=@run_makeMap Tryd.prog
 rcases h with rfl | ⟨b,o,rfl,hlim,hat,hsz⟩
 ·show Calls _ _ #[.slice a 0 cap] w fun e w'=>e=.returned (.tuple #[.int .i64 0,.int .i64 0])∧_
  go_enter Tryd.func37,Tryd.ntmps37
  go_wp2_with fail
  go_loopw [12] (fun i wr=>i=.int .i64 0∧Below w.heap.size w wr) (fun _ _=>0)
  case atStart=>exact ⟨rfl,below_box _ _⟩
  case round =>
   obtain ⟨rfl,hbx⟩:=hrel
   go_wp2_with fail
   go_ret2
   exact ⟨rfl,hbx⟩
 ·have HA:=Lib.hid hat
  have HS:=Lib.hid hsz
  obtain ⟨q0,hq0⟩:∃ q0,q0=onceR l:=⟨_,rfl⟩
  rw [← hq0]
  have HQ:=Lib.hid hq0
  have HM0:=Lib.hid (SMap.made Tryd.prog 9 w)
  clear hat hsz hq0
  go_enter Tryd.func37,Tryd.ntmps37
  go_wp2_with fail
  go_loopw [12] (fun i wr=>∃ k:Nat,i=.int .i64 k∧k≤l.length∧RowKit.Hid (q0=match twD ((l.take k).map Dc.name) (l.drop k) with | some p=>(p,6) | none=>(0,0))∧Below w.heap.size w wr∧RowKit.Hid (SMap Tryd.prog 9 wr w.heap.size k (seenF ((l.take k).map Dc.name)))) (fun i _=>l.length - (intOf i).toNat)
  case atStart=>exact ⟨0,rfl,by omega,HQ,below_box _ _,HM0⟩
  case round =>
   obtain ⟨k,rfl,hk,HL,hbx,HM⟩:=hrel
   by_cases hkl:k < l.length
   ·have hkl2:(k:Int) < l.length:=by omega
    have hg:=List.getElem?_eq_getElem hkl
    obtain ⟨c0,c1,c2⟩:=(HA.out k (l[k]'hkl) hg).below hbx
    have hns:=HS.out (l[k]'hkl) (List.getElem_mem _)
    have hdr:l.drop k=(l[k]'hkl) :: l.drop (k+1):=List.drop_eq_getElem_cons hkl
    have htk:l.take (k+1)=l.take k ++ [l[k]'hkl]:=by rw [List.take_add_one,hg];rfl
    clear hg
    generalize (l[k]'hkl)=d at c0 c1 c2 hns hdr htk
    obtain ⟨nm,od,po⟩:=d
    simp only [] at c0 c1 c2 hns
    have hnm:nm.size≤maxLen:=by unfold maxLen;omega
    have hq:q0=(match (if inB nm ((l.take k).map Dc.name)=true then some po else twD (((l.take k).map Dc.name) ++ [nm]) (l.drop (k+1))) with | some p=>(p,6) | none=>(0,0)):=by rw [HL.out,hdr,twD_cons]
    have hmap:(l.take (k+1)).map Dc.name=(l.take k).map Dc.name ++ [nm]:=by rw [htk,List.map_append];rfl
    have HMA:=Lib.hid (HM.out.same (Below.heap_alloc wr (dcBox nm od po) _ HM.out.lt))
    obtain ⟨x0,x1,x2⟩:=dc_cells (new_at wr (dcBox nm od po))
    have hMl:=HM.out.lt
    generalize hsn:(l.take k).map Dc.name=seen at HMA hq hmap
    clear hdr htk HL hsn
    rcases bool_two (inB nm seen) with hc | hc
    ·have hz:q0=(po,6):=by rw [hq,if_pos hc]
     have HN:=Lib.hid (show seenF seen nm=some (.agg #[]) from by unfold seenF;rw [if_pos hc])
     subst hz
     clear hq hc hmap HQ
     go_wp2_with (at_lookup;refine wpList_lookup_smap _ rfl _ _ 86 rfl 9 87 Tryd.underlying9 Tryd.underlying86 (zeroUnit _) w.heap.size k (seenF seen) rfl HMA.out nm rfl hnm ?_;rw [HN.out])
     go_wp2_with fail
     go_ret2
     exact ⟨rfl,(hbx.alloc hbx.size _).alloc (by simp;omega) _⟩
    ·have HL2:=Lib.hid (show q0=(match twD (seen ++ [nm]) (l.drop (k+1)) with | some p=>(p,6) | none=>(0,0)) from by rw [hq,if_neg (by rw [hc];decide)])
     have HN:=Lib.hid (show seenF seen nm=none from by unfold seenF;rw [if_neg (by rw [hc];decide)])
     have HMP:=Lib.hid hmap
     have HSF:=Lib.hid (seenF_snoc seen nm)
     clear hq hc hmap
     have HMB:=Lib.hid (HMA.out.same (Below.heap_alloc _ (.cells #[] 87) _ HMA.out.lt))
     go_wp2_with (first | (at_lookup;refine wpList_lookup_smap _ rfl _ _ 86 rfl 9 87 Tryd.underlying9 Tryd.underlying86 (zeroUnit _) w.heap.size k (seenF seen) rfl HMA.out nm rfl hnm ?_;rw [HN.out]) | (at_mapUpdate;refine wpList_update_smap _ rfl _ _ _ 86 rfl 9 87 Tryd.underlying9 Tryd.underlying86 w.heap.size k (seenF seen) rfl HMB.out (by unfold maxLen;omega) nm (.agg #[]) rfl rfl hnm ?_;intro w9 hm9 hg9 hz9))
     have hbx9:Below w.heap.size w w9:=((hbx.alloc hbx.size (dcBox nm od po)).alloc (by simp;omega) (.cells #[] 87)).trans ⟨hg9.os,hg9.tape,hg9.output,hg9.size,fun i hi=>hg9.block i (by have:=hbx.size;simp;omega) (fun e=>by have:=Option.some.inj e;omega)⟩
     have HM9:=Lib.hid (hm9.congr HSF.out)
     have HL9:=Lib.hid (HL2.out)
     clear hg9 hm9 hz9 HMA HMB HN HSF c0 c1 c2 x0 x1 x2 HM hbx
     go_wp2_with fail
     go_roundw
     case rel=>exact ⟨k+1,by go_num,by omega,Lib.hid (by rw [HMP.out];exact HL9.out),hbx9,Lib.hid (by rw [HMP.out];exact HM9.out)⟩
     case measure=>(try simp [intOf]);omega
   ·obtain rfl:k=l.length:=by omega
    have hz:q0=(0,0):=by rw [HL.out,List.drop_length];rfl
    subst hz
    go_wp2_with fail
    go_ret2
    exact ⟨rfl,hbx⟩
theorem infoScope:(Tryd.prog.info? 83).map (·.size)=some 2:=by kernel_rfl
theorem ord_made {w:World} {M n:Nat} (h:SMap Tryd.prog 9 w M n (fun _=>none)):OrdIs w M n (ordD []):=⟨_,h,fun _=>.inl ⟨rfl,rfl⟩⟩
theorem sc_set {w:World} {B M:Nat} {v u:Value} (h:w.heap[B]? = some (.cells #[v,u] 83)) (pv:Value):((w.setCell ⟨B,0,none⟩ (.map (some M))).setCell ⟨B,1,none⟩ pv).heap[B]? = some (scBox M pv):=by
 have h0:=heap_setCell_same w B 0 _ _ (.map (some M)) h
 exact heap_setCell_same _ B 1 _ _ pv h0
set_option maxRecDepth 100000 in
set_option maxHeartbeats 16000000 in
theorem kscope_any (l:List Dc) (a:Option Addr) (cap:Nat) (px:Option Nat) (w:World) (hl:l.length≤1000000) (h:DcsIn w a l) :
  Calls Tryd.prog 39 #[.slice a l.length cap,(.map px)] w fun e w'=>∃ M n,e=.returned (scV M (.map px))∧w.heap.size≤M∧n≤l.length∧OrdIs w' M n (ordD l)∧Below w.heap.size w w':=by
 have hc2:=cellsScope
 have hc3:=cellsDecl
 have hmm:=@run_makeMap Tryd.prog
 have HZ:=Lib.hid (new_at w (.cells #[.map none,.map none] 83))
 have HM0:=Lib.hid (SMap.made Tryd.prog 9 (w.alloc (.cells #[.map none,.map none] 83)))
 have hs1:(w.alloc (.cells #[.map none,.map none] 83)).heap.size=w.heap.size+1:=alloc_size _ _
 rw [hs1] at HM0
 have hs2:((w.alloc (.cells #[.map none,.map none] 83)).alloc (.map #[] 0)).heap.size=w.heap.size+2:=by rw [alloc_size,hs1]
 have HS0:=Lib.hid (new_at ((w.alloc (.cells #[.map none,.map none] 83)).alloc (.map #[] 0)) (scBox (w.heap.size+1) (.map px)))
 rw [hs2] at HS0
 have HM1:=Lib.hid (HM0.out.same (Below.heap_alloc ((w.alloc (.cells #[.map none,.map none] 83)).alloc (.map #[] 0)) (scBox (w.heap.size+1) (.map px)) _ HM0.out.lt))
 have HZ1:=Lib.hid ((Below.heap_alloc ((w.alloc (.cells #[.map none,.map none] 83)).alloc (.map #[] 0)) (scBox (w.heap.size+1) (.map px)) w.heap.size (by rw [hs2];omega)).trans ((Below.heap_alloc (w.alloc (.cells #[.map none,.map none] 83)) (.map #[] 0) w.heap.size (by rw [hs1];omega)).trans HZ.out))
 have HBW:=Lib.hid (((below_box w (.cells #[.map none,.map none] 83)).alloc (by rw [hs1];omega) (.map #[] 0)).alloc (by rw [hs2];omega) (scBox (w.heap.size+1) (.map px)))
 clear HZ HM0 hs1 hs2
 rcases h with rfl | ⟨b,o,rfl,hlim,hat,hsz⟩
 ·have hz0:((([]:List Dc).length:Nat):Int)=0:=rfl
  go_enter Tryd.func39,Tryd.ntmps39
  go_wp2_with fail
  go_loopw [13] (fun i wr=>i=.int .i64 0∧RowKit.Hid (OrdIs wr (w.heap.size+1) 0 (ordD []))∧RowKit.Hid (wr.heap[w.heap.size+2]? = some (scBox (w.heap.size+1) (.map px)))∧RowKit.Hid (wr.heap[w.heap.size]? = some (.cells #[.map none,.map none] 83))∧Below w.heap.size w wr) (fun _ _=>0)
  case atStart=>exact ⟨rfl,Lib.hid (ord_made HM1.out),HS0,HZ1,HBW.out⟩
  case round =>
   obtain ⟨rfl,HO,HS,HZ,hbx⟩:=hrel
   obtain ⟨k0,k1⟩:=sc_cells HS.out
   have hfz0:wr.frozen? ⟨w.heap.size,0,none⟩=false:=by simp [World.frozen?,HZ.out]
   have hfz1:wr.frozen? ⟨w.heap.size,1,none⟩=false:=by simp [World.frozen?,HZ.out]
   have z0:wr.cell? ⟨w.heap.size,0,none⟩=some (.map none):=by rw [cell_of_row _ _ _ _ _ _ HZ.out];rfl
   have z1:wr.cell? ⟨w.heap.size,1,none⟩=some (.map none):=by rw [cell_of_row _ _ _ _ _ _ HZ.out];rfl
   go_wp2_with fail
   refine bodyPost_ret (results_cell_row Tryd.results39 _ _ w.heap.size _ #[.map (some (w.heap.size+1)),(.map px)] _ _ rfl (sc_set HZ.out (.map px)) Tryd.underlying83 rfl infoScope) rfl ⟨w.heap.size+1,0,rfl,by omega,by simp,?_,?_⟩
   ·exact HO.out.same (by rw [Below.heap_setCell _ _ _ _ (by simp),Below.heap_setCell _ _ _ _ (by simp)])
   ·exact (hbx.setCell (Nat.le_refl _) _).setCell (Nat.le_refl _) _
 ·have HA:=Lib.hid hat
  have HSI:=Lib.hid hsz
  clear hat hsz
  go_enter Tryd.func39,Tryd.ntmps39
  go_wp2_with fail
  go_loopw [13] (fun i wr=>∃ k:Nat,i=.int .i64 k∧k≤l.length∧RowKit.Hid (OrdIs wr (w.heap.size+1) k (ordD (l.take k)))∧RowKit.Hid (wr.heap[w.heap.size+2]? = some (scBox (w.heap.size+1) (.map px)))∧RowKit.Hid (wr.heap[w.heap.size]? = some (.cells #[.map none,.map none] 83))∧Below w.heap.size w wr) (fun i _=>l.length - (intOf i).toNat)
  case atStart=>exact ⟨0,rfl,by omega,Lib.hid (ord_made HM1.out),HS0,HZ1,HBW.out⟩
  case round =>
   obtain ⟨k,rfl,hk,HO,HS,HZ,hbx⟩:=hrel
   obtain ⟨k0,k1⟩:=sc_cells HS.out
   by_cases hkl:k < l.length
   ·have hkl2:(k:Int) < l.length:=by omega
    have hg:=List.getElem?_eq_getElem hkl
    obtain ⟨c0,c1,c2⟩:=(HA.out k (l[k]'hkl) hg).below hbx
    have hns:=HSI.out (l[k]'hkl) (List.getElem_mem _)
    have htk:l.take (k+1)=l.take k ++ [l[k]'hkl]:=by rw [List.take_add_one,hg];rfl
    clear hg
    generalize (l[k]'hkl)=d at c0 c1 c2 hns htk
    have hod:ordD (l.take (k+1))=updO (ordD (l.take k)) d.name d.order:=by rw [htk,ordD_snoc]
    obtain ⟨nm,od,po⟩:=d
    simp only [] at c0 c1 c2 hns hod
    have hnm:nm.size≤maxLen:=by unfold maxLen;omega
    obtain ⟨f,hsm,hf⟩:=HO.out
    have HMA:=Lib.hid (hsm.same (Below.heap_alloc wr (dcBox nm od po) _ hsm.lt))
    have HF:=Lib.hid hf
    have HOD:=Lib.hid hod
    have hMl:=hsm.lt
    have hsl:=lt_heap HS.out
    have hzl:=lt_heap HZ.out
    obtain ⟨x0,x1,x2⟩:=dc_cells (new_at wr (dcBox nm od po))
    obtain ⟨y0,y1⟩:=sc_cells ((Below.heap_alloc wr (dcBox nm od po) _ hsl).trans HS.out)
    clear hsm hf htk hod HO
    go_wp2_with (at_mapUpdate;refine wpList_update_smap _ rfl _ _ _ 81 rfl 9 3 Tryd.underlying9 Tryd.underlying81 (w.heap.size+1) k f rfl HMA.out (by unfold maxLen;omega) nm (.int .i64 od) rfl rfl hnm ?_;intro w9 hm9 hg9 hz9)
    have hbx9:Below w.heap.size w w9:=(hbx.alloc hbx.size (dcBox nm od po)).trans ⟨hg9.os,hg9.tape,hg9.output,hg9.size,fun i hi=>hg9.block i (by have:=hbx.size;simp;omega) (fun e=>by have:=Option.some.inj e;omega)⟩
    have HO9:=Lib.hid (OrdIs.upd HF.out nm od hm9)
    have HS9:=Lib.hid ((hg9.block (w.heap.size+2) (by rw [alloc_size];omega) (fun e=>by have:=Option.some.inj e;omega)).trans ((Below.heap_alloc wr (dcBox nm od po) _ hsl).trans HS.out))
    have HZ9:=Lib.hid ((hg9.block w.heap.size (by rw [alloc_size];omega) (fun e=>by have:=Option.some.inj e;omega)).trans ((Below.heap_alloc wr (dcBox nm od po) _ hzl).trans HZ.out))
    clear hg9 hm9 hz9 HMA HF c0 c1 c2 x0 x1 x2 y0 y1 HS HZ hbx k0 k1
    go_wp2_with fail
    go_roundw
    case rel=>exact ⟨k+1,by go_num,by omega,Lib.hid (by rw [HOD.out];exact HO9.out),HS9,HZ9,hbx9⟩
    case measure=>(try simp [intOf]);omega
   ·obtain rfl:k=l.length:=by omega
    have hfz0:wr.frozen? ⟨w.heap.size,0,none⟩=false:=by simp [World.frozen?,HZ.out]
    have hfz1:wr.frozen? ⟨w.heap.size,1,none⟩=false:=by simp [World.frozen?,HZ.out]
    have z0:wr.cell? ⟨w.heap.size,0,none⟩=some (.map none):=by rw [cell_of_row _ _ _ _ _ _ HZ.out];rfl
    have z1:wr.cell? ⟨w.heap.size,1,none⟩=some (.map none):=by rw [cell_of_row _ _ _ _ _ _ HZ.out];rfl
    go_wp2_with fail
    refine bodyPost_ret (results_cell_row Tryd.results39 _ _ w.heap.size _ #[.map (some (w.heap.size+1)),(.map px)] _ _ rfl (sc_set HZ.out (.map px)) Tryd.underlying83 rfl infoScope) rfl ⟨w.heap.size+1,l.length,rfl,by omega,Nat.le_refl _,?_,?_⟩
    ·have h:=HO.out
     rw [List.take_length] at h
     exact h.same (by rw [Below.heap_setCell _ _ _ _ (by simp),Below.heap_setCell _ _ _ _ (by simp)])
    ·exact (hbx.setCell (Nat.le_refl _) _).setCell (Nat.le_refl _) _
end Go.Proofs.YtmlmjopfbohglaaDoor
