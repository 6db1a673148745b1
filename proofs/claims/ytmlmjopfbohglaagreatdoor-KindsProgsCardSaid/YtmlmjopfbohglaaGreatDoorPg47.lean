/- Parts of the proof: KZ KW KCk. -/
import Derived.Test.YtmlmjopfbohglaaGreatDoorPg45
import Derived.Test.YtmlmjopfbohglaaGreatDoorPg46
namespace Go.Proofs.YtmlmjopfbohglaaGreatDoor
open Go.RowKit
open Go.Maps
theorem relK_two {op:ByteArray} {pos:Int} {x y:KR} (a b:Int) (h:relOk op x.k y.k=decide (if a=0 then x.k=y.k∧x.k≠0 else x.k=a∧y.k=b)):relK op pos x y=twoK a b pos x y:=by
 unfold relK twoK
 rw [h]
 simp only [decide_eq_true_eq]
def Two4 (A B:Int):Prop:=(A=0∧B=0)∨(A=1∧B=1)∨(A=1∧B=2)∨(A=2∧B=2)
theorem rtwo_any (A B:Int) (hAB:Two4 A B) (op name:ByteArray) (n pos:Int) (kb ko len cap:Nat) (w:World) (da:Option Addr) (dl dc:Nat) (hl:len=2) (op1 name1:ByteArray) (n1 pos1:Int) (a1:Option Addr) (l1 cap1:Nat) (op2 name2:ByteArray) (n2 pos2:Int) (a2:Option Addr) (l2 cap2:Nat) (hn1:NodeAt w kb ko op1 name1 n1 pos1 a1 l1 cap1) (hn2:NodeAt w kb (ko+5) op2 name2 n2 pos2 a2 l2 cap2) (x y:KR) (hc1':∀ W,Below w.heap.size w W→Calls Tryz.prog 148 #[.slice da dl dc,.agg #[.string op1,.string name1,.int .i64 n1,.int .i64 pos1,.slice a1 l1 cap1]] W fun e w'=>e=.returned (.tuple #[.int .i64 x.k,.int .i64 x.pos,.int .i64 x.e])∧Below W.heap.size W w') (hc2':∀ W,Below w.heap.size w W→Calls Tryz.prog 148 #[.slice da dl dc,.agg #[.string op2,.string name2,.int .i64 n2,.int .i64 pos2,.slice a2 l2 cap2]] W fun e w'=>e=.returned (.tuple #[.int .i64 y.k,.int .i64 y.pos,.int .i64 y.e])∧Below W.heap.size W w') :
  Calls Tryz.prog 102 #[.slice da dl dc,.agg #[.string op,.string name,.int .i64 n,.int .i64 pos,.slice (some ⟨kb,ko,none⟩) len cap],.int .i64 A,.int .i64 B] w fun e w'=>e=.returned (.tuple #[.int .i64 (twoK A B pos x y).1,.int .i64 (twoK A B pos x y).2])∧Below w.heap.size w w':=by
 rcases hAB with ⟨rfl,rfl⟩ | ⟨rfl,rfl⟩ | ⟨rfl,rfl⟩ | ⟨rfl,rfl⟩
 ·exact rtwo_00 op name n pos kb ko len cap w da dl dc hl op1 name1 n1 pos1 a1 l1 cap1 op2 name2 n2 pos2 a2 l2 cap2 hn1 hn2 x y hc1' hc2'
 ·exact rtwo_11 op name n pos kb ko len cap w da dl dc hl op1 name1 n1 pos1 a1 l1 cap1 op2 name2 n2 pos2 a2 l2 cap2 hn1 hn2 x y hc1' hc2'
 ·exact rtwo_12 op name n pos kb ko len cap w da dl dc hl op1 name1 n1 pos1 a1 l1 cap1 op2 name2 n2 pos2 a2 l2 cap2 hn1 hn2 x y hc1' hc2'
 ·exact rtwo_22 op name n pos kb ko len cap w da dl dc hl op1 name1 n1 pos1 a1 l1 cap1 op2 name2 n2 pos2 a2 l2 cap2 hn1 hn2 x y hc1' hc2'
theorem rkform_of (ps:List Pd) (pa:Option Addr) (pc:Nat) (hpl:ps.length≤1000000) (T:Nd) (hk:Fo.All (SayRf ps pa pc) T.kids):SayRf ps pa pc T:=by
 intro w ds da dc hp hpd hd hin hsz hok hm
 obtain ⟨hA,hB,hC,hD⟩:=okF_parts hok
 have hts:T.size=T.kids.size+1:=rfl
 obtain ⟨op,name,n,pos,a,cap,kids⟩:=T
 have hs1:name.size≤140737488351232:=hsz.1
 have hs2:kids.sized:=hsz.2
 have hkin:KidsIn w a kids:=hin
 simp only [] at hA hB hC hD hk hts
 rw [hts] at hm
 rw [Nd.val_def]
 simp only []
 generalize hO:ordD ds=O
 generalize hQ:predsK ps=Q
 have hrel:∀ A B,Two4 A B→opFr op=true→(op.toList == [101,120])=false→(op.toList == [97,108,108])=false→(op.toList == [105,115])=false→(∀ x y:KR,relOk op x.k y.k=decide (if A=0 then x.k=y.k∧x.k≠0 else x.k=A∧y.k=B))→∀ W,Below w.heap.size w W→Calls Tryz.prog 102 #[.slice da ds.length dc,.agg #[.string op,.string name,.int .i64 n,.int .i64 pos,.slice a kids.len cap],.int .i64 A,.int .i64 B] W fun e w'=>e=.returned (.tuple #[.int .i64 (Nd.fk Q O ⟨op,name,n,pos,a,cap,kids⟩).1,.int .i64 (Nd.fk Q O ⟨op,name,n,pos,a,cap,kids⟩).2])∧Below W.heap.size W w':=by
  intro A B hAB hr n0 n1' n2 hro W hW
  obtain ⟨hl,hkt⟩:=hB hr
  have hfk:Nd.fk Q O ⟨op,name,n,pos,a,cap,kids⟩=twoK A B pos (kids.ks O).h (kids.rest.ks O).h:=by
   rw [← relK_two A B (hro _ _)]
   unfold Nd.fk stepFK
   simp only [n0,n1',n2,hr]
   rfl
  cases kids with
  | nil=>cases hl
  | cons op1 name1 n1 pos1 a1 cap1 kids1 rest =>
   cases rest with
   | nil=>cases hl
   | cons op2 name2 n2 pos2 a2 cap2 kids2 rest2 =>
    rcases hkin with h | ⟨kb,ko,rfl,hlim,hpos,hnode,hin1,hnode2,hin2,hrest⟩
    ·cases h
    ·have hkk:(Nd.okT ⟨op1,name1,n1,pos1,a1,cap1,kids1⟩ && (Nd.okT ⟨op2,name2,n2,pos2,a2,cap2,kids2⟩ && rest2.allB Nd.okT))=true:=hkt
     rw [Bool.and_eq_true,Bool.and_eq_true] at hkk
     have hi1:Nd.In w ⟨op1,name1,n1,pos1,a1,cap1,kids1⟩:=hin1
     have hi2:Nd.In w ⟨op2,name2,n2,pos2,a2,cap2,kids2⟩:=hin2
     have h:=rtwo_any A B hAB op name n pos kb ko (Fo.len (.cons op1 name1 n1 pos1 a1 cap1 kids1 (.cons op2 name2 n2 pos2 a2 cap2 kids2 rest2))) cap W da ds.length dc hl op1 name1 n1 pos1 a1 kids1.len cap1 op2 name2 n2 pos2 a2 kids2.len cap2 (hnode.below hW) (hnode2.below hW) (Nd.kd O ⟨op1,name1,n1,pos1,a1,cap1,kids1⟩) (Nd.kd O ⟨op2,name2,n2,pos2,a2,cap2,kids2⟩)
      (fun W2 g2=>by rw [← hO];exact rkind_all ds da dc (by omega) ⟨op1,name1,n1,pos1,a1,cap1,kids1⟩ W2 ((hd.below hW).below g2) ((hi1.below hW).below g2) ⟨hs2.1,hs2.2.1⟩ hkk.1)
      (fun W2 g2=>by rw [← hO];exact rkind_all ds da dc (by omega) ⟨op2,name2,n2,pos2,a2,cap2,kids2⟩ W2 ((hd.below hW).below g2) ((hi2.below hW).below g2) ⟨hs2.2.2.1,hs2.2.2.2.1⟩ hkk.2.1)
     refine h.mono ?_
     rintro e w' ⟨rfl,hb⟩
     rw [hfk]
     exact ⟨rfl,hb⟩
 rcases bool_two (op.toList == [105,115]) with h0 | h0
 ·have hfk:Nd.fk Q O ⟨op,name,n,pos,a,cap,kids⟩=(if O name < 0 then (pos,(5:Int)) else if O name=0 then (0,0) else (pos,7)):=by
   unfold Nd.fk stepFK
   have n0:(op.toList == [101,120])=false:=by rw [beq_iff_eq.1 h0];decide
   have n1:(op.toList == [97,108,108])=false:=by rw [beq_iff_eq.1 h0];decide
   simp only [n0,n1,h0]
   rfl
  rw [hfk,← hO]
  exact rform_is op name n pos a cap kids w pa ps.length pc da dc ds h0 hd (by omega)
 rcases bool_two (op.toList == [101,113]) with h1 | h1
 ·exact rform_eq op name n pos a cap kids w pa ps.length pc da ds.length dc h0 h1 _ _ (hrel 0 0 (.inl ⟨rfl,rfl⟩) (by unfold opFr;simp [h1]) (by rw [beq_iff_eq.1 h1];decide) (by rw [beq_iff_eq.1 h1];decide) h0 (fun x y=>by unfold relOk;rw [if_pos (by simp [h1])];simp))
 rcases bool_two (op.toList == [110,101]) with h2 | h2
 ·exact rform_ne op name n pos a cap kids w pa ps.length pc da ds.length dc h0 h1 h2 _ _ (hrel 0 0 (.inl ⟨rfl,rfl⟩) (by unfold opFr;simp [h2]) (by rw [beq_iff_eq.1 h2];decide) (by rw [beq_iff_eq.1 h2];decide) h0 (fun x y=>by unfold relOk;rw [if_pos (by simp [h2])];simp))
 have k1:(op.toList == [101,113] || op.toList == [110,101])=false:=by rw [h1,h2];rfl
 rcases bool_two (op.toList == [108,116]) with h3 | h3
 ·exact rform_lt op name n pos a cap kids w pa ps.length pc da ds.length dc h0 h1 h2 h3 _ _ (hrel 1 1 (.inr (.inl ⟨rfl,rfl⟩)) (by unfold opFr;simp [h3]) (by rw [beq_iff_eq.1 h3];decide) (by rw [beq_iff_eq.1 h3];decide) h0 (fun x y=>by unfold relOk;rw [if_neg (by rw [k1];decide),if_pos (by simp [h3])];simp))
 rcases bool_two (op.toList == [108,101]) with h4 | h4
 ·exact rform_le op name n pos a cap kids w pa ps.length pc da ds.length dc h0 h1 h2 h3 h4 _ _ (hrel 1 1 (.inr (.inl ⟨rfl,rfl⟩)) (by unfold opFr;simp [h4]) (by rw [beq_iff_eq.1 h4];decide) (by rw [beq_iff_eq.1 h4];decide) h0 (fun x y=>by unfold relOk;rw [if_neg (by rw [k1];decide),if_pos (by simp [h4])];simp))
 have k2:(op.toList == [108,116] || op.toList == [108,101])=false:=by rw [h3,h4];rfl
 rcases bool_two (op.toList == [105,110]) with h5 | h5
 ·exact rform_in op name n pos a cap kids w pa ps.length pc da ds.length dc h0 h1 h2 h3 h4 h5 _ _ (hrel 1 2 (.inr (.inr (.inl ⟨rfl,rfl⟩))) (by unfold opFr;simp [h5]) (by rw [beq_iff_eq.1 h5];decide) (by rw [beq_iff_eq.1 h5];decide) h0 (fun x y=>by unfold relOk;rw [if_neg (by rw [k1];decide),if_neg (by rw [k2];decide),if_pos (by simp [h5])];simp))
 rcases bool_two (op.toList == [110,111,116,105,110]) with h6 | h6
 ·exact rform_notin op name n pos a cap kids w pa ps.length pc da ds.length dc h0 h1 h2 h3 h4 h5 h6 _ _ (hrel 1 2 (.inr (.inr (.inl ⟨rfl,rfl⟩))) (by unfold opFr;simp [h6]) (by rw [beq_iff_eq.1 h6];decide) (by rw [beq_iff_eq.1 h6];decide) h0 (fun x y=>by unfold relOk;rw [if_neg (by rw [k1];decide),if_neg (by rw [k2];decide),if_pos (by simp [h6])];simp))
 have k3:(op.toList == [105,110] || op.toList == [110,111,116,105,110])=false:=by rw [h5,h6];rfl
 rcases bool_two (op.toList == [115,117,98]) with h7 | h7
 ·exact rform_sub op name n pos a cap kids w pa ps.length pc da ds.length dc h0 h1 h2 h3 h4 h5 h6 h7 _ _ (hrel 2 2 (.inr (.inr (.inr ⟨rfl,rfl⟩))) (by unfold opFr;simp [h7]) (by rw [beq_iff_eq.1 h7];decide) (by rw [beq_iff_eq.1 h7];decide) h0 (fun x y=>by unfold relOk;rw [if_neg (by rw [k1];decide),if_neg (by rw [k2];decide),if_neg (by rw [k3];decide)];simp))
 have hnr:opFr op=false:=by unfold opFr;rw [h1,h2,h3,h4,h5,h6,h7];rfl
 rcases bool_two (op.toList == [99,97,108,108]) with h8 | h8
 ·refine rform_call op name n pos a cap kids w pa ps.length pc da ds.length dc h0 h1 h2 h3 h4 h5 h6 h7 h8 _ _ (fun W hW=>?_)
  have hfk:Nd.fk Q O ⟨op,name,n,pos,a,cap,kids⟩=callR O Q name pos kids:=by
   have n0:(op.toList == [101,120])=false:=by rw [beq_iff_eq.1 h8];decide
   have n1:(op.toList == [97,108,108])=false:=by rw [beq_iff_eq.1 h8];decide
   unfold Nd.fk stepFK callR
   simp only [n0,n1,h0,hnr,h8]
   rfl
  rw [hfk,← hO,← hQ]
  have hkW:KidsIn W a kids:=((show Nd.In w ⟨op,name,n,pos,a,cap,kids⟩ from hkin).below hW:Nd.In W ⟨op,name,n,pos,a,cap,kids⟩)
  exact rcall_any op name n pos a cap kids W ps pa pc ds da dc (hp.below hW) (fun p h=>(hpd p h).below hW) hpl (hd.below hW) (by omega) hkW hs2 (hC h8)
 rcases bool_two (op.toList == [101,120]) with h9 | h9
 ·have hfk:Nd.fk Q O ⟨op,name,n,pos,a,cap,kids⟩=kids.fs Q (updO O name n):=by
   unfold Nd.fk stepFK
   rw [if_pos (by simp [h9])]
  rw [hfk,← hO,← hQ]
  exact rform_ex op name n pos a cap kids w ps pa pc ds da dc hp hpd hd hkin hs1 hs2 (hA (.inl h9)).2 hk (by omega) h0 h1 h2 h3 h4 h5 h6 h7 h8 h9
 rcases bool_two (op.toList == [97,108,108]) with h10 | h10
 ·have hfk:Nd.fk Q O ⟨op,name,n,pos,a,cap,kids⟩=kids.fs Q (updO O name n):=by
   unfold Nd.fk stepFK
   rw [if_pos (by simp [h10])]
  rw [hfk,← hO,← hQ]
  exact rform_all op name n pos a cap kids w ps pa pc ds da dc hp hpd hd hkin hs1 hs2 (hA (.inr h10)).2 hk (by omega) h0 h1 h2 h3 h4 h5 h6 h7 h8 h9 h10
 ·have hfk:Nd.fk Q O ⟨op,name,n,pos,a,cap,kids⟩=kids.fs Q O:=by
   unfold Nd.fk stepFK
   simp only [h9,h10,h0,hnr,h8]
   rfl
  rw [hfk,← hO,← hQ]
  exact rform_kids op name n pos a cap kids w ps pa pc ds da dc hp hpd hd hkin hs2 (hD h9 h10 h0 hnr h8) hk (by omega) h0 h1 h2 h3 h4 h5 h6 h7 h8 h9 h10
theorem rkform_all (ps:List Pd) (pa:Option Addr) (pc:Nat) (hpl:ps.length≤1000000) (T:Nd):SayRf ps pa pc T:=Nd.all_of (P:=SayRf ps pa pc) (fun T hk=>rkform_of ps pa pc hpl T hk) T
theorem twD_at (seen:List ByteArray) (l:List Dc) (d:Dc) (r:List Dc) (h:l=d :: r):twD seen l=if inB d.name seen=true then some d.pos else twD (seen ++ [d.name]) r:=by subst h;rfl
set_option maxRecDepth 100000 in
set_option maxHeartbeats 16000000 in
theorem rtwice_any (l:List Dc) (a:Option Addr) (cap:Nat) (w:World) (h:DcsIn w a l) (hl:l.length≤1000000) :
  Calls Tryz.prog 58 #[.slice a l.length cap] w fun e w'=>e=.returned (.tuple #[.int .i64 ((twD [] l).getD 0),.bool (twD [] l).isSome])∧Below w.heap.size w w':=by
 have hc3:=cellsDecl
 obtain ⟨q0,hq0⟩:∃ q0,q0=twD [] l:=⟨_,rfl⟩
 rw [← hq0]
 have HD:=Lib.hid h
 have HQ:=Lib.hid (show q0=twD ((l.take 0).map Dc.name) (l.drop 0) from hq0)
 clear h hq0
 go_enter Tryz.func58,Tryz.ntmps58
 go_wp2_with fail
 go_loopw [4] (fun i wr=>∃ k:Nat,i=.int .i64 k∧k≤l.length∧RowKit.Hid (q0=twD ((l.take k).map Dc.name) (l.drop k))∧Below w.heap.size w wr) (fun i _=>l.length - (intOf i).toNat)
 case atStart=>exact ⟨0,rfl,Nat.zero_le _,HQ,Below.refl _ _⟩
 case round =>
  obtain ⟨k,rfl,hk,HL,hbx⟩:=hrel
  by_cases hkl:k < l.length
  ·have hkl2:(k:Int) < l.length:=by omega
   have hk0:(0:Int)≤k:=by omega
   obtain ⟨b,o,hab,hat⟩:∃ b o,a=some ⟨b,o,none⟩∧∀ i d,l[i]? = some d→DcAt w b (o+i * 3) d:=by
    rcases HD.out with hnil | ⟨b,o,h1,_,h3,_⟩
    ·rw [hnil] at hkl;cases hkl
    ·exact ⟨b,o,h1,h3⟩
   subst hab
   have hg:=List.getElem?_eq_getElem hkl
   have hdat:=hat k (l[k]'hkl) hg
   have hdr:l.drop k=(l[k]'hkl) :: l.drop (k+1):=List.drop_eq_getElem_cons hkl
   have htk:(l.take (k+1)).map Dc.name=(l.take k).map Dc.name ++ [(l[k]'hkl).name]:=by rw [List.take_succ_eq_append_getElem hkl,List.map_append];rfl
   clear hg
   generalize (l[k]'hkl)=P at hdat hdr htk
   have hod:=HL.out.trans (twD_at _ _ _ _ hdr)
   rw [← htk] at hod
   obtain ⟨dname,dorder,dpos⟩:=P
   have d0:=cell_below hbx hdat.1
   have d2:=cell_below hbx hdat.2.2
   simp only [] at d0 d2 hod
   have HAT:=Lib.hid hat
   have HDA:=Lib.hid hdat
   have HOD:=Lib.hid hod
   have HST:=Lib.hid (show inB dname ((l.take k).map Dc.name)=inB dname (((l.take k).drop 0).map Dc.name) from rfl)
   clear hat hdat hdr htk HL hod
   go_wp2_with fail
   go_loopw [5] (fun j wz=>∃ m:Nat,j=.int .i64 m∧m≤k∧RowKit.Hid (inB dname ((l.take k).map Dc.name)=inB dname (((l.take k).drop m).map Dc.name))∧Below w.heap.size w wz) (fun j _=>k - (intOf j).toNat)
   case atStart=>exact ⟨0,rfl,Nat.zero_le _,HST,hbx⟩
   case round =>
    obtain ⟨m,rfl,hm,HM,hbz⟩:=hrel
    clear d0 d2
    have d0:=cell_below hbz HDA.out.1
    have d2:=cell_below hbz HDA.out.2.2
    simp only [] at d0 d2
    by_cases hmk:m < k
    ·have hml:m < l.length:=by omega
     have hml2:(m:Int) < l.length:=by omega
     have hm0:(0:Int)≤m:=by omega
     have hmk2:(m:Int) < k:=by omega
     have hmat:=(HAT.out m (l[m]'hml) (List.getElem?_eq_getElem hml)).1
     have hmt:m < (l.take k).length:=by rw [List.length_take];omega
     have hdm:(l.take k).drop m=(l[m]'hml) :: (l.take k).drop (m+1):=by rw [List.drop_eq_getElem_cons hmt,List.getElem_take]
     have hcn:inB dname (((l.take k).drop m).map Dc.name)=(decide ((l[m]'hml).name=dname) || inB dname (((l.take k).drop (m+1)).map Dc.name)):=by rw [hdm];rfl
     generalize (l[m]'hml).name=nm at hmat hcn
     have m0:=cell_below hbz hmat
     have HCN:=Lib.hid (HM.out.trans hcn)
     clear hmat hmt hdm hcn HM
     by_cases hn:nm=dname
     ·subst hn
      have hz:q0=some dpos:=HOD.out.trans (if_pos (HCN.out.trans (by rw [decide_eq_true rfl,Bool.true_or])))
      subst hz
      go_wp2_with fail
      go_region_held3 (fun wz=>wz.cell? ⟨b,o+m * 3,none⟩=some (.string nm)∧wz.cell? ⟨b,o+k * 3,none⟩=some (.string nm)∧wz.cell? ⟨b,o+k * 3+2,none⟩=some (.int .i64 dpos)) (go_keep) (fail)
      go_wp2_with fail
      go_ret2
      exact ⟨rfl,hbz.drew⟩
     ·have hn2:decide (nm=dname)=false:=decide_eq_false hn
      have HM2:=Lib.hid (show inB dname ((l.take k).map Dc.name)=inB dname (((l.take k).drop (m+1)).map Dc.name) from by rw [HCN.out,hn2,Bool.false_or])
      have hnb:(nm.toList == dname.toList)=false:=by
       rw [beq_eq_false_iff_ne]
       intro e
       rw [Lib.toList_data,Lib.toList_data] at e
       exact hn (ByteArray.ext (Array.toList_inj.1 e))
      clear HCN hn hn2
      go_wp2_with fail
      go_region_held3 (fun wz=>wz.cell? ⟨b,o+m * 3,none⟩=some (.string nm)∧wz.cell? ⟨b,o+k * 3,none⟩=some (.string dname)∧wz.cell? ⟨b,o+k * 3+2,none⟩=some (.int .i64 dpos)) (go_keep) (fail)
      go_wp2_with fail
      go_roundw
      case rel=>exact ⟨m+1,by go_num,by omega,HM2,hbz.drew⟩
      case measure=>(try simp [intOf]);omega
    ·obtain rfl:m=k:=by omega
     have hkk:¬ ((m:Int) < m):=by omega
     have hemp:inB dname (((l.take m).drop m).map Dc.name)=false:=by
      rw [List.drop_eq_nil_of_le (by rw [List.length_take];omega)];rfl
     have HL2:=Lib.hid (show q0=twD ((l.take (m+1)).map Dc.name) (l.drop (m+1)) from by rw [HOD.out,HM.out,hemp];rfl)
     clear HM hemp
     go_wp2_with fail
     go_roundw
     case rel=>exact ⟨m+1,by go_num,by omega,HL2,hbz⟩
     case measure=>(try simp [intOf]);omega
  ·obtain rfl:k=l.length:=by omega
   have hz:q0=none:=by rw [HL.out,List.drop_length];rfl
   subst hz
   go_wp2_with fail
   go_ret2
   exact ⟨rfl,hbx⟩
theorem predR_body {Q:ByteArray→Option (List Dc)} {p:Pd} : predR Q p=if (Q p.name).isSome=true then (p.pos,6) else if (onceR p.params).2=0 then p.body.fk Q (ordD p.params) else onceR p.params:=rfl
theorem fidx_isSome (l:List Pd) (x:ByteArray):(predsK l x).isSome=decide (0≤fidx l x 0):=by
 cases h:predsK l x with
 | none=>rw [fidx_none l x 0 h];rfl
 | some ds =>
  obtain ⟨i,p,_,h2,_⟩:=fidx_some l x 0 ds h
  rw [h2]
  simp
set_option maxRecDepth 100000 in
set_option maxHeartbeats 16000000 in
theorem rcheck_any (ds:List Dc) (da:Option Addr) (dc:Nat) (ps:List Pd) (pa:Option Addr) (pc:Nat) (T:Nd) (w:World) (hU:UT w) (hd:DcsIn w da ds) (hp:PdsIn w pa ps) (hm:T.In w) (hms:T.sized) (hmd:T.deep≤30) (hmz:T.size≤2000) (hdl:ds.length≤900000) (hpl:ps.length≤1000000) (hpc:ps.length≤pc) :
  Calls Tryz.prog 21 #[.agg #[.slice da ds.length dc,.slice pa ps.length pc,.string T.op,.string T.name,.int .i64 T.n,.int .i64 T.pos,.slice T.a T.kids.len T.cap]] w fun e w'=>e=.returned (.tuple #[.int .i64 (checkR ds ps T).1,.int .i64 (checkR ds ps T).2])∧Below w.heap.size w w':=by
 obtain ⟨q0,hq0⟩:∃ q0,q0=checkR ds ps T:=⟨_,rfl⟩
 rw [← hq0]
 have hc7:=cellsProg7
 have hc8:=cellsPred
 have hc5:=cellsNode
 have HW:=Lib.hid (below_box w (pgB da ds.length dc pa ps.length pc T))
 have HB:=Lib.hid (new_at w (pgB da ds.length dc pa ps.length pc T))
 have HC1:=Lib.hid (ris_any ds da dc ps pa pc T (w.alloc (pgB da ds.length dc pa ps.length pc T)) (Utf8Tabs_below hU HW.out) (hd.below HW.out) ⟨by rcases hp.1 with h | ⟨b,o,h1,h2,h3⟩;exact .inl h;exact .inr ⟨b,o,h1,h2,fun i p hi=>(h3 i p hi).below HW.out⟩,fun p hi=>(hp.2 p hi).below HW.out⟩ (hm.below HW.out) hms hmd hmz)
 obtain ⟨p0,p1,p2,p3,p4,p5,p6⟩:=pg_cells HB.out
 have hqc:q0=checkR ds ps T:=hq0
 have hpr:PdRows w pa ps:=by rcases hp.1 with h | ⟨b,o,h1,_,h3⟩;exact .inl h;exact .inr ⟨b,o,h1,h3⟩
 have hpd:∀ p ∈ ps,DcsIn w p.pa p.params:=fun p hi=>(hp.2 p hi).params
 unfold checkR at hqc
 rcases bool_two (ps.all Pd.ok && ds.all Dc.ok && T.okF) with hok | hok
 ·rw [if_pos hok] at hqc
  rw [hok] at HC1
  rw [Bool.and_eq_true,Bool.and_eq_true] at hok
  have HO1:=Lib.hid (fun W (hW:Below w.heap.size w W)=>rtwice_any ds da dc W (hd.below hW) (by omega))
  have HPO:=Lib.hid (List.all_eq_true.1 hok.1.1)
  have HFM:=Lib.hid (fun W (hW:Below w.heap.size w W)=>rkform_all ps pa pc hpl T W ds da dc (hpr.below hW) (fun p h=>(hpd p h).below hW) (hd.below hW) (hm.below hW) hms hok.2 (by omega))
  have HPD:=Lib.hid hpd
  have HPR:=Lib.hid hpr
  have HPF:=Lib.hid hp.2
  have HPI:=Lib.hid hp.1
  have HQC:=Lib.hid hqc
  clear hq0 hqc hok hU hd hp hm hms hmd hmz hpr hpd
  rw [Nd.val_def] at HFM
  go_enter Tryz.func21,Tryz.ntmps21
  go_wp2_with fail
  refine HC1.out.mono ?_
  rintro e w2 ⟨rfl,hb2⟩
  have HW2:=Lib.hid (HW.out.trans (hb2.mono HW.out.size))
  have HB2:=Lib.hid ((hb2.block _ (lt_heap HB.out)).trans HB.out)
  have HC2:=Lib.hid (HO1.out w2 HW2.out)
  clear hb2 HC1 HB HW p0 p1 p2 p3 p4 p5 p6
  obtain ⟨p0,p1,p2,p3,p4,p5,p6⟩:=pg_cells HB2.out
  go_wp2_with fail
  refine HC2.out.mono ?_
  rintro e w3 ⟨rfl,hb3⟩
  have HW3:=Lib.hid (HW2.out.trans (hb3.mono HW2.out.size))
  have HB3:=Lib.hid ((hb3.block _ (lt_heap HB2.out)).trans HB2.out)
  clear hb3 HC2 HB2 HW2 p0 p1 p2 p3 p4 p5 p6 HO1
  obtain ⟨p0,p1,p2,p3,p4,p5,p6⟩:=pg_cells HB3.out
  have hqc:=HQC.out
  unfold onceR at hqc
  generalize twD [] ds=tw at hqc ⊢
  cases tw with
  | some tp =>
   have hz:q0=(tp,6):=by rw [hqc];rfl
   clear hqc HQC
   subst hz
   go_wp2_with fail
   go_ret2
   exact ⟨rfl,HW3.out⟩
  | none =>
   obtain ⟨qp,hqp⟩:∃ qp,qp=predsR [] ps:=⟨_,rfl⟩
   have hqc2:q0=(if qp.2=0 then T.fk (predsK ps) (ordD ds) else qp):=by rw [hqp,hqc];rfl
   have HQP:=Lib.hid hqp
   have HQ2:=Lib.hid hqc2
   clear hqc hqc2 hqp HQC
   have hbx:=HW3.out
   go_wp2_with fail
   go_loopw [6] (fun i wr=>∃ k:Nat,i=.int .i64 k∧k≤ps.length∧RowKit.Hid (qp=predsR (ps.take k) (ps.drop k))∧RowKit.Hid (wr.heap[w.heap.size]? = some (pgB da ds.length dc pa ps.length pc T))∧Below w.heap.size w wr) (fun i _=>ps.length - (intOf i).toNat)
   case atStart=>exact ⟨0,rfl,by omega,HQP,HB3,hbx⟩
   case round =>
    clear HB3 HW3 hbx p0 p1 p2 p3 p4 p5 p6 HQP
    obtain ⟨k,rfl,hk,HL,HX,hbx⟩:=hrel
    obtain ⟨p0,p1,p2,p3,p4,p5,p6⟩:=pg_cells HX.out
    by_cases hkl:k < ps.length
    ·have hkl2:(k:Int) < ps.length:=by omega
     have hg:=List.getElem?_eq_getElem hkl
     obtain ⟨b,o,hab,hlim,hat⟩:∃ b o,pa=some ⟨b,o,none⟩∧ps.length≤140737488351232∧∀ i p,ps[i]? = some p→PdAt w b (o+i * 8) p:=by
      rcases HPI.out with h | h
      ·rw [h] at hkl;exact absurd hkl (Nat.not_lt_zero _)
      ·exact h
     subst hab
     have hpa:=(hat k (ps[k]'hkl) hg).below hbx
     have hfi:=HPF.out (ps[k]'hkl) (List.getElem_mem _)
     have hokp:=HPO.out (ps[k]'hkl) (List.getElem_mem _)
     have hdr:ps.drop k=(ps[k]'hkl) :: ps.drop (k+1):=List.drop_eq_getElem_cons hkl
     have htk:ps.take (k+1)=ps.take k ++ [ps[k]'hkl]:=by rw [List.take_add_one,hg];rfl
     clear hg hat
     generalize (ps[k]'hkl)=P at hpa hfi hokp hdr htk
     have hokb:P.body.okF=true∧P.params.length≤6:=by
      unfold Pd.ok at hokp
      simp only [Bool.and_eq_true,decide_eq_true_eq] at hokp
      exact ⟨hokp.2,by omega⟩
     have hqq:qp=(if (predR (predsK (ps.take k)) P).2=0 then predsR (ps.take k ++ [P]) (ps.drop (k+1)) else predR (predsK (ps.take k)) P):=by rw [HL.out,hdr];rfl
     rw [predR_body,fidx_isSome] at hqq
     have HF1:=Lib.hid (fun W (hW:Below w.heap.size w W)=>by have h:=rfind_any (ps.take k) (some ⟨b,o,none⟩) pc P.name W ((HPR.out.below hW).take k) (by rw [List.length_take];omega);rw [List.length_take,Nat.min_eq_left hk] at h;exact h)
     have HF2:=Lib.hid (fun W (hW:Below w.heap.size w W)=>rtwice_any P.params P.pa P.pcap W (hfi.params.below hW) (by omega))
     have HF3:=Lib.hid (fun W (hW:Below w.heap.size w W)=>by have h:=rkform_all (ps.take k) (some ⟨b,o,none⟩) pc (by rw [List.length_take];omega) P.body W P.params P.pa P.pcap ((HPR.out.below hW).take k) (fun p hp=>(HPD.out p (List.mem_of_mem_take hp)).below hW) (hfi.params.below hW) (hfi.body.below hW) hfi.sized hokb.1 (by have:=hfi.size;omega);rw [List.length_take,Nat.min_eq_left hk,Nd.val_def] at h;exact h)
     have HTK:=Lib.hid htk
     generalize fidx (ps.take k) P.name 0=qi at HF1 hqq
     generalize P.body.fk (predsK (ps.take k)) (ordD P.params)=qf at HF3 hqq
     obtain ⟨qf1,qf2⟩:=qf
     simp only [] at HF3
     clear hfi hokp hokb htk hdr HL hlim
     obtain ⟨c0,c1,c2,c3,c4,c5,c6,c7⟩:=hpa
     have hb0:=(below_box wr (pdBox P)).drew
     have HB0:=Lib.hid (hbx.trans (hb0.mono hbx.size))
     have HC1:=Lib.hid (HF1.out (wr.alloc (pdBox P)).drew HB0.out)
     have HX1:=Lib.hid ((hb0.block _ (lt_heap HX.out)).trans HX.out)
     have HY1:RowKit.Hid ((wr.alloc (pdBox P)).drew.heap[wr.heap.size]? = some (pdBox P)):=Lib.hid (new_at wr (pdBox P))
     have hk0:(0:Int)≤(k:Int):=by omega
     have hkp:(k:Int)≤(pc:Int):=by omega
     have hwsz:=lt_heap HX.out
     have hrsz:wr.heap.size < (wr.alloc (pdBox P)).heap.size:=by simp
     have e1:=(pg_cells HX1.out).2.1
     have e2:=(pdb_cells HY1.out).1
     clear hb0 HF1
     by_cases hqi:0≤qi
     ·have hz:q0=(P.pos,6):=by
       rw [HQ2.out,hqq,decide_eq_true hqi,if_pos rfl,if_neg (show ¬ ((P.pos,(6:Int)).2=0) from (by decide:¬ ((6:Int)=0))),if_neg (show ¬ ((P.pos,(6:Int)).2=0) from (by decide:¬ ((6:Int)=0)))]
      clear hqq HQ2 HF2 HF3
      subst hz
      go_wp2_with fail
      clear c0 c1 c2 c3 c4 c5 c6 c7
      go_region_held3 (fun wz=>wz.cell? ⟨w.heap.size,1,none⟩=some (.slice (some ⟨b,o,none⟩) ps.length pc)∧wz.cell? ⟨wr.heap.size,0,none⟩=some (.string P.name)) (go_keep) (first | (go_at_call 59;refine HC1.out.mono ?_;rintro e w5 ⟨rfl,hb5⟩;have HW5:=Lib.hid (HB0.out.trans (hb5.mono HB0.out.size));have HY5:=Lib.hid ((hb5.block _ (by simp)).trans HY1.out);replace e1:=cell_below hb5 e1;replace e2:=cell_below hb5 e2;clear hb5))
      have e7:=(pdb_cells HY5.out).2.2.2.2.2.2.2
      go_wp2_with fail
      go_ret2
      exact ⟨rfl,HW5.out⟩
     ·rw [decide_eq_false hqi,if_neg (show ¬ (false=true) by decide)] at hqq
      go_wp2_with fail
      clear c0 c1 c2 c3 c4 c5 c6 c7
      go_region_held3 (fun wz=>wz.cell? ⟨w.heap.size,1,none⟩=some (.slice (some ⟨b,o,none⟩) ps.length pc)∧wz.cell? ⟨wr.heap.size,0,none⟩=some (.string P.name)) (go_keep) (first | (go_at_call 59;refine HC1.out.mono ?_;rintro e w5 ⟨rfl,hb5⟩;have HW5:=Lib.hid (HB0.out.trans (hb5.mono HB0.out.size));have HX5:=Lib.hid ((hb5.block _ (lt_heap HX1.out)).trans HX1.out);have HY5:=Lib.hid ((hb5.block _ (by simp)).trans HY1.out);replace e1:=cell_below hb5 e1;replace e2:=cell_below hb5 e2;clear hb5))
      have HC2:=Lib.hid (HF2.out w5 HW5.out)
      obtain ⟨x0,x1,x2,x3,x4,x5,x6,x7⟩:=pdb_cells HY5.out
      clear HC1 HF2 HX1 HY1 HB0 p0 p1 p2 p3 p4 p5 p6 e1 e2
      go_wp2_with fail
      refine HC2.out.mono ?_
      rintro e w6 ⟨rfl,hb6⟩
      have HW6:=Lib.hid (HW5.out.trans (hb6.mono HW5.out.size))
      have HX6:=Lib.hid ((hb6.block _ (lt_heap HX5.out)).trans HX5.out)
      have HY6:=Lib.hid ((hb6.block _ (lt_heap HY5.out)).trans HY5.out)
      have hlt6:=lt_heap HY6.out
      clear hb6 HC2 HX5 HY5 HW5 x0 x1 x2 x3 x4 x5 x6 x7
      unfold onceR at hqq
      generalize twD [] P.params=tw at hqq ⊢
      cases tw with
      | some tp =>
       have hz:q0=(tp,6):=by
        rw [HQ2.out,hqq];rfl
       clear hqq HQ2 HF3
       subst hz
       go_wp2_with fail
       go_ret2
       exact ⟨rfl,HW6.out⟩
      | none =>
       have hqq2:qp=if qf2=0 then predsR (ps.take k ++ [P]) (ps.drop (k+1)) else (qf1,qf2):=by rw [hqq];rfl
       obtain ⟨x0,x1,x2,x3,x4,x5,x6,x7⟩:=pdb_cells HY6.out
       have p1:=(pg_cells HX6.out).2.1
       have HC3:=Lib.hid (HF3.out w6.drew HW6.out.drew)
       clear hqq HF3
       by_cases hf:qf2=0
       ·have HL2:=Lib.hid (show qp=predsR (ps.take (k+1)) (ps.drop (k+1)) from by rw [HTK.out,hqq2,if_pos hf])
        clear hqq2
        subst hf
        go_wp2_with fail
        go_region_held3 (fun wz=>wz.cell? ⟨w.heap.size,1,none⟩=some (.slice (some ⟨b,o,none⟩) ps.length pc)∧wz.cell? ⟨wr.heap.size,1,none⟩=some (.slice P.pa P.params.length P.pcap)∧wz.cell? ⟨wr.heap.size,2,none⟩=some (.string P.body.op)∧wz.cell? ⟨wr.heap.size,3,none⟩=some (.string P.body.name)∧wz.cell? ⟨wr.heap.size,4,none⟩=some (.int .i64 P.body.n)∧wz.cell? ⟨wr.heap.size,5,none⟩=some (.int .i64 P.body.pos)∧wz.cell? ⟨wr.heap.size,6,none⟩=some (.slice P.body.a P.body.kids.len P.body.cap)) (go_keep) (first | (go_at_call 60;refine HC3.out.mono ?_;rintro e w7 ⟨rfl,hb7⟩;have HW7:=Lib.hid (HW6.out.drew.trans (hb7.mono HW6.out.drew.size));have HX7:=Lib.hid ((hb7.block _ (lt_heap HX6.out)).trans HX6.out);replace p1:=cell_below hb7 p1;replace x1:=cell_below hb7 x1;replace x2:=cell_below hb7 x2;replace x3:=cell_below hb7 x3;replace x4:=cell_below hb7 x4;replace x5:=cell_below hb7 x5;replace x6:=cell_below hb7 x6;clear hb7))
        clear p1 x0 x1 x2 x3 x4 x5 x6 x7 HC3 HX6 HY6 HW6
        go_wp2_with fail
        go_roundw
        case rel=>exact ⟨k+1,by go_num,by omega,HL2,HX7,HW7.out⟩
        case measure=>(try simp [intOf]);omega
       ·have hz:q0=(qf1,qf2):=by
         rw [HQ2.out,hqq2,if_neg hf,if_neg hf]
        have hfb:(qf2 != 0)=true:=by simp [hf]
        clear hqq2 HQ2 hf
        subst hz
        go_wp2_with fail
        go_region_held3 (fun wz=>wz.cell? ⟨w.heap.size,1,none⟩=some (.slice (some ⟨b,o,none⟩) ps.length pc)∧wz.cell? ⟨wr.heap.size,1,none⟩=some (.slice P.pa P.params.length P.pcap)∧wz.cell? ⟨wr.heap.size,2,none⟩=some (.string P.body.op)∧wz.cell? ⟨wr.heap.size,3,none⟩=some (.string P.body.name)∧wz.cell? ⟨wr.heap.size,4,none⟩=some (.int .i64 P.body.n)∧wz.cell? ⟨wr.heap.size,5,none⟩=some (.int .i64 P.body.pos)∧wz.cell? ⟨wr.heap.size,6,none⟩=some (.slice P.body.a P.body.kids.len P.body.cap)) (go_keep) (first | (go_at_call 60;refine HC3.out.mono ?_;rintro e w7 ⟨rfl,hb7⟩;have HW7:=Lib.hid (HW6.out.drew.trans (hb7.mono HW6.out.drew.size));replace p1:=cell_below hb7 p1;replace x1:=cell_below hb7 x1;replace x2:=cell_below hb7 x2;replace x3:=cell_below hb7 x3;replace x4:=cell_below hb7 x4;replace x5:=cell_below hb7 x5;replace x6:=cell_below hb7 x6;clear hb7))
        clear p1 x0 x1 x2 x3 x4 x5 x6 x7 HC3 HX6 HY6 HW6
        go_wp2_with fail
        go_ret2
        exact ⟨rfl,HW7.out⟩
    ·obtain rfl:k=ps.length:=by omega
     have hq2:qp=(0,0):=by rw [HL.out,List.drop_length];rfl
     have hq3:q0=T.fk (predsK ps) (ordD ds):=by rw [HQ2.out,hq2];rfl
     have HF:=Lib.hid (HFM.out wr hbx)
     rw [← hq3] at HF
     have HBX:=Lib.hid hbx
     clear HL HQ2 HFM hbx hq2 hq3
     go_wp2_with fail
     refine HF.out.mono ?_
     rintro e w5 ⟨rfl,hb5⟩
     have HW5:=Lib.hid (HBX.out.trans (hb5.mono HBX.out.size))
     clear HF hb5 HBX
     go_wp2_with fail
     go_ret2
     exact ⟨rfl,HW5.out⟩
 ·rw [if_neg (by rw [hok];decide)] at hqc
  rw [hok] at HC1
  clear hq0 hok
  subst hqc
  go_enter Tryz.func21,Tryz.ntmps21
  go_wp2_with fail
  refine HC1.out.mono ?_
  rintro e w2 ⟨rfl,hb2⟩
  have hbb:=HW.out.trans (hb2.mono HW.out.size)
  clear hb2 HC1
  go_wp2_with fail
  go_ret2
  exact ⟨rfl,hbb⟩
end Go.Proofs.YtmlmjopfbohglaaGreatDoor
