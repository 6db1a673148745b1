/- Parts of the proof: RpV. -/
import Derived.Test.YtmlmjopfbohglaaDoorWd40
import Derived.Test.YtmlmjopfbohglaaDoorWd14
namespace Go.Proofs.YtmlmjopfbohglaaDoor
open Go.RowKit
theorem ptoks_len {s:ByteArray} {l:List Tok} {at':Int} (h:toks s=(l,at',0)):l.length≤2001∧l≠[]:=by
 unfold toks at h
 split at h
 ·rename_i hs
  split at h
  ·cases h
  ·split at h
   ·have e1:=congrArg Prod.fst h
    simp only [] at e1
    subst e1
    have h1:(lexT s).1.length≤(each s).1.length:=lexL_len _ _ _ _
    have h2:=each_len s
    refine ⟨by simp only [List.length_append,List.length_cons,List.length_nil];omega,by simp⟩
   ·cases h
 ·cases h
theorem below_kp {w a b:World} {B:Nat} (h:Below w.heap.size w a) (k:Kp B a b) (hB:w.heap.size≤B):Below w.heap.size w b :=
 h.trans ⟨k.os,k.tape,k.output,k.size,fun i hi=>k.block i (Nat.lt_of_lt_of_le hi h.size) (fun e=>by have:=Option.some.inj e;omega)⟩
theorem below_grown {w a b:World} {row:Option Nat} (h:Below w.heap.size w a) (k:a.grownBy b row) (hB:∀ j,row=some j→w.heap.size≤j):Below w.heap.size w b :=
 h.trans ⟨k.os,k.tape,k.output,k.size,fun i hi=>k.block i (Nat.lt_of_lt_of_le hi h.size) (fun e=>by have:=hB i e.symm;omega)⟩
theorem below_at {w a:World} (h:Below w.heap.size w a) {B:Nat} (hB:w.heap.size≤B) (i:Nat) (v:Value):Below w.heap.size w (a.setCell ⟨B,i,none⟩ v):=h.setCell hB v
theorem own_ne {w:World} {lo e1 e2 n1 n2 k1 k2:Nat} {v1 v2:Value} {x1 x2:List Value} (h1:w.ownsRow lo e1 k1 v1 n1 x1) (h2:w.ownsRow lo e2 k2 v2 n2 x2) (hne:e1≠e2):v1.ownBlock=none∨v1.ownBlock≠v2.ownBlock:=by
 rcases h1.2 with ⟨rfl,_⟩ | ⟨g1,c1,cur1,rfl,_,hg1,_⟩
 ·exact .inl rfl
 ·rcases h2.2 with ⟨rfl,_⟩ | ⟨g2,c2,cur2,rfl,_,hg2,_⟩
  ·exact .inr (fun h=>by cases h)
  ·refine .inr fun h=>?_
   have e:g1=g2:=Option.some.inj h
   subst e
   rw [hg1] at hg2
   have:=Option.some.inj hg2
   injection this with _ h4 _
   exact hne h4
def SS (lo:Nat) (v u:Value) (b:Nat):Prop:=lo≤b∧some b≠v.ownBlock∧some b≠u.ownBlock
theorem pd_append {lo:Nat} {w w':World} {dv pv pv':Value} {p:Pd} (h:PdOk (SS lo dv pv) w p) (hg:w.grownBy w' pv.ownBlock) (hv:pv'.ownBlock=pv.ownBlock∨pv'.ownBlock=some w.heap.size):PdOk (SS lo dv pv') w' p:=by
 have hf:From (fun i=>SS lo dv pv i∧i < w.heap.size) w w':=⟨hg.size,fun b hb hl=>hg.block b hl hb.1.2.2⟩
 refine ((h.mono (S':=fun i=>SS lo dv pv i∧i < w.heap.size) (fun b hb hl=>⟨hb,hl⟩)).from hf).mono (fun b hb _=>⟨hb.1.1,hb.1.2.1,?_⟩)
 rcases hv with hv | hv
 ·rw [hv];exact hb.1.2.2
 ·rw [hv];intro e;have:=Option.some.inj e;have:=hb.2;omega
theorem pd_append' {lo:Nat} {w w':World} {dv dv' pv:Value} {p:Pd} (h:PdOk (SS lo dv pv) w p) (hg:w.grownBy w' dv.ownBlock) (hv:dv'.ownBlock=dv.ownBlock∨dv'.ownBlock=some w.heap.size):PdOk (SS lo dv' pv) w' p:=by
 have hf:From (fun i=>SS lo dv pv i∧i < w.heap.size) w w':=⟨hg.size,fun b hb hl=>hg.block b hl hb.1.2.1⟩
 refine ((h.mono (S':=fun i=>SS lo dv pv i∧i < w.heap.size) (fun b hb hl=>⟨hb,hl⟩)).from hf).mono (fun b hb _=>⟨hb.1.1,?_,hb.1.2.2⟩)
 rcases hv with hv | hv
 ·rw [hv];exact hb.1.2.1
 ·rw [hv];intro e;have:=Option.some.inj e;have:=hb.2;omega
def PdRow (w:World) (a:Option Addr) (l:List Pd):Prop:=l=[]∨∃ b,a=some ⟨b,0,none⟩∧b < w.heap.size∧w.frozen? ⟨b,0,none⟩=false∧∀ i p,l[i]? = some p→PdAt w b (i * 8) p
def ParseG (w:World) (len:Int) (r:Res (List Dc × List Pd × Nd)) (e:Ending) (w':World):Prop:=Below w.heap.size w w'∧match r with
 | .ok x _=>∃ (da:Option Addr) (dc:Nat) (pa:Option Addr) (pc:Nat) (Ps:List Pd) (T:Nd),e=.returned (.tuple #[.agg (pgCells da x.1.length dc pa Ps.length pc T.op T.name T.n T.pos T.a T.kids.len T.cap),.int .i64 len,.int .i64 0])∧DcRow (fun b=>w.heap.size≤b) w' da x.1∧PdRow w' pa Ps∧(∀ p ∈ Ps,PdOk (fun b=>w.heap.size≤b) w' p)∧Ps.map Pd.strip=x.2.1∧T.Good (fun b=>w.heap.size≤b) w'∧T.strip=x.2.2
 | .bad p q=>e=.returned (.tuple #[.agg #[.slice none 0 0,.slice none 0 0,.string ⟨#[]⟩,.string ⟨#[]⟩,.int .i64 0,.int .i64 0,.slice none 0 0],.int .i64 p,.int .i64 q])
theorem drewR_heap {w:World} {b:Nat} {o:Obj} (h:w.heap[b]? = some o):w.drew.heap[b]? = some o:=h
theorem PdAt.same {w w':World} {b o:Nat} {p:Pd} (hs:w'.heap[b]? = w.heap[b]?) (h:PdAt w b o p):PdAt w' b o p :=
 ⟨cell_same hs h.1,cell_same hs h.2.1,cell_same hs h.2.2.1,cell_same hs h.2.2.2.1,cell_same hs h.2.2.2.2.1,cell_same hs h.2.2.2.2.2.1,cell_same hs h.2.2.2.2.2.2.1,cell_same hs h.2.2.2.2.2.2.2⟩
theorem rowR_cells {w:World} {b:Nat} {cs:List Value} {t:TypeId} {fr:Nat × Nat} (h:w.heap[b]? = some (.cells cs.toArray t fr)):∀ j u,cs[j]? = some u→w.cell? ((⟨b,0,none⟩:Addr).add j)=some u:=by
 intro j u hj
 rw [show (⟨b,0,none⟩:Addr).add j=⟨b,0+j,none⟩ from by unfold Addr.add;split <;> simp_all,cell_of_row _ _ _ _ _ _ h,Nat.zero_add]
 simpa using hj
set_option maxRecDepth 100000 in
set_option maxHeartbeats 16000000 in
theorem rparse_ok (s:ByteArray) (l0:List Tok) (at':Int) (w:World) (hU:UT w) (hs:s.size≤1000000) (ht:toks s=(l0,at',0)) (hnq:NQ l0) (f:Nat) (hneed:7+20 * l0.length≤f+1) (r:Res (List Dc × List Pd × Nd)) (hr:pProgL (l0.length+1) (f+1) [] [] l0=r):Calls Tryd.prog 9 #[.string s] w (ParseG w s.size r):=by
 obtain ⟨i0,hi,hz0,hz1,hz2⟩:=info_parts Tryd.infoDeclR
 have HIF:=Lib.hid (And.intro hi (And.intro hz0 (And.intro hz1 hz2)))
 clear hi hz0 hz1 hz2
 obtain ⟨i1,hi,hz0,hz1,hz2⟩:=info_parts Tryd.infoPredR
 have HIP:=Lib.hid (And.intro hi (And.intro hz0 (And.intro hz1 hz2)))
 clear hi hz0 hz1 hz2
 have epred:(⟨#[112,114,101,100]⟩:ByteArray).toList=[112,114,101,100]:=by decide +kernel
 have e59:(⟨#[59]⟩:ByteArray).toList=[59]:=by decide +kernel
 have hc5:=cellsNode
 have hc4:=cellsTok
 have q0:=tok_f0
 have q3:=tok_f3
 obtain ⟨hlen,hne0⟩:=ptoks_len ht
 have hE:EndsQ l0:=⟨(toks_good ht).1,hnq⟩
 have HC:=Lib.hid (rtokens_is s l0 at' 0 (w.alloc (pgBox none 0 0 none 0 0 ⟨#[]⟩ ⟨#[]⟩ 0 0 none 0 0)) (Utf8Tabs_below hU (below_box _ _)) hs ht)
 have HRE0:=Lib.hid hr.symm
 have hsz64:s.size≤9223372036854775807:=by omega
 clear hU ht hr
 go_enter Tryd.func9,Tryd.ntmps9
 go_wp2_with fail
 refine HC.out.mono ?_
 rintro e w1 ⟨v,rfl,hown,hb⟩
 obtain ⟨ta,tcap,rfl,hl1,hl2,htk⟩:=toks_in hown
 have HB:=Lib.hid (box_then hb)
 have HZ:=Lib.hid (new_then hb)
 have hz:=lt_heap HZ.out
 have HRW:RowKit.Hid (PrS ((w1.alloc (.cells (prC ta l0.length tcap 0 0 0) 66)).alloc (pgBox none 0 0 none 0 0 ⟨#[]⟩ ⟨#[]⟩ 0 0 none 0 0)) w1.heap.size (.good l0)):=Lib.hid (PrS.alloc (show PrS _ w1.heap.size (.good l0) from ⟨ta,l0,tcap,0,new_at _ _,rfl,hne0,hE,by omega,htk.same fun g hg=>Below.heap_alloc _ _ _ hg⟩) _)
 have HG0:RowKit.Hid (((w1.alloc (.cells (prC ta l0.length tcap 0 0 0) 66)).alloc (pgBox none 0 0 none 0 0 ⟨#[]⟩ ⟨#[]⟩ 0 0 none 0 0)).heap[w1.heap.size+1]? = some (pgBox none 0 0 none 0 0 ⟨#[]⟩ ⟨#[]⟩ 0 0 none 0 0)):=Lib.hid (by have h:=new_at (w1.alloc (.cells (prC ta l0.length tcap 0 0 0) 66)) (pgBox none 0 0 none 0 0 ⟨#[]⟩ ⟨#[]⟩ 0 0 none 0 0);rw [alloc_size] at h;exact h)
 have HZ0:RowKit.Hid (((w1.alloc (.cells (prC ta l0.length tcap 0 0 0) 66)).alloc (pgBox none 0 0 none 0 0 ⟨#[]⟩ ⟨#[]⟩ 0 0 none 0 0)).heap[w.heap.size]? = some (pgBox none 0 0 none 0 0 ⟨#[]⟩ ⟨#[]⟩ 0 0 none 0 0)):=Lib.hid ((Below.heap_alloc _ _ _ (by rw [alloc_size];omega)).trans ((Below.heap_alloc _ _ _ hz).trans HZ.out))
 have HBW0:RowKit.Hid (Below w.heap.size w ((w1.alloc (.cells (prC ta l0.length tcap 0 0 0) 66)).alloc (pgBox none 0 0 none 0 0 ⟨#[]⟩ ⟨#[]⟩ 0 0 none 0 0))):=Lib.hid (HB.out.trans ((two_boxes w1 _ _).mono (by omega)))
 clear hown hb HC hl1 hl2 htk hne0 hE hnq
 go_wp2_with fail
 go_loopg [] (l0.length+1) (fun gf wx=>∃ (da:Option Addr) (dc:Nat) (ds:List Dc) (pa:Option Addr) (pc:Nat) (ps:List Pd),RowKit.Hid (wx.heap[w1.heap.size+1]? = some (pgBox da ds.length dc pa ps.length pc ⟨#[]⟩ ⟨#[]⟩ 0 0 none 0 0))∧RowKit.Hid (wx.heap[w.heap.size]? = some (pgBox none 0 0 none 0 0 ⟨#[]⟩ ⟨#[]⟩ 0 0 none 0 0))∧RowKit.Hid (Below w.heap.size w wx) ∧
   ((∃ l,PrS wx w1.heap.size (.good l)∧(l.length+1≤gf∧ds.length+ps.length+l.length≤l0.length)∧RowKit.Hid (wx.ownsRow (w1.heap.size+2) 55 3 (.slice da ds.length dc) ds.length (flatD ds))∧RowKit.Hid (wx.ownsRow (w1.heap.size+2) 47 8 (.slice pa ps.length pc) ps.length (flatP ps))∧RowKit.Hid (∀ p ∈ ps,PdOk (SS (w1.heap.size+2) (.slice da ds.length dc) (.slice pa ps.length pc)) wx p)∧RowKit.Hid (r=pProgL gf (f+1) ds (ps.map Pd.strip) l))∨(∃ x y,PrS wx w1.heap.size (.bad x y)∧r=.bad x y)))
 case atStart=>exact ⟨none,0,[],none,0,[],HG0,HZ0,HBW0,.inl ⟨l0,HRW.out,⟨by omega,by simp⟩,Lib.hid (World.ownsRow_nil _ _ _ _),Lib.hid (World.ownsRow_nil _ _ _ _),Lib.hid (fun p hp=>by cases hp),HRE0⟩⟩
 case round =>
  clear HRE0 HRW HG0 HZ0 HBW0
  obtain ⟨da,dc,ds,pa,pc,ps,HG,HZR,HBW,⟨l,hrd,⟨hgf,hN⟩,HOD,HOP,HPD,HRE⟩ | ⟨bx,by',hrd,hrb⟩⟩:=hrel
  ·obtain ⟨g',rfl⟩:∃ g',gk=g'+1:=⟨gk - 1,by omega⟩
   have HR0:=Lib.hid hrd
   obtain ⟨k2,hlne⟩:=prs_err hrd
   have HZ0:=HZR
   have HG0:=HG
   have HB0:=HBW
   have HOD0:=HOD
   have HOP0:=HOP
   have HPD0:=HPD
   have hszB:=HR0.out.lt
   have hszG:=lt_heap HG0.out
   clear HZR HG HBW HOD HOP HPD hrd
   have hre:=HRE.out
   unfold pProgL at hre
   clear HRE
   rcases bool_two ((wrd l).toList == [112,114,101,100]) with hw | hw
   ·rw [if_pos hw] at hre
    obtain ⟨rp,hrp⟩:∃ rp,pPred (f+1) l=rp:=⟨_,rfl⟩
    have hpc:=fun W (h:PrS W w1.heap.size (.good l))=>rpred_all f l W w1.heap.size (by omega) (by omega) hw h
    rw [hrp] at hre hpc
    have hln:=(hpc wr HR0.out).2
    have HPR:=Lib.hid (fun W (h:PrS W w1.heap.size (.good l))=>(hpc W h).1)
    have HIS:=Lib.hid (fun W (h:PrS W w1.heap.size (.good l))=>ris_yes l ⟨#[112,114,101,100]⟩ W w1.heap.size (by decide +kernel) (by rw [epred];exact hw) h)
    have HQE:=Lib.hid hre
    have HLN:=Lib.hid hln
    clear hre hpc hrp hln hw
    have HC2:=Lib.hid (HIS.out wr HR0.out)
    go_wp2_with fail
    refine HC2.out.mono ?_
    rintro e2 w2 ⟨rfl,hb2⟩
    have HZ2:=Lib.hid ((hb2.block _ (lt_heap HZ0.out)).trans HZ0.out)
    have HG2:=Lib.hid ((hb2.block _ (lt_heap HG0.out)).trans HG0.out)
    have HB2:=Lib.hid (HB0.out.trans (hb2.mono HB0.out.size))
    have HR2:=Lib.hid (HR0.out.below hb2)
    have HOD2:=Lib.hid (HOD0.out.kept (Kp.of_below (B:=w1.heap.size) hb2) (.inr (fun h=>by have:=(HOD0.out.lt _ h).1;omega)))
    have HOP2:=Lib.hid (HOP0.out.kept (Kp.of_below (B:=w1.heap.size) hb2) (.inr (fun h=>by have:=(HOP0.out.lt _ h).1;omega)))
    have HPD2:=Lib.hid (fun p hp=>(HPD0.out p hp).from (From.below hb2))
    have hsz2:=lt_heap HG2.out
    clear HZ0 HG0 HB0 HR0 HOD0 HOP0 HPD0
    clear hb2 HC2 k2
    have HC3:=Lib.hid (HIS.out w2 HR2.out)
    go_wp2_with fail
    refine HC3.out.mono ?_
    rintro e3 w3 ⟨rfl,hb3⟩
    have HZ3:=Lib.hid ((hb3.block _ (lt_heap HZ2.out)).trans HZ2.out)
    have HG3:=Lib.hid ((hb3.block _ (lt_heap HG2.out)).trans HG2.out)
    have HB3:=Lib.hid (HB2.out.trans (hb3.mono HB2.out.size))
    have HR3:=Lib.hid (HR2.out.below hb3)
    have HOD3:=Lib.hid (HOD2.out.kept (Kp.of_below (B:=w1.heap.size) hb3) (.inr (fun h=>by have:=(HOD2.out.lt _ h).1;omega)))
    have HOP3:=Lib.hid (HOP2.out.kept (Kp.of_below (B:=w1.heap.size) hb3) (.inr (fun h=>by have:=(HOP2.out.lt _ h).1;omega)))
    have HPD3:=Lib.hid (fun p hp=>(HPD2.out p hp).from (From.below hb3))
    have hsz3:=lt_heap HG3.out
    clear HZ2 HG2 HB2 HR2 HOD2 HOP2 HPD2
    clear hb3 HC3 HIS
    have HC4:=Lib.hid (HPR.out w3.drew HR3.out.drew)
    go_wp2_with fail
    refine wp_region_last 3 (fun W=>W.heap[w1.heap.size+1]? = some (pgBox da ds.length dc pa ps.length pc ⟨#[]⟩ ⟨#[]⟩ 0 0 none 0 0)) (by kernel_rfl) (by kernel_rfl) HG3.out ?_
    refine headsC_val _ (.pointer (some ⟨w1.heap.size+1,1,none⟩)) rfl (fun W hW=>by unfold execOp;simp [go_sem,Act.eval]) ?_
    refine headsC_val _ (.slice pa ps.length pc) rfl (fun W hW=>by have h:=pg_cells hW;unfold execOp;simp [go_sem,Act.eval,h]) ?_
    refine headsC_move _ _ rfl rfl ?_
    refine headsC_nil ?_
    show wpList _ _ (thenC _ _ _ _) _ _ _
    go_wp2_with fail
    refine HC4.out.mono ?_
    rintro e4 w4 ⟨P,rfl,hk4,ho4⟩
    have HO4:=Lib.hid ho4
    have hk4':=kp_drew hk4
    have HZ4:=Lib.hid (hk4'.blk HZ3.out (by omega))
    have HG4:=Lib.hid (hk4'.blk HG3.out (by omega))
    have HB4:=Lib.hid (below_kp HB3.out hk4' (by omega))
    have hsz4:=hk4'.size
    have HOD4:=Lib.hid (HOD3.out.kept hk4' (.inr (fun h=>by have:=(HOD3.out.lt _ h).1;omega)))
    have HOP4:=Lib.hid (HOP3.out.kept hk4' (.inr (fun h=>by have:=(HOP3.out.lt _ h).1;omega)))
    have HPD4:=Lib.hid (fun p hp=>(HPD3.out p hp).from (hk4'.from (fun h=>absurd h.1 (by omega))))
    have hodl:∀ j,(Value.slice da ds.length dc).ownBlock=some j→j < w3.heap.size:=fun j hj=>(HOD3.out.lt j hj).2
    have hopl:∀ j,(Value.slice pa ps.length pc).ownBlock=some j→j < w3.heap.size:=fun j hj=>(HOP3.out.lt j hj).2
    have HDL:=Lib.hid hodl
    have HPL:=Lib.hid hopl
    have hzG4:=lt_heap HG4.out
    have hzZ4:=lt_heap HZ4.out
    clear hk4' HZ3 HG3 HB3 HOD3 HOP3 HPD3 hodl hopl
    clear hk4 ho4 HC4 HPR HR3
    go_wp2_with fail
    refine ⟨fun _=>HG4.out,?_⟩
    show wpList _ _ (thenC _ _ _ _) _ _ _
    go_wp2_with fail
    refine ⟨fun _=>(Below.heap_alloc _ _ _ hzG4).trans HG4.out,?_⟩
    show wpList _ _ (thenC _ _ _ _) _ _ _
    go_wp2_with (at_builtin;refine wpList_append_own_at _ rfl _ _ 23 rfl (w1.heap.size+2) 47 i1 (.agg #[.string ⟨#[]⟩,.slice none 0 0,.string ⟨#[]⟩,.string ⟨#[]⟩,.int .i64 0,.int .i64 0,.slice none 0 0,.int .i64 0]) 8 120 Tryd.underlying23 HIP.out.1 HIP.out.2.1 HIP.out.2.2.1 HIP.out.2.2.2 rfl (by decide) (.slice pa ps.length pc) ps.length (flatP ps) rfl (HOP4.out.alloc _) ⟨w4.heap.size,0,none⟩ 1 1 [.string P.name,.slice P.pa P.params.length P.pcap,.string P.body.op,.string P.body.name,.int .i64 P.body.n,.int .i64 P.body.pos,.slice P.body.a P.body.kids.len P.body.cap,.int .i64 P.pos] rfl rfl (rowR_cells (new_at w4 (prdBox P.name (.slice P.pa P.params.length P.pcap) P.body.op P.body.name P.body.n P.body.pos P.body.a P.body.kids.len P.body.cap P.pos))) (fun x hx=>by simp at hx;rcases hx with rfl | rfl | rfl | rfl | rfl | rfl | rfl | rfl <;> rfl) (by unfold maxLen;omega) (by omega) (by simp;omega) ?_;intro v' w9 hown9 hgrow9 _ hlie9)
    obtain ⟨pa',pc',rfl⟩:=own_form hown9
    have HG9:=Lib.hid ((hgrow9.block _ (by rw [alloc_size];omega) (fun h=>by have:=(HOP4.out.lt _ h.symm).1;omega)).trans ((Below.heap_alloc _ _ _ hzG4).trans HG4.out))
    have HZ9:=Lib.hid ((hgrow9.block _ (by rw [alloc_size];omega) (fun h=>by have:=(HOP4.out.lt _ h.symm).1;omega)).trans ((Below.heap_alloc _ _ _ hzZ4).trans HZ4.out))
    have HB9:=Lib.hid (below_grown (below_kp HB4.out ((Kp.refl w1.heap.size w4).alloc (prdBox P.name (.slice P.pa P.params.length P.pcap) P.body.op P.body.name P.body.n P.body.pos P.body.a P.body.kids.len P.body.cap P.pos)) (by omega)) hgrow9 (fun j hj=>by have:=(HOP4.out.lt j hj).1;omega))
    have HOD9:=Lib.hid ((HOD4.out.alloc _).kept hgrow9 (own_ne HOD4.out HOP4.out (by decide)))
    have HOP9:RowKit.Hid (w9.ownsRow (w1.heap.size+2) 47 8 (.slice pa' (ps ++ [P]).length pc') (ps ++ [P]).length (flatP (ps ++ [P]))):=Lib.hid (by rw [flatP_append,List.length_append];exact hown9)
    have HPD9:=Lib.hid (fun p hp=>pd_append ((HPD4.out p hp).from (From.alloc _ _ (prdBox P.name (.slice P.pa P.params.length P.pcap) P.body.op P.body.name P.body.n P.body.pos P.body.a P.body.kids.len P.body.cap P.pos))) hgrow9 hlie9)
    have HNW:=Lib.hid (fun (h:PdOk (fun b=>w3.heap.size≤b) w4 P)=>pd_append ((h.mono (S':=SS (w1.heap.size+2) (.slice da ds.length dc) (.slice pa ps.length pc)) (fun b hb _=>⟨by omega,fun e=>by have:=HDL.out b e.symm;omega,fun e=>by have:=HPL.out b e.symm;omega⟩)).from (From.alloc _ _ (prdBox P.name (.slice P.pa P.params.length P.pcap) P.body.op P.body.name P.body.n P.body.pos P.body.a P.body.kids.len P.body.cap P.pos))) hgrow9 hlie9)
    have HRA:=Lib.hid (fun st (h:PrS w4 w1.heap.size st)=>prs_app (h.alloc (prdBox P.name (.slice P.pa P.params.length P.pcap) P.body.op P.body.name P.body.n P.body.pos P.body.a P.body.kids.len P.body.cap P.pos)) hgrow9 (fun j hj=>by have:=(HOP4.out.lt j hj).1;omega))
    have hl9:(ps ++ [P]).length=ps.length+1:=by simp
    clear hown9 hgrow9 hlie9 HG4 HZ4 HB4 HOD4 HOP4 HPD4 HDL HPL HIF HIP
    refine ⟨fun _=>HG9.out,?_⟩
    show wpList _ _ (thenC _ _ _ _) _ _ _
    go_wp2_with fail
    refine ⟨fun _=>HG9.out,?_⟩
    show wpList _ _ (thenC _ _ _ _) _ _ _
    obtain ⟨p0,p1,p2,p3,p4,p5,p6⟩:=pg_cells HG9.out
    obtain ⟨g0,g1,g2,g3,g4,g5,g6⟩:=pg_frozen HG9.out
    go_wp2_with fail
    refine ⟨fun h=>(by cases h),NoPanic.normal ?_⟩
    clear p0 p1 p2 p3 p4 p5 p6 g0 g1 g2 g3 g4 g5 g6
    go_wp2_with fail
    go_roundg g'
    case rel =>
     have hgset:Kp (w1.heap.size+1) w9 (w9.setCell ⟨w1.heap.size+1,1,none⟩ (.slice pa' (ps.length+1) pc')):=(Kp.refl _ w9).setB 1 _
     refine ⟨da,dc,ds,pa',pc',ps ++ [P],Lib.hid (by rw [hl9];exact heap_setCell_same _ _ 1 _ _ _ HG9.out),Lib.hid ((Below.heap_setCell _ _ _ _ (by simp;omega)).trans HZ9.out),Lib.hid (below_at HB9.out (by omega) _ _),?_⟩
     cases rp with
     | bad x y =>
      have h1:PrS w4 w1.heap.size (.bad x y):=HO4.out
      exact .inr ⟨x,y,(HRA.out _ h1).set (show w1.heap.size < w1.heap.size+1 by omega) _,HQE.out⟩
     | ok p l' =>
      obtain ⟨h1,h2,h3⟩:=HO4.out
      have hll:=HLN.out p l' rfl
      refine .inl ⟨l',(HRA.out _ h1).set (show w1.heap.size < w1.heap.size+1 by omega) _,⟨by omega,by rw [hl9];omega⟩,Lib.hid (HOD9.out.kept hgset (.inr (fun h=>by have:=(HOD9.out.lt _ h).1;omega))),Lib.hid (HOP9.out.kept hgset (.inr (fun h=>by have:=(HOP9.out.lt _ h).1;omega))),Lib.hid (fun p' hp'=>?_),Lib.hid ?_⟩
      ·rw [hl9]
       rcases List.mem_append.1 hp' with h | h
       ·exact (HPD9.out p' h).from (hgset.from (fun h=>absurd h.1 (by omega)))
       ·have e:p'=P:=by simpa using h
        subst e
        exact (HNW.out h2).from (hgset.from (fun h=>absurd h.1 (by omega)))
      ·rw [List.map_append,show [P].map Pd.strip=[p] from by rw [← h3];rfl]
       exact HQE.out
    case measure=>omega
   ·rw [if_neg (by rw [hw];decide)] at hre
    have HIS:=Lib.hid (ris_no l ⟨#[112,114,101,100]⟩ wr w1.heap.size (by rw [epred];exact hw) HR0.out)
    have HOR:=Lib.hid (fun W (h:PrS W w1.heap.size (.good l))=>rord_var_g l W w1.heap.size h)
    have hISN:=Lib.hid (fun W (h:PrS W w1.heap.size (.good l))=>ris_no l ⟨#[112,114,101,100]⟩ W w1.heap.size (by rw [epred];exact hw) h)
    have hdk:=fun g w0=>rdecl_all g l w0 w1.heap.size
    have hdl:=@declL_len (f+1) (ordOf [118,97,114] l) [] l.tail
    have htl:=tail_len hlne
    generalize ordOf [118,97,114] l=k at HOR hre hdk hdl
    rcases Int.lt_or_le k 0 with hk0 | hk0
    ·rw [if_neg (by rw [decide_eq_false (by omega)];decide)] at hre
     have hkd:¬ 0≤k:=by omega
     have HQE:=Lib.hid hre
     clear hdk hdl hk0 hISN hw hre
     go_wp2_with fail
     refine HIS.out.mono ?_
     rintro e2 w2 ⟨rfl,hb2⟩
     have HZ2:=Lib.hid ((hb2.block _ (lt_heap HZ0.out)).trans HZ0.out)
     have HG2:=Lib.hid ((hb2.block _ (lt_heap HG0.out)).trans HG0.out)
     have HB2:=Lib.hid (HB0.out.trans (hb2.mono HB0.out.size))
     have HR2:=Lib.hid (HR0.out.below hb2)
     have HOD2:=Lib.hid (HOD0.out.kept (Kp.of_below (B:=w1.heap.size) hb2) (.inr (fun h=>by have:=(HOD0.out.lt _ h).1;omega)))
     have HOP2:=Lib.hid (HOP0.out.kept (Kp.of_below (B:=w1.heap.size) hb2) (.inr (fun h=>by have:=(HOP0.out.lt _ h).1;omega)))
     have HPD2:=Lib.hid (fun p hp=>(HPD0.out p hp).from (From.below hb2))
     have hsz2:=lt_heap HG2.out
     clear HZ0 HG0 HB0 HR0 HOD0 HOP0 HPD0
     have HC2:=Lib.hid (HOR.out w2 HR2.out)
     clear hb2 HIS HOR k2
     go_wp2_with fail
     refine HC2.out.mono ?_
     rintro e2 wA ⟨rfl,hbA⟩
     have HZA:=Lib.hid ((hbA.block _ (lt_heap HZ2.out)).trans HZ2.out)
     have HGA:=Lib.hid ((hbA.block _ (lt_heap HG2.out)).trans HG2.out)
     have HBA:=Lib.hid (HB2.out.trans (hbA.mono HB2.out.size))
     have HRA:=Lib.hid (HR2.out.below hbA)
     have HODA:=Lib.hid (HOD2.out.kept (Kp.of_below (B:=w1.heap.size) hbA) (.inr (fun h=>by have:=(HOD2.out.lt _ h).1;omega)))
     have HOPA:=Lib.hid (HOP2.out.kept (Kp.of_below (B:=w1.heap.size) hbA) (.inr (fun h=>by have:=(HOP2.out.lt _ h).1;omega)))
     have HPDA:=Lib.hid (fun p hp=>(HPD2.out p hp).from (From.below hbA))
     have hszA:=lt_heap HGA.out
     clear HZ2 HG2 HB2 HR2 HOD2 HOP2 HPD2
     clear hbA HC2
     have hre:=HQE.out
     clear HQE
     obtain ⟨q,hq⟩:∃ q,pForm (f+1) 0 l=q:=⟨_,rfl⟩
     have HCF:=Lib.hid (rform_any (f+1) (.good l) wA w1.heap.size (by show 7+20 * l.length≤f+1;omega) HRA.out)
     have HQ:=Lib.hid hq
     rw [show sForm (f+1) (.good l)=q from hq] at HCF
     rw [hq] at hre
     clear hq HRA HQ
     cases q with
     | bad x y =>
      have HRR:=Lib.hid (show r=.bad x y from hre)
      clear hre HODA HOPA HPDA
      go_wp2_with fail
      refine HCF.out.mono ?_
      rintro e3 w3 hx3
      obtain ⟨T,rfl,hk3,hr3,hok3⟩:=hx3.st
      have HG3:=Lib.hid (hk3.blk HGA.out (by omega))
      have HZ3:=Lib.hid (hk3.blk HZA.out (by omega))
      have HB3:=Lib.hid (below_kp HBA.out hk3 (by omega))
      have HR3:=Lib.hid hr3
      have hsz3:=hk3.size
      clear hx3 hk3 hr3 hok3 HCF HGA HZA HBA
      have hzG3:=lt_heap HG3.out
      have hzZ3:=lt_heap HZ3.out
      obtain ⟨p0,p1,p2,p3,p4,p5,p6⟩:=pg_cells HG3.out
      obtain ⟨g0,g1,g2,g3,g4,g5,g6⟩:=pg_frozen HG3.out
      obtain ⟨w4,hW⟩:∃ x,x=(((((w3.setCell ⟨w1.heap.size+1,2,none⟩ (.string T.op)).setCell ⟨w1.heap.size+1,3,none⟩ (.string T.name)).setCell ⟨w1.heap.size+1,4,none⟩ (.int .i64 T.n)).setCell ⟨w1.heap.size+1,5,none⟩ (.int .i64 T.pos)).setCell ⟨w1.heap.size+1,6,none⟩ (.slice T.a T.kids.len T.cap)):=⟨_,rfl⟩
      have HR4:RowKit.Hid (PrS w4 w1.heap.size (.bad x y)):=Lib.hid (by have hrz:PrS w3 w1.heap.size (.bad x y):=HR3.out;rw [hW];exact (by repeat (with_reducible first | exact hrz | refine PrS.set ?_ (show w1.heap.size < w1.heap.size+1 by omega) _)))
      have HB4:RowKit.Hid (Below w.heap.size w w4):=Lib.hid (by rw [hW];exact (by repeat (with_reducible first | exact HB3.out | refine below_at ?_ (show w.heap.size≤w1.heap.size+1 by omega) _ _)))
      have HG4:RowKit.Hid (w4.heap[w1.heap.size+1]? = some (pgBox da ds.length dc pa ps.length pc T.op T.name T.n T.pos T.a T.kids.len T.cap)):=Lib.hid (by rw [hW];exact pg_main HG3.out _ _ _ _ _ _ _)
      have HFS:RowKit.Hid (From (fun b=>b≠w1.heap.size+1) w3 w4):=Lib.hid (by rw [hW];exact ((((From.set _ (fun h=>h rfl) _).trans (From.set _ (fun h=>h rfl) _)).trans (From.set _ (fun h=>h rfl) _)).trans (From.set _ (fun h=>h rfl) _)).trans (From.set _ (fun h=>h rfl) _))
      have HZ4:=Lib.hid ((HFS.out.block w.heap.size (by omega) hzZ3).trans HZ3.out)
      have hsz4:=HFS.out.size
      clear HR3 HB3 HG3 HZ3
      have HCM:=Lib.hid (rmust_b ⟨#[59]⟩ w4 w1.heap.size x y HR4.out)
      go_wp2_with fail
      rw [← hW]
      clear hW p0 p1 p2 p3 p4 p5 p6 g0 g1 g2 g3 g4 g5 g6 HFS
      skip
      refine HCM.out.mono ?_
      rintro e5 w5 ⟨rfl,hk5,hr5⟩
      have HZ5:=Lib.hid (hk5.blk HZ4.out (by omega))
      have HG5:=Lib.hid (hk5.blk HG4.out (by omega))
      have HB5:=Lib.hid (below_kp HB4.out hk5 (by omega))
      have hsz5:=hk5.size
      clear HZ4 HG4 HB4
      have HR5:=Lib.hid hr5
      clear hk5 hr5 HCM
      have HCN:=Lib.hid (rnow_b w5 w1.heap.size x y HR5.out)
      go_wp2_with fail
      refine HCN.out.mono ?_
      rintro e6 w6 ⟨rfl,hb6⟩
      have hk6:=Kp.of_below (B:=w1.heap.size) hb6
      have HZ6:=Lib.hid (hk6.blk HZ5.out (by omega))
      have HG6:=Lib.hid (hk6.blk HG5.out (by omega))
      have HB6:=Lib.hid (below_kp HB5.out hk6 (by omega))
      have hsz6:=hk6.size
      clear HZ5 HG5 HB5
      have HR6:=Lib.hid (HR5.out.below hb6)
      clear hk6 hb6 HCN
      have hrr:=HR6.out
      obtain ⟨aa,la,ca,ia,hat,hqe⟩:=hrr
      have hq2:((y:Int) != 0)=true:=by unfold bne;first | (rw [hqe];rfl) | rfl
      have k2:=hat.cells.1.2.2.1
      have k3:=hat.cells.1.2.2.2
      obtain ⟨p0,p1,p2,p3,p4,p5,p6⟩:=pg_cells HZ6.out
      obtain ⟨g0,g1,g2,g3,g4,g5,g6⟩:=pg_frozen HZ6.out
      have hzz:=lt_heap HZ6.out
      have hzb:=hat.lt
      clear hat hqe
      go_wp2_with fail
      go_region
      all_goals
       go_wp2_with fail
       refine ret_parse (Z:=w.heap.size) none 0 0 none 0 0 ⟨#[]⟩ ⟨#[]⟩ 0 0 none 0 0 Tryd.results9 rfl rfl (drewR_heap (pg_set HZ6.out _ _ _ _ _ _ _ _ _ _ _ _ _)) ⟨?_,?_⟩
       ·exact (by repeat (with_reducible first | exact HB6.out | refine Below.drew ?_ | refine below_set ?_ _ _))
       ·rw [HRR.out]
        exact rfl
     | ok n l2 =>
      have hre':r=(if ((wrd l2).toList == [59])=true then (if ((hd l2.tail).kind == 4)=true then .ok (ds,ps.map Pd.strip,n) [] else .bad (hd l2.tail).pos 2) else .bad (hd l2).pos 2):=hre
      clear hre
      rcases bool_two ((wrd l2).toList == [59]) with hm | hm
      ·rw [if_pos hm] at hre'
       rcases bool_two ((hd l2.tail).kind == 4) with h4 | h4
       ·rw [if_pos h4] at hre'
        have HRR:=Lib.hid hre'
        clear hre'
        go_wp2_with fail
        refine HCF.out.mono ?_
        rintro e3 w3 hx3
        obtain ⟨T,rfl,hk3,hr3,hok3⟩:=hx3.st
        have HG3:=Lib.hid (hk3.blk HGA.out (by omega))
        have HZ3:=Lib.hid (hk3.blk HZA.out (by omega))
        have HB3:=Lib.hid (below_kp HBA.out hk3 (by omega))
        have HR3:=Lib.hid hr3
        have hsz3:=hk3.size
        obtain ⟨hgd,hst⟩:=hok3 _ _ rfl
        have HGT3:=Lib.hid hgd
        have HST:=Lib.hid hst
        clear hgd hst
        have HOD3:=Lib.hid (HODA.out.kept hk3 (.inr (fun h=>by have:=(HODA.out.lt _ h).1;omega)))
        have HOP3:=Lib.hid (HOPA.out.kept hk3 (.inr (fun h=>by have:=(HOPA.out.lt _ h).1;omega)))
        have HPD3:=Lib.hid (fun p hp=>(HPDA.out p hp).from (hk3.from (fun h=>absurd h.1 (by omega))))
        clear hx3 hk3 hr3 hok3 HCF HGA HZA HBA HODA HOPA HPDA
        have hzG3:=lt_heap HG3.out
        have hzZ3:=lt_heap HZ3.out
        obtain ⟨p0,p1,p2,p3,p4,p5,p6⟩:=pg_cells HG3.out
        obtain ⟨g0,g1,g2,g3,g4,g5,g6⟩:=pg_frozen HG3.out
        obtain ⟨w4,hW⟩:∃ x,x=(((((w3.setCell ⟨w1.heap.size+1,2,none⟩ (.string T.op)).setCell ⟨w1.heap.size+1,3,none⟩ (.string T.name)).setCell ⟨w1.heap.size+1,4,none⟩ (.int .i64 T.n)).setCell ⟨w1.heap.size+1,5,none⟩ (.int .i64 T.pos)).setCell ⟨w1.heap.size+1,6,none⟩ (.slice T.a T.kids.len T.cap)):=⟨_,rfl⟩
        have HR4:RowKit.Hid (PrS w4 w1.heap.size (.good l2)):=Lib.hid (by have hrz:PrS w3 w1.heap.size (.good l2):=HR3.out;rw [hW];exact (by repeat (with_reducible first | exact hrz | refine PrS.set ?_ (show w1.heap.size < w1.heap.size+1 by omega) _)))
        have HB4:RowKit.Hid (Below w.heap.size w w4):=Lib.hid (by rw [hW];exact (by repeat (with_reducible first | exact HB3.out | refine below_at ?_ (show w.heap.size≤w1.heap.size+1 by omega) _ _)))
        have HG4:RowKit.Hid (w4.heap[w1.heap.size+1]? = some (pgBox da ds.length dc pa ps.length pc T.op T.name T.n T.pos T.a T.kids.len T.cap)):=Lib.hid (by rw [hW];exact pg_main HG3.out _ _ _ _ _ _ _)
        have HFS:RowKit.Hid (From (fun b=>b≠w1.heap.size+1) w3 w4):=Lib.hid (by rw [hW];exact ((((From.set _ (fun h=>h rfl) _).trans (From.set _ (fun h=>h rfl) _)).trans (From.set _ (fun h=>h rfl) _)).trans (From.set _ (fun h=>h rfl) _)).trans (From.set _ (fun h=>h rfl) _))
        have HZ4:=Lib.hid ((HFS.out.block w.heap.size (by omega) hzZ3).trans HZ3.out)
        have hsz4:=HFS.out.size
        have hkg:Kp (w1.heap.size+1) w3 w4:=by rw [hW];exact (((((Kp.refl _ w3).setB 2 _).setB 3 _).setB 4 _).setB 5 _).setB 6 _
        have HOD4:=Lib.hid (HOD3.out.kept hkg (.inr (fun h=>by have:=(HOD3.out.lt _ h).1;omega)))
        have HOP4:=Lib.hid (HOP3.out.kept hkg (.inr (fun h=>by have:=(HOP3.out.lt _ h).1;omega)))
        have HPD4:=Lib.hid (fun p hp=>(HPD3.out p hp).from (hkg.from (fun h=>absurd h.1 (by omega))))
        have HGT4:=Lib.hid ((HGT3.out.mono (S':=fun b=>w1.heap.size+2≤b) (fun b hb=>by omega)).from (hkg.from (by omega)))
        clear hkg HOD3 HOP3 HPD3 HGT3
        clear HR3 HB3 HG3 HZ3
        have HCM:=Lib.hid (rmust_yes l2 ⟨#[59]⟩ w4 w1.heap.size (by decide +kernel) (by rw [e59];exact hm) HR4.out)
        have HNN:=Lib.hid (fun W (h:PrS W w1.heap.size (.good l2.tail))=>rnow_g l2.tail W w1.heap.size h)
        have h4n:((hd l2.tail).kind != 4)=false:=by unfold bne;rw [h4];rfl
        clear h4 hm
        generalize hd l2.tail=tkE at HNN h4n
        go_wp2_with fail
        rw [← hW]
        clear hW p0 p1 p2 p3 p4 p5 p6 g0 g1 g2 g3 g4 g5 g6 HFS
        skip
        refine HCM.out.mono ?_
        rintro e5 w5 ⟨rfl,hk5,hr5⟩
        have HZ5:=Lib.hid (hk5.blk HZ4.out (by omega))
        have HG5:=Lib.hid (hk5.blk HG4.out (by omega))
        have HB5:=Lib.hid (below_kp HB4.out hk5 (by omega))
        have hsz5:=hk5.size
        have HOD5:=Lib.hid (HOD4.out.kept hk5 (.inr (fun h=>by have:=(HOD4.out.lt _ h).1;omega)))
        have HOP5:=Lib.hid (HOP4.out.kept hk5 (.inr (fun h=>by have:=(HOP4.out.lt _ h).1;omega)))
        have HPD5:=Lib.hid (fun p hp=>(HPD4.out p hp).from (hk5.from (fun h=>absurd h.1 (by omega))))
        have HGT5:=Lib.hid (HGT4.out.from (hk5.from (by omega)))
        clear HZ4 HG4 HB4 HOD4 HOP4 HPD4 HGT4
        have HR5:=Lib.hid hr5
        clear hk5 hr5 HCM
        have HCN:=Lib.hid (HNN.out w5 HR5.out)
        go_wp2_with fail
        refine HCN.out.mono ?_
        rintro e6 w6 ⟨rfl,hb6⟩
        have hk6:=Kp.of_below (B:=w1.heap.size) hb6
        have HZ6:=Lib.hid (hk6.blk HZ5.out (by omega))
        have HG6:=Lib.hid (hk6.blk HG5.out (by omega))
        have HB6:=Lib.hid (below_kp HB5.out hk6 (by omega))
        have hsz6:=hk6.size
        have HOD6:=Lib.hid (HOD5.out.kept hk6 (.inr (fun h=>by have:=(HOD5.out.lt _ h).1;omega)))
        have HOP6:=Lib.hid (HOP5.out.kept hk6 (.inr (fun h=>by have:=(HOP5.out.lt _ h).1;omega)))
        have HPD6:=Lib.hid (fun p hp=>(HPD5.out p hp).from (hk6.from (fun h=>absurd h.1 (by omega))))
        have HGT6:=Lib.hid (HGT5.out.from (hk6.from (by omega)))
        clear HZ5 HG5 HB5 HOD5 HOP5 HPD5 HGT5
        have HR6:=Lib.hid (HR5.out.below hb6)
        clear hk6 hb6 HCN
        obtain ⟨k2,_⟩:=prs_err HR6.out
        obtain ⟨p0,p1,p2,p3,p4,p5,p6⟩:=pg_cells HG6.out
        obtain ⟨z0,z1,z2,z3,z4,z5,z6⟩:=pg_cells HZ6.out
        obtain ⟨g0,g1,g2,g3,g4,g5,g6⟩:=pg_frozen HZ6.out
        have hne1:¬ w.heap.size=w1.heap.size+1:=by omega
        have hzz:=lt_heap HZ6.out
        go_wp2_with fail
        refine ret_parse (Z:=w.heap.size) da ds.length dc pa ps.length pc T.op T.name T.n T.pos T.a T.kids.len T.cap Tryd.results9 rfl rfl (pg_set HZ6.out _ _ _ _ _ _ _ _ _ _ _ _ _) ⟨(by repeat (with_reducible first | exact HB6.out | refine below_set ?_ _ _)),?_⟩
        rw [HRR.out]
        refine ⟨da,dc,pa,pc,ps,T,rfl,?_⟩
        have HFQ:RowKit.Hid (From (fun b=>w1.heap.size+2≤b) w6 _):=Lib.hid (by have hq:¬ (w1.heap.size+2≤w.heap.size):=(by omega);exact ((((((From.set w6 (p:=⟨w.heap.size,0,none⟩) hq (.slice da ds.length dc)).trans (From.set _ (p:=⟨w.heap.size,1,none⟩) hq (.slice pa ps.length pc))).trans (From.set _ (p:=⟨w.heap.size,2,none⟩) hq (.string T.op))).trans (From.set _ (p:=⟨w.heap.size,3,none⟩) hq (.string T.name))).trans (From.set _ (p:=⟨w.heap.size,4,none⟩) hq (.int .i64 T.n))).trans (From.set _ (p:=⟨w.heap.size,5,none⟩) hq (.int .i64 T.pos))).trans (From.set _ (p:=⟨w.heap.size,6,none⟩) hq (.slice T.a T.kids.len T.cap)))
        refine ⟨?_,?_,?_,rfl,?_,HST.out⟩
        ·exact ((dcs_own HOD6.out).from HFQ.out).mono (fun b hb _=>by omega)
        ·rcases pds_own HOP6.out with h | ⟨b,h1,h2,h3,h4⟩
         ·exact .inl h
         ·have hlb:w1.heap.size+2≤b:=(HOP6.out.lt b (by rw [h1];rfl)).1
          have hbk:=HFQ.out.block b hlb h2
          exact .inr ⟨b,h1,Nat.lt_of_lt_of_le h2 HFQ.out.size,(by rw [← h3];unfold World.frozen?;rw [hbk]),fun i p hp=>PdAt.same hbk (h4 i p hp)⟩
        ·exact fun p hp=>(((HPD6.out p hp).mono (S':=fun b=>w1.heap.size+2≤b) (fun b hb _=>hb.1)).from HFQ.out).mono (fun b hb _=>by omega)
        ·exact (HGT6.out.from HFQ.out).mono (fun b hb=>by omega)
       ·rw [if_neg (by rw [h4];decide)] at hre'
        have HRR:=Lib.hid hre'
        clear hre' HODA HOPA HPDA
        go_wp2_with fail
        refine HCF.out.mono ?_
        rintro e3 w3 hx3
        obtain ⟨T,rfl,hk3,hr3,hok3⟩:=hx3.st
        have HG3:=Lib.hid (hk3.blk HGA.out (by omega))
        have HZ3:=Lib.hid (hk3.blk HZA.out (by omega))
        have HB3:=Lib.hid (below_kp HBA.out hk3 (by omega))
        have HR3:=Lib.hid hr3
        have hsz3:=hk3.size
        clear hx3 hk3 hr3 hok3 HCF HGA HZA HBA
        have hzG3:=lt_heap HG3.out
        have hzZ3:=lt_heap HZ3.out
        obtain ⟨p0,p1,p2,p3,p4,p5,p6⟩:=pg_cells HG3.out
        obtain ⟨g0,g1,g2,g3,g4,g5,g6⟩:=pg_frozen HG3.out
        obtain ⟨w4,hW⟩:∃ x,x=(((((w3.setCell ⟨w1.heap.size+1,2,none⟩ (.string T.op)).setCell ⟨w1.heap.size+1,3,none⟩ (.string T.name)).setCell ⟨w1.heap.size+1,4,none⟩ (.int .i64 T.n)).setCell ⟨w1.heap.size+1,5,none⟩ (.int .i64 T.pos)).setCell ⟨w1.heap.size+1,6,none⟩ (.slice T.a T.kids.len T.cap)):=⟨_,rfl⟩
        have HR4:RowKit.Hid (PrS w4 w1.heap.size (.good l2)):=Lib.hid (by have hrz:PrS w3 w1.heap.size (.good l2):=HR3.out;rw [hW];exact (by repeat (with_reducible first | exact hrz | refine PrS.set ?_ (show w1.heap.size < w1.heap.size+1 by omega) _)))
        have HB4:RowKit.Hid (Below w.heap.size w w4):=Lib.hid (by rw [hW];exact (by repeat (with_reducible first | exact HB3.out | refine below_at ?_ (show w.heap.size≤w1.heap.size+1 by omega) _ _)))
        have HG4:RowKit.Hid (w4.heap[w1.heap.size+1]? = some (pgBox da ds.length dc pa ps.length pc T.op T.name T.n T.pos T.a T.kids.len T.cap)):=Lib.hid (by rw [hW];exact pg_main HG3.out _ _ _ _ _ _ _)
        have HFS:RowKit.Hid (From (fun b=>b≠w1.heap.size+1) w3 w4):=Lib.hid (by rw [hW];exact ((((From.set _ (fun h=>h rfl) _).trans (From.set _ (fun h=>h rfl) _)).trans (From.set _ (fun h=>h rfl) _)).trans (From.set _ (fun h=>h rfl) _)).trans (From.set _ (fun h=>h rfl) _))
        have HZ4:=Lib.hid ((HFS.out.block w.heap.size (by omega) hzZ3).trans HZ3.out)
        have hsz4:=HFS.out.size
        clear HR3 HB3 HG3 HZ3
        have HCM:=Lib.hid (rmust_yes l2 ⟨#[59]⟩ w4 w1.heap.size (by decide +kernel) (by rw [e59];exact hm) HR4.out)
        have HNN:=Lib.hid (fun W (h:PrS W w1.heap.size (.good l2.tail))=>rnow_g l2.tail W w1.heap.size h)
        have HFL:=Lib.hid (fun W (h:PrS W w1.heap.size (.good l2.tail))=>rfail_g l2.tail (hd l2.tail).pos 2 W w1.heap.size rfl h)
        have h4n:((hd l2.tail).kind != 4)=true:=by unfold bne;rw [h4];rfl
        clear h4 hm
        generalize hd l2.tail=tkE at HNN HFL h4n HRR
        go_wp2_with fail
        rw [← hW]
        clear hW p0 p1 p2 p3 p4 p5 p6 g0 g1 g2 g3 g4 g5 g6 HFS
        skip
        refine HCM.out.mono ?_
        rintro e5 w5 ⟨rfl,hk5,hr5⟩
        have HZ5:=Lib.hid (hk5.blk HZ4.out (by omega))
        have HG5:=Lib.hid (hk5.blk HG4.out (by omega))
        have HB5:=Lib.hid (below_kp HB4.out hk5 (by omega))
        have hsz5:=hk5.size
        clear HZ4 HG4 HB4
        have HR5:=Lib.hid hr5
        clear hk5 hr5 HCM
        have HCN:=Lib.hid (HNN.out w5 HR5.out)
        go_wp2_with fail
        refine HCN.out.mono ?_
        rintro e6 w6 ⟨rfl,hb6⟩
        have hk6:=Kp.of_below (B:=w1.heap.size) hb6
        have HZ6:=Lib.hid (hk6.blk HZ5.out (by omega))
        have HG6:=Lib.hid (hk6.blk HG5.out (by omega))
        have HB6:=Lib.hid (below_kp HB5.out hk6 (by omega))
        have hsz6:=hk6.size
        clear HZ5 HG5 HB5
        have HR6:=Lib.hid (HR5.out.below hb6)
        clear hk6 hb6 HCN
        have HCO:=Lib.hid (HNN.out w6 HR6.out)
        go_wp2_with fail
        refine HCO.out.mono ?_
        rintro e7 w7 ⟨rfl,hb7⟩
        have hk7:=Kp.of_below (B:=w1.heap.size) hb7
        have HZ7:=Lib.hid (hk7.blk HZ6.out (by omega))
        have HG7:=Lib.hid (hk7.blk HG6.out (by omega))
        have HB7:=Lib.hid (below_kp HB6.out hk7 (by omega))
        have hsz7:=hk7.size
        clear HZ6 HG6 HB6
        have HR7:=Lib.hid (HR6.out.below hb7)
        clear hk7 hb7 HCO
        have HCP:=Lib.hid (HFL.out w7 HR7.out)
        go_wp2_with fail
        refine HCP.out.mono ?_
        rintro e8 w8 ⟨rfl,hk8,hr8⟩
        have HZ8:=Lib.hid (hk8.blk HZ7.out (by omega))
        have HG8:=Lib.hid (hk8.blk HG7.out (by omega))
        have HB8:=Lib.hid (below_kp HB7.out hk8 (by omega))
        have hsz8:=hk8.size
        clear HZ7 HG7 HB7
        have HR8:=Lib.hid hr8
        clear hk8 hr8 HCP
        have hrr:=HR8.out
        obtain ⟨aa,la,ca,ia,hat,hqe⟩:=hrr
        have hq2:((2:Int) != 0)=true:=by unfold bne;first | (rw [hqe];rfl) | rfl
        have k2:=hat.cells.1.2.2.1
        have k3:=hat.cells.1.2.2.2
        obtain ⟨p0,p1,p2,p3,p4,p5,p6⟩:=pg_cells HZ8.out
        obtain ⟨g0,g1,g2,g3,g4,g5,g6⟩:=pg_frozen HZ8.out
        have hzz:=lt_heap HZ8.out
        have hzb:=hat.lt
        clear hat hqe
        go_wp2_with fail
        go_region
        all_goals
         go_wp2_with fail
         refine ret_parse (Z:=w.heap.size) none 0 0 none 0 0 ⟨#[]⟩ ⟨#[]⟩ 0 0 none 0 0 Tryd.results9 rfl rfl (drewR_heap (pg_set HZ8.out _ _ _ _ _ _ _ _ _ _ _ _ _)) ⟨?_,?_⟩
         ·exact (by repeat (with_reducible first | exact HB8.out | refine Below.drew ?_ | refine below_set ?_ _ _))
         ·rw [HRR.out]
          exact rfl
      ·rw [if_neg (by rw [hm];decide)] at hre'
       have HRR:=Lib.hid hre'
       clear hre' HODA HOPA HPDA
       go_wp2_with fail
       refine HCF.out.mono ?_
       rintro e3 w3 hx3
       obtain ⟨T,rfl,hk3,hr3,hok3⟩:=hx3.st
       have HG3:=Lib.hid (hk3.blk HGA.out (by omega))
       have HZ3:=Lib.hid (hk3.blk HZA.out (by omega))
       have HB3:=Lib.hid (below_kp HBA.out hk3 (by omega))
       have HR3:=Lib.hid hr3
       have hsz3:=hk3.size
       clear hx3 hk3 hr3 hok3 HCF HGA HZA HBA
       have hzG3:=lt_heap HG3.out
       have hzZ3:=lt_heap HZ3.out
       obtain ⟨p0,p1,p2,p3,p4,p5,p6⟩:=pg_cells HG3.out
       obtain ⟨g0,g1,g2,g3,g4,g5,g6⟩:=pg_frozen HG3.out
       obtain ⟨w4,hW⟩:∃ x,x=(((((w3.setCell ⟨w1.heap.size+1,2,none⟩ (.string T.op)).setCell ⟨w1.heap.size+1,3,none⟩ (.string T.name)).setCell ⟨w1.heap.size+1,4,none⟩ (.int .i64 T.n)).setCell ⟨w1.heap.size+1,5,none⟩ (.int .i64 T.pos)).setCell ⟨w1.heap.size+1,6,none⟩ (.slice T.a T.kids.len T.cap)):=⟨_,rfl⟩
       have HR4:RowKit.Hid (PrS w4 w1.heap.size (.good l2)):=Lib.hid (by have hrz:PrS w3 w1.heap.size (.good l2):=HR3.out;rw [hW];exact (by repeat (with_reducible first | exact hrz | refine PrS.set ?_ (show w1.heap.size < w1.heap.size+1 by omega) _)))
       have HB4:RowKit.Hid (Below w.heap.size w w4):=Lib.hid (by rw [hW];exact (by repeat (with_reducible first | exact HB3.out | refine below_at ?_ (show w.heap.size≤w1.heap.size+1 by omega) _ _)))
       have HG4:RowKit.Hid (w4.heap[w1.heap.size+1]? = some (pgBox da ds.length dc pa ps.length pc T.op T.name T.n T.pos T.a T.kids.len T.cap)):=Lib.hid (by rw [hW];exact pg_main HG3.out _ _ _ _ _ _ _)
       have HFS:RowKit.Hid (From (fun b=>b≠w1.heap.size+1) w3 w4):=Lib.hid (by rw [hW];exact ((((From.set _ (fun h=>h rfl) _).trans (From.set _ (fun h=>h rfl) _)).trans (From.set _ (fun h=>h rfl) _)).trans (From.set _ (fun h=>h rfl) _)).trans (From.set _ (fun h=>h rfl) _))
       have HZ4:=Lib.hid ((HFS.out.block w.heap.size (by omega) hzZ3).trans HZ3.out)
       have hsz4:=HFS.out.size
       clear HR3 HB3 HG3 HZ3
       have HCM:=Lib.hid (rmust_no l2 ⟨#[59]⟩ w4 w1.heap.size (by rw [e59];exact hm) HR4.out)
       clear hm
       generalize (hd l2).pos=pz at HCM HRR
       go_wp2_with fail
       rw [← hW]
       clear hW p0 p1 p2 p3 p4 p5 p6 g0 g1 g2 g3 g4 g5 g6 HFS
       skip
       refine HCM.out.mono ?_
       rintro e5 w5 ⟨rfl,hk5,hr5⟩
       have HZ5:=Lib.hid (hk5.blk HZ4.out (by omega))
       have HG5:=Lib.hid (hk5.blk HG4.out (by omega))
       have HB5:=Lib.hid (below_kp HB4.out hk5 (by omega))
       have hsz5:=hk5.size
       clear HZ4 HG4 HB4
       have HR5:=Lib.hid hr5
       clear hk5 hr5 HCM
       have HCN:=Lib.hid (rnow_b w5 w1.heap.size pz 2 HR5.out)
       go_wp2_with fail
       refine HCN.out.mono ?_
       rintro e6 w6 ⟨rfl,hb6⟩
       have hk6:=Kp.of_below (B:=w1.heap.size) hb6
       have HZ6:=Lib.hid (hk6.blk HZ5.out (by omega))
       have HG6:=Lib.hid (hk6.blk HG5.out (by omega))
       have HB6:=Lib.hid (below_kp HB5.out hk6 (by omega))
       have hsz6:=hk6.size
       clear HZ5 HG5 HB5
       have HR6:=Lib.hid (HR5.out.below hb6)
       clear hk6 hb6 HCN
       have hrr:=HR6.out
       obtain ⟨aa,la,ca,ia,hat,hqe⟩:=hrr
       have hq2:((2:Int) != 0)=true:=by unfold bne;first | (rw [hqe];rfl) | rfl
       have k2:=hat.cells.1.2.2.1
       have k3:=hat.cells.1.2.2.2
       obtain ⟨p0,p1,p2,p3,p4,p5,p6⟩:=pg_cells HZ6.out
       obtain ⟨g0,g1,g2,g3,g4,g5,g6⟩:=pg_frozen HZ6.out
       have hzz:=lt_heap HZ6.out
       have hzb:=hat.lt
       clear hat hqe
       go_wp2_with fail
       go_region
       all_goals
        go_wp2_with fail
        refine ret_parse (Z:=w.heap.size) none 0 0 none 0 0 ⟨#[]⟩ ⟨#[]⟩ 0 0 none 0 0 Tryd.results9 rfl rfl (drewR_heap (pg_set HZ6.out _ _ _ _ _ _ _ _ _ _ _ _ _)) ⟨?_,?_⟩
        ·exact (by repeat (with_reducible first | exact HB6.out | refine Below.drew ?_ | refine below_set ?_ _ _))
        ·rw [HRR.out]
         exact rfl
    ·rw [if_pos (by rw [decide_eq_true hk0])] at hre
     obtain ⟨rp,hrp⟩:∃ rp,pDeclL (f+1) k [] l.tail=rp:=⟨_,rfl⟩
     rw [hrp] at hre hdl
     have HPR:=Lib.hid (fun W (h:PrS W w1.heap.size (.good l))=>hdk f W (by omega) hk0 (by omega) h)
     rw [hrp] at HPR
     have hkd:0≤k:=hk0
     have HIN:=Lib.hid hISN
     have HQE:=Lib.hid hre
     have HLN:=Lib.hid hdl
     clear hre hrp hdl hw hdk hk0 hISN
     go_wp2_with fail
     refine HIS.out.mono ?_
     rintro e2 w2 ⟨rfl,hb2⟩
     have HZ2:=Lib.hid ((hb2.block _ (lt_heap HZ0.out)).trans HZ0.out)
     have HG2:=Lib.hid ((hb2.block _ (lt_heap HG0.out)).trans HG0.out)
     have HB2:=Lib.hid (HB0.out.trans (hb2.mono HB0.out.size))
     have HR2:=Lib.hid (HR0.out.below hb2)
     have HOD2:=Lib.hid (HOD0.out.kept (Kp.of_below (B:=w1.heap.size) hb2) (.inr (fun h=>by have:=(HOD0.out.lt _ h).1;omega)))
     have HOP2:=Lib.hid (HOP0.out.kept (Kp.of_below (B:=w1.heap.size) hb2) (.inr (fun h=>by have:=(HOP0.out.lt _ h).1;omega)))
     have HPD2:=Lib.hid (fun p hp=>(HPD0.out p hp).from (From.below hb2))
     have hsz2:=lt_heap HG2.out
     clear HZ0 HG0 HB0 HR0 HOD0 HOP0 HPD0
     clear hb2 k2 HIS
     have HC2:=Lib.hid (HOR.out w2 HR2.out)
     go_wp2_with fail
     refine HC2.out.mono ?_
     rintro e2 wC ⟨rfl,hbC⟩
     have HZC:=Lib.hid ((hbC.block _ (lt_heap HZ2.out)).trans HZ2.out)
     have HGC:=Lib.hid ((hbC.block _ (lt_heap HG2.out)).trans HG2.out)
     have HBC:=Lib.hid (HB2.out.trans (hbC.mono HB2.out.size))
     have HRC:=Lib.hid (HR2.out.below hbC)
     have HODC:=Lib.hid (HOD2.out.kept (Kp.of_below (B:=w1.heap.size) hbC) (.inr (fun h=>by have:=(HOD2.out.lt _ h).1;omega)))
     have HOPC:=Lib.hid (HOP2.out.kept (Kp.of_below (B:=w1.heap.size) hbC) (.inr (fun h=>by have:=(HOP2.out.lt _ h).1;omega)))
     have HPDC:=Lib.hid (fun p hp=>(HPD2.out p hp).from (From.below hbC))
     have hszC:=lt_heap HGC.out
     clear HZ2 HG2 HB2 HR2 HOD2 HOP2 HPD2
     clear hbC HC2 HOR
     have HC3:=Lib.hid (HIN.out wC HRC.out)
     go_wp2_with fail
     refine HC3.out.mono ?_
     rintro e3 w3 ⟨rfl,hb3⟩
     have HZ3:=Lib.hid ((hb3.block _ (lt_heap HZC.out)).trans HZC.out)
     have HG3:=Lib.hid ((hb3.block _ (lt_heap HGC.out)).trans HGC.out)
     have HB3:=Lib.hid (HBC.out.trans (hb3.mono HBC.out.size))
     have HR3:=Lib.hid (HRC.out.below hb3)
     have HOD3:=Lib.hid (HODC.out.kept (Kp.of_below (B:=w1.heap.size) hb3) (.inr (fun h=>by have:=(HODC.out.lt _ h).1;omega)))
     have HOP3:=Lib.hid (HOPC.out.kept (Kp.of_below (B:=w1.heap.size) hb3) (.inr (fun h=>by have:=(HOPC.out.lt _ h).1;omega)))
     have HPD3:=Lib.hid (fun p hp=>(HPDC.out p hp).from (From.below hb3))
     have hsz3:=lt_heap HG3.out
     clear HZC HGC HBC HRC HODC HOPC HPDC
     clear hb3 HC3 HIN
     have HC4:=Lib.hid (HPR.out w3.drew HR3.out.drew)
     go_wp2_with fail
     refine wp_region_last 3 (fun W=>W.heap[w1.heap.size+1]? = some (pgBox da ds.length dc pa ps.length pc ⟨#[]⟩ ⟨#[]⟩ 0 0 none 0 0)) (by kernel_rfl) (by kernel_rfl) HG3.out ?_
     refine headsC_val _ (.pointer (some ⟨w1.heap.size+1,0,none⟩)) rfl (fun W hW=>by unfold execOp;simp [go_sem,Act.eval]) ?_
     refine headsC_val _ (.slice da ds.length dc) rfl (fun W hW=>by have h:=pg_cells hW;unfold execOp;simp [go_sem,Act.eval,h]) ?_
     refine headsC_move _ _ rfl rfl ?_
     refine headsC_nil ?_
     show wpList _ _ (thenC _ _ _ _) _ _ _
     go_wp2_with fail
     refine HC4.out.mono ?_
     rintro e4 w4 ⟨ds2,a2,cap2,rfl,hown4,⟨hp4,hq4⟩,hk4,ho4⟩
     have HO4:=Lib.hid ho4
     have HOW:=Lib.hid hown4
     have hk4':=kp_drew hk4
     have HZ4:=Lib.hid (hk4'.blk HZ3.out (by omega))
     have HG4:=Lib.hid (hk4'.blk HG3.out (by omega))
     have HB4:=Lib.hid (below_kp HB3.out hk4' (by omega))
     have hsz4:=hk4'.size
     have HOD4:=Lib.hid (HOD3.out.kept hk4' (.inr (fun h=>by have:=(HOD3.out.lt _ h).1;omega)))
     have HOP4:=Lib.hid (HOP3.out.kept hk4' (.inr (fun h=>by have:=(HOP3.out.lt _ h).1;omega)))
     have HPD4:=Lib.hid (fun p hp=>(HPD3.out p hp).from (hk4'.from (fun h=>absurd h.1 (by omega))))
     have hodl:∀ j,(Value.slice da ds.length dc).ownBlock=some j→j < w3.heap.size:=fun j hj=>(HOD3.out.lt j hj).2
     have hopl:∀ j,(Value.slice pa ps.length pc).ownBlock=some j→j < w3.heap.size:=fun j hj=>(HOP3.out.lt j hj).2
     have HDL:=Lib.hid hodl
     have HPL:=Lib.hid hopl
     have hzG4:=lt_heap HG4.out
     have hzZ4:=lt_heap HZ4.out
     clear hk4' HZ3 HG3 HB3 HOD3 HOP3 HPD3 hodl hopl
     clear hk4 ho4 HC4 HPR HR3 hown4
     obtain ⟨g2,hg2,hlt2,hcl⟩:∃ g,a2=some ⟨g,0,none⟩∧g < w4.heap.size∧∀ j u,(flatD ds2)[j]? = some u→w4.cell? ((⟨g,0,none⟩:Addr).add j)=some u:=by
      rcases HOW.out.2 with ⟨h1,h0⟩ | ⟨g,c,cur,h1,hb,hg,_⟩
      ·omega
      ·injection h1 with h1 h2 h3
       exact ⟨g,h1,lt_heap hg,HOW.out.cells (by rw [h1];rfl)⟩
     subst hg2
     go_wp2_with fail
     refine ⟨fun _=>HG4.out,?_⟩
     show wpList _ _ (thenC _ _ _ _) _ _ _
     go_wp2_with (at_builtin;refine wpList_append_own_at _ rfl _ _ 22 rfl (w1.heap.size+2) 55 i0 (.agg #[.string ⟨#[]⟩,.int .i64 0,.int .i64 0]) 3 32 Tryd.underlying22 HIF.out.1 HIF.out.2.1 HIF.out.2.2.1 HIF.out.2.2.2 rfl (by decide) (.slice da ds.length dc) ds.length (flatD ds) rfl HOD4.out ⟨g2,0,none⟩ ds2.length cap2 (flatD ds2) rfl (flatD_len ds2) hcl (flatD_one ds2) (by unfold maxLen;omega) (by omega) (by omega) ?_;intro v' w9 hown9 hgrow9 _ hlie9)
     obtain ⟨da',dc',rfl⟩:=own_form hown9
     have HG9:=Lib.hid ((hgrow9.block _ (by omega) (fun h=>by have:=(HOD4.out.lt _ h.symm).1;omega)).trans HG4.out)
     have HZ9:=Lib.hid ((hgrow9.block _ (by omega) (fun h=>by have:=(HOD4.out.lt _ h.symm).1;omega)).trans HZ4.out)
     have HB9:=Lib.hid (below_grown HB4.out hgrow9 (fun j hj=>by have:=(HOD4.out.lt j hj).1;omega))
     have HOP9:=Lib.hid (HOP4.out.kept hgrow9 (own_ne HOP4.out HOD4.out (by decide)))
     have HOD9:RowKit.Hid (w9.ownsRow (w1.heap.size+2) 55 3 (.slice da' (ds ++ ds2).length dc') (ds ++ ds2).length (flatD (ds ++ ds2))):=Lib.hid (by rw [flatD_append,List.length_append];exact hown9)
     have HPD9:=Lib.hid (fun p hp=>pd_append' (HPD4.out p hp) hgrow9 hlie9)
     have HRA:=Lib.hid (fun st (h:PrS w4 w1.heap.size st)=>prs_app h hgrow9 (fun j hj=>by have:=(HOD4.out.lt j hj).1;omega))
     have hl9:(ds ++ ds2).length=ds.length+ds2.length:=by simp
     clear hown9 hgrow9 hlie9 HG4 HZ4 HB4 HOD4 HOP4 HPD4 HDL HPL HIF HIP HOW hcl
     refine ⟨fun _=>HG9.out,?_⟩
     show wpList _ _ (thenC _ _ _ _) _ _ _
     go_wp2_with fail
     refine ⟨fun _=>HG9.out,?_⟩
     show wpList _ _ (thenC _ _ _ _) _ _ _
     obtain ⟨p0,p1,p2,p3,p4,p5,p6⟩:=pg_cells HG9.out
     obtain ⟨g0,g1,g2,g3,g4,g5,g6⟩:=pg_frozen HG9.out
     go_wp2_with fail
     refine ⟨fun h=>(by cases h),NoPanic.normal ?_⟩
     clear p0 p1 p2 p3 p4 p5 p6 g0 g1 g2 g3 g4 g5 g6
     go_wp2_with fail
     go_roundg g'
     case rel =>
      have hgset:Kp (w1.heap.size+1) w9 (w9.setCell ⟨w1.heap.size+1,0,none⟩ (.slice da' (ds.length+ds2.length) dc')):=(Kp.refl _ w9).setB 0 _
      refine ⟨da',dc',ds ++ ds2,pa,pc,ps,Lib.hid (by rw [hl9];exact heap_setCell_same _ _ 0 _ _ _ HG9.out),Lib.hid ((Below.heap_setCell _ _ _ _ (by simp;omega)).trans HZ9.out),Lib.hid (below_at HB9.out (by omega) _ _),?_⟩
      cases rp with
      | bad x y =>
       have h1:PrS w4 w1.heap.size (.bad x y):=HO4.out
       exact .inr ⟨x,y,(HRA.out _ h1).set (show w1.heap.size < w1.heap.size+1 by omega) _,HQE.out⟩
      | ok p l' =>
       obtain ⟨h1,h2⟩:=HO4.out
       have hll:=HLN.out p l' rfl
       simp only [List.length_nil] at hll
       subst h2
       refine .inl ⟨l',(HRA.out _ h1).set (show w1.heap.size < w1.heap.size+1 by omega) _,⟨by omega,by rw [hl9];omega⟩,Lib.hid (HOD9.out.kept hgset (.inr (fun h=>by have:=(HOD9.out.lt _ h).1;omega))),Lib.hid (HOP9.out.kept hgset (.inr (fun h=>by have:=(HOP9.out.lt _ h).1;omega))),Lib.hid (fun p' hp'=>?_),HQE⟩
       rw [hl9]
       exact (HPD9.out p' hp').from (hgset.from (fun h=>absurd h.1 (by omega)))
     case measure=>omega
  ·have HRA:=Lib.hid hrd
   have hrr:=hrd
   obtain ⟨aa,la,ca,ia,hat,hqe⟩:=hrr
   have k2:=hat.cells.1.2.2.1
   have HGA:=HG
   have HZA:=HZR
   have HBA:=HBW
   have HCF:=Lib.hid (rform_any (f+1) (.bad bx by') wr w1.heap.size (by show 7+20 * 0≤f+1;omega) hrd)
   have hszB:=hrd.lt
   clear hat hrd HG HZR HBW HRA
   have HRR:=Lib.hid hrb
   clear hrb
   go_wp2_with fail
   refine HCF.out.mono ?_
   rintro e3 w3 hx3
   obtain ⟨T,rfl,hk3,hr3,hok3⟩:=hx3.st
   have HG3:=Lib.hid (hk3.blk HGA.out (by omega))
   have HZ3:=Lib.hid (hk3.blk HZA.out (by omega))
   have HB3:=Lib.hid (below_kp HBA.out hk3 (by omega))
   have HR3:=Lib.hid hr3
   have hsz3:=hk3.size
   clear hx3 hk3 hr3 hok3 HCF HGA HZA HBA
   have hzG3:=lt_heap HG3.out
   have hzZ3:=lt_heap HZ3.out
   obtain ⟨p0,p1,p2,p3,p4,p5,p6⟩:=pg_cells HG3.out
   obtain ⟨g0,g1,g2,g3,g4,g5,g6⟩:=pg_frozen HG3.out
   obtain ⟨w4,hW⟩:∃ x,x=(((((w3.setCell ⟨w1.heap.size+1,2,none⟩ (.string T.op)).setCell ⟨w1.heap.size+1,3,none⟩ (.string T.name)).setCell ⟨w1.heap.size+1,4,none⟩ (.int .i64 T.n)).setCell ⟨w1.heap.size+1,5,none⟩ (.int .i64 T.pos)).setCell ⟨w1.heap.size+1,6,none⟩ (.slice T.a T.kids.len T.cap)):=⟨_,rfl⟩
   have HR4:RowKit.Hid (PrS w4 w1.heap.size (.bad bx by')):=Lib.hid (by have hrz:PrS w3 w1.heap.size (.bad bx by'):=HR3.out;rw [hW];exact (by repeat (with_reducible first | exact hrz | refine PrS.set ?_ (show w1.heap.size < w1.heap.size+1 by omega) _)))
   have HB4:RowKit.Hid (Below w.heap.size w w4):=Lib.hid (by rw [hW];exact (by repeat (with_reducible first | exact HB3.out | refine below_at ?_ (show w.heap.size≤w1.heap.size+1 by omega) _ _)))
   have HG4:RowKit.Hid (w4.heap[w1.heap.size+1]? = some (pgBox da ds.length dc pa ps.length pc T.op T.name T.n T.pos T.a T.kids.len T.cap)):=Lib.hid (by rw [hW];exact pg_main HG3.out _ _ _ _ _ _ _)
   have HFS:RowKit.Hid (From (fun b=>b≠w1.heap.size+1) w3 w4):=Lib.hid (by rw [hW];exact ((((From.set _ (fun h=>h rfl) _).trans (From.set _ (fun h=>h rfl) _)).trans (From.set _ (fun h=>h rfl) _)).trans (From.set _ (fun h=>h rfl) _)).trans (From.set _ (fun h=>h rfl) _))
   have HZ4:=Lib.hid ((HFS.out.block w.heap.size (by omega) hzZ3).trans HZ3.out)
   have hsz4:=HFS.out.size
   clear HR3 HB3 HG3 HZ3
   have HCM:=Lib.hid (rmust_b ⟨#[59]⟩ w4 w1.heap.size bx by' HR4.out)
   go_wp2_with fail
   rw [← hW]
   clear hW p0 p1 p2 p3 p4 p5 p6 g0 g1 g2 g3 g4 g5 g6 HFS
   skip
   refine HCM.out.mono ?_
   rintro e5 w5 ⟨rfl,hk5,hr5⟩
   have HZ5:=Lib.hid (hk5.blk HZ4.out (by omega))
   have HG5:=Lib.hid (hk5.blk HG4.out (by omega))
   have HB5:=Lib.hid (below_kp HB4.out hk5 (by omega))
   have hsz5:=hk5.size
   clear HZ4 HG4 HB4
   have HR5:=Lib.hid hr5
   clear hk5 hr5 HCM
   have HCN:=Lib.hid (rnow_b w5 w1.heap.size bx by' HR5.out)
   go_wp2_with fail
   refine HCN.out.mono ?_
   rintro e6 w6 ⟨rfl,hb6⟩
   have hk6:=Kp.of_below (B:=w1.heap.size) hb6
   have HZ6:=Lib.hid (hk6.blk HZ5.out (by omega))
   have HG6:=Lib.hid (hk6.blk HG5.out (by omega))
   have HB6:=Lib.hid (below_kp HB5.out hk6 (by omega))
   have hsz6:=hk6.size
   clear HZ5 HG5 HB5
   have HR6:=Lib.hid (HR5.out.below hb6)
   clear hk6 hb6 HCN
   have hrr:=HR6.out
   obtain ⟨aa,la,ca,ia,hat,hqe⟩:=hrr
   have hq2:((by':Int) != 0)=true:=by unfold bne;first | (rw [hqe];rfl) | rfl
   have k2:=hat.cells.1.2.2.1
   have k3:=hat.cells.1.2.2.2
   obtain ⟨p0,p1,p2,p3,p4,p5,p6⟩:=pg_cells HZ6.out
   obtain ⟨g0,g1,g2,g3,g4,g5,g6⟩:=pg_frozen HZ6.out
   have hzz:=lt_heap HZ6.out
   have hzb:=hat.lt
   clear hat hqe
   go_wp2_with fail
   go_region
   all_goals
    go_wp2_with fail
    refine ret_parse (Z:=w.heap.size) none 0 0 none 0 0 ⟨#[]⟩ ⟨#[]⟩ 0 0 none 0 0 Tryd.results9 rfl rfl (drewR_heap (pg_set HZ6.out _ _ _ _ _ _ _ _ _ _ _ _ _)) ⟨?_,?_⟩
    ·exact (by repeat (with_reducible first | exact HB6.out | refine Below.drew ?_ | refine below_set ?_ _ _))
    ·rw [HRR.out]
     exact rfl
end Go.Proofs.YtmlmjopfbohglaaDoor
