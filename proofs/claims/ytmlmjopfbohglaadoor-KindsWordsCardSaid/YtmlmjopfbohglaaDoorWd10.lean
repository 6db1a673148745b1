/- Parts of the proof: KM. -/
import Derived.Test.YtmlmjopfbohglaaDoorWd09
namespace Go.Proofs.YtmlmjopfbohglaaDoor
open Go.RowKit
open Go.Maps
theorem below_kpK {w a b:World} {B:Nat} (h:Below w.heap.size w a) (k:Kp B a b) (hB:w.heap.size≤B):Below w.heap.size w b :=
 h.trans ⟨k.os,k.tape,k.output,k.size,fun i hi=>k.block i (Nat.lt_of_lt_of_le hi h.size) (fun e=>by have:=Option.some.inj e;omega)⟩
def PrdQ (w:World) (N m:Nat) (Q:ByteArray→Option (List Dc)):Prop:=∃ f:ByteArray→Option Value,SMap Tryd.prog 9 w N m f∧∀ s,(f s=none∧Q s=none)∨∃ (a:Option Addr) (cap:Nat) (ds:List Dc),f s=some (.slice a ds.length cap)∧Q s=some ds∧DcsIn w a ds
theorem PrdQ.below {w w':World} {N m:Nat} {Q:ByteArray→Option (List Dc)} (h:PrdQ w N m Q) (hb:Below w.heap.size w w'):PrdQ w' N m Q:=by
 obtain ⟨f,h3,h4⟩:=h
 refine ⟨f,h3.same (hb.block N h3.lt),fun s=>?_⟩
 rcases h4 s with h | ⟨a,cap,ds,g1,g2,g3⟩
 ·exact .inl h
 ·exact .inr ⟨a,cap,ds,g1,g2,g3.below hb⟩
theorem PrdQ.is {w:World} {N m M:Nat} {Q:ByteArray→Option (List Dc)} (h:PrdQ w N m Q) (hM:N≠M):PrdIs w M (.map (some N)) Q:=by
 obtain ⟨f,h3,h4⟩:=h
 exact ⟨N,m,f,rfl,hM,h3,h4⟩
theorem PrdQ.lt {w:World} {N m:Nat} {Q:ByteArray→Option (List Dc)} (h:PrdQ w N m Q):N < w.heap.size:=by
 obtain ⟨f,h3,h4⟩:=h
 exact h3.lt
def predR (Q:ByteArray→Option (List Dc)) (P:Pd):Int × Int:=if (Q P.name).isSome=true then (P.pos,6) else if (onceR P.params).2=0 then P.body.fk Q (ordD P.params) else onceR P.params
abbrev pdBox (P:Pd):Obj:=.cells #[.string P.name,.slice P.pa P.params.length P.pcap,.string P.body.op,.string P.body.name,.int .i64 P.body.n,.int .i64 P.body.pos,.slice P.body.a P.body.kids.len P.body.cap,.int .i64 P.pos] 47
theorem pdb_cells {w:World} {B:Nat} {P:Pd} (h:w.heap[B]? = some (pdBox P)):w.cell? ⟨B,0,none⟩=some (.string P.name)∧w.cell? ⟨B,1,none⟩=some (.slice P.pa P.params.length P.pcap)∧w.cell? ⟨B,2,none⟩=some (.string P.body.op)∧w.cell? ⟨B,3,none⟩=some (.string P.body.name)∧w.cell? ⟨B,4,none⟩=some (.int .i64 P.body.n)∧w.cell? ⟨B,5,none⟩=some (.int .i64 P.body.pos)∧w.cell? ⟨B,6,none⟩=some (.slice P.body.a P.body.kids.len P.body.cap)∧w.cell? ⟨B,7,none⟩=some (.int .i64 P.pos):=by
 refine ⟨?_,?_,?_,?_,?_,?_,?_,?_⟩ <;> (rw [cell_of_row _ _ _ _ _ _ h];rfl)
set_option maxRecDepth 100000 in
set_option maxHeartbeats 16000000 in
theorem kpred_any (P:Pd) (w:World) (N m:Nat) (Q:ByteArray→Option (List Dc)) (hq:PrdQ w N m Q) (hl:P.params.length≤1000000) (hd:DcsIn w P.pa P.params) (hb:P.body.In w) (hs:P.body.sized) (hn:P.name.size≤140737488351232) (hok:P.body.okF=true) (hz:P.body.size≤2000) :
  Calls Tryd.prog 38 #[.agg #[.string P.name,.slice P.pa P.params.length P.pcap,.string P.body.op,.string P.body.name,.int .i64 P.body.n,.int .i64 P.body.pos,.slice P.body.a P.body.kids.len P.body.cap,.int .i64 P.pos],.map (some N)] w fun e w'=>e=.returned (.tuple #[.int .i64 (predR Q P).1,.int .i64 (predR Q P).2])∧Below w.heap.size w w':=by
 obtain ⟨q0,hq0⟩:∃ q0,q0=predR Q P:=⟨_,rfl⟩
 rw [← hq0]
 have hc8:=cellsPred
 have hc5:=cellsNode
 have hnm:P.name.size≤maxLen:=by unfold maxLen;omega
 have HB:=Lib.hid (new_at w (pdBox P))
 have HW:=Lib.hid (below_box w (pdBox P))
 have hQ1:=hq.below HW.out
 have hNl:=hq.lt
 have HQ1:=Lib.hid hQ1
 obtain ⟨f,hsm,hf⟩:=hQ1
 have HSM:=Lib.hid hsm
 have hpq:=hf P.name
 obtain ⟨p0,p1,p2,p3,p4,p5,p6,p7⟩:=pdb_cells HB.out
 have HDI:=Lib.hid (hd.below HW.out)
 have HC1:=Lib.hid (konce_any P.params P.pa P.pcap (w.alloc (pdBox P)) hl HDI.out)
 have HFQ:=Lib.hid (fun W M nM (ho:OrdIs W M nM (ordD P.params)) (hM:w.heap.size < M) (hn:nM≤P.params.length) (hW:Below w.heap.size w W)=>kformula_all P.body W M nM (.map (some N)) (ordD P.params) Q ho ((hq.below hW).is (by omega)) (hb.below hW) hs hok (by omega))
 have HSC:=Lib.hid (fun W (hW:Below w.heap.size w W)=>kscope_any P.params P.pa P.pcap (some N) W hl (hd.below hW))
 clear hq hd hb hs hok hsm hf hn hz
 rw [Nd.val_def] at HFQ
 rcases hpq with ⟨hfn,hqn⟩ | ⟨qa,qcap,qds,hfn,hqn,_⟩
 ·have hr:q0=(if (onceR P.params).2=0 then P.body.fk Q (ordD P.params) else onceR P.params):=by rw [hq0];unfold predR;rw [hqn];rfl
  have HN:=Lib.hid hfn
  clear hq0 hfn hqn
  generalize onceR P.params=o at HC1 hr
  obtain ⟨op1,oe⟩:=o
  simp only [] at HC1 hr
  by_cases hoe:oe=0
  ·subst hoe
   have hr2:q0=P.body.fk Q (ordD P.params):=by rw [hr,if_pos rfl]
   rw [← hr2] at HFQ
   clear hr hr2
   go_enter Tryd.func38,Tryd.ntmps38
   go_wp2_with (at_lookup;refine wpList_lookup_smap _ rfl _ _ 79 rfl 9 22 Tryd.underlying9 Tryd.underlying79 (zeroDcs _) N m f rfl HSM.out P.name rfl hnm ?_;rw [HN.out])
   go_wp2_with fail
   refine HC1.out.mono ?_
   rintro e w2 ⟨rfl,hb2⟩
   have HW2:=Lib.hid (HW.out.trans (hb2.mono HW.out.size))
   replace p1:=cell_below hb2 p1
   replace p2:=cell_below hb2 p2
   replace p3:=cell_below hb2 p3
   replace p4:=cell_below hb2 p4
   replace p5:=cell_below hb2 p5
   replace p6:=cell_below hb2 p6
   have hbsz:w.heap.size < w2.heap.size:=by have h1:=hb2.size;rw [alloc_size] at h1;omega
   clear hb2 HC1 HN HSM HQ1 HDI p0 p7 HB
   have HC3:=Lib.hid (HSC.out w2.drew HW2.out.drew)
   have HB2:=Lib.hid (Below.refl w2.heap.size w2).drew
   go_wp2_with fail
   go_region_held3 (fun wz=>wz.cell? ⟨w.heap.size,1,none⟩=some (.slice P.pa P.params.length P.pcap)∧wz.cell? ⟨w.heap.size,2,none⟩=some (.string P.body.op)∧wz.cell? ⟨w.heap.size,3,none⟩=some (.string P.body.name)∧wz.cell? ⟨w.heap.size,4,none⟩=some (.int .i64 P.body.n)∧wz.cell? ⟨w.heap.size,5,none⟩=some (.int .i64 P.body.pos)∧wz.cell? ⟨w.heap.size,6,none⟩=some (.slice P.body.a P.body.kids.len P.body.cap)) (go_keep) (first | (go_at_call 39;refine HC3.out.mono ?_;rintro e w4 ⟨M,nM,rfl,hM1,hM2,ho4,hb4⟩;replace p1:=cell_below (HB2.out.trans (hb4.mono HB2.out.size)) p1;replace p2:=cell_below (HB2.out.trans (hb4.mono HB2.out.size)) p2;replace p3:=cell_below (HB2.out.trans (hb4.mono HB2.out.size)) p3;replace p4:=cell_below (HB2.out.trans (hb4.mono HB2.out.size)) p4;replace p5:=cell_below (HB2.out.trans (hb4.mono HB2.out.size)) p5;replace p6:=cell_below (HB2.out.trans (hb4.mono HB2.out.size)) p6;have HW4:=Lib.hid (HW2.out.trans ((HB2.out.trans (hb4.mono HB2.out.size)).mono HW2.out.size));have HC5:=Lib.hid (HFQ.out w4 M nM ho4 (Nat.lt_of_lt_of_le hbsz hM1) hM2 HW4.out);have hM3:w.heap.size≤M:=Nat.le_of_lt (Nat.lt_of_lt_of_le hbsz hM1);have HCW:=Lib.hid (fun w5 (h:Kp M w4 w5)=>ho4.cl h);clear ho4 hb4) | (go_at_call 40;refine HC5.out.mono ?_;rintro e w5 ⟨rfl,hk5,m5,hm5,ho5⟩;have HW5:=Lib.hid (below_kpK HW4.out hk5 hM3);replace p1:=(HCW.out w5 hk5).cell _ _ p1;replace p2:=(HCW.out w5 hk5).cell _ _ p2;replace p3:=(HCW.out w5 hk5).cell _ _ p3;replace p4:=(HCW.out w5 hk5).cell _ _ p4;replace p5:=(HCW.out w5 hk5).cell _ _ p5;replace p6:=(HCW.out w5 hk5).cell _ _ p6;clear hk5 ho5))
   clear HCW HC5 HC3 HW4 HB2 HFQ HSC HW2 HW p1 p2 p3 p4 p5 p6
   go_wp2_with fail
   go_ret2
   exact ⟨rfl,HW5.out⟩
  ·have hr2:q0=(op1,oe):=by rw [hr,if_neg hoe]
   have hob:(oe != 0)=true:=by simp [hoe]
   subst hr2
   clear hr hoe
   go_enter Tryd.func38,Tryd.ntmps38
   go_wp2_with (at_lookup;refine wpList_lookup_smap _ rfl _ _ 79 rfl 9 22 Tryd.underlying9 Tryd.underlying79 (zeroDcs _) N m f rfl HSM.out P.name rfl hnm ?_;rw [HN.out])
   go_wp2_with fail
   refine HC1.out.mono ?_
   rintro e w2 ⟨rfl,hb2⟩
   have HW2:=Lib.hid (HW.out.trans (hb2.mono HW.out.size))
   clear hb2 HC1
   go_wp2_with fail
   go_ret2
   exact ⟨rfl,HW2.out⟩
 ·have hr:q0=(P.pos,6):=by rw [hq0];unfold predR;rw [hqn];rfl
  have HN:=Lib.hid hfn
  clear hq0 hfn hqn
  subst hr
  go_enter Tryd.func38,Tryd.ntmps38
  go_wp2_with (at_lookup;refine wpList_lookup_smap _ rfl _ _ 79 rfl 9 22 Tryd.underlying9 Tryd.underlying79 (zeroDcs _) N m f rfl HSM.out P.name rfl hnm ?_;rw [HN.out])
  go_wp2_with fail
  go_ret2
  exact ⟨rfl,HW.out⟩
end Go.Proofs.YtmlmjopfbohglaaDoor
