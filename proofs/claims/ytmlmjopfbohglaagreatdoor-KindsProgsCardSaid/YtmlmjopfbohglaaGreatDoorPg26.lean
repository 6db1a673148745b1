/- Parts of the proof: KM KN KPa. -/
import Derived.Test.YtmlmjopfbohglaaGreatDoorPg25
namespace Go.Proofs.YtmlmjopfbohglaaGreatDoor
open Go.RowKit
open Go.Maps
theorem below_kpK {w a b:World} {B:Nat} (h:Below w.heap.size w a) (k:Kp B a b) (hB:w.heap.size≤B):Below w.heap.size w b :=
 h.trans ⟨k.os,k.tape,k.output,k.size,fun i hi=>k.block i (Nat.lt_of_lt_of_le hi h.size) (fun e=>by have:=Option.some.inj e;omega)⟩
def PrdQ (w:World) (N m:Nat) (Q:ByteArray→Option (List Dc)):Prop:=∃ f:ByteArray→Option Value,SMap Tryz.prog 9 w N m f∧∀ s,(f s=none∧Q s=none)∨∃ (a:Option Addr) (cap:Nat) (ds:List Dc),f s=some (.slice a ds.length cap)∧Q s=some ds∧DcsIn w a ds
theorem PrdQ.below {w w':World} {N m:Nat} {Q:ByteArray→Option (List Dc)} (h:PrdQ w N m Q) (hb:Below w.heap.size w w'):PrdQ w' N m Q:=by
 obtain ⟨f,h3,h4⟩:=h
 refine ⟨f,h3.same (hb.block N h3.lt),fun s=>?_⟩
 rcases h4 s with h | ⟨a,cap,ds,g1,g2,g3⟩
 ·exact .inl h
 ·exact .inr ⟨a,cap,ds,g1,g2,g3.below hb⟩
theorem PrdQ.is {w:World} {N m M:Nat} {Q:ByteArray→Option (List Dc)} (h:PrdQ w N m Q) (hM:N≠M):PrdIs w M (.map (some N)) Q:=by
 obtain ⟨f,h3,h4⟩:=h
 exact ⟨N,m,f,rfl,hM,h3,h4⟩
theorem PrdQ.lt {w:World} {N m:Nat} {Q:ByteArray→Option (List Dc)} (h:PrdQ w N m Q):N < w.heap.size:=by
 obtain ⟨f,h3,h4⟩:=h
 exact h3.lt
def predR (Q:ByteArray→Option (List Dc)) (P:Pd):Int × Int:=if (Q P.name).isSome=true then (P.pos,6) else if (onceR P.params).2=0 then P.body.fk Q (ordD P.params) else onceR P.params
abbrev pdBox (P:Pd):Obj:=.cells #[.string P.name,.slice P.pa P.params.length P.pcap,.string P.body.op,.string P.body.name,.int .i64 P.body.n,.int .i64 P.body.pos,.slice P.body.a P.body.kids.len P.body.cap,.int .i64 P.pos] 67
theorem pdb_cells {w:World} {B:Nat} {P:Pd} (h:w.heap[B]? = some (pdBox P)):w.cell? ⟨B,0,none⟩=some (.string P.name)∧w.cell? ⟨B,1,none⟩=some (.slice P.pa P.params.length P.pcap)∧w.cell? ⟨B,2,none⟩=some (.string P.body.op)∧w.cell? ⟨B,3,none⟩=some (.string P.body.name)∧w.cell? ⟨B,4,none⟩=some (.int .i64 P.body.n)∧w.cell? ⟨B,5,none⟩=some (.int .i64 P.body.pos)∧w.cell? ⟨B,6,none⟩=some (.slice P.body.a P.body.kids.len P.body.cap)∧w.cell? ⟨B,7,none⟩=some (.int .i64 P.pos):=by
 refine ⟨?_,?_,?_,?_,?_,?_,?_,?_⟩ <;> (rw [cell_of_row _ _ _ _ _ _ h];rfl)
set_option maxRecDepth 100000 in
set_option maxHeartbeats 16000000 in
theorem kpred_any (P:Pd) (w:World) (N m:Nat) (Q:ByteArray→Option (List Dc)) (hq:PrdQ w N m Q) (hl:P.params.length≤1000000) (hd:DcsIn w P.pa P.params) (hb:P.body.In w) (hs:P.body.sized) (hn:P.name.size≤140737488351232) (hok:P.body.okF=true) (hz:P.body.size≤2000) :
  Calls Tryz.prog 54 #[.agg #[.string P.name,.slice P.pa P.params.length P.pcap,.string P.body.op,.string P.body.name,.int .i64 P.body.n,.int .i64 P.body.pos,.slice P.body.a P.body.kids.len P.body.cap,.int .i64 P.pos],.map (some N)] w fun e w'=>e=.returned (.tuple #[.int .i64 (predR Q P).1,.int .i64 (predR Q P).2])∧Below w.heap.size w w':=by
 obtain ⟨q0,hq0⟩:∃ q0,q0=predR Q P:=⟨_,rfl⟩
 rw [← hq0]
 have hc8:=cellsPred
 have hc5:=cellsNode
 have hnm:P.name.size≤maxLen:=by unfold maxLen;omega
 have HB:=Lib.hid (new_at w (pdBox P))
 have HW:=Lib.hid (below_box w (pdBox P))
 have hQ1:=hq.below HW.out
 have hNl:=hq.lt
 have HQ1:=Lib.hid hQ1
 obtain ⟨f,hsm,hf⟩:=hQ1
 have HSM:=Lib.hid hsm
 have hpq:=hf P.name
 obtain ⟨p0,p1,p2,p3,p4,p5,p6,p7⟩:=pdb_cells HB.out
 have HDI:=Lib.hid (hd.below HW.out)
 have HC1:=Lib.hid (konce_any P.params P.pa P.pcap (w.alloc (pdBox P)) hl HDI.out)
 have HFQ:=Lib.hid (fun W M nM (ho:OrdIs W M nM (ordD P.params)) (hM:w.heap.size < M) (hn:nM≤P.params.length) (hW:Below w.heap.size w W)=>kformula_all P.body W M nM (.map (some N)) (ordD P.params) Q ho ((hq.below hW).is (by omega)) (hb.below hW) hs hok (by omega))
 have HSC:=Lib.hid (fun W (hW:Below w.heap.size w W)=>kscope_any P.params P.pa P.pcap (some N) W hl (hd.below hW))
 clear hq hd hb hs hok hsm hf hn hz
 rw [Nd.val_def] at HFQ
 rcases hpq with ⟨hfn,hqn⟩ | ⟨qa,qcap,qds,hfn,hqn,_⟩
 ·have hr:q0=(if (onceR P.params).2=0 then P.body.fk Q (ordD P.params) else onceR P.params):=by rw [hq0];unfold predR;rw [hqn];rfl
  have HN:=Lib.hid hfn
  clear hq0 hfn hqn
  generalize onceR P.params=o at HC1 hr
  obtain ⟨op1,oe⟩:=o
  simp only [] at HC1 hr
  by_cases hoe:oe=0
  ·subst hoe
   have hr2:q0=P.body.fk Q (ordD P.params):=by rw [hr,if_pos rfl]
   rw [← hr2] at HFQ
   clear hr hr2
   go_enter Tryz.func54,Tryz.ntmps54
   go_wp2_with (at_lookup;refine wpList_lookup_smap _ rfl _ _ 82 rfl 9 22 Tryz.underlying9 Tryz.underlying82 (zeroDcs _) N m f rfl HSM.out P.name rfl hnm ?_;rw [HN.out])
   go_wp2_with fail
   refine HC1.out.mono ?_
   rintro e w2 ⟨rfl,hb2⟩
   have HW2:=Lib.hid (HW.out.trans (hb2.mono HW.out.size))
   replace p1:=cell_below hb2 p1
   replace p2:=cell_below hb2 p2
   replace p3:=cell_below hb2 p3
   replace p4:=cell_below hb2 p4
   replace p5:=cell_below hb2 p5
   replace p6:=cell_below hb2 p6
   have hbsz:w.heap.size < w2.heap.size:=by have h1:=hb2.size;rw [alloc_size] at h1;omega
   clear hb2 HC1 HN HSM HQ1 HDI p0 p7 HB
   have HC3:=Lib.hid (HSC.out w2.drew HW2.out.drew)
   have HB2:=Lib.hid (Below.refl w2.heap.size w2).drew
   go_wp2_with fail
   go_region_held3 (fun wz=>wz.cell? ⟨w.heap.size,1,none⟩=some (.slice P.pa P.params.length P.pcap)∧wz.cell? ⟨w.heap.size,2,none⟩=some (.string P.body.op)∧wz.cell? ⟨w.heap.size,3,none⟩=some (.string P.body.name)∧wz.cell? ⟨w.heap.size,4,none⟩=some (.int .i64 P.body.n)∧wz.cell? ⟨w.heap.size,5,none⟩=some (.int .i64 P.body.pos)∧wz.cell? ⟨w.heap.size,6,none⟩=some (.slice P.body.a P.body.kids.len P.body.cap)) (go_keep) (first | (go_at_call 55;refine HC3.out.mono ?_;rintro e w4 ⟨M,nM,rfl,hM1,hM2,ho4,hb4⟩;replace p1:=cell_below (HB2.out.trans (hb4.mono HB2.out.size)) p1;replace p2:=cell_below (HB2.out.trans (hb4.mono HB2.out.size)) p2;replace p3:=cell_below (HB2.out.trans (hb4.mono HB2.out.size)) p3;replace p4:=cell_below (HB2.out.trans (hb4.mono HB2.out.size)) p4;replace p5:=cell_below (HB2.out.trans (hb4.mono HB2.out.size)) p5;replace p6:=cell_below (HB2.out.trans (hb4.mono HB2.out.size)) p6;have HW4:=Lib.hid (HW2.out.trans ((HB2.out.trans (hb4.mono HB2.out.size)).mono HW2.out.size));have HC5:=Lib.hid (HFQ.out w4 M nM ho4 (Nat.lt_of_lt_of_le hbsz hM1) hM2 HW4.out);have hM3:w.heap.size≤M:=Nat.le_of_lt (Nat.lt_of_lt_of_le hbsz hM1);have HCW:=Lib.hid (fun w5 (h:Kp M w4 w5)=>ho4.cl h);clear ho4 hb4) | (go_at_call 56;refine HC5.out.mono ?_;rintro e w5 ⟨rfl,hk5,m5,hm5,ho5⟩;have HW5:=Lib.hid (below_kpK HW4.out hk5 hM3);replace p1:=(HCW.out w5 hk5).cell _ _ p1;replace p2:=(HCW.out w5 hk5).cell _ _ p2;replace p3:=(HCW.out w5 hk5).cell _ _ p3;replace p4:=(HCW.out w5 hk5).cell _ _ p4;replace p5:=(HCW.out w5 hk5).cell _ _ p5;replace p6:=(HCW.out w5 hk5).cell _ _ p6;clear hk5 ho5))
   clear HCW HC5 HC3 HW4 HB2 HFQ HSC HW2 HW p1 p2 p3 p4 p5 p6
   go_wp2_with fail
   go_ret2
   exact ⟨rfl,HW5.out⟩
  ·have hr2:q0=(op1,oe):=by rw [hr,if_neg hoe]
   have hob:(oe != 0)=true:=by simp [hoe]
   subst hr2
   clear hr hoe
   go_enter Tryz.func54,Tryz.ntmps54
   go_wp2_with (at_lookup;refine wpList_lookup_smap _ rfl _ _ 82 rfl 9 22 Tryz.underlying9 Tryz.underlying82 (zeroDcs _) N m f rfl HSM.out P.name rfl hnm ?_;rw [HN.out])
   go_wp2_with fail
   refine HC1.out.mono ?_
   rintro e w2 ⟨rfl,hb2⟩
   have HW2:=Lib.hid (HW.out.trans (hb2.mono HW.out.size))
   clear hb2 HC1
   go_wp2_with fail
   go_ret2
   exact ⟨rfl,HW2.out⟩
 ·have hr:q0=(P.pos,6):=by rw [hq0];unfold predR;rw [hqn];rfl
  have HN:=Lib.hid hfn
  clear hq0 hfn hqn
  subst hr
  go_enter Tryz.func54,Tryz.ntmps54
  go_wp2_with (at_lookup;refine wpList_lookup_smap _ rfl _ _ 82 rfl 9 22 Tryz.underlying9 Tryz.underlying82 (zeroDcs _) N m f rfl HSM.out P.name rfl hnm ?_;rw [HN.out])
  go_wp2_with fail
  go_ret2
  exact ⟨rfl,HW.out⟩
def predsR:List Pd→List Pd→Int × Int
 | _,[]=>(0,0)
 | ahead,p :: r=>if (predR (predsK ahead) p).2=0 then predsR (ahead ++ [p]) r else predR (predsK ahead) p
def checkR (ds:List Dc) (ps:List Pd) (T:Nd):Int × Int :=
 if (ps.all Pd.ok && ds.all Dc.ok && T.okF)=true then (if (onceR ds).2=0 then (if (predsR [] ps).2=0 then T.fk (predsK ps) (ordD ds) else predsR [] ps) else onceR ds) else (0,1)
theorem predsK_snoc (l:List Pd) (p:Pd) (h:predsK l p.name=none) (y:ByteArray):predsK (l ++ [p]) y=if y=p.name then some p.params else predsK l y:=by
 unfold predsK at h ⊢
 rw [List.find?_append]
 by_cases hy:y=p.name
 ·subst hy
  rw [if_pos rfl]
  have h2:(l.find? fun q=>decide (q.name=p.name))=none:=by
   cases hq:l.find? (fun q=>decide (q.name=p.name)) with
   | none=>rfl
   | some x=>rw [hq] at h;cases h
  rw [h2]
  simp
 ·rw [if_neg hy]
  have h3:([p].find? fun q=>decide (q.name=y))=none:=by
   simp
   exact fun e=>hy e.symm
  rw [h3,Option.or_none]
theorem predR_some {Q:ByteArray→Option (List Dc)} {p:Pd} (h:(predR Q p).2=0):Q p.name=none:=by
 unfold predR at h
 cases hq:Q p.name with
 | none=>rfl
 | some x=>rw [hq,if_pos (show (some x).isSome=true from rfl)] at h;cases h
theorem zeroPrd {w:World} {N m:Nat} (h:SMap Tryz.prog 9 w N m (fun _=>none)):PrdQ w N m (predsK []):=⟨_,h,fun _=>.inl ⟨rfl,rfl⟩⟩
theorem cellsProg7:Tryz.prog.cellsOf 28=7:=by kernel_rfl
abbrev pgB (da:Option Addr) (dl dc:Nat) (pa:Option Addr) (pl pc:Nat) (T:Nd):Obj:=.cells (pgCells da dl dc pa pl pc T.op T.name T.n T.pos T.a T.kids.len T.cap) 28
set_option maxRecDepth 100000 in
set_option maxHeartbeats 16000000 in
theorem kcheck_any (ds:List Dc) (da:Option Addr) (dc:Nat) (ps:List Pd) (pa:Option Addr) (pc:Nat) (T:Nd) (w:World) (hT:LTabs w) (hd:DcsIn w da ds) (hp:PdsIn w pa ps) (hm:T.In w) (hms:T.sized) (hmd:T.deep≤30) (hmz:T.size≤2000) (hdl:ds.length≤1000000) (hpl:ps.length≤1000000) :
  Calls Tryz.prog 20 #[.agg #[.slice da ds.length dc,.slice pa ps.length pc,.string T.op,.string T.name,.int .i64 T.n,.int .i64 T.pos,.slice T.a T.kids.len T.cap]] w fun e w'=>e=.returned (.tuple #[.int .i64 (checkR ds ps T).1,.int .i64 (checkR ds ps T).2])∧Below w.heap.size w w':=by
 obtain ⟨q0,hq0⟩:∃ q0,q0=checkR ds ps T:=⟨_,rfl⟩
 rw [← hq0]
 have hc7:=cellsProg7
 have hc8:=cellsPred
 have hc5:=cellsNode
 have hmm:=@run_makeMap Tryz.prog
 have HW:=Lib.hid (below_box w (pgB da ds.length dc pa ps.length pc T))
 have HB:=Lib.hid (new_at w (pgB da ds.length dc pa ps.length pc T))
 have HC1:=Lib.hid (is_any ds da dc ps pa pc T (w.alloc (pgB da ds.length dc pa ps.length pc T)) (hT.below HW.out) (hd.below HW.out) ⟨by rcases hp.1 with h | ⟨b,o,h1,h2,h3⟩;exact .inl h;exact .inr ⟨b,o,h1,h2,fun i p hi=>(h3 i p hi).below HW.out⟩,fun p hi=>(hp.2 p hi).below HW.out⟩ (hm.below HW.out) hms hmd hmz)
 obtain ⟨p0,p1,p2,p3,p4,p5,p6⟩:=pg_cells HB.out
 have hqc:q0=checkR ds ps T:=hq0
 unfold checkR at hqc
 rcases bool_two (ps.all Pd.ok && ds.all Dc.ok && T.okF) with hok | hok
 ·rw [if_pos hok] at hqc
  rw [hok] at HC1
  rw [Bool.and_eq_true,Bool.and_eq_true] at hok
  have HO1:=Lib.hid (fun W (hW:Below w.heap.size w W)=>konce_any ds da dc W hdl (hd.below hW))
  have HQC:=Lib.hid hqc
  have HPO:=Lib.hid (List.all_eq_true.1 hok.1.1)
  have HFQ:=Lib.hid (fun W M nM N m (ho:OrdIs W M nM (ordD ds)) (hM:N≠M) (hn:nM≤ds.length) (hW:Below w.heap.size w W) (hpq:PrdQ W N m (predsK ps))=>kformula_all T W M nM (.map (some N)) (ordD ds) (predsK ps) ho (hpq.is hM) (hm.below hW) hms hok.2 (by omega))
  have HSC:=Lib.hid (fun W N (hW:Below w.heap.size w W)=>kscope_any ds da dc (some N) W hdl (hd.below hW))
  have HPF:=Lib.hid hp.2
  have HPI:=Lib.hid hp.1
  clear hq0 hqc hok hT hd hp hm hms hmd hmz
  rw [Nd.val_def] at HFQ
  go_enter Tryz.func20,Tryz.ntmps20
  go_wp2_with fail
  refine HC1.out.mono ?_
  rintro e w2 ⟨rfl,hb2⟩
  have HW2:=Lib.hid (HW.out.trans (hb2.mono HW.out.size))
  have HB2:=Lib.hid ((hb2.block _ (lt_heap HB.out)).trans HB.out)
  have HC2:=Lib.hid (HO1.out w2 HW2.out)
  clear hb2 HC1 HB HW p0 p1 p2 p3 p4 p5 p6
  obtain ⟨p0,p1,p2,p3,p4,p5,p6⟩:=pg_cells HB2.out
  go_wp2_with fail
  refine HC2.out.mono ?_
  rintro e w3 ⟨rfl,hb3⟩
  have HW3:=Lib.hid (HW2.out.trans (hb3.mono HW2.out.size))
  have HB3:=Lib.hid ((hb3.block _ (lt_heap HB2.out)).trans HB2.out)
  clear hb3 HC2 HB2 HW2 p0 p1 p2 p3 p4 p5 p6 HO1
  obtain ⟨p0,p1,p2,p3,p4,p5,p6⟩:=pg_cells HB3.out
  have hqc:=HQC.out
  generalize onceR ds=o at hqc ⊢
  obtain ⟨o1,oe⟩:=o
  simp only [] at hqc
  by_cases hoe:oe=0
  ·subst hoe
   rw [if_pos rfl] at hqc
   obtain ⟨qp,hqp⟩:∃ qp,qp=predsR [] ps:=⟨_,rfl⟩
   rw [← hqp] at hqc
   have HQP:=Lib.hid hqp
   have HQ2:=Lib.hid hqc
   have HM0:=Lib.hid (zeroPrd (SMap.made Tryz.prog 9 w3))
   have HB4:=Lib.hid ((Below.heap_alloc w3 (.map #[] 0) _ (lt_heap HB3.out)).trans HB3.out)
   have HW4:=Lib.hid (HW3.out.alloc HW3.out.size (.map #[] 0))
   have hz3:=lt_heap HB3.out
   replace p0:=cell_below (below_box w3 (.map #[] 0)) p0
   replace p1:=cell_below (below_box w3 (.map #[] 0)) p1
   clear hqc hqp HQC HB3 HW3 p2 p3 p4 p5 p6
   rcases HPI.out with hnil | ⟨b,o,hab,hlim,hat⟩
   ·subst hnil
    have hz0:((([]:List Pd).length:Nat):Int)=0:=rfl
    have hq2:q0=T.fk (predsK []) (ordD ds):=by rw [HQ2.out,HQP.out];rfl
    go_wp2_with fail
    go_loopw [28] (fun i wr=>i=.int .i64 0∧RowKit.Hid (wr.heap[w.heap.size]? = some (pgB da ds.length dc pa 0 pc T))∧RowKit.Hid (PrdQ wr w3.heap.size 0 (predsK []))∧Below w.heap.size w wr) (fun _ _=>0)
    case atStart=>exact ⟨rfl,HB4,HM0,HW4.out⟩
    case round =>
     obtain ⟨rfl,HX,HPQ,hbx⟩:=hrel
     have HQX:=Lib.hid hq2
     clear p0 p1
     obtain ⟨p0,p1,p2,p3,p4,p5,p6⟩:=pg_cells HX.out
     have HBX:=Lib.hid hbx
     have hwsz:w.heap.size < wr.heap.size:=lt_heap HX.out
     have hNl2:=HPQ.out.lt
     have HC3:=Lib.hid (HSC.out wr.drew w3.heap.size hbx.drew)
     have HB2:=Lib.hid (Below.refl wr.heap.size wr).drew
     clear hbx HX
     go_wp2_with fail
     go_region_held3 (fun wz=>wz.cell? ⟨w.heap.size,0,none⟩=some (.slice da ds.length dc)∧wz.cell? ⟨w.heap.size,2,none⟩=some (.string T.op)∧wz.cell? ⟨w.heap.size,3,none⟩=some (.string T.name)∧wz.cell? ⟨w.heap.size,4,none⟩=some (.int .i64 T.n)∧wz.cell? ⟨w.heap.size,5,none⟩=some (.int .i64 T.pos)∧wz.cell? ⟨w.heap.size,6,none⟩=some (.slice T.a T.kids.len T.cap)) (go_keep) (first | (go_at_call 55;refine HC3.out.mono ?_;rintro e w4 ⟨M,nM,rfl,hM1,hM2,ho4,hb4⟩;replace p0:=cell_below (HB2.out.trans (hb4.mono HB2.out.size)) p0;replace p2:=cell_below (HB2.out.trans (hb4.mono HB2.out.size)) p2;replace p3:=cell_below (HB2.out.trans (hb4.mono HB2.out.size)) p3;replace p4:=cell_below (HB2.out.trans (hb4.mono HB2.out.size)) p4;replace p5:=cell_below (HB2.out.trans (hb4.mono HB2.out.size)) p5;replace p6:=cell_below (HB2.out.trans (hb4.mono HB2.out.size)) p6;have HW5:=Lib.hid (HBX.out.trans ((HB2.out.trans (hb4.mono HB2.out.size)).mono HBX.out.size));have HC5:=Lib.hid (HFQ.out w4 M nM w3.heap.size _ ho4 (Nat.ne_of_lt (Nat.lt_of_lt_of_le hNl2 hM1)) hM2 HW5.out (HPQ.out.below (HB2.out.trans (hb4.mono HB2.out.size))));have hM3:w.heap.size≤M:=Nat.le_trans (Nat.le_of_lt hwsz) hM1;have HCW:=Lib.hid (fun w5 (h:Kp M w4 w5)=>ho4.cl h);clear ho4 hb4) | (go_at_call 56;refine HC5.out.mono ?_;rintro e w5 ⟨rfl,hk5,m5,hm5,ho5⟩;have HW6:=Lib.hid (below_kpK HW5.out hk5 hM3);replace p0:=(HCW.out w5 hk5).cell _ _ p0;replace p2:=(HCW.out w5 hk5).cell _ _ p2;replace p3:=(HCW.out w5 hk5).cell _ _ p3;replace p4:=(HCW.out w5 hk5).cell _ _ p4;replace p5:=(HCW.out w5 hk5).cell _ _ p5;replace p6:=(HCW.out w5 hk5).cell _ _ p6;clear hk5 ho5))
     clear HCW HC5 HC3 HW5 HB2 HFQ HSC HBX p0 p2 p3 p4 p5 p6
     go_wp2_with fail
     go_ret2
     exact ⟨by rw [HQX.out];rfl,HW6.out⟩
   ·subst hab
    have HA:=Lib.hid hat
    clear hat
    go_wp2_with fail
    go_loopw [28] (fun i wr=>∃ k:Nat,i=.int .i64 k∧k≤ps.length∧RowKit.Hid (qp=predsR (ps.take k) (ps.drop k))∧RowKit.Hid (wr.heap[w.heap.size]? = some (pgB da ds.length dc (some ⟨b,o,none⟩) ps.length pc T))∧RowKit.Hid (PrdQ wr w3.heap.size k (predsK (ps.take k)))∧Below w.heap.size w wr) (fun i _=>ps.length - (intOf i).toNat)
    case atStart=>exact ⟨0,rfl,by omega,HQP,HB4,HM0,HW4.out⟩
    case round =>
     obtain ⟨k,rfl,hk,HL,HX,HPQ,hbx⟩:=hrel
     by_cases hkl:k < ps.length
     ·have hkl2:(k:Int) < ps.length:=by omega
      have hg:=List.getElem?_eq_getElem hkl
      have hpa:=(HA.out k (ps[k]'hkl) hg).below hbx
      have hfi:=(HPF.out (ps[k]'hkl) (List.getElem_mem _)).below hbx
      have hokp:=HPO.out (ps[k]'hkl) (List.getElem_mem _)
      have hdr:ps.drop k=(ps[k]'hkl) :: ps.drop (k+1):=List.drop_eq_getElem_cons hkl
      have htk:ps.take (k+1)=ps.take k ++ [ps[k]'hkl]:=by rw [List.take_add_one,hg];rfl
      clear hg
      generalize (ps[k]'hkl)=P at hpa hfi hokp hdr htk
      have hokb:P.body.okF=true∧P.params.length≤6:=by
       unfold Pd.ok at hokp
       simp only [Bool.and_eq_true,decide_eq_true_eq] at hokp
       exact ⟨hokp.2,by omega⟩
      have hqq:qp=(if (predR (predsK (ps.take k)) P).2=0 then predsR (ps.take k ++ [P]) (ps.drop (k+1)) else predR (predsK (ps.take k)) P):=by rw [HL.out,hdr];rfl
      have hcall:=kpred_any P (wr.alloc (pdBox P)) w3.heap.size k (predsK (ps.take k)) (HPQ.out.below (below_box _ _)) (by omega) (hfi.params.below (below_box _ _)) (hfi.body.below (below_box _ _)) hfi.sized hfi.name hokb.1 hfi.size
      have hsome:=@predR_some (predsK (ps.take k)) P
      have hsn:=predsK_snoc (ps.take k) P
      generalize predR (predsK (ps.take k)) P=qr at hqq hcall hsome
      obtain ⟨qr1,qre⟩:=qr
      simp only [] at hqq hcall hsome
      have HCL:=Lib.hid hcall
      obtain ⟨c0,c1,c2,c3,c4,c5,c6,c7⟩:=hpa
      obtain ⟨x0,x1,x2,x3,x4,x5,x6,x7⟩:=pdb_cells (new_at wr (pdBox P))
      have HNB:=Lib.hid (new_at wr (pdBox P))
      have hnm:P.name.size≤maxLen:=by have:=hfi.name;unfold maxLen;omega
      have HFI:=Lib.hid hfi
      have HTK:=Lib.hid htk
      have HSN:=Lib.hid hsn
      have HSO:=Lib.hid hsome
      have hNl:=HPQ.out.lt
      clear hcall hfi hokp hokb htk hsn hsome hdr HL
      by_cases hre:qre=0
      ·have HL2:=Lib.hid (show qp=predsR (ps.take k ++ [P]) (ps.drop (k+1)) from by rw [hqq,if_pos hre])
       have hnone:=HSO.out hre
       clear hqq
       subst hre
       go_wp2_with fail
       refine HCL.out.mono ?_
       rintro e w5 ⟨rfl,hb5⟩
       have hbb5:=box_then hb5
       have HBW:=Lib.hid (hbx.trans (hbb5.mono hbx.size))
       have HX5:=Lib.hid ((hbb5.block _ (lt_heap HX.out)).trans HX.out)
       have HP5:=Lib.hid (HPQ.out.below hbb5)
       have HNB5:=Lib.hid ((hb5.block _ (lt_heap HNB.out)).trans HNB.out)
       have HDI5:=Lib.hid (HFI.out.params.below hbb5)
       have HN0:=Lib.hid hnone
       clear hb5 hbb5 HCL c0 c1 c2 c3 c4 c5 c6 c7 x0 x1 x2 x3 x4 x5 x6 x7 HX HPQ HNB HFI HSO hnone
       obtain ⟨x0,x1,x2,x3,x4,x5,x6,x7⟩:=pdb_cells HNB5.out
       obtain ⟨f5,hsm5,hf5⟩:=HP5.out
       have HSM5:=Lib.hid hsm5
       have HF5:=Lib.hid hf5
       clear hsm5 hf5 x2 x3 x4 x5 x6 x7
       go_wp2_with (at_mapUpdate;refine wpList_update_smap _ rfl _ _ _ 82 rfl 9 22 Tryz.underlying9 Tryz.underlying82 w3.heap.size k f5 rfl HSM5.out (by unfold maxLen;omega) P.name (.slice P.pa P.params.length P.pcap) rfl rfl hnm ?_;intro w9 hm9 hg9 hz9)
       have hw3l:w.heap.size≤w3.heap.size:=by omega
       have hbx9:Below w.heap.size w w9:=below_kpK HBW.out hg9 hw3l
       have hcl9:Cl w5 w9:=by
        obtain ⟨D,⟨es,clock,hb,_⟩,_⟩:=HSM5.out
        exact Cl.of_kp hb hg9
       have HX9:=Lib.hid ((hg9.block w.heap.size (by have:=lt_heap HX5.out;omega) (fun e=>by have:=Option.some.inj e;omega)).trans HX5.out)
       have HP9:RowKit.Hid (PrdQ w9 w3.heap.size (k+1) (predsK (ps.take (k+1)))):=Lib.hid (by
        rw [HTK.out]
        refine ⟨_,hm9,fun s=>?_⟩
        rw [HSN.out HN0.out s]
        by_cases hs:s=P.name
        ·rw [if_pos hs,if_pos hs]
         exact .inr ⟨P.pa,P.pcap,P.params,rfl,rfl,HDI5.out.cl hcl9⟩
        ·rw [if_neg hs,if_neg hs]
         rcases HF5.out s with h | ⟨a',c',ds',g1,g2,g3⟩
         ·exact .inl h
         ·exact .inr ⟨a',c',ds',g1,g2,g3.cl hcl9⟩)
       clear hg9 hm9 hz9 hcl9 HSM5 HF5 HX5 HP5 HNB5 HDI5 HBW x0 x1 hbx
       go_wp2_with fail
       go_roundw
       case rel=>exact ⟨k+1,by go_num,by omega,Lib.hid (by rw [HTK.out];exact HL2.out),HX9,HP9,hbx9⟩
       case measure=>(try simp [intOf]);omega
      ·have hz:q0=(qr1,qre):=by rw [HQ2.out,hqq,if_neg hre,if_neg hre]
       have heb:(qre != 0)=true:=by simp [hre]
       clear hqq hre
       subst hz
       go_wp2_with fail
       refine HCL.out.mono ?_
       rintro e w5 ⟨rfl,hb5⟩
       have hbx5:=hbx.trans ((box_then hb5).mono hbx.size)
       clear hb5 HCL c0 c1 c2 c3 c4 c5 c6 c7 x0 x1 x2 x3 x4 x5 x6 x7
       go_wp2_with fail
       go_ret2
       exact ⟨rfl,hbx5⟩
     ·obtain rfl:k=ps.length:=by omega
      have hq2:q0=T.fk (predsK ps) (ordD ds):=by rw [HQ2.out,HL.out,List.drop_length];rfl
      have hPQ:=HPQ.out
      rw [List.take_length] at hPQ
      replace HPQ:=Lib.hid hPQ
      clear hPQ
      have HQX:=Lib.hid hq2
      clear p0 p1
      obtain ⟨p0,p1,p2,p3,p4,p5,p6⟩:=pg_cells HX.out
      have HBX:=Lib.hid hbx
      have hwsz:w.heap.size < wr.heap.size:=lt_heap HX.out
      have hNl2:=HPQ.out.lt
      have HC3:=Lib.hid (HSC.out wr.drew w3.heap.size hbx.drew)
      have HB2:=Lib.hid (Below.refl wr.heap.size wr).drew
      clear hbx HX
      go_wp2_with fail
      go_region_held3 (fun wz=>wz.cell? ⟨w.heap.size,0,none⟩=some (.slice da ds.length dc)∧wz.cell? ⟨w.heap.size,2,none⟩=some (.string T.op)∧wz.cell? ⟨w.heap.size,3,none⟩=some (.string T.name)∧wz.cell? ⟨w.heap.size,4,none⟩=some (.int .i64 T.n)∧wz.cell? ⟨w.heap.size,5,none⟩=some (.int .i64 T.pos)∧wz.cell? ⟨w.heap.size,6,none⟩=some (.slice T.a T.kids.len T.cap)) (go_keep) (first | (go_at_call 55;refine HC3.out.mono ?_;rintro e w4 ⟨M,nM,rfl,hM1,hM2,ho4,hb4⟩;replace p0:=cell_below (HB2.out.trans (hb4.mono HB2.out.size)) p0;replace p2:=cell_below (HB2.out.trans (hb4.mono HB2.out.size)) p2;replace p3:=cell_below (HB2.out.trans (hb4.mono HB2.out.size)) p3;replace p4:=cell_below (HB2.out.trans (hb4.mono HB2.out.size)) p4;replace p5:=cell_below (HB2.out.trans (hb4.mono HB2.out.size)) p5;replace p6:=cell_below (HB2.out.trans (hb4.mono HB2.out.size)) p6;have HW5:=Lib.hid (HBX.out.trans ((HB2.out.trans (hb4.mono HB2.out.size)).mono HBX.out.size));have HC5:=Lib.hid (HFQ.out w4 M nM w3.heap.size _ ho4 (Nat.ne_of_lt (Nat.lt_of_lt_of_le hNl2 hM1)) hM2 HW5.out (HPQ.out.below (HB2.out.trans (hb4.mono HB2.out.size))));have hM3:w.heap.size≤M:=Nat.le_trans (Nat.le_of_lt hwsz) hM1;have HCW:=Lib.hid (fun w5 (h:Kp M w4 w5)=>ho4.cl h);clear ho4 hb4) | (go_at_call 56;refine HC5.out.mono ?_;rintro e w5 ⟨rfl,hk5,m5,hm5,ho5⟩;have HW6:=Lib.hid (below_kpK HW5.out hk5 hM3);replace p0:=(HCW.out w5 hk5).cell _ _ p0;replace p2:=(HCW.out w5 hk5).cell _ _ p2;replace p3:=(HCW.out w5 hk5).cell _ _ p3;replace p4:=(HCW.out w5 hk5).cell _ _ p4;replace p5:=(HCW.out w5 hk5).cell _ _ p5;replace p6:=(HCW.out w5 hk5).cell _ _ p6;clear hk5 ho5))
      clear HCW HC5 HC3 HW5 HB2 HFQ HSC HBX p0 p2 p3 p4 p5 p6
      go_wp2_with fail
      go_ret2
      exact ⟨by rw [HQX.out];rfl,HW6.out⟩
  ·rw [if_neg hoe] at hqc
   have hob:(oe != 0)=true:=by simp [hoe]
   subst hqc
   clear hoe HQC
   go_wp2_with fail
   go_ret2
   exact ⟨rfl,HW3.out⟩
 ·rw [if_neg (by rw [hok];decide)] at hqc
  rw [hok] at HC1
  clear hq0 hok
  subst hqc
  go_enter Tryz.func20,Tryz.ntmps20
  go_wp2_with fail
  refine HC1.out.mono ?_
  rintro e w2 ⟨rfl,hb2⟩
  have hbb:=HW.out.trans (hb2.mono HW.out.size)
  clear hb2 HC1
  go_wp2_with fail
  go_ret2
  exact ⟨rfl,hbb⟩
theorem PdsLie.below {w w':World} (hb:Below w.heap.size w w') {pa:Option Addr} {ps:List Pd} (h:PdsLie w pa ps):PdsLie w' pa ps:=by
 refine ⟨?_,fun p hp=>(h.2 p hp).below hb⟩
 rcases h.1 with h1 | ⟨b,o,h1,h2,h3⟩
 ·exact .inl h1
 ·exact .inr ⟨b,o,h1,h2,fun i p hi=>(h3 i p hi).below hb⟩
def LongPost (w:World) (ds:List Dc) (ps:List Pd) (sz dp:Nat) (e:Ending) (w':World):Prop:=∃ b:Bool,e=.returned (.bool b)∧Below w.heap.size w w'∧(b=false→ds.length≤20∧ps.length≤10∧sz≤200∧dp≤30∧∀ p ∈ ps,p.params.length≤10∧p.body.size≤100∧p.body.deep≤30)
theorem LongPost.yes {w:World} {ds:List Dc} {ps:List Pd} {sz dp:Nat} {w':World} (h:Below w.heap.size w w'):LongPost w ds ps sz dp (.returned (.bool true)) w':=⟨true,rfl,h,fun h=>by cases h⟩
set_option maxRecDepth 100000 in
set_option maxHeartbeats 16000000 in
theorem long_any (ds:List Dc) (da:Option Addr) (dc:Nat) (ps:List Pd) (pa:Option Addr) (pc:Nat) (T:Nd) (w:World) (hp:PdsLie w pa ps) (hm:T.In w) :
  Calls Tryz.prog 19 #[.agg #[.slice da ds.length dc,.slice pa ps.length pc,.string T.op,.string T.name,.int .i64 T.n,.int .i64 T.pos,.slice T.a T.kids.len T.cap]] w (LongPost w ds ps T.size T.deep):=by
 have hc5:=cellsNode
 have hc8:=cellsPred
 have hc7:=cellsProg7
 have HS0:=Lib.hid (fun W (hb:Below w.heap.size w W)=>rsize_any T W (hm.below hb))
 have HD0:=Lib.hid (fun W (hb:Below w.heap.size w W)=>rdepth_any T W (hm.below hb))
 have HPI:=Lib.hid hp.1
 have HPL:=Lib.hid hp.2
 obtain ⟨op,name,n,pos,a,cap,kids⟩:=T
 rw [Nd.val_def] at HS0 HD0
 simp only [] at HS0 HD0 ⊢
 generalize (Nd.mk op name n pos a cap kids).deep=dp at HS0 HD0 ⊢
 generalize (Nd.mk op name n pos a cap kids).size=sz at HS0 HD0 ⊢
 clear hp hm
 have HB:=Lib.hid (new_at w (.cells (pgCells da ds.length dc pa ps.length pc op name n pos a kids.len cap) 28))
 have HW:=Lib.hid (below_box w (.cells (pgCells da ds.length dc pa ps.length pc op name n pos a kids.len cap) 28))
 have HC:=Lib.hid (HS0.out _ HW.out)
 by_cases hdl:(ds.length:Int)≤20
 case neg =>
  go_enter Tryz.func19,Tryz.ntmps19
  go_wp2_with fail
  go_ret
  exact .yes HW.out
 by_cases hpl:(ps.length:Int)≤10
 case neg =>
  go_enter Tryz.func19,Tryz.ntmps19
  go_wp2_with fail
  go_ret
  exact .yes HW.out
 by_cases h200:sz≤200
 case neg =>
  have hbig:(200:Int) < min (sz:Int) 2001:=by omega
  generalize min (sz:Int) 2001=v at HC hbig
  clear h200
  go_enter Tryz.func19,Tryz.ntmps19
  go_wp2_with fail
  refine HC.out.mono ?_
  rintro e w2 ⟨rfl,hb2⟩
  have HW2:=Lib.hid (HW.out.trans (hb2.mono HW.out.size))
  clear hb2 HC
  go_wp2_with fail
  go_ret
  exact .yes HW2.out
 rw [show min (sz:Int) 2001=sz by omega] at HC
 have h200i:(sz:Int)≤200:=by omega
 by_cases h30:dp≤30
 case neg =>
  have HD1:=Lib.hid (fun W (hb:Below w.heap.size w W)=>by have h:=HD0.out W hb;rw [show min (dp:Int) 31=31 by omega] at h;exact h)
  clear h30
  go_enter Tryz.func19,Tryz.ntmps19
  go_wp2_with fail
  refine HC.out.mono ?_
  rintro e w2 ⟨rfl,hb2⟩
  have HW2:=Lib.hid (HW.out.trans (hb2.mono HW.out.size))
  have HB2:=Lib.hid ((hb2.block _ (lt_heap HB.out)).trans HB.out)
  have HC2:=Lib.hid (HD1.out _ HW2.out)
  clear hb2 HC
  obtain ⟨p0,p1,p2,p3,p4,p5,p6⟩:=pg_cells HB2.out
  go_wp2_with fail
  refine HC2.out.mono ?_
  rintro e w3 ⟨rfl,hb3⟩
  have HW3:=Lib.hid (HW2.out.trans (hb3.mono HW2.out.size))
  clear hb3 HC2
  go_wp2_with fail
  go_ret
  exact .yes HW3.out
 have HD1:=Lib.hid (fun W (hb:Below w.heap.size w W)=>by have h:=HD0.out W hb;rw [show min (dp:Int) 31=dp by omega] at h;exact h)
 have h30i:(dp:Int)≤30:=by omega
 clear HD0 HS0
 go_enter Tryz.func19,Tryz.ntmps19
 go_wp2_with fail
 refine HC.out.mono ?_
 rintro e w2 ⟨rfl,hb2⟩
 have HW2:=Lib.hid (HW.out.trans (hb2.mono HW.out.size))
 have HB2:=Lib.hid ((hb2.block _ (lt_heap HB.out)).trans HB.out)
 have HC2:=Lib.hid (HD1.out _ HW2.out)
 clear hb2 HC HB HW
 obtain ⟨p0,p1,p2,p3,p4,p5,p6⟩:=pg_cells HB2.out
 go_wp2_with fail
 refine HC2.out.mono ?_
 rintro e w3 ⟨rfl,hb3⟩
 have hbx:=HW2.out.trans (hb3.mono HW2.out.size)
 have HX:=Lib.hid ((hb3.block _ (lt_heap HB2.out)).trans HB2.out)
 clear hb3 HC2 HW2 HB2 p0 p1 p2 p3 p4 p5 p6 HD1
 go_wp2_with fail
 go_loopw [3] (fun i wr=>∃ k:Nat,i=.int .i64 k∧k≤ps.length∧RowKit.Hid (∀ p ∈ ps.take k,p.params.length≤10∧p.body.size≤100∧p.body.deep≤30)∧RowKit.Hid (wr.heap[w.heap.size]? = some (.cells (pgCells da ds.length dc pa ps.length pc op name n pos a kids.len cap) 28))∧Below w.heap.size w wr) (fun i _=>ps.length - (intOf i).toNat)
 case atStart=>exact ⟨0,rfl,by omega,Lib.hid (fun p hp=>by simp at hp),HX,hbx⟩
 case round =>
  clear HX hbx
  obtain ⟨k,rfl,hk,HL,HX,hbx⟩:=hrel
  obtain ⟨b0,b1,b2,b3,b4,b5,b6⟩:=pg_cells HX.out
  by_cases hkl:k < ps.length
  ·have hkl2:(k:Int) < ps.length:=by omega
   have hg:=List.getElem?_eq_getElem hkl
   obtain ⟨pb,po,hpa,hplim,hpat⟩:∃ b o,pa=some ⟨b,o,none⟩∧ps.length≤140737488351232∧∀ i p,ps[i]? = some p→PdAt w b (o+i * 8) p:=by
    rcases HPI.out with h | h
    ·rw [h] at hkl;exact absurd hkl (Nat.not_lt_zero _)
    ·exact h
   subst hpa
   have hpk:=(hpat k (ps[k]'hkl) hg).below hbx
   have HF:=Lib.hid (HPL.out (ps[k]'hkl) (List.getElem_mem _))
   have HT:RowKit.Hid (ps.take (k+1)=ps.take k ++ [ps[k]'hkl]):=Lib.hid (List.take_succ_eq_append_getElem hkl)
   clear hg hpat
   generalize (ps[k]'hkl)=p at hpk HF HT
   have HPK:=Lib.hid hpk
   obtain ⟨c0,c1,c2,c3,c4,c5,c6,c7⟩:=hpk
   have HTK:RowKit.Hid (p.params.length≤10→p.body.size≤100→p.body.deep≤30→∀ q ∈ ps.take (k+1),q.params.length≤10∧q.body.size≤100∧q.body.deep≤30):=Lib.hid (fun h0 h1 h2 q hq=>by
    rw [HT.out,List.mem_append,List.mem_singleton] at hq
    rcases hq with hq | rfl
    ·exact HL.out q hq
    ·exact ⟨h0,h1,h2⟩)
   have hsz1:=rsize_any p.body wr (HF.out.body.below hbx)
   rw [Nd.val_def] at hsz1
   have HS1:=Lib.hid hsz1
   have HDD:=Lib.hid (fun W (hb:Below wr.heap.size wr W)=>by have h:=rdepth_any p.body W (HF.out.body.below (hbx.trans (hb.mono hbx.size)));rw [Nd.val_def] at h;exact h)
   generalize p.body.size=bz at HS1 HTK
   generalize p.body.deep=bd at HDD HTK
   clear hsz1 HT
   by_cases h10:(p.params.length:Int)≤10
   case neg =>
    go_wp2_with fail
    go_ret
    exact .yes hbx
   by_cases h100:bz≤100
   case neg =>
    have hbig:(100:Int) < min (bz:Int) 2001:=by omega
    generalize min (bz:Int) 2001=v at HS1 hbig
    clear h100
    go_wp2_with fail
    refine HS1.out.mono ?_
    rintro e w3 ⟨rfl,hb3⟩
    have hbx3:=hbx.trans (hb3.mono hbx.size)
    clear hb3 HS1
    go_wp2_with fail
    go_ret
    exact .yes hbx3
   rw [show min (bz:Int) 2001=bz by omega] at HS1
   have h100i:(bz:Int)≤100:=by omega
   by_cases hd30:bd≤30
   case neg =>
    go_wp2_with fail
    refine HS1.out.mono ?_
    rintro e w3 ⟨rfl,hb3⟩
    have hbx3:=hbx.trans (hb3.mono hbx.size)
    have hcd:=HDD.out w3 hb3
    rw [show min (bd:Int) 31=31 by omega] at hcd
    have HCD:=Lib.hid hcd
    have HPK3:=Lib.hid (HPK.out.below hb3)
    have HX3:=Lib.hid ((hb3.block _ (lt_heap HX.out)).trans HX.out)
    clear hb3 HS1 hcd c0 c1 c2 c3 c4 c5 c6 c7 b0 b1 b2 b3 b4 b5 b6
    obtain ⟨c0,c1,c2,c3,c4,c5,c6,c7⟩:=HPK3.out
    obtain ⟨b0,b1,b2,b3,b4,b5,b6⟩:=pg_cells HX3.out
    go_wp2_with fail
    refine HCD.out.mono ?_
    rintro e w4 ⟨rfl,hb4⟩
    have hbx4:=hbx3.trans (hb4.mono hbx3.size)
    clear hb4 HCD
    go_wp2_with fail
    go_ret
    exact .yes hbx4
   have HL3:=Lib.hid (HTK.out (by omega) h100 hd30)
   have hd30i:(bd:Int)≤30:=by omega
   go_wp2_with fail
   refine HS1.out.mono ?_
   rintro e w3 ⟨rfl,hb3⟩
   have hbx3:=hbx.trans (hb3.mono hbx.size)
   have hcd:=HDD.out w3 hb3
   rw [show min (bd:Int) 31=bd by omega] at hcd
   have HCD:=Lib.hid hcd
   have HPK3:=Lib.hid (HPK.out.below hb3)
   have HX3:=Lib.hid ((hb3.block _ (lt_heap HX.out)).trans HX.out)
   clear hb3 HS1 hcd c0 c1 c2 c3 c4 c5 c6 c7 b0 b1 b2 b3 b4 b5 b6 HDD HPK HX
   obtain ⟨c0,c1,c2,c3,c4,c5,c6,c7⟩:=HPK3.out
   obtain ⟨b0,b1,b2,b3,b4,b5,b6⟩:=pg_cells HX3.out
   go_wp2_with fail
   refine HCD.out.mono ?_
   rintro e w4 ⟨rfl,hb4⟩
   have hbx4:=hbx3.trans (hb4.mono hbx3.size)
   have HX4:=Lib.hid ((hb4.block _ (lt_heap HX3.out)).trans HX3.out)
   clear hb4 HCD HX3 c0 c1 c2 c3 c4 c5 c6 c7 b0 b1 b2 b3 b4 b5 b6
   go_wp2_with fail
   go_roundw
   case rel=>exact ⟨k+1,by go_num,by omega,HL3,HX4,hbx4⟩
   case measure=>(try simp [intOf]);omega
  ·obtain rfl:k=ps.length:=by omega
   have hpf:∀ p ∈ ps,p.params.length≤10∧p.body.size≤100∧p.body.deep≤30:=by
    have:=HL.out
    rw [List.take_length] at this
    exact this
   have HPF:=Lib.hid hpf
   clear hpf
   go_wp2_with fail
   go_ret
   exact ⟨false,rfl,hbx,fun _=>⟨by omega,by omega,by omega,by omega,HPF.out⟩⟩
end Go.Proofs.YtmlmjopfbohglaaGreatDoor
