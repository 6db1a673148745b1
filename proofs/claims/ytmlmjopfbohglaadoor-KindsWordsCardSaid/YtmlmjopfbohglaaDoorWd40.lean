/- Parts of the proof: RpT RpU PBoxT. -/
import Derived.Test.YtmlmjopfbohglaaDoorWd39
namespace Go.Proofs.YtmlmjopfbohglaaDoor
open Go.RowKit
def Res.st {α:Type} : Res α→St
 | .ok _ l=>.good l
 | .bad a e=>.bad a e
def sMust (x:List UInt8):St→St
 | .good l=>if (wrd l).toList == x then .good l.tail else .bad (hd l).pos 2
 | .bad a e=>.bad a e
def sName:St→Tok × St
 | .good l=>if (hd l).kind == 1 then (hd l,.good l.tail) else (⟨0,⟨#[]⟩,0,0⟩,.bad (hd l).pos 2)
 | .bad a e=>(⟨0,⟨#[]⟩,0,0⟩,.bad a e)
def sPar (f:Nat):St→Res (List Dc)
 | .good l=>pPar f l
 | .bad a e=>.bad a e
def sForm (f:Nat):St→Res Nd
 | .good l=>pForm f 0 l
 | .bad a e=>.bad a e
theorem rmust_any (x:ByteArray) (hx:(x.toList == [])=false) (s:St) (w:World) (B:Nat) (h:PrS w B s):Calls Tryd.prog 31 #[.pointer (some ⟨B,0,none⟩),.string x] w fun e w'=>e=.returned (.tuple #[])∧Kp B w w'∧PrS w' B (sMust x.toList s):=by
 cases s with
 | bad a e=>exact rmust_b x w B a e h
 | good l =>
  unfold sMust
  rcases bool_two ((wrd l).toList == x.toList) with hb | hb
  ·simp only [hb,if_true]
   exact rmust_yes l x w B hx hb h
  ·simp only [hb]
   exact rmust_no l x w B hb h
theorem rnameP_any (s:St) (w:World) (B:Nat) (h:PrS w B s):Calls Tryd.prog 59 #[.pointer (some ⟨B,0,none⟩)] w fun e w'=>e=.returned (tokVal (sName s).1)∧Kp B w w'∧PrS w' B (sName s).2:=by
 cases s with
 | bad a e=>exact rname_b w B a e h
 | good l =>
  unfold sName
  rcases bool_two ((hd l).kind == 1) with hb | hb
  ·simp only [hb,if_true]
   exact rname_yes l w B hb h
  ·simp only [hb]
   exact rname_no l w B hb h
theorem PostR.st {B:Nat} {w:World} {r:Res Nd} {e:Ending} {w':World} (h:PostR B w r e w'):∃ T:Nd,e=.returned (.agg #[.string T.op,.string T.name,.int .i64 T.n,.int .i64 T.pos,.slice T.a T.kids.len T.cap])∧Kp B w w'∧PrS w' B r.st∧∀ n l,r=.ok n l→T.Good (fun b=>w.heap.size≤b) w'∧T.strip=n:=by
 obtain ⟨T,h1,h2,h3⟩:=h
 refine ⟨T,h1,h2,?_,fun n l hr=>?_⟩
 ·cases r with
  | ok n l=>exact h3.1
  | bad a e=>exact h3
 ·subst hr
  exact ⟨h3.2.1,h3.2.2⟩
theorem PostD.st {B:Nat} {w:World} {m:Nat} {r:Res (List Dc)} {e:Ending} {w':World} (h:PostD B w m r e w'):∃ (ds:List Dc) (a:Option Addr) (cap:Nat),e=.returned (.slice a ds.length cap)∧w'.ownsRow w.heap.size 55 3 (.slice a ds.length cap) ds.length (flatD ds)∧ds.length≤m∧Kp B w w'∧PrS w' B r.st∧∀ x l,r=.ok x l→ds=x:=by
 obtain ⟨ds,a,cap,h1,h2,h3,h4,h5⟩:=h
 refine ⟨ds,a,cap,h1,h2,h3,h4,?_,fun n l hr=>?_⟩
 ·cases r with
  | ok n l=>exact h5.1
  | bad a e=>exact h5
 ·subst hr
  exact h5.2
set_option maxRecDepth 100000 in
set_option maxHeartbeats 16000000 in
theorem rparams_b (p e:Int) (w:World) (B:Nat) (m:Nat) (h:PrS w B (.bad p e)):Calls Tryd.prog 60 #[.pointer (some ⟨B,0,none⟩)] w (PostD B w m (.bad p e)):=by
 have HC:=Lib.hid (rtake_b ⟨#[41]⟩ w B p e h)
 clear h
 go_enter Tryd.func60,Tryd.ntmps60
 go_wp2_with fail
 refine HC.out.mono ?_
 rintro e1 w1 ⟨rfl,hk1,hr1⟩
 obtain ⟨z2,z3⟩:=hr1.err_b
 have HK1:=Lib.hid hk1
 have HR1:=Lib.hid hr1
 clear hk1 hr1 HC
 go_wp2_with fail
 go_loopg [3] 1 (fun gf v3 wx=>v3=.slice none 0 0∧wx=w1)
 case atStart=>exact ⟨rfl,rfl⟩
 case round =>
  obtain ⟨rfl,rfl⟩:=hrel
  go_wp2_with fail
  go_ret
  exact ⟨[],none,0,rfl,World.ownsRow_nil _ _ _ _,Nat.zero_le _,HK1.out,HR1.out⟩
theorem rpar_any (f:Nat) (s:St) (w:World) (B:Nat) (hneed:s.l.length≤f) (hm:s.l.length≤1000000) (h:PrS w B s):Calls Tryd.prog 60 #[.pointer (some ⟨B,0,none⟩)] w (PostD B w (s.l.length+1) (sPar (f+1) s)):=by
 cases s with
 | bad a e=>exact rparams_b a e w B _ h
 | good l=>exact rparams_all f l w B hneed hm h
theorem rform_any (f:Nat) (s:St) (w:World) (B:Nat) (hneed:7+20 * s.l.length≤f) (h:PrS w B s):Calls Tryd.prog 30 #[.pointer (some ⟨B,0,none⟩),.int .i64 0] w (PostR B w (sForm f s)):=by
 cases s with
 | bad a e=>exact rform_b w B 0 a e h
 | good l=>exact (rforms_all f).2.2.2.2 l w B 0 hneed h
theorem From.sub {S S':Nat→Prop} {w w':World} (h:From S w w') (hs:∀ b,S' b→S b):From S' w w':=⟨h.size,fun i hi hl=>h.block i (hs i hi) hl⟩
set_option maxRecDepth 100000 in
set_option maxHeartbeats 16000000 in
theorem rpred_of (w:World) (B:Nat) (l:List Tok) (tk:Tok) (s1 s2 s4 s6:St) (r:Res (List Dc)) (q:Res Nd) (m:Nat) (hk4:((hd l).kind == 4)=false) (hS:PrS w B (.good l))
  (hn:∀ W,PrS W B (.good l.tail)→Calls Tryd.prog 59 #[.pointer (some ⟨B,0,none⟩)] W fun e w'=>e=.returned (tokVal tk)∧Kp B W w'∧PrS w' B s1)
  (hm1:∀ W,PrS W B s1→Calls Tryd.prog 31 #[.pointer (some ⟨B,0,none⟩),.string ⟨#[40]⟩] W fun e w'=>e=.returned (.tuple #[])∧Kp B W w'∧PrS w' B s2)
  (hp:∀ W,PrS W B s2→Calls Tryd.prog 60 #[.pointer (some ⟨B,0,none⟩)] W (PostD B W m r))
  (hm2:∀ W,PrS W B r.st→Calls Tryd.prog 31 #[.pointer (some ⟨B,0,none⟩),.string ⟨#[61]⟩] W fun e w'=>e=.returned (.tuple #[])∧Kp B W w'∧PrS w' B s4)
  (hf:∀ W,PrS W B s4→Calls Tryd.prog 30 #[.pointer (some ⟨B,0,none⟩),.int .i64 0] W (PostR B W q))
  (hm3:∀ W,PrS W B q.st→Calls Tryd.prog 31 #[.pointer (some ⟨B,0,none⟩),.string ⟨#[59]⟩] W fun e w'=>e=.returned (.tuple #[])∧Kp B W w'∧PrS w' B s6) :
  Calls Tryd.prog 28 #[.pointer (some ⟨B,0,none⟩)] w fun e w'=>∃ P:Pd,e=.returned (.agg #[.string P.name,.slice P.pa P.params.length P.pcap,.string P.body.op,.string P.body.name,.int .i64 P.body.n,.int .i64 P.body.pos,.slice P.body.a P.body.kids.len P.body.cap,.int .i64 P.pos])∧Kp B w w'∧PrS w' B s6∧(∀ ds l1 n l2,r=.ok ds l1→q=.ok n l2→PdOk (fun b=>w.heap.size≤b) w' P∧P.strip=⟨tk.text,ds,none,0,n,tk.pos⟩):=by
 have hc4:=cellsTok
 have hc8:=cellsPred
 have hc5:=cellsNode
 have hB:=hS.lt
 have HN:=Lib.hid hn
 have HM1:=Lib.hid hm1
 have HP:=Lib.hid hp
 have HM2:=Lib.hid hm2
 have HF:=Lib.hid hf
 have HM3:=Lib.hid hm3
 have HC0:=Lib.hid (rnext_g l (w.alloc (prdBox ⟨#[]⟩ (.slice none 0 0) ⟨#[]⟩ ⟨#[]⟩ 0 0 none 0 0 0)) B hk4 (hS.alloc _))
 have HZ0:=Lib.hid (new_at w (prdBox ⟨#[]⟩ (.slice none 0 0) ⟨#[]⟩ ⟨#[]⟩ 0 0 none 0 0 0))
 have HK0:=Lib.hid ((Kp.refl B w).alloc (prdBox ⟨#[]⟩ (.slice none 0 0) ⟨#[]⟩ ⟨#[]⟩ 0 0 none 0 0 0))
 clear hn hm1 hp hm2 hf hm3 hk4 hS
 go_enter Tryd.func28,Tryd.ntmps28
 go_wp2_with fail
 refine HC0.out.mono ?_
 rintro x1 w1 ⟨rfl,hk1,hr1⟩
 have HZ1:=Lib.hid (hk1.blk HZ0.out (by omega))
 have HK1:=Lib.hid (HK0.out.trans hk1)
 have HC1:=Lib.hid (HN.out w1 hr1)
 clear hk1 hr1 HC0 HZ0 HK0 HN
 go_wp2_with fail
 refine HC1.out.mono ?_
 rintro x2 w2 ⟨rfl,hk2,hr2⟩
 have HZ2:=Lib.hid (hk2.blk HZ1.out (by omega))
 have HK2:=Lib.hid (HK1.out.trans hk2)
 have hz2:=lt_heap HZ2.out
 have HT:=Lib.hid (new_at w2 (tokBox tk.kind tk.text tk.n tk.pos))
 obtain ⟨⟨t0,t1,t2,t3⟩,_⟩:=tok_cells HT.out
 have HZ3:=Lib.hid ((Below.heap_alloc _ (prdBox tk.text (.slice none 0 0) ⟨#[]⟩ ⟨#[]⟩ 0 0 none 0 0 tk.pos) _ (by rw [alloc_size];omega)).trans ((Below.heap_alloc _ (tokBox tk.kind tk.text tk.n tk.pos) _ (lt_heap HZ2.out)).trans HZ2.out))
 have HX3:RowKit.Hid (((w2.alloc (tokBox tk.kind tk.text tk.n tk.pos)).alloc (prdBox tk.text (.slice none 0 0) ⟨#[]⟩ ⟨#[]⟩ 0 0 none 0 0 tk.pos)).heap[w2.heap.size+1]? = some (prdBox tk.text (.slice none 0 0) ⟨#[]⟩ ⟨#[]⟩ 0 0 none 0 0 tk.pos)):=Lib.hid (by have h:=new_at (w2.alloc (tokBox tk.kind tk.text tk.n tk.pos)) (prdBox tk.text (.slice none 0 0) ⟨#[]⟩ ⟨#[]⟩ 0 0 none 0 0 tk.pos);rw [alloc_size] at h;exact h)
 have HK3:=Lib.hid ((HK2.out.alloc (tokBox tk.kind tk.text tk.n tk.pos)).alloc (prdBox tk.text (.slice none 0 0) ⟨#[]⟩ ⟨#[]⟩ 0 0 none 0 0 tk.pos))
 have HC3:=Lib.hid (HM1.out _ ((hr2.alloc (tokBox tk.kind tk.text tk.n tk.pos)).alloc (prdBox tk.text (.slice none 0 0) ⟨#[]⟩ ⟨#[]⟩ 0 0 none 0 0 tk.pos)))
 have hB2:B < w2.heap.size:=hr2.lt
 clear hk2 hr2 HC1 HZ1 HK1 HZ2 HK2 HM1
 go_wp2_with fail
 refine HC3.out.mono ?_
 rintro x3 w3 ⟨rfl,hk3,hr3⟩
 have HZ4:=Lib.hid (hk3.blk HZ3.out (by omega))
 have HX4:=Lib.hid (hk3.blk HX3.out (by omega))
 have HK4:=Lib.hid (HK3.out.trans hk3)
 have HC4:=Lib.hid (HP.out w3 hr3)
 clear hk3 hr3 HC3 HZ3 HX3 HK3 HP HT t0 t1 t2 t3
 go_wp2_with fail
 refine HC4.out.mono ?_
 rintro x4 w4 hx4
 obtain ⟨ds,a,cap,rfl,hown4,hdl4,hk4,hr4,hok4⟩:=hx4.st
 have HRW4:=Lib.hid (dcs_own hown4)
 have HOK4:=Lib.hid hok4
 have HZ5:=Lib.hid (hk4.blk HZ4.out (by omega))
 have HX5:=Lib.hid (hk4.blk HX4.out (by omega))
 have HK5:=Lib.hid (HK4.out.trans hk4)
 have HR5:=Lib.hid hr4
 have hsz3:=lt_heap HX4.out
 have hsz5:=lt_heap HX5.out
 have hsz6:=lt_heap HZ5.out
 clear hx4 hown4 hdl4 hk4 hr4 hok4 HC4 HZ4 HX4 HK4
 obtain ⟨p0,p1,p2,p3,p4,p5,p6,p7⟩:=prd_cells HX5.out
 have hfr1:w4.frozen? ⟨w2.heap.size+1,1,none⟩=false:=by simp [World.frozen?,HX5.out]
 have HR6:RowKit.Hid (PrS (w4.setCell ⟨w2.heap.size+1,1,none⟩ (.slice a ds.length cap)) B r.st):=Lib.hid (HR5.out.set (show B < w2.heap.size+1 by omega) _)
 have HC5:=Lib.hid (HM2.out _ HR6.out)
 go_wp2_with fail
 clear p0 p1 p2 p3 p4 p5 p6 p7 hfr1
 refine HC5.out.mono ?_
 rintro x5 w5 ⟨rfl,hk5,hr5⟩
 have HX6:RowKit.Hid (w5.heap[w2.heap.size+1]? = some (prdBox tk.text (.slice a ds.length cap) ⟨#[]⟩ ⟨#[]⟩ 0 0 none 0 0 tk.pos)):=Lib.hid (hk5.blk (heap_setCell_same _ _ 1 _ _ _ HX5.out) (by omega))
 have HZ6:RowKit.Hid (w5.heap[w.heap.size]? = some (prdBox ⟨#[]⟩ (.slice none 0 0) ⟨#[]⟩ ⟨#[]⟩ 0 0 none 0 0 0)):=Lib.hid (hk5.blk ((Below.heap_setCell _ _ _ _ (by simp;omega)).trans HZ5.out) (by omega))
 have HK6:=Lib.hid ((HK5.out.set (show w.heap.size≤w2.heap.size+1 by omega) (.slice a ds.length cap)).trans hk5)
 have HRW6:=Lib.hid ((HRW4.out.mono (S':=fun b=>w2.heap.size+2≤b) (fun b hb _=>by omega)).from ((From.set w4 (p:=⟨w2.heap.size+1,1,none⟩) (by show ¬ w2.heap.size+2≤w2.heap.size+1;omega) (.slice a ds.length cap)).trans (hk5.from (by omega))))
 have HC6:=Lib.hid (HF.out w5 hr5)
 clear hk5 hr5 HC5 HX5 HZ5 HK5 HR5 HR6 HRW4 HM2 HF
 go_wp2_with fail
 refine HC6.out.mono ?_
 rintro x6 w6 hx6
 obtain ⟨T,rfl,hk6,hr6,hok6⟩:=hx6.st
 have HOK6:=Lib.hid hok6
 have HZ7:=Lib.hid (hk6.blk HZ6.out (by omega))
 have HX7:=Lib.hid (hk6.blk HX6.out (by omega))
 have HK7:=Lib.hid (HK6.out.trans hk6)
 have HR7:=Lib.hid hr6
 have HRW7:=Lib.hid (HRW6.out.from (hk6.from (by omega)))
 have hsz5':=lt_heap HX6.out
 have hsz7:=lt_heap HX7.out
 have hsz8:=lt_heap HZ7.out
 clear hx6 hk6 hr6 hok6 HC6 HZ6 HX6 HK6 HRW6
 obtain ⟨p0,p1,p2,p3,p4,p5,p6,p7⟩:=prd_cells HX7.out
 have hfr:∀ i,w6.frozen? ⟨w2.heap.size+1,i,none⟩=false:=fun i=>by simp [World.frozen?,HX7.out]
 have hf2:=hfr 2
 have hf3:=hfr 3
 have hf4:=hfr 4
 have hf5:=hfr 5
 have hf6:=hfr 6
 clear hfr
 obtain ⟨wq,hW⟩:∃ x,x=(((((w6.setCell ⟨w2.heap.size+1,2,none⟩ (.string T.op)).setCell ⟨w2.heap.size+1,3,none⟩ (.string T.name)).setCell ⟨w2.heap.size+1,4,none⟩ (.int .i64 T.n)).setCell ⟨w2.heap.size+1,5,none⟩ (.int .i64 T.pos)).setCell ⟨w2.heap.size+1,6,none⟩ (.slice T.a T.kids.len T.cap)):=⟨_,rfl⟩
 have HR8:RowKit.Hid (PrS wq B q.st):=Lib.hid (by rw [hW];exact (by repeat (with_reducible first | exact HR7.out | refine PrS.set ?_ (show B < w2.heap.size+1 by omega) _)))
 have HK8:RowKit.Hid (Kp B w wq):=Lib.hid (by rw [hW];exact (by repeat (with_reducible first | exact HK7.out | refine Kp.set ?_ (show w.heap.size≤w2.heap.size+1 by omega) _)))
 have HX8:RowKit.Hid (wq.heap[w2.heap.size+1]? = some (prdBox tk.text (.slice a ds.length cap) T.op T.name T.n T.pos T.a T.kids.len T.cap tk.pos)):=Lib.hid (by
  rw [hW]
  have h2:=heap_setCell_same _ (w2.heap.size+1) 2 _ _ (.string T.op) HX7.out
  have h3:=heap_setCell_same _ (w2.heap.size+1) 3 _ _ (.string T.name) h2
  have h4:=heap_setCell_same _ (w2.heap.size+1) 4 _ _ (.int .i64 T.n) h3
  have h5:=heap_setCell_same _ (w2.heap.size+1) 5 _ _ (.int .i64 T.pos) h4
  exact heap_setCell_same _ (w2.heap.size+1) 6 _ _ (.slice T.a T.kids.len T.cap) h5)
 have HFS:RowKit.Hid (From (fun b=>b≠w2.heap.size+1) w6 wq):=Lib.hid (by rw [hW];exact ((((From.set _ (fun h=>h rfl) _).trans (From.set _ (fun h=>h rfl) _)).trans (From.set _ (fun h=>h rfl) _)).trans (From.set _ (fun h=>h rfl) _)).trans (From.set _ (fun h=>h rfl) _))
 have HZ8:RowKit.Hid (wq.heap[w.heap.size]? = some (prdBox ⟨#[]⟩ (.slice none 0 0) ⟨#[]⟩ ⟨#[]⟩ 0 0 none 0 0 0)):=Lib.hid ((HFS.out.block _ (by omega) (by omega)).trans HZ7.out)
 have hsz9:=HFS.out.size
 have HC7:=Lib.hid (HM3.out wq HR8.out)
 go_wp2_with fail
 rw [← hW]
 clear hW p0 p1 p2 p3 p4 p5 p6 p7 hf2 hf3 hf4 hf5 hf6
 refine HC7.out.mono ?_
 rintro x7 w7 ⟨rfl,hk7,hr7⟩
 have HZ9:=Lib.hid (hk7.blk HZ8.out (by omega))
 have HX9:=Lib.hid (hk7.blk HX8.out (by omega))
 have HK9:=Lib.hid (HK8.out.trans hk7)
 have HR9:=Lib.hid hr7
 have hBa:¬ w2.heap.size+2≤B:=by omega
 have HF9:=Lib.hid ((HFS.out.sub (S':=fun b=>w2.heap.size+2≤b) (fun b hb=>by omega)).trans (hk7.from hBa))
 clear hk7 hr7 HC7 HZ8 HX8 HK8 HR8 HFS HZ7 HX7 HK7 HR7 HM3
 have hn0:¬ w.heap.size=w2.heap.size+1:=by omega
 have hfr:∀ i,w7.frozen? ⟨w.heap.size,i,none⟩=false:=fun i=>by simp [World.frozen?,HZ9.out]
 have hf0:=hfr 0
 have hf1:=hfr 1
 have hf2:=hfr 2
 have hf3:=hfr 3
 have hf4:=hfr 4
 have hf5:=hfr 5
 have hf6:=hfr 6
 have hf7:=hfr 7
 obtain ⟨z0,z1,z2,z3,z4,z5,z6,z7⟩:=prd_cells HZ9.out
 obtain ⟨p0,p1,p2,p3,p4,p5,p6,p7⟩:=prd_cells HX9.out
 clear hfr
 go_wp2_with fail
 refine bodyPost_ret (results_cell_row Tryd.results28 _ _ w.heap.size _ #[.string tk.text,.slice a ds.length cap,.string T.op,.string T.name,.int .i64 T.n,.int .i64 T.pos,.slice T.a T.kids.len T.cap,.int .i64 tk.pos] _ _ rfl (prd_set HZ9.out _ _ _ _ _ _ _ _ _ _) Tryd.underlying47 rfl infoPred) rfl ?_
 have HFQ:RowKit.Hid (From (fun b=>w2.heap.size+2≤b) w7 ((((((((w7.setCell ⟨w.heap.size,0,none⟩ (.string tk.text)).setCell ⟨w.heap.size,1,none⟩ (.slice a ds.length cap)).setCell ⟨w.heap.size,2,none⟩ (.string T.op)).setCell ⟨w.heap.size,3,none⟩ (.string T.name)).setCell ⟨w.heap.size,4,none⟩ (.int .i64 T.n)).setCell ⟨w.heap.size,5,none⟩ (.int .i64 T.pos)).setCell ⟨w.heap.size,6,none⟩ (.slice T.a T.kids.len T.cap)).setCell ⟨w.heap.size,7,none⟩ (.int .i64 tk.pos))):=Lib.hid (by have hq:¬ (w2.heap.size+2≤w.heap.size):=(by omega);exact (((((((From.set _ hq _).trans (From.set _ hq _)).trans (From.set _ hq _)).trans (From.set _ hq _)).trans (From.set _ hq _)).trans (From.set _ hq _)).trans (From.set _ hq _)).trans (From.set _ hq _))
 refine ⟨⟨tk.text,ds,a,cap,T,tk.pos⟩,rfl,(by repeat (with_reducible first | exact HK9.out | refine Kp.set ?_ (Nat.le_refl _) _)),(by repeat (with_reducible first | exact HR9.out | refine PrS.set ?_ hB _)),fun ds' l1 n l2 h1 h2=>?_⟩
 have hds:=HOK4.out ds' l1 h1
 obtain ⟨hg,hst⟩:=HOK6.out n l2 h2
 refine ⟨⟨((HRW7.out.from (HF9.out.trans HFQ.out)).mono (fun b hb _=>by omega)),?_⟩,?_⟩
 ·exact ((hg.mono (S':=fun b=>w2.heap.size+2≤b) (fun b hb=>by omega)).from (HF9.out.trans HFQ.out)).mono (fun b hb=>by omega)
 ·subst hds
  subst hst
  rfl
theorem tail_le (l:List Tok):l.tail.length≤l.length:=by rw [List.length_tail];omega
theorem declL_len:∀ (f:Nat) (k:Int) (acc:List Dc) (l:List Tok) (ds:List Dc) (l':List Tok),pDeclL f k acc l=.ok ds l'→ds.length+l'.length≤acc.length+l.length:=by
 intro f
 induction f with
 | zero=>intro k acc l ds l' h;cases h
 | succ f ih =>
  intro k acc l ds l' h
  unfold pDeclL at h
  split at h
  ·rename_i hk
   have hne:=tail_len (ne_kind hk)
   have ht:=tail_le l.tail
   split at h
   ·have:=ih _ _ _ _ _ h
    simp at this
    have ht2:l.tail.tail.length=l.length - 1 - 1:=by simp
    omega
   ·split at h
    ·injection h with h1 h2
     subst h1
     subst h2
     simp
     omega
    ·cases h
  ·cases h
theorem parL_len:∀ (f:Nat) (acc:List Dc) (l:List Tok) (ds:List Dc) (l':List Tok),pParL f acc l=.ok ds l'→ds.length+l'.length≤acc.length+l.length:=by
 intro f
 induction f with
 | zero=>intro acc l ds l' h;cases h
 | succ f ih =>
  intro acc l ds l' h
  unfold pParL at h
  split at h
  ·cases h
  ·split at h
   ·cases h
   ·split at h
    ·rename_i hk
     have hne:=tail_len (ne_kind hk)
     have hz:=tail_le l
     split at h
     ·have:=ih _ _ _ _ h
      simp at this
      have h1:l.tail.length=l.length - 1:=by simp
      omega
     ·split at h
      ·injection h with h1 h2
       subst h1
       subst h2
       simp
       have h1:l.tail.length=l.length - 1:=by simp
       omega
      ·cases h
    ·cases h
theorem par_len {f:Nat} {l:List Tok} {ds:List Dc} {l':List Tok} (h:pPar f l=.ok ds l'):l'.length≤l.length:=by
 unfold pPar at h
 split at h
 ·injection h with h1 h2
  subst h2
  exact tail_le l
 ·have:=parL_len _ _ _ _ _ h
  simp at this
  omega
theorem form_len {f:Nat} {l:List Tok} {n:Nd} {l':List Tok} (h:pForm f 0 l=.ok n l'):l'.length≤l.length:=Nat.le_of_lt ((suf_forms f).2.2.2.2.2.2.1 _ _ _ _ h).len
theorem sMust_len (x:List UInt8) (s:St):(sMust x s).l.length≤s.l.length:=by
 cases s with
 | bad a e=>exact Nat.le_refl _
 | good l =>
  show (if ((wrd l).toList == x)=true then St.good l.tail else St.bad (hd l).pos 2).l.length≤l.length
  split
  ·exact tail_le l
  ·exact Nat.zero_le _
theorem sName_len (s:St):(sName s).2.l.length≤s.l.length:=by
 cases s with
 | bad a e=>exact Nat.le_refl _
 | good l =>
  show (if ((hd l).kind == 1)=true then (hd l,St.good l.tail) else ((⟨0,⟨#[]⟩,0,0⟩:Tok),St.bad (hd l).pos 2)).2.l.length≤l.length
  split
  ·exact tail_le l
  ·exact Nat.zero_le _
theorem sPar_len (f:Nat) (s:St):(sPar f s).st.l.length≤s.l.length:=by
 cases s with
 | bad a e=>exact Nat.le_refl _
 | good l =>
  show (pPar f l).st.l.length≤l.length
  cases h:pPar f l with
  | ok ds l'=>exact par_len h
  | bad a e=>exact Nat.zero_le _
theorem pred_parts (f:Nat) (l:List Tok) (n:Tok × St) (hn:sName (.good l.tail)=n) (r:Res (List Dc)) (hr:sPar f (sMust [40] n.2)=r) (q:Res Nd) (hq:sForm f (sMust [61] r.st)=q) :
  (∀ p l',pPred f l=.ok p l'→sMust [59] q.st=.good l'∧∃ ds l1 m l2,r=.ok ds l1∧q=.ok m l2∧p=⟨n.1.text,ds,none,0,m,n.1.pos⟩)∧(∀ a e,pPred f l=.bad a e→sMust [59] q.st=.bad a e):=by
 subst hn
 unfold pPred
 by_cases h1:((hd l.tail).kind == 1)=true
 ·have e1:sName (.good l.tail)=(hd l.tail,.good l.tail.tail):=by unfold sName;simp only [h1,if_true]
  rw [e1] at hr
  simp only [e1,h1,if_true]
  by_cases h2:((wrd l.tail.tail).toList == [40])=true
  ·have e2:sMust [40] (St.good l.tail.tail)=.good l.tail.tail.tail:=by unfold sMust;simp only [h2,if_true]
   simp only [e2] at hr
   simp only [h2,if_true]
   have e3:pPar f l.tail.tail.tail=r:=hr
   rw [e3]
   cases r with
   | bad a e =>
    subst hq
    refine ⟨fun p l' h=>(by cases h),fun a' e' h=>?_⟩
    injection h with h1 h2
    subst h1
    subst h2
    rfl
   | ok ds l1 =>
    unfold pPredB
    by_cases h4:((wrd l1).toList == [61])=true
    ·have e4:sMust [61] (Res.ok ds l1).st=.good l1.tail:=by show sMust [61] (.good l1)=_;unfold sMust;simp only [h4,if_true]
     rw [e4] at hq
     have e5:pForm f 0 l1.tail=q:=hq
     simp only [h4,if_true]
     rw [e5]
     cases q with
     | bad a e =>
      refine ⟨fun p l' h=>(by cases h),fun a' e' h=>?_⟩
      injection h with h1 h2
      subst h1
      subst h2
      rfl
     | ok m l2 =>
      by_cases h6:((wrd l2).toList == [59])=true
      ·have e6:sMust [59] (Res.ok m l2).st=.good l2.tail:=by show sMust [59] (.good l2)=_;unfold sMust;simp only [h6,if_true]
       simp only [h6,if_true]
       refine ⟨fun p l' h=>?_,fun a' e' h=>by cases h⟩
       injection h with h1 h2
       subst h1
       subst h2
       exact ⟨e6,ds,l1,m,l2,rfl,rfl,rfl⟩
      ·have e6:sMust [59] (Res.ok m l2).st=.bad (hd l2).pos 2:=by show sMust [59] (.good l2)=_;unfold sMust;simp only [h6];rfl
       simp only [h6]
       refine ⟨fun p l' h=>(by cases h),fun a' e' h=>?_⟩
       injection h with h1 h2
       subst h1
       subst h2
       exact e6
    ·have e4:sMust [61] (Res.ok ds l1).st=.bad (hd l1).pos 2:=by show sMust [61] (.good l1)=_;unfold sMust;simp only [h4];rfl
     rw [e4] at hq
     subst hq
     simp only [h4]
     refine ⟨fun p l' h=>(by cases h),fun a' e' h=>?_⟩
     injection h with h1 h2
     subst h1
     subst h2
     rfl
  ·have e2:sMust [40] (St.good l.tail.tail)=.bad (hd l.tail.tail).pos 2:=by unfold sMust;simp only [h2];rfl
   simp only [e2] at hr
   subst hr
   subst hq
   simp only [h2]
   refine ⟨fun p l' h=>(by cases h),fun a' e' h=>?_⟩
   injection h with h1 h2
   subst h1
   subst h2
   rfl
 ·have e1:sName (.good l.tail)=(⟨0,⟨#[]⟩,0,0⟩,.bad (hd l.tail).pos 2):=by unfold sName;simp only [h1];rfl
  rw [e1] at hr
  subst hr
  subst hq
  simp only [h1]
  refine ⟨fun p l' h=>(by cases h),fun a' e' h=>?_⟩
  injection h with h1 h2
  subst h1
  subst h2
  rfl
theorem rpred_all (f:Nat) (l:List Tok) (w:World) (B:Nat) (hneed:7+20 * l.length≤f+1) (hm:l.length≤1000000) (hw:((wrd l).toList == [112,114,101,100])=true) (hS:PrS w B (.good l)) :
  Calls Tryd.prog 28 #[.pointer (some ⟨B,0,none⟩)] w (PostP B w (pPred (f+1) l))∧∀ p l',pPred (f+1) l=.ok p l'→l'.length+1≤l.length:=by
 obtain ⟨n,hn⟩:∃ n,sName (.good l.tail)=n:=⟨_,rfl⟩
 obtain ⟨r,hr⟩:∃ r,sPar (f+1) (sMust [40] n.2)=r:=⟨_,rfl⟩
 obtain ⟨q,hq⟩:∃ q,sForm (f+1) (sMust [61] r.st)=q:=⟨_,rfl⟩
 have hparts:=pred_parts (f+1) l n hn r hr q hq
 have htl:=tail_len (ne_of_wrd hw)
 have hl1:n.2.l.length≤l.tail.length:=by rw [← hn];exact sName_len (.good l.tail)
 have hl2:=sMust_len [40] n.2
 have hl3:r.st.l.length≤(sMust [40] n.2).l.length:=by rw [← hr];exact sPar_len _ _
 have hl4:=sMust_len [61] r.st
 have e40:(⟨#[40]⟩:ByteArray).toList=[40]:=by decide +kernel
 have e61:(⟨#[61]⟩:ByteArray).toList=[61]:=by decide +kernel
 have e59:(⟨#[59]⟩:ByteArray).toList=[59]:=by decide +kernel
 constructor
 ·have h:=rpred_of w B l n.1 n.2 (sMust [40] n.2) (sMust [61] r.st) (sMust [59] q.st) r q ((sMust [40] n.2).l.length+1) (word_kind (x:=⟨#[112,114,101,100]⟩) (by rw [show (⟨#[112,114,101,100]⟩:ByteArray).toList=[112,114,101,100] from by decide +kernel];exact hw) (by decide +kernel)) hS
   (fun W h=>by have:=rnameP_any (.good l.tail) W B h;rw [hn] at this;exact this)
   (fun W h=>by have:=rmust_any ⟨#[40]⟩ (by decide +kernel) n.2 W B h;rw [e40] at this;exact this)
   (fun W h=>by have:=rpar_any f (sMust [40] n.2) W B (by omega) (by omega) h;rw [hr] at this;exact this)
   (fun W h=>by have:=rmust_any ⟨#[61]⟩ (by decide +kernel) r.st W B h;rw [e61] at this;exact this)
   (fun W h=>by have:=rform_any (f+1) (sMust [61] r.st) W B (by omega) h;rw [hq] at this;exact this)
   (fun W h=>by have:=rmust_any ⟨#[59]⟩ (by decide +kernel) q.st W B h;rw [e59] at this;exact this)
  refine h.mono ?_
  rintro e w' ⟨P,he,hk,hs,hok⟩
  refine ⟨P,he,hk,?_⟩
  cases hp:pPred (f+1) l with
  | ok p l' =>
   obtain ⟨h1,ds,l1,m,l2,h2,h3,h4⟩:=hparts.1 p l' hp
   rw [h1] at hs
   obtain ⟨h5,h6⟩:=hok ds l1 m l2 h2 h3
   exact ⟨hs,h5,by rw [h6,h4]⟩
  | bad a e =>
   have h1:=hparts.2 a e hp
   rw [h1] at hs
   exact hs
 ·intro p l' hp
  obtain ⟨h1,ds,l1,m,l2,h2,h3,h4⟩:=hparts.1 p l' hp
  have h5:=sMust_len [59] q.st
  rw [h1] at h5
  have h6:q.st.l.length≤(sMust [61] r.st).l.length:=by
   rw [← hq]
   cases hz:sMust [61] r.st with
   | bad a e=>exact Nat.le_refl _
   | good lz =>
    show (pForm (f+1) 0 lz).st.l.length≤lz.length
    cases hy:pForm (f+1) 0 lz with
    | ok n2 l3=>exact form_len hy
    | bad a e=>exact Nat.zero_le _
  have h7:(St.good l').l.length=l'.length:=rfl
  omega
theorem toks_good {s:ByteArray} {l:List Tok} {at':Int} (h:toks s=(l,at',0)):EndsOk l∧at'=s.size:=by
 unfold toks at h
 split at h
 ·split at h
  ·cases h
  ·split at h
   ·have e1:=congrArg Prod.fst h
    have e2:=congrArg (fun x=>x.2.1) h
    simp only [] at e1 e2
    refine ⟨fun t ht=>?_,e2.symm⟩
    rw [← e1,List.getLast?_concat] at ht
    cases ht
    rfl
   ·cases h
 ·cases h
theorem ret_parse {f:Func} {i j k:Tmp} {R:Ending→World→Prop} {a:Act} {w:World} {Z:Nat} (da:Option Addr) (dlen dc:Nat) (pa:Option Addr) (pl pc:Nat) (op name:ByteArray) (n pos:Int) (b:Option Addr) (kl cap:Nat) (hf:f.results=#[.cell i 28,.tmp j,.tmp k]) (hs:a.tmps.getD i undef=.pointer (some ⟨Z,0,none⟩)) (hd:a.defers=[]) (h:w.heap[Z]? = some (pgBox da dlen dc pa pl pc op name n pos b kl cap))
  (hR:R (.returned (.tuple #[.agg (pgCells da dlen dc pa pl pc op name n pos b kl cap),a.tmps.getD j undef,a.tmps.getD k undef])) w):bodyPost Tryd.prog f R .ret a w:=by
 refine bodyPost_ret (v:=.tuple #[.agg (pgCells da dlen dc pa pl pc op name n pos b kl cap),a.tmps.getD j undef,a.tmps.getD k undef]) ?_ hd hR
 have hs':a.tmps[i]?.getD undef=.pointer (some ⟨Z,0,none⟩):=by simpa using hs
 simp [results,hf,hs',asAddr,run_loadVar_row w Z _ _ (pgCells da dlen dc pa pl pc op name n pos b kl cap) _ _ h Tryd.underlying28 rfl infoProg]
theorem toks_in {w:World} {b:Nat} {v:Value} {l:List Tok} (h:w.ownsRow b 73 4 v l.length (flatT l)):∃ a cap,v=.slice a l.length cap∧l.length≤cap∧cap≤9223372036854775807∧ToksIn w w.heap.size a l:=by
 rcases h.2 with ⟨rfl,h0⟩ | ⟨g,cap,cur,rfl,hb,hg,hle,hmax,_⟩
 ·exact ⟨none,0,by rw [h0],by omega,by omega,.inl (List.eq_nil_of_length_eq_zero h0)⟩
 ·refine ⟨some ⟨g,0,none⟩,cap,rfl,hle,hmax,.inr ⟨g,0,rfl,lt_heap hg,fun i t hi=>?_⟩⟩
  obtain ⟨hil,rfl⟩:=List.getElem?_eq_some_iff.1 hi
  obtain ⟨g0,g1,g2,g3⟩:=flatT_get l i hil
  rw [Nat.zero_add]
  exact ⟨(h.cellAt (i * 4) (by omega)).trans g0,(h.cellAt (i * 4+1) (by omega)).trans g1,(h.cellAt (i * 4+2) (by omega)).trans g2,(h.cellAt (i * 4+3) (by omega)).trans g3⟩
theorem below_set {w0 w:World} (h:Below w0.heap.size w0 w) (i:Nat) (v:Value):Below w0.heap.size w0 (w.setCell ⟨w0.heap.size,i,none⟩ v):=h.setCell (Nat.le_refl _) v
theorem lexL_len (s:ByteArray) (e:Int):∀ (L:RL) (b:Int),(lexL s e L b).1.length≤L.length:=by
 intro L
 induction L with
 | nil=>intro b;exact Nat.le_refl _
 | cons q L ih =>
  intro b
  unfold lexL
  split
  ·exact Nat.le_succ_of_le (ih b)
  ·split
   ·exact Nat.zero_le _
   ·rename_i t k _
    have h:=ih (posOf e ((q :: L).drop k))
    have ht:t.toList.length≤1:=by cases t <;> simp
    simp only [List.length_append,List.length_cons]
    omega
end Go.Proofs.YtmlmjopfbohglaaDoor
