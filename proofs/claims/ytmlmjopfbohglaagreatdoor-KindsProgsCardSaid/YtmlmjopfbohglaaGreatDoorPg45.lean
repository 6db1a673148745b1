/- Parts of the proof: KY. -/
import Derived.Test.YtmlmjopfbohglaaGreatDoorPg44
import Derived.Test.YtmlmjopfbohglaaGreatDoorPg38
import Derived.Deep.AppendLies
namespace Go.Proofs.YtmlmjopfbohglaaGreatDoor
open Go.RowKit
open Go.Maps
theorem flatD_cells {w:World} {b o:Nat} {l:List Dc} (h:∀ i d,l[i]? = some d→DcAt w b (o+i * 3) d):∀ j u,(flatD l)[j]? = some u→w.cell? ((⟨b,o,none⟩:Addr).add j)=some u:=by
 intro j u hj
 rw [show (⟨b,o,none⟩:Addr).add j=⟨b,o+j,none⟩ from by unfold Addr.add;split <;> simp_all]
 have hlt:j < (flatD l).length:=(List.getElem?_eq_some_iff.1 hj).1
 rw [flatD_len] at hlt
 have hi:j / 3 < l.length:=by omega
 have hd:=List.getElem?_eq_getElem hi
 obtain ⟨g0,g1,g2⟩:=flatD_get l (j / 3) _ hd
 obtain ⟨c0,c1,c2⟩:=h (j / 3) _ hd
 have hm:j % 3=0∨j % 3=1∨j % 3=2:=by omega
 rcases hm with hm | hm | hm
 ·rw [show j=j / 3 * 3 by omega,g0] at hj
  cases hj
  rw [show o+j=o+j / 3 * 3 by omega]
  exact c0
 ·rw [show j=j / 3 * 3+1 by omega,g1] at hj
  cases hj
  rw [show o+j=o+j / 3 * 3+1 by omega]
  exact c1
 ·rw [show j=j / 3 * 3+2 by omega,g2] at hj
  cases hj
  rw [show o+j=o+j / 3 * 3+2 by omega]
  exact c2
theorem run_append_zero {P:Program} (w:World) (t ty e:TypeId) (i:TypeInfo) (ht:P.underlying t=some (.slice e)) (hi:P.info? e=some i) (base:Option Addr) (n cap:Nat) (hn:n≤cap) (aO:Option Addr) (c:Nat) :
  (Builtin.append_ #[t,t] ty #[.slice base n cap,.slice aO 0 c]).run P w=.ok (.slice base n cap) w:=by
 cases base <;> cases aO <;> simp [Builtin.append_,run_underlying ht,sizeOf,typeInfo,hi,Builtin.lenOf,Builtin.firstCells,loadCells,loadCellsFrom,storeCells,hn]
theorem run_append_dcs {P:Program} (w:World) (base:Nat) (t ty e:TypeId) (i:TypeInfo) (z:Value) (size bytes:Nat) (ht:P.underlying t=some (.slice e)) (hi:P.info? e=some i) (hz:i.zero=some z)
  (hsize:i.size=size) (hby:i.bytes=bytes) (hzs:z.cells.size=size) (hsz:0 < size)
  (v:Value) (n:Nat) (xs:List Value) (hown:w.ownsRow base e size v n xs)
  (aO:Option Addr) (m c:Nat) (news:List Value) (hl:news.length=m * size) (hnews:m=0∨∃ ad,aO=some ad∧∀ j u,news[j]? = some u→w.cell? (ad.add j)=some u) (h1:∀ u ∈ news,u.oneCell'=true)
  (h63:n+m≤maxLen) (hbytes:(n+m) * bytes≤140737488355328) (hbase:base≤w.heap.size) :
  ∃ v' w',(Builtin.append_ #[t,t] ty #[v,.slice aO m c]).run P w=.ok v' w'∧w'.ownsRow base e size v' (n+m) (xs ++ news)∧w.grownBy w' v.ownBlock∧(v'.ownBlock=v.ownBlock∨v'.ownBlock=some w.heap.size):=by
 rcases hnews with rfl | ⟨ad,rfl,hnews⟩
 ·have hn:news=[]:=List.eq_nil_of_length_eq_zero (by simpa using hl)
  subst hn
  refine ⟨v,w,?_,by simpa using hown,⟨rfl,rfl,rfl,Nat.le_refl _,fun _ _ _=>rfl⟩,.inl rfl⟩
  rcases hown.2 with ⟨rfl,rfl⟩ | ⟨g,cap,cur,rfl,_,_,hc,_⟩
  ·exact run_append_zero w t ty e i ht hi none 0 0 (Nat.le_refl _) aO c
  ·exact run_append_zero w t ty e i ht hi (some ⟨g,0,none⟩) n cap hc aO c
 ·obtain ⟨v',w',hr,h2,h3,_,h5⟩:=run_append_own_at (P:=P) w base t ty e i z size bytes ht hi hz hsize hby hzs hsz v n xs hown ad m c news hl hnews h1 h63 hbytes hbase
  exact ⟨v',w',hr,h2,h3,h5⟩
theorem step_append_dcs {P:Program} (w:World) {ops:Array Oper} {o:Oper} {a:Act} {K:Act→World→Prop} {Q:Exit→Act→World→Prop} {E:Prop} (hgd:o.guard=none) (s x:Operand) (t:TypeId)
  (ho:o.op=.call { callee:=.builtin .append,args:=#[s,x],argTypes:=#[t,t] })
  (base:Nat) (e:TypeId) (i:TypeInfo) (z:Value) (size bytes:Nat) (ht:P.underlying t=some (.slice e)) (hi:P.info? e=some i) (hz:i.zero=some z)
  (hsize:i.size=size) (hby:i.bytes=bytes) (hzs:z.cells.size=size) (hsz:0 < size)
  (v:Value) (n:Nat) (xs:List Value) (hs:a.eval s=v) (hown:w.ownsRow base e size v n xs)
  (aO:Option Addr) (m c:Nat) (news:List Value) (hx:a.eval x=.slice aO m c) (hl:news.length=m * size) (hnews:m=0∨∃ ad,aO=some ad∧∀ j u,news[j]? = some u→w.cell? (ad.add j)=some u) (h1:∀ u ∈ news,u.oneCell'=true)
  (h63:n+m≤maxLen) (hbytes:(n+m) * bytes≤140737488355328) (hbase:base≤w.heap.size)
  (h:∀ v' w',w'.ownsRow base e size v' (n+m) (xs ++ news)→w.grownBy w' v.ownBlock→(v'.ownBlock=v.ownBlock∨v'.ownBlock=some w.heap.size)→K (a.put o.dst v') w') :
  if Region.wanted o (yielded ops a.tmps)=true then Oper.wp P o a w K Q else E:=by
 obtain ⟨v',w',hr,h2,h3,h4⟩:=run_append_dcs (P:=P) w base t o.type e i z size bytes ht hi hz hsize hby hzs hsz v n xs hown aO m c news hl hnews h1 h63 hbytes hbase
 have hw:Region.wanted o (yielded ops a.tmps)=true:=by simp [Region.wanted,hgd]
 rw [if_pos hw]
 unfold Oper.wp execOp
 simp only [ho,resolve,invoke,builtin,Sem.run_bind,Sem.run_pure,Result.andThen_ok,List.map_toArray,List.map_cons,List.map_nil,hs,hx,hr]
 exact h v' w' h2 h3 h4
theorem below_gr {w a b:World} {row:Option Nat} (h:Below w.heap.size w a) (k:a.grownBy b row) (hB:∀ j,row=some j→w.heap.size≤j):Below w.heap.size w b:=by
 exact h.trans ⟨k.os,k.tape,k.output,k.size,fun i hi=>k.block i (Nat.lt_of_lt_of_le hi h.size) (fun e=>by have:=hB i e.symm;omega)⟩
theorem below_al {w W:World} (h:Below w.heap.size w W) (o:Obj):Below w.heap.size w (W.alloc o):=h.alloc h.size o
theorem own_new {base k:Nat} {t:TypeId} {W:World} (hk:W.heap.size=k) (hb:base≤k):(W.alloc (.cells #[] t)).ownsRow base t 3 (.slice (some ⟨k,0,none⟩) 0 0) 0 []:=by
 subst hk
 exact World.ownsRow_lit W #[] 0 hb (by unfold maxLen;omega) rfl
theorem own_al {base n:Nat} {t:TypeId} {W:World} {v:Value} {xs:List Value} (h:W.ownsRow base t 3 v n xs) (o:Obj):(W.alloc o).ownsRow base t 3 v n xs:=by
 refine ⟨h.1,?_⟩
 rcases h.2 with h2 | ⟨g,cap,cur,h1,h2,h3,h4⟩
 ·exact .inl h2
 ·exact .inr ⟨g,cap,cur,h1,h2,(Below.heap_alloc _ _ _ (lt_heap h3)).trans h3,h4⟩
theorem at_new {k:Nat} {W:World} {o:Obj} (hk:W.heap.size=k):(W.alloc o).heap[k]? = some o:=by
 subst hk
 exact new_at W o
theorem at_al {k:Nat} {W:World} {o o2:Obj} (h:W.heap[k]? = some o):(W.alloc o2).heap[k]? = some o:=(Below.heap_alloc _ _ _ (lt_heap h)).trans h
theorem news3 {w:World} {k:Nat} {a b c:Value} {t:TypeId} (h:w.heap[k]? = some (.cells #[a,b,c] t)):∀ j u,[a,b,c][j]? = some u→w.cell? ((⟨k,0,none⟩:Addr).add j)=some u:=by
 intro j u hj
 rw [show (⟨k,0,none⟩:Addr).add j=⟨k,0+j,none⟩ from by unfold Addr.add;split <;> simp_all,cell_of_row _ _ _ _ _ _ h,Nat.zero_add]
 simpa using hj
theorem one3 (a:ByteArray) (b c:Int):∀ u ∈ [Value.string a,.int .i64 b,.int .i64 c],u.oneCell'=true:=by
 intro u h
 simp at h
 rcases h with rfl | rfl | rfl <;> rfl
theorem step_append_n {P:Program} (w:World) {ops:Array Oper} {o:Oper} {a:Act} {K:Act→World→Prop} {Q:Exit→Act→World→Prop} {E:Prop} (hgd:o.guard=none) (s x:Operand) (t:TypeId)
  (ho:o.op=.call { callee:=.builtin .append,args:=#[s,x],argTypes:=#[t,t] })
  (base:Nat) (e:TypeId) (i:TypeInfo) (z:Value) (size bytes:Nat) (ht:P.underlying t=some (.slice e)) (hi:P.info? e=some i) (hz:i.zero=some z)
  (hsize:i.size=size) (hby:i.bytes=bytes) (hzs:z.cells.size=size) (hsz:0 < size)
  (v:Value) (n:Nat) (xs:List Value) (hs:a.eval s=v) (hown:w.ownsRow base e size v n xs)
  (ad:Addr) (m c:Nat) (news:List Value) (hx:a.eval x=.slice (some ad) m c) (hl:news.length=m * size) (hnews:∀ j u,news[j]? = some u→w.cell? (ad.add j)=some u) (h1:∀ u ∈ news,u.oneCell'=true)
  (hm:0 < m) (h63:n+m≤maxLen) (hbytes:(n+m) * bytes≤140737488355328) (hbase:base≤w.heap.size) (N:Nat) (hN:n+m=N)
  (h:∀ g cap w',w'.ownsRow base e size (.slice (some ⟨g,0,none⟩) N cap) N (xs ++ news)→w.grownBy w' v.ownBlock→(v.ownBlock=some g∨g=w.heap.size)→g < w'.heap.size→K (a.put o.dst (.slice (some ⟨g,0,none⟩) N cap)) w') :
  if Region.wanted o (yielded ops a.tmps)=true then Oper.wp P o a w K Q else E:=by
 subst hN
 exact step_append_lies w hgd s x t ho base e i z size bytes ht hi hz hsize hby hzs hsz v n xs hs hown ad m c news hx hl hnews h1 hm h63 hbytes hbase _ rfl h
set_option maxRecDepth 100000 in
set_option maxHeartbeats 16000000 in
theorem rform_ex (op name:ByteArray) (n pos:Int) (a:Option Addr) (cap:Nat) (kids:Fo) (w:World) (ps:List Pd) (pa:Option Addr) (pc:Nat) (ds:List Dc) (da:Option Addr) (dc:Nat) (hp:PdRows w pa ps) (hpd:∀ p ∈ ps,DcsIn w p.pa p.params) (hd:DcsIn w da ds) (hin:KidsIn w a kids) (hs1:name.size≤140737488351232) (hsz:kids.sized) (hok:kids.allB Nd.okF=true) (hk:Fo.All (SayRf ps pa pc) kids) (hm:ds.length+1+kids.size≤1000000) (h0:(op.toList == [105,115])=false) (h1:(op.toList == [101,113])=false) (h2:(op.toList == [110,101])=false) (h3:(op.toList == [108,116])=false) (h4:(op.toList == [108,101])=false) (h5:(op.toList == [105,110])=false) (h6:(op.toList == [110,111,116,105,110])=false) (h7:(op.toList == [115,117,98])=false) (h8:(op.toList == [99,97,108,108])=false) (h9:(op.toList == [101,120])=true) :
  Calls Tryz.prog 60 #[.slice pa ps.length pc,.slice da ds.length dc,.agg #[.string op,.string name,.int .i64 n,.int .i64 pos,.slice a kids.len cap]] w fun e w'=>e=.returned (.tuple #[.int .i64 (kids.fs (predsK ps) (updO (ordD ds) name n)).1,.int .i64 (kids.fs (predsK ps) (updO (ordD ds) name n)).2])∧Below w.heap.size w w':=by
 have hc5:=cellsNode
 have hc3:=cellsDecl
 have HW:=Lib.hid (below_box w (boxOf op name n pos a kids.len cap))
 have HB:=Lib.hid (new_at w (boxOf op name n pos a kids.len cap))
 obtain ⟨b0,b1,b2,b3,b4⟩:=box_cells HB.out
 have HP:=Lib.hid hp
 have HPD:=Lib.hid hpd
 have HD:=Lib.hid hd
 have HSZ:=Lib.hid hsz
 have HOK:=Lib.hid hok
 obtain ⟨q0,hq0⟩:∃ q0,q0=kids.fs (predsK ps) (updO (ordD ds) name n):=⟨_,rfl⟩
 rw [← hq0]
 rw [← ordD_snoc ds ⟨name,n,0⟩] at hq0
 have HQ:=Lib.hid hq0
 clear hp hpd hd hsz hok hq0
 obtain ⟨i0,hi,hz0,hz1,hz2⟩:=info_parts Tryz.infoDeclR
 have HNW:=Lib.hid (show ∀ W,Below w.heap.size w W→(ds.length=0∨∃ ad,da=some ad∧∀ j u,(flatD ds)[j]? = some u→W.cell? (ad.add j)=some u) from fun W hW=>by
  rcases HD.out with h | ⟨b,o,h1,_,h3,_⟩
  ·exact .inl (by rw [h];rfl)
  ·exact .inr ⟨_,h1,flatD_cells fun i d hd=>(h3 i d hd).below hW⟩)
 have HNS:=Lib.hid (show ∀ d ∈ ds ++ [⟨name,n,0⟩],d.name.size≤140737488351232 from fun d hd=>by
  rw [List.mem_append,List.mem_singleton] at hd
  rcases hd with hd | rfl
  ·rcases HD.out with h | ⟨_,_,_,_,_,h4⟩
   ·rw [h] at hd;cases hd
   ·exact h4 d hd
  ·exact hs1)
 have hm1:0+ds.length≤maxLen:=by unfold maxLen;omega
 have hm2:(0+ds.length) * 32≤140737488355328:=by omega
 have hm3:0+ds.length+1≤maxLen:=by unfold maxLen;omega
 have hm4:(0+ds.length+1) * 32≤140737488355328:=by omega
 have HIN:=Lib.hid hin
 have HK:=Lib.hid hk
 clear hin hk
 go_enter Tryz.func60,Tryz.ntmps60
 go_wp2_with fail
 go_region_held3 (fun wz=>wz.cell? ⟨w.heap.size,1,none⟩=some (.string name)∧wz.cell? ⟨w.heap.size,2,none⟩=some (.int .i64 n)) (first | go_keep | exact ⟨cell_below hkb1.out b1,cell_below hkb1.out b2⟩ | exact ⟨cell_below (below_al hkb1.out _) b1,cell_below (below_al hkb1.out _) b2⟩ | exact ⟨cell_below hkb2.out b1,cell_below hkb2.out b2⟩) (first | (refine step_append_dcs _ (by rfl) _ _ _ (by rfl) (w.heap.size+1) 120 i0 (.agg #[.string ⟨#[]⟩,.int .i64 0,.int .i64 0]) 3 32 Tryz.underlying22 hi hz0 hz1 hz2 (by rfl) (by decide) (.slice (some ⟨w.heap.size+1,0,none⟩) 0 0) 0 [] (by rfl) (by first | exact own_new (by simp) (by omega) | exact own_al (own_new (by simp) (by omega)) _) da ds.length dc (flatD ds) (by rfl) (flatD_len ds) (HNW.out _ (by repeat (with_reducible first | exact HW.out | refine Below.drew ?_ | refine below_al ?_ _))) (flatD_one ds) hm1 hm2 (by first | (simp;done) | (simp;omega)) ?_;intro v1 w1 hown1 hgrow1 hat1;have hkb1:=Lib.hid (below_gr (w:=w.alloc (boxOf op name n pos a kids.len cap)) (by repeat (with_reducible first | exact Below.refl _ _ | refine Below.drew ?_ | refine below_al ?_ _)) hgrow1 (by intro j hj;simp [Value.ownBlock] at hj;simp;omega))) | (refine step_append_dcs _ (by rfl) _ _ _ (by rfl) (w.heap.size+1) 120 i0 (.agg #[.string ⟨#[]⟩,.int .i64 0,.int .i64 0]) 3 32 Tryz.underlying22 hi hz0 hz1 hz2 (by rfl) (by decide) (.slice (some ⟨w.heap.size+2,0,none⟩) 0 0) 0 [] (by rfl) (by first | exact own_new (by simp) (by omega) | exact own_al (own_new (by simp) (by omega)) _) da ds.length dc (flatD ds) (by rfl) (flatD_len ds) (HNW.out _ (by repeat (with_reducible first | exact HW.out | refine Below.drew ?_ | refine below_al ?_ _))) (flatD_one ds) hm1 hm2 (by first | (simp;done) | (simp;omega)) ?_;intro v1 w1 hown1 hgrow1 hat1;have hkb1:=Lib.hid (below_gr (w:=w.alloc (boxOf op name n pos a kids.len cap)) (by repeat (with_reducible first | exact Below.refl _ _ | refine Below.drew ?_ | refine below_al ?_ _)) hgrow1 (by intro j hj;simp [Value.ownBlock] at hj;simp;omega))) | (refine step_append_n _ (by rfl) _ _ _ (by rfl) (w.heap.size+1) 120 i0 (.agg #[.string ⟨#[]⟩,.int .i64 0,.int .i64 0]) 3 32 Tryz.underlying22 hi hz0 hz1 hz2 (by rfl) (by decide) v1 (0+ds.length) ([] ++ flatD ds) (by rfl) (by first | exact hown1 | exact own_al hown1 _) ⟨w1.heap.size,0,none⟩ 1 1 [.string name,.int .i64 n,.int .i64 0] (by rfl) (by rfl) (by exact news3 (at_new rfl)) (one3 _ _ _) (by decide) hm3 hm4 (by have:=hgrow1.size;simp at this ⊢;omega) (ds.length+1) (by omega) ?_;intro g gcap w2 hown2 hgrow2 hat2 hlt2;have hkb2:=Lib.hid (below_gr (w:=w.alloc (boxOf op name n pos a kids.len cap)) (by first | exact hkb1.out | exact below_al hkb1.out _) hgrow2 (by intro j hj;have hs:=hgrow1.size;rcases hat1 with h | h <;> (rw [h] at hj;simp [Value.ownBlock] at hj;simp;omega)))) | (refine step_append_n _ (by rfl) _ _ _ (by rfl) (w.heap.size+1) 120 i0 (.agg #[.string ⟨#[]⟩,.int .i64 0,.int .i64 0]) 3 32 Tryz.underlying22 hi hz0 hz1 hz2 (by rfl) (by decide) v1 (0+ds.length) ([] ++ flatD ds) (by rfl) (by first | exact hown1 | exact own_al hown1 _) ⟨w.heap.size+2,0,none⟩ 1 1 [.string name,.int .i64 n,.int .i64 0] (by rfl) (by rfl) (by exact news3 ((hgrow1.block _ (by simp) (by simp [Value.ownBlock])).trans (at_new (by simp)))) (one3 _ _ _) (by decide) hm3 hm4 (by have:=hgrow1.size;simp at this ⊢;omega) (ds.length+1) (by omega) ?_;intro g gcap w2 hown2 hgrow2 hat2 hlt2;have hkb2:=Lib.hid (below_gr (w:=w.alloc (boxOf op name n pos a kids.len cap)) (by first | exact hkb1.out | exact below_al hkb1.out _) hgrow2 (by intro j hj;have hs:=hgrow1.size;rcases hat1 with h | h <;> (rw [h] at hj;simp [Value.ownBlock] at hj;simp;omega)))) | (refine step_append_n _ (by rfl) _ _ _ (by rfl) (w.heap.size+1) 120 i0 (.agg #[.string ⟨#[]⟩,.int .i64 0,.int .i64 0]) 3 32 Tryz.underlying22 hi hz0 hz1 hz2 (by rfl) (by decide) v1 (0+ds.length) ([] ++ flatD ds) (by rfl) (by first | exact hown1 | exact own_al hown1 _) ⟨w.heap.size+1,0,none⟩ 1 1 [.string name,.int .i64 n,.int .i64 0] (by rfl) (by rfl) (by exact news3 ((hgrow1.block _ (by simp) (by simp [Value.ownBlock])).trans (at_al (at_new (by simp))))) (one3 _ _ _) (by decide) hm3 hm4 (by have:=hgrow1.size;simp at this ⊢;omega) (ds.length+1) (by omega) ?_;intro g gcap w2 hown2 hgrow2 hat2 hlt2;have hkb2:=Lib.hid (below_gr (w:=w.alloc (boxOf op name n pos a kids.len cap)) (by first | exact hkb1.out | exact below_al hkb1.out _) hgrow2 (by intro j hj;have hs:=hgrow1.size;rcases hat1 with h | h <;> (rw [h] at hj;simp [Value.ownBlock] at hj;simp;omega)))))
 all_goals
  have HW2:=Lib.hid (HW.out.trans (hkb2.out.mono (by simp)))
  have HB2:=Lib.hid ((hkb2.out.block _ (by simp)).trans HB.out)
  have HD2:RowKit.Hid (DcsIn w2 (some ⟨g,0,none⟩) (ds ++ [⟨name,n,0⟩])):=Lib.hid (by
   have h:=hown2
   rw [show ([] ++ flatD ds ++ [Value.string name,.int .i64 n,.int .i64 0])=flatD (ds ++ [(⟨name,n,0⟩:Dc)]) from by rw [flatD_append];rfl,show ds.length+1=(ds ++ [(⟨name,n,0⟩:Dc)]).length from by simp] at h
   exact (dcs_own h).in (by simp;omega) HNS.out)
  clear hown1 hgrow1 hat1 hkb1 hown2 hgrow2 hat2 hlt2 hkb2 HNW HNS hm1 hm2 hm3 hm4 hi hz0 hz1 hz2
  clear HD
  rcases HIN.out with hnil | ⟨kb,ko,hab,hlim,hpos,hkin⟩
  ·subst hnil
   have hz0:((Fo.nil.len:Nat):Int)=0:=rfl
   have hz:q0=(0,0):=HQ.out
   subst hz
   clear hm HIN HK
   go_wp2_with fail
   go_loopw [9] (fun i wr=>i=.int .i64 0∧RowKit.Hid (wr.heap[w.heap.size]? = some (boxOf op name n pos a Fo.nil.len cap))∧Below w.heap.size w wr) (fun _ _=>0)
   case atStart=>exact ⟨rfl,HB2,HW2.out⟩
   case round =>
    obtain ⟨rfl,HX,hbx⟩:=hrel
    clear b0 b1 b2 b3 b4
    obtain ⟨b0,b1,b2,b3,b4⟩:=box_cells HX.out
    go_wp2_with fail
    go_ret2
    exact ⟨rfl,hbx⟩
  ·subst hab
   have HST:=Lib.hid (Tail.start (hkin.below HW2.out) HK.out)
   clear hkin hpos HK HIN
   go_wp2_with fail
   go_loopw [9] (fun i wr=>∃ (k:Nat) (R:Fo),i=.int .i64 k∧RowKit.Hid (Tail wr (SayRf ps pa pc) kids R kb ko k)∧RowKit.Hid (q0=R.fs (predsK ps) (ordD (ds ++ [⟨name,n,0⟩])))∧RowKit.Hid (R.allB Nd.okF=true)∧RowKit.Hid R.sized∧RowKit.Hid (wr.heap[w.heap.size]? = some (boxOf op name n pos (some ⟨kb,ko,none⟩) kids.len cap))∧RowKit.Hid (DcsIn wr (some ⟨g,0,none⟩) (ds ++ [⟨name,n,0⟩]))∧Below w.heap.size w wr∧ds.length+1+R.size≤1000000) (fun i _=>kids.len - (intOf i).toNat)
   case atStart=>exact ⟨0,kids,rfl,HST,HQ,HOK,HSZ,HB2,HD2,HW2.out,hm⟩
   case round =>
    obtain ⟨k,R,rfl,HTL,HAL,HKO,HRS,HX,HDX,hbx,hmR⟩:=hrel
    clear HST HQ HB2 HW2 HD2 HW HB b0 b1 b2 b3 b4 hm
    obtain ⟨b0,b1,b2,b3,b4⟩:=box_cells HX.out
    cases R with
    | nil =>
     have hkl:k=kids.len:=by have:=HTL.out.len;simpa [Fo.len] using this
     subst hkl
     have hz:q0=(0,0):=HAL.out
     subst hz
     go_wp2_with fail
     go_ret2
     exact ⟨rfl,hbx⟩
    | cons op1 name1 n1 pos1 a1 cap1 kids1 rest =>
     obtain ⟨hnode,hin1,hP,hkl,hnext⟩:=HTL.out.next
     have hkl2:(k:Int) < kids.len:=by omega
     have hkl0:(0:Int)≤k:=by omega
     obtain ⟨c0,c1,c2,c3,c4⟩:=hnode
     have HN1:=Lib.hid hnext
     have hsz1:Fo.size (.cons op1 name1 n1 pos1 a1 cap1 kids1 rest)=kids1.size+1+rest.size:=rfl
     have hsz2:Nd.size ⟨op1,name1,n1,pos1,a1,cap1,kids1⟩=kids1.size+1:=rfl
     have hok2:(Nd.okF ⟨op1,name1,n1,pos1,a1,cap1,kids1⟩ && rest.allB Nd.okF)=true:=HKO.out
     rw [Bool.and_eq_true] at hok2
     have hcall:=hP wr (ds ++ [⟨name,n,0⟩]) (some ⟨g,0,none⟩) gcap (HP.out.below hbx) (fun p h=>(HPD.out p h).below hbx) HDX.out hin1 ⟨HRS.out.1,HRS.out.2.1⟩ hok2.1 (by rw [List.length_append,List.length_singleton];omega)
     rw [Nd.val_def] at hcall
     have hal:q0=(if (Nd.fk (predsK ps) (ordD (ds ++ [⟨name,n,0⟩])) ⟨op1,name1,n1,pos1,a1,cap1,kids1⟩).2=0 then rest.fs (predsK ps) (ordD (ds ++ [⟨name,n,0⟩])) else Nd.fk (predsK ps) (ordD (ds ++ [⟨name,n,0⟩])) ⟨op1,name1,n1,pos1,a1,cap1,kids1⟩):=HAL.out
     generalize Nd.fk (predsK ps) (ordD (ds ++ [⟨name,n,0⟩])) ⟨op1,name1,n1,pos1,a1,cap1,kids1⟩=q at hcall hal
     obtain ⟨qp,qe⟩:=q
     simp only [List.length_append,List.length_singleton] at hcall hal
     have HCL:=Lib.hid hcall
     have HR2:=Lib.hid HRS.out.2.2
     have HK2:=Lib.hid hok2.2
     have hmr:ds.length+1+rest.size≤1000000:=by omega
     clear hnext hin1 hP hcall HTL hok2 HAL
     by_cases he:qe=0
     ·have HA2:=Lib.hid (show q0=rest.fs (predsK ps) (ordD (ds ++ [⟨name,n,0⟩])) from by rw [hal,if_pos he])
      clear hal
      subst he
      go_wp2_with fail
      refine HCL.out.mono ?_
      rintro e w3 ⟨rfl,hb3⟩
      have hbx2:=hbx.trans (hb3.mono hbx.size)
      have HX2:=Lib.hid ((hb3.block _ (lt_heap HX.out)).trans HX.out)
      have HN2:=Lib.hid (HN1.out.below hb3)
      have HD3:=Lib.hid (HDX.out.below hb3)
      clear hb3 HN1 HX HCL HDX b0 b1 b2 b3 b4 c0 c1 c2 c3 c4
      go_wp2_with fail
      go_roundw
      case rel=>exact ⟨k+1,rest,by go_num,HN2,HA2,HK2,HR2,HX2,HD3,hbx2,hmr⟩
      case measure=>(try simp [intOf]);omega
     ·have hz:q0=(qp,qe):=by rw [hal,if_neg he]
      have heb:(qe != 0)=true:=by simp [he]
      clear hal he
      subst hz
      go_wp2_with fail
      refine HCL.out.mono ?_
      rintro e w3 ⟨rfl,hb3⟩
      have hbx2:=hbx.trans (hb3.mono hbx.size)
      clear hb3 HN1 HX HCL b0 b1 b2 b3 b4 c0 c1 c2 c3 c4
      go_wp2_with fail
      go_ret2
      exact ⟨rfl,hbx2⟩
set_option maxRecDepth 100000 in
set_option maxHeartbeats 16000000 in
theorem rform_all (op name:ByteArray) (n pos:Int) (a:Option Addr) (cap:Nat) (kids:Fo) (w:World) (ps:List Pd) (pa:Option Addr) (pc:Nat) (ds:List Dc) (da:Option Addr) (dc:Nat) (hp:PdRows w pa ps) (hpd:∀ p ∈ ps,DcsIn w p.pa p.params) (hd:DcsIn w da ds) (hin:KidsIn w a kids) (hs1:name.size≤140737488351232) (hsz:kids.sized) (hok:kids.allB Nd.okF=true) (hk:Fo.All (SayRf ps pa pc) kids) (hm:ds.length+1+kids.size≤1000000) (h0:(op.toList == [105,115])=false) (h1:(op.toList == [101,113])=false) (h2:(op.toList == [110,101])=false) (h3:(op.toList == [108,116])=false) (h4:(op.toList == [108,101])=false) (h5:(op.toList == [105,110])=false) (h6:(op.toList == [110,111,116,105,110])=false) (h7:(op.toList == [115,117,98])=false) (h8:(op.toList == [99,97,108,108])=false) (h9:(op.toList == [101,120])=false) (h10:(op.toList == [97,108,108])=true) :
  Calls Tryz.prog 60 #[.slice pa ps.length pc,.slice da ds.length dc,.agg #[.string op,.string name,.int .i64 n,.int .i64 pos,.slice a kids.len cap]] w fun e w'=>e=.returned (.tuple #[.int .i64 (kids.fs (predsK ps) (updO (ordD ds) name n)).1,.int .i64 (kids.fs (predsK ps) (updO (ordD ds) name n)).2])∧Below w.heap.size w w':=by
 have hc5:=cellsNode
 have hc3:=cellsDecl
 have HW:=Lib.hid (below_box w (boxOf op name n pos a kids.len cap))
 have HB:=Lib.hid (new_at w (boxOf op name n pos a kids.len cap))
 obtain ⟨b0,b1,b2,b3,b4⟩:=box_cells HB.out
 have HP:=Lib.hid hp
 have HPD:=Lib.hid hpd
 have HD:=Lib.hid hd
 have HSZ:=Lib.hid hsz
 have HOK:=Lib.hid hok
 obtain ⟨q0,hq0⟩:∃ q0,q0=kids.fs (predsK ps) (updO (ordD ds) name n):=⟨_,rfl⟩
 rw [← hq0]
 rw [← ordD_snoc ds ⟨name,n,0⟩] at hq0
 have HQ:=Lib.hid hq0
 clear hp hpd hd hsz hok hq0
 obtain ⟨i0,hi,hz0,hz1,hz2⟩:=info_parts Tryz.infoDeclR
 have HNW:=Lib.hid (show ∀ W,Below w.heap.size w W→(ds.length=0∨∃ ad,da=some ad∧∀ j u,(flatD ds)[j]? = some u→W.cell? (ad.add j)=some u) from fun W hW=>by
  rcases HD.out with h | ⟨b,o,h1,_,h3,_⟩
  ·exact .inl (by rw [h];rfl)
  ·exact .inr ⟨_,h1,flatD_cells fun i d hd=>(h3 i d hd).below hW⟩)
 have HNS:=Lib.hid (show ∀ d ∈ ds ++ [⟨name,n,0⟩],d.name.size≤140737488351232 from fun d hd=>by
  rw [List.mem_append,List.mem_singleton] at hd
  rcases hd with hd | rfl
  ·rcases HD.out with h | ⟨_,_,_,_,_,h4⟩
   ·rw [h] at hd;cases hd
   ·exact h4 d hd
  ·exact hs1)
 have hm1:0+ds.length≤maxLen:=by unfold maxLen;omega
 have hm2:(0+ds.length) * 32≤140737488355328:=by omega
 have hm3:0+ds.length+1≤maxLen:=by unfold maxLen;omega
 have hm4:(0+ds.length+1) * 32≤140737488355328:=by omega
 have HIN:=Lib.hid hin
 have HK:=Lib.hid hk
 clear hin hk
 go_enter Tryz.func60,Tryz.ntmps60
 go_wp2_with fail
 go_region_held3 (fun wz=>wz.cell? ⟨w.heap.size,1,none⟩=some (.string name)∧wz.cell? ⟨w.heap.size,2,none⟩=some (.int .i64 n)) (first | go_keep | exact ⟨cell_below hkb1.out b1,cell_below hkb1.out b2⟩ | exact ⟨cell_below (below_al hkb1.out _) b1,cell_below (below_al hkb1.out _) b2⟩ | exact ⟨cell_below hkb2.out b1,cell_below hkb2.out b2⟩) (first | (refine step_append_dcs _ (by rfl) _ _ _ (by rfl) (w.heap.size+1) 120 i0 (.agg #[.string ⟨#[]⟩,.int .i64 0,.int .i64 0]) 3 32 Tryz.underlying22 hi hz0 hz1 hz2 (by rfl) (by decide) (.slice (some ⟨w.heap.size+1,0,none⟩) 0 0) 0 [] (by rfl) (by first | exact own_new (by simp) (by omega) | exact own_al (own_new (by simp) (by omega)) _) da ds.length dc (flatD ds) (by rfl) (flatD_len ds) (HNW.out _ (by repeat (with_reducible first | exact HW.out | refine Below.drew ?_ | refine below_al ?_ _))) (flatD_one ds) hm1 hm2 (by first | (simp;done) | (simp;omega)) ?_;intro v1 w1 hown1 hgrow1 hat1;have hkb1:=Lib.hid (below_gr (w:=w.alloc (boxOf op name n pos a kids.len cap)) (by repeat (with_reducible first | exact Below.refl _ _ | refine Below.drew ?_ | refine below_al ?_ _)) hgrow1 (by intro j hj;simp [Value.ownBlock] at hj;simp;omega))) | (refine step_append_dcs _ (by rfl) _ _ _ (by rfl) (w.heap.size+1) 120 i0 (.agg #[.string ⟨#[]⟩,.int .i64 0,.int .i64 0]) 3 32 Tryz.underlying22 hi hz0 hz1 hz2 (by rfl) (by decide) (.slice (some ⟨w.heap.size+2,0,none⟩) 0 0) 0 [] (by rfl) (by first | exact own_new (by simp) (by omega) | exact own_al (own_new (by simp) (by omega)) _) da ds.length dc (flatD ds) (by rfl) (flatD_len ds) (HNW.out _ (by repeat (with_reducible first | exact HW.out | refine Below.drew ?_ | refine below_al ?_ _))) (flatD_one ds) hm1 hm2 (by first | (simp;done) | (simp;omega)) ?_;intro v1 w1 hown1 hgrow1 hat1;have hkb1:=Lib.hid (below_gr (w:=w.alloc (boxOf op name n pos a kids.len cap)) (by repeat (with_reducible first | exact Below.refl _ _ | refine Below.drew ?_ | refine below_al ?_ _)) hgrow1 (by intro j hj;simp [Value.ownBlock] at hj;simp;omega))) | (refine step_append_n _ (by rfl) _ _ _ (by rfl) (w.heap.size+1) 120 i0 (.agg #[.string ⟨#[]⟩,.int .i64 0,.int .i64 0]) 3 32 Tryz.underlying22 hi hz0 hz1 hz2 (by rfl) (by decide) v1 (0+ds.length) ([] ++ flatD ds) (by rfl) (by first | exact hown1 | exact own_al hown1 _) ⟨w1.heap.size,0,none⟩ 1 1 [.string name,.int .i64 n,.int .i64 0] (by rfl) (by rfl) (by exact news3 (at_new rfl)) (one3 _ _ _) (by decide) hm3 hm4 (by have:=hgrow1.size;simp at this ⊢;omega) (ds.length+1) (by omega) ?_;intro g gcap w2 hown2 hgrow2 hat2 hlt2;have hkb2:=Lib.hid (below_gr (w:=w.alloc (boxOf op name n pos a kids.len cap)) (by first | exact hkb1.out | exact below_al hkb1.out _) hgrow2 (by intro j hj;have hs:=hgrow1.size;rcases hat1 with h | h <;> (rw [h] at hj;simp [Value.ownBlock] at hj;simp;omega)))) | (refine step_append_n _ (by rfl) _ _ _ (by rfl) (w.heap.size+1) 120 i0 (.agg #[.string ⟨#[]⟩,.int .i64 0,.int .i64 0]) 3 32 Tryz.underlying22 hi hz0 hz1 hz2 (by rfl) (by decide) v1 (0+ds.length) ([] ++ flatD ds) (by rfl) (by first | exact hown1 | exact own_al hown1 _) ⟨w.heap.size+2,0,none⟩ 1 1 [.string name,.int .i64 n,.int .i64 0] (by rfl) (by rfl) (by exact news3 ((hgrow1.block _ (by simp) (by simp [Value.ownBlock])).trans (at_new (by simp)))) (one3 _ _ _) (by decide) hm3 hm4 (by have:=hgrow1.size;simp at this ⊢;omega) (ds.length+1) (by omega) ?_;intro g gcap w2 hown2 hgrow2 hat2 hlt2;have hkb2:=Lib.hid (below_gr (w:=w.alloc (boxOf op name n pos a kids.len cap)) (by first | exact hkb1.out | exact below_al hkb1.out _) hgrow2 (by intro j hj;have hs:=hgrow1.size;rcases hat1 with h | h <;> (rw [h] at hj;simp [Value.ownBlock] at hj;simp;omega)))) | (refine step_append_n _ (by rfl) _ _ _ (by rfl) (w.heap.size+1) 120 i0 (.agg #[.string ⟨#[]⟩,.int .i64 0,.int .i64 0]) 3 32 Tryz.underlying22 hi hz0 hz1 hz2 (by rfl) (by decide) v1 (0+ds.length) ([] ++ flatD ds) (by rfl) (by first | exact hown1 | exact own_al hown1 _) ⟨w.heap.size+1,0,none⟩ 1 1 [.string name,.int .i64 n,.int .i64 0] (by rfl) (by rfl) (by exact news3 ((hgrow1.block _ (by simp) (by simp [Value.ownBlock])).trans (at_al (at_new (by simp))))) (one3 _ _ _) (by decide) hm3 hm4 (by have:=hgrow1.size;simp at this ⊢;omega) (ds.length+1) (by omega) ?_;intro g gcap w2 hown2 hgrow2 hat2 hlt2;have hkb2:=Lib.hid (below_gr (w:=w.alloc (boxOf op name n pos a kids.len cap)) (by first | exact hkb1.out | exact below_al hkb1.out _) hgrow2 (by intro j hj;have hs:=hgrow1.size;rcases hat1 with h | h <;> (rw [h] at hj;simp [Value.ownBlock] at hj;simp;omega)))))
 all_goals
  have HW2:=Lib.hid (HW.out.trans (hkb2.out.mono (by simp)))
  have HB2:=Lib.hid ((hkb2.out.block _ (by simp)).trans HB.out)
  have HD2:RowKit.Hid (DcsIn w2 (some ⟨g,0,none⟩) (ds ++ [⟨name,n,0⟩])):=Lib.hid (by
   have h:=hown2
   rw [show ([] ++ flatD ds ++ [Value.string name,.int .i64 n,.int .i64 0])=flatD (ds ++ [(⟨name,n,0⟩:Dc)]) from by rw [flatD_append];rfl,show ds.length+1=(ds ++ [(⟨name,n,0⟩:Dc)]).length from by simp] at h
   exact (dcs_own h).in (by simp;omega) HNS.out)
  clear hown1 hgrow1 hat1 hkb1 hown2 hgrow2 hat2 hlt2 hkb2 HNW HNS hm1 hm2 hm3 hm4 hi hz0 hz1 hz2
  clear HD
  rcases HIN.out with hnil | ⟨kb,ko,hab,hlim,hpos,hkin⟩
  ·subst hnil
   have hz0:((Fo.nil.len:Nat):Int)=0:=rfl
   have hz:q0=(0,0):=HQ.out
   subst hz
   clear hm HIN HK
   go_wp2_with fail
   go_loopw [9] (fun i wr=>i=.int .i64 0∧RowKit.Hid (wr.heap[w.heap.size]? = some (boxOf op name n pos a Fo.nil.len cap))∧Below w.heap.size w wr) (fun _ _=>0)
   case atStart=>exact ⟨rfl,HB2,HW2.out⟩
   case round =>
    obtain ⟨rfl,HX,hbx⟩:=hrel
    clear b0 b1 b2 b3 b4
    obtain ⟨b0,b1,b2,b3,b4⟩:=box_cells HX.out
    go_wp2_with fail
    go_ret2
    exact ⟨rfl,hbx⟩
  ·subst hab
   have HST:=Lib.hid (Tail.start (hkin.below HW2.out) HK.out)
   clear hkin hpos HK HIN
   go_wp2_with fail
   go_loopw [9] (fun i wr=>∃ (k:Nat) (R:Fo),i=.int .i64 k∧RowKit.Hid (Tail wr (SayRf ps pa pc) kids R kb ko k)∧RowKit.Hid (q0=R.fs (predsK ps) (ordD (ds ++ [⟨name,n,0⟩])))∧RowKit.Hid (R.allB Nd.okF=true)∧RowKit.Hid R.sized∧RowKit.Hid (wr.heap[w.heap.size]? = some (boxOf op name n pos (some ⟨kb,ko,none⟩) kids.len cap))∧RowKit.Hid (DcsIn wr (some ⟨g,0,none⟩) (ds ++ [⟨name,n,0⟩]))∧Below w.heap.size w wr∧ds.length+1+R.size≤1000000) (fun i _=>kids.len - (intOf i).toNat)
   case atStart=>exact ⟨0,kids,rfl,HST,HQ,HOK,HSZ,HB2,HD2,HW2.out,hm⟩
   case round =>
    obtain ⟨k,R,rfl,HTL,HAL,HKO,HRS,HX,HDX,hbx,hmR⟩:=hrel
    clear HST HQ HB2 HW2 HD2 HW HB b0 b1 b2 b3 b4 hm
    obtain ⟨b0,b1,b2,b3,b4⟩:=box_cells HX.out
    cases R with
    | nil =>
     have hkl:k=kids.len:=by have:=HTL.out.len;simpa [Fo.len] using this
     subst hkl
     have hz:q0=(0,0):=HAL.out
     subst hz
     go_wp2_with fail
     go_ret2
     exact ⟨rfl,hbx⟩
    | cons op1 name1 n1 pos1 a1 cap1 kids1 rest =>
     obtain ⟨hnode,hin1,hP,hkl,hnext⟩:=HTL.out.next
     have hkl2:(k:Int) < kids.len:=by omega
     have hkl0:(0:Int)≤k:=by omega
     obtain ⟨c0,c1,c2,c3,c4⟩:=hnode
     have HN1:=Lib.hid hnext
     have hsz1:Fo.size (.cons op1 name1 n1 pos1 a1 cap1 kids1 rest)=kids1.size+1+rest.size:=rfl
     have hsz2:Nd.size ⟨op1,name1,n1,pos1,a1,cap1,kids1⟩=kids1.size+1:=rfl
     have hok2:(Nd.okF ⟨op1,name1,n1,pos1,a1,cap1,kids1⟩ && rest.allB Nd.okF)=true:=HKO.out
     rw [Bool.and_eq_true] at hok2
     have hcall:=hP wr (ds ++ [⟨name,n,0⟩]) (some ⟨g,0,none⟩) gcap (HP.out.below hbx) (fun p h=>(HPD.out p h).below hbx) HDX.out hin1 ⟨HRS.out.1,HRS.out.2.1⟩ hok2.1 (by rw [List.length_append,List.length_singleton];omega)
     rw [Nd.val_def] at hcall
     have hal:q0=(if (Nd.fk (predsK ps) (ordD (ds ++ [⟨name,n,0⟩])) ⟨op1,name1,n1,pos1,a1,cap1,kids1⟩).2=0 then rest.fs (predsK ps) (ordD (ds ++ [⟨name,n,0⟩])) else Nd.fk (predsK ps) (ordD (ds ++ [⟨name,n,0⟩])) ⟨op1,name1,n1,pos1,a1,cap1,kids1⟩):=HAL.out
     generalize Nd.fk (predsK ps) (ordD (ds ++ [⟨name,n,0⟩])) ⟨op1,name1,n1,pos1,a1,cap1,kids1⟩=q at hcall hal
     obtain ⟨qp,qe⟩:=q
     simp only [List.length_append,List.length_singleton] at hcall hal
     have HCL:=Lib.hid hcall
     have HR2:=Lib.hid HRS.out.2.2
     have HK2:=Lib.hid hok2.2
     have hmr:ds.length+1+rest.size≤1000000:=by omega
     clear hnext hin1 hP hcall HTL hok2 HAL
     by_cases he:qe=0
     ·have HA2:=Lib.hid (show q0=rest.fs (predsK ps) (ordD (ds ++ [⟨name,n,0⟩])) from by rw [hal,if_pos he])
      clear hal
      subst he
      go_wp2_with fail
      refine HCL.out.mono ?_
      rintro e w3 ⟨rfl,hb3⟩
      have hbx2:=hbx.trans (hb3.mono hbx.size)
      have HX2:=Lib.hid ((hb3.block _ (lt_heap HX.out)).trans HX.out)
      have HN2:=Lib.hid (HN1.out.below hb3)
      have HD3:=Lib.hid (HDX.out.below hb3)
      clear hb3 HN1 HX HCL HDX b0 b1 b2 b3 b4 c0 c1 c2 c3 c4
      go_wp2_with fail
      go_roundw
      case rel=>exact ⟨k+1,rest,by go_num,HN2,HA2,HK2,HR2,HX2,HD3,hbx2,hmr⟩
      case measure=>(try simp [intOf]);omega
     ·have hz:q0=(qp,qe):=by rw [hal,if_neg he]
      have heb:(qe != 0)=true:=by simp [he]
      clear hal he
      subst hz
      go_wp2_with fail
      refine HCL.out.mono ?_
      rintro e w3 ⟨rfl,hb3⟩
      have hbx2:=hbx.trans (hb3.mono hbx.size)
      clear hb3 HN1 HX HCL b0 b1 b2 b3 b4 c0 c1 c2 c3 c4
      go_wp2_with fail
      go_ret2
      exact ⟨rfl,hbx2⟩
end Go.Proofs.YtmlmjopfbohglaaGreatDoor
