/- Parts of the proof: TrCb GFine GIs KN. -/
import Derived.Test.YtmlmjopfbohglaaDoorWd21
import Derived.Test.YtmlmjopfbohglaaDoorWd22
import Derived.Test.YtmlmjopfbohglaaDoorWd10
namespace Go.Proofs.YtmlmjopfbohglaaDoor
open Go.RowKit
set_option maxRecDepth 100000 in
set_option maxHeartbeats 4000000 in
theorem inBounds_any (T:Nd) (w:World) (hT:T.In w) (hs:T.size≤2000):Calls Tryd.prog 92 #[T.val] w fun e w'=>(∃ d,DepthOut T d∧e=.returned (.bool (decide (d≤30))))∧Below w.heap.size w w':=by
 obtain ⟨op,name,n,pos,a,cap,kids⟩:=T
 have hsv:min (((Nd.mk op name n pos a cap kids).size:Nat):Int) 2001=(Nd.mk op name n pos a cap kids).size:=by omega
 have hc1:=tsize_any ⟨op,name,n,pos,a,cap,kids⟩ (w.alloc (boxOf op name n pos a kids.len cap)) (hT.below (below_box _ _))
 rw [hsv] at hc1
 have hs2:(((Nd.mk op name n pos a cap kids).size:Nat):Int)≤2000:=by omega
 have HC1:=Lib.hid hc1
 have HT:=Lib.hid hT
 have HS:=Lib.hid hs
 have HB:=Lib.hid (new_at w (boxOf op name n pos a kids.len cap))
 have hc5:=cellsNode
 have hsz1:=alloc_size w (boxOf op name n pos a kids.len cap)
 have HZ:=Lib.hid hsz1
 clear hc1 hT hsv hs hsz1
 generalize (((Nd.mk op name n pos a cap kids).size:Nat):Int)=z at HC1 hs2
 rw [Nd.val_def]
 go_enter Tryd.func92,Tryd.ntmps92
 go_wp2_with fail
 refine HC1.out.mono ?_
 rintro e w2 ⟨rfl,hb2⟩
 have hblk:w2.heap[w.heap.size]? = some (boxOf op name n pos a kids.len cap):=by
  rw [hb2.block _ (by have:=HZ.out;omega)];exact HB.out
 have b0:w2.cell? ⟨w.heap.size,0,none⟩=some (.string op):=by rw [cell_of_row _ _ _ _ _ _ hblk];rfl
 have b1:w2.cell? ⟨w.heap.size,1,none⟩=some (.string name):=by rw [cell_of_row _ _ _ _ _ _ hblk];rfl
 have b2:w2.cell? ⟨w.heap.size,2,none⟩=some (.int .i64 n):=by rw [cell_of_row _ _ _ _ _ _ hblk];rfl
 have b3:w2.cell? ⟨w.heap.size,3,none⟩=some (.int .i64 pos):=by rw [cell_of_row _ _ _ _ _ _ hblk];rfl
 have b4:w2.cell? ⟨w.heap.size,4,none⟩=some (.slice a kids.len cap):=by rw [cell_of_row _ _ _ _ _ _ hblk];rfl
 have hbb:=box_then hb2
 have hc2:=depth_any ⟨op,name,n,pos,a,cap,kids⟩ w2 (HT.out.below hbb) (by have:=HS.out;omega)
 have HC2:=Lib.hid hc2
 clear hc2 hb2 hblk HC1
 go_wp2_with fail
 refine HC2.out.mono ?_
 rintro e w3 ⟨⟨d,rfl,hd⟩,hb3⟩
 have HD:=Lib.hid hd
 clear hd
 go_wp2
 go_ret
 exact ⟨⟨d,HD.out,rfl⟩,hbb.trans (hb3.mono hbb.size)⟩
set_option maxRecDepth 100000 in
set_option maxHeartbeats 8000000 in
theorem isFormula_fine (T:Nd) (w:World) (hU:LTabs w) (hT:T.In w) (hsz:T.sized) (hd:T.deep≤30) (hs:T.size≤2000):Calls Tryd.prog 66 #[T.val] w fun e w'=>e=.returned (.bool T.okF)∧Below w.heap.size w w':=by
 have hf:=fun W h1 h2=>formulas_all T W h1 h2 hsz
 have hb:=fun W h=>inBounds_any T W h hs
 obtain ⟨op,name,n,pos,a,cap,kids⟩:=T
 generalize (Nd.mk op name n pos a cap kids).okF=q at hf
 have HI:=Lib.hid hT
 have HU:=Lib.hid hU
 have HF:=Lib.hid hf
 have HC:=Lib.hid (hb (w.alloc (boxOf op name n pos a kids.len cap)) (hT.below (below_box _ _)))
 have HB:=Lib.hid (new_at w (boxOf op name n pos a kids.len cap))
 have HZ:=Lib.hid (lt_heap HB.out)
 have HD:=Lib.hid (And.intro hd hs)
 have hc5:=cellsNode
 clear hf hb hT hU hd hs hsz
 rw [Nd.val_def]
 go_enter Tryd.func66,Tryd.ntmps66
 go_wp2_with fail
 refine HC.out.mono ?_
 rintro e w2 ⟨⟨d,hd,rfl⟩,hb2⟩
 have hdl:d≤30:=by have h1:=hd.2.2.1;have h2:=HD.out.1;omega
 rw [decide_eq_true hdl]
 clear hd hdl
 have hbb:=box_then hb2
 obtain ⟨b0,b1,b2,b3,b4⟩:=box_cells (show w2.heap[w.heap.size]? = _ from (hb2.block _ HZ.out).trans HB.out)
 have hcall:=HF.out w2 (HU.out.below hbb) (HI.out.below hbb)
 rw [Nd.val_def] at hcall
 have HC2:=Lib.hid hcall
 clear hb2 HC hcall
 go_wp2_with fail
 refine HC2.out.mono ?_
 rintro e w3 ⟨rfl,hb3⟩
 have hb4:=hbb.trans (hb3.mono hbb.size)
 clear hb3 HC2
 go_wp2_with fail
 go_ret
 exact ⟨rfl,hb4⟩
set_option maxRecDepth 100000 in
set_option maxHeartbeats 16000000 in
theorem mayBeDecls_any (l:List Dc) (a:Option Addr) (cap:Nat) (w:World) (hT:LTabs w) (h:DcsIn w a l):Calls Tryd.prog 65 #[.slice a l.length cap] w fun e w'=>e=.returned (.bool (l.all Dc.ok))∧Below w.heap.size w w':=by
 have hc3:=cellsDecl
 have HT:=Lib.hid hT
 clear hT
 rcases h with rfl | ⟨b,o,rfl,hlim,hat,hsz⟩
 ·show Calls _ _ #[.slice a 0 cap] w _
  go_enter Tryd.func65,Tryd.ntmps65
  go_wp2_with fail
  go_loopw [7] (fun i wr=>i=.int .i64 0∧Below w.heap.size w wr) (fun _ _=>0)
  case atStart=>exact ⟨rfl,Below.refl _ _⟩
  case round =>
   obtain ⟨rfl,hbx⟩:=hrel
   go_wp2_with fail
   go_ret
   exact ⟨rfl,hbx⟩
 ·have HA:=Lib.hid hat
  have HS:=Lib.hid hsz
  clear hat hsz
  go_enter Tryd.func65,Tryd.ntmps65
  go_wp2_with fail
  go_loopw [7] (fun i wr=>∃ k:Nat,i=.int .i64 k∧k≤l.length∧RowKit.Hid (l.all Dc.ok=(l.drop k).all Dc.ok)∧Below w.heap.size w wr) (fun i _=>l.length - (intOf i).toNat)
  case atStart=>exact ⟨0,rfl,by omega,Lib.hid rfl,Below.refl _ _⟩
  case round =>
   obtain ⟨k,rfl,hk,HL,hbx⟩:=hrel
   by_cases hkl:k < l.length
   ·have hkl2:(k:Int) < l.length:=by omega
    have hg:=List.getElem?_eq_getElem hkl
    obtain ⟨c0,c1,c2⟩:=(HA.out k (l[k]'hkl) hg).below hbx
    have hns:=HS.out (l[k]'hkl) (List.getElem_mem _)
    have HD:RowKit.Hid (l.drop k=(l[k]'hkl) :: l.drop (k+1)):=Lib.hid (List.drop_eq_getElem_cons hkl)
    clear hg
    generalize (l[k]'hkl)=d at c0 c1 c2 hns HD
    obtain ⟨nm,od,po⟩:=d
    simp only [] at c0 c1 c2 hns
    have HC:=Lib.hid (mayBeName_any nm (wr.alloc (.cells #[.string nm,.int .i64 od,.int .i64 po] 55)) hns (HT.out.below (hbx.alloc hbx.size _)))
    have HB:=Lib.hid (new_at wr (.cells #[.string nm,.int .i64 od,.int .i64 po] 55))
    go_wp2_with fail
    refine HC.out.mono ?_
    rintro e w2 ⟨rfl,hb2⟩
    have hblk:=(hb2.block _ (lt_heap HB.out)).trans HB.out
    have d1:w2.cell? ⟨wr.heap.size,1,none⟩=some (.int .i64 od):=by rw [cell_of_row _ _ _ _ _ _ hblk];rfl
    have hbx2:=hbx.trans ((box_then hb2).mono hbx.size)
    clear hb2 hblk HC c0 c1 c2 HB
    by_cases hn:nameB nm=true
    ·rw [hn]
     by_cases h0:0≤od
     ·by_cases h2:od≤2
      ·have HL2:=Lib.hid (show l.all Dc.ok=(l.drop (k+1)).all Dc.ok from by rw [HL.out,HD.out,List.all_cons];unfold Dc.ok;rw [hn,decide_eq_true h0,decide_eq_true h2];rfl)
       clear hn
       go_wp2_with fail
       go_roundw
       case rel=>exact ⟨k+1,by go_num,by omega,HL2,hbx2⟩
       case measure=>(try simp [intOf]);omega
      ·have HL2:=Lib.hid (show l.all Dc.ok=false from by rw [HL.out,HD.out,List.all_cons];unfold Dc.ok;rw [decide_eq_false h2];simp)
       clear hn
       go_wp2_with fail
       go_ret
       exact ⟨by rw [HL2.out];rfl,hbx2⟩
     ·have HL2:=Lib.hid (show l.all Dc.ok=false from by rw [HL.out,HD.out,List.all_cons];unfold Dc.ok;rw [decide_eq_false h0];simp)
      clear hn
      go_wp2_with fail
      go_ret
      exact ⟨by rw [HL2.out];rfl,hbx2⟩
    ·have hn2:nameB nm=false:=by simpa using hn
     have HL2:=Lib.hid (show l.all Dc.ok=false from by rw [HL.out,HD.out,List.all_cons];unfold Dc.ok;rw [hn2];simp)
     rw [hn2]
     clear hn hn2
     go_wp2_with fail
     go_ret
     exact ⟨by rw [HL2.out];rfl,hbx2⟩
   ·obtain rfl:k=l.length:=by omega
    have HL2:=Lib.hid (show l.all Dc.ok=true from by rw [HL.out,List.drop_length];rfl)
    go_wp2_with fail
    go_ret
    exact ⟨by rw [HL2.out];rfl,hbx⟩
set_option maxRecDepth 100000 in
set_option maxHeartbeats 16000000 in
theorem is_any (ds:List Dc) (da:Option Addr) (dc:Nat) (ps:List Pd) (pa:Option Addr) (pc:Nat) (T:Nd) (w:World) (hT:LTabs w) (hd:DcsIn w da ds) (hp:PdsIn w pa ps) (hm:T.In w) (hms:T.sized) (hmd:T.deep≤30) (hmz:T.size≤2000) :
  Calls Tryd.prog 36 #[.agg #[.slice da ds.length dc,.slice pa ps.length pc,.string T.op,.string T.name,.int .i64 T.n,.int .i64 T.pos,.slice T.a T.kids.len T.cap]] w fun e w'=>e=.returned (.bool (ps.all Pd.ok && ds.all Dc.ok && T.okF))∧Below w.heap.size w w':=by
 have hc5:=cellsNode
 have hc8:=cellsPred
 have HT:=Lib.hid hT
 have HDS:=Lib.hid hd
 have HPS:=Lib.hid hp.2
 have HM:=Lib.hid (fun W (hb:Below w.heap.size w W)=>isFormula_fine T W (hT.below hb) (hm.below hb) hms hmd hmz)
 obtain ⟨op,name,n,pos,a,cap,kids⟩:=T
 generalize (Nd.mk op name n pos a cap kids).okF=q at HM ⊢
 have HB:=Lib.hid (new_at w (.cells (pgCells da ds.length dc pa ps.length pc op name n pos a kids.len cap) 28))
 have HPI:=Lib.hid hp.1
 clear hT hd hp hm hms hmd hmz
 show Calls _ _ #[.agg #[.slice da ds.length dc,.slice pa ps.length pc,.string op,.string name,.int .i64 n,.int .i64 pos,.slice a kids.len cap]] w _
 go_enter Tryd.func36,Tryd.ntmps36
 go_wp2_with fail
 go_loopw [8] (fun i wr=>∃ k:Nat,i=.int .i64 k∧k≤ps.length∧RowKit.Hid (ps.all Pd.ok=(ps.drop k).all Pd.ok)∧RowKit.Hid (wr.heap[w.heap.size]? = some (.cells (pgCells da ds.length dc pa ps.length pc op name n pos a kids.len cap) 28))∧Below w.heap.size w wr) (fun i _=>ps.length - (intOf i).toNat)
 case atStart=>exact ⟨0,rfl,by omega,Lib.hid rfl,HB,below_box _ _⟩
 case round =>
  obtain ⟨k,rfl,hk,HL,HX,hbx⟩:=hrel
  by_cases hkl:k < ps.length
  ·have hkl2:(k:Int) < ps.length:=by omega
   have hg:=List.getElem?_eq_getElem hkl
   obtain ⟨pb,po,hpa,hplim,hpat⟩:∃ b o,pa=some ⟨b,o,none⟩∧ps.length≤140737488351232∧∀ i p,ps[i]? = some p→PdAt w b (o+i * 8) p:=by
    rcases HPI.out with h | h
    ·rw [h] at hkl;exact absurd hkl (Nat.not_lt_zero _)
    ·exact h
   subst hpa
   obtain ⟨c0,c1,c2,c3,c4,c5,c6,c7⟩:=(hpat k (ps[k]'hkl) hg).below hbx
   have HF:=Lib.hid (HPS.out (ps[k]'hkl) (List.getElem_mem _))
   have HD:RowKit.Hid (ps.drop k=(ps[k]'hkl) :: ps.drop (k+1)):=Lib.hid (List.drop_eq_getElem_cons hkl)
   clear hg hpat
   generalize (ps[k]'hkl)=p at c0 c1 c2 c3 c4 c5 c6 c7 HF HD
   obtain ⟨nm,prs,ppa,ppc,⟨bop,bname,bn,bpos,ba,bcap,bkids⟩,ppos⟩:=p
   simp only [] at c0 c1 c2 c3 c4 c5 c6 c7
   have HS1:=Lib.hid (new_at wr (.cells (pdCells nm ppa prs.length ppc bop bname bn bpos ba bkids.len bcap ppos) 47))
   have HC:=Lib.hid (mayBeName_any nm (wr.alloc (.cells (pdCells nm ppa prs.length ppc bop bname bn bpos ba bkids.len bcap ppos) 47)) HF.out.name (HT.out.below (hbx.alloc hbx.size _)))
   have HP:RowKit.Hid (ps.all Pd.ok=((nameB nm && decide ((prs.length:Int)≤6) && prs.all Dc.ok && (Nd.mk bop bname bn bpos ba bcap bkids).okF) && (ps.drop (k+1)).all Pd.ok)):=Lib.hid (by rw [HL.out,HD.out,List.all_cons];rfl)
   have HBF:=Lib.hid (fun W (hb:Below w.heap.size w W)=>isFormula_fine ⟨bop,bname,bn,bpos,ba,bcap,bkids⟩ W (HT.out.below hb) (HF.out.body.below hb) HF.out.sized HF.out.deep HF.out.size)
   generalize (Nd.mk bop bname bn bpos ba bcap bkids).okF=bq at HP HBF
   go_wp2_with fail
   refine HC.out.mono ?_
   rintro e w2 ⟨rfl,hb2⟩
   have hbx2:=hbx.trans ((box_then hb2).mono hbx.size)
   have HS2:=Lib.hid ((hb2.block _ (lt_heap HS1.out)).trans HS1.out)
   obtain ⟨s0,s1,s2,s3,s4,s5,s6⟩:=pd_cells HS2.out
   have HX2:=Lib.hid (((box_then hb2).block _ (lt_heap HX.out)).trans HX.out)
   clear hb2 HC c0 c1 c2 c3 c4 c5 c6 c7 HS1
   generalize nameB nm=qn at HP ⊢
   cases qn with
   | false =>
    go_wp2_with fail
    go_ret
    exact ⟨by rw [HP.out];rfl,hbx2⟩
   | true =>
    by_cases h6:(prs.length:Int)≤6
    case neg =>
     have HP2:=Lib.hid (show ps.all Pd.ok=false from by rw [HP.out,decide_eq_false h6];rfl)
     go_wp2_with fail
     go_ret
     exact ⟨by rw [HP2.out];rfl,hbx2⟩
    have HP2:=Lib.hid (show ps.all Pd.ok=((prs.all Dc.ok && bq) && (ps.drop (k+1)).all Pd.ok) from by rw [HP.out,decide_eq_true h6];rfl)
    have HC3:=Lib.hid (mayBeDecls_any prs ppa ppc w2 (HT.out.below hbx2) (HF.out.params.below hbx2))
    go_wp2_with fail
    refine HC3.out.mono ?_
    rintro e w3 ⟨rfl,hb3⟩
    have hbx3:=hbx2.trans (hb3.mono hbx2.size)
    clear s0 s1 s2 s3 s4 s5 s6
    have HS3:=Lib.hid ((hb3.block _ (lt_heap HS2.out)).trans HS2.out)
    obtain ⟨s0,s1,s2,s3,s4,s5,s6⟩:=pd_cells HS3.out
    have HX3:=Lib.hid ((hb3.block _ (lt_heap HX2.out)).trans HX2.out)
    clear hb3 HC3
    generalize prs.all Dc.ok=qd at HP2 ⊢
    cases qd with
    | false =>
     go_wp2_with fail
     go_ret
     exact ⟨by rw [HP2.out];rfl,hbx3⟩
    | true =>
     have hcall:=HBF.out w3 hbx3
     rw [Nd.val_def] at hcall
     have HC4:=Lib.hid hcall
     clear hcall
     go_wp2_with fail
     refine HC4.out.mono ?_
     rintro e w4 ⟨rfl,hb4⟩
     have hbx4:=hbx3.trans (hb4.mono hbx3.size)
     have HX4:=Lib.hid ((hb4.block _ (lt_heap HX3.out)).trans HX3.out)
     clear hb4 HC4 s0 s1 s2 s3 s4 s5 s6
     cases bq with
     | false =>
      go_wp2_with fail
      go_ret
      exact ⟨by rw [HP2.out];rfl,hbx4⟩
     | true =>
      have HL4:=Lib.hid (show ps.all Pd.ok=(ps.drop (k+1)).all Pd.ok from by rw [HP2.out];rfl)
      go_wp2_with fail
      go_roundw
      case rel=>exact ⟨k+1,by go_num,by omega,HL4,HX4,hbx4⟩
      case measure=>(try simp [intOf]);omega
  ·obtain rfl:k=ps.length:=by omega
   have HL2:=Lib.hid (show ps.all Pd.ok=true from by rw [HL.out,List.drop_length];rfl)
   obtain ⟨b0,b1,b2,b3,b4,b5,b6⟩:=pg_cells HX.out
   have HC:=Lib.hid (mayBeDecls_any ds da dc wr (HT.out.below hbx) (HDS.out.below hbx))
   go_wp2_with fail
   refine HC.out.mono ?_
   rintro e w2 ⟨rfl,hb2⟩
   have hbx2:=hbx.trans (hb2.mono hbx.size)
   clear b0 b1 b2 b3 b4 b5 b6
   obtain ⟨b0,b1,b2,b3,b4,b5,b6⟩:=pg_cells ((hb2.block _ (lt_heap HX.out)).trans HX.out)
   generalize hdd:ds.all Dc.ok=dd
   have HDD:=Lib.hid hdd
   clear hdd hb2 HC
   cases dd with
   | false =>
    go_wp2_with fail
    go_ret
    exact ⟨by rw [HL2.out,HDD.out];rfl,hbx2⟩
   | true =>
    have hcall:=HM.out w2 hbx2
    rw [Nd.val_def] at hcall
    have HC2:=Lib.hid hcall
    clear hcall
    go_wp2_with fail
    refine HC2.out.mono ?_
    rintro e w3 ⟨rfl,hb3⟩
    have hb4:=hbx2.trans (hb3.mono hbx2.size)
    clear hb3 HC2
    go_wp2_with fail
    go_ret
    exact ⟨by rw [HL2.out,HDD.out];rfl,hb4⟩
end Go.Proofs.YtmlmjopfbohglaaDoor
namespace Go.Proofs.YtmlmjopfbohglaaDoor
open Go.RowKit
open Go.Maps
def predsR:List Pd→List Pd→Int × Int
 | _,[]=>(0,0)
 | ahead,p :: r=>if (predR (predsK ahead) p).2=0 then predsR (ahead ++ [p]) r else predR (predsK ahead) p
def checkR (ds:List Dc) (ps:List Pd) (T:Nd):Int × Int :=
 if (ps.all Pd.ok && ds.all Dc.ok && T.okF)=true then (if (onceR ds).2=0 then (if (predsR [] ps).2=0 then T.fk (predsK ps) (ordD ds) else predsR [] ps) else onceR ds) else (0,1)
theorem predsK_snoc (l:List Pd) (p:Pd) (h:predsK l p.name=none) (y:ByteArray):predsK (l ++ [p]) y=if y=p.name then some p.params else predsK l y:=by
 unfold predsK at h ⊢
 rw [List.find?_append]
 by_cases hy:y=p.name
 ·subst hy
  rw [if_pos rfl]
  have h2:(l.find? fun q=>decide (q.name=p.name))=none:=by
   cases hq:l.find? (fun q=>decide (q.name=p.name)) with
   | none=>rfl
   | some x=>rw [hq] at h;cases h
  rw [h2]
  simp
 ·rw [if_neg hy]
  have h3:([p].find? fun q=>decide (q.name=y))=none:=by
   simp
   exact fun e=>hy e.symm
  rw [h3,Option.or_none]
theorem predR_some {Q:ByteArray→Option (List Dc)} {p:Pd} (h:(predR Q p).2=0):Q p.name=none:=by
 unfold predR at h
 cases hq:Q p.name with
 | none=>rfl
 | some x=>rw [hq,if_pos (show (some x).isSome=true from rfl)] at h;cases h
theorem zeroPrd {w:World} {N m:Nat} (h:SMap Tryd.prog 9 w N m (fun _=>none)):PrdQ w N m (predsK []):=⟨_,h,fun _=>.inl ⟨rfl,rfl⟩⟩
theorem cellsProg7:Tryd.prog.cellsOf 28=7:=by kernel_rfl
abbrev pgB (da:Option Addr) (dl dc:Nat) (pa:Option Addr) (pl pc:Nat) (T:Nd):Obj:=.cells (pgCells da dl dc pa pl pc T.op T.name T.n T.pos T.a T.kids.len T.cap) 28
set_option maxRecDepth 100000 in
set_option maxHeartbeats 16000000 in
theorem kcheck_any (ds:List Dc) (da:Option Addr) (dc:Nat) (ps:List Pd) (pa:Option Addr) (pc:Nat) (T:Nd) (w:World) (hT:LTabs w) (hd:DcsIn w da ds) (hp:PdsIn w pa ps) (hm:T.In w) (hms:T.sized) (hmd:T.deep≤30) (hmz:T.size≤2000) (hdl:ds.length≤1000000) (hpl:ps.length≤1000000) :
  Calls Tryd.prog 12 #[.agg #[.slice da ds.length dc,.slice pa ps.length pc,.string T.op,.string T.name,.int .i64 T.n,.int .i64 T.pos,.slice T.a T.kids.len T.cap]] w fun e w'=>e=.returned (.tuple #[.int .i64 (checkR ds ps T).1,.int .i64 (checkR ds ps T).2])∧Below w.heap.size w w':=by
 obtain ⟨q0,hq0⟩:∃ q0,q0=checkR ds ps T:=⟨_,rfl⟩
 rw [← hq0]
 have hc7:=cellsProg7
 have hc8:=cellsPred
 have hc5:=cellsNode
 have hmm:=@run_makeMap Tryd.prog
 have HW:=Lib.hid (below_box w (pgB da ds.length dc pa ps.length pc T))
 have HB:=Lib.hid (new_at w (pgB da ds.length dc pa ps.length pc T))
 have HC1:=Lib.hid (is_any ds da dc ps pa pc T (w.alloc (pgB da ds.length dc pa ps.length pc T)) (hT.below HW.out) (hd.below HW.out) ⟨by rcases hp.1 with h | ⟨b,o,h1,h2,h3⟩;exact .inl h;exact .inr ⟨b,o,h1,h2,fun i p hi=>(h3 i p hi).below HW.out⟩,fun p hi=>(hp.2 p hi).below HW.out⟩ (hm.below HW.out) hms hmd hmz)
 obtain ⟨p0,p1,p2,p3,p4,p5,p6⟩:=pg_cells HB.out
 have hqc:q0=checkR ds ps T:=hq0
 unfold checkR at hqc
 rcases bool_two (ps.all Pd.ok && ds.all Dc.ok && T.okF) with hok | hok
 ·rw [if_pos hok] at hqc
  rw [hok] at HC1
  rw [Bool.and_eq_true,Bool.and_eq_true] at hok
  have HO1:=Lib.hid (fun W (hW:Below w.heap.size w W)=>konce_any ds da dc W hdl (hd.below hW))
  have HQC:=Lib.hid hqc
  have HPO:=Lib.hid (List.all_eq_true.1 hok.1.1)
  have HFQ:=Lib.hid (fun W M nM N m (ho:OrdIs W M nM (ordD ds)) (hM:N≠M) (hn:nM≤ds.length) (hW:Below w.heap.size w W) (hpq:PrdQ W N m (predsK ps))=>kformula_all T W M nM (.map (some N)) (ordD ds) (predsK ps) ho (hpq.is hM) (hm.below hW) hms hok.2 (by omega))
  have HSC:=Lib.hid (fun W N (hW:Below w.heap.size w W)=>kscope_any ds da dc (some N) W hdl (hd.below hW))
  have HPF:=Lib.hid hp.2
  have HPI:=Lib.hid hp.1
  clear hq0 hqc hok hT hd hp hm hms hmd hmz
  rw [Nd.val_def] at HFQ
  go_enter Tryd.func12,Tryd.ntmps12
  go_wp2_with fail
  refine HC1.out.mono ?_
  rintro e w2 ⟨rfl,hb2⟩
  have HW2:=Lib.hid (HW.out.trans (hb2.mono HW.out.size))
  have HB2:=Lib.hid ((hb2.block _ (lt_heap HB.out)).trans HB.out)
  have HC2:=Lib.hid (HO1.out w2 HW2.out)
  clear hb2 HC1 HB HW p0 p1 p2 p3 p4 p5 p6
  obtain ⟨p0,p1,p2,p3,p4,p5,p6⟩:=pg_cells HB2.out
  go_wp2_with fail
  refine HC2.out.mono ?_
  rintro e w3 ⟨rfl,hb3⟩
  have HW3:=Lib.hid (HW2.out.trans (hb3.mono HW2.out.size))
  have HB3:=Lib.hid ((hb3.block _ (lt_heap HB2.out)).trans HB2.out)
  clear hb3 HC2 HB2 HW2 p0 p1 p2 p3 p4 p5 p6 HO1
  obtain ⟨p0,p1,p2,p3,p4,p5,p6⟩:=pg_cells HB3.out
  have hqc:=HQC.out
  generalize onceR ds=o at hqc ⊢
  obtain ⟨o1,oe⟩:=o
  simp only [] at hqc
  by_cases hoe:oe=0
  ·subst hoe
   rw [if_pos rfl] at hqc
   obtain ⟨qp,hqp⟩:∃ qp,qp=predsR [] ps:=⟨_,rfl⟩
   rw [← hqp] at hqc
   have HQP:=Lib.hid hqp
   have HQ2:=Lib.hid hqc
   have HM0:=Lib.hid (zeroPrd (SMap.made Tryd.prog 9 w3))
   have HB4:=Lib.hid ((Below.heap_alloc w3 (.map #[] 0) _ (lt_heap HB3.out)).trans HB3.out)
   have HW4:=Lib.hid (HW3.out.alloc HW3.out.size (.map #[] 0))
   have hz3:=lt_heap HB3.out
   replace p0:=cell_below (below_box w3 (.map #[] 0)) p0
   replace p1:=cell_below (below_box w3 (.map #[] 0)) p1
   clear hqc hqp HQC HB3 HW3 p2 p3 p4 p5 p6
   rcases HPI.out with hnil | ⟨b,o,hab,hlim,hat⟩
   ·subst hnil
    have hz0:((([]:List Pd).length:Nat):Int)=0:=rfl
    have hq2:q0=T.fk (predsK []) (ordD ds):=by rw [HQ2.out,HQP.out];rfl
    go_wp2_with fail
    go_loopw [28] (fun i wr=>i=.int .i64 0∧RowKit.Hid (wr.heap[w.heap.size]? = some (pgB da ds.length dc pa 0 pc T))∧RowKit.Hid (PrdQ wr w3.heap.size 0 (predsK []))∧Below w.heap.size w wr) (fun _ _=>0)
    case atStart=>exact ⟨rfl,HB4,HM0,HW4.out⟩
    case round =>
     obtain ⟨rfl,HX,HPQ,hbx⟩:=hrel
     have HQX:=Lib.hid hq2
     clear p0 p1
     obtain ⟨p0,p1,p2,p3,p4,p5,p6⟩:=pg_cells HX.out
     have HBX:=Lib.hid hbx
     have hwsz:w.heap.size < wr.heap.size:=lt_heap HX.out
     have hNl2:=HPQ.out.lt
     have HC3:=Lib.hid (HSC.out wr.drew w3.heap.size hbx.drew)
     have HB2:=Lib.hid (Below.refl wr.heap.size wr).drew
     clear hbx HX
     go_wp2_with fail
     go_region_held3 (fun wz=>wz.cell? ⟨w.heap.size,0,none⟩=some (.slice da ds.length dc)∧wz.cell? ⟨w.heap.size,2,none⟩=some (.string T.op)∧wz.cell? ⟨w.heap.size,3,none⟩=some (.string T.name)∧wz.cell? ⟨w.heap.size,4,none⟩=some (.int .i64 T.n)∧wz.cell? ⟨w.heap.size,5,none⟩=some (.int .i64 T.pos)∧wz.cell? ⟨w.heap.size,6,none⟩=some (.slice T.a T.kids.len T.cap)) (go_keep) (first | (go_at_call 39;refine HC3.out.mono ?_;rintro e w4 ⟨M,nM,rfl,hM1,hM2,ho4,hb4⟩;replace p0:=cell_below (HB2.out.trans (hb4.mono HB2.out.size)) p0;replace p2:=cell_below (HB2.out.trans (hb4.mono HB2.out.size)) p2;replace p3:=cell_below (HB2.out.trans (hb4.mono HB2.out.size)) p3;replace p4:=cell_below (HB2.out.trans (hb4.mono HB2.out.size)) p4;replace p5:=cell_below (HB2.out.trans (hb4.mono HB2.out.size)) p5;replace p6:=cell_below (HB2.out.trans (hb4.mono HB2.out.size)) p6;have HW5:=Lib.hid (HBX.out.trans ((HB2.out.trans (hb4.mono HB2.out.size)).mono HBX.out.size));have HC5:=Lib.hid (HFQ.out w4 M nM w3.heap.size _ ho4 (Nat.ne_of_lt (Nat.lt_of_lt_of_le hNl2 hM1)) hM2 HW5.out (HPQ.out.below (HB2.out.trans (hb4.mono HB2.out.size))));have hM3:w.heap.size≤M:=Nat.le_trans (Nat.le_of_lt hwsz) hM1;have HCW:=Lib.hid (fun w5 (h:Kp M w4 w5)=>ho4.cl h);clear ho4 hb4) | (go_at_call 40;refine HC5.out.mono ?_;rintro e w5 ⟨rfl,hk5,m5,hm5,ho5⟩;have HW6:=Lib.hid (below_kpK HW5.out hk5 hM3);replace p0:=(HCW.out w5 hk5).cell _ _ p0;replace p2:=(HCW.out w5 hk5).cell _ _ p2;replace p3:=(HCW.out w5 hk5).cell _ _ p3;replace p4:=(HCW.out w5 hk5).cell _ _ p4;replace p5:=(HCW.out w5 hk5).cell _ _ p5;replace p6:=(HCW.out w5 hk5).cell _ _ p6;clear hk5 ho5))
     clear HCW HC5 HC3 HW5 HB2 HFQ HSC HBX p0 p2 p3 p4 p5 p6
     go_wp2_with fail
     go_ret2
     exact ⟨by rw [HQX.out];rfl,HW6.out⟩
   ·subst hab
    have HA:=Lib.hid hat
    clear hat
    go_wp2_with fail
    go_loopw [28] (fun i wr=>∃ k:Nat,i=.int .i64 k∧k≤ps.length∧RowKit.Hid (qp=predsR (ps.take k) (ps.drop k))∧RowKit.Hid (wr.heap[w.heap.size]? = some (pgB da ds.length dc (some ⟨b,o,none⟩) ps.length pc T))∧RowKit.Hid (PrdQ wr w3.heap.size k (predsK (ps.take k)))∧Below w.heap.size w wr) (fun i _=>ps.length - (intOf i).toNat)
    case atStart=>exact ⟨0,rfl,by omega,HQP,HB4,HM0,HW4.out⟩
    case round =>
     obtain ⟨k,rfl,hk,HL,HX,HPQ,hbx⟩:=hrel
     by_cases hkl:k < ps.length
     ·have hkl2:(k:Int) < ps.length:=by omega
      have hg:=List.getElem?_eq_getElem hkl
      have hpa:=(HA.out k (ps[k]'hkl) hg).below hbx
      have hfi:=(HPF.out (ps[k]'hkl) (List.getElem_mem _)).below hbx
      have hokp:=HPO.out (ps[k]'hkl) (List.getElem_mem _)
      have hdr:ps.drop k=(ps[k]'hkl) :: ps.drop (k+1):=List.drop_eq_getElem_cons hkl
      have htk:ps.take (k+1)=ps.take k ++ [ps[k]'hkl]:=by rw [List.take_add_one,hg];rfl
      clear hg
      generalize (ps[k]'hkl)=P at hpa hfi hokp hdr htk
      have hokb:P.body.okF=true∧P.params.length≤6:=by
       unfold Pd.ok at hokp
       simp only [Bool.and_eq_true,decide_eq_true_eq] at hokp
       exact ⟨hokp.2,by omega⟩
      have hqq:qp=(if (predR (predsK (ps.take k)) P).2=0 then predsR (ps.take k ++ [P]) (ps.drop (k+1)) else predR (predsK (ps.take k)) P):=by rw [HL.out,hdr];rfl
      have hcall:=kpred_any P (wr.alloc (pdBox P)) w3.heap.size k (predsK (ps.take k)) (HPQ.out.below (below_box _ _)) (by omega) (hfi.params.below (below_box _ _)) (hfi.body.below (below_box _ _)) hfi.sized hfi.name hokb.1 hfi.size
      have hsome:=@predR_some (predsK (ps.take k)) P
      have hsn:=predsK_snoc (ps.take k) P
      generalize predR (predsK (ps.take k)) P=qr at hqq hcall hsome
      obtain ⟨qr1,qre⟩:=qr
      simp only [] at hqq hcall hsome
      have HCL:=Lib.hid hcall
      obtain ⟨c0,c1,c2,c3,c4,c5,c6,c7⟩:=hpa
      obtain ⟨x0,x1,x2,x3,x4,x5,x6,x7⟩:=pdb_cells (new_at wr (pdBox P))
      have HNB:=Lib.hid (new_at wr (pdBox P))
      have hnm:P.name.size≤maxLen:=by have:=hfi.name;unfold maxLen;omega
      have HFI:=Lib.hid hfi
      have HTK:=Lib.hid htk
      have HSN:=Lib.hid hsn
      have HSO:=Lib.hid hsome
      have hNl:=HPQ.out.lt
      clear hcall hfi hokp hokb htk hsn hsome hdr HL
      by_cases hre:qre=0
      ·have HL2:=Lib.hid (show qp=predsR (ps.take k ++ [P]) (ps.drop (k+1)) from by rw [hqq,if_pos hre])
       have hnone:=HSO.out hre
       clear hqq
       subst hre
       go_wp2_with fail
       refine HCL.out.mono ?_
       rintro e w5 ⟨rfl,hb5⟩
       have hbb5:=box_then hb5
       have HBW:=Lib.hid (hbx.trans (hbb5.mono hbx.size))
       have HX5:=Lib.hid ((hbb5.block _ (lt_heap HX.out)).trans HX.out)
       have HP5:=Lib.hid (HPQ.out.below hbb5)
       have HNB5:=Lib.hid ((hb5.block _ (lt_heap HNB.out)).trans HNB.out)
       have HDI5:=Lib.hid (HFI.out.params.below hbb5)
       have HN0:=Lib.hid hnone
       clear hb5 hbb5 HCL c0 c1 c2 c3 c4 c5 c6 c7 x0 x1 x2 x3 x4 x5 x6 x7 HX HPQ HNB HFI HSO hnone
       obtain ⟨x0,x1,x2,x3,x4,x5,x6,x7⟩:=pdb_cells HNB5.out
       obtain ⟨f5,hsm5,hf5⟩:=HP5.out
       have HSM5:=Lib.hid hsm5
       have HF5:=Lib.hid hf5
       clear hsm5 hf5 x2 x3 x4 x5 x6 x7
       go_wp2_with (at_mapUpdate;refine wpList_update_smap _ rfl _ _ _ 79 rfl 9 22 Tryd.underlying9 Tryd.underlying79 w3.heap.size k f5 rfl HSM5.out (by unfold maxLen;omega) P.name (.slice P.pa P.params.length P.pcap) rfl rfl hnm ?_;intro w9 hm9 hg9 hz9)
       have hw3l:w.heap.size≤w3.heap.size:=by omega
       have hbx9:Below w.heap.size w w9:=below_kpK HBW.out hg9 hw3l
       have hcl9:Cl w5 w9:=by
        obtain ⟨D,⟨es,clock,hb,_⟩,_⟩:=HSM5.out
        exact Cl.of_kp hb hg9
       have HX9:=Lib.hid ((hg9.block w.heap.size (by have:=lt_heap HX5.out;omega) (fun e=>by have:=Option.some.inj e;omega)).trans HX5.out)
       have HP9:RowKit.Hid (PrdQ w9 w3.heap.size (k+1) (predsK (ps.take (k+1)))):=Lib.hid (by
        rw [HTK.out]
        refine ⟨_,hm9,fun s=>?_⟩
        rw [HSN.out HN0.out s]
        by_cases hs:s=P.name
        ·rw [if_pos hs,if_pos hs]
         exact .inr ⟨P.pa,P.pcap,P.params,rfl,rfl,HDI5.out.cl hcl9⟩
        ·rw [if_neg hs,if_neg hs]
         rcases HF5.out s with h | ⟨a',c',ds',g1,g2,g3⟩
         ·exact .inl h
         ·exact .inr ⟨a',c',ds',g1,g2,g3.cl hcl9⟩)
       clear hg9 hm9 hz9 hcl9 HSM5 HF5 HX5 HP5 HNB5 HDI5 HBW x0 x1 hbx
       go_wp2_with fail
       go_roundw
       case rel=>exact ⟨k+1,by go_num,by omega,Lib.hid (by rw [HTK.out];exact HL2.out),HX9,HP9,hbx9⟩
       case measure=>(try simp [intOf]);omega
      ·have hz:q0=(qr1,qre):=by rw [HQ2.out,hqq,if_neg hre,if_neg hre]
       have heb:(qre != 0)=true:=by simp [hre]
       clear hqq hre
       subst hz
       go_wp2_with fail
       refine HCL.out.mono ?_
       rintro e w5 ⟨rfl,hb5⟩
       have hbx5:=hbx.trans ((box_then hb5).mono hbx.size)
       clear hb5 HCL c0 c1 c2 c3 c4 c5 c6 c7 x0 x1 x2 x3 x4 x5 x6 x7
       go_wp2_with fail
       go_ret2
       exact ⟨rfl,hbx5⟩
     ·obtain rfl:k=ps.length:=by omega
      have hq2:q0=T.fk (predsK ps) (ordD ds):=by rw [HQ2.out,HL.out,List.drop_length];rfl
      have hPQ:=HPQ.out
      rw [List.take_length] at hPQ
      replace HPQ:=Lib.hid hPQ
      clear hPQ
      have HQX:=Lib.hid hq2
      clear p0 p1
      obtain ⟨p0,p1,p2,p3,p4,p5,p6⟩:=pg_cells HX.out
      have HBX:=Lib.hid hbx
      have hwsz:w.heap.size < wr.heap.size:=lt_heap HX.out
      have hNl2:=HPQ.out.lt
      have HC3:=Lib.hid (HSC.out wr.drew w3.heap.size hbx.drew)
      have HB2:=Lib.hid (Below.refl wr.heap.size wr).drew
      clear hbx HX
      go_wp2_with fail
      go_region_held3 (fun wz=>wz.cell? ⟨w.heap.size,0,none⟩=some (.slice da ds.length dc)∧wz.cell? ⟨w.heap.size,2,none⟩=some (.string T.op)∧wz.cell? ⟨w.heap.size,3,none⟩=some (.string T.name)∧wz.cell? ⟨w.heap.size,4,none⟩=some (.int .i64 T.n)∧wz.cell? ⟨w.heap.size,5,none⟩=some (.int .i64 T.pos)∧wz.cell? ⟨w.heap.size,6,none⟩=some (.slice T.a T.kids.len T.cap)) (go_keep) (first | (go_at_call 39;refine HC3.out.mono ?_;rintro e w4 ⟨M,nM,rfl,hM1,hM2,ho4,hb4⟩;replace p0:=cell_below (HB2.out.trans (hb4.mono HB2.out.size)) p0;replace p2:=cell_below (HB2.out.trans (hb4.mono HB2.out.size)) p2;replace p3:=cell_below (HB2.out.trans (hb4.mono HB2.out.size)) p3;replace p4:=cell_below (HB2.out.trans (hb4.mono HB2.out.size)) p4;replace p5:=cell_below (HB2.out.trans (hb4.mono HB2.out.size)) p5;replace p6:=cell_below (HB2.out.trans (hb4.mono HB2.out.size)) p6;have HW5:=Lib.hid (HBX.out.trans ((HB2.out.trans (hb4.mono HB2.out.size)).mono HBX.out.size));have HC5:=Lib.hid (HFQ.out w4 M nM w3.heap.size _ ho4 (Nat.ne_of_lt (Nat.lt_of_lt_of_le hNl2 hM1)) hM2 HW5.out (HPQ.out.below (HB2.out.trans (hb4.mono HB2.out.size))));have hM3:w.heap.size≤M:=Nat.le_trans (Nat.le_of_lt hwsz) hM1;have HCW:=Lib.hid (fun w5 (h:Kp M w4 w5)=>ho4.cl h);clear ho4 hb4) | (go_at_call 40;refine HC5.out.mono ?_;rintro e w5 ⟨rfl,hk5,m5,hm5,ho5⟩;have HW6:=Lib.hid (below_kpK HW5.out hk5 hM3);replace p0:=(HCW.out w5 hk5).cell _ _ p0;replace p2:=(HCW.out w5 hk5).cell _ _ p2;replace p3:=(HCW.out w5 hk5).cell _ _ p3;replace p4:=(HCW.out w5 hk5).cell _ _ p4;replace p5:=(HCW.out w5 hk5).cell _ _ p5;replace p6:=(HCW.out w5 hk5).cell _ _ p6;clear hk5 ho5))
      clear HCW HC5 HC3 HW5 HB2 HFQ HSC HBX p0 p2 p3 p4 p5 p6
      go_wp2_with fail
      go_ret2
      exact ⟨by rw [HQX.out];rfl,HW6.out⟩
  ·rw [if_neg hoe] at hqc
   have hob:(oe != 0)=true:=by simp [hoe]
   subst hqc
   clear hoe HQC
   go_wp2_with fail
   go_ret2
   exact ⟨rfl,HW3.out⟩
 ·rw [if_neg (by rw [hok];decide)] at hqc
  rw [hok] at HC1
  clear hq0 hok
  subst hqc
  go_enter Tryd.func12,Tryd.ntmps12
  go_wp2_with fail
  refine HC1.out.mono ?_
  rintro e w2 ⟨rfl,hb2⟩
  have hbb:=HW.out.trans (hb2.mono HW.out.size)
  clear hb2 HC1
  go_wp2_with fail
  go_ret2
  exact ⟨rfl,hbb⟩
end Go.Proofs.YtmlmjopfbohglaaDoor
