/- Parts of the proof: TrCb GFine GIs KMap KPure KA. -/
import Derived.Test.YtmlmjopfbohglaaGreatDoorPg16
import Derived.Test.YtmlmjopfbohglaaGreatDoorPg17
import Derived.Maps.OwnOps
import Derived.Deep.RegionHeld3
import Derived.OrdersHeld
namespace Go.Proofs.YtmlmjopfbohglaaGreatDoor
open Go.RowKit
set_option maxRecDepth 100000 in
set_option maxHeartbeats 4000000 in
theorem inBounds_any (T:Nd) (w:World) (hT:T.In w) (hs:T.size≤2000):Calls Tryz.prog 142 #[T.val] w fun e w'=>(∃ d,DepthOut T d∧e=.returned (.bool (decide (d≤30))))∧Below w.heap.size w w':=by
 obtain ⟨op,name,n,pos,a,cap,kids⟩:=T
 have hsv:min (((Nd.mk op name n pos a cap kids).size:Nat):Int) 2001=(Nd.mk op name n pos a cap kids).size:=by omega
 have hc1:=tsize_any ⟨op,name,n,pos,a,cap,kids⟩ (w.alloc (boxOf op name n pos a kids.len cap)) (hT.below (below_box _ _))
 rw [hsv] at hc1
 have hs2:(((Nd.mk op name n pos a cap kids).size:Nat):Int)≤2000:=by omega
 have HC1:=Lib.hid hc1
 have HT:=Lib.hid hT
 have HS:=Lib.hid hs
 have HB:=Lib.hid (new_at w (boxOf op name n pos a kids.len cap))
 have hc5:=cellsNode
 have hsz1:=alloc_size w (boxOf op name n pos a kids.len cap)
 have HZ:=Lib.hid hsz1
 clear hc1 hT hsv hs hsz1
 generalize (((Nd.mk op name n pos a cap kids).size:Nat):Int)=z at HC1 hs2
 rw [Nd.val_def]
 go_enter Tryz.func142,Tryz.ntmps142
 go_wp2_with fail
 refine HC1.out.mono ?_
 rintro e w2 ⟨rfl,hb2⟩
 have hblk:w2.heap[w.heap.size]? = some (boxOf op name n pos a kids.len cap):=by
  rw [hb2.block _ (by have:=HZ.out;omega)];exact HB.out
 have b0:w2.cell? ⟨w.heap.size,0,none⟩=some (.string op):=by rw [cell_of_row _ _ _ _ _ _ hblk];rfl
 have b1:w2.cell? ⟨w.heap.size,1,none⟩=some (.string name):=by rw [cell_of_row _ _ _ _ _ _ hblk];rfl
 have b2:w2.cell? ⟨w.heap.size,2,none⟩=some (.int .i64 n):=by rw [cell_of_row _ _ _ _ _ _ hblk];rfl
 have b3:w2.cell? ⟨w.heap.size,3,none⟩=some (.int .i64 pos):=by rw [cell_of_row _ _ _ _ _ _ hblk];rfl
 have b4:w2.cell? ⟨w.heap.size,4,none⟩=some (.slice a kids.len cap):=by rw [cell_of_row _ _ _ _ _ _ hblk];rfl
 have hbb:=box_then hb2
 have hc2:=depth_any ⟨op,name,n,pos,a,cap,kids⟩ w2 (HT.out.below hbb) (by have:=HS.out;omega)
 have HC2:=Lib.hid hc2
 clear hc2 hb2 hblk HC1
 go_wp2_with fail
 refine HC2.out.mono ?_
 rintro e w3 ⟨⟨d,rfl,hd⟩,hb3⟩
 have HD:=Lib.hid hd
 clear hd
 go_wp2
 go_ret
 exact ⟨⟨d,HD.out,rfl⟩,hbb.trans (hb3.mono hbb.size)⟩
set_option maxRecDepth 100000 in
set_option maxHeartbeats 8000000 in
theorem isFormula_fine (T:Nd) (w:World) (hU:LTabs w) (hT:T.In w) (hsz:T.sized) (hd:T.deep≤30) (hs:T.size≤2000):Calls Tryz.prog 94 #[T.val] w fun e w'=>e=.returned (.bool T.okF)∧Below w.heap.size w w':=by
 have hf:=fun W h1 h2=>formulas_all T W h1 h2 hsz
 have hb:=fun W h=>inBounds_any T W h hs
 obtain ⟨op,name,n,pos,a,cap,kids⟩:=T
 generalize (Nd.mk op name n pos a cap kids).okF=q at hf
 have HI:=Lib.hid hT
 have HU:=Lib.hid hU
 have HF:=Lib.hid hf
 have HC:=Lib.hid (hb (w.alloc (boxOf op name n pos a kids.len cap)) (hT.below (below_box _ _)))
 have HB:=Lib.hid (new_at w (boxOf op name n pos a kids.len cap))
 have HZ:=Lib.hid (lt_heap HB.out)
 have HD:=Lib.hid (And.intro hd hs)
 have hc5:=cellsNode
 clear hf hb hT hU hd hs hsz
 rw [Nd.val_def]
 go_enter Tryz.func94,Tryz.ntmps94
 go_wp2_with fail
 refine HC.out.mono ?_
 rintro e w2 ⟨⟨d,hd,rfl⟩,hb2⟩
 have hdl:d≤30:=by have h1:=hd.2.2.1;have h2:=HD.out.1;omega
 rw [decide_eq_true hdl]
 clear hd hdl
 have hbb:=box_then hb2
 obtain ⟨b0,b1,b2,b3,b4⟩:=box_cells (show w2.heap[w.heap.size]? = _ from (hb2.block _ HZ.out).trans HB.out)
 have hcall:=HF.out w2 (HU.out.below hbb) (HI.out.below hbb)
 rw [Nd.val_def] at hcall
 have HC2:=Lib.hid hcall
 clear hb2 HC hcall
 go_wp2_with fail
 refine HC2.out.mono ?_
 rintro e w3 ⟨rfl,hb3⟩
 have hb4:=hbb.trans (hb3.mono hbb.size)
 clear hb3 HC2
 go_wp2_with fail
 go_ret
 exact ⟨rfl,hb4⟩
set_option maxRecDepth 100000 in
set_option maxHeartbeats 16000000 in
theorem mayBeDecls_any (l:List Dc) (a:Option Addr) (cap:Nat) (w:World) (hT:LTabs w) (h:DcsIn w a l):Calls Tryz.prog 93 #[.slice a l.length cap] w fun e w'=>e=.returned (.bool (l.all Dc.ok))∧Below w.heap.size w w':=by
 have hc3:=cellsDecl
 have HT:=Lib.hid hT
 clear hT
 rcases h with rfl | ⟨b,o,rfl,hlim,hat,hsz⟩
 ·show Calls _ _ #[.slice a 0 cap] w _
  go_enter Tryz.func93,Tryz.ntmps93
  go_wp2_with fail
  go_loopw [7] (fun i wr=>i=.int .i64 0∧Below w.heap.size w wr) (fun _ _=>0)
  case atStart=>exact ⟨rfl,Below.refl _ _⟩
  case round =>
   obtain ⟨rfl,hbx⟩:=hrel
   go_wp2_with fail
   go_ret
   exact ⟨rfl,hbx⟩
 ·have HA:=Lib.hid hat
  have HS:=Lib.hid hsz
  clear hat hsz
  go_enter Tryz.func93,Tryz.ntmps93
  go_wp2_with fail
  go_loopw [7] (fun i wr=>∃ k:Nat,i=.int .i64 k∧k≤l.length∧RowKit.Hid (l.all Dc.ok=(l.drop k).all Dc.ok)∧Below w.heap.size w wr) (fun i _=>l.length - (intOf i).toNat)
  case atStart=>exact ⟨0,rfl,by omega,Lib.hid rfl,Below.refl _ _⟩
  case round =>
   obtain ⟨k,rfl,hk,HL,hbx⟩:=hrel
   by_cases hkl:k < l.length
   ·have hkl2:(k:Int) < l.length:=by omega
    have hg:=List.getElem?_eq_getElem hkl
    obtain ⟨c0,c1,c2⟩:=(HA.out k (l[k]'hkl) hg).below hbx
    have hns:=HS.out (l[k]'hkl) (List.getElem_mem _)
    have HD:RowKit.Hid (l.drop k=(l[k]'hkl) :: l.drop (k+1)):=Lib.hid (List.drop_eq_getElem_cons hkl)
    clear hg
    generalize (l[k]'hkl)=d at c0 c1 c2 hns HD
    obtain ⟨nm,od,po⟩:=d
    simp only [] at c0 c1 c2 hns
    have HC:=Lib.hid (mayBeName_any nm (wr.alloc (.cells #[.string nm,.int .i64 od,.int .i64 po] 120)) hns (HT.out.below (hbx.alloc hbx.size _)))
    have HB:=Lib.hid (new_at wr (.cells #[.string nm,.int .i64 od,.int .i64 po] 120))
    go_wp2_with fail
    refine HC.out.mono ?_
    rintro e w2 ⟨rfl,hb2⟩
    have hblk:=(hb2.block _ (lt_heap HB.out)).trans HB.out
    have d1:w2.cell? ⟨wr.heap.size,1,none⟩=some (.int .i64 od):=by rw [cell_of_row _ _ _ _ _ _ hblk];rfl
    have hbx2:=hbx.trans ((box_then hb2).mono hbx.size)
    clear hb2 hblk HC c0 c1 c2 HB
    by_cases hn:nameB nm=true
    ·rw [hn]
     by_cases h0:0≤od
     ·by_cases h2:od≤2
      ·have HL2:=Lib.hid (show l.all Dc.ok=(l.drop (k+1)).all Dc.ok from by rw [HL.out,HD.out,List.all_cons];unfold Dc.ok;rw [hn,decide_eq_true h0,decide_eq_true h2];rfl)
       clear hn
       go_wp2_with fail
       go_roundw
       case rel=>exact ⟨k+1,by go_num,by omega,HL2,hbx2⟩
       case measure=>(try simp [intOf]);omega
      ·have HL2:=Lib.hid (show l.all Dc.ok=false from by rw [HL.out,HD.out,List.all_cons];unfold Dc.ok;rw [decide_eq_false h2];simp)
       clear hn
       go_wp2_with fail
       go_ret
       exact ⟨by rw [HL2.out];rfl,hbx2⟩
     ·have HL2:=Lib.hid (show l.all Dc.ok=false from by rw [HL.out,HD.out,List.all_cons];unfold Dc.ok;rw [decide_eq_false h0];simp)
      clear hn
      go_wp2_with fail
      go_ret
      exact ⟨by rw [HL2.out];rfl,hbx2⟩
    ·have hn2:nameB nm=false:=by simpa using hn
     have HL2:=Lib.hid (show l.all Dc.ok=false from by rw [HL.out,HD.out,List.all_cons];unfold Dc.ok;rw [hn2];simp)
     rw [hn2]
     clear hn hn2
     go_wp2_with fail
     go_ret
     exact ⟨by rw [HL2.out];rfl,hbx2⟩
   ·obtain rfl:k=l.length:=by omega
    have HL2:=Lib.hid (show l.all Dc.ok=true from by rw [HL.out,List.drop_length];rfl)
    go_wp2_with fail
    go_ret
    exact ⟨by rw [HL2.out];rfl,hbx⟩
set_option maxRecDepth 100000 in
set_option maxHeartbeats 16000000 in
theorem is_any (ds:List Dc) (da:Option Addr) (dc:Nat) (ps:List Pd) (pa:Option Addr) (pc:Nat) (T:Nd) (w:World) (hT:LTabs w) (hd:DcsIn w da ds) (hp:PdsIn w pa ps) (hm:T.In w) (hms:T.sized) (hmd:T.deep≤30) (hmz:T.size≤2000) :
  Calls Tryz.prog 52 #[.agg #[.slice da ds.length dc,.slice pa ps.length pc,.string T.op,.string T.name,.int .i64 T.n,.int .i64 T.pos,.slice T.a T.kids.len T.cap]] w fun e w'=>e=.returned (.bool (ps.all Pd.ok && ds.all Dc.ok && T.okF))∧Below w.heap.size w w':=by
 have hc5:=cellsNode
 have hc8:=cellsPred
 have HT:=Lib.hid hT
 have HDS:=Lib.hid hd
 have HPS:=Lib.hid hp.2
 have HM:=Lib.hid (fun W (hb:Below w.heap.size w W)=>isFormula_fine T W (hT.below hb) (hm.below hb) hms hmd hmz)
 obtain ⟨op,name,n,pos,a,cap,kids⟩:=T
 generalize (Nd.mk op name n pos a cap kids).okF=q at HM ⊢
 have HB:=Lib.hid (new_at w (.cells (pgCells da ds.length dc pa ps.length pc op name n pos a kids.len cap) 28))
 have HPI:=Lib.hid hp.1
 clear hT hd hp hm hms hmd hmz
 show Calls _ _ #[.agg #[.slice da ds.length dc,.slice pa ps.length pc,.string op,.string name,.int .i64 n,.int .i64 pos,.slice a kids.len cap]] w _
 go_enter Tryz.func52,Tryz.ntmps52
 go_wp2_with fail
 go_loopw [8] (fun i wr=>∃ k:Nat,i=.int .i64 k∧k≤ps.length∧RowKit.Hid (ps.all Pd.ok=(ps.drop k).all Pd.ok)∧RowKit.Hid (wr.heap[w.heap.size]? = some (.cells (pgCells da ds.length dc pa ps.length pc op name n pos a kids.len cap) 28))∧Below w.heap.size w wr) (fun i _=>ps.length - (intOf i).toNat)
 case atStart=>exact ⟨0,rfl,by omega,Lib.hid rfl,HB,below_box _ _⟩
 case round =>
  obtain ⟨k,rfl,hk,HL,HX,hbx⟩:=hrel
  by_cases hkl:k < ps.length
  ·have hkl2:(k:Int) < ps.length:=by omega
   have hg:=List.getElem?_eq_getElem hkl
   obtain ⟨pb,po,hpa,hplim,hpat⟩:∃ b o,pa=some ⟨b,o,none⟩∧ps.length≤140737488351232∧∀ i p,ps[i]? = some p→PdAt w b (o+i * 8) p:=by
    rcases HPI.out with h | h
    ·rw [h] at hkl;exact absurd hkl (Nat.not_lt_zero _)
    ·exact h
   subst hpa
   obtain ⟨c0,c1,c2,c3,c4,c5,c6,c7⟩:=(hpat k (ps[k]'hkl) hg).below hbx
   have HF:=Lib.hid (HPS.out (ps[k]'hkl) (List.getElem_mem _))
   have HD:RowKit.Hid (ps.drop k=(ps[k]'hkl) :: ps.drop (k+1)):=Lib.hid (List.drop_eq_getElem_cons hkl)
   clear hg hpat
   generalize (ps[k]'hkl)=p at c0 c1 c2 c3 c4 c5 c6 c7 HF HD
   obtain ⟨nm,prs,ppa,ppc,⟨bop,bname,bn,bpos,ba,bcap,bkids⟩,ppos⟩:=p
   simp only [] at c0 c1 c2 c3 c4 c5 c6 c7
   have HS1:=Lib.hid (new_at wr (.cells (pdCells nm ppa prs.length ppc bop bname bn bpos ba bkids.len bcap ppos) 67))
   have HC:=Lib.hid (mayBeName_any nm (wr.alloc (.cells (pdCells nm ppa prs.length ppc bop bname bn bpos ba bkids.len bcap ppos) 67)) HF.out.name (HT.out.below (hbx.alloc hbx.size _)))
   have HP:RowKit.Hid (ps.all Pd.ok=((nameB nm && decide ((prs.length:Int)≤6) && prs.all Dc.ok && (Nd.mk bop bname bn bpos ba bcap bkids).okF) && (ps.drop (k+1)).all Pd.ok)):=Lib.hid (by rw [HL.out,HD.out,List.all_cons];rfl)
   have HBF:=Lib.hid (fun W (hb:Below w.heap.size w W)=>isFormula_fine ⟨bop,bname,bn,bpos,ba,bcap,bkids⟩ W (HT.out.below hb) (HF.out.body.below hb) HF.out.sized HF.out.deep HF.out.size)
   generalize (Nd.mk bop bname bn bpos ba bcap bkids).okF=bq at HP HBF
   go_wp2_with fail
   refine HC.out.mono ?_
   rintro e w2 ⟨rfl,hb2⟩
   have hbx2:=hbx.trans ((box_then hb2).mono hbx.size)
   have HS2:=Lib.hid ((hb2.block _ (lt_heap HS1.out)).trans HS1.out)
   obtain ⟨s0,s1,s2,s3,s4,s5,s6⟩:=pd_cells HS2.out
   have HX2:=Lib.hid (((box_then hb2).block _ (lt_heap HX.out)).trans HX.out)
   clear hb2 HC c0 c1 c2 c3 c4 c5 c6 c7 HS1
   generalize nameB nm=qn at HP ⊢
   cases qn with
   | false =>
    go_wp2_with fail
    go_ret
    exact ⟨by rw [HP.out];rfl,hbx2⟩
   | true =>
    by_cases h6:(prs.length:Int)≤6
    case neg =>
     have HP2:=Lib.hid (show ps.all Pd.ok=false from by rw [HP.out,decide_eq_false h6];rfl)
     go_wp2_with fail
     go_ret
     exact ⟨by rw [HP2.out];rfl,hbx2⟩
    have HP2:=Lib.hid (show ps.all Pd.ok=((prs.all Dc.ok && bq) && (ps.drop (k+1)).all Pd.ok) from by rw [HP.out,decide_eq_true h6];rfl)
    have HC3:=Lib.hid (mayBeDecls_any prs ppa ppc w2 (HT.out.below hbx2) (HF.out.params.below hbx2))
    go_wp2_with fail
    refine HC3.out.mono ?_
    rintro e w3 ⟨rfl,hb3⟩
    have hbx3:=hbx2.trans (hb3.mono hbx2.size)
    clear s0 s1 s2 s3 s4 s5 s6
    have HS3:=Lib.hid ((hb3.block _ (lt_heap HS2.out)).trans HS2.out)
    obtain ⟨s0,s1,s2,s3,s4,s5,s6⟩:=pd_cells HS3.out
    have HX3:=Lib.hid ((hb3.block _ (lt_heap HX2.out)).trans HX2.out)
    clear hb3 HC3
    generalize prs.all Dc.ok=qd at HP2 ⊢
    cases qd with
    | false =>
     go_wp2_with fail
     go_ret
     exact ⟨by rw [HP2.out];rfl,hbx3⟩
    | true =>
     have hcall:=HBF.out w3 hbx3
     rw [Nd.val_def] at hcall
     have HC4:=Lib.hid hcall
     clear hcall
     go_wp2_with fail
     refine HC4.out.mono ?_
     rintro e w4 ⟨rfl,hb4⟩
     have hbx4:=hbx3.trans (hb4.mono hbx3.size)
     have HX4:=Lib.hid ((hb4.block _ (lt_heap HX3.out)).trans HX3.out)
     clear hb4 HC4 s0 s1 s2 s3 s4 s5 s6
     cases bq with
     | false =>
      go_wp2_with fail
      go_ret
      exact ⟨by rw [HP2.out];rfl,hbx4⟩
     | true =>
      have HL4:=Lib.hid (show ps.all Pd.ok=(ps.drop (k+1)).all Pd.ok from by rw [HP2.out];rfl)
      go_wp2_with fail
      go_roundw
      case rel=>exact ⟨k+1,by go_num,by omega,HL4,HX4,hbx4⟩
      case measure=>(try simp [intOf]);omega
  ·obtain rfl:k=ps.length:=by omega
   have HL2:=Lib.hid (show ps.all Pd.ok=true from by rw [HL.out,List.drop_length];rfl)
   obtain ⟨b0,b1,b2,b3,b4,b5,b6⟩:=pg_cells HX.out
   have HC:=Lib.hid (mayBeDecls_any ds da dc wr (HT.out.below hbx) (HDS.out.below hbx))
   go_wp2_with fail
   refine HC.out.mono ?_
   rintro e w2 ⟨rfl,hb2⟩
   have hbx2:=hbx.trans (hb2.mono hbx.size)
   clear b0 b1 b2 b3 b4 b5 b6
   obtain ⟨b0,b1,b2,b3,b4,b5,b6⟩:=pg_cells ((hb2.block _ (lt_heap HX.out)).trans HX.out)
   generalize hdd:ds.all Dc.ok=dd
   have HDD:=Lib.hid hdd
   clear hdd hb2 HC
   cases dd with
   | false =>
    go_wp2_with fail
    go_ret
    exact ⟨by rw [HL2.out,HDD.out];rfl,hbx2⟩
   | true =>
    have hcall:=HM.out w2 hbx2
    rw [Nd.val_def] at hcall
    have HC2:=Lib.hid hcall
    clear hcall
    go_wp2_with fail
    refine HC2.out.mono ?_
    rintro e w3 ⟨rfl,hb3⟩
    have hb4:=hbx2.trans (hb3.mono hbx2.size)
    clear hb3 HC2
    go_wp2_with fail
    go_ret
    exact ⟨by rw [HL2.out,HDD.out];rfl,hb4⟩
end Go.Proofs.YtmlmjopfbohglaaGreatDoor
namespace Go.Proofs.YtmlmjopfbohglaaGreatDoor
open Go.RowKit
open Go.Maps
def heldR:Value→Option (DataW Value × List MemPlace):=fun v=>some (.held v,[])
abbrev sKey (s:ByteArray):Lit:=.string s.data.toList
def SMap (P:Program) (k:TypeId) (w:World) (b n:Nat) (f:ByteArray→Option Value):Prop :=
 ∃ D:DataW Value,w.ownsMap P k heldR b n D∧Maps.IsMap D∧∀ s:ByteArray,Maps.has D (sKey s)=(f s).isSome∧∀ v,f s=some v→∀ z,D.atKey (sKey s) z=.held v
theorem sKey_inj {s t:ByteArray} (h:sKey s=sKey t):s=t:=by
 have h1:s.data.toList=t.data.toList:=Lit.string.inj h
 have h2:s.data=t.data:=Array.toList_inj.1 h1
 exact ByteArray.ext h2
theorem SMap.lt {P:Program} {k:TypeId} {w:World} {b n:Nat} {f:ByteArray→Option Value} (h:SMap P k w b n f):b < w.heap.size:=by
 obtain ⟨D,h1,_⟩:=h
 exact h1.lt
theorem SMap.same {P:Program} {k:TypeId} {w w':World} {b n:Nat} {f:ByteArray→Option Value} (h:SMap P k w b n f) (hs:w'.heap[b]? = w.heap[b]?):SMap P k w' b n f:=by
 obtain ⟨D,⟨es,clock,hb,r⟩,h2,h3⟩:=h
 exact ⟨D,⟨es,clock,hs.trans hb,r⟩,h2,h3⟩
theorem SMap.congr {P:Program} {k:TypeId} {w:World} {b n:Nat} {f g:ByteArray→Option Value} (h:SMap P k w b n f) (hf:∀ s,f s=g s):SMap P k w b n g:=by
 have:f=g:=funext hf
 rw [← this]
 exact h
theorem SMap.made (P:Program) (k:TypeId) (w:World):SMap P k (w.alloc (.map #[] 0)) w.heap.size 0 (fun _=>none) :=
 ⟨.map [],World.ownsMap_made _ _ _ _,(World.ownsMap_made w P k heldR).isMap,fun s=>⟨rfl,fun v h=>by cases h⟩⟩
section
variable {P:Program} (w:World) {ops:Array Oper} {rest:List Oper} {o:Oper} {a:Act} {Q:Exit→Act→World→Prop}
theorem wpList_lookup_smap (hg:o.guard=none) (m x:Operand) (t:TypeId) (hop:o.op=Op.lookup t m x true)
  (k e:TypeId) (hk:P.underlying k=some .string) (ht:P.underlying t=some (.map k e)) {z:Value} (hz:(zeroValue e).run P w=.ok z w) (b n:Nat) (f:ByteArray→Option Value)
  (hm:a.eval m=.map (some b)) (hS:SMap P k w b n f) (s:ByteArray) (hx:a.eval x=.string s) (hs:s.size≤maxLen)
  (hK:wpList P ops Q rest (a.put o.dst (.tuple #[(f s).getD z,.bool (f s).isSome])) w) :
  wpList P ops Q (o :: rest) a w:=by
 obtain ⟨D,hown,hI,hf⟩:=hS
 refine wpList_lookup_own_ok w hg m x t hop k e (string_keyed hk) ht heldR hz (.held z) [] rfl b n D hm hown (.string s) (sKey s) hx (WideMaps.keyOf_string_mk hk hs) fun v ps hv=>?_
 rw [(hf s).1]
 have hv2:v=(f s).getD z:=by
  have h1:DataW.held v=D.atKey (sKey s) (.held z):=congrArg Prod.fst (Option.some.inj hv)
  cases hq:f s with
  | none =>
   have h2:=Maps.atKey_of_not_has (D:=D) (k:=sKey s) (by rw [(hf s).1,hq];rfl) (.held z)
   rw [h2] at h1
   exact DataW.held.inj h1
  | some u =>
   rw [(hf s).2 u hq] at h1
   exact DataW.held.inj h1
 rw [hv2]
 exact hK
theorem wpList_update_smap (hg:o.guard=none) (m x y:Operand) (t:TypeId) (hop:o.op=Op.mapUpdate t m x y)
  (k e:TypeId) (hk:P.underlying k=some .string) (ht:P.underlying t=some (.map k e)) (b n:Nat) (f:ByteArray→Option Value)
  (hm:a.eval m=.map (some b)) (hS:SMap P k w b n f) (hn:n < maxLen) (s:ByteArray) (v:Value) (hx:a.eval x=.string s) (hy:a.eval y=v) (hs:s.size≤maxLen)
  (hK:∀ w',SMap P k w' b (n+1) (fun u=>if u=s then some v else f u)→w.grownBy w' (some b)→w'.heap.size=w.heap.size→wpList P ops Q rest (a.put o.dst undef) w') :
  wpList P ops Q (o :: rest) a w:=by
 obtain ⟨D,hown,hI,hf⟩:=hS
 refine wpList_mapUpdate_in w hg m x y t hop k e (string_keyed hk) ht heldR b n D hm hown hn (.string s) v (sKey s) hx hy (WideMaps.keyOf_string_mk hk hs) (.held v) [] rfl fun w' hown' hgr=>?_
 refine hK w' ⟨_,hown',hown'.isMap,fun u=>?_⟩ hgr.grown ?_
 ·by_cases hu:u=s
  ·subst hu
   simp only [if_true]
   refine ⟨Maps.has_put_same hI (by trivial) _,fun v' h' z=>?_⟩
   rw [← Option.some.inj h']
   exact Maps.atKey_put_same hI (by trivial) _ z
  ·simp only [if_neg hu]
   have hne:sKey u≠sKey s:=fun h=>hu (sKey_inj h)
   refine ⟨(Maps.has_put_other hne _).trans (hf u).1,fun v' h' z=>?_⟩
   rw [Maps.atKey_put_other hne]
   exact (hf u).2 v' h' z
 ·obtain ⟨es,clock,es2,clock2,hb,rfl⟩:=hgr
  simp [ChangeMaps.setBlock]
end
end Go.Proofs.YtmlmjopfbohglaaGreatDoor
namespace Go.Proofs.YtmlmjopfbohglaaGreatDoor
open Go.RowKit
structure KR where
 k:Int
 pos:Int
 e:Int
structure KS where
 n1:Int × Int
 n2:Int × Int
 h:KR
def stepK (O:ByteArray→Int) (op name:ByteArray) (pos:Int) (ks:KS):KR :=
 if op.toList == [118,97,114] then (if O name < 0 then ⟨0,pos,5⟩ else ⟨O name,0,0⟩)
 else if op.toList == [110,117,109] then ⟨1,0,0⟩
 else if op.toList == [112,108,117,115] then (if ks.h.e=0 then (if ks.h.k=1 then ⟨1,0,0⟩ else ⟨0,pos,7⟩) else ⟨0,ks.h.pos,ks.h.e⟩)
 else if op.toList == [115,101,116] then (if ks.n1.2=0 then ⟨2,0,0⟩ else ⟨0,ks.n1.1,ks.n1.2⟩)
 else (if ks.n2.2=0 then ⟨2,0,0⟩ else ⟨0,ks.n2.1,ks.n2.2⟩)
def mustK (want:Int) (r:KR) (pos:Int) (q:Int × Int):Int × Int:=if r.e=0 then (if r.k=want then q else (pos,7)) else (r.pos,r.e)
def Fo.ks (O:ByteArray→Int):Fo→KS
 | .nil=>⟨(0,0),(0,0),⟨0,0,0⟩⟩
 | .cons op name _ pos _ _ kids rest=>⟨mustK 1 (stepK O op name pos (kids.ks O)) pos (rest.ks O).n1,mustK 2 (stepK O op name pos (kids.ks O)) pos (rest.ks O).n2,stepK O op name pos (kids.ks O)⟩
def Nd.kd (O:ByteArray→Int) (T:Nd):KR:=stepK O T.op T.name T.pos (T.kids.ks O)
def Fo.rest:Fo→Fo
 | .nil=>.nil
 | .cons _ _ _ _ _ _ _ r=>r
def relOk (op:ByteArray) (a b:Int):Bool :=
 if op.toList == [101,113] || op.toList == [110,101] then decide (a=b) && !decide (a=0)
 else if op.toList == [108,116] || op.toList == [108,101] then decide (a=1) && decide (b=1)
 else if op.toList == [105,110] || op.toList == [110,111,116,105,110] then decide (a=1) && decide (b=2)
 else decide (a=2) && decide (b=2)
def relK (op:ByteArray) (pos:Int) (x y:KR):Int × Int :=
 if x.e=0 then (if y.e=0 then (if relOk op x.k y.k then (0,0) else (pos,7)) else (y.pos,y.e)) else (x.pos,x.e)
def callK (O:ByteArray→Int) (pos:Int):Fo→List Dc→Int × Int
 | .cons op name _ p _ _ kids rest,d :: ds=>if (stepK O op name p (kids.ks O)).e=0 then (if (stepK O op name p (kids.ks O)).k=d.order then callK O pos rest ds else (pos,7)) else ((stepK O op name p (kids.ks O)).pos,(stepK O op name p (kids.ks O)).e)
 | _,_=>(0,0)
def updO (O:ByteArray→Int) (x:ByteArray) (k:Int):ByteArray→Int:=fun y=>if y=x then k else O y
def stepFK (O:ByteArray→Int) (Q:ByteArray→Option (List Dc)) (op name:ByteArray) (n pos:Int) (kids:Fo) (kf:(ByteArray→Int)→Int × Int):Int × Int :=
 if op.toList == [101,120] || op.toList == [97,108,108] then kf (updO O name n)
 else if op.toList == [105,115] then (if O name < 0 then (pos,5) else if O name=0 then (0,0) else (pos,7))
 else if opFr op then relK op pos (kids.ks O).h (kids.rest.ks O).h
 else if op.toList == [99,97,108,108] then (match Q name with | none=>(pos,5) | some ds=>if kids.len=ds.length then callK O pos kids ds else (pos,7))
 else kf O
def Fo.fs (Q:ByteArray→Option (List Dc)):Fo→(ByteArray→Int)→Int × Int
 | .nil,_=>(0,0)
 | .cons op name n pos _ _ kids rest,O=>if (stepFK O Q op name n pos kids (kids.fs Q)).2=0 then rest.fs Q O else stepFK O Q op name n pos kids (kids.fs Q)
def Nd.fk (Q:ByteArray→Option (List Dc)) (O:ByteArray→Int) (T:Nd):Int × Int:=stepFK O Q T.op T.name T.n T.pos T.kids (T.kids.fs Q)
def ordD (l:List Dc):ByteArray→Int:=l.foldl (fun O d=>updO O d.name d.order) (fun _=>-1)
theorem ordD_snoc (l:List Dc) (d:Dc):ordD (l ++ [d])=updO (ordD l) d.name d.order:=by
 unfold ordD
 rw [List.foldl_append]
 rfl
def predsK (l:List Pd) (x:ByteArray):Option (List Dc):=(l.find? fun p=>decide (p.name=x)).map Pd.params
end Go.Proofs.YtmlmjopfbohglaaGreatDoor
namespace Go.Proofs.YtmlmjopfbohglaaGreatDoor
open Go.RowKit
open Go.Maps
abbrev scV (M:Nat) (pv:Value):Value:=.agg #[.map (some M),pv]
abbrev scBox (M:Nat) (pv:Value):Obj:=.cells #[.map (some M),pv] 86
theorem cellsScope:Tryz.prog.cellsOf 86=2:=by kernel_rfl
theorem sc_cells {w:World} {B M:Nat} {pv:Value} (h:w.heap[B]? = some (scBox M pv)):w.cell? ⟨B,0,none⟩=some (.map (some M))∧w.cell? ⟨B,1,none⟩=some pv:=by
 refine ⟨?_,?_⟩ <;> (rw [cell_of_row _ _ _ _ _ _ h];rfl)
def OrdIs (w:World) (M n:Nat) (O:ByteArray→Int):Prop:=∃ f:ByteArray→Option Value,SMap Tryz.prog 9 w M n f∧∀ s,(f s=none∧O s = -1)∨f s=some (.int .i64 (O s))
theorem OrdIs.same {w w':World} {M n:Nat} {O:ByteArray→Int} (h:OrdIs w M n O) (hs:w'.heap[M]? = w.heap[M]?):OrdIs w' M n O:=by
 obtain ⟨f,h1,h2⟩:=h
 exact ⟨f,h1.same hs,h2⟩
theorem OrdIs.lt {w:World} {M n:Nat} {O:ByteArray→Int} (h:OrdIs w M n O):M < w.heap.size:=by
 obtain ⟨f,h1,h2⟩:=h
 exact h1.lt
theorem OrdIs.below {w w':World} {M n:Nat} {O:ByteArray→Int} (h:OrdIs w M n O) (hb:Below w.heap.size w w'):OrdIs w' M n O:=h.same (hb.block M h.lt)
theorem OrdIs.drew {w:World} {M n:Nat} {O:ByteArray→Int} (h:OrdIs w M n O):OrdIs w.drew M n O:=h.same rfl
theorem zeroInt (w:World):(zeroValue 3).run Tryz.prog w=.ok (.int .i64 0) w:=by kernel_rfl
set_option maxRecDepth 100000 in
set_option maxHeartbeats 8000000 in
theorem korder_any (M n:Nat) (pv:Value) (O:ByteArray→Int) (name:ByteArray) (w:World) (h:OrdIs w M n O) (hs:name.size≤140737488351232) :
  Calls Tryz.prog 144 #[scV M pv,.string name] w fun e w'=>e=.returned (.int .i64 (O name))∧Below w.heap.size w w':=by
 obtain ⟨f,h1,h2⟩:=h
 have hc2:=cellsScope
 have HM:=Lib.hid (h1.same (show (w.alloc (scBox M pv)).heap[M]? = w.heap[M]? from Below.heap_alloc _ _ _ h1.lt))
 obtain ⟨k0,k1⟩:=sc_cells (new_at w (scBox M pv))
 have hsz:name.size≤maxLen:=by unfold maxLen;omega
 rcases h2 name with ⟨hn,hO⟩ | hn
 ·rw [hO]
  clear h2 h1 hO
  have HN:=Lib.hid hn
  clear hn
  go_enter Tryz.func144,Tryz.ntmps144
  go_wp2_with (at_lookup;refine wpList_lookup_smap _ rfl _ _ 84 rfl 9 3 Tryz.underlying9 Tryz.underlying84 (zeroInt _) M n f rfl HM.out name rfl hsz ?_;rw [HN.out])
  go_wp2_with fail
  go_ret
  exact ⟨rfl,below_box _ _⟩
 ·generalize O name=k at hn ⊢
  clear h2 h1
  have HN:=Lib.hid hn
  clear hn
  go_enter Tryz.func144,Tryz.ntmps144
  go_wp2_with (at_lookup;refine wpList_lookup_smap _ rfl _ _ 84 rfl 9 3 Tryz.underlying9 Tryz.underlying84 (zeroInt _) M n f rfl HM.out name rfl hsz ?_;rw [HN.out])
  go_wp2_with fail
  go_ret
  exact ⟨rfl,below_box _ _⟩
theorem fitB_len {nm:Bool} {name:ByteArray} {ln mn n lk mk:Int} {len:Nat} {all:Bool} (h:fitB nm name ln mn n lk mk len all=true):lk≤(len:Int)∧(len:Int)≤mk∧all=true:=by
 unfold fitB at h
 simp only [Bool.and_eq_true,decide_eq_true_eq] at h
 exact ⟨h.1.2.1.2,h.1.2.2,h.2⟩
theorem allB_imp {p q:Nd→Bool} (h:∀ T,p T=true→q T=true):∀ {F:Fo},F.allB p=true→F.allB q=true:=by
 intro F
 induction F with
 | nil=>intro _;rfl
 | cons op name n pos a cap kids rest ihk ihr =>
  intro h1
  have h2:(p ⟨op,name,n,pos,a,cap,kids⟩ && rest.allB p)=true:=h1
  rw [Bool.and_eq_true] at h2
  show (q ⟨op,name,n,pos,a,cap,kids⟩ && rest.allB q)=true
  rw [h _ h2.1,ihr h2.2]
  rfl
theorem nil_of_len {F:Fo} (h:F.len=0):F=.nil:=by
 cases F with
 | nil=>rfl
 | cons op name n pos a cap kids rest=>cases h
theorem kids_okT {T:Nd} (h:T.okT=true):T.kids.allB Nd.okT=true∧((T.op.toList == [112,108,117,115])=true→T.kids.len=1):=by
 have h0:stepT T.op T.name T.n T.kids.len T.kids.sorts.t T.kids.sorts.v T.kids.sorts.n T.kids.second=true:=h
 unfold stepT at h0
 split at h0
 ·rename_i h1
  have h2:=fitB_len h0
  have h3:=nil_of_len (F:=T.kids) (by omega)
  refine ⟨by rw [h3];rfl,fun h4=>?_⟩
  rw [beq_iff_eq] at h1 h4
  rw [h1] at h4
  cases h4
 ·split at h0
  ·rename_i h1
   have h2:=fitB_len h0
   have h3:=nil_of_len (F:=T.kids) (by omega)
   refine ⟨by rw [h3];rfl,fun h4=>?_⟩
   rw [beq_iff_eq] at h1 h4
   rw [h1] at h4
   cases h4
  ·split at h0
   ·have h2:=fitB_len h0
    refine ⟨?_,fun _=>by omega⟩
    have h3:=h2.2.2
    rw [sorts_v] at h3
    exact allB_imp (fun T hT=>by unfold Nd.okV at hT;rw [Bool.and_eq_true] at hT;exact hT.2) h3
   ·rename_i h9
    split at h0
    ·have h2:=fitB_len h0
     have h3:=h2.2.2
     rw [sorts_n] at h3
     exact ⟨allB_imp (fun T hT=>by unfold Nd.okN at hT;rw [Bool.and_eq_true] at hT;exact hT.2) h3,fun h4=>absurd h4 h9⟩
    ·rw [Bool.and_eq_true,Bool.and_eq_true] at h0
     have h3:=(fitB_len h0.1.2).2.2
     rw [sorts_t] at h3
     exact ⟨h3,fun h4=>absurd h4 h9⟩
def Fo.al (O:ByteArray→Int) (want:Int):Fo→Int × Int
 | .nil=>(0,0)
 | .cons op name n pos a cap kids rest=>mustK want (Nd.kd O ⟨op,name,n,pos,a,cap,kids⟩) pos (rest.al O want)
theorem al_1 (O:ByteArray→Int) (F:Fo):(F.ks O).n1=F.al O 1:=by
 induction F with
 | nil=>rfl
 | cons op name n pos a cap kids rest ihk ihr=>show mustK 1 _ pos (rest.ks O).n1=mustK 1 _ pos (rest.al O 1);rw [ihr];rfl
theorem al_2 (O:ByteArray→Int) (F:Fo):(F.ks O).n2=F.al O 2:=by
 induction F with
 | nil=>rfl
 | cons op name n pos a cap kids rest ihk ihr=>show mustK 2 _ pos (rest.ks O).n2=mustK 2 _ pos (rest.al O 2);rw [ihr];rfl
def SayKd (T:Nd):Prop:=∀ (w:World) (M n:Nat) (pv:Value) (O:ByteArray→Int),OrdIs w M n O→T.In w→T.sized→T.okT=true→Calls Tryz.prog 145 #[scV M pv,T.val] w fun e w'=>e=.returned (.tuple #[.int .i64 (T.kd O).k,.int .i64 (T.kd O).pos,.int .i64 (T.kd O).e])∧Below w.heap.size w w'
theorem stepK_pos (O:ByteArray→Int) (op name:ByteArray) (pos:Int) (ks:KS) (h:(stepK O op name pos ks).e=0):(stepK O op name pos ks).pos=0:=by
 revert h
 unfold stepK
 repeat' split
 all_goals first | (intro _;rfl) | (intro h;exact absurd h (by first | assumption | simp))
set_option maxRecDepth 100000 in
set_option maxHeartbeats 8000000 in
theorem kmust_of (T:Nd) (hT:SayKd T) (w:World) (M n:Nat) (pv:Value) (O:ByteArray→Int) (want place:Int) (ho:OrdIs w M n O) (hin:T.In w) (hsz:T.sized) (hok:T.okT=true) :
  Calls Tryz.prog 147 #[scV M pv,.int .i64 want,T.val,.int .i64 place] w fun e w'=>e=.returned (.tuple #[.int .i64 (mustK want (T.kd O) place (0,0)).1,.int .i64 (mustK want (T.kd O) place (0,0)).2])∧Below w.heap.size w w':=by
 have hc2:=cellsScope
 have hc5:=cellsNode
 have hW:=two_boxes w (scBox M pv) (boxOf T.op T.name T.n T.pos T.a T.kids.len T.cap)
 have HC:=hT _ M n pv O (ho.below hW) (hin.below hW) hsz hok
 have hps:(T.kd O).e=0→(T.kd O).pos=0:=stepK_pos O T.op T.name T.pos (T.kids.ks O)
 generalize T.kd O=r at HC hps ⊢
 obtain ⟨rk,rp,re⟩:=r
 simp only [] at HC hps ⊢
 rw [Nd.val_def] at HC ⊢
 have HC:=Lib.hid HC
 have HW:=Lib.hid hW
 clear hW hT ho hin
 have hx:w.heap.size < (w.alloc (scBox M pv)).heap.size:=by simp
 obtain ⟨k0,k1⟩:=sc_cells ((Below.heap_alloc (w.alloc (scBox M pv)) (boxOf T.op T.name T.n T.pos T.a T.kids.len T.cap) _ hx).trans (new_at w (scBox M pv)))
 obtain ⟨b0,b1,b2,b3,b4⟩:=box_cells (show ((w.alloc (scBox M pv)).alloc (boxOf T.op T.name T.n T.pos T.a T.kids.len T.cap)).heap[w.heap.size+1]? = some (boxOf T.op T.name T.n T.pos T.a T.kids.len T.cap) from by have h:=new_at (w.alloc (scBox M pv)) (boxOf T.op T.name T.n T.pos T.a T.kids.len T.cap);rw [alloc_size] at h;exact h)
 by_cases he:re=0
 ·subst he
  obtain rfl:=hps rfl
  by_cases hk:rk=want
  ·subst hk
   have hm:mustK rk ⟨rk,0,0⟩ place (0,0)=(0,0):=by unfold mustK;simp
   rw [hm]
   have hkb:(rk != rk)=false:=by simp
   clear hm
   go_enter Tryz.func147,Tryz.ntmps147
   go_wp2_with fail
   refine HC.out.mono ?_
   rintro e w2 ⟨rfl,hb2⟩
   have hbb:=HW.out.trans (hb2.mono HW.out.size)
   clear hb2 HC
   go_wp2_with fail
   go_ret2
   exact ⟨rfl,hbb⟩
  ·have hm:mustK want ⟨rk,0,0⟩ place (0,0)=(place,7):=by unfold mustK;simp [hk]
   rw [hm]
   have hkb:(rk != want)=true:=by simp [hk]
   clear hm hk
   go_enter Tryz.func147,Tryz.ntmps147
   go_wp2_with fail
   refine HC.out.mono ?_
   rintro e w2 ⟨rfl,hb2⟩
   have hbb:=HW.out.trans (hb2.mono HW.out.size)
   clear hb2 HC
   go_wp2_with fail
   go_ret2
   exact ⟨rfl,hbb⟩
 ·have hm:mustK want ⟨rk,rp,re⟩ place (0,0)=(rp,re):=by unfold mustK;simp [he]
  rw [hm]
  have heb:(re == 0)=false:=by simp [he]
  clear hm he hps
  go_enter Tryz.func147,Tryz.ntmps147
  go_wp2_with fail
  refine HC.out.mono ?_
  rintro e w2 ⟨rfl,hb2⟩
  have hbb:=HW.out.trans (hb2.mono HW.out.size)
  clear hb2 HC
  go_wp2_with fail
  go_ret2
  exact ⟨rfl,hbb⟩
end Go.Proofs.YtmlmjopfbohglaaGreatDoor
