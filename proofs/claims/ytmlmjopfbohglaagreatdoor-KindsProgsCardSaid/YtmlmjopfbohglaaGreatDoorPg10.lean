/- Parts of the proof: GIsR LexB. -/
import Derived.Test.YtmlmjopfbohglaaGreatDoorPg09
import Derived.Test.YtmlmjopfbohglaaGreatDoorPg08
namespace Go.Proofs.YtmlmjopfbohglaaGreatDoor
open Go.RowKit
def Dc.ok (d:Dc):Bool:=nameB d.name && decide (0≤d.order) && decide (d.order≤2)
set_option maxRecDepth 100000 in
set_option maxHeartbeats 16000000 in
theorem rdecls_any (l:List Dc) (a:Option Addr) (cap:Nat) (w:World) (hU:UT w) (h:DcsIn w a l):Calls Tryz.prog 100 #[.slice a l.length cap] w fun e w'=>e=.returned (.bool (l.all Dc.ok))∧Below w.heap.size w w':=by
 have hc3:=cellsDecl
 have HU:=Lib.hid hU
 clear hU
 rcases h with rfl | ⟨b,o,rfl,hlim,hat,hsz⟩
 ·show Calls _ _ #[.slice a 0 cap] w _
  go_enter Tryz.func100,Tryz.ntmps100
  go_wp2_with fail
  go_loopw [3] (fun i wr=>i=.int .i64 0∧Below w.heap.size w wr) (fun _ _=>0)
  case atStart=>exact ⟨rfl,Below.refl _ _⟩
  case round =>
   obtain ⟨rfl,hbx⟩:=hrel
   go_wp2_with fail
   go_ret
   exact ⟨rfl,hbx⟩
 ·have HA:=Lib.hid hat
  have HS:=Lib.hid hsz
  clear hat hsz
  go_enter Tryz.func100,Tryz.ntmps100
  go_wp2_with fail
  go_loopw [3] (fun i wr=>∃ k:Nat,i=.int .i64 k∧k≤l.length∧RowKit.Hid (l.all Dc.ok=(l.drop k).all Dc.ok)∧Below w.heap.size w wr) (fun i _=>l.length - (intOf i).toNat)
  case atStart=>exact ⟨0,rfl,by omega,Lib.hid rfl,Below.refl _ _⟩
  case round =>
   obtain ⟨k,rfl,hk,HL,hbx⟩:=hrel
   by_cases hkl:k < l.length
   ·have hkl2:(k:Int) < l.length:=by omega
    have hg:=List.getElem?_eq_getElem hkl
    have HAT:=Lib.hid ((HA.out k (l[k]'hkl) hg).below hbx)
    have hns:=HS.out (l[k]'hkl) (List.getElem_mem _)
    have HD:RowKit.Hid (l.drop k=(l[k]'hkl) :: l.drop (k+1)):=Lib.hid (List.drop_eq_getElem_cons hkl)
    clear hg
    generalize (l[k]'hkl)=d at HAT hns HD
    obtain ⟨nm,od,po⟩:=d
    have hns:nm.size≤140737488351232:=hns
    obtain ⟨c0,c1,c2⟩:=HAT.out
    simp only [] at c0 c1 c2
    have HC:=Lib.hid (isName_any nm wr hns (Utf8Tabs_below HU.out hbx))
    go_wp2_with fail
    refine HC.out.mono ?_
    rintro e w2 ⟨rfl,hb2⟩
    have hbx2:=hbx.trans (hb2.mono hbx.size)
    clear c0 c1 c2
    obtain ⟨c0,c1,c2⟩:=HAT.out.below hb2
    simp only [] at c0 c1 c2
    clear hb2 HC
    by_cases hn:nameB nm=true
    ·rw [hn]
     by_cases h0:0≤od
     ·by_cases h2:od≤2
      ·have HL2:=Lib.hid (show l.all Dc.ok=(l.drop (k+1)).all Dc.ok from by rw [HL.out,HD.out,List.all_cons];unfold Dc.ok;rw [hn,decide_eq_true h0,decide_eq_true h2];rfl)
       clear hn
       go_wp2_with fail
       go_roundw
       case rel=>exact ⟨k+1,by go_num,by omega,HL2,hbx2⟩
       case measure=>(try simp [intOf]);omega
      ·have HL2:=Lib.hid (show l.all Dc.ok=false from by rw [HL.out,HD.out,List.all_cons];unfold Dc.ok;rw [decide_eq_false h2];simp)
       clear hn
       go_wp2_with fail
       go_ret
       exact ⟨by rw [HL2.out];rfl,hbx2⟩
     ·have HL2:=Lib.hid (show l.all Dc.ok=false from by rw [HL.out,HD.out,List.all_cons];unfold Dc.ok;rw [decide_eq_false h0];simp)
      clear hn
      go_wp2_with fail
      go_ret
      exact ⟨by rw [HL2.out];rfl,hbx2⟩
    ·have hn2:nameB nm=false:=by simpa using hn
     have HL2:=Lib.hid (show l.all Dc.ok=false from by rw [HL.out,HD.out,List.all_cons];unfold Dc.ok;rw [hn2];simp)
     rw [hn2]
     clear hn hn2
     go_wp2_with fail
     go_ret
     exact ⟨by rw [HL2.out];rfl,hbx2⟩
   ·obtain rfl:k=l.length:=by omega
    have HL2:=Lib.hid (show l.all Dc.ok=true from by rw [HL.out,List.drop_length];rfl)
    go_wp2_with fail
    go_ret
    exact ⟨by rw [HL2.out];rfl,hbx⟩
def Pd.ok (p:Pd):Bool:=nameB p.name && decide ((p.params.length:Int)≤6) && p.params.all Dc.ok && p.body.okF
structure PdFine (w:World) (p:Pd):Prop where
 params:DcsIn w p.pa p.params
 body:p.body.In w
 sized:p.body.sized
 name:p.name.size≤140737488351232
 deep:p.body.deep≤30
 size:p.body.size≤2000
theorem PdFine.below {w w':World} (hb:Below w.heap.size w w') {p:Pd} (h:PdFine w p):PdFine w' p:=⟨h.params.below hb,h.body.below hb,h.sized,h.name,h.deep,h.size⟩
def PdsIn (w:World) (a:Option Addr) (l:List Pd):Prop:=(l=[]∨∃ b o,a=some ⟨b,o,none⟩∧l.length≤140737488351232∧∀ i p,l[i]? = some p→PdAt w b (o+i * 8) p)∧∀ p ∈ l,PdFine w p
set_option maxRecDepth 100000 in
set_option maxHeartbeats 16000000 in
theorem ris_any (ds:List Dc) (da:Option Addr) (dc:Nat) (ps:List Pd) (pa:Option Addr) (pc:Nat) (T:Nd) (w:World) (hT:UT w) (hd:DcsIn w da ds) (hp:PdsIn w pa ps) (hm:T.In w) (hms:T.sized) (hmd:T.deep≤30) (hmz:T.size≤2000) :
  Calls Tryz.prog 57 #[.agg #[.slice da ds.length dc,.slice pa ps.length pc,.string T.op,.string T.name,.int .i64 T.n,.int .i64 T.pos,.slice T.a T.kids.len T.cap]] w fun e w'=>e=.returned (.bool (ps.all Pd.ok && ds.all Dc.ok && T.okF))∧Below w.heap.size w w':=by
 have hc5:=cellsNode
 have hc8:=cellsPred
 have HT:=Lib.hid hT
 have HDS:=Lib.hid hd
 have HPS:=Lib.hid hp.2
 have HM:=Lib.hid (fun W (hb:Below w.heap.size w W)=>rIsFormula_fine T W (Utf8Tabs_below hT hb) (hm.below hb) hms hmd hmz)
 obtain ⟨op,name,n,pos,a,cap,kids⟩:=T
 generalize (Nd.mk op name n pos a cap kids).okF=q at HM ⊢
 have HB:=Lib.hid (new_at w (.cells (pgCells da ds.length dc pa ps.length pc op name n pos a kids.len cap) 28))
 have HPI:=Lib.hid hp.1
 clear hT hd hp hm hms hmd hmz
 show Calls _ _ #[.agg #[.slice da ds.length dc,.slice pa ps.length pc,.string op,.string name,.int .i64 n,.int .i64 pos,.slice a kids.len cap]] w _
 go_enter Tryz.func57,Tryz.ntmps57
 go_wp2_with fail
 go_loopw [3] (fun i wr=>∃ k:Nat,i=.int .i64 k∧k≤ps.length∧RowKit.Hid (ps.all Pd.ok=(ps.drop k).all Pd.ok)∧RowKit.Hid (wr.heap[w.heap.size]? = some (.cells (pgCells da ds.length dc pa ps.length pc op name n pos a kids.len cap) 28))∧Below w.heap.size w wr) (fun i _=>ps.length - (intOf i).toNat)
 case atStart=>exact ⟨0,rfl,by omega,Lib.hid rfl,HB,below_box _ _⟩
 case round =>
  obtain ⟨k,rfl,hk,HL,HX,hbx⟩:=hrel
  obtain ⟨b0,b1,b2,b3,b4,b5,b6⟩:=pg_cells HX.out
  by_cases hkl:k < ps.length
  ·have hkl2:(k:Int) < ps.length:=by omega
   have hg:=List.getElem?_eq_getElem hkl
   obtain ⟨pb,po,hpa,hplim,hpat⟩:∃ b o,pa=some ⟨b,o,none⟩∧ps.length≤140737488351232∧∀ i p,ps[i]? = some p→PdAt w b (o+i * 8) p:=by
    rcases HPI.out with h | h
    ·rw [h] at hkl;exact absurd hkl (Nat.not_lt_zero _)
    ·exact h
   subst hpa
   obtain ⟨c0,c1,c2,c3,c4,c5,c6,c7⟩:=(hpat k (ps[k]'hkl) hg).below hbx
   have HF:=Lib.hid (HPS.out (ps[k]'hkl) (List.getElem_mem _))
   have HD:RowKit.Hid (ps.drop k=(ps[k]'hkl) :: ps.drop (k+1)):=Lib.hid (List.drop_eq_getElem_cons hkl)
   clear hg hpat
   generalize (ps[k]'hkl)=p at c0 c1 c2 c3 c4 c5 c6 c7 HF HD
   obtain ⟨nm,prs,ppa,ppc,⟨bop,bname,bn,bpos,ba,bcap,bkids⟩,ppos⟩:=p
   simp only [] at c0 c1 c2 c3 c4 c5 c6 c7
   have HS1:=Lib.hid (new_at wr (.cells (pdCells nm ppa prs.length ppc bop bname bn bpos ba bkids.len bcap ppos) 67))
   have HC:=Lib.hid (isName_any nm (wr.alloc (.cells (pdCells nm ppa prs.length ppc bop bname bn bpos ba bkids.len bcap ppos) 67)) HF.out.name (Utf8Tabs_below HT.out (hbx.alloc hbx.size _)))
   have HP:RowKit.Hid (ps.all Pd.ok=((nameB nm && decide ((prs.length:Int)≤6) && prs.all Dc.ok && (Nd.mk bop bname bn bpos ba bcap bkids).okF) && (ps.drop (k+1)).all Pd.ok)):=Lib.hid (by rw [HL.out,HD.out,List.all_cons];rfl)
   have HBF:=Lib.hid (fun W (hb:Below w.heap.size w W)=>rIsFormula_fine ⟨bop,bname,bn,bpos,ba,bcap,bkids⟩ W (Utf8Tabs_below HT.out hb) (HF.out.body.below hb) HF.out.sized HF.out.deep HF.out.size)
   generalize (Nd.mk bop bname bn bpos ba bcap bkids).okF=bq at HP HBF
   go_wp2_with fail
   refine HC.out.mono ?_
   rintro e w2 ⟨rfl,hb2⟩
   have hbx2:=hbx.trans ((box_then hb2).mono hbx.size)
   have HS2:=Lib.hid ((hb2.block _ (lt_heap HS1.out)).trans HS1.out)
   obtain ⟨s0,s1,s2,s3,s4,s5,s6⟩:=pd_cells HS2.out
   have HX2:=Lib.hid (((box_then hb2).block _ (lt_heap HX.out)).trans HX.out)
   clear hb2 HC c0 c1 c2 c3 c4 c5 c6 c7 HS1
   generalize nameB nm=qn at HP ⊢
   cases qn with
   | false =>
    go_wp2_with fail
    go_ret
    exact ⟨by rw [HP.out];rfl,hbx2⟩
   | true =>
    by_cases h6:(prs.length:Int)≤6
    case neg =>
     have HP2:=Lib.hid (show ps.all Pd.ok=false from by rw [HP.out,decide_eq_false h6];rfl)
     go_wp2_with fail
     go_ret
     exact ⟨by rw [HP2.out];rfl,hbx2⟩
    have HP2:=Lib.hid (show ps.all Pd.ok=((prs.all Dc.ok && bq) && (ps.drop (k+1)).all Pd.ok) from by rw [HP.out,decide_eq_true h6];rfl)
    have HC3:=Lib.hid (rdecls_any prs ppa ppc w2 (Utf8Tabs_below HT.out hbx2) (HF.out.params.below hbx2))
    go_wp2_with fail
    refine HC3.out.mono ?_
    rintro e w3 ⟨rfl,hb3⟩
    have hbx3:=hbx2.trans (hb3.mono hbx2.size)
    clear s0 s1 s2 s3 s4 s5 s6
    have HS3:=Lib.hid ((hb3.block _ (lt_heap HS2.out)).trans HS2.out)
    obtain ⟨s0,s1,s2,s3,s4,s5,s6⟩:=pd_cells HS3.out
    have HX3:=Lib.hid ((hb3.block _ (lt_heap HX2.out)).trans HX2.out)
    clear hb3 HC3
    generalize prs.all Dc.ok=qd at HP2 ⊢
    cases qd with
    | false =>
     go_wp2_with fail
     go_ret
     exact ⟨by rw [HP2.out];rfl,hbx3⟩
    | true =>
     have hcall:=HBF.out w3 hbx3
     rw [Nd.val_def] at hcall
     have HC4:=Lib.hid hcall
     clear hcall
     go_wp2_with fail
     refine HC4.out.mono ?_
     rintro e w4 ⟨rfl,hb4⟩
     have hbx4:=hbx3.trans (hb4.mono hbx3.size)
     have HX4:=Lib.hid ((hb4.block _ (lt_heap HX3.out)).trans HX3.out)
     clear hb4 HC4 s0 s1 s2 s3 s4 s5 s6
     cases bq with
     | false =>
      go_wp2_with fail
      go_ret
      exact ⟨by rw [HP2.out];rfl,hbx4⟩
     | true =>
      have HL4:=Lib.hid (show ps.all Pd.ok=(ps.drop (k+1)).all Pd.ok from by rw [HP2.out];rfl)
      go_wp2_with fail
      go_roundw
      case rel=>exact ⟨k+1,by go_num,by omega,HL4,HX4,hbx4⟩
      case measure=>(try simp [intOf]);omega
  ·obtain rfl:k=ps.length:=by omega
   have HL2:=Lib.hid (show ps.all Pd.ok=true from by rw [HL.out,List.drop_length];rfl)
   have HC:=Lib.hid (rdecls_any ds da dc wr (Utf8Tabs_below HT.out hbx) (HDS.out.below hbx))
   go_wp2_with fail
   refine HC.out.mono ?_
   rintro e w2 ⟨rfl,hb2⟩
   have hbx2:=hbx.trans (hb2.mono hbx.size)
   clear b0 b1 b2 b3 b4 b5 b6
   obtain ⟨b0,b1,b2,b3,b4,b5,b6⟩:=pg_cells ((hb2.block _ (lt_heap HX.out)).trans HX.out)
   generalize hdd:ds.all Dc.ok=dd
   have HDD:=Lib.hid hdd
   clear hdd hb2 HC
   cases dd with
   | false =>
    go_wp2_with fail
    go_ret
    exact ⟨by rw [HL2.out,HDD.out];rfl,hbx2⟩
   | true =>
    have hcall:=HM.out w2 hbx2
    rw [Nd.val_def] at hcall
    have HC2:=Lib.hid hcall
    clear hcall
    go_wp2_with fail
    refine HC2.out.mono ?_
    rintro e w3 ⟨rfl,hb3⟩
    have hb4:=hbx2.trans (hb3.mono hbx2.size)
    clear hb3 HC2
    go_wp2_with fail
    go_ret
    exact ⟨by rw [HL2.out,HDD.out];rfl,hb4⟩
set_option maxHeartbeats 1000000 in
theorem class_any (r:Int) (w:World) :
  Calls Tryz.prog 117 #[.int .i32 r] w fun e w'=>e=.returned (.int .i64 (cls r))∧w=w':=by
 go_enter Tryz.func117,Tryz.ntmps117
 go_wp2
 all_goals go_ret
 all_goals (refine ⟨ret_int ?_,rfl⟩;go_light)
 all_goals (try simp only [beq_iff_eq,beq_eq_false_iff_ne,ne_eq] at *)
 all_goals first | exact cls1 (by unfold isLet;omega) | exact cls2 (by omega) | exact cls3 (by omega) | exact cls4 (by unfold isSig;omega) | exact cls0 (by unfold isLet;omega) (by omega) (by omega) (by unfold isSig;omega)
set_option maxHeartbeats 400000 in
theorem isSpace_any (r:Int) (w:World):Calls Tryz.prog 119 #[.int .i32 r] w fun e w'=>e=.returned (.bool (spB r))∧w=w':=by
 go_enter Tryz.func119,Tryz.ntmps119
 go_wp2_with (go_at_call 117;refine (class_any _ _).mono ?_;rintro e w' ⟨rfl,rfl⟩)
 go_ret
 exact ⟨rfl,rfl⟩
set_option maxHeartbeats 400000 in
theorem isDigit_any (r:Int) (w:World):Calls Tryz.prog 122 #[.int .i32 r] w fun e w'=>e=.returned (.bool (dgB r))∧w=w':=by
 go_enter Tryz.func122,Tryz.ntmps122
 go_wp2_with (go_at_call 117;refine (class_any _ _).mono ?_;rintro e w' ⟨rfl,rfl⟩)
 go_ret
 exact ⟨rfl,rfl⟩
set_option maxHeartbeats 400000 in
theorem isLinePart_any (r:Int) (w:World):Calls Tryz.prog 124 #[.int .i32 r] w fun e w'=>e=.returned (.bool (lnB r))∧w=w':=by
 go_enter Tryz.func124,Tryz.ntmps124
 go_wp2
 go_ret
 exact ⟨rfl,rfl⟩
set_option maxHeartbeats 400000 in
theorem isNamePart_any (r:Int) (w:World):Calls Tryz.prog 120 #[.int .i32 r] w fun e w'=>e=.returned (.bool (nmB r))∧w=w':=by
 by_cases h1:(cls r == 1)=true
 ·have hn:=Lib.hid (show nmB r=true by unfold nmB;rw [h1];rfl)
  go_enter Tryz.func120,Tryz.ntmps120
  go_wp2_with (go_at_call 117;refine (class_any _ _).mono ?_;rintro e w' ⟨rfl,rfl⟩)
  go_ret
  exact ⟨ret_bool hn.out.symm,rfl⟩
 ·simp only [Bool.not_eq_true] at h1
  by_cases h2:dgB r=true
  ·have hn:=Lib.hid (show nmB r=true by unfold nmB;unfold dgB at h2;rw [h2];simp)
   go_enter Tryz.func120,Tryz.ntmps120
   go_wp2_with (first | (go_at_call 117;refine (class_any _ _).mono ?_;rintro e w' ⟨rfl,rfl⟩) | (go_at_call 122;refine (isDigit_any _ _).mono ?_;rintro e w' ⟨rfl,rfl⟩))
   go_ret
   exact ⟨ret_bool hn.out.symm,rfl⟩
  ·simp only [Bool.not_eq_true] at h2
   have hn:=Lib.hid (show nmB r=(r == 39) by unfold nmB;unfold dgB at h2;rw [h1,h2];simp)
   go_enter Tryz.func120,Tryz.ntmps120
   go_wp2_with (first | (go_at_call 117;refine (class_any _ _).mono ?_;rintro e w' ⟨rfl,rfl⟩) | (go_at_call 122;refine (isDigit_any _ _).mono ?_;rintro e w' ⟨rfl,rfl⟩))
   go_ret
   exact ⟨ret_bool hn.out.symm,rfl⟩
set_option maxHeartbeats 400000 in
theorem written_any (s:ByteArray) (w:World) (hs:s.size≤1000000) :
  Calls Tryz.prog 158 #[.string s] w fun e w'=>e=.returned (.bool (fffd s))∧w=w':=by
 go_enter Tryz.func158,Tryz.ntmps158
 by_cases h3:3≤s.size
 ·go_wp2
  go_ret
  exact ⟨rfl,rfl⟩
 ·have HF:=Lib.hid (fffd_short s (by omega))
  go_wp2
  go_ret
  rw [HF.out]
  exact ⟨rfl,rfl⟩
set_option maxRecDepth 1000000 in
set_option maxHeartbeats 2000000 in
theorem each_any (s:ByteArray) (w:World) (hs:s.size≤1000000) :
  Calls Tryz.prog 116 #[.string s] w (EachPost s w):=by
 obtain ⟨i0,hi,hz0,hz1,hz2⟩:=info_parts Tryz.infoRune
 go_enter Tryz.func116,Tryz.ntmps116
 go_wp2
 go_loopw [2] (fun v wr=>∃ (pos b:Nat) (acc:List (Int × Int)),wr.heap[w.heap.size]? = some (.stringIter s pos)∧wr.ownsRow (w.heap.size+1) 152 2 v acc.length (flat acc)∧Below w.heap.size w wr∧Hid (soFar s acc b pos)∧s.size≤pos+b∧acc.length≤pos) (fun _ wr=>s.size - wr.iterPos w.heap.size)
 case atStart=>exact ⟨0,s.size,[],World.iter_heap w s 0,World.ownsRow_nil _ _ _ _,(Below.refl _ _).alloc (Nat.le_refl _) _,soFar_start s,by omega,by simp⟩
 case round =>
  obtain ⟨pos,b,acc,hit,hown,hbw,HS,hb,hlen⟩:=hrel
  have hpos0:=iterPos_of hit
  by_cases hp:pos < s.size
  ·have hnx:∀ ty,(Instr.next (.pointer (some ⟨w.heap.size,0,none⟩)) true ty).run Tryz.prog wr=_:=fun ty=>Lib.run_next_any_at wr w.heap.size s pos ty hit hp
   have hwd:=width_pos s pos hp
   obtain ⟨b,rfl⟩:∃ f',b=f'+1:=⟨b - 1,by omega⟩
   have hit2:=Lib.iterAt_heap wr w.heap.size s pos (pos+(Utf8.decode s pos).2) hit
   have hbw2:=Lib.below_iterAt hbw (k:=w.heap.size) (Nat.le_refl _) s (pos+(Utf8.decode s pos).2)
   have hown2:=ownsRow_iterAt hown (k:=w.heap.size) (by omega) s (pos+(Utf8.decode s pos).2)
   obtain ⟨W1,hW1⟩:∃ W1,W1=wr.iterAt w.heap.size s (pos+(Utf8.decode s pos).2):=⟨_,rfl⟩
   rw [← hW1] at hnx hit2 hbw2 hown2
   have hBlt:=lt_of_block hit2
   clear hW1 hit hown hbw
   by_cases hbad:badAt s pos
   ·have hr1:(((Utf8.decode s pos).1:Int) == 65533)=true:=by rw [beq_iff_eq];have:=hbad.1;omega
    have hf:fffd (s.extract pos s.size)=false:=fffd_bad s pos hbad
    have hX:=soFar_bad s acc b pos hp hbad HS.out
    have H1:=Lib.hid hX.1
    have H2:=Lib.hid hX.2
    clear hX HS hbad
    go_wp2_with (go_at_call 158;refine (written_any _ _ (by simp;omega)).mono ?_;rintro e w' ⟨rfl,rfl⟩)
    go_ret2
    exact ⟨u2,ret_v H2.out,by rw [← H1.out];exact ownsRow_base hown2 (by omega),hbw2⟩
   ·have R:=soFar_one s acc b pos hp hbad HS.out
    have HS':=Lib.hid R
    clear R
    by_cases hr:(Utf8.decode s pos).1=65533
    ·have hr1:(((Utf8.decode s pos).1:Int) == 65533)=true:=by rw [beq_iff_eq];omega
     have hf:fffd (s.extract pos s.size)=true:=fffd_good s pos hr hbad
     clear hr hbad
     go_wp2_with (first | (go_at_call 158;refine (written_any _ _ (by simp;omega)).mono ?_;rintro e w' ⟨rfl,rfl⟩) | (at_builtin;refine wpList_append_own _ rfl _ _ 110 rfl (w.heap.size+1) 152 i0 (.agg #[.int .i32 0,.int .i64 0]) 2 16 Tryz.underlying110 hi hz0 hz1 hz2 rfl (by decide) _ _ _ rfl (hown2.alloc _) ⟨W1.heap.size,0,none⟩ 1 1 [.int .i32 ((Utf8.decode s pos).1:Int),.int .i64 (pos:Int)] rfl rfl (cell_two_new _ _ _ _) (fun x hx=>by simp at hx;rcases hx with rfl | rfl <;> rfl) (by unfold maxLen;omega) (by omega) (by simp;omega) ?_;intro v' w3 hown' hgrow3 hnil3))
     have hit3:w3.heap[w.heap.size]? = some (.stringIter s (pos+(Utf8.decode s pos).2)):=by
      rw [hgrow3.block w.heap.size (by simp;omega) (fun h=>by have:=(hown2.lt _ h.symm).1;omega),Below.heap_alloc _ _ _ hBlt];exact hit2
     have hbw3:Below w.heap.size w w3:=Below.grown (hbw2.alloc (by omega) _) hgrow3 (by simp;omega) (fun j hj=>by have:=(hown2.lt _ hj).1;omega)
     rw [← flat_snoc acc ((((Utf8.decode s pos).1:Int),(pos:Int)))] at hown'
     go_wp2
     go_roundw
     case rel=>exact ⟨_,b,acc ++ [((((Utf8.decode s pos).1:Int),(pos:Int)))],hit3,by simpa using hown',hbw3,HS'.out,by omega,by simp;omega⟩
     case measure=>rw [iterPos_of hit3,hpos0];omega
    ·have hrb:(((Utf8.decode s pos).1:Int) == 65533)=false:=by rw [beq_eq_false_iff_ne];omega
     clear hr hbad
     go_wp2_with (at_builtin;refine wpList_append_own _ rfl _ _ 110 rfl (w.heap.size+1) 152 i0 (.agg #[.int .i32 0,.int .i64 0]) 2 16 Tryz.underlying110 hi hz0 hz1 hz2 rfl (by decide) _ _ _ rfl (hown2.alloc _) ⟨W1.heap.size,0,none⟩ 1 1 [.int .i32 ((Utf8.decode s pos).1:Int),.int .i64 (pos:Int)] rfl rfl (cell_two_new _ _ _ _) (fun x hx=>by simp at hx;rcases hx with rfl | rfl <;> rfl) (by unfold maxLen;omega) (by omega) (by simp;omega) ?_;intro v' w3 hown' hgrow3 hnil3)
     have hit3:w3.heap[w.heap.size]? = some (.stringIter s (pos+(Utf8.decode s pos).2)):=by
      rw [hgrow3.block w.heap.size (by simp;omega) (fun h=>by have:=(hown2.lt _ h.symm).1;omega),Below.heap_alloc _ _ _ hBlt];exact hit2
     have hbw3:Below w.heap.size w w3:=Below.grown (hbw2.alloc (by omega) _) hgrow3 (by simp;omega) (fun j hj=>by have:=(hown2.lt _ hj).1;omega)
     rw [← flat_snoc acc ((((Utf8.decode s pos).1:Int),(pos:Int)))] at hown'
     go_wp2
     go_roundw
     case rel=>exact ⟨_,b,acc ++ [((((Utf8.decode s pos).1:Int),(pos:Int)))],hit3,by simpa using hown',hbw3,HS'.out,by omega,by simp;omega⟩
     case measure=>rw [iterPos_of hit3,hpos0];omega
  ·have hnx:∀ ty,(Instr.next (.pointer (some ⟨w.heap.size,0,none⟩)) true ty).run Tryz.prog wr=_:=fun ty=>Lib.run_next_end_at wr w.heap.size s pos ty hit hp
   have hX:=soFar_end s acc b pos hp HS.out
   have H1:=Lib.hid hX.1
   have H2:=Lib.hid hX.2
   clear hX HS
   go_wp2
   go_ret2
   exact ⟨u2,ret_v H2.out,by rw [← H1.out];exact ownsRow_base hown (by omega),hbw⟩
theorem wrds_fields:Lib.fields ({ data:=#[116,114,117,101,32,102,97,108,115,101,32,101,120,48,32,101,120,49,32,101,120,50,32,97,108,108,48,32,97,108,108,49,32,97,108,108,50,32,118,97,114,48,32,118,97,114,49,32,118,97,114,50,32,112,114,101,100,32,105,110,32,110,111,116,105,110,32,115,117,98,32,117,110,105,111,110,32,105,110,116,101,114] } : ByteArray).data.toList=wrds.map fun x=>x.data.toList:=by decide +kernel
theorem tab_below {w w' : World} (h : Lib.TabIs Tryz.prog w "strings.asciiSpace" .u8 Lib.asciiSpaceTab) (hb : Below w.heap.size w w') : Lib.TabIs Tryz.prog w' "strings.asciiSpace" .u8 Lib.asciiSpaceTab := var_below h hb
structure LTabs (w:World):Prop where
 sp : Lib.TabIs Tryz.prog w "strings.asciiSpace" .u8 Lib.asciiSpaceTab
 sg : w.var? Tryz.prog "sibyl/lex.signs" = some (sigs.map Value.string).toArray
theorem LTabs.below {w w':World} (h:LTabs w) (hb:Below w.heap.size w w'):LTabs w':=⟨tab_below h.sp hb,var_below h.sg hb⟩
theorem LTabs.at {w:World} (h:LTabs w):∃ t f,w.heap[0]? = some (.cells (sigs.map Value.string).toArray t f):=by
 have hg : Tryz.prog.globalNamed "sibyl/lex.signs" = some 0 := by kernel_rfl
 have:=h.sg
 unfold World.var? at this
 rw [hg] at this
 simp only [Option.bind_some] at this
 split at this
 ·rename_i cs t f he
  obtain rfl:=Option.some.inj this
  exact ⟨t,f,he⟩
 ·cases this
set_option maxRecDepth 100000 in
set_option maxHeartbeats 1000000 in
theorem words_any (w : World) (hT : Lib.TabIs Tryz.prog w "strings.asciiSpace" .u8 Lib.asciiSpaceTab) :
  Calls Tryz.prog 160 #[] w fun e w'=>e=.returned (wrdsV w.heap.size)∧w'=w.alloc (.cells wrdsCells 9):=by
 have hf:=wrds_fields
 have c:=Tryz.strings_Fields ⟨#[116,114,117,101,32,102,97,108,115,101,32,101,120,48,32,101,120,49,32,101,120,50,32,97,108,108,48,32,97,108,108,49,32,97,108,108,50,32,118,97,114,48,32,118,97,114,49,32,118,97,114,50,32,112,114,101,100,32,105,110,32,110,111,116,105,110,32,115,117,98,32,117,110,105,111,110,32,105,110,116,101,114]⟩ w (by decide) (by
  intro j b hb
  have:∀ b ∈ (#[116,114,117,101,32,102,97,108,115,101,32,101,120,48,32,101,120,49,32,101,120,50,32,97,108,108,48,32,97,108,108,49,32,97,108,108,50,32,118,97,114,48,32,118,97,114,49,32,118,97,114,50,32,112,114,101,100,32,105,110,32,110,111,116,105,110,32,115,117,98,32,117,110,105,111,110,32,105,110,116,101,114]:Array UInt8).toList,b.toNat < 128:=by decide +kernel
  exact this b (List.mem_of_getElem? hb)) hT
 rw [hf] at c
 have e1:((wrds.map fun x=>x.data.toList).map fun l=>Value.string ⟨l.toArray⟩).toArray=wrdsCells:=by
  simp [wrdsCells,Function.comp_def]
 have e2:(wrds.map fun x=>x.data.toList).length=17:=by rfl
 rw [e1,e2] at c
 clear hf e1 e2
 go_enter Tryz.func160,Tryz.ntmps160
 go_wp2_with fail
 refine c.mono ?_
 rintro e w1 ⟨rfl,rfl⟩
 go_wp2
 go_ret
 exact ⟨rfl,rfl⟩
theorem count_any (s:ByteArray) (n:Nat) (w:World) (hs:s.size≤1000000) (h:(each s).2 = -1) (hn:(each s).1.length=n) :
  Calls Tryz.prog 157 #[.string s] w fun e w'=>e=.returned (.int .i64 n)∧Below w.heap.size w w':=by
 refine (Tryz.utf8_RuneCountInString s w (by omega)).mono ?_
 rintro e w' ⟨rfl,pos,rfl⟩
 refine ⟨?_,(Below.refl _ _).alloc (Nat.le_refl _) _⟩
 rw [show Lib.runeCount s=n by rw [← hn];exact runeCount_each s s.size 0 (by omega) h]
set_option maxHeartbeats 400000 in
theorem clone_any (s:ByteArray) (w:World) (hs:s.size≤1000000) :
  Calls Tryz.prog 161 #[.string s] w fun e w'=>e=.returned (.string s)∧Below w.heap.size w w':=by
 go_enter Tryz.func161,Tryz.ntmps161
 go_wp2_with (go_at_call 185;refine (Tryz.stringslite_Clone _ _ (by omega)).mono ?_;rintro e w' ⟨rfl,hb⟩)
 go_ret
 exact ⟨rfl,by assumption⟩
theorem words_has (t:ByteArray):Lib.containsS wrds t=isWrd t:=by
 rw [Bool.eq_iff_iff,Lib.containsS_iff]
 unfold isWrd
 rw [List.any_eq_true]
 constructor
 ·intro h;exact ⟨t,h,by simp⟩
 ·rintro ⟨x,hx,he⟩
  rw [beq_iff_eq] at he
  obtain rfl:x=t:=ByteArray.ext (Array.ext' he)
  exact hx
theorem has_any (t:ByteArray) (b:Nat) (w:World) (hc:∀ j,j < 17→w.cell? ⟨b,j,none⟩=some (.string (wrds.getD j ByteArray.empty))) :
  Calls Tryz.prog 159 #[wrdsV b,.string t] w fun e w'=>e=.returned (.bool (isWrd t))∧w=w':=by
 have c:=Tryz.slices_Contains_string b 0 17 17 wrds t w (by decide) (by decide) (fun j hj=>by rw [Nat.zero_add];exact hc j hj)
 rw [show wrds.take 17=wrds from rfl,words_has] at c
 refine c.mono ?_
 rintro e w' ⟨rfl,rfl⟩
 exact ⟨rfl,rfl⟩
set_option maxHeartbeats 1000000 in
theorem name_big (s:ByteArray) (n:Nat) (w:World) (hs:s.size≤1000000) (h:(each s).2 = -1) (hn:(each s).1.length=n) (h12:12 < n) :
  Calls Tryz.prog 121 #[.string s] w fun e w'=>e=.returned (.tuple #[.agg #[.int .i64 0,.string ⟨#[]⟩,.int .i64 0,.int .i64 0],.bool false])∧Below w.heap.size w w':=by
 have HE:=Lib.hid h
 have HN:=Lib.hid hn
 clear h hn
 go_enter Tryz.func121,Tryz.ntmps121
 go_wp2_with fail
 refine (count_any _ n _ hs HE.out HN.out).mono ?_
 rintro e w1 ⟨rfl,hb⟩
 obtain ⟨hc,hf⟩:=bcell hb
 have hz:w.heap.size < w1.heap.size:=by have:=hb.size;simp at this;omega
 have h12':(12:Int) < (n:Int):=by omega
 go_wp2
 exact bodyPost_ret (v:=.tuple #[.agg #[.int .i64 0,.string ⟨#[]⟩,.int .i64 0,.int .i64 0],.bool false]) (by simp [results,Tryz.results121,go_sem,hc]) rfl
  ⟨rfl,((((((Below.refl _ _).alloc (Nat.le_refl _) _).trans (hb.mono (by simp))).setCell (by simp) _).setCell (by simp) _).setCell (by simp) _).setCell (by simp) _⟩
set_option maxHeartbeats 2000000 in
theorem name_ok (s:ByteArray) (n:Nat) (w:World) (hT:LTabs w) (hs:s.size≤1000000) (h:(each s).2 = -1) (hn:(each s).1.length=n) (h12:n≤12) :
  Calls Tryz.prog 121 #[.string s] w fun e w'=>e=.returned (.tuple #[.agg #[.int .i64 (if isWrd s then 3 else 1),.string s,.int .i64 0,.int .i64 0],.bool true])∧Below w.heap.size w w':=by
 have HE:=Lib.hid h
 have HN:=Lib.hid hn
 clear h hn
 have hq:(isWrd s=true∧(if isWrd s then (3:Int) else 1)=3)∨(isWrd s=false∧(if isWrd s then (3:Int) else 1)=1):=by cases isWrd s <;> simp
 rcases hq with ⟨hq,hv⟩ | ⟨hq,hv⟩
 all_goals
  rw [hv]
  clear hv
  go_enter Tryz.func121,Tryz.ntmps121
  go_wp2_with fail
  refine (count_any _ n _ hs HE.out HN.out).mono ?_
  rintro e w1 ⟨rfl,hb⟩
  have hb0:Below w.heap.size w w1:=((Below.refl _ _).alloc (Nat.le_refl _) _).trans (hb.mono (by simp))
  obtain ⟨hc,hf⟩:=bcell hb
  have hz:w.heap.size < w1.heap.size:=by have:=hb.size;simp at this;omega
  have h12':(n:Int)≤(12:Int):=by omega
  have hT1:=hT.below hb0
  go_wp2_with fail
  refine (words_any _ hT1.sp).mono ?_
  rintro e w2 ⟨rfl,rfl⟩
  go_wp2_with fail
  refine (has_any _ _ _ (wrds_cells w1)).mono ?_
  rintro e w' ⟨rfl,rfl⟩
  go_wp2_with fail
  refine (clone_any _ _ hs).mono ?_
  rintro e w3 ⟨rfl,hb3⟩
  obtain ⟨hc3,hf3⟩:=bcell hb3
  have hz3:w1.heap.size+1≤w3.heap.size:=by have:=hb3.size;simp at this;omega
  have hz4:w.heap.size < w3.heap.size:=by omega
  have hz5:w.heap.size < w1.heap.size+1:=by omega
  go_wp2
  exact bodyPost_ret (v:=.tuple #[.agg #[_,.string s,.int .i64 0,.int .i64 0],.bool true]) (by simp [results,Tryz.results121,go_sem,hc,hz,hc3,hz5]) rfl
   ⟨rfl,(((((hb0.alloc (by omega) _).trans (hb3.mono (by simp;omega))).setCell (by simp) _).setCell (by simp) _).setCell (by simp) _).setCell (by simp) _⟩
set_option maxHeartbeats 2000000 in
theorem number_any (s:ByteArray) (w:World) (hs:s.size≤1000000) (h1:1≤s.size) (h:(each s).2 = -1) (hd:∀ q ∈ (each s).1,dgB q.1=true) :
  Calls Tryz.prog 123 #[.string s] w (NumPost s w):=by
 have HA:=Lib.hid (numAt_start s h hd)
 clear h hd
 by_cases hn:s.get! 0=48∧1 < s.size
 ·have HO:=Lib.hid (numOut_no hn)
  have h2:1 < s.size:=hn.2
  have hg:s[0]'h1=48:=by
   have:s.data.toList.getD 0 0=48:=by rw [Lib.getD_get!'];exact hn.1
   rw [List.getD_eq_getElem?_getD,List.getElem?_eq_getElem (by rw [← Lib.size_eq];omega)] at this
   exact this
  have hg1:((s[0]'h1).toNat:Int)=48:=by rw [hg];rfl
  clear hn hg
  go_enter Tryz.func123,Tryz.ntmps123
  go_wp2
  exact bodyPost_ret (by simp [results,Tryz.results123,go_sem]) rfl
   (NumPost.mk HO.out ((Below.refl _ _).alloc (Nat.le_refl _) _))
 ·have HNN:=Lib.hid hn
  have key:∀ (b:Bool),(decide (1 < (s.size:Int))=b)→(b=true→((s[0]'h1).toNat:Int)≠48)→True:=fun _ _ _=>trivial
  have hcase:¬ (1:Int) < (s.size:Int)∨((1:Int) < (s.size:Int)∧(((s[0]'h1).toNat:Int) == 48)=false):=by
   by_cases h2:1 < s.size
   ·right
    refine ⟨by omega,?_⟩
    rw [beq_eq_false_iff_ne]
    intro h48
    refine hn ⟨?_,h2⟩
    rw [← Lib.getD_get!',List.getD_eq_getElem?_getD,List.getElem?_eq_getElem (by rw [← Lib.size_eq];omega)]
    exact UInt8.toNat_inj.1 (show (s[0]'h1).toNat=48 by omega)
   ·left;omega
  clear hn key
  rcases hcase with h2 | ⟨h2,h48⟩
  all_goals
   go_enter Tryz.func123,Tryz.ntmps123
   go_wp2
   go_loopw [4] (fun v wr=>∃ (pos b:Nat) (a:Int),v=.int .i64 a∧0≤a∧a≤99∧wr.heap[w.heap.size+1]? = some (.stringIter s pos)∧Blk4 wr w.heap.size (.int .i64 0) (.string ⟨#[]⟩) (.int .i64 0) (.int .i64 0)∧Below w.heap.size w wr∧Hid (numAt s b pos a)∧s.size≤pos+b) (fun _ wr=>s.size - wr.iterPos (w.heap.size+1))
   case atStart=>exact ⟨0,s.size,0,rfl,by omega,by omega,iter_heap1 w _ s 0,(blk4_new w _ _ _ _).iter s 0,((Below.refl _ _).alloc (Nat.le_refl _) _).alloc (by simp) _,HA.out,by omega⟩
   case round =>
    obtain ⟨pos,b,a,rfl,ha0,ha9,hit,hcl,hbw,HS,hb⟩:=hrel
    have hpos0:=iterPos_of hit
    clear HA
    by_cases hp:pos < s.size
    ·have hnx:∀ ty,(Instr.next (.pointer (some ⟨w.heap.size+1,0,none⟩)) true ty).run Tryz.prog wr=_:=fun ty=>Lib.run_next_any_at wr (w.heap.size+1) s pos ty hit hp
     have hwd:=width_pos s pos hp
     have hwl:=width_le s pos hp
     obtain ⟨b,rfl⟩:∃ f',b=f'+1:=⟨b - 1,by omega⟩
     have hit2:=Lib.iterAt_heap wr (w.heap.size+1) s pos (pos+(Utf8.decode s pos).2) hit
     have hcl2:=hcl.iterAt (w.heap.size+1) (by omega) s (pos+(Utf8.decode s pos).2)
     have hbw2:=Lib.below_iterAt hbw (k:=w.heap.size+1) (by omega) s (pos+(Utf8.decode s pos).2)
     obtain ⟨W1,hW1⟩:∃ W1,W1=wr.iterAt (w.heap.size+1) s (pos+(Utf8.decode s pos).2):=⟨_,rfl⟩
     rw [← hW1] at hnx hit2 hbw2 hcl2
     have hst:=numAt_one hp HS.out ha0 ha9
     obtain ⟨hr0,hr9⟩:=hst.1
     have HN:=Lib.hid hst.2
     clear hW1 hit hbw HS hst hcl
     obtain ⟨⟨k0,k1,k2,k3⟩,f0,f1,f2,f3⟩:=blk4 hcl2
     have hlt2:=hcl2.lt
     by_cases h99:99 < 10 * a+(((Utf8.decode s pos).1:Int) - 48)
     ·have HO:=Lib.hid (numOut_big (numAt_big HN.out h99))
      clear HN
      go_wp2
      exact bodyPost_ret (by simp [results,Tryz.results123,go_sem,k0,k1,k2,k3]) rfl
       (NumPost.mk HO.out ((((hbw2.setCell (by simp) _).setCell (by simp) _).setCell (by simp) _).setCell (by simp) _))
     ·go_wp2
      go_roundw
      case rel=>exact ⟨_,b,_,rfl,by omega,by omega,hit2,hcl2,hbw2,HN.out,by omega⟩
      case measure=>rw [iterPos_of hit2,hpos0];omega
    ·have hnx:∀ ty,(Instr.next (.pointer (some ⟨w.heap.size+1,0,none⟩)) true ty).run Tryz.prog wr=_:=fun ty=>Lib.run_next_end_at wr (w.heap.size+1) s pos ty hit hp
     have HO:=Lib.hid (numOut_ok (numAt_end hp HS.out) ha9 HNN.out)
     obtain ⟨⟨k0,k1,k2,k3⟩,f0,f1,f2,f3⟩:=blk4 hcl
     have hlt2:=hcl.lt
     clear HS
     go_wp2
     exact bodyPost_ret (by simp [results,Tryz.results123,go_sem,k0,k1,k2,k3]) rfl
      (NumPost.mk HO.out ((((hbw.setCell (by simp) _).setCell (by simp) _).setCell (by simp) _).setCell (by simp) _))
end Go.Proofs.YtmlmjopfbohglaaGreatDoor
