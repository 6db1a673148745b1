/- Parts of the proof: KS KKn. -/
import Derived.Test.YtmlmjopfbohglaaDoorWd23
import Derived.Test.YtmlmjopfbohglaaDoorWd41
namespace Go.Proofs.YtmlmjopfbohglaaDoor
open Go.RowKit
open Go.Maps
theorem strip_size (F:Fo):F.strip.size=F.size:=by
 induction F with
 | nil=>rfl
 | cons op name n pos a cap kids rest ihk ihr=>show kids.strip.size+1+rest.strip.size=kids.size+1+rest.size;rw [ihk,ihr]
theorem strip_deep (F:Fo):F.strip.deep=F.deep:=by
 induction F with
 | nil=>rfl
 | cons op name n pos a cap kids rest ihk ihr=>show max (kids.strip.deep+1) rest.strip.deep=max (kids.deep+1) rest.deep;rw [ihk,ihr]
theorem strip_sized (F:Fo):F.strip.sized↔F.sized:=by
 induction F with
 | nil=>exact Iff.rfl
 | cons op name n pos a cap kids rest ihk ihr=>show (_∧kids.strip.sized∧rest.strip.sized)↔(_∧kids.sized∧rest.sized);rw [ihk,ihr]
theorem strip_second (F:Fo):F.strip.second=F.second:=by
 cases F with
 | nil=>rfl
 | cons op name n pos a cap kids rest=>cases rest <;> rfl
theorem strip_sorts (F:Fo):F.strip.sorts=F.sorts:=by
 induction F with
 | nil=>rfl
 | cons op name n pos a cap kids rest ihk ihr =>
  show Fo.sorts (.cons op name n pos none 0 kids.strip rest.strip)=Fo.sorts (.cons op name n pos a cap kids rest)
  unfold Fo.sorts
  simp only [ihk,ihr,strip_len,strip_second]
theorem strip_okF (T:Nd):T.strip.okF=T.okF:=by
 show stepF T.op T.name T.n T.kids.strip.len T.kids.strip.sorts.f T.kids.strip.sorts.t=_
 rw [strip_len,strip_sorts]
 rfl
theorem strip_ks (O:ByteArray→Int) (F:Fo):F.strip.ks O=F.ks O:=by
 induction F with
 | nil=>rfl
 | cons op name n pos a cap kids rest ihk ihr =>
  show Fo.ks O (.cons op name n pos none 0 kids.strip rest.strip)=Fo.ks O (.cons op name n pos a cap kids rest)
  unfold Fo.ks
  rw [ihk,ihr]
theorem strip_rest (F:Fo):F.strip.rest=F.rest.strip:=by
 cases F <;> rfl
theorem strip_callK (O:ByteArray→Int) (pos:Int):∀ (F:Fo) (ds:List Dc),callK O pos F.strip ds=callK O pos F ds:=by
 intro F
 induction F with
 | nil=>intro ds;rfl
 | cons op name n p a cap kids rest ihk ihr =>
  intro ds
  cases ds with
  | nil=>rfl
  | cons d ds =>
   show (if (stepK O op name p (kids.strip.ks O)).e=0 then (if (stepK O op name p (kids.strip.ks O)).k=d.order then callK O pos rest.strip ds else (pos,7)) else ((stepK O op name p (kids.strip.ks O)).pos,(stepK O op name p (kids.strip.ks O)).e))=(if (stepK O op name p (kids.ks O)).e=0 then (if (stepK O op name p (kids.ks O)).k=d.order then callK O pos rest ds else (pos,7)) else ((stepK O op name p (kids.ks O)).pos,(stepK O op name p (kids.ks O)).e))
   rw [strip_ks,ihr]
theorem stepFK_strip (O:ByteArray→Int) (Q:ByteArray→Option (List Dc)) (op name:ByteArray) (n pos:Int) (kids:Fo) (kf kf':(ByteArray→Int)→Int × Int) (h:∀ O,kf O=kf' O):stepFK O Q op name n pos kids.strip kf=stepFK O Q op name n pos kids kf':=by
 have he:kf=kf':=funext h
 subst he
 unfold stepFK
 rw [strip_ks,strip_rest,strip_ks,strip_len]
 simp only [strip_callK]
theorem strip_fs (Q:ByteArray→Option (List Dc)) (F:Fo):∀ O,F.strip.fs Q O=F.fs Q O:=by
 induction F with
 | nil=>intro O;rfl
 | cons op name n pos a cap kids rest ihk ihr =>
  intro O
  show (if (stepFK O Q op name n pos kids.strip (kids.strip.fs Q)).2=0 then rest.strip.fs Q O else stepFK O Q op name n pos kids.strip (kids.strip.fs Q))=(if (stepFK O Q op name n pos kids (kids.fs Q)).2=0 then rest.fs Q O else stepFK O Q op name n pos kids (kids.fs Q))
  rw [stepFK_strip O Q op name n pos kids _ _ ihk,ihr]
theorem strip_fk (Q:ByteArray→Option (List Dc)) (O:ByteArray→Int) (T:Nd):T.strip.fk Q O=T.fk Q O:=stepFK_strip O Q T.op T.name T.n T.pos T.kids _ _ (strip_fs Q T.kids)
theorem strip_predR (Q:ByteArray→Option (List Dc)) (P:Pd):predR Q P.strip=predR Q P:=by
 show (if (Q P.name).isSome=true then (P.pos,6) else if (onceR P.params).2=0 then P.body.strip.fk Q (ordD P.params) else onceR P.params)=_
 rw [strip_fk]
 rfl
theorem strip_predsK (l:List Pd):predsK (l.map Pd.strip)=predsK l:=by
 funext x
 unfold predsK
 induction l with
 | nil=>rfl
 | cons p r ih =>
  show ((Pd.strip p :: r.map Pd.strip).find? _).map _=_
  rw [List.find?_cons,List.find?_cons]
  show Option.map Pd.params (match decide (p.name=x) with | true=>some p.strip | false=>_)=Option.map Pd.params (match decide (p.name=x) with | true=>some p | false=>_)
  cases decide (p.name=x) with
  | true=>rfl
  | false=>exact ih
theorem strip_predsR:∀ (l ahead:List Pd),predsR (ahead.map Pd.strip) (l.map Pd.strip)=predsR ahead l:=by
 intro l
 induction l with
 | nil=>intro ahead;rfl
 | cons p r ih =>
  intro ahead
  show (if (predR (predsK (ahead.map Pd.strip)) p.strip).2=0 then predsR (ahead.map Pd.strip ++ [p.strip]) (r.map Pd.strip) else predR (predsK (ahead.map Pd.strip)) p.strip)=_
  rw [strip_predsK,strip_predR,show ahead.map Pd.strip ++ [p.strip]=(ahead ++ [p]).map Pd.strip from by rw [List.map_append];rfl,ih]
  rfl
theorem strip_pok (p:Pd):p.strip.ok=p.ok:=by
 show (nameB p.name && decide ((p.params.length:Int)≤6) && p.params.all Dc.ok && p.body.strip.okF)=_
 rw [strip_okF]
 rfl
theorem strip_checkR (ds:List Dc) (ps:List Pd) (T:Nd):checkR ds (ps.map Pd.strip) T.strip=checkR ds ps T:=by
 unfold checkR
 rw [strip_okF,strip_predsK,strip_fk,show (ps.map Pd.strip).all Pd.ok=ps.all Pd.ok from by rw [List.all_map];congr 1;funext p;exact strip_pok p]
 have h:=strip_predsR ps []
 simp only [List.map_nil] at h
 rw [h]
def Fo.sizedB:Fo→Bool
 | .nil=>true
 | .cons _ name _ _ _ _ kids rest=>decide (name.size≤2000) && kids.sizedB && rest.sizedB
theorem sizedB_sized (F:Fo) (h:F.sizedB=true):F.sized:=by
 induction F with
 | nil=>trivial
 | cons op name n pos a cap kids rest ihk ihr =>
  have h1:(decide (name.size≤2000) && kids.sizedB && rest.sizedB)=true:=h
  rw [Bool.and_eq_true,Bool.and_eq_true,decide_eq_true_eq] at h1
  exact ⟨by omega,ihk h1.1.2,ihr h1.2⟩
def ndB (T:Nd):Bool:=decide (T.name.size≤2000) && T.kids.sizedB && decide (T.deep≤30) && decide (T.size≤2000)
def dcsB (l:List Dc):Bool:=decide (l.length≤1000000) && l.all fun d=>decide (d.name.size≤2000)
def goodB (x:List Dc × List Pd × Nd):Bool:=dcsB x.1 && decide (x.2.1.length≤1000000) && (x.2.1.all fun p=>decide (p.name.size≤2000) && dcsB p.params && ndB p.body) && ndB x.2.2
theorem ndB_of {T n:Nd} (hs:T.strip=n) (h:ndB n=true):T.sized∧T.deep≤30∧T.size≤2000:=by
 subst hs
 unfold ndB at h
 simp only [Bool.and_eq_true,decide_eq_true_eq] at h
 obtain ⟨⟨⟨h1,h2⟩,h3⟩,h4⟩:=h
 have h5:T.kids.strip.sized:=sizedB_sized _ h2
 have h1':T.name.size≤2000:=h1
 have h3':T.kids.strip.deep+1≤30:=h3
 have h4':T.kids.strip.size+1≤2000:=h4
 rw [strip_deep] at h3'
 rw [strip_size] at h4'
 exact ⟨⟨by omega,(strip_sized _).1 h5⟩,h3',h4'⟩
theorem dcsB_of {l:List Dc} (h:dcsB l=true):l.length≤1000000∧∀ d ∈ l,d.name.size≤140737488351232:=by
 unfold dcsB at h
 simp only [Bool.and_eq_true,decide_eq_true_eq,List.all_eq_true] at h
 exact ⟨h.1,fun d hd=>by have:=h.2 d hd;omega⟩
theorem parse_use {w:World} {len:Int} {x:List Dc × List Pd × Nd} {l:List Tok} {e:Ending} {w':World} (hG:ParseG w len (.ok x l) e w') (hg:goodB x=true):Below w.heap.size w w'∧∃ (da:Option Addr) (dc:Nat) (pa:Option Addr) (pc:Nat) (Ps:List Pd) (T:Nd),e=.returned (.tuple #[.agg (pgCells da x.1.length dc pa Ps.length pc T.op T.name T.n T.pos T.a T.kids.len T.cap),.int .i64 len,.int .i64 0])∧DcsIn w' da x.1∧PdsIn w' pa Ps∧T.In w'∧T.sized∧T.deep≤30∧T.size≤2000∧x.1.length≤1000000∧Ps.length≤1000000∧checkR x.1 Ps T=checkR x.1 x.2.1 x.2.2∧Ps.map Pd.strip=x.2.1∧T.strip=x.2.2:=by
 obtain ⟨hb,da,dc,pa,pc,Ps,T,he,hd,hp,hpo,hps,hgT,hst⟩:=hG
 unfold goodB at hg
 simp only [Bool.and_eq_true,decide_eq_true_eq,List.all_eq_true] at hg
 obtain ⟨⟨⟨g1,g2⟩,g3⟩,g4⟩:=hg
 obtain ⟨d1,d2⟩:=dcsB_of g1
 obtain ⟨t1,t2,t3⟩:=ndB_of hst g4
 have hpl:Ps.length≤1000000:=by rw [← hps,List.length_map] at g2;exact g2
 refine ⟨hb,da,dc,pa,pc,Ps,T,he,hd.in (by omega) d2,⟨?_,fun p hp'=>?_⟩,hgT.lies,t1,t2,t3,d1,hpl,by rw [← hps,← hst,strip_checkR],hps,hst⟩
 ·rcases hp with h | ⟨b,h1,h2,h3,h4⟩
  ·exact .inl h
  ·exact .inr ⟨b,0,h1,by omega,fun i p hi=>by rw [Nat.zero_add];exact h4 i p hi⟩
 ·have hm:p.strip ∈ x.2.1:=by rw [← hps];exact List.mem_map_of_mem hp'
  obtain ⟨⟨n1,n2⟩,n3⟩:=g3 _ hm
  obtain ⟨e1,e2⟩:=dcsB_of n2
  obtain ⟨b1,b2,b3⟩:=ndB_of (T:=p.body) rfl n3
  have ho:=hpo p hp'
  have n1':p.name.size≤2000:=n1
  exact ⟨ho.params.in (Nat.le_trans e1 (by omega)) e2,ho.body.lies,b1,by omega,b2,b3⟩
def progOf (s:ByteArray):Res (List Dc × List Pd × Nd):=pProgL ((toks s).1.length+1) 4001 [] [] (toks s).1
def chkK (s:ByteArray) (at' err:Int):Bool:=decide (s.size≤1000000) && decide ((toks s).2.2=0) && decide ((toks s).1.length≤150) && nqB (toks s).1 && match progOf s with | .ok x _=>goodB x && decide (checkR x.1 x.2.1 x.2.2=(at',err)) | .bad _ _=>false
theorem rparse_chk (s:ByteArray) (at' err:Int) (h:chkK s at' err=true) (w:World) (hU:UT w):Calls Tryd.prog 9 #[.string s] w fun e w'=>Below w.heap.size w w'∧∃ (ds:List Dc) (da:Option Addr) (dc:Nat) (pa:Option Addr) (pc:Nat) (Ps:List Pd) (T:Nd),e=.returned (.tuple #[.agg (pgCells da ds.length dc pa Ps.length pc T.op T.name T.n T.pos T.a T.kids.len T.cap),.int .i64 s.size,.int .i64 0])∧DcsIn w' da ds∧PdsIn w' pa Ps∧T.In w'∧T.sized∧T.deep≤30∧T.size≤2000∧ds.length≤1000000∧Ps.length≤1000000∧checkR ds Ps T=(at',err):=by
 unfold chkK at h
 simp only [Bool.and_eq_true,decide_eq_true_eq] at h
 obtain ⟨⟨⟨⟨h1,h2⟩,h3⟩,hnq⟩,h4⟩:=h
 have ht:toks s=((toks s).1,(toks s).2.1,0):=by rw [← h2]
 have hp:=rparse_ok s (toks s).1 (toks s).2.1 w hU h1 ht hnq 4000 (by omega) (progOf s) rfl
 cases hq:progOf s with
 | bad a b=>rw [hq] at h4;cases h4
 | ok x l =>
  rw [hq] at hp h4
  simp only [Bool.and_eq_true,decide_eq_true_eq] at h4
  refine hp.mono fun e w' hG=>?_
  obtain ⟨hb,da,dc,pa,pc,Ps,T,he,g1,g2,g3,g4,g5,g6,g7,g8,g9,_⟩:=parse_use hG h4.1
  exact ⟨hb,x.1,da,dc,pa,pc,Ps,T,he,g1,g2,g3,g4,g5,g6,g7,g8,by rw [g9,h4.2]⟩
def knownK:ByteArray:=⟨#[118,97,114,50,32,88,59,32,88,32,60,32,51,59]⟩
theorem knownK_chk:chkK knownK 10 7=true:=by decide +kernel
set_option maxRecDepth 100000 in
set_option maxHeartbeats 16000000 in
theorem kknown_any (w:World) (hU:UT w) (hT:LTabs w):Calls Tryd.prog 13 #[] w fun e w'=>e=.returned (.bool true)∧Below w.heap.size w w':=by
 have hc7:=cellsProg7
 have HC:=Lib.hid (rparse_chk knownK 10 7 knownK_chk w hU)
 have HT:=Lib.hid hT
 clear hU hT
 go_enter Tryd.func13,Tryd.ntmps13
 go_wp2_with fail
 refine HC.out.mono ?_
 rintro e w1 ⟨hb1,ds,da,dc,pa,pc,Ps,T,rfl,hd,hp,hm,hms,hmd,hmz,hdl,hpl,hck⟩
 have HB1:=Lib.hid hb1
 have hbx:=below_box w1 (pgB da ds.length dc pa Ps.length pc T)
 have hcall:=kcheck_any ds da dc Ps pa pc T (w1.alloc (pgB da ds.length dc pa Ps.length pc T)) (HT.out.below (hb1.alloc hb1.size _)) (hd.below hbx) ⟨by rcases hp.1 with h | ⟨b,o,h1,h2,h3⟩;exact .inl h;exact .inr ⟨b,o,h1,h2,fun i p hi=>(h3 i p hi).below hbx⟩,fun p hi=>(hp.2 p hi).below hbx⟩ (hm.below hbx) hms hmd hmz hdl hpl
 rw [hck] at hcall
 have HC2:=Lib.hid hcall
 obtain ⟨p0,p1,p2,p3,p4,p5,p6⟩:=pg_cells (new_at w1 (pgB da ds.length dc pa Ps.length pc T))
 clear hcall hbx hd hp hm hms hmd hmz hdl hpl hck HC hb1 HT
 go_wp2_with fail
 refine HC2.out.mono ?_
 rintro e w2 ⟨rfl,hb2⟩
 have hbb:=HB1.out.trans ((box_then hb2).mono HB1.out.size)
 clear hb2 HC2
 go_wp2_with fail
 go_ret
 exact ⟨rfl,hbb⟩
end Go.Proofs.YtmlmjopfbohglaaDoor
