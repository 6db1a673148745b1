/- Parts of the proof: Open. -/
import Derived.Test.YtmlmjopfbohglaaGreatDoorPg01
import Derived.ChangeArms
import Derived.WideShapes
import Derived.SizedLaws
import Derived.ChangeReads
namespace Go.Proofs.YtmlmjopfbohglaaGreatDoor
open Go.RowKit
structure Dc where
 name:ByteArray
 order:Int
 pos:Int
def DcAt (w:World) (b o:Nat) (d:Dc):Prop:=w.cell? ⟨b,o,none⟩=some (.string d.name)∧w.cell? ⟨b,o+1,none⟩=some (.int .i64 d.order)∧w.cell? ⟨b,o+2,none⟩=some (.int .i64 d.pos)
theorem DcAt.below {w w':World} (hb:Below w.heap.size w w') {b o:Nat} {d:Dc} (h:DcAt w b o d):DcAt w' b o d:=⟨cell_below hb h.1,cell_below hb h.2.1,cell_below hb h.2.2⟩
def DcsIn (w:World) (a:Option Addr) (l:List Dc):Prop:=l=[]∨∃ b o,a=some ⟨b,o,none⟩∧l.length≤140737488351232∧(∀ i d,l[i]? = some d→DcAt w b (o+i * 3) d)∧∀ d ∈ l,d.name.size≤140737488351232
theorem DcsIn.below {w w':World} (hb:Below w.heap.size w w') {a:Option Addr} {l:List Dc} (h:DcsIn w a l):DcsIn w' a l:=by
 rcases h with h | ⟨b,o,h1,h2,h3,h4⟩
 ·exact .inl h
 ·exact .inr ⟨b,o,h1,h2,fun i d hd=>(h3 i d hd).below hb,h4⟩
theorem cellsDecl:Tryz.prog.cellsOf 120=3:=by kernel_rfl
structure Pd where
 name:ByteArray
 params:List Dc
 pa:Option Addr
 pcap:Nat
 body:Nd
 pos:Int
abbrev pdCells (nm:ByteArray) (pa:Option Addr) (pl pc:Nat) (op name:ByteArray) (n pos:Int) (a:Option Addr) (k cap:Nat) (at':Int):Array Value:=#[.string nm,.slice pa pl pc,.string op,.string name,.int .i64 n,.int .i64 pos,.slice a k cap,.int .i64 at']
def PdAt (w:World) (b o:Nat) (p:Pd):Prop:=w.cell? ⟨b,o,none⟩=some (.string p.name)∧w.cell? ⟨b,o+1,none⟩=some (.slice p.pa p.params.length p.pcap) ∧
 w.cell? ⟨b,o+2,none⟩=some (.string p.body.op)∧w.cell? ⟨b,o+3,none⟩=some (.string p.body.name)∧w.cell? ⟨b,o+4,none⟩=some (.int .i64 p.body.n)∧w.cell? ⟨b,o+5,none⟩=some (.int .i64 p.body.pos)∧w.cell? ⟨b,o+6,none⟩=some (.slice p.body.a p.body.kids.len p.body.cap)∧w.cell? ⟨b,o+7,none⟩=some (.int .i64 p.pos)
theorem PdAt.below {w w':World} (hb:Below w.heap.size w w') {b o:Nat} {p:Pd} (h:PdAt w b o p):PdAt w' b o p :=
 ⟨cell_below hb h.1,cell_below hb h.2.1,cell_below hb h.2.2.1,cell_below hb h.2.2.2.1,cell_below hb h.2.2.2.2.1,cell_below hb h.2.2.2.2.2.1,cell_below hb h.2.2.2.2.2.2.1,cell_below hb h.2.2.2.2.2.2.2⟩
theorem cellsPred:Tryz.prog.cellsOf 67=8:=by kernel_rfl
theorem pd_cells {w:World} {B:Nat} {nm:ByteArray} {pa:Option Addr} {pl pc:Nat} {op name:ByteArray} {n pos:Int} {a:Option Addr} {k cap:Nat} {at':Int} (h:w.heap[B]? = some (.cells (pdCells nm pa pl pc op name n pos a k cap at') 67)) :
  w.cell? ⟨B,0,none⟩=some (.string nm)∧w.cell? ⟨B,1,none⟩=some (.slice pa pl pc)∧w.cell? ⟨B,2,none⟩=some (.string op)∧w.cell? ⟨B,3,none⟩=some (.string name)∧w.cell? ⟨B,4,none⟩=some (.int .i64 n)∧w.cell? ⟨B,5,none⟩=some (.int .i64 pos)∧w.cell? ⟨B,6,none⟩=some (.slice a k cap):=by
 refine ⟨?_,?_,?_,?_,?_,?_,?_⟩ <;> (rw [cell_of_row _ _ _ _ _ _ h];rfl)
abbrev pgCells (da:Option Addr) (dlen dc:Nat) (pa:Option Addr) (pl pc:Nat) (op name:ByteArray) (n pos:Int) (a:Option Addr) (k cap:Nat):Array Value:=#[.slice da dlen dc,.slice pa pl pc,.string op,.string name,.int .i64 n,.int .i64 pos,.slice a k cap]
theorem pg_cells {w:World} {B:Nat} {da:Option Addr} {dlen dc:Nat} {pa:Option Addr} {pl pc:Nat} {op name:ByteArray} {n pos:Int} {a:Option Addr} {k cap:Nat} (h:w.heap[B]? = some (.cells (pgCells da dlen dc pa pl pc op name n pos a k cap) 28)) :
  w.cell? ⟨B,0,none⟩=some (.slice da dlen dc)∧w.cell? ⟨B,1,none⟩=some (.slice pa pl pc)∧w.cell? ⟨B,2,none⟩=some (.string op)∧w.cell? ⟨B,3,none⟩=some (.string name)∧w.cell? ⟨B,4,none⟩=some (.int .i64 n)∧w.cell? ⟨B,5,none⟩=some (.int .i64 pos)∧w.cell? ⟨B,6,none⟩=some (.slice a k cap):=by
 refine ⟨?_,?_,?_,?_,?_,?_,?_⟩ <;> (rw [cell_of_row _ _ _ _ _ _ h];rfl)
open Go.ChangeShapes Go.WideShapes
theorem mem_weightsAll {H:Type} {P:Program} {e:TypeId} {n:Nat} : ∀ {l:List (DataW H)} {d:DataW H},d ∈ l→n ∈ d.weights P e→n ∈ DataW.weightsAll P e l
 | d0 :: l,d,hd,hn=>by
  simp only [DataW.weightsAll,List.mem_append]
  rcases List.mem_cons.1 hd with rfl | hd
  ·exact .inl hn
  ·exact .inr (mem_weightsAll hd hn)
def Nd.list (T:Nd):List Value:=[.string T.op,.string T.name,.int .i64 T.n,.int .i64 T.pos,.slice T.a T.kids.len T.cap]
structure NodeT (P:Program) (tn ts tstr tint:TypeId):Prop where
 node:∃ f0 f1 f2 f3 f4:Field,P.underlying tn=some (.struct #[f0,f1,f2,f3,f4])∧f0.type=tstr∧f1.type=tstr∧f2.type=tint∧f3.type=tint∧f4.type=ts∧f0.offset=0∧f1.offset=1∧f2.offset=2∧f3.offset=3∧f4.offset=4
 slice:P.underlying ts=some (.slice tn)
 string:P.underlying tstr=some .string
 int:P.underlying tint=some (.int .i64)
 cn:P.cellsOf tn=5
 cs:P.cellsOf ts=1
 cstr:P.cellsOf tstr=1
 cint:P.cellsOf tint=1
 bytes:0 < P.bytesOf tn
theorem reach_val:reachBytes=140737488351232:=by decide
theorem build_row {w:World} {b o:Nat} : ∀ (m k:Nat),(∀ i,k≤i→i < k+m→∃ T:Nd,NodeAt w b (o+i * 5) T.op T.name T.n T.pos T.a T.kids.len T.cap∧T.In w∧T.sized)→∃ F:Fo,F.len=m∧F.In w b (o+k * 5)∧F.sized:=by
 intro m
 induction m with
 | zero=>intro k _;exact ⟨.nil,rfl,trivial,trivial⟩
 | succ m ih =>
  intro k h
  obtain ⟨T,h1,h2,h3⟩:=h k (Nat.le_refl _) (by omega)
  obtain ⟨F,hl,hin,hs⟩:=ih (k+1) (fun i hi hi2=>h i (by omega) (by omega))
  refine ⟨.cons T.op T.name T.n T.pos T.a T.cap T.kids F,?_,⟨h1,h2,?_⟩,⟨h3.1,h3.2,hs⟩⟩
  ·show F.len+1=m+1
   rw [hl]
  ·rw [show o+k * 5+5=o+(k+1) * 5 by omega]
   exact hin
section
variable {H:Type} {enc:TypeId × Value→H} {P:Program} {tn ts tstr tint:TypeId} {w:World}
theorem open_node (N:NodeT P tn ts tstr tint):∀ (fuel:Nat) (cs:List Value) (x:DataW H × List MemPlace),DataW.trod enc P w 0 (fun _=>true) true fuel tn cs=some x→(∀ n ∈ x.1.weights P tn,n≤reachBytes)→w.noneFrozen x.2 →
  ∃ T:Nd,cs=T.list∧T.In w∧T.sized:=by
 intro fuel
 induction fuel using Nat.strongRecOn with
 | _ fuel ih =>
  intro cs x h hw hf
  obtain ⟨f0,f1,f2,f3,f4,hs,t0,t1,t2,t3,t4,o0,o1,o2,o3,o4⟩:=N.node
  obtain ⟨xs,m,rfl,rfl,hl,hlen,hfd⟩:=DataW.trod_struct hs h
  rw [N.cn] at hl
  match xs,hlen,cs,hl with
  | [y0,y1,y2,y3,y4],_,[v0,v1,v2,v3,v4],_ =>
   have g0:=hfd 0 f0 rfl
   have g1:=hfd 1 f1 rfl
   have g2:=hfd 2 f2 rfl
   have g3:=hfd 3 f3 rfl
   have g4:=hfd 4 f4 rfl
   simp [t0,t1,t2,t3,t4,o0,o1,o2,o3,o4,N.cs,N.cstr,N.cint] at g0 g1 g2 g3 g4
   obtain ⟨op,e0,rfl,_⟩:=DataW.trod_string N.string g0
   obtain ⟨name,e1,rfl,_⟩:=DataW.trod_string N.string g1
   obtain ⟨n,e2,rfl,_⟩:=DataW.trod_int N.int g2
   obtain ⟨pos,e3,rfl,_⟩:=DataW.trod_int N.int g3
   simp only [List.cons.injEq,and_true] at e0 e1 e2 e3
   subst e0 e1 e2 e3
   have hname:name.size≤140737488351232:=by
    have:=hw name.data.toList.length (by simp [DataW.weights,hs,DataW.weightsEach])
    rw [reach_val,← Lib.size_eq] at this
    exact this
   rcases DataW.trod_slice N.slice g4 with ⟨e4,rfl⟩ | ⟨a,len,cap,elems,rest,m',rfl,e4,rfl,_,hlc,hcm,hel,he,hrest,_⟩
   ·simp only [List.cons.injEq,and_true] at e4
    subst e4
    exact ⟨⟨op,name,n,pos,none,0,.nil⟩,rfl,.inl rfl,hname,trivial⟩
   ·simp only [List.cons.injEq,and_true] at e4
    subst e4
    rw [N.cn] at he hf
    rcases Nat.eq_zero_or_pos len with h0 | h0
    ·subst h0
     exact ⟨⟨op,name,n,pos,some a,cap,.nil⟩,rfl,.inl rfl,hname,trivial⟩
    have hbytes:len≤140737488351232:=by
     have h1:=hw ((elems.length+rest.length) * P.bytesOf tn) (by simp [DataW.weights,hs,DataW.weightsEach,t4,N.slice])
     rw [reach_val,hel] at h1
     have h2:len * 1≤(len+rest.length) * P.bytesOf tn:=Nat.mul_le_mul (by omega) N.bytes
     omega
    have hone:∀ i,i < len→∃ T:Nd,(∀ j,j < 5→w.cell? ((a.add (i * 5)).add j)=T.list[j]?)∧T.In w∧T.sized:=by
     intro i hi
     have h1:=he i hi
     obtain ⟨y,hy⟩:∃ y,elems[i]? = some y:=⟨_,List.getElem?_eq_getElem (by omega)⟩
     rw [hy,Option.bind_eq_some_iff] at h1
     obtain ⟨cs',hcells,ht⟩:=h1
     have hym:y ∈ elems:=List.mem_of_getElem? hy
     obtain ⟨T,rfl,hin,hsz⟩:=ih m' (by omega) cs' y ht
      (fun n hn=>hw n (by
       simp only [DataW.weights,hs,DataW.weightsEach,List.mem_append,List.map_cons,t4,N.slice,List.mem_cons]
       right;right;right;right;left;right;left
       exact mem_weightsAll (List.mem_map_of_mem hym) hn))
      (fun b' off hp=>hf b' off (by
       simp only [List.flatMap_cons,List.mem_append]
       right;right;right;right;left;right
       exact List.mem_flatMap.2 ⟨y,List.mem_append_left _ hym,hp⟩))
     obtain ⟨_,_,hcell⟩:=World.cells?_some hcells
     exact ⟨T,hcell,hin,hsz⟩
    obtain ⟨b,o,spot⟩:=a
    obtain ⟨T0,hc0,_,_⟩:=hone 0 h0
    have hspot:spot=none:=by
     have:=hc0 0 (by omega)
     have:=World.cell?_spot this
     simpa [Addr.add] using this
    subst hspot
    have hfr:w.frozen? ⟨b,o,none⟩=false:=hf b o (by
     simp only [List.flatMap_cons,List.mem_append]
     right;right;right;right;left;left
     refine MemPlace.mem_row.2 ⟨0,?_,rfl⟩
     rw [hel]
     omega)
    obtain ⟨F,hFl,hFin,hFs⟩:=build_row (w:=w) (b:=b) (o:=o) len 0 (by
     intro i _ hi
     obtain ⟨T,hc,hin,hsz⟩:=hone i (by omega)
     refine ⟨T,⟨?_,?_,?_,?_,?_⟩,hin,hsz⟩
     ·have:=hc 0 (by omega);rw [add_plain,add_plain] at this;exact this
     ·have:=hc 1 (by omega);rw [add_plain,add_plain] at this;exact this
     ·have:=hc 2 (by omega);rw [add_plain,add_plain] at this;exact this
     ·have:=hc 3 (by omega);rw [add_plain,add_plain] at this;exact this
     ·have:=hc 4 (by omega);rw [add_plain,add_plain] at this;exact this)
    rw [Nat.zero_mul,Nat.add_zero] at hFin
    refine ⟨⟨op,name,n,pos,some ⟨b,o,none⟩,cap,F⟩,?_,.inr ⟨b,o,rfl,?_,⟨?_,hfr⟩,hFin⟩,hname,hFs⟩
    ·show _=[_,_,_,_,Value.slice _ F.len _]
     rw [hFl]
    ·show F.len≤_
     rw [hFl];exact hbytes
    ·show 0 < F.len
     rw [hFl];exact h0
end
section
variable {H:Type} {enc:TypeId × Value→H} {P:Program} {w:World}
theorem open_slice_of {ts te:TypeId} {c:Nat} {Q:List Value→Prop} (hs:P.underlying ts=some (.slice te)) (hc:P.cellsOf te=c) (hc0:0 < c) (hb0:0 < P.bytesOf te)
  (hQl:∀ l,Q l→0 < l.length)
  (op:∀ (fuel:Nat) (cs:List Value) (x:DataW H × List MemPlace),DataW.trod enc P w 0 (fun _=>true) true fuel te cs=some x→(∀ n ∈ x.1.weights P te,n≤reachBytes)→w.noneFrozen x.2→Q cs)
  {fuel:Nat} {cs:List Value} {x:DataW H × List MemPlace} (h:DataW.trod enc P w 0 (fun _=>true) true fuel ts cs=some x) (hw:∀ n ∈ x.1.weights P ts,n≤reachBytes) (hf:w.noneFrozen x.2) :
  ∃ (a:Option Addr) (len cap:Nat),cs=[.slice a len cap]∧(len=0∨∃ b o,a=some ⟨b,o,none⟩∧len≤140737488351232∧w.frozen? ⟨b,o,none⟩=false∧∀ i,i < len→∃ l,Q l∧∀ j,j < c→w.cell? ⟨b,o+i * c+j,none⟩=l[j]?):=by
 rcases DataW.trod_slice hs h with ⟨e4,rfl⟩ | ⟨a,len,cap,elems,rest,m',rfl,e4,rfl,_,hlc,hcm,hel,he,hrest,_⟩
 ·exact ⟨none,0,0,e4,.inl rfl⟩
 refine ⟨some a,len,cap,e4,?_⟩
 rcases Nat.eq_zero_or_pos len with h0 | h0
 ·exact .inl h0
 right
 rw [hc] at he hf
 have hbytes:len≤140737488351232:=by
  have h1:=hw ((elems.length+rest.length) * P.bytesOf te) (by simp [DataW.weights,hs])
  rw [reach_val,hel] at h1
  have h2:len * 1≤(len+rest.length) * P.bytesOf te:=Nat.mul_le_mul (by omega) hb0
  omega
 have hone:∀ i,i < len→∃ l,Q l∧∀ j,j < c→w.cell? ((a.add (i * c)).add j)=l[j]?:=by
  intro i hi
  have h1:=he i hi
  obtain ⟨y,hy⟩:∃ y,elems[i]? = some y:=⟨_,List.getElem?_eq_getElem (by omega)⟩
  rw [hy,Option.bind_eq_some_iff] at h1
  obtain ⟨cs',hcells,ht⟩:=h1
  have hym:y ∈ elems:=List.mem_of_getElem? hy
  have hq:=op m' cs' y ht
   (fun n hn=>hw n (by
    simp only [DataW.weights,hs,List.mem_append,List.mem_cons]
    right;left
    exact mem_weightsAll (List.mem_map_of_mem hym) hn))
   (fun b' off hp=>hf b' off (by
    simp only [List.mem_append]
    right
    exact List.mem_flatMap.2 ⟨y,List.mem_append_left _ hym,hp⟩))
  obtain ⟨_,_,hcell⟩:=World.cells?_some hcells
  exact ⟨cs',hq,hcell⟩
 obtain ⟨b,o,spot⟩:=a
 obtain ⟨l0,hq0,hc00⟩:=hone 0 h0
 have hspot:spot=none:=by
  have h1:=hc00 0 hc0
  obtain ⟨v,hv⟩:∃ v,l0[0]? = some v:=⟨_,List.getElem?_eq_getElem (hQl _ hq0)⟩
  rw [hv] at h1
  have:=World.cell?_spot h1
  simpa [Addr.add] using this
 subst hspot
 have hfr:w.frozen? ⟨b,o,none⟩=false:=hf b o (by
  simp only [List.mem_append]
  left
  refine MemPlace.mem_row.2 ⟨0,?_,rfl⟩
  rw [hel]
  exact Nat.mul_pos (by omega) hc0)
 refine ⟨b,o,rfl,hbytes,hfr,fun i hi=>?_⟩
 obtain ⟨l,hq,hcl⟩:=hone i hi
 refine ⟨l,hq,fun j hj=>?_⟩
 have:=hcl j hj
 rw [add_plain,add_plain] at this
 exact this
structure DeclT (P:Program) (td tds tstr tint:TypeId):Prop where
 decl:∃ f0 f1 f2:Field,P.underlying td=some (.struct #[f0,f1,f2])∧f0.type=tstr∧f1.type=tint∧f2.type=tint∧f0.offset=0∧f1.offset=1∧f2.offset=2
 slice:P.underlying tds=some (.slice td)
 string:P.underlying tstr=some .string
 int:P.underlying tint=some (.int .i64)
 cd:P.cellsOf td=3
 cs:P.cellsOf tds=1
 cstr:P.cellsOf tstr=1
 cint:P.cellsOf tint=1
 bytes:0 < P.bytesOf td
theorem open_dc {td tds tstr tint:TypeId} (N:DeclT P td tds tstr tint) (fuel:Nat) (cs:List Value) (x:DataW H × List MemPlace) (h:DataW.trod enc P w 0 (fun _=>true) true fuel td cs=some x) (hw:∀ n ∈ x.1.weights P td,n≤reachBytes) (_:w.noneFrozen x.2) :
  ∃ d:Dc,cs=[.string d.name,.int .i64 d.order,.int .i64 d.pos]∧d.name.size≤140737488351232:=by
 obtain ⟨f0,f1,f2,hs,t0,t1,t2,o0,o1,o2⟩:=N.decl
 obtain ⟨xs,m,rfl,rfl,hl,hlen,hfd⟩:=DataW.trod_struct hs h
 rw [N.cd] at hl
 match xs,hlen,cs,hl with
 | [y0,y1,y2],_,[v0,v1,v2],_ =>
  have g0:=hfd 0 f0 rfl
  have g1:=hfd 1 f1 rfl
  have g2:=hfd 2 f2 rfl
  simp [t0,t1,t2,o0,o1,o2,N.cstr,N.cint] at g0 g1 g2
  obtain ⟨name,e0,rfl,_⟩:=DataW.trod_string N.string g0
  obtain ⟨n,e1,rfl,_⟩:=DataW.trod_int N.int g1
  obtain ⟨pos,e2,rfl,_⟩:=DataW.trod_int N.int g2
  simp only [List.cons.injEq,and_true] at e0 e1 e2
  subst e0 e1 e2
  have hname:name.size≤140737488351232:=by
   have:=hw name.data.toList.length (by simp [DataW.weights,hs,DataW.weightsEach])
   rw [reach_val,← Lib.size_eq] at this
   exact this
  exact ⟨⟨name,n,pos⟩,rfl,hname⟩
theorem list_of {α:Type} {p:Nat→α→Prop} : ∀ (n:Nat),(∀ i,i < n→∃ x,p i x)→∃ l:List α,l.length=n∧∀ i x,l[i]? = some x→p i x:=by
 intro n
 induction n with
 | zero=>intro _;exact ⟨[],rfl,fun i x h=>by simp at h⟩
 | succ n ih =>
  intro h
  obtain ⟨l,hl,hp⟩:=ih fun i hi=>h i (by omega)
  obtain ⟨x,hx⟩:=h n (by omega)
  refine ⟨l ++ [x],by simp [hl],fun i y hy=>?_⟩
  rcases Nat.lt_or_ge i n with hi | hi
  ·rw [List.getElem?_append_left (by omega)] at hy
   exact hp i y hy
  ·rw [List.getElem?_append_right (by omega)] at hy
   have:i - l.length=0:=by
    rcases Nat.eq_zero_or_pos (i - l.length) with h0 | h0
    ·exact h0
    ·rw [List.getElem?_eq_none (by simp;omega)] at hy
     cases hy
   rw [this] at hy
   simp at hy
   subst hy
   have:i=n:=by omega
   subst this
   exact hx
theorem open_dcs {td tds tstr tint:TypeId} (N:DeclT P td tds tstr tint) {fuel:Nat} {cs:List Value} {x:DataW H × List MemPlace} (h:DataW.trod enc P w 0 (fun _=>true) true fuel tds cs=some x) (hw:∀ n ∈ x.1.weights P tds,n≤reachBytes) (hf:w.noneFrozen x.2) :
  ∃ (a:Option Addr) (l:List Dc) (cap:Nat),cs=[.slice a l.length cap]∧DcsIn w a l:=by
 obtain ⟨a,len,cap,rfl,h1⟩:=open_slice_of (Q:=fun cs=>∃ d:Dc,cs=[.string d.name,.int .i64 d.order,.int .i64 d.pos]∧d.name.size≤140737488351232) N.slice N.cd (by omega) N.bytes (fun l ⟨d,hd,_⟩=>by subst hd;simp) (open_dc N) h hw hf
 rcases h1 with rfl | ⟨b,o,rfl,hlim,_,hat⟩
 ·exact ⟨a,[],cap,rfl,.inl rfl⟩
 ·obtain ⟨l,rfl,hp⟩:=list_of (p:=fun i (d:Dc)=>DcAt w b (o+i * 3) d∧d.name.size≤140737488351232) len (by
   intro i hi
   obtain ⟨l,⟨d,rfl,hd⟩,hc⟩:=hat i hi
   exact ⟨d,⟨hc 0 (by omega),hc 1 (by omega),hc 2 (by omega)⟩,hd⟩)
  refine ⟨_,l,cap,rfl,.inr ⟨b,o,rfl,hlim,fun i d hd=>(hp i d hd).1,fun d hd=>?_⟩⟩
  obtain ⟨i,hi⟩:=List.getElem?_of_mem hd
  exact (hp i d hi).2
structure PdLies (w:World) (p:Pd):Prop where
 params:DcsIn w p.pa p.params
 body:p.body.In w
 sized:p.body.sized
 name:p.name.size≤140737488351232
theorem PdLies.below {w w':World} (hb:Below w.heap.size w w') {p:Pd} (h:PdLies w p):PdLies w' p:=⟨h.params.below hb,h.body.below hb,h.sized,h.name⟩
def PdsLie (w:World) (a:Option Addr) (l:List Pd):Prop:=(l=[]∨∃ b o,a=some ⟨b,o,none⟩∧l.length≤140737488351232∧∀ i p,l[i]? = some p→PdAt w b (o+i * 8) p)∧∀ p ∈ l,PdLies w p
structure PredT (P:Program) (tp tps td tds tn ts tstr tint:TypeId):Prop where
 pred:∃ f0 f1 f2 f3:Field,P.underlying tp=some (.struct #[f0,f1,f2,f3])∧f0.type=tstr∧f1.type=tds∧f2.type=tn∧f3.type=tint∧f0.offset=0∧f1.offset=1∧f2.offset=2∧f3.offset=7
 slice:P.underlying tps=some (.slice tp)
 cp:P.cellsOf tp=8
 cs:P.cellsOf tps=1
 bytes:0 < P.bytesOf tp
 D:DeclT P td tds tstr tint
 N:NodeT P tn ts tstr tint
theorem open_pd {tp tps td tds tn ts tstr tint:TypeId} (S:PredT P tp tps td tds tn ts tstr tint) (fuel:Nat) (cs:List Value) (x:DataW H × List MemPlace) (h:DataW.trod enc P w 0 (fun _=>true) true fuel tp cs=some x) (hw:∀ n ∈ x.1.weights P tp,n≤reachBytes) (hf:w.noneFrozen x.2) :
  ∃ p:Pd,cs=[.string p.name,.slice p.pa p.params.length p.pcap,.string p.body.op,.string p.body.name,.int .i64 p.body.n,.int .i64 p.body.pos,.slice p.body.a p.body.kids.len p.body.cap,.int .i64 p.pos]∧PdLies w p:=by
 obtain ⟨f0,f1,f2,f3,hs,t0,t1,t2,t3,o0,o1,o2,o3⟩:=S.pred
 obtain ⟨xs,m,rfl,rfl,hl,hlen,hfd⟩:=DataW.trod_struct hs h
 rw [S.cp] at hl
 match xs,hlen,cs,hl with
 | [y0,y1,y2,y3],_,[v0,v1,v2,v3,v4,v5,v6,v7],_ =>
  have g0:=hfd 0 f0 rfl
  have g1:=hfd 1 f1 rfl
  have g2:=hfd 2 f2 rfl
  have g3:=hfd 3 f3 rfl
  simp [t0,t1,t2,t3,o0,o1,o2,o3,S.N.cn,S.D.cs,S.D.cstr,S.D.cint] at g0 g1 g2 g3
  obtain ⟨name,e0,rfl,_⟩:=DataW.trod_string S.D.string g0
  obtain ⟨pos,e3,rfl,_⟩:=DataW.trod_int S.D.int g3
  simp only [List.cons.injEq,and_true] at e0 e3
  subst e0 e3
  have hname:name.size≤140737488351232:=by
   have:=hw name.data.toList.length (by simp [DataW.weights,hs,DataW.weightsEach])
   rw [reach_val,← Lib.size_eq] at this
   exact this
  obtain ⟨pa,l,pc,e1,hd⟩:=open_dcs S.D g1
   (fun n hn=>hw n (by simp only [DataW.weights,hs,DataW.weightsEach,List.mem_append,List.map_cons,t1];right;left;exact hn))
   (fun b' off hp=>hf b' off (by simp only [List.flatMap_cons,List.mem_append];right;left;exact hp))
  obtain ⟨T,e2,hin,hsz⟩:=open_node S.N _ _ _ g2
   (fun n hn=>hw n (by simp only [DataW.weights,hs,DataW.weightsEach,List.mem_append,List.map_cons,t2];right;right;left;exact hn))
   (fun b' off hp=>hf b' off (by simp only [List.flatMap_cons,List.mem_append];right;right;left;exact hp))
  simp only [List.cons.injEq,and_true] at e1
  subst e1
  simp only [Nd.list,List.cons.injEq,and_true] at e2
  obtain ⟨rfl,rfl,rfl,rfl,rfl⟩:=e2
  exact ⟨⟨name,l,pa,pc,T,pos⟩,rfl,hd,hin,hsz,hname⟩
theorem open_pds {tp tps td tds tn ts tstr tint:TypeId} (S:PredT P tp tps td tds tn ts tstr tint) {fuel:Nat} {cs:List Value} {x:DataW H × List MemPlace} (h:DataW.trod enc P w 0 (fun _=>true) true fuel tps cs=some x) (hw:∀ n ∈ x.1.weights P tps,n≤reachBytes) (hf:w.noneFrozen x.2) :
  ∃ (a:Option Addr) (l:List Pd) (cap:Nat),cs=[.slice a l.length cap]∧PdsLie w a l:=by
 obtain ⟨a,len,cap,rfl,h1⟩:=open_slice_of (Q:=fun cs=>∃ p:Pd,cs=[.string p.name,.slice p.pa p.params.length p.pcap,.string p.body.op,.string p.body.name,.int .i64 p.body.n,.int .i64 p.body.pos,.slice p.body.a p.body.kids.len p.body.cap,.int .i64 p.pos]∧PdLies w p) S.slice S.cp (by omega) S.bytes (fun l ⟨d,hd,_⟩=>by subst hd;simp) (open_pd S) h hw hf
 rcases h1 with rfl | ⟨b,o,rfl,hlim,_,hat⟩
 ·exact ⟨a,[],cap,rfl,.inl rfl,fun p hp=>by cases hp⟩
 ·obtain ⟨l,rfl,hp⟩:=list_of (p:=fun i (p:Pd)=>PdAt w b (o+i * 8) p∧PdLies w p) len (by
   intro i hi
   obtain ⟨l,⟨p,rfl,hd⟩,hc⟩:=hat i hi
   exact ⟨p,⟨hc 0 (by omega),hc 1 (by omega),hc 2 (by omega),hc 3 (by omega),hc 4 (by omega),hc 5 (by omega),hc 6 (by omega),hc 7 (by omega)⟩,hd⟩)
  refine ⟨_,l,cap,rfl,.inr ⟨b,o,rfl,hlim,fun i d hd=>(hp i d hd).1⟩,fun d hd=>?_⟩
  obtain ⟨i,hi⟩:=List.getElem?_of_mem hd
  exact (hp i d hi).2
structure ProgT (P:Program) (tg tp tps td tds tn ts tstr tint:TypeId):Prop where
 prog:∃ f0 f1 f2:Field,P.underlying tg=some (.struct #[f0,f1,f2])∧f0.type=tds∧f1.type=tps∧f2.type=tn∧f0.offset=0∧f1.offset=1∧f2.offset=2
 cg:P.cellsOf tg=7
 S:PredT P tp tps td tds tn ts tstr tint
theorem open_prog {tg tp tps td tds tn ts tstr tint:TypeId} (G:ProgT P tg tp tps td tds tn ts tstr tint) {fuel:Nat} {cs:List Value} {x:DataW H × List MemPlace} (h:DataW.trod enc P w 0 (fun _=>true) true fuel tg cs=some x) (hw:∀ n ∈ x.1.weights P tg,n≤reachBytes) (hf:w.noneFrozen x.2) :
  ∃ (da:Option Addr) (ds:List Dc) (dc:Nat) (pa:Option Addr) (ps:List Pd) (pc:Nat) (T:Nd),cs=[.slice da ds.length dc,.slice pa ps.length pc,.string T.op,.string T.name,.int .i64 T.n,.int .i64 T.pos,.slice T.a T.kids.len T.cap]∧DcsIn w da ds∧PdsLie w pa ps∧T.In w∧T.sized:=by
 obtain ⟨f0,f1,f2,hs,t0,t1,t2,o0,o1,o2⟩:=G.prog
 obtain ⟨xs,m,rfl,rfl,hl,hlen,hfd⟩:=DataW.trod_struct hs h
 rw [G.cg] at hl
 match xs,hlen,cs,hl with
 | [y0,y1,y2],_,[v0,v1,v2,v3,v4,v5,v6],_ =>
  have g0:=hfd 0 f0 rfl
  have g1:=hfd 1 f1 rfl
  have g2:=hfd 2 f2 rfl
  simp [t0,t1,t2,o0,o1,o2,G.S.N.cn,G.S.D.cs,G.S.cs] at g0 g1 g2
  obtain ⟨da,ds,dc,e0,hd⟩:=open_dcs G.S.D g0
   (fun n hn=>hw n (by simp only [DataW.weights,hs,DataW.weightsEach,List.mem_append,List.map_cons,t0];left;exact hn))
   (fun b' off hp=>hf b' off (by simp only [List.flatMap_cons,List.mem_append];left;exact hp))
  obtain ⟨pa,ps,pc,e1,hp⟩:=open_pds G.S g1
   (fun n hn=>hw n (by simp only [DataW.weights,hs,DataW.weightsEach,List.mem_append,List.map_cons,t1];right;left;exact hn))
   (fun b' off hp=>hf b' off (by simp only [List.flatMap_cons,List.mem_append];right;left;exact hp))
  obtain ⟨T,e2,hin,hsz⟩:=open_node G.S.N _ _ _ g2
   (fun n hn=>hw n (by simp only [DataW.weights,hs,DataW.weightsEach,List.mem_append,List.map_cons,t2];right;right;left;exact hn))
   (fun b' off hp=>hf b' off (by simp only [List.flatMap_cons,List.mem_append];right;right;left;exact hp))
  simp only [List.cons.injEq,and_true] at e0 e1
  subst e0 e1
  simp only [Nd.list,List.cons.injEq,and_true] at e2
  obtain ⟨rfl,rfl,rfl,rfl,rfl⟩:=e2
  exact ⟨da,ds,dc,pa,ps,pc,T,rfl,hd,hp,hin,hsz⟩
end
theorem nodeT:NodeT Tryz.prog 26 24 9 3 where
 node:=⟨_,_,_,_,_,Tryz.underlying26,rfl,rfl,rfl,rfl,rfl,rfl,rfl,rfl,rfl,rfl⟩
 slice:=Tryz.underlying24
 string:=Tryz.underlying9
 int:=Tryz.underlying3
 cn:=by kernel_rfl
 cs:=by kernel_rfl
 cstr:=by kernel_rfl
 cint:=by kernel_rfl
 bytes:=by decide +kernel
theorem declT:DeclT Tryz.prog 120 22 9 3 where
 decl:=⟨_,_,_,Tryz.underlying120,rfl,rfl,rfl,rfl,rfl,rfl⟩
 slice:=Tryz.underlying22
 string:=Tryz.underlying9
 int:=Tryz.underlying3
 cd:=by kernel_rfl
 cs:=by kernel_rfl
 cstr:=by kernel_rfl
 cint:=by kernel_rfl
 bytes:=by decide +kernel
theorem predT:PredT Tryz.prog 67 23 120 22 26 24 9 3 where
 pred:=⟨_,_,_,_,Tryz.underlying67,rfl,rfl,rfl,rfl,rfl,rfl,rfl,rfl⟩
 slice:=Tryz.underlying23
 cp:=by kernel_rfl
 cs:=by kernel_rfl
 bytes:=by decide +kernel
 D:=declT
 N:=nodeT
theorem progT:ProgT Tryz.prog 28 67 23 120 22 26 24 9 3 where
 prog:=⟨_,_,_,Tryz.underlying28,rfl,rfl,rfl,rfl,rfl,rfl⟩
 cg:=by kernel_rfl
 S:=predT
end Go.Proofs.YtmlmjopfbohglaaGreatDoor
