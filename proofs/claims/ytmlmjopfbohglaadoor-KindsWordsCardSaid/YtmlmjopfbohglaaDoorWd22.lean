/- Parts of the proof: TrB. -/
import Derived.Test.YtmlmjopfbohglaaDoorWd17
import Derived.Test.YtmlmjopfbohglaaDoorWd14
namespace Go.Proofs.YtmlmjopfbohglaaDoor
open Go.RowKit
def Firm (w:World) (a:Addr):Prop:=(∃ c t fr,w.heap[a.block]? = some (.cells c t fr))∧w.frozen? a=false
theorem Firm.drewN {w:World} {a:Addr} (h:Firm w a) (n:Nat):Firm (w.drewN n) a:=h
theorem sameAddr_any (P:Program) (w:World) (a b:Addr) (ha:Firm w a) (hb:Firm w b):∃ r k,(sameAddr a b).run P w=.ok r (w.drewN k):=by
 by_cases hbl:a.block=b.block
 ·exact ⟨a == b,0,by simp [sameAddr,hbl];rfl⟩
 ·obtain ⟨⟨ca,ta,fa,hca⟩,hfa⟩:=ha
  obtain ⟨⟨cb,tb,fb,hcb⟩,hfb⟩:=hb
  have hm:∃ mb,(mayBeOne a b).run P w=.ok mb w:=by
   simp [mayBeOne,stringish,hfa,hfb,hca,hcb,World.shape?]
  obtain ⟨mb,hm⟩:=hm
  cases mb with
  | false=>exact ⟨false,0,by simp [sameAddr,hbl,hfa,hfb,hca,hcb,noView,viewAt,World.shape?,hm];rfl⟩
  | true =>
   refine ⟨(Question.extern "sameAddr.stringBytes" 2).cut (w.tape w.drawn (Question.extern "sameAddr.stringBytes" 2)) == 1, 1, ?_⟩
   simp [sameAddr,hbl,hfa,hfb,hca,hcb,noView,viewAt,World.shape?,hm,choose,Sem.run,Question.forced]
   rfl
abbrev keyV (a:Addr) (n:Nat):Value:=.agg #[.pointer (some a),.int .i64 n]
abbrev LT:TypeId:=192
theorem keyEq_any (w:World) (a b:Addr) (n m:Nat) (ha:Firm w a) (hb:Firm w b):∃ r k,(Op.equal LT (keyV a n) (keyV b m)).run Tryd.prog w=.ok r (w.drewN k):=by
 obtain ⟨r,k,hr⟩:=sameAddr_any Tryd.prog w a b ha hb
 have hS:Tryd.prog.underlying LT=some (.struct (Tryd.prog.fieldsOf LT)):=by kernel_rfl
 have hp:Tryd.prog.stoodInHeld LT=false:=by kernel_rfl
 unfold Op.equal Op.maxDepth
 rw [show (10000:Nat)=9999+1 from rfl,run_equalIn_agg w 9999 LT _ _ hS hp]
 have u73:=Tryd.underlying190
 have a73:=Tryd.isAgg190
 have z73:=Tryd.sizeOf190
 have u3:=Tryd.underlying3
 have a3:=Tryd.isAgg3
 have z3:=Tryd.sizeOf3
 have z37:=Tryd.sizeOf26
 simp only [Program.fieldsOf,Tryd.underlying192]
 have he:(Op.equalIn 9999 190 (.pointer (some a)) (.pointer (some b))).run Tryd.prog w=.ok r (w.drewN k):=by
  rw [show (9999:Nat)=9998+1 from rfl,Op.equalIn]
  simp [run_underlying u73,z37,hr]
 go_simp
 cases r with
 | false=>exact .inl ⟨k,by simp⟩
 | true =>
  by_cases hnm:(n:Int)=(m:Int)
  ·exact .inr ⟨k,by simp [hnm]⟩
  ·exact .inl ⟨k,by simp [hnm]⟩
def EntG (G:Addr→Prop) (e:MapEntry):Prop:=e.val=.agg #[]∧∃ a n,e.key=keyV a n∧G a
theorem findAsking_any {G:Addr→Prop} (a:Addr) (n:Nat):∀ (es:List MapEntry) (i:Nat) (w:World),(∀ b,G b→Firm w b)→Firm w a→(∀ e ∈ es,EntG G e) →
  ∃ k,(Instr.findAsking LT (keyV a n) es i).run Tryd.prog w=.ok none (w.drewN k)∨∃ j,(Instr.findAsking LT (keyV a n) es i).run Tryd.prog w=.ok (some (i+j,.agg #[])) (w.drewN k)∧j < es.length
 | [],i,w,_,_,_=>⟨0,.inl (by simp [Instr.findAsking];rfl)⟩
 | e :: es,i,w,hG,ha,hall=>by
  obtain ⟨hv,b,m,hk,hb⟩:=hall e (by simp)
  obtain ⟨r,k,hr⟩:=keyEq_any w a b n m ha (hG b hb)
  cases r
  ·obtain ⟨k2,h2⟩:=findAsking_any a n es (i+1) (w.drewN k) (fun b hb=>(hG b hb).drewN k) (ha.drewN k) (fun y hy=>hall y (by simp [hy]))
   rcases h2 with h2 | ⟨j,h2,hj⟩
   ·exact ⟨k+k2,.inl (by simp [Instr.findAsking,hk,hr,h2])⟩
   ·exact ⟨k+k2,.inr ⟨j+1,by simp [Instr.findAsking,hk,hr,h2,Nat.add_assoc,Nat.add_comm 1 j],by simp;omega⟩⟩
  ·exact ⟨k,.inr ⟨0,by simp [Instr.findAsking,hk,hr,hv],by simp⟩⟩
theorem findKey_any {G:Addr→Prop} (a:Addr) (n:Nat) (es:List MapEntry) (w:World) (hG:∀ b,G b→Firm w b) (ha:Firm w a) (hall:∀ e ∈ es,EntG G e) :
  ∃ k,((Instr.findKey LT (keyV a n) es).run Tryd.prog w=.ok none (w.drewN k))∨∃ j,(Instr.findKey LT (keyV a n) es).run Tryd.prog w=.ok (some (j,.agg #[])) (w.drewN k)∧j < es.length:=by
 have hu:=Tryd.underlying192
 cases es with
 | nil=>exact ⟨0,.inl (by simp [Instr.findKey,run_underlying hu,Instr.findNow];rfl)⟩
 | cons e es =>
  have h:=findAsking_any a n (e :: es) 0 w hG ha hall
  have he:(Instr.findKey LT (keyV a n) (e :: es)).run Tryd.prog w=(Instr.findAsking LT (keyV a n) (e :: es) 0).run Tryd.prog w:=by
   simp [Instr.findKey,run_underlying hu,Instr.findNow,Instr.sameNow]
  obtain ⟨k,h⟩:=h
  refine ⟨k,?_⟩
  rw [he]
  rcases h with h | ⟨j,h,hj⟩
  ·exact .inl h
  ·exact .inr ⟨j,by rw [h,Nat.zero_add],hj⟩
theorem check_any (w:World) (em:Bool) (a:Addr) (n:Nat):(Instr.checkKey em 10000 LT (keyV a n)).run Tryd.prog w=.ok () w:=by
 have u73:=Tryd.underlying190
 have a73:=Tryd.isAgg190
 have z73:=Tryd.sizeOf190
 have u3:=Tryd.underlying3
 have a3:=Tryd.isAgg3
 have z3:=Tryd.sizeOf3
 have hu:=Tryd.underlying192
 have c1:∀ (w:World) (x:Addr),(Instr.checkKey em 9999 190 (.pointer (some x))).run Tryd.prog w=.ok () w:=by
  intro w x
  rw [show (9999:Nat)=9998+1 from rfl,Instr.checkKey]
  simp [run_underlying u73]
 have c2:∀ (w:World) (x:Int),(Instr.checkKey em 9999 3 (.int .i64 x)).run Tryd.prog w=.ok () w:=by
  intro w x
  rw [show (9999:Nat)=9998+1 from rfl,Instr.checkKey]
  simp [run_underlying u3]
 rw [show (10000:Nat)=9999+1 from rfl,Instr.checkKey]
 simp only [Sem.run_bind,run_underlying hu,Result.andThen_ok]
 go_simp
abbrev MT:TypeId:=189
def MapG (G:Addr→Prop) (w:World) (B:Nat) (es:Array MapEntry):Prop:=(∃ clock,w.heap[B]? = some (.map es clock))∧∀ e ∈ es.toList,EntG G e
theorem lookup_any {G:Addr→Prop} (w:World) (B:Nat) (es:Array MapEntry) (h:MapG G w B es) (hG:∀ b,G b→Firm w b) (a:Addr) (n:Nat) (ha:G a) :
  ∃ ok k,(es.size=0→ok=false)∧(Instr.lookup MT (.map (some B)) (keyV a n) true).run Tryd.prog w=.ok (.tuple #[.agg #[],.bool ok]) (w.drewN k):=by
 obtain ⟨⟨clock,hb⟩,hall⟩:=h
 obtain ⟨k,hk⟩:=findKey_any a n es.toList w hG (hG a ha) hall
 have ht:=Tryd.underlying189
 rcases hk with hk | ⟨j,hk,hj⟩
 ·refine ⟨false,k,fun _=>rfl,?_⟩
  simp [Instr.lookup,run_underlying ht,MapKept.run_getObj_map hb,check_any,hk,Result.andThen]
 ·refine ⟨true,k,fun h0=>by simp at hj;omega,?_⟩
  simp [Instr.lookup,run_underlying ht,MapKept.run_getObj_map hb,check_any,hk,Result.andThen]
theorem stays_any (P:Program) (w:World) (x y:Value):∃ z k,(Instr.keyThatStays x y).run P w=.ok z (w.drewN k)∧(z=x∨z=y):=by
 unfold Instr.keyThatStays
 by_cases h:Instr.sameBits 10000 x y=true
 ·exact ⟨y,0,by simp [h];rfl,.inr rfl⟩
 ·have hq:∀ v:Nat,∃ z,(if v=0 then y else x)=z∧(z=x∨z=y):=by
   intro v
   by_cases hv:v=0
   ·exact ⟨y,by rw [if_pos hv],.inr rfl⟩
   ·exact ⟨x,by rw [if_neg hv],.inl rfl⟩
  obtain ⟨z, hz, hz2⟩ := hq ((Question.extern "map.whichKeyStays" 2).cut (w.tape w.drawn (Question.extern "map.whichKeyStays" 2)))
  refine ⟨z,1,?_,hz2⟩
  simp [h,choose,Sem.run,Question.forced]
  exact ⟨hz,rfl⟩
theorem update_any {G:Addr→Prop} (w:World) (B:Nat) (es:Array MapEntry) (h:MapG G w B es) (hG:∀ b,G b→Firm w b) (a:Addr) (n:Nat) (ha:G a) :
  ∃ w' es',(Instr.mapUpdate MT (.map (some B)) (keyV a n) (.agg #[])).run Tryd.prog w=.ok () w'∧MapG G w' B es'∧w.grownBy w' (some B):=by
 obtain ⟨⟨clock,hb⟩,hall⟩:=h
 obtain ⟨k,hk⟩:=findKey_any a n es.toList w hG (hG a ha) hall
 have ht:=Tryd.underlying189
 have hbk:∀ k,(w.drewN k).heap[B]? = some (.map es clock):=fun _=>hb
 have hgrow:∀ k o,w.grownBy (Go.ChangeMaps.setBlock (w.drewN k) B o) (some B):=fun k o=>⟨rfl,rfl,rfl,by simp [Go.ChangeMaps.setBlock],fun i _ hi=>Go.ChangeMaps.heap_setBlock_other (hbk k) _ (fun e=>hi (by rw [e]))⟩
 rcases hk with hk | ⟨j,hk,hj⟩
 ·refine ⟨Go.ChangeMaps.setBlock (w.drewN k) B (.map (es.push { key:=keyV a n,val:=.agg #[],born:=clock }) (clock+1)),es.push { key:=keyV a n,val:=.agg #[],born:=clock },?_,⟨⟨clock+1,Go.ChangeMaps.heap_setBlock_same (hbk k) _⟩,?_⟩,hgrow k _⟩
  ·simp [Instr.mapUpdate,run_underlying ht,MapKept.run_getObj_map hb,check_any,hk,Result.andThen,MapKept.run_setObj_map _ (hbk k)]
   rfl
  ·intro e he
   simp only [Array.toList_push,List.mem_append,List.mem_singleton] at he
   rcases he with he | rfl
   ·exact hall e he
   ·exact ⟨rfl,a,n,rfl,ha⟩
 ·have hj':j < es.size:=by simpa using hj
  obtain ⟨z,k2,hz,hz2⟩:=stays_any Tryd.prog (w.drewN k) (es[j]'hj').key (keyV a n)
  have hbk2:=hbk (k+k2)
  refine ⟨Go.ChangeMaps.setBlock (w.drewN (k+k2)) B (.map (es.modify j fun e=>{ e with key:=z,val:=.agg #[] }) clock),es.modify j fun e=>{ e with key:=z,val:=.agg #[] },?_,⟨⟨clock,Go.ChangeMaps.heap_setBlock_same hbk2 _⟩,?_⟩,hgrow _ _⟩
  ·have hset:=fun o=>MapKept.run_setObj_map (P:=Tryd.prog) o hbk2
   simp [Instr.mapUpdate,run_underlying ht,MapKept.run_getObj_map hb,check_any,hk,Result.andThen,hj',hz,hset]
   rfl
  ·intro e he
   obtain ⟨i,hi,rfl⟩:=List.mem_iff_getElem.1 he
   have hi':i < es.size:=by simpa using hi
   simp only [Array.getElem_toList]
   rw [Array.getElem_modify]
   split
   ·rename_i hji
    subst hji
    refine ⟨rfl,?_⟩
    rcases hz2 with rfl | rfl
    ·exact (hall (es[j]'hj') (by simp)).2
    ·exact ⟨a,n,rfl,ha⟩
   ·exact hall _ (by simp)
theorem MapG.other {G:Addr→Prop} {w w':World} {B:Nat} {es:Array MapEntry} (h:MapG G w B es) (hB:w'.heap[B]? = w.heap[B]?):MapG G w' B es:=⟨by rw [hB];exact h.1,h.2⟩
theorem MapG.new (G:Addr→Prop) (w:World):MapG G (w.alloc (.map #[] 0)) w.heap.size #[]:=⟨⟨0,new_at _ _⟩,by simp⟩
theorem Firm.below {w w':World} (hb:Below w.heap.size w w') {a:Addr} (h:Firm w a):Firm w' a:=by
 obtain ⟨⟨c,t,fr,hc⟩,hf⟩:=h
 have hl:a.block < w.heap.size:=(Array.getElem?_eq_some_iff.1 hc).1
 refine ⟨⟨c,t,fr,by rw [hb.block _ hl];exact hc⟩,?_⟩
 rw [hb.frozen hl];exact hf
set_option maxRecDepth 100000 in
theorem wpList_lookup_any {G:Addr→Prop} (w:World) {ops:Array Oper} {rest:List Oper} {o:Oper} {act:Act} {Q:Exit→Act→World→Prop} (hg:o.guard=none) (m x:Operand) (hop:o.op=Op.lookup MT m x true)
  (B:Nat) (hm:act.eval m=.map (some B)) (es:Array MapEntry) (h:MapG G w B es) (hG:∀ b,G b→Firm w b) (a:Addr) (n:Nat) (hx:act.eval x=keyV a n) (ha:G a)
  (hK:∀ ok k,(es.size=0→ok=false)→wpList Tryd.prog ops Q rest (act.put o.dst (.tuple #[.agg #[],.bool ok])) (w.drewN k)):wpList Tryd.prog ops Q (o :: rest) act w:=by
 refine wpList_plain hg fun K' hK'=>?_
 obtain ⟨ok,k,h0,hrun⟩:=lookup_any w B es h hG a n ha
 unfold Oper.wp
 simp [execOp,hop,hm,hx,hrun,Result.andThen]
 exact hK' _ _ (hK ok k h0)
set_option maxRecDepth 100000 in
theorem wpList_update_any {G:Addr→Prop} (w:World) {ops:Array Oper} {rest:List Oper} {o:Oper} {act:Act} {Q:Exit→Act→World→Prop} (hg:o.guard=none) (m x v:Operand) (hop:o.op=Op.mapUpdate MT m x v)
  (B:Nat) (hm:act.eval m=.map (some B)) (es:Array MapEntry) (h:MapG G w B es) (hG:∀ b,G b→Firm w b) (a:Addr) (n:Nat) (hx:act.eval x=keyV a n) (hv:act.eval v=.agg #[]) (ha:G a)
  (hK:∀ w' es',MapG G w' B es'→w.grownBy w' (some B)→wpList Tryd.prog ops Q rest (act.put o.dst undef) w'):wpList Tryd.prog ops Q (o :: rest) act w:=by
 refine wpList_plain hg fun K' hK'=>?_
 obtain ⟨w',es',hrun,h1,h2⟩:=update_any w B es h hG a n ha
 unfold Oper.wp
 simp [execOp,hop,hm,hx,hv,hrun,Result.andThen]
 exact hK' _ _ (hK w' es' h1 h2)
end Go.Proofs.YtmlmjopfbohglaaDoor
namespace Go.Proofs.YtmlmjopfbohglaaDoor
open Go.RowKit
structure Rw where
 b:Nat
 o:Nat
 cap:Nat
 F:Fo
def Rw.val (r:Rw):Value:=.slice (some ⟨r.b,r.o,none⟩) r.F.len r.cap
def Rw.In (w:World) (r:Rw):Prop:=r.F.In w r.b r.o∧r.F.len≤140737488351232∧0 < r.F.len∧w.frozen? ⟨r.b,r.o,none⟩=false
theorem Rw.In.below {w w':World} (hb:Below w.heap.size w w') {r:Rw} (h:r.In w):r.In w' :=
 ⟨h.1.below hb,h.2.1,h.2.2.1,by rw [hb.frozen (h.1.lt h.2.2.1)];exact h.2.2.2⟩
theorem Fo.In.firm {w:World} {F:Fo} {b o:Nat} (h:F.In w b o) (h0:0 < F.len) (hf:w.frozen? ⟨b,o,none⟩=false):Firm w ⟨b,o,none⟩:=by
 cases F with
 | nil=>cases h0
 | cons op name n pos a cap kids rest =>
  refine ⟨?_,hf⟩
  have:=h.1.1
  unfold World.cell? at this
  split at this
  ·rename_i c t fr hc;exact ⟨c,t,fr,hc⟩
  ·cases this
def Fo.kidOf (r:Rw):Fo→Prop
 | .nil=>False
 | .cons _ _ _ _ a cap kids rest=>(kids=r.F∧a=some ⟨r.b,r.o,none⟩∧cap=r.cap)∨Fo.kidOf r rest
def Fo.leaf:Fo→Prop
 | .nil=>True
 | .cons _ _ _ _ _ _ kids rest=>kids=.nil∧Fo.leaf rest
def total:List Rw→Nat
 | []=>0
 | r :: rs=>r.F.size+total rs
def LevelIn (w:World) (v:Value) (rs:List Rw):Prop :=
 ∃ a cap,v=.slice a rs.length cap∧(∀ i r,rs[i]? = some r→∃ bl ol,a=some ⟨bl,ol,none⟩∧w.cell? ⟨bl,ol+i,none⟩=some r.val)∧∀ r ∈ rs,r.In w
structure Next (rs rs':List Rw):Prop where
 kid:∀ r' ∈ rs',∃ r ∈ rs,r.F.kidOf r'
 none:rs'=[]↔∀ r ∈ rs,r.F.leaf
 size:total rs'+rs'.length≤total rs
def BelowC (rs:List Rw) (w:World) (e:Ending) (w':World):Prop:=∃ v rs',e=.returned v∧LevelIn w' v rs'∧Next rs rs'∧Below w.heap.size w w'
set_option maxRecDepth 100000 in
set_option maxHeartbeats 4000000 in
theorem listOf_any (b o n cap:Nat) (w:World) (h0:0 < n) (hn:n≤140737488351232) :
  Calls Tryd.prog 170 #[.slice (some ⟨b,o,none⟩) n cap] w fun e w'=>e=.returned (keyV ⟨b,o,none⟩ n)∧Below w.heap.size w w':=by
 have h1:(0:Int) < n:=by omega
 have hc5:=cellsNode
 go_enter Tryd.func170,Tryd.ntmps170
 go_wp2
 exact bodyPost_ret (v:=keyV ⟨b,o,none⟩ n) (by simp [results,Tryd.results170,go_sem]) rfl ⟨rfl,(Below.refl _ _).alloc (Nat.le_refl _) _⟩
structure Got (w:World) (rs rs':List Rw) (left:Nat):Prop where
 kid:∀ r' ∈ rs',r'.In w∧∃ r ∈ rs,r.F.kidOf r'
 size:total rs'+rs'.length+left≤total rs
theorem total_append (a b:List Rw):total (a ++ b)=total a+total b:=by
 induction a with
 | nil=>simp [total]
 | cons r a ih=>simp only [List.cons_append,total,ih];omega
def valsR (rs:List Rw):List Value:=rs.map Rw.val
structure Have (w wr:World) (v:Value) (rs':List Rw) (es:Array MapEntry):Prop where
 own:wr.ownsRow (w.heap.size+1) 24 1 v rs'.length (valsR rs')
 map:MapG (fun a=>Firm w a) wr w.heap.size es
 empty:rs'=[]→es.size=0
 rest:Below w.heap.size w wr
 room:w.heap.size < wr.heap.size
theorem Have.alloc {w wr:World} {v:Value} {rs':List Rw} {es:Array MapEntry} (h:Have w wr v rs' es) (ob:Obj):Have w (wr.alloc ob) v rs' es :=
 ⟨h.own.alloc _,h.map.other (Below.heap_alloc wr ob _ h.room),h.empty,h.rest.alloc h.rest.size _,by rw [alloc_size];have:=h.room;omega⟩
theorem Have.drewN {w wr:World} {v:Value} {rs':List Rw} {es:Array MapEntry} (h:Have w wr v rs' es) (n:Nat):Have w (wr.drewN n) v rs' es :=
 ⟨h.own,h.map,h.empty,below_drewN h.rest n,h.room⟩
theorem Have.below {w wr w2:World} {v:Value} {rs':List Rw} {es:Array MapEntry} (h:Have w wr v rs' es) (hb:Below wr.heap.size wr w2):Have w w2 v rs' es :=
 ⟨own_below h.own hb,h.map.other (hb.block _ h.room),h.empty,h.rest.trans (hb.mono h.rest.size),Nat.lt_of_lt_of_le h.room hb.size⟩
theorem Have.free {w wr:World} {v:Value} {rs':List Rw} {es:Array MapEntry} (h:Have w wr v rs' es):v.ownBlock=none∨v.ownBlock≠some w.heap.size:=by
 rcases h.own.2 with ⟨rfl,_⟩ | ⟨g,cap,cur,rfl,hg,_⟩
 ·exact .inl rfl
 ·refine .inr fun h=>?_
  have:g=w.heap.size:=by simpa [Value.ownBlock] using h
  omega
theorem Have.marked {w wr w2:World} {v:Value} {rs':List Rw} {es es2:Array MapEntry} (h:Have w wr v rs' es) (_:MapG (fun a=>Firm w a) w2 w.heap.size es2) (hg:wr.grownBy w2 (some w.heap.size)) :
  w2.ownsRow (w.heap.size+1) 24 1 v rs'.length (valsR rs')∧Below w.heap.size w w2∧w.heap.size < w2.heap.size :=
 ⟨h.own.kept hg h.free,h.rest.grown hg h.rest.size (by rintro k hk;cases hk;exact Nat.le_refl _),Nat.lt_of_lt_of_le h.room hg.size⟩
structure Rest (w:World) (r:Rw) (R:Fo) (k:Nat):Prop where
 lies:R.In w r.b (r.o+k * 5)
 len:k+R.len=r.F.len
 kid:∀ r',R.kidOf r'→r.F.kidOf r'
theorem Rest.start {w:World} {r:Rw} (h:r.In w):Rest w r r.F 0:=⟨by rw [Nat.zero_mul,Nat.add_zero];exact h.1,by omega,fun _ h=>h⟩
theorem Rest.next {w:World} {r:Rw} {op name:ByteArray} {n pos:Int} {a:Option Addr} {cap:Nat} {kids rest:Fo} {k:Nat} (h:Rest w r (.cons op name n pos a cap kids rest) k) :
  NodeAt w r.b (r.o+k * 5) op name n pos a kids.len cap∧k < r.F.len∧Rest w r rest (k+1)∧(kids=.nil∨∃ b' o',a=some ⟨b',o',none⟩∧(Rw.mk b' o' cap kids).In w∧r.F.kidOf ⟨b',o',cap,kids⟩):=by
 obtain ⟨⟨h1,h2,h3⟩,h4,h5⟩:=h
 have h6:(Fo.cons op name n pos a cap kids rest).len=rest.len+1:=rfl
 rw [h6] at h4
 refine ⟨h1,by omega,⟨?_,by omega,fun r' hr=>h5 r' (.inr hr)⟩,?_⟩
 ·rw [show r.o+(k+1) * 5=r.o+k * 5+5 by omega];exact h3
 ·rcases h2 with h2 | ⟨b',o',h2,hl,⟨h0,hf⟩,h7⟩
  ·exact .inl h2
  ·exact .inr ⟨b',o',h2,⟨h7,hl,h0,hf⟩,h5 _ (.inl ⟨rfl,h2,rfl⟩)⟩
theorem cell_one_new (w:World) (a:Value) (t:TypeId):∀ j u,[a][j]? = some u→(w.alloc (.cells #[a] t)).cell? ((⟨w.heap.size,0,none⟩:Addr).add j)=some u:=by
 intro j u h
 cases j with
 | zero =>
  obtain rfl:a=u:=by simpa using h
  show (w.alloc _).cell? ⟨w.heap.size,0,none⟩=_
  rw [cell_of_row _ w.heap.size 0 _ _ _ (new_at _ _)]
  rfl
 | succ j=>simp at h
theorem Tryd.infoKids:(Tryd.prog.info? 24).map (fun i=>(i.zero,i.size,i.bytes))=some (some (.slice none 0 0),1,24):=by kernel_rfl
theorem leaf_kid:∀ {F:Fo} {r:Rw},F.leaf→F.kidOf r→r.F=.nil:=by
 intro F
 induction F with
 | nil=>intro r _ h;exact h.elim
 | cons op name n pos a cap kids rest ihk ihr =>
  intro r h1 h2
  rcases h2 with ⟨h2,_⟩ | h2
  ·rw [← h2];exact h1.1
  ·exact ihr h1.2 h2
theorem level_of {w wr:World} {v:Value} {rs':List Rw} {es:Array MapEntry} (h:Have w wr v rs' es) (hin:∀ r ∈ rs',r.In w):LevelIn wr v rs':=by
 have hi:∀ r ∈ rs',r.In wr:=fun r hr=>(hin r hr).below h.rest
 have hown:=h.own
 rcases h.own.2 with ⟨rfl,h0⟩ | ⟨g,cap,cur,rfl,_⟩
 ·have hn:rs'=[]:=List.eq_nil_of_length_eq_zero h0
  subst hn
  exact ⟨none,0,rfl,fun i r hr=>by simp at hr,hi⟩
 ·refine ⟨_,cap,rfl,fun i r hr=>⟨g,0,rfl,?_⟩,hi⟩
  have hl:=(List.getElem?_eq_some_iff.1 hr).1
  rw [Nat.zero_add,hown.cellAt i (by omega)]
  unfold valsR
  rw [List.getElem?_map,hr]
  rfl
theorem len_size (F:Fo):F.len≤F.size:=by
 induction F with
 | nil=>exact Nat.le_refl _
 | cons op name n pos a cap kids rest ihk ihr=>show rest.len+1≤kids.size+1+rest.size;omega
theorem len_total:∀ rs:List Rw,(∀ r ∈ rs,0 < r.F.len)→rs.length≤total rs:=by
 intro rs
 induction rs with
 | nil=>intro _;exact Nat.le_refl _
 | cons r rs ih =>
  intro h
  have h1:=h r (List.mem_cons_self ..)
  have h2:=ih fun x hx=>h x (List.mem_cons_of_mem _ hx)
  have h3:=len_size r.F
  show rs.length+1≤r.F.size+total rs
  omega
theorem total_drop (rs:List Rw) (j:Nat) (r:Rw) (h:rs[j]? = some r):total (rs.drop j)=r.F.size+total (rs.drop (j+1)):=by
 have hj:j < rs.length:=(List.getElem?_eq_some_iff.1 h).1
 have hr:rs[j]=r:=(List.getElem?_eq_some_iff.1 h).2
 rw [List.drop_eq_getElem_cons hj,hr]
 rfl
set_option maxRecDepth 100000 in
set_option maxHeartbeats 8000000 in
theorem below_any (rs:List Rw) (v:Value) (w:World) (hL:LevelIn w v rs) (ht:total rs≤3000):Calls Tryd.prog 147 #[v] w (BelowC rs w):=by
 obtain ⟨a0,cap0,rfl,hcells,hins⟩:=hL
 obtain ⟨i0,hi,hz0,hz1,hz2⟩:=info_parts Tryd.infoKids
 have hc5:=cellsNode
 have hmk:∀ W:World,(Instr.makeMap MT none).run Tryd.prog W=.ok (.map (some W.heap.size)) (W.alloc (.map #[] 0)):=fun W=>RowKit.run_makeMap MT W
 have hlr:rs.length≤3000:=Nat.le_trans (len_total rs fun r hr=>(hins r hr).2.2.1) ht
 have HC:=Lib.hid hcells
 have HI:=Lib.hid hins
 unfold BelowC
 clear hcells hins
 go_enter Tryd.func147,Tryd.ntmps147
 go_wp2
 go_loopw [3,15] (fun nx i wr=>∃ (j:Nat) (rs':List Rw) (es:Array MapEntry),i=.int .i64 j∧j≤rs.length∧RowKit.Hid (Have w wr nx rs' es)∧RowKit.Hid (Got w rs rs' (total (rs.drop j)))∧RowKit.Hid (rs'=[]→∀ x ∈ rs.take j,x.F.leaf)) (fun _ i _=>rs.length - (intOf i).toNat)
 case atStart =>
  exact ⟨0,[],#[],rfl,Nat.zero_le _,Lib.hid ⟨World.ownsRow_nil _ _ _ _,MapG.new _ w,fun _=>rfl,(Below.refl _ _).alloc (Nat.le_refl _) _,by rw [alloc_size];omega⟩,Lib.hid ⟨fun r hr=>by simp at hr,by simp [total]⟩,Lib.hid fun _ x hx=>by simp at hx⟩
 case round =>
  obtain ⟨j,rs',es,rfl,hj,HH,HG,HL⟩:=hrel
  by_cases hjl:j < rs.length
  ·obtain ⟨bl,ol,rfl,hcell⟩:=HC.out j (rs[j]'hjl) (List.getElem?_eq_getElem hjl)
   have hrin:=HI.out (rs[j]'hjl) (List.getElem_mem _)
   have hcw:=cell_below HH.out.rest hcell
   have hjl2:(j:Int) < rs.length:=by omega
   have HE:RowKit.Hid (rs[j]? = some (rs[j]'hjl)):=Lib.hid (List.getElem?_eq_getElem hjl)
   generalize (rs[j]'hjl)=r at hcw hcell hrin HE
   unfold Rw.val at hcw
   have HR:=Lib.hid hrin
   clear hcell hrin
   have hrl:r.F.len≤140737488351232:=HR.out.2.1
   go_wp2
   go_loopw [3,21] (fun nx i wr=>∃ (k:Nat) (R:Fo) (rs':List Rw) (es:Array MapEntry),i=.int .i64 k∧RowKit.Hid (Rest w r R k)∧RowKit.Hid (Have w wr nx rs' es)∧RowKit.Hid (Got w rs rs' (R.size+total (rs.drop (j+1))))∧RowKit.Hid (rs'=[]→(∀ x ∈ rs.take j,x.F.leaf)∧(R.leaf→r.F.leaf))) (fun _ i _=>r.F.len - (intOf i).toNat)
   case atStart =>
    refine ⟨0,r.F,rs',es,rfl,Lib.hid (Rest.start HR.out),HH,Lib.hid ?_,Lib.hid fun h=>⟨HL.out h,fun h=>h⟩⟩
    have:=HG.out
    rw [total_drop rs j r HE.out] at this
    exact this
   case round =>
    obtain ⟨k,R,rs2,es2,rfl,HT,HH2,HG2,HL2⟩:=hrel
    cases R with
    | nil =>
     have hkl:k=r.F.len:=by have:=HT.out.len;simpa [Fo.len] using this
     subst hkl
     go_wp2
     go_roundw
     case rel =>
      refine ⟨j+1,rs2,es2,by go_num,by omega,HH2,Lib.hid ?_,Lib.hid fun h=>?_⟩
      ·have:=HG2.out
       have hz:Fo.nil.size+total (rs.drop (j+1))=total (rs.drop (j+1)):=Nat.zero_add _
       rw [hz] at this
       exact this
      ·obtain ⟨h1,h2⟩:=HL2.out h
       rw [List.take_add_one,HE.out]
       intro x hx
       rcases List.mem_append.1 hx with hx | hx
       ·exact h1 x hx
       ·obtain rfl:x=r:=by simpa using hx
        exact h2 trivial
     case measure=>(try simp [intOf]);omega
    | cons op1 name1 n1 pos1 a1 cap1 kids1 rest =>
     obtain ⟨hnode,hkl,hnext,hkids⟩:=HT.out.next
     have hkl2:(k:Int) < r.F.len:=by omega
     obtain ⟨c0,c1,c2,c3,c4⟩:=hnode.below HH2.out.rest
     have HN:=Lib.hid hnext
     have HK:=Lib.hid hkids
     clear hnext hnode hkids HT
     by_cases hk0:kids1=.nil
     ·subst hk0
      have c4:_=some (Value.slice a1 0 cap1):=c4
      go_wp2
      go_roundw
      case rel =>
       refine ⟨k+1,rest,rs2,es2,by go_num,HN,Lib.hid (HH2.out.alloc _),Lib.hid ⟨HG2.out.kid,?_⟩,Lib.hid fun h=>⟨(HL2.out h).1,fun hl=>(HL2.out h).2 ⟨rfl,hl⟩⟩⟩
       have h1:=HG2.out.size
       have h2:(Fo.cons op1 name1 n1 pos1 a1 cap1 Fo.nil rest).size=0+1+rest.size:=rfl
       omega
      case measure=>(try simp [intOf]);omega
     ·rcases HK.out with h | ⟨b2,o2,rfl,hin2,hkid2⟩
      ·exact absurd h hk0
      have h0:0 < kids1.len:=hin2.2.2.1
      have hlim2:kids1.len≤140737488351232:=hin2.2.1
      have hfirm:Firm w ⟨b2,o2,none⟩:=hin2.1.firm h0 hin2.2.2.2
      have hnz:((kids1.len:Int) == 0)=false:=by simp;omega
      have hnd:decide ((kids1.len:Int)=0)=false:=by simp;omega
      have hne:¬ (kids1.len:Int)=0:=by omega
      have HI2:=Lib.hid hin2
      have HK2:=Lib.hid hkid2
      have HF:=Lib.hid hfirm
      have HH3:=Lib.hid (HH2.out.alloc (boxOf op1 name1 n1 pos1 (some ⟨b2,o2,none⟩) kids1.len cap1))
      have HB:=Lib.hid (box_cell wr op1 name1 n1 pos1 (some ⟨b2,o2,none⟩) kids1.len cap1)
      clear hin2 hkid2 hfirm HK
      go_wp2_with fail
      refine (listOf_any b2 o2 kids1.len cap1 _ h0 hlim2).mono ?_
      rintro e w2 ⟨rfl,hb2⟩
      have hbx:=cell_below hb2 HB.out
      have hh2:=HH3.out.below hb2
      have HH4:=Lib.hid hh2
      have HR2:=HH2.out.room
      clear hb2 HB HH3 hh2 HH2
      have hcnt:rs2.length≤3000:=by have:=HG2.out.size;omega
      have hroom:=HR2
      go_wp2_with (first
       | (at_lookup;refine wpList_lookup_any _ rfl _ _ rfl w.heap.size rfl es2 (HH4.out.alloc _).map (fun b hb=>hb.below (HH4.out.alloc _).rest) ⟨b2,o2,none⟩ kids1.len rfl HF.out ?_;intro ok kk hok)
       | (at_mapUpdate;refine wpList_update_any _ rfl _ _ _ rfl w.heap.size rfl es2 (((HH4.out.alloc _).drewN _).alloc _).map (fun b hb=>hb.below (((HH4.out.alloc _).drewN _).alloc _).rest) ⟨b2,o2,none⟩ kids1.len rfl rfl HF.out ?_;intro w3 es3 hm3 hg3;obtain ⟨hown3,hb3,hroom3⟩:=Have.marked (((HH4.out.alloc _).drewN _).alloc _) hm3 hg3;have hbx3:w3.cell? ⟨wr.heap.size,4,none⟩=some (.slice (some ⟨b2,o2,none⟩) kids1.len cap1):=hg3.cell (cell_below ((below_drewN ((Below.refl _ _).alloc (Nat.le_refl _) _) _).alloc (by simp) _) hbx) (by intro h;have:=Option.some.inj h;simp at this;omega))
       | (at_builtin;refine wpList_append_own _ rfl _ _ 176 rfl (w.heap.size+1) 24 i0 (.slice none 0 0) 1 24 Tryd.underlying176 hi hz0 hz1 hz2 rfl (by decide) _ _ _ rfl (hown3.alloc _) ⟨w3.heap.size,0,none⟩ 1 1 [.slice (some ⟨b2,o2,none⟩) kids1.len cap1] rfl rfl (cell_one_new _ _ _) (fun x hx=>by simp at hx;rcases hx with rfl;rfl) (by unfold maxLen;omega) (by omega) (by simp;omega) ?_;intro v4 w4 hown4 hg4 hnil4))
      ·have hb4:Below w.heap.size w w4:=Below.grown (hb3.alloc hb3.size _) hg4 (by have:=hb3.size;simp;omega) (fun q hq=>by have:=(hown3.lt _ hq).1;omega)
       have hfree:=HH4.out.free
       have hm4:w4.heap[w.heap.size]? = w3.heap[w.heap.size]?:=by
        have hg5:World.grownBy _ w4 (Value.ownBlock u3):=hg4
        rw [hg5.block _ (by rw [alloc_size];omega) (by
         rcases hfree with h | h
         ·rw [h];exact fun h=>by cases h
         ·exact fun h2=>h h2.symm)]
        exact Below.heap_alloc w3 _ _ hroom3
       have hsz4:=hg4.size
       have hlen1:(rs2 ++ [Rw.mk b2 o2 cap1 kids1]).length=rs2.length+1:=by simp
       have hH5:Have w w4 v4 (rs2 ++ [Rw.mk b2 o2 cap1 kids1]) es3:=⟨by rw [hlen1];unfold valsR;rw [List.map_append];exact hown4,hm3.other hm4,fun h=>by simp at h,hb4,by rw [alloc_size] at hsz4;omega⟩
       have hG5:Got w rs (rs2 ++ [Rw.mk b2 o2 cap1 kids1]) (rest.size+total (rs.drop (j+1))):=by
        refine ⟨fun r' hr'=>?_,?_⟩
        ·rcases List.mem_append.1 hr' with h | h
         ·exact HG2.out.kid r' h
         ·obtain rfl:r'=Rw.mk b2 o2 cap1 kids1:=by simpa using h
          exact ⟨HI2.out,r,List.mem_of_getElem? HE.out,HK2.out⟩
        ·have h1:=HG2.out.size
         have h2:(Fo.cons op1 name1 n1 pos1 (some ⟨b2,o2,none⟩) cap1 kids1 rest).size=kids1.size+1+rest.size:=rfl
         have h3:total [Rw.mk b2 o2 cap1 kids1]=kids1.size+0:=rfl
         rw [total_append,h3,hlen1]
         omega
       have HH5:=Lib.hid hH5
       have HG5:=Lib.hid hG5
       clear hH5 hG5 hown4 hg4 hnil4 hown3 hm3 hg3 hm4 hfree
       go_roundw
       case rel=>exact ⟨k+1,rest,rs2 ++ [Rw.mk b2 o2 cap1 kids1],es3,by go_num,HN,HH5,HG5,Lib.hid fun h=>by simp at h⟩
       case measure=>(try simp [intOf]);omega
      ·have HH5:=Lib.hid (((HH4.out.alloc (.cells #[.pointer (some ⟨b2,o2,none⟩),.int .i64 kids1.len] LT)).drewN kk).alloc (.cells #[] 87))
       have hG5:Got w rs rs2 (rest.size+total (rs.drop (j+1))):=by
        refine ⟨HG2.out.kid,?_⟩
        have h1:=HG2.out.size
        have h2:(Fo.cons op1 name1 n1 pos1 (some ⟨b2,o2,none⟩) cap1 kids1 rest).size=kids1.size+1+rest.size:=rfl
        omega
       have HG5:=Lib.hid hG5
       have hnn:rs2≠[]:=fun h=>by
        have:=hok (HH4.out.empty h)
        simp_all
       have HNN:=Lib.hid hnn
       clear hG5 hnn
       go_roundw
       case rel=>exact ⟨k+1,rest,rs2,es2,by go_num,HN,HH5,HG5,Lib.hid fun h=>absurd h HNN.out⟩
       case measure=>(try simp [intOf]);omega
  ·obtain rfl:j=rs.length:=by omega
   go_wp2
   go_ret
   refine ⟨u3,rs',rfl,level_of HH.out fun r hr=>(HG.out.kid r hr).1,⟨fun r hr=>(HG.out.kid r hr).2,⟨fun h=>?_,fun h=>?_⟩,?_⟩,HH.out.rest⟩
   ·have:=HL.out h
    rw [List.take_length] at this
    exact this
   ·cases rs' with
    | nil=>rfl
    | cons r' rs' =>
     obtain ⟨h1,r,hr,hk⟩:=HG.out.kid r' (List.mem_cons_self ..)
     have h2:=leaf_kid (h r hr) hk
     have h3:=h1.2.2.1
     rw [h2] at h3
     exact absurd h3 (Nat.lt_irrefl 0)
   ·have:=HG.out.size
    omega
end Go.Proofs.YtmlmjopfbohglaaDoor
namespace Go.Proofs.YtmlmjopfbohglaaDoor
open Go.RowKit
def dl:List Rw→Nat
 | []=>0
 | r :: rs=>max r.F.deep (dl rs)
theorem dl_mem {rs:List Rw} {r:Rw} (h:r ∈ rs):r.F.deep≤dl rs:=by
 induction rs with
 | nil=>cases h
 | cons x rs ih =>
  show r.F.deep≤max x.F.deep (dl rs)
  rcases List.mem_cons.1 h with rfl | h
  ·omega
  ·have:=ih h;omega
theorem dl_le {rs:List Rw} {m:Nat} (h:∀ r ∈ rs,r.F.deep≤m):dl rs≤m:=by
 induction rs with
 | nil=>exact Nat.zero_le _
 | cons x rs ih =>
  have h1:=h x (List.mem_cons_self ..)
  have h2:=ih fun r hr=>h r (List.mem_cons_of_mem _ hr)
  show max x.F.deep (dl rs)≤m
  omega
theorem kid_deep:∀ {F:Fo} {r:Rw},F.kidOf r→r.F.deep+1≤F.deep:=by
 intro F
 induction F with
 | nil=>intro r h;exact h.elim
 | cons op name n pos a cap kids rest ihk ihr =>
  intro r h
  show r.F.deep+1≤max (kids.deep+1) rest.deep
  rcases h with ⟨h,_⟩ | h
  ·rw [h];omega
  ·have:=ihr h;omega
theorem Next.deep {rs rs':List Rw} (h:Next rs rs') (hne:rs'≠[]):dl rs'+1≤dl rs:=by
 have h1:1≤dl rs:=by
  cases rs' with
  | nil=>exact absurd rfl hne
  | cons r' rs' =>
   obtain ⟨r,hr,hk⟩:=h.kid r' (List.mem_cons_self ..)
   have:=kid_deep hk
   have:=dl_mem hr
   omega
 have h2:dl rs'≤dl rs - 1:=dl_le fun r' hr'=>by
  obtain ⟨r,hr,hk⟩:=h.kid r' hr'
  have:=kid_deep hk
  have:=dl_mem hr
  omega
 omega
def Fo.line:Fo→Prop
 | .nil=>True
 | .cons _ _ _ _ _ _ kids rest=>rest=.nil∧Fo.line kids
def Nd.line (T:Nd):Prop:=T.kids.line
def lineL (rs:List Rw):Prop:=rs.length≤1∧∀ r ∈ rs,r.F.line∧0 < r.F.len
theorem size_pos {F:Fo} (h:0 < F.len):0 < F.size:=Nat.lt_of_lt_of_le h (len_size F)
theorem Next.line {rs rs':List Rw} (h:Next rs rs') (hl:lineL rs) (hne:rs≠[]) (hin:∀ r ∈ rs',0 < r.F.len):lineL rs'∧dl rs'+1=dl rs:=by
 obtain ⟨r,rfl⟩:∃ r,rs=[r]:=by
  cases rs with
  | nil=>exact absurd rfl hne
  | cons r rs =>
   cases rs with
   | nil=>exact ⟨r,rfl⟩
   | cons x rs=>have:=hl.1;simp at this
 obtain ⟨hline,hlen⟩:=hl.2 r (List.mem_cons_self ..)
 obtain ⟨rb,ro,rc,RF⟩:=r
 cases RF with
 | nil=>exact absurd hlen (Nat.lt_irrefl 0)
 | cons op name n pos a cap kids rest =>
  obtain ⟨hrest,hkl⟩:=hline
  obtain rfl:rest=.nil:=hrest
  have hd:dl [Rw.mk rb ro rc (.cons op name n pos a cap kids .nil)]=kids.deep+1:=by
   show max (max (kids.deep+1) 0) 0=_
   omega
  have hkid:∀ r' ∈ rs',r'.F=kids:=by
   intro r' hr'
   obtain ⟨r,hr,hk⟩:=h.kid r' hr'
   obtain rfl:r=_:=by simpa using hr
   rcases hk with ⟨hk,_⟩ | hk
   ·exact hk.symm
   ·exact hk.elim
  have hsz:=h.size
  have ht:total [Rw.mk rb ro rc (.cons op name n pos a cap kids .nil)]=kids.size+1+0+0:=rfl
  rw [ht] at hsz
  rw [hd]
  cases rs' with
  | nil =>
   have hlf:=h.none.1 rfl _ (List.mem_cons_self ..)
   obtain rfl:kids=.nil:=hlf.1
   exact ⟨⟨Nat.zero_le _,fun r hr=>by simp at hr⟩,rfl⟩
  | cons r1 rs1 =>
   have hk1:=hkid r1 (List.mem_cons_self ..)
   have hp1:=hin r1 (List.mem_cons_self ..)
   rw [hk1] at hp1
   have hsp:=size_pos hp1
   cases rs1 with
   | nil =>
    refine ⟨⟨Nat.le_refl _,fun r hr=>?_⟩,?_⟩
    ·obtain rfl:r=r1:=by simpa using hr
     rw [hk1];exact ⟨hkl,hp1⟩
    ·show max r1.F.deep 0+1=_
     rw [hk1];omega
   | cons r2 rs2 =>
    have hk2:=hkid r2 (by simp)
    have h3:total (r1 :: r2 :: rs2)=r1.F.size+(r2.F.size+total rs2):=rfl
    rw [h3,hk1,hk2] at hsz
    simp at hsz
    omega
def DepthOut (T:Nd) (d:Int):Prop:=1≤d∧d≤31∧d≤T.deep∧(T.line→d=min (T.deep:Int) 31)
theorem level_one (w:World) (op name:ByteArray) (n pos:Int) (a:Option Addr) (cap:Nat) (kids:Fo) (hT:Nd.In w ⟨op,name,n,pos,a,cap,kids⟩) :
  LevelIn (((w.alloc (boxOf op name n pos a kids.len cap)).alloc (boxOf op name n pos a kids.len cap)).alloc (.cells #[.slice (some ⟨w.heap.size+1,0,none⟩) 1 1] 24)) (.slice (some ⟨w.heap.size+1+1,0,none⟩) 1 1) [⟨w.heap.size+1,0,1,.cons op name n pos a cap kids .nil⟩]:=by
 have hb:∀ o1 o2 o3:Obj,Below w.heap.size w (((w.alloc o1).alloc o2).alloc o3):=fun o1 o2 o3=>(((Below.refl _ _).alloc (Nat.le_refl _) _).alloc (by simp) _).alloc (by simp;omega) _
 have hs2:((w.alloc (boxOf op name n pos a kids.len cap)).alloc (boxOf op name n pos a kids.len cap)).heap.size=w.heap.size+1+1:=by simp
 have hh1:(((w.alloc (boxOf op name n pos a kids.len cap)).alloc (boxOf op name n pos a kids.len cap)).alloc (.cells #[.slice (some ⟨w.heap.size+1,0,none⟩) 1 1] 24)).heap[w.heap.size+1]? = some (boxOf op name n pos a kids.len cap):=by
  rw [Below.heap_alloc _ _ _ (by simp)]
  have:=new_at (w.alloc (boxOf op name n pos a kids.len cap)) (boxOf op name n pos a kids.len cap)
  rw [alloc_size] at this
  exact this
 have hh2:(((w.alloc (boxOf op name n pos a kids.len cap)).alloc (boxOf op name n pos a kids.len cap)).alloc (.cells #[.slice (some ⟨w.heap.size+1,0,none⟩) 1 1] 24)).heap[w.heap.size+1+1]? = some (.cells #[.slice (some ⟨w.heap.size+1,0,none⟩) 1 1] 24):=by
  rw [← hs2];exact new_at _ _
 have hT2:=hT.below (hb (boxOf op name n pos a kids.len cap) (boxOf op name n pos a kids.len cap) (.cells #[.slice (some ⟨w.heap.size+1,0,none⟩) 1 1] 24))
 generalize (((w.alloc (boxOf op name n pos a kids.len cap)).alloc (boxOf op name n pos a kids.len cap)).alloc (.cells #[.slice (some ⟨w.heap.size+1,0,none⟩) 1 1] 24))=W at hh1 hh2 hT2
 refine ⟨some ⟨w.heap.size+1+1,0,none⟩,1,rfl,fun i r hr=>⟨w.heap.size+1+1,0,rfl,?_⟩,fun r hr=>?_⟩
 ·cases i with
  | zero =>
   obtain rfl:_=r:=by simpa using hr
   rw [cell_of_row _ _ _ _ _ _ hh2]
   rfl
  | succ i=>simp at hr
 ·obtain rfl:r=_:=by simpa using hr
  refine ⟨⟨⟨?_,?_,?_,?_,?_⟩,hT2,trivial⟩,by show 1≤_;omega,Nat.lt_succ_self 0,?_⟩
  ·show W.cell? ⟨w.heap.size+1,0,none⟩=_
   rw [cell_of_row _ _ _ _ _ _ hh1];rfl
  ·show W.cell? ⟨w.heap.size+1,1,none⟩=_
   rw [cell_of_row _ _ _ _ _ _ hh1];rfl
  ·show W.cell? ⟨w.heap.size+1,2,none⟩=_
   rw [cell_of_row _ _ _ _ _ _ hh1];rfl
  ·show W.cell? ⟨w.heap.size+1,3,none⟩=_
   rw [cell_of_row _ _ _ _ _ _ hh1];rfl
  ·show W.cell? ⟨w.heap.size+1,4,none⟩=_
   rw [cell_of_row _ _ _ _ _ _ hh1];rfl
  ·show W.frozen? ⟨w.heap.size+1,0,none⟩=false
   unfold World.frozen?
   simp only [hh1]
   rfl
structure Down (T:Nd) (d:Nat) (rs:List Rw):Prop where
 most:d+dl rs≤T.deep
 line:T.line→lineL rs∧d+dl rs=T.deep
 room:total rs≤3000
theorem Down.next {T:Nd} {d:Nat} {rs rs':List Rw} (h:Down T d rs) (hn:Next rs rs') (hne:rs≠[]) (hin:∀ r ∈ rs,0 < r.F.len) (hin':∀ r ∈ rs',0 < r.F.len):Down T (d+1) rs':=by
 have h1:1≤dl rs:=by
  cases rs with
  | nil=>exact absurd rfl hne
  | cons r rs =>
   have h2:=hin r (List.mem_cons_self ..)
   have h3:=dl_mem (List.mem_cons_self (a:=r) (l:=rs))
   have h4:1≤r.F.deep:=by
    obtain ⟨rb,ro,rc,RF⟩:=r
    cases RF with
    | nil=>exact absurd h2 (Nat.lt_irrefl 0)
    | cons op name n pos a cap kids rest=>show 1≤max (kids.deep+1) rest.deep;omega
   omega
 refine ⟨?_,fun hl=>?_,?_⟩
 ·have:=h.most
  by_cases hz:rs'=[]
  ·subst hz;show d+1+0≤_;omega
  ·have:=hn.deep hz;omega
 ·obtain ⟨h2,h3⟩:=h.line hl
  obtain ⟨h4,h5⟩:=hn.line h2 hne hin'
  exact ⟨h4,by omega⟩
 ·have:=hn.size;have:=h.room;omega
theorem Down.out {T:Nd} {d:Nat} {rs:List Rw} (h:Down T d rs) (h1:1≤d) (h2:d≤31) (h3:rs=[]∨d=31):DepthOut T d:=by
 have h4:=h.most
 refine ⟨by omega,by omega,by omega,fun hl=>?_⟩
 have h5:=(h.line hl).2
 rcases h3 with rfl | rfl
 ·have h6:dl []=0:=rfl
  omega
 ·omega
theorem Down.first (T:Nd) (b:Nat) (hs:T.size≤3000):Down T 0 [⟨b,0,1,.cons T.op T.name T.n T.pos T.a T.cap T.kids .nil⟩]:=by
 have hd:dl [⟨b,0,1,.cons T.op T.name T.n T.pos T.a T.cap T.kids .nil⟩]=T.deep:=by
  show max (max (T.kids.deep+1) 0) 0=T.kids.deep+1
  omega
 refine ⟨by omega,fun hl=>⟨⟨Nat.le_refl _,fun r hr=>?_⟩,by omega⟩,?_⟩
 ·obtain rfl:r=_:=by simpa using hr
  exact ⟨⟨rfl,hl⟩,Nat.lt_succ_self 0⟩
 ·show (T.kids.size+1+0)+0≤3000
  have:T.size=T.kids.size+1:=rfl
  omega
set_option maxRecDepth 100000 in
set_option maxHeartbeats 8000000 in
theorem depth_any (T:Nd) (w:World) (hT:T.In w) (hs:T.size≤3000):Calls Tryd.prog 119 #[T.val] w fun e w'=>(∃ d,e=.returned (.int .i64 d)∧DepthOut T d)∧Below w.heap.size w w':=by
 obtain ⟨op,name,n,pos,a,cap,kids⟩:=T
 have hc5:=cellsNode
 rw [Nd.val_def]
 have HT:=Lib.hid hT
 have HS:=Lib.hid hs
 clear hT hs
 show Calls _ _ #[.agg #[.string op,.string name,.int .i64 n,.int .i64 pos,.slice a kids.len cap]] w _
 go_enter Tryd.func119,Tryd.ntmps119
 go_wp2_with fail
 have hlev:=level_one w op name n pos a cap kids HT.out
 refine (below_any _ _ _ hlev (by have:=HS.out;show (kids.size+1+0)+0≤3000;have h:(Nd.mk op name n pos a cap kids).size=kids.size+1:=rfl;omega)).mono ?_
 rintro e w1 ⟨v1,rs1,rfl,hl1,hn1,hb1⟩
 obtain ⟨a1,cap1,rfl,hl2⟩:=hl1
 have hl1:LevelIn w1 (.slice a1 rs1.length cap1) rs1:=⟨a1,cap1,rfl,hl2⟩
 have HL1:=Lib.hid hl1
 have HN1:=Lib.hid hn1
 have hbb:Below w.heap.size w w1:=((((Below.refl _ _).alloc (Nat.le_refl _) _).alloc (by simp) _).alloc (by simp;omega) _).trans (hb1.mono (by simp;omega))
 have hins1:∀ r ∈ rs1,0 < r.F.len:=fun r hr=>(hl2.2 r hr).2.2.1
 have hD:=(Down.first ⟨op,name,n,pos,a,cap,kids⟩ (w.heap.size+1) HS.out).next hn1 (by simp) (by intro r hr;rw [List.mem_singleton] at hr;subst hr;exact Nat.lt_succ_self 0) hins1
 have HD:=Lib.hid hD
 clear hl1 hn1 hl2 hb1 hlev hD hins1
 go_wp2_with fail
 go_loopw [3,4] (fun dv lv wr=>∃ (d:Nat) (rs:List Rw) (a':Option Addr) (cap':Nat),dv=.int .i64 d∧lv=.slice a' rs.length cap'∧1≤d∧d≤31∧RowKit.Hid (LevelIn wr (.slice a' rs.length cap') rs)∧RowKit.Hid (Down ⟨op,name,n,pos,a,cap,kids⟩ d rs)∧Below w.heap.size w wr) (fun dv _ _=>31 - (intOf dv).toNat)
 case atStart=>exact ⟨1,rs1,a1,cap1,rfl,rfl,by omega,by omega,HL1,HD,hbb⟩
 case round =>
  obtain ⟨d,rs,a',cap',rfl,rfl,hd1,hd2,HL,HD2,hbx⟩:=hrel
  by_cases hz:rs=[]
  ·have hout:=HD2.out.out hd1 hd2 (.inl hz)
   subst hz
   have HO:=Lib.hid hout
   clear hout HD2 HL HD HL1 HN1 HT HS
   go_wp2_with fail
   go_ret
   exact ⟨⟨d,rfl,HO.out⟩,hbx⟩
  ·have hlen:0 < rs.length:=List.length_pos_iff.2 hz
   have HZ:=Lib.hid hz
   clear hz
   have hl0:(0:Int) < rs.length:=by omega
   by_cases h31:d=31
   ·have hout:=HD2.out.out hd1 hd2 (.inr h31)
    have HO:=Lib.hid hout
    have h30:¬ (d:Int)≤30:=by omega
    clear hout HD2 HL HD HL1 HN1 HT HS h31
    go_wp2_with fail
    go_ret
    exact ⟨⟨d,rfl,HO.out⟩,hbx⟩
   ·have h30:(d:Int)≤30:=by omega
    clear h31
    go_wp2_with fail
    refine (below_any _ _ _ HL.out HD2.out.room).mono ?_
    rintro e w2 ⟨v2,rs2,rfl,hl2,hn2,hb2⟩
    have hins:∀ r ∈ rs,0 < r.F.len:=by obtain ⟨_,_,_,_,h⟩:=HL.out;exact fun r hr=>(h r hr).2.2.1
    obtain ⟨a2,cap2,rfl,hl3⟩:=hl2
    have hins2:∀ r ∈ rs2,0 < r.F.len:=fun r hr=>(hl3.2 r hr).2.2.1
    have HL2:=Lib.hid (show LevelIn w2 (.slice a2 rs2.length cap2) rs2 from ⟨a2,cap2,rfl,hl3⟩)
    have HD3:=Lib.hid (HD2.out.next hn2 HZ.out hins hins2)
    have hbx2:=hbx.trans (hb2.mono hbx.size)
    clear hl3 hn2 hb2 hins hins2 HD2 HL HZ
    go_wp2
    go_roundw
    case rel=>exact ⟨d+1,rs2,a2,cap2,by go_num,rfl,by omega,by omega,HL2,HD3,hbx2⟩
    case measure=>(try simp [intOf]);omega
end Go.Proofs.YtmlmjopfbohglaaDoor
