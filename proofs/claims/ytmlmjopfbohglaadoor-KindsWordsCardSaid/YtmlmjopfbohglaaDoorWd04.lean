/- Parts of the proof: PRdR RpNQ PNowR PSayR PSuf. -/
import Derived.Test.YtmlmjopfbohglaaDoorWd03
namespace Go.Proofs.YtmlmjopfbohglaaDoor
open Go.RowKit
inductive St where
 | good (l:List Tok)
 | bad (at' err:Int)
def St.l:St→List Tok
 | .good l=>l
 | .bad _ _=>[]
def TokAt (w:World) (b o:Nat) (t:Tok):Prop:=w.cell? ⟨b,o,none⟩=some (.int .i64 t.kind)∧w.cell? ⟨b,o+1,none⟩=some (.string t.text)∧w.cell? ⟨b,o+2,none⟩=some (.int .i64 t.n)∧w.cell? ⟨b,o+3,none⟩=some (.int .i64 t.pos)
def ToksIn (w:World) (B:Nat) (a:Option Addr) (l:List Tok):Prop:=l=[]∨∃ g o,a=some ⟨g,o,none⟩∧g < B∧∀ i t,l[i]? = some t→TokAt w g (o+i * 4) t
theorem cell_same {w w':World} {g:Nat} (h:w'.heap[g]? = w.heap[g]?) {o:Nat} {v:Value} (hc:w.cell? ⟨g,o,none⟩=some v):w'.cell? ⟨g,o,none⟩=some v:=by
 rw [World.cell?_of_block (a:=⟨g,o,none⟩) h];exact hc
theorem TokAt.same {w w':World} {g o:Nat} {t:Tok} (h:w'.heap[g]? = w.heap[g]?) (ht:TokAt w g o t):TokAt w' g o t:=⟨cell_same h ht.1,cell_same h ht.2.1,cell_same h ht.2.2.1,cell_same h ht.2.2.2⟩
theorem ToksIn.same {w w':World} {B:Nat} (h:∀ g,g < B→w'.heap[g]? = w.heap[g]?) {a:Option Addr} {l:List Tok} (ht:ToksIn w B a l):ToksIn w' B a l:=by
 rcases ht with ht | ⟨g,o,h1,h2,h3⟩
 ·exact .inl ht
 ·exact .inr ⟨g,o,h1,h2,fun i t hi=>(h3 i t hi).same (h g h2)⟩
def Kp (B:Nat) (w w':World):Prop:=w.grownBy w' (some B)
theorem Kp.refl (B:Nat) (w:World):Kp B w w:=⟨rfl,rfl,rfl,Nat.le_refl _,fun _ _ _=>rfl⟩
theorem Kp.trans {B:Nat} {a b c:World} (h:Kp B a b) (k:Kp B b c):Kp B a c:=World.grownBy.trans h k
theorem Kp.below {B:Nat} {a b c:World} (h:Kp B a b) (k:Below b.heap.size b c):Kp B a c :=
 World.grownBy.trans h ⟨k.os,k.tape,k.output,k.size,fun i hi _=>k.block i hi⟩
theorem Kp.alloc {B:Nat} {a b:World} (h:Kp B a b) (o:Obj):Kp B a (b.alloc o):=h.below (below_box b o)
theorem Kp.set {B:Nat} {a b:World} (h:Kp B a b) {p:Addr} (hp:a.heap.size≤p.block) (v:Value):Kp B a (b.setCell p v) :=
 ⟨h.os,h.tape,h.output,by simp [World.setCell];exact h.size,fun i hi hne=>(Below.heap_setCell _ _ _ _ (by omega)).trans (h.block i hi hne)⟩
theorem Kp.setB {B:Nat} {a b:World} (h:Kp B a b) (i:Nat) (v:Value):Kp B a (b.setCell ⟨B,i,none⟩ v) :=
 ⟨h.os,h.tape,h.output,by simp [World.setCell];exact h.size,fun i hi hne=>(Below.heap_setCell _ _ _ _ (fun e=>hne (by rw [e]))).trans (h.block i hi hne)⟩
theorem Kp.of_below {B:Nat} {a b:World} (k:Below a.heap.size a b):Kp B a b:=(Kp.refl B a).below k
theorem Kp.size {B:Nat} {a b:World} (h:Kp B a b):a.heap.size≤b.heap.size:=World.grownBy.size h
structure From (S:Nat→Prop) (w w':World):Prop where
 size:w.heap.size≤w'.heap.size
 block:∀ b,S b→b < w.heap.size→w'.heap[b]? = w.heap[b]?
theorem From.refl (S:Nat→Prop) (w:World):From S w w:=⟨Nat.le_refl _,fun _ _ _=>rfl⟩
theorem From.trans {S:Nat→Prop} {a b c:World} (h:From S a b) (k:From S b c):From S a c :=
 ⟨Nat.le_trans h.size k.size,fun i hl hi=>(k.block i hl (Nat.lt_of_lt_of_le hi h.size)).trans (h.block i hl hi)⟩
theorem From.below {S:Nat→Prop} {a b:World} (k:Below a.heap.size a b):From S a b:=⟨k.size,fun i _ hi=>k.block i hi⟩
theorem From.alloc (S:Nat→Prop) (w:World) (o:Obj):From S w (w.alloc o):=From.below (below_box w o)
theorem From.set {S:Nat→Prop} (w:World) {p:Addr} (hp:¬ S p.block) (v:Value):From S w (w.setCell p v) :=
 ⟨by simp [World.setCell],fun i hl _=>Below.heap_setCell _ _ _ _ (fun e=>hp (e ▸ hl))⟩
theorem Kp.from {S:Nat→Prop} {B:Nat} {a b:World} (h:Kp B a b) (hB:¬ S B):From S a b:=⟨h.size,fun i hl hi=>h.block i hi (fun e=>hB (Option.some.inj e ▸ hl))⟩
def Fo.above (S:Nat→Prop):Fo→Prop
 | .nil=>True
 | .cons _ _ _ _ a _ kids rest=>(kids=.nil∨∃ b o,a=some ⟨b,o,none⟩∧S b)∧Fo.above S kids∧Fo.above S rest
def Nd.above (S:Nat→Prop) (T:Nd):Prop:=(T.kids=.nil∨∃ b o,T.a=some ⟨b,o,none⟩∧S b)∧T.kids.above S
theorem Fo.above.mono {S S':Nat→Prop} (hl:∀ b,S b→S' b):∀ {F:Fo},F.above S→F.above S':=by
 intro F
 induction F with
 | nil=>intro _;trivial
 | cons op name n pos a cap kids rest ihk ihr =>
  rintro ⟨h1,h2,h3⟩
  refine ⟨?_,ihk h2,ihr h3⟩
  rcases h1 with h1 | ⟨b,o,h1,h4⟩
  ·exact .inl h1
  ·exact .inr ⟨b,o,h1,hl b h4⟩
theorem Nd.above.mono {S S':Nat→Prop} (hl:∀ b,S b→S' b) {T:Nd} (h:T.above S):T.above S':=by
 refine ⟨?_,h.2.mono hl⟩
 rcases h.1 with h1 | ⟨b,o,h1,h4⟩
 ·exact .inl h1
 ·exact .inr ⟨b,o,h1,hl b h4⟩
theorem NodeAt.same {w w':World} {b o:Nat} {op name:ByteArray} {n pos:Int} {a:Option Addr} {k cap:Nat} (hs:w'.heap[b]? = w.heap[b]?) (h:NodeAt w b o op name n pos a k cap):NodeAt w' b o op name n pos a k cap :=
 ⟨cell_same hs h.1,cell_same hs h.2.1,cell_same hs h.2.2.1,cell_same hs h.2.2.2.1,cell_same hs h.2.2.2.2⟩
theorem Fo.In.from {S:Nat→Prop} {w w':World} (hg:From S w w'):∀ {F:Fo} {b o:Nat},F.In w b o→S b→F.above S→F.In w' b o:=by
 intro F
 induction F with
 | nil=>intro b o _ _ _;trivial
 | cons op name n pos a cap kids rest ihk ihr =>
  rintro b o ⟨h0,hk,hr⟩ hb ⟨ho,hok,hor⟩
  have hsame:=hg.block b hb (lt_of_cell h0.1)
  refine ⟨h0.same hsame,?_,ihr hr hb hor⟩
  rcases hk with hk | ⟨b',o',ha,hl,⟨h5,hf⟩,hin⟩
  ·exact .inl hk
  ·rcases ho with ho | ⟨b2,o2,ha2,hb2⟩
   ·exact .inl ho
   ·rw [ha] at ha2
    have e1:b'=b2:=congrArg Addr.block (Option.some.inj ha2)
    have hb':S b':=e1 ▸ hb2
    refine .inr ⟨b',o',ha,hl,⟨h5,?_⟩,ihk hin hb' hok⟩
    rw [World.frozen?_of_block (a:=⟨b',o',none⟩) (hg.block b' hb' (hin.lt h5))]
    exact hf
theorem Fo.above.lt {S:Nat→Prop} {w:World} : ∀ {F:Fo} {b o:Nat},F.In w b o→F.above S→F.above (fun i=>S i∧i < w.heap.size):=by
 intro F
 induction F with
 | nil=>intro b o _ _;trivial
 | cons op name n pos a cap kids rest ihk ihr =>
  rintro b o ⟨_,hk,hr⟩ ⟨ho,hok,hor⟩
  rcases hk with hk | ⟨b',o',ha,hl,⟨h5,hf⟩,hin⟩
  ·subst hk
   exact ⟨.inl rfl,trivial,ihr hr hor⟩
  ·refine ⟨?_,ihk hin hok,ihr hr hor⟩
   rcases ho with ho | ⟨b2,o2,ha2,hb2⟩
   ·exact .inl ho
   ·rw [ha] at ha2
    have e1:b'=b2:=congrArg Addr.block (Option.some.inj ha2)
    exact .inr ⟨b',o',ha,e1 ▸ hb2,hin.lt h5⟩
structure Nd.Good (S:Nat→Prop) (w:World) (T:Nd):Prop where
 lies:T.In w
 above:T.above S
theorem Nd.Good.from {S:Nat→Prop} {w w':World} {T:Nd} (h:T.Good S w) (hg:From S w w'):T.Good S w':=by
 refine ⟨?_,h.above⟩
 rcases h.lies with h1 | ⟨b',o',ha,hl,⟨h5,hf⟩,hin⟩
 ·exact .inl h1
 ·rcases h.above.1 with ho | ⟨b2,o2,ha2,hb2⟩
  ·exact .inl ho
  ·rw [ha] at ha2
   have e1:b'=b2:=congrArg Addr.block (Option.some.inj ha2)
   have hb':S b':=e1 ▸ hb2
   refine .inr ⟨b',o',ha,hl,⟨h5,?_⟩,hin.from hg hb' h.above.2⟩
   rw [World.frozen?_of_block (a:=⟨b',o',none⟩) (hg.block b' hb' (hin.lt h5))]
   exact hf
theorem Nd.Good.mono {S S':Nat→Prop} {w:World} {T:Nd} (h:T.Good S w) (hl:∀ b,S b→S' b):T.Good S' w:=⟨h.lies,h.above.mono hl⟩
theorem Nd.Good.lt {S:Nat→Prop} {w:World} {T:Nd} (h:T.Good S w):T.Good (fun i=>S i∧i < w.heap.size) w:=by
 refine ⟨h.lies,?_⟩
 rcases h.lies with h1 | ⟨b',o',ha,hl,⟨h5,hf⟩,hin⟩
 ·have h2:=h.above.2
  rw [h1] at h2
  exact ⟨.inl h1,by rw [h1];trivial⟩
 ·refine ⟨?_,h.above.2.lt hin⟩
  rcases h.above.1 with ho | ⟨b2,o2,ha2,hb2⟩
  ·exact .inl ho
  ·rw [ha] at ha2
   have e1:b'=b2:=congrArg Addr.block (Option.some.inj ha2)
   exact .inr ⟨b',o',ha,e1 ▸ hb2,hin.lt h5⟩
theorem Nd.Good.leaf (S:Nat→Prop) (w:World) (op name:ByteArray) (n pos:Int) (a:Option Addr) (cap:Nat):Nd.Good S w ⟨op,name,n,pos,a,cap,.nil⟩:=⟨.inl rfl,.inl rfl,trivial⟩
theorem good1 {S:Nat→Prop} {w:World} {G cap:Nat} {op name:ByteArray} {n pos:Int} {T:Nd} (hG:S G) (h:w.heap[G]? = some (.cells #[.string T.op,.string T.name,.int .i64 T.n,.int .i64 T.pos,.slice T.a T.kids.len T.cap] 26)) (hT:T.Good S w) :
  Nd.Good S w ⟨op,name,n,pos,some ⟨G,0,none⟩,cap,.cons T.op T.name T.n T.pos T.a T.cap T.kids .nil⟩:=by
 obtain ⟨c0,c1,c2,c3,c4⟩:=box_cells h
 refine ⟨.inr ⟨G,0,rfl,?_,⟨Nat.succ_pos _,?_⟩,⟨⟨c0,c1,c2,c3,c4⟩,hT.lies,trivial⟩⟩,.inr ⟨G,0,rfl,hG⟩,hT.above.1,hT.above.2,trivial⟩
 ·show 0+1≤_;omega
 ·unfold World.frozen?
  simp only [h]
  rfl
theorem good2 {S:Nat→Prop} {w:World} {G cap:Nat} {op name:ByteArray} {n pos:Int} {T U:Nd} (hG:S G) (h:w.heap[G]? = some (.cells #[.string T.op,.string T.name,.int .i64 T.n,.int .i64 T.pos,.slice T.a T.kids.len T.cap,.string U.op,.string U.name,.int .i64 U.n,.int .i64 U.pos,.slice U.a U.kids.len U.cap] 26)) (hT:T.Good S w) (hU:U.Good S w) :
  Nd.Good S w ⟨op,name,n,pos,some ⟨G,0,none⟩,cap,.cons T.op T.name T.n T.pos T.a T.cap T.kids (.cons U.op U.name U.n U.pos U.a U.cap U.kids .nil)⟩:=by
 have hc:∀ i v,(#[.string T.op,.string T.name,.int .i64 T.n,.int .i64 T.pos,.slice T.a T.kids.len T.cap,.string U.op,.string U.name,.int .i64 U.n,.int .i64 U.pos,.slice U.a U.kids.len U.cap]:Array Value)[i]? = some v→w.cell? ⟨G,i,none⟩=some v:=by
  intro i v hv
  rw [cell_of_row _ _ _ _ _ _ h]
  exact hv
 refine ⟨.inr ⟨G,0,rfl,?_,⟨Nat.succ_pos _,?_⟩,⟨⟨hc 0 _ rfl,hc 1 _ rfl,hc 2 _ rfl,hc 3 _ rfl,hc 4 _ rfl⟩,hT.lies,⟨hc 5 _ rfl,hc 6 _ rfl,hc 7 _ rfl,hc 8 _ rfl,hc 9 _ rfl⟩,hU.lies,trivial⟩⟩,.inr ⟨G,0,rfl,hG⟩,hT.above.1,hT.above.2,hU.above.1,hU.above.2,trivial⟩
 ·show 0+1+1≤_;omega
 ·unfold World.frozen?
  simp only [h]
  rfl
def EndsOk (l:List Tok):Prop:=∀ t,l.getLast? = some t→t.kind=4
theorem EndsOk.tail {l:List Tok} (h:EndsOk l):EndsOk l.tail:=by
 cases l with
 | nil=>exact h
 | cons a r =>
  cases r with
  | nil=>intro t ht;simp at ht
  | cons b r=>intro t ht;exact h t (by simpa [List.getLast?_cons_cons] using ht)
def isNo (x:List UInt8):Bool:=(x == [101,120,48]) || isAllW x
def nqB (l:List Tok):Bool:=l.all fun t=>!(isNo t.text.toList)
def NQ (l:List Tok):Prop:=nqB l=true
theorem NQ.tail {l:List Tok} (h:NQ l):NQ l.tail:=by
 cases l with
 | nil=>exact h
 | cons t r =>
  have h1:(_ && nqB r)=true:=h
  rw [Bool.and_eq_true] at h1
  exact h1.2
theorem nq_no {l:List Tok} (h:NQ l) (hw:isNo (wrd l).toList=true):False:=by
 cases l with
 | nil=>revert hw;decide +kernel
 | cons t r =>
  have h1:(!(isNo t.text.toList) && nqB r)=true:=h
  rw [Bool.and_eq_true] at h1
  obtain ⟨a,_⟩:=h1
  have hwr:wrd (t :: r)=t.text∨wrd (t :: r)=⟨#[]⟩:=by
   unfold wrd
   split
   ·exact .inl rfl
   ·exact .inr rfl
  rcases hwr with e | e
  ·rw [e] at hw
   rw [hw] at a
   cases a
  ·rw [e] at hw
   revert hw
   decide +kernel
abbrev tokBox (k:Int) (s:ByteArray) (n p:Int):Obj:=.cells #[.int .i64 k,.string s,.int .i64 n,.int .i64 p] 73
theorem tok_cells {w:World} {B:Nat} {k:Int} {s:ByteArray} {n p:Int} (h:w.heap[B]? = some (tokBox k s n p)) :
  (w.cell? ⟨B,0,none⟩=some (.int .i64 k)∧w.cell? ⟨B,1,none⟩=some (.string s)∧w.cell? ⟨B,2,none⟩=some (.int .i64 n)∧w.cell? ⟨B,3,none⟩=some (.int .i64 p))∧(w.frozen? ⟨B,0,none⟩=false∧w.frozen? ⟨B,1,none⟩=false∧w.frozen? ⟨B,2,none⟩=false∧w.frozen? ⟨B,3,none⟩=false):=by
 refine ⟨⟨?_,?_,?_,?_⟩,⟨?_,?_,?_,?_⟩⟩
 all_goals first | (rw [cell_of_row w B _ _ _ _ h];rfl) | simp [World.frozen?,h]
theorem new_then {w w':World} {ob:Obj} (h:Below (w.alloc ob).heap.size (w.alloc ob) w'):w'.heap[w.heap.size]? = some ob:=(h.block _ (by simp)).trans (new_at w ob)
theorem tok_set {w:World} {B:Nat} {k n p:Int} {s:ByteArray} (h:w.heap[B]? = some (tokBox k s n p)) (k' n' p':Int) (s':ByteArray):((((w.setCell ⟨B,0,none⟩ (.int .i64 k')).setCell ⟨B,1,none⟩ (.string s')).setCell ⟨B,2,none⟩ (.int .i64 n')).setCell ⟨B,3,none⟩ (.int .i64 p')).heap[B]? = some (tokBox k' s' n' p'):=by
 have h0:=heap_setCell_same w B 0 _ _ (.int .i64 k') h
 have h1:=heap_setCell_same _ B 1 _ _ (.string s') h0
 have h2:=heap_setCell_same _ B 2 _ _ (.int .i64 n') h1
 have h3:=heap_setCell_same _ B 3 _ _ (.int .i64 p') h2
 exact h3
theorem node_set {w:World} {B:Nat} {op name:ByteArray} {n pos:Int} {a:Option Addr} {k cap:Nat} (h:w.heap[B]? = some (boxOf op name n pos a k cap)) (op' name':ByteArray) (n' pos':Int) (a':Option Addr) (k' cap':Nat):(((((w.setCell ⟨B,0,none⟩ (.string op')).setCell ⟨B,1,none⟩ (.string name')).setCell ⟨B,2,none⟩ (.int .i64 n')).setCell ⟨B,3,none⟩ (.int .i64 pos')).setCell ⟨B,4,none⟩ (.slice a' k' cap')).heap[B]? = some (boxOf op' name' n' pos' a' k' cap'):=by
 have h0:=heap_setCell_same w B 0 _ _ (.string op') h
 have h1:=heap_setCell_same _ B 1 _ _ (.string name') h0
 have h2:=heap_setCell_same _ B 2 _ _ (.int .i64 n') h1
 have h3:=heap_setCell_same _ B 3 _ _ (.int .i64 pos') h2
 have h4:=heap_setCell_same _ B 4 _ _ (.slice a' k' cap') h3
 exact h4
theorem ret_tok {f:Func} {i:Tmp} {R:Ending→World→Prop} {a:Act} {w:World} {B:Nat} {k n p:Int} {s:ByteArray} (hf:f.results=#[.cell i 73]) (hs:a.tmps.getD i undef=.pointer (some ⟨B,0,none⟩)) (hd:a.defers=[]) (h:w.heap[B]? = some (tokBox k s n p)) (hR:R (.returned (.agg #[.int .i64 k,.string s,.int .i64 n,.int .i64 p])) w):bodyPost Tryd.prog f R .ret a w:=by
 obtain ⟨⟨c0,c1,c2,c3⟩,_⟩:=tok_cells h
 refine bodyPost_ret (v:=.agg #[.int .i64 k,.string s,.int .i64 n,.int .i64 p]) ?_ hd hR
 have hc4:=cellsTok
 simp at hs
 simp [results,hf,go_sem,hs,c0,c1,c2,c3]
theorem ret_node {f:Func} {i:Tmp} {R:Ending→World→Prop} {a:Act} {w:World} {B:Nat} (op name:ByteArray) (n pos:Int) (b:Option Addr) (k cap:Nat) (hf:f.results=#[.cell i 26]) (hs:a.tmps.getD i undef=.pointer (some ⟨B,0,none⟩)) (hd:a.defers=[]) (h:w.heap[B]? = some (boxOf op name n pos b k cap)) (hR:R (.returned (.agg (nodeCells op name n pos b k cap))) w):bodyPost Tryd.prog f R .ret a w:=by
 obtain ⟨c0,c1,c2,c3,c4⟩:=box_cells h
 refine bodyPost_ret (v:=.agg (nodeCells op name n pos b k cap)) ?_ hd hR
 have hc4:=cellsNode
 simp at hs
 simp [results,hf,go_sem,hs,c0,c1,c2,c3,c4]
theorem tok_f0 (a b c e:Value) (w:World):Sem.run Tryd.prog (Instr.field 73 (.agg #[a,b,c,e]) 0) w=.ok a w:=by kernel_rfl
theorem tok_f1 (a b c e:Value) (w:World):Sem.run Tryd.prog (Instr.field 73 (.agg #[a,b,c,e]) 1) w=.ok b w:=by kernel_rfl
theorem tok_f2 (a b c e:Value) (w:World):Sem.run Tryd.prog (Instr.field 73 (.agg #[a,b,c,e]) 2) w=.ok c w:=by kernel_rfl
theorem tok_f3 (a b c e:Value) (w:World):Sem.run Tryd.prog (Instr.field 73 (.agg #[a,b,c,e]) 3) w=.ok e w:=by kernel_rfl
theorem Kp.blk {B:Nat} {a b:World} (h:Kp B a b) {i:Nat} {ob:Obj} (hi:a.heap[i]? = some ob) (hne:i≠B):b.heap[i]? = some ob :=
 (h.block i (lt_heap hi) (fun e=>hne (Option.some.inj e))).trans hi
theorem Kp.drew {B:Nat} {a b:World} (h:Kp B a b):Kp B a b.drew:=⟨h.os,h.tape,h.output,h.size,h.block⟩
theorem kp_drew {B:Nat} {a b:World} (h:Kp B a.drew b):Kp B a b:=⟨h.os,h.tape,h.output,h.size,h.block⟩
theorem set5_size (w:World) (B:Nat) (a b c d e:Value):(((((w.setCell ⟨B,0,none⟩ a).setCell ⟨B,1,none⟩ b).setCell ⟨B,2,none⟩ c).setCell ⟨B,3,none⟩ d).setCell ⟨B,4,none⟩ e).heap.size=w.heap.size:=by simp
theorem node_set_other {w:World} {i B:Nat} {ob:Obj} (h:w.heap[i]? = some ob) (hne:i≠B) (a b c d e:Value):(((((w.setCell ⟨B,0,none⟩ a).setCell ⟨B,1,none⟩ b).setCell ⟨B,2,none⟩ c).setCell ⟨B,3,none⟩ d).setCell ⟨B,4,none⟩ e).heap[i]? = some ob:=by
 rw [Below.heap_setCell _ _ _ _ (by simpa using hne),Below.heap_setCell _ _ _ _ (by simpa using hne),Below.heap_setCell _ _ _ _ (by simpa using hne),Below.heap_setCell _ _ _ _ (by simpa using hne),Below.heap_setCell _ _ _ _ (by simpa using hne)]
 exact h
theorem box_frozen {w:World} {B:Nat} {op name:ByteArray} {n pos:Int} {a:Option Addr} {k cap:Nat} (h:w.heap[B]? = some (boxOf op name n pos a k cap)) :
  w.frozen? ⟨B,0,none⟩=false∧w.frozen? ⟨B,1,none⟩=false∧w.frozen? ⟨B,2,none⟩=false∧w.frozen? ⟨B,3,none⟩=false∧w.frozen? ⟨B,4,none⟩=false:=by
 refine ⟨?_,?_,?_,?_,?_⟩ <;> simp [World.frozen?,h]
def Suf (l' l:List Tok):Prop:=∃ k,0 < k∧k≤l.length∧l'=l.drop k
def SufE (l' l:List Tok):Prop:=∃ k,k≤l.length∧l'=l.drop k
theorem Suf.len {l' l:List Tok} (h:Suf l' l):l'.length < l.length:=by
 obtain ⟨k,h1,h2,rfl⟩:=h
 rw [List.length_drop];omega
theorem Suf.e {l' l:List Tok} (h:Suf l' l):SufE l' l:=by
 obtain ⟨k,_,h2,h3⟩:=h
 exact ⟨k,h2,h3⟩
theorem SufE.refl (l:List Tok):SufE l l:=⟨0,Nat.zero_le _,rfl⟩
theorem SufE.trans {a b c:List Tok} (h:SufE a b) (k:SufE b c):SufE a c:=by
 obtain ⟨m,h1,rfl⟩:=h
 obtain ⟨n,h2,rfl⟩:=k
 rw [List.length_drop] at h1
 exact ⟨n+m,by omega,by rw [List.drop_drop]⟩
theorem Suf.trans {a b c:List Tok} (h:Suf a b) (k:SufE b c):Suf a c:=by
 obtain ⟨m,h0,h1,rfl⟩:=h
 obtain ⟨n,h2,rfl⟩:=k
 rw [List.length_drop] at h1
 exact ⟨n+m,by omega,by omega,by rw [List.drop_drop]⟩
theorem SufE.transS {a b c:List Tok} (h:SufE a b) (k:Suf b c):Suf a c:=by
 obtain ⟨m,h1,rfl⟩:=h
 obtain ⟨n,h0,h2,rfl⟩:=k
 rw [List.length_drop] at h1
 exact ⟨n+m,by omega,by omega,by rw [List.drop_drop]⟩
theorem Suf.tail {l:List Tok} (h:l≠[]):Suf l.tail l:=⟨1,by omega,by have:=List.length_pos_iff.2 h;omega,by rw [List.drop_one]⟩
theorem ne_of_wrd {l:List Tok} {c:UInt8} {r:List UInt8} (h:((wrd l).toList == c :: r)=true):l≠[]:=by
 rintro rfl
 rw [show (wrd ([]:List Tok)).toList=[] from by decide +kernel] at h
 exact absurd h (by simp)
theorem ne_of_kind {l:List Tok} {k:Int} (h:((hd l).kind == k)=true) (hk:k≠0):l≠[]:=by
 rintro rfl
 exact hk (beq_iff_eq.1 h).symm
theorem psgF_emp (lv:Int):∀ X:List (Int × ByteArray × ByteArray),(∀ s ∈ X,s.2.1.toList≠[])→psgF lv ⟨#[]⟩ X=⟨#[]⟩:=by
 intro X
 induction X with
 | nil=>intro _;rfl
 | cons s r ih =>
  intro h
  unfold psgF
  rw [if_neg,ih fun s hs=>h s (List.mem_cons_of_mem _ hs)]
  intro hc
  rw [Bool.and_eq_true,beq_iff_eq] at hc
  exact h s (List.mem_cons_self ..) (by rw [beq_iff_eq] at hc;rw [hc.2];decide +kernel)
theorem psg_nil (lv:Int):psg lv (wrd [])=⟨#[]⟩:=psgF_emp lv psigs (by decide +kernel)
theorem ne_of_psg {l:List Tok} {lv:Int} (h:((psg lv (wrd l)).toList == [])=false):l≠[]:=by
 rintro rfl
 rw [psg_nil,show (ByteArray.mk #[]).toList=[] from by decide +kernel] at h
 exact absurd h (by decide)
theorem suf_terms:∀ f:Nat,(∀ br l t l',pPart f br l=.ok t l'→Suf l' l)∧(∀ br l t l',pList f br l=.ok t l'→Suf l' l)∧(∀ br l t l',pKid f br l=.ok t l'→Suf l' l) ∧
  (∀ br acc l t l',pListL f br acc l=.ok t l'→Suf l' l)∧(∀ l t l',pTerm f l=.ok t l'→Suf l' l)∧(∀ n l t l',pTermL f n l=.ok t l'→SufE l' l):=by
 intro f
 induction f with
 | zero =>
  refine ⟨?_,?_,?_,?_,?_,?_⟩
  ·intro br l t l' h;unfold pPart at h;cases h
  ·intro br l t l' h;unfold pList at h;cases h
  ·intro br l t l' h;cases br <;> (unfold pKid at h;cases h)
  ·intro br acc l t l' h;unfold pListL at h;cases h
  ·intro l t l' h;unfold pTerm at h;cases h
  ·intro n l t l' h;unfold pTermL at h;cases h
 | succ f ih =>
  obtain ⟨i1,i2,i3,i4,i5,i6⟩:=ih
  refine ⟨?_,?_,?_,?_,?_,?_⟩
  ·intro br l t l' h
   unfold pPart at h
   split at h
   ·rename_i hw
    have hn:=Suf.tail (ne_of_wrd hw)
    split at h
    ·cases h
    ·split at h
     ·rename_i hq;cases h;exact (i2 _ _ _ _ hq).trans hn.e
     ·cases h
   ·split at h
    ·rename_i hk
     have hn:=Suf.tail (ne_of_kind hk (by decide))
     split at h
     ·rename_i hw2
      have hn2:=Suf.tail (ne_of_wrd hw2)
      split at h
      ·rename_i hk2
       rw [Bool.and_eq_true] at hk2
       have hn3:=Suf.tail (ne_of_kind hk2.1 (by decide))
       cases h;exact hn3.trans (hn2.trans hn.e).e
      ·cases h
     ·cases h;exact hn
    ·split at h
     ·rename_i hk
      cases h;exact Suf.tail (ne_of_kind hk (by decide))
     ·cases h
  ·intro br l t l' h
   unfold pList at h
   split at h
   ·rename_i hw
    cases h
    refine Suf.tail ?_
    cases br
    ·exact ne_of_wrd hw
    ·exact ne_of_wrd hw
   ·split at h
    ·rename_i hq;exact (i4 _ _ _ _ _ h).trans (i3 _ _ _ _ hq).e
    ·cases h
  ·intro br l t l' h
   cases br
   ·exact i5 _ _ _ h
   ·exact i1 _ _ _ _ h
  ·intro br acc l t l' h
   unfold pListL at h
   split at h
   ·rename_i hw
    have hn:=Suf.tail (ne_of_wrd hw)
    split at h
    ·cases h
    ·split at h
     ·rename_i hq;exact (i4 _ _ _ _ _ h).trans ((i3 _ _ _ _ hq).trans hn.e).e
     ·cases h
   ·split at h
    ·rename_i hw
     cases h
     refine Suf.tail ?_
     cases br
     ·exact ne_of_wrd hw
     ·exact ne_of_wrd hw
    ·cases h
  ·intro l t l' h
   unfold pTerm at h
   split at h
   ·rename_i hq;exact (i6 _ _ _ _ h).transS (i1 _ _ _ _ hq)
   ·cases h
  ·intro n l t l' h
   unfold pTermL at h
   split at h
   ·cases h;exact SufE.refl _
   ·rename_i hw
    split at h
    ·rename_i hq;exact ((i6 _ _ _ _ h).transS (i1 _ _ _ _ hq)).e.trans (Suf.tail (ne_of_psg (by simpa using hw))).e
    ·cases h
theorem suf_atom {f:Nat} {l l':List Tok} {t:Nd} (h:pAtom f l=.ok t l'):Suf l' l:=by
 obtain ⟨i1,i2,i3,i4,i5,i6⟩:=suf_terms f
 unfold pAtom at h
 split at h
 ·rename_i hk
  rw [Bool.and_eq_true] at hk
  have hn:=Suf.tail (ne_of_kind hk.1 (by decide))
  have hn2:=Suf.tail (ne_of_wrd hk.2)
  split at h
  ·rename_i hq;cases h;exact (i2 _ _ _ _ hq).trans (hn2.trans hn.e).e
  ·cases h
 ·split at h
  ·rename_i hq
   split at h
   ·split at h
    ·cases h;exact i5 _ _ _ hq
    ·cases h
   ·rename_i hw
    split at h
    ·rename_i hq2
     cases h
     exact ((i5 _ _ _ hq2).trans (Suf.tail (ne_of_psg (by simpa using hw))).e).trans (i5 _ _ _ hq).e
    ·cases h
  ·cases h
theorem suf_forms:∀ f:Nat,(∀ d l t l',pUn f d l=.ok t l'→Suf l' l)∧(∀ op d l t l',pQuant f op d l=.ok t l'→Suf l' l)∧(∀ d l t l',pAnd f d l=.ok t l'→Suf l' l)∧(∀ d n l t l',pAndL f d n l=.ok t l'→SufE l' l) ∧
    (∀ d l t l',pOr f d l=.ok t l'→Suf l' l)∧(∀ d n l t l',pOrL f d n l=.ok t l'→SufE l' l)∧(∀ d l t l',pForm f d l=.ok t l'→Suf l' l)∧(∀ d n l t l',pFormL f d n l=.ok t l'→SufE l' l)∧(∀ d l t l',pImp f d l=.ok t l'→Suf l' l):=by
  intro f
  induction f with
  | zero =>
    refine ⟨?_,?_,?_,?_,?_,?_,?_,?_,?_⟩
    · intro d l t l' h;unfold pUn at h;cases h
    · intro op d l t l' h;unfold pQuant at h;cases h
    · intro d l t l' h;unfold pAnd at h;cases h
    · intro d n l t l' h;unfold pAndL at h;cases h
    · intro d l t l' h;unfold pOr at h;cases h
    · intro d n l t l' h;unfold pOrL at h;cases h
    · intro d l t l' h;unfold pForm at h;cases h
    · intro d n l t l' h;unfold pFormL at h;cases h
    · intro d l t l' h;unfold pImp at h;cases h
  | succ f ih =>
    obtain ⟨iU,iQ,iA,iAL,iO,iOL,iF,iFL,iI⟩:=ih
    refine ⟨?_,?_,?_,?_,?_,?_,?_,?_,?_⟩
    · intro d l t l' h
      unfold pUn at h
      split at h
      · cases h
      split at h
      · rename_i hw
        have hn:=Suf.tail (ne_of_wrd hw)
        split at h
        · rename_i hq;cases h;exact (iU _ _ _ _ hq).trans hn.e
        · cases h
      split at h
      · exact iQ _ _ _ _ _ h
      split at h
      · exact iQ _ _ _ _ _ h
      split at h
      · rename_i hw
        cases h
        refine Suf.tail ?_
        rw [Bool.or_eq_true] at hw
        rcases hw with hw | hw
        · exact ne_of_wrd hw
        · exact ne_of_wrd hw
      split at h
      · rename_i hw
        have hn:=Suf.tail (ne_of_wrd hw)
        split at h
        · rename_i hq
          split at h
          · rename_i hw2
            cases h
            exact ((Suf.tail (ne_of_wrd hw2)).trans (iF _ _ _ _ hq).e).trans hn.e
          · cases h
        · cases h
      · exact suf_atom h
    · intro op d l t l' h
      unfold pQuant at h
      split at h
      · rename_i hk
        have hn:=Suf.tail (ne_of_kind hk (by decide))
        have hl:SufE l.tail l:=by cases l with | nil=>exact SufE.refl _ | cons a r=>exact (Suf.tail (by simp)).e
        split at h
        · rename_i hw
          have hn2:=Suf.tail (ne_of_wrd hw)
          split at h
          · rename_i hq
            cases h
            exact ((iF _ _ _ _ hq).trans (hn2.trans hn.e).e).trans hl
          · cases h
        · cases h
      · cases h
    all_goals first
      | (intro d l t l' h
         first | unfold pAnd at h | unfold pOr at h | unfold pForm at h
         split at h
         · rename_i hq
           first | exact (iAL _ _ _ _ _ h).transS (iU _ _ _ _ hq) | exact (iOL _ _ _ _ _ h).transS (iA _ _ _ _ hq) | exact (iFL _ _ _ _ _ h).transS (iI _ _ _ _ hq)
         · cases h)
      | (intro d n l t l' h
         first | unfold pAndL at h | unfold pOrL at h | unfold pFormL at h
         split at h
         · cases h;exact SufE.refl _
         · rename_i hw
           have hn:=Suf.tail (ne_of_psg (by simpa using hw))
           split at h
           · rename_i hq
             first | exact ((iAL _ _ _ _ _ h).transS (iU _ _ _ _ hq)).e.trans hn.e | exact ((iOL _ _ _ _ _ h).transS (iA _ _ _ _ hq)).e.trans hn.e | exact ((iFL _ _ _ _ _ h).transS (iI _ _ _ _ hq)).e.trans hn.e
           · cases h)
      | (intro d l t l' h
         unfold pImp at h
         split at h
         · rename_i hq
           split at h
           · cases h;exact iO _ _ _ _ hq
           · rename_i hw
             have hn:=Suf.tail (ne_of_psg (by simpa using hw))
             split at h
             · rename_i hq2;cases h;exact ((iI _ _ _ _ hq2).trans hn.e).trans (iO _ _ _ _ hq).e
             · cases h
         · cases h)
end Go.Proofs.YtmlmjopfbohglaaDoor
