/- Parts of the proof: KMap NodeR Shelf LexBR. -/
import Derived.Test.YtmlmjopfbohglaaDoorWd00
import Derived.Test.YtmlmjopfbohglaaDoorRows
import Derived.Test.YtmlmjopfbohglaaDoorProg
import Derived.WalkLawsBesides
import Derived.WalkSpells
import Derived.ProofKit
import Derived.Outline
import Derived.Deep.QuietTactic
import Derived.BigQuiet
import Derived.Deep.Light
import Derived.Deep.CutBlock
import Derived.Deep.DeepCutAuto
import Derived.Deep.DeepFit
import Derived.Deep.LoopGhost
import Derived.Lib.Hide
import Derived.Lib.OthersKept
import Derived.IntWalk
import Derived.StillTailTactics
import Derived.Maps.OwnSet
import Derived.Maps.OwnOps
import Derived.Shelf.Strings.Builder1
import Derived.Shelf.Small.Bits
import Derived.Shelf.Strings.BuilderF
import Derived.Shelf.Strings.BuilderK
import Derived.Shelf.Utf8.RuneCount
import Derived.Shelf.Strconv.Itoa0
import Derived.Shelf.Strconv.Itoa1
import Derived.Shelf.LaysM
import Derived.Shelf.Strconv.Itoa2
import Derived.Shelf.Strconv.Itoa3
import Derived.Shelf.Strconv.Clone
import Derived.Shelf.Strings.Prefix
import Derived.Shelf.Strings.Fields
import Derived.Shelf.Strings.SplitShaped
import Derived.Shelf.Unicode.Latin
import Derived.Shelf.Unicode.Decode
import Derived.Shelf.Strings.RuneCount
import Derived.Shelf.Unicode.DecodeSlow
import Derived.Shelf.Unicode.DecodeAny
import Derived.Shelf.Unicode.Is16White
import Derived.Shelf.Unicode.IsSpaceAny
import Derived.Shelf.Unicode.Is16WhiteD
import Derived.Shelf.Unicode.IsSpaceAnyD
import Derived.Shelf.Strings.FieldsAny
import Derived.Shelf.Strings.FieldsFuncAny
import Derived.Shelf.Unicode.Is16Any
import Derived.Shelf.Unicode.Is32Any
import Derived.Shelf.Unicode.ExclAny
import Derived.Shelf.Slices.Turned
namespace Go.Proofs.YtmlmjopfbohglaaDoor
open Go.RowKit
open Go.Maps
def heldR:Value→Option (DataW Value × List MemPlace):=fun v=>some (.held v,[])
abbrev sKey (s:ByteArray):Lit:=.string s.data.toList
def SMap (P:Program) (k:TypeId) (w:World) (b n:Nat) (f:ByteArray→Option Value):Prop :=
 ∃ D:DataW Value,w.ownsMap P k heldR b n D∧Maps.IsMap D∧∀ s:ByteArray,Maps.has D (sKey s)=(f s).isSome∧∀ v,f s=some v→∀ z,D.atKey (sKey s) z=.held v
theorem sKey_inj {s t:ByteArray} (h:sKey s=sKey t):s=t:=by
 have h1:s.data.toList=t.data.toList:=Lit.string.inj h
 have h2:s.data=t.data:=Array.toList_inj.1 h1
 exact ByteArray.ext h2
theorem SMap.lt {P:Program} {k:TypeId} {w:World} {b n:Nat} {f:ByteArray→Option Value} (h:SMap P k w b n f):b < w.heap.size:=by
 obtain ⟨D,h1,_⟩:=h
 exact h1.lt
theorem SMap.same {P:Program} {k:TypeId} {w w':World} {b n:Nat} {f:ByteArray→Option Value} (h:SMap P k w b n f) (hs:w'.heap[b]? = w.heap[b]?):SMap P k w' b n f:=by
 obtain ⟨D,⟨es,clock,hb,r⟩,h2,h3⟩:=h
 exact ⟨D,⟨es,clock,hs.trans hb,r⟩,h2,h3⟩
theorem SMap.congr {P:Program} {k:TypeId} {w:World} {b n:Nat} {f g:ByteArray→Option Value} (h:SMap P k w b n f) (hf:∀ s,f s=g s):SMap P k w b n g:=by
 have:f=g:=funext hf
 rw [← this]
 exact h
theorem SMap.made (P:Program) (k:TypeId) (w:World):SMap P k (w.alloc (.map #[] 0)) w.heap.size 0 (fun _=>none) :=
 ⟨.map [],World.ownsMap_made _ _ _ _,(World.ownsMap_made w P k heldR).isMap,fun s=>⟨rfl,fun v h=>by cases h⟩⟩
section
variable {P:Program} (w:World) {ops:Array Oper} {rest:List Oper} {o:Oper} {a:Act} {Q:Exit→Act→World→Prop}
theorem wpList_lookup_smap (hg:o.guard=none) (m x:Operand) (t:TypeId) (hop:o.op=Op.lookup t m x true)
  (k e:TypeId) (hk:P.underlying k=some .string) (ht:P.underlying t=some (.map k e)) {z:Value} (hz:(zeroValue e).run P w=.ok z w) (b n:Nat) (f:ByteArray→Option Value)
  (hm:a.eval m=.map (some b)) (hS:SMap P k w b n f) (s:ByteArray) (hx:a.eval x=.string s) (hs:s.size≤maxLen)
  (hK:wpList P ops Q rest (a.put o.dst (.tuple #[(f s).getD z,.bool (f s).isSome])) w) :
  wpList P ops Q (o :: rest) a w:=by
 obtain ⟨D,hown,hI,hf⟩:=hS
 refine wpList_lookup_own_ok w hg m x t hop k e (string_keyed hk) ht heldR hz (.held z) [] rfl b n D hm hown (.string s) (sKey s) hx (WideMaps.keyOf_string_mk hk hs) fun v ps hv=>?_
 rw [(hf s).1]
 have hv2:v=(f s).getD z:=by
  have h1:DataW.held v=D.atKey (sKey s) (.held z):=congrArg Prod.fst (Option.some.inj hv)
  cases hq:f s with
  | none =>
   have h2:=Maps.atKey_of_not_has (D:=D) (k:=sKey s) (by rw [(hf s).1,hq];rfl) (.held z)
   rw [h2] at h1
   exact DataW.held.inj h1
  | some u =>
   rw [(hf s).2 u hq] at h1
   exact DataW.held.inj h1
 rw [hv2]
 exact hK
theorem wpList_update_smap (hg:o.guard=none) (m x y:Operand) (t:TypeId) (hop:o.op=Op.mapUpdate t m x y)
  (k e:TypeId) (hk:P.underlying k=some .string) (ht:P.underlying t=some (.map k e)) (b n:Nat) (f:ByteArray→Option Value)
  (hm:a.eval m=.map (some b)) (hS:SMap P k w b n f) (hn:n < maxLen) (s:ByteArray) (v:Value) (hx:a.eval x=.string s) (hy:a.eval y=v) (hs:s.size≤maxLen)
  (hK:∀ w',SMap P k w' b (n+1) (fun u=>if u=s then some v else f u)→w.grownBy w' (some b)→w'.heap.size=w.heap.size→wpList P ops Q rest (a.put o.dst undef) w') :
  wpList P ops Q (o :: rest) a w:=by
 obtain ⟨D,hown,hI,hf⟩:=hS
 refine wpList_mapUpdate_in w hg m x y t hop k e (string_keyed hk) ht heldR b n D hm hown hn (.string s) v (sKey s) hx hy (WideMaps.keyOf_string_mk hk hs) (.held v) [] rfl fun w' hown' hgr=>?_
 refine hK w' ⟨_,hown',hown'.isMap,fun u=>?_⟩ hgr.grown ?_
 ·by_cases hu:u=s
  ·subst hu
   simp only [if_true]
   refine ⟨Maps.has_put_same hI (by trivial) _,fun v' h' z=>?_⟩
   rw [← Option.some.inj h']
   exact Maps.atKey_put_same hI (by trivial) _ z
  ·simp only [if_neg hu]
   have hne:sKey u≠sKey s:=fun h=>hu (sKey_inj h)
   refine ⟨(Maps.has_put_other hne _).trans (hf u).1,fun v' h' z=>?_⟩
   rw [Maps.atKey_put_other hne]
   exact (hf u).2 v' h' z
 ·obtain ⟨es,clock,es2,clock2,hb,rfl⟩:=hgr
  simp [ChangeMaps.setBlock]
end
end Go.Proofs.YtmlmjopfbohglaaDoor
namespace Go.Proofs.YtmlmjopfbohglaaDoor
open Go.RowKit
inductive Fo where
 | nil
 | cons (op name:ByteArray) (n pos:Int) (a:Option Addr) (cap:Nat) (kids rest:Fo)
namespace Fo
def len:Fo→Nat
 | nil=>0
 | cons _ _ _ _ _ _ _ r=>r.len+1
def size:Fo→Nat
 | nil=>0
 | cons _ _ _ _ _ _ k r=>k.size+1+r.size
end Fo
structure Nd where
 op:ByteArray
 name:ByteArray
 n:Int
 pos:Int
 a:Option Addr
 cap:Nat
 kids:Fo
abbrev nodeCells (op name:ByteArray) (n pos:Int) (a:Option Addr) (k cap:Nat):Array Value:=#[.string op,.string name,.int .i64 n,.int .i64 pos,.slice a k cap]
def Nd.val (T:Nd):Value:=.agg (nodeCells T.op T.name T.n T.pos T.a T.kids.len T.cap)
def Nd.size (T:Nd):Nat:=T.kids.size+1
def NodeAt (w:World) (b o:Nat) (op name:ByteArray) (n pos:Int) (a:Option Addr) (k cap:Nat):Prop :=
 w.cell? ⟨b,o,none⟩=some (.string op)∧w.cell? ⟨b,o+1,none⟩=some (.string name)∧w.cell? ⟨b,o+2,none⟩=some (.int .i64 n)∧w.cell? ⟨b,o+3,none⟩=some (.int .i64 pos)∧w.cell? ⟨b,o+4,none⟩=some (.slice a k cap)
def Fo.In (w:World):Fo→Nat→Nat→Prop
 | .nil,_,_=>True
 | .cons op name n pos a cap kids rest,b,o=>NodeAt w b o op name n pos a kids.len cap∧(kids=.nil∨∃ b' o',a=some ⟨b',o',none⟩∧kids.len≤140737488351232∧(0 < kids.len∧w.frozen? ⟨b',o',none⟩=false)∧Fo.In w kids b' o')∧Fo.In w rest b (o+5)
def Nd.In (w:World) (T:Nd):Prop:=T.kids=.nil∨∃ b o,T.a=some ⟨b,o,none⟩∧T.kids.len≤140737488351232∧(0 < T.kids.len∧w.frozen? ⟨b,o,none⟩=false)∧T.kids.In w b o
def Fo.All (P:Nd→Prop):Fo→Prop
 | .nil=>True
 | .cons op name n pos a cap kids rest=>P ⟨op,name,n,pos,a,cap,kids⟩∧Fo.All P rest
theorem Fo.all_of {P:Nd→Prop} (h:∀ T:Nd,Fo.All P T.kids→P T):∀ F:Fo,Fo.All P F:=by
 intro F
 induction F with
 | nil=>trivial
 | cons op name n pos a cap kids rest ihk ihr=>exact ⟨h _ ihk,ihr⟩
theorem Nd.all_of {P:Nd→Prop} (h:∀ T:Nd,Fo.All P T.kids→P T) (T:Nd):P T:=h T (Fo.all_of h _)
theorem cell_below {w w':World} (h:Below w.heap.size w w') {p:Addr} {v:Value} (hc:w.cell? p=some v):w'.cell? p=some v:=by
 rw [h.cell (p:=p)]
 ·exact hc
 ·have:=hc
  rcases Nat.lt_or_ge p.block w.heap.size with hl | hl
  ·exact hl
  ·exfalso
   rw [World.cell?] at this
   rw [Array.getElem?_eq_none hl] at this
   cases this
theorem NodeAt.below {w w':World} (hb:Below w.heap.size w w') {b o:Nat} {op name:ByteArray} {n pos:Int} {a:Option Addr} {k cap:Nat} (h:NodeAt w b o op name n pos a k cap):NodeAt w' b o op name n pos a k cap :=
 ⟨cell_below hb h.1,cell_below hb h.2.1,cell_below hb h.2.2.1,cell_below hb h.2.2.2.1,cell_below hb h.2.2.2.2⟩
theorem lt_of_cell {w:World} {p:Addr} {v:Value} (hc:w.cell? p=some v):p.block < w.heap.size:=by
 rcases Nat.lt_or_ge p.block w.heap.size with hl | hl
 ·exact hl
 ·exfalso
  rw [World.cell?,Array.getElem?_eq_none hl] at hc
  cases hc
theorem Fo.In.lt {w:World} {F:Fo} {b o:Nat} (h:F.In w b o) (h0:0 < F.len):b < w.heap.size:=by
 cases F with
 | nil=>cases h0
 | cons op name n pos a cap kids rest=>exact lt_of_cell h.1.1
theorem Fo.In.below {w w':World} (hb:Below w.heap.size w w'):∀ {F:Fo} {b o:Nat},F.In w b o→F.In w' b o:=by
 intro F
 induction F with
 | nil=>intro b o _;trivial
 | cons op name n pos a cap kids rest ihk ihr =>
  intro b o h
  obtain ⟨h1,h2,h3⟩:=h
  refine ⟨h1.below hb,?_,ihr h3⟩
  rcases h2 with h2 | ⟨b',o',h2,hl,⟨h0,hf⟩,h4⟩
  ·exact .inl h2
  ·exact .inr ⟨b',o',h2,hl,⟨h0,by rw [hb.frozen (h4.lt h0)];exact hf⟩,ihk h4⟩
theorem Nd.In.below {w w':World} (hb:Below w.heap.size w w') {T:Nd} (h:T.In w):T.In w':=by
 rcases h with h | ⟨b,o,h,hl,⟨h0,hf⟩,h2⟩
 ·exact .inl h
 ·exact .inr ⟨b,o,h,hl,⟨h0,by rw [hb.frozen (h2.lt h0)];exact hf⟩,h2.below hb⟩
structure Tail (w:World) (P:Nd→Prop) (F R:Fo) (b o k:Nat):Prop where
 lies:R.In w b (o+k * 5)
 all:Fo.All P R
 len:k+R.len=F.len
theorem Tail.start {w:World} {P:Nd→Prop} {F:Fo} {b o:Nat} (h:F.In w b o) (ha:Fo.All P F):Tail w P F F b o 0:=⟨h,ha,by omega⟩
theorem Tail.next {w:World} {P:Nd→Prop} {F:Fo} {op name:ByteArray} {n pos:Int} {a:Option Addr} {cap:Nat} {kids rest:Fo} {b o k:Nat} (h:Tail w P F (.cons op name n pos a cap kids rest) b o k) :
  NodeAt w b (o+k * 5) op name n pos a kids.len cap∧Nd.In w ⟨op,name,n,pos,a,cap,kids⟩∧P ⟨op,name,n,pos,a,cap,kids⟩∧k < F.len∧Tail w P F rest b o (k+1):=by
 obtain ⟨⟨h1,h2,h3⟩,⟨h4,h5⟩,h6⟩:=h
 have h7:(Fo.cons op name n pos a cap kids rest).len=rest.len+1:=rfl
 rw [h7] at h6
 refine ⟨h1,h2,h4,by omega,⟨?_,h5,by omega⟩⟩
 rw [show o+(k+1) * 5=o+k * 5+5 by omega]
 exact h3
theorem Tail.below {w w':World} (hb:Below w.heap.size w w') {P:Nd→Prop} {F R:Fo} {b o k:Nat} (h:Tail w P F R b o k):Tail w' P F R b o k:=⟨h.lies.below hb,h.all,h.len⟩
theorem new_at (w:World) (o:Obj):(w.alloc o).heap[w.heap.size]? = some o:=by show (w.heap.push _)[w.heap.size]? = _;simp
theorem Nd.val_def (T:Nd):T.val=.agg #[.string T.op,.string T.name,.int .i64 T.n,.int .i64 T.pos,.slice T.a T.kids.len T.cap]:=rfl
theorem cellsNode:Tryd.prog.cellsOf 26=5:=by kernel_rfl
abbrev boxOf (op name:ByteArray) (n pos:Int) (a:Option Addr) (k cap:Nat):Obj:=.cells (nodeCells op name n pos a k cap) 26
theorem box_cell (w:World) (op name:ByteArray) (n pos:Int) (a:Option Addr) (k cap:Nat):(w.alloc (boxOf op name n pos a k cap)).cell? ⟨w.heap.size,4,none⟩=some (.slice a k cap):=by
 rw [cell_of_row _ w.heap.size 4 _ _ _ (new_at _ _)]
 rfl
theorem alloc_size (w:World) (ob:Obj):(w.alloc ob).heap.size=w.heap.size+1:=by simp
theorem below_box (w:World) (ob:Obj):Below w.heap.size w (w.alloc ob):=(Below.refl _ _).alloc (Nat.le_refl _) _
theorem box_then {w w':World} {ob:Obj} (h:Below (w.alloc ob).heap.size (w.alloc ob) w'):Below w.heap.size w w':=(below_box w ob).trans (h.mono (by rw [alloc_size];omega))
theorem two_boxes (w:World) (o1 o2:Obj):Below w.heap.size w ((w.alloc o1).alloc o2):=((Below.refl _ _).alloc (Nat.le_refl _) _).alloc (by simp) _
theorem box_cells {w:World} {B:Nat} {op name:ByteArray} {n pos:Int} {a:Option Addr} {k cap:Nat} (h:w.heap[B]? = some (boxOf op name n pos a k cap)) :
  w.cell? ⟨B,0,none⟩=some (.string op)∧w.cell? ⟨B,1,none⟩=some (.string name)∧w.cell? ⟨B,2,none⟩=some (.int .i64 n)∧w.cell? ⟨B,3,none⟩=some (.int .i64 pos)∧w.cell? ⟨B,4,none⟩=some (.slice a k cap):=by
 refine ⟨?_,?_,?_,?_,?_⟩ <;> (rw [cell_of_row _ _ _ _ _ _ h];rfl)
theorem lt_heap {w:World} {B:Nat} {ob:Obj} (h:w.heap[B]? = some ob):B < w.heap.size:=(Array.getElem?_eq_some_iff.1 h).1
theorem box_alloc {w:World} {B:Nat} {op name:ByteArray} {n pos:Int} {a:Option Addr} {k cap:Nat} (h:w.heap[B]? = some (boxOf op name n pos a k cap)) (ob:Obj):(w.alloc ob).heap[B]? = some (boxOf op name n pos a k cap):=by
 rw [Below.heap_alloc _ _ _ (lt_heap h)];exact h
theorem second_at (w:World) (o1 o2:Obj):((w.alloc o1).alloc o2).heap[w.heap.size+1]? = some o2:=by
 have:=new_at (w.alloc o1) o2
 rw [alloc_size] at this
 exact this
def Fo.sized:Fo→Prop
 | .nil=>True
 | .cons _ name _ _ _ _ kids rest=>name.size≤140737488351232∧kids.sized∧rest.sized
def Nd.sized (T:Nd):Prop:=T.name.size≤140737488351232∧T.kids.sized
end Go.Proofs.YtmlmjopfbohglaaDoor
namespace Go.Proofs
open Go.Shelf
def Tryd.lays195_ren:Go.Shelf.Ren:=⟨fun | 195=>42 | n=>n,fun | 9=>9 | 3=>3 | 0=>0 | 4=>4 | n=>n,fun | n=>n⟩
theorem Tryd.lays195:Go.Proofs.Lays.n195 Tryd.prog Tryd.lays195_ren:={
 mixed:=by kernel_rfl
 f195:=Tryd.func42.trans (congrArg some (by kernel_rfl))
 t0:=Tryd.underlying0
 a0:=Tryd.isAgg0
 z0:=Tryd.sizeOf0
 v0:=Tryd.zeroValue0
 t3:=Tryd.underlying3
 a3:=Tryd.isAgg3
 z3:=Tryd.sizeOf3
 v3:=Tryd.zeroValue3
 t4:=Tryd.underlying4
 a4:=Tryd.isAgg4
 z4:=Tryd.sizeOf4
 v4:=Tryd.zeroValue4
 t9:=Tryd.underlying9
 a9:=Tryd.isAgg9
 z9:=Tryd.sizeOf9
 v9:=Tryd.zeroValue9 }
open Go.RowKit in
theorem Tryd.utf8_RuneCountInString (s:ByteArray) (w:World) (hs:s.size < 9223372036854775807) :
  Calls Tryd.prog 42 #[.string s] w fun e w'=>e=.returned (.int .i64 (Lib.runeCount s))∧∃ pos,w'=w.iter s pos:=Any.utf8_RuneCountInString Tryd.lays195 s w hs
def Tryd.laysM316_ren:Go.Shelf.Ren:=⟨fun | 316=>181 | n=>n,fun | 9=>9 | 3=>3 | 4=>4 | 37=>49 | 0=>0 | 127=>102 | 5=>5 | n=>n,fun | n=>n⟩
theorem Tryd.laysM316:Go.Proofs.LaysM.n316 Tryd.prog Tryd.laysM316_ren:={
 mixed:=by kernel_rfl
 f316:=Tryd.func181.trans (congrArg some (by kernel_rfl))
 t0:=Tryd.underlying0
 a0:=Tryd.isAgg0
 z0:=Tryd.sizeOf0
 v0:=Tryd.zeroValue0
 t3:=Tryd.underlying3
 a3:=Tryd.isAgg3
 z3:=Tryd.sizeOf3
 v3:=Tryd.zeroValue3
 t4:=Tryd.underlying4
 a4:=Tryd.isAgg4
 z4:=Tryd.sizeOf4
 v4:=Tryd.zeroValue4
 t9:=Tryd.underlying9
 a9:=Tryd.isAgg9
 z9:=Tryd.sizeOf9
 v9:=Tryd.zeroValue9
 t37:=Tryd.underlying49
 a37:=Tryd.isAgg49
 z37:=Tryd.sizeOf49
 v37:=Tryd.zeroValue49
 t127:=Tryd.underlying102
 a127:=Tryd.isAgg102
 z127:=Tryd.sizeOf102
 v127:=Tryd.zeroValue102
 t5:=Tryd.underlying5
 a5:=Tryd.isAgg5
 z5:=Tryd.sizeOf5
 v5:=Tryd.zeroValue5
 i0:=by kernel_rfl
 i3:=by kernel_rfl
 i4:=by kernel_rfl
 i5:=by kernel_rfl
 i9:=by kernel_rfl
 i37:=by kernel_rfl
 i127:=by kernel_rfl }
open Go.RowKit in
theorem Tryd.stringslite_Clone (s:ByteArray) (w:World) (hlim:s.size≤281474976710656) :
  Calls Tryd.prog 181 #[.string s] w fun e w'=>e=.returned (.string s)∧Below w.heap.size w w':=Any.stringslite_Clone Tryd.laysM316 s w hlim
def Tryd.lays99_ren:Go.Shelf.Ren:=⟨fun | 99=>169 | 206=>182 | n=>n,fun | 9=>9 | 4=>4 | 3=>3 | n=>n,fun | n=>n⟩
theorem Tryd.lays99:Go.Proofs.Lays.n99 Tryd.prog Tryd.lays99_ren:={
 mixed:=by kernel_rfl
 f99:=Tryd.func169.trans (congrArg some (by kernel_rfl))
 f206:=Tryd.func182.trans (congrArg some (by kernel_rfl))
 t3:=Tryd.underlying3
 a3:=Tryd.isAgg3
 z3:=Tryd.sizeOf3
 v3:=Tryd.zeroValue3
 t4:=Tryd.underlying4
 a4:=Tryd.isAgg4
 z4:=Tryd.sizeOf4
 v4:=Tryd.zeroValue4
 t9:=Tryd.underlying9
 a9:=Tryd.isAgg9
 z9:=Tryd.sizeOf9
 v9:=Tryd.zeroValue9 }
open Go.RowKit Go.Lib in
theorem Tryd.strings_HasPrefix (s p:ByteArray) (w:World) :
  Calls Tryd.prog 169 #[.string s,.string p] w fun e w'=>e=.returned (.bool (Lib.hasPrefix s.data.toList p.data.toList))∧w'=w:=Any.strings_HasPrefix Tryd.lays99 s p w
def Tryd.lays157_ren:Go.Shelf.Ren:=⟨fun | 157=>180 | 229=>194 | 199=>195 | 261=>202 | 311=>204 | 312=>205 | n=>n,fun | 9=>9 | 31=>36 | 3=>3 | 5=>5 | 4=>4 | 119=>167 | 0=>0 | 40=>174 | 152=>217 | 21=>21 | 154=>219 | 51=>183 | 141=>221 | 196=>228 | 193=>225 | 198=>231 | 49=>229 | 194=>226 | 201=>234 | 226=>236 | 46=>168 | 227=>237 | n=>n,fun | 0=>6 | 6=>7 | n=>n⟩
theorem Tryd.lays157:Go.Proofs.Lays.n157 Tryd.prog Tryd.lays157_ren:={
 mixed:=by kernel_rfl
 f157:=Tryd.func180.trans (congrArg some (by kernel_rfl))
 f199:=Tryd.func195.trans (congrArg some (by kernel_rfl))
 f229:=Tryd.func194.trans (congrArg some (by kernel_rfl))
 f261:=Tryd.func202.trans (congrArg some (by kernel_rfl))
 f311:=Tryd.func204.trans (congrArg some (by kernel_rfl))
 f312:=Tryd.func205.trans (congrArg some (by kernel_rfl))
 t0:=Tryd.underlying0
 a0:=Tryd.isAgg0
 z0:=Tryd.sizeOf0
 v0:=Tryd.zeroValue0
 t3:=Tryd.underlying3
 a3:=Tryd.isAgg3
 z3:=Tryd.sizeOf3
 v3:=Tryd.zeroValue3
 t4:=Tryd.underlying4
 a4:=Tryd.isAgg4
 z4:=Tryd.sizeOf4
 v4:=Tryd.zeroValue4
 t5:=Tryd.underlying5
 a5:=Tryd.isAgg5
 z5:=Tryd.sizeOf5
 v5:=Tryd.zeroValue5
 t9:=Tryd.underlying9
 a9:=Tryd.isAgg9
 z9:=Tryd.sizeOf9
 v9:=Tryd.zeroValue9
 t21:=Tryd.underlying21
 a21:=Tryd.isAgg21
 z21:=Tryd.sizeOf21
 v21:=Tryd.zeroValue21
 t31:=Tryd.underlying36
 a31:=Tryd.isAgg36
 z31:=Tryd.sizeOf36
 v31:=Tryd.zeroValue36
 t40:=Tryd.underlying174
 a40:=Tryd.isAgg174
 z40:=Tryd.sizeOf174
 v40:=Tryd.zeroValue174
 t46:=Tryd.underlying168
 a46:=Tryd.isAgg168
 z46:=Tryd.sizeOf168
 v46:=Tryd.zeroValue168
 t49:=Tryd.underlying229
 a49:=Tryd.isAgg229
 z49:=Tryd.sizeOf229
 v49:=Tryd.zeroValue229
 t51:=Tryd.underlying183
 a51:=Tryd.isAgg183
 z51:=Tryd.sizeOf183
 v51:=Tryd.zeroValue183
 t119:=Tryd.underlying167
 a119:=Tryd.isAgg167
 z119:=Tryd.sizeOf167
 t141:=Tryd.underlying221
 a141:=Tryd.isAgg221
 z141:=Tryd.sizeOf221
 v141:=Tryd.zeroValue221
 t152:=Tryd.underlying217
 a152:=Tryd.isAgg217
 z152:=Tryd.sizeOf217
 v152:=Tryd.zeroValue217
 t154:=Tryd.underlying219
 a154:=Tryd.isAgg219
 z154:=Tryd.sizeOf219
 v154:=Tryd.zeroValue219
 t193:=Tryd.underlying225
 a193:=Tryd.isAgg225
 z193:=Tryd.sizeOf225
 v193:=Tryd.zeroValue225
 t194:=Tryd.underlying226
 a194:=Tryd.isAgg226
 z194:=Tryd.sizeOf226
 v194:=Tryd.zeroValue226
 t196:=Tryd.underlying228
 a196:=Tryd.isAgg228
 z196:=Tryd.sizeOf228
 v196:=Tryd.zeroValue228
 t198:=Tryd.underlying231
 a198:=Tryd.isAgg231
 z198:=Tryd.sizeOf231
 v198:=Tryd.zeroValue231
 t201:=Tryd.underlying234
 a201:=Tryd.isAgg234
 z201:=Tryd.sizeOf234
 v201:=Tryd.zeroValue234
 t226:=Tryd.underlying236
 a226:=Tryd.isAgg236
 z226:=Tryd.sizeOf236
 v226:=Tryd.zeroValue236
 t227:=Tryd.underlying237
 a227:=Tryd.isAgg237
 z227:=Tryd.sizeOf237
 v227:=Tryd.zeroValue237
 g0:=by kernel_rfl
 g6:=by kernel_rfl }
open Go.RowKit Go.Lib in
theorem Tryd.strings_Fields (s : ByteArray) (w : World) (hs : s.size < 4294967281) (hascii : ∀ (j : Nat) b, s.data.toList[j]? = some b → b.toNat < 128) (htab : Lib.TabIs Tryd.prog w "strings.asciiSpace" .u8 Lib.asciiSpaceTab) :
  Calls Tryd.prog 180 #[.string s] w fun e w' =>
   e=.returned (.slice (some ⟨w.heap.size,0,none⟩) (Lib.fields s.data.toList).length (Lib.fields s.data.toList).length)∧w'=w.alloc (.cells ((Lib.fields s.data.toList).map fun l=>Value.string ⟨l.toArray⟩).toArray 9):=Any.strings_Fields Tryd.lays157 (by kernel_rfl) (by kernel_rfl) s w hs hascii htab
def Tryd.lays199_ren:Go.Shelf.Ren:=⟨fun | 199=>195 | 261=>202 | 311=>204 | 312=>205 | n=>n,fun | 21=>21 | 4=>4 | 51=>183 | 141=>221 | 0=>0 | 196=>228 | 193=>225 | 3=>3 | 198=>231 | 49=>229 | 194=>226 | 201=>234 | 226=>236 | 46=>168 | 227=>237 | n=>n,fun | 6=>7 | n=>n⟩
def Tryd.lays197_ren:Go.Shelf.Ren:=⟨fun | 197=>84 | 260=>113 | n=>n,fun | 9=>9 | 21=>21 | 3=>3 | 4=>4 | 5=>5 | 105=>125 | 119=>167 | 0=>0 | 46=>168 | 139=>171 | 138=>170 | n=>n,fun | 3=>0 | 4=>1 | n=>n⟩
theorem Tryd.lays197:Go.Proofs.Lays.n197 Tryd.prog Tryd.lays197_ren:={
 mixed:=by kernel_rfl
 f197:=Tryd.func84.trans (congrArg some (by kernel_rfl))
 f260:=Tryd.func113.trans (congrArg some (by kernel_rfl))
 t0:=Tryd.underlying0
 a0:=Tryd.isAgg0
 z0:=Tryd.sizeOf0
 v0:=Tryd.zeroValue0
 t3:=Tryd.underlying3
 a3:=Tryd.isAgg3
 z3:=Tryd.sizeOf3
 v3:=Tryd.zeroValue3
 t4:=Tryd.underlying4
 a4:=Tryd.isAgg4
 z4:=Tryd.sizeOf4
 v4:=Tryd.zeroValue4
 t5:=Tryd.underlying5
 a5:=Tryd.isAgg5
 z5:=Tryd.sizeOf5
 v5:=Tryd.zeroValue5
 t9:=Tryd.underlying9
 a9:=Tryd.isAgg9
 z9:=Tryd.sizeOf9
 v9:=Tryd.zeroValue9
 t21:=Tryd.underlying21
 a21:=Tryd.isAgg21
 z21:=Tryd.sizeOf21
 v21:=Tryd.zeroValue21
 t46:=Tryd.underlying168
 a46:=Tryd.isAgg168
 z46:=Tryd.sizeOf168
 v46:=Tryd.zeroValue168
 t105:=Tryd.underlying125
 a105:=Tryd.isAgg125
 z105:=Tryd.sizeOf125
 v105:=Tryd.zeroValue125
 t119:=Tryd.underlying167
 a119:=Tryd.isAgg167
 z119:=Tryd.sizeOf167
 t138:=Tryd.underlying170
 a138:=Tryd.isAgg170
 z138:=Tryd.sizeOf170
 v138:=Tryd.zeroValue170
 t139:=Tryd.underlying171
 a139:=Tryd.isAgg171
 z139:=Tryd.sizeOf171
 v139:=Tryd.zeroValue171
 g3:=by kernel_rfl
 g4:=by kernel_rfl }
def Tryd.lays260_ren:Go.Shelf.Ren:=⟨fun | 260=>113 | n=>n,fun | 9=>9 | 21=>21 | 3=>3 | 4=>4 | 5=>5 | 119=>167 | 0=>0 | 46=>168 | 139=>171 | 138=>170 | n=>n,fun | 3=>0 | 4=>1 | n=>n⟩
theorem Tryd.lays260:Go.Proofs.Lays.n260 Tryd.prog Tryd.lays260_ren:={
 mixed:=by kernel_rfl
 f260:=Tryd.func113.trans (congrArg some (by kernel_rfl))
 t0:=Tryd.underlying0
 a0:=Tryd.isAgg0
 z0:=Tryd.sizeOf0
 v0:=Tryd.zeroValue0
 t3:=Tryd.underlying3
 a3:=Tryd.isAgg3
 z3:=Tryd.sizeOf3
 v3:=Tryd.zeroValue3
 t4:=Tryd.underlying4
 a4:=Tryd.isAgg4
 z4:=Tryd.sizeOf4
 v4:=Tryd.zeroValue4
 t5:=Tryd.underlying5
 a5:=Tryd.isAgg5
 z5:=Tryd.sizeOf5
 v5:=Tryd.zeroValue5
 t9:=Tryd.underlying9
 a9:=Tryd.isAgg9
 z9:=Tryd.sizeOf9
 v9:=Tryd.zeroValue9
 t21:=Tryd.underlying21
 a21:=Tryd.isAgg21
 z21:=Tryd.sizeOf21
 v21:=Tryd.zeroValue21
 t46:=Tryd.underlying168
 a46:=Tryd.isAgg168
 z46:=Tryd.sizeOf168
 v46:=Tryd.zeroValue168
 t119:=Tryd.underlying167
 a119:=Tryd.isAgg167
 z119:=Tryd.sizeOf167
 t138:=Tryd.underlying170
 a138:=Tryd.isAgg170
 z138:=Tryd.sizeOf170
 v138:=Tryd.zeroValue170
 t139:=Tryd.underlying171
 a139:=Tryd.isAgg171
 z139:=Tryd.sizeOf171
 v139:=Tryd.zeroValue171
 g3:=by kernel_rfl
 g4:=by kernel_rfl }
open Go.RowKit Go.Lib in
theorem Tryd.utf8_DecodeRuneInString (s:ByteArray) (w:World) (hT:Lib.Utf8Tabs 0 1 w) :
  Calls Tryd.prog 84 #[.string s] w fun e w'=>e=.returned (.tuple #[.int .i32 (Lib.decodeGo s).1,.int .i64 (Lib.decodeGo s).2])∧Below w.heap.size w w':=Any.utf8_DecodeRuneInString Tryd.lays197 s w hT
def Tryd.lays110_ren:Go.Shelf.Ren:=⟨fun | 110=>158 | 109=>174 | n=>n,fun | 31=>36 | 9=>9 | 4=>4 | 3=>3 | 0=>0 | n=>n,fun | n=>n⟩
theorem Tryd.lays110:Go.Proofs.Lays.n110 Tryd.prog Tryd.lays110_ren:={
 mixed:=by kernel_rfl
 f109:=Tryd.func174.trans (congrArg some (by kernel_rfl))
 f110:=Tryd.func158.trans (congrArg some (by kernel_rfl))
 t0:=Tryd.underlying0
 a0:=Tryd.isAgg0
 z0:=Tryd.sizeOf0
 v0:=Tryd.zeroValue0
 t3:=Tryd.underlying3
 a3:=Tryd.isAgg3
 z3:=Tryd.sizeOf3
 v3:=Tryd.zeroValue3
 t4:=Tryd.underlying4
 a4:=Tryd.isAgg4
 z4:=Tryd.sizeOf4
 v4:=Tryd.zeroValue4
 t9:=Tryd.underlying9
 a9:=Tryd.isAgg9
 z9:=Tryd.sizeOf9
 v9:=Tryd.zeroValue9
 t31:=Tryd.underlying36
 a31:=Tryd.isAgg36
 z31:=Tryd.sizeOf36
 v31:=Tryd.zeroValue36 }
open Go.Lib in
theorem Tryd.slices_Contains_string (b off n c:Nat) (zs:List ByteArray) (x:ByteArray) (w:World) (hz:n≤zs.length) (hbig:n≤9223372036854775807) (hc:∀ j,j < zs.length→w.cell? ⟨b,off+j,none⟩=some (.string (zs.getD j ByteArray.empty))) :
  Calls Tryd.prog 158 #[.slice (some ⟨b,off,none⟩) n c,.string x] w fun e w'=>e=.returned (.bool (Lib.containsS (zs.take n) x))∧w'=w:=Any.slices_Contains_string Tryd.lays110 b off n c zs x w hz hbig hc
end Go.Proofs
namespace Go.Proofs.YtmlmjopfbohglaaDoor
open Go.RowKit
theorem ret_bool {a b:Bool} (h:a=b):Ending.returned (.bool a)=.returned (.bool b):=by rw [h]
theorem Tryd.infoRune:(Tryd.prog.info? 128).map (fun i=>(i.zero,i.size,i.bytes))=some (some (.agg #[.int .i32 0,.int .i64 0]),2,16):=by kernel_rfl
def EachPost (s:ByteArray) (w:World) (e:Ending) (w':World):Prop :=
 ∃ v,e=.returned (.tuple #[v,.int .i64 (each s).2])∧w'.ownsRow w.heap.size 128 2 v (each s).1.length (flat (each s).1)∧Below w.heap.size w w'
theorem ownsRow_iterAt {w:World} {base:Nat} {e:TypeId} {size:Nat} {v:Value} {n:Nat} {xs:List Value} (h:w.ownsRow base e size v n xs) {k:Nat} (hk:k < base) (s:ByteArray) (p:Nat):(w.iterAt k s p).ownsRow base e size v n xs:=by
 obtain ⟨h1,h2⟩:=h
 refine ⟨h1,?_⟩
 rcases h2 with h2 | ⟨g,cap,cur,a,b,c,d⟩
 ·exact .inl h2
 ·exact .inr ⟨g,cap,cur,a,b,by rw [Lib.iterAt_other _ _ _ _ _ (by omega)];exact c,d⟩
theorem ownsRow_base {w:World} {base base':Nat} {e:TypeId} {size:Nat} {v:Value} {n:Nat} {xs:List Value} (h:w.ownsRow base e size v n xs) (hb:base'≤base):w.ownsRow base' e size v n xs:=by
 obtain ⟨h1,h2⟩:=h
 refine ⟨h1,?_⟩
 rcases h2 with h2 | ⟨g,cap,cur,a,b,c⟩
 ·exact .inl h2
 ·exact .inr ⟨g,cap,cur,a,Nat.le_trans hb b,c⟩
theorem iterPos_of {w:World} {k:Nat} {s:ByteArray} {p:Nat} (h:w.heap[k]? = some (.stringIter s p)):w.iterPos k=p:=by simp [World.iterPos,h]
theorem cell_two_new (w:World) (a b:Value) (t:TypeId):∀ j u,[a,b][j]? = some u→(w.alloc (.cells #[a,b] t)).cell? ((⟨w.heap.size,0,none⟩:Addr).add j)=some u:=by
 intro j u hj
 match j,hj with
 | 0,hj=>simp at hj;subst hj;simp [Addr.add]
 | 1,hj=>simp at hj;subst hj;simp [Addr.add]
 | j+2,hj=>simp at hj
theorem own_below {w w':World} {B e size n:Nat} {v:Value} {xs:List Value} (h:w.ownsRow B e size v n xs) (hb:Below w.heap.size w w'):w'.ownsRow B e size v n xs:=by
 obtain ⟨h1,h2⟩:=h
 refine ⟨h1,?_⟩
 rcases h2 with h2 | ⟨g,cap,cur,a,b,c,d⟩
 ·exact .inl h2
 ·exact .inr ⟨g,cap,cur,a,b,by rw [hb.block g (lt_of_block c)];exact c,d⟩
def wrdsV (b:Nat):Value:=.slice (some ⟨b,0,none⟩) 17 17
def wrdsCells:Array Value:=(wrds.map Value.string).toArray
theorem var_below {w w':World} {name:String} {cs:Array Value} (h:w.var? Tryd.prog name=some cs) (hb:Below w.heap.size w w'):w'.var? Tryd.prog name=some cs:=by
 unfold World.var? at h ⊢
 rcases hg:Tryd.prog.globalNamed name with _ | g
 ·rw [hg] at h;cases h
 ·rw [hg] at h
  simp only [Option.bind_some] at h ⊢
  rcases ho:w.heap[g]? with _ | o
  ·rw [ho] at h;cases h
  ·have hlt:g < w.heap.size:=(Array.getElem?_eq_some_iff.1 ho).1
   rw [hb.block g hlt]
   exact h
theorem bcell {W w1:World} (hb:Below W.heap.size W w1):(∀ b o,b < W.heap.size→w1.cell? ⟨b,o,none⟩=W.cell? ⟨b,o,none⟩)∧(∀ b o,b < W.heap.size→w1.frozen? ⟨b,o,none⟩=W.frozen? ⟨b,o,none⟩) :=
 ⟨fun b o h=>hb.cell (p:=⟨b,o,none⟩) h,fun b o h=>hb.frozen (p:=⟨b,o,none⟩) h⟩
theorem wrds_cells (w:World):∀ j,j < 17→(w.alloc (.cells wrdsCells 9)).cell? ⟨w.heap.size,j,none⟩=some (.string (wrds.getD j ByteArray.empty)):=by
 intro j hj
 rw [cell_of_row (w.alloc (.cells wrdsCells 9)) w.heap.size j wrdsCells 9 (0,0) (by show (w.heap.push _)[w.heap.size]? = _;simp)]
 unfold wrdsCells
 simp only [List.getElem?_toArray,List.getElem?_map]
 rw [List.getElem?_eq_getElem (show j < wrds.length from hj),List.getD_eq_getElem?_getD,List.getElem?_eq_getElem (show j < wrds.length from hj)]
 rfl
def Blk4 (w:World) (B:Nat) (a b c d:Value):Prop:=w.heap[B]? = some (.cells #[a,b,c,d] 73)
theorem blk4 {w:World} {B:Nat} {a b c d:Value} (h:Blk4 w B a b c d):(w.cell? ⟨B,0,none⟩=some a∧w.cell? ⟨B,1,none⟩=some b∧w.cell? ⟨B,2,none⟩=some c∧w.cell? ⟨B,3,none⟩=some d)∧(w.frozen? ⟨B,0,none⟩=false∧w.frozen? ⟨B,1,none⟩=false∧w.frozen? ⟨B,2,none⟩=false∧w.frozen? ⟨B,3,none⟩=false):=by
 unfold Blk4 at h
 refine ⟨⟨?_,?_,?_,?_⟩,⟨?_,?_,?_,?_⟩⟩
 all_goals first | (rw [cell_of_row w B _ _ _ _ h];rfl) | simp [World.frozen?,h]
theorem blk4_new (w:World) (a b c d:Value):Blk4 (w.alloc (.cells #[a,b,c,d] 73)) w.heap.size a b c d:=by
 unfold Blk4;show (w.heap.push _)[w.heap.size]? = _;simp
theorem iter_heap1 (w:World) (o:Obj) (s:ByteArray) (p:Nat):((w.alloc o).iter s p).heap[w.heap.size+1]? = some (.stringIter s p):=by
 have h:=World.iter_heap (w.alloc o) s p
 rw [show (w.alloc o).heap.size=w.heap.size+1 by simp] at h
 exact h
theorem Blk4.iter {w:World} {B:Nat} {a b c d:Value} (h:Blk4 w B a b c d) (s:ByteArray) (p:Nat):Blk4 (w.iter s p) B a b c d:=by
 unfold Blk4 at *
 have hlt:B < w.heap.size:=(Array.getElem?_eq_some_iff.1 h).1
 show (w.heap.push _)[B]? = _
 rw [Array.getElem?_push_lt hlt,← h,Array.getElem?_eq_getElem hlt]
theorem Blk4.iterAt {w:World} {B:Nat} {a b c d:Value} (h:Blk4 w B a b c d) (k:Nat) (hk:B≠k) (s:ByteArray) (p:Nat):Blk4 (w.iterAt k s p) B a b c d:=by
 unfold Blk4 at *
 rw [Lib.iterAt_other _ _ _ _ _ hk];exact h
theorem Blk4.lt {w:World} {B:Nat} {a b c d:Value} (h:Blk4 w B a b c d):B < w.heap.size:=(Array.getElem?_eq_some_iff.1 h).1
theorem Blk4.below {w w':World} {B:Nat} {a b c d:Value} (h:Blk4 w B a b c d) (hb:Below w.heap.size w w'):Blk4 w' B a b c d:=by
 unfold Blk4 at *
 rw [hb.block B (Array.getElem?_eq_some_iff.1 h).1];exact h
def numAt (s:ByteArray) (b pos:Nat) (a:Int):Prop:=(eachF s b pos).2 = -1∧(∀ q ∈ (eachF s b pos).1,dgB q.1=true)∧numV a (eachF s b pos).1=numV 0 (each s).1
theorem numAt_start (s:ByteArray) (h:(each s).2 = -1) (hd:∀ q ∈ (each s).1,dgB q.1=true):numAt s s.size 0 0:=⟨h,hd,rfl⟩
theorem numAt_one {s:ByteArray} {b pos:Nat} {a:Int} (hp:pos < s.size) (h:numAt s (b+1) pos a) (h0:0≤a) (h9:a≤99) :
  (48≤((Utf8.decode s pos).1:Int)∧((Utf8.decode s pos).1:Int)≤57)∧numAt s b (pos+(Utf8.decode s pos).2) (10 * a+(((Utf8.decode s pos).1:Int) - 48)):=by
 have hb:¬ badAt s pos:=by
  intro hb
  have:=h.1
  rw [eachF_bad _ _ _ hp hb] at this;simp only [] at this;omega
 unfold numAt at h ⊢
 rw [eachF_one _ _ _ hp hb] at h
 have hq:=h.2.1 _ (List.mem_cons_self ..)
 refine ⟨(dgB_iff _).1 hq,h.1,fun q hq=>h.2.1 q (List.mem_cons_of_mem _ hq),?_⟩
 rw [← h.2.2]
 exact (numV_one _ _ a h0 h9 hq).symm
theorem numAt_big {s:ByteArray} {b pos:Nat} {a:Int} (h:numAt s b pos a) (h9:99 < a):99 < numV 0 (each s).1:=by
 rw [← h.2.2];exact numV_big _ _ h9
theorem numAt_end {s:ByteArray} {b pos:Nat} {a:Int} (hp:¬ pos < s.size) (h:numAt s b pos a):a=numV 0 (each s).1:=by
 have:=h.2.2
 rw [eachF_end _ _ _ hp] at this
 exact this
def numOut (s:ByteArray):Value × Bool :=
 if numV 0 (each s).1≤99∧¬ (s.get! 0=48∧1 < s.size) then (.agg #[.int .i64 2,.string ⟨#[]⟩,.int .i64 (numV 0 (each s).1),.int .i64 0],true)
 else (.agg #[.int .i64 0,.string ⟨#[]⟩,.int .i64 0,.int .i64 0],false)
def NumPost (s:ByteArray) (w:World) (e:Ending) (w':World):Prop:=e=.returned (.tuple #[(numOut s).1,.bool (numOut s).2])∧Below w.heap.size w w'
theorem numOut_no {s:ByteArray} (h:s.get! 0=48∧1 < s.size):numOut s=(.agg #[.int .i64 0,.string ⟨#[]⟩,.int .i64 0,.int .i64 0],false):=by
 unfold numOut;rw [if_neg (fun x=>x.2 h)]
theorem numOut_big {s:ByteArray} (h:99 < numV 0 (each s).1):numOut s=(.agg #[.int .i64 0,.string ⟨#[]⟩,.int .i64 0,.int .i64 0],false):=by
 unfold numOut;rw [if_neg (fun x=>by omega)]
theorem numOut_ok {s:ByteArray} {a:Int} (h:a=numV 0 (each s).1) (h9:a≤99) (hn:¬ (s.get! 0=48∧1 < s.size)):numOut s=(.agg #[.int .i64 2,.string ⟨#[]⟩,.int .i64 a,.int .i64 0],true):=by
 unfold numOut;rw [if_pos ⟨by omega,hn⟩,← h]
theorem NumPost.mk {s:ByteArray} {w w':World} {v:Value} {b:Bool} (h:numOut s=(v,b)) (hb:Below w.heap.size w w'):NumPost s w (.returned (.tuple #[v,.bool b])) w':=by
 unfold NumPost;rw [h];exact ⟨rfl,hb⟩
end Go.Proofs.YtmlmjopfbohglaaDoor
