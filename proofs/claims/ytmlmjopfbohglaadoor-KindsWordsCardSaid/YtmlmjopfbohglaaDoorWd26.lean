/- Parts of the proof: RpE. -/
import Derived.Test.YtmlmjopfbohglaaDoorWd25
namespace Go.Proofs.YtmlmjopfbohglaaDoor
open Go.RowKit
def OutR (B:Nat) (S:Nat→Prop) (w':World) (T:Nd):Res Nd→Prop
 | .ok t l=>PrS w' B (.good l)∧T.Good S w'∧T.strip=t
 | .bad a e=>PrS w' B (.bad a e)
def PostR (B:Nat) (w:World) (r:Res Nd) (e:Ending) (w':World):Prop:=∃ T:Nd,e=.returned (.agg #[.string T.op,.string T.name,.int .i64 T.n,.int .i64 T.pos,.slice T.a T.kids.len T.cap])∧Kp B w w'∧OutR B (fun b=>w.heap.size≤b) w' T r
def OutRL (B:Nat) (S:Nat→Prop) (w':World) (a:Option Addr) (F:Fo):Res (List Nd)→Prop
 | .ok ts l=>PrS w' B (.good l)∧(∀ op name n pos cap,Nd.Good S w' ⟨op,name,n,pos,a,cap,F⟩)∧F.strip=Fo.ofL ts
 | .bad p e=>PrS w' B (.bad p e)
def PostRL (B:Nat) (w:World) (r:Res (List Nd)) (e:Ending) (w':World):Prop:=∃ (a:Option Addr) (F:Fo) (cap:Nat),e=.returned (.slice a F.len cap)∧Kp B w w'∧OutRL B (fun b=>w.heap.size≤b) w' a F r
set_option maxRecDepth 100000 in
set_option maxHeartbeats 16000000 in
theorem rpart_var (br:Bool) (l:List Tok) (w:World) (B:Nat) (hS:PrS w B (.good l)) (hk:((hd l).kind == 1)=true) (hw:((wrd l.tail).toList == (ByteArray.mk #[43]).toList)=false):Calls Tryd.prog 193 #[.pointer (some ⟨B,0,none⟩),.bool br] w (PostR B w (.ok (mkN tVarB (hd l).text 0 (hd l).pos []) l.tail)):=by
  have hk4:((hd l).kind == 4)=false:=by have h:(hd l).kind=1:=(by simpa using hk);rw [h];rfl
  have hc5:=cellsNode
  have hc4:=cellsTok
  have hB:=hS.lt
  have q3:=tok_f3
  have q0:=tok_f0
  have q2:=tok_f2
  have q1:=tok_f1
  have HS:=Lib.hid hS
  clear hS
  go_enter Tryd.func193,Tryd.ntmps193
  have HC1:=Lib.hid (rnow_g l (w.alloc (boxOf ⟨#[]⟩ ⟨#[]⟩ 0 0 none 0 0)) B (HS.out.alloc _))
  go_wp2_with fail
  refine HC1.out.mono ?_
  rintro e1 w1 ⟨rfl,hb1⟩
  have HK1:=Lib.hid (((Kp.refl B w).alloc _).below hb1)
  have HR1:=Lib.hid ((HS.out.alloc _).below hb1)
  have HBZ1:=Lib.hid ((hb1.block _ (lt_heap (new_at w (boxOf ⟨#[]⟩ ⟨#[]⟩ 0 0 none 0 0)))).trans (new_at w (boxOf ⟨#[]⟩ ⟨#[]⟩ 0 0 none 0 0)))
  have hzZ1:=lt_heap HBZ1.out
  clear hb1
  obtain ⟨⟨tT0,tT1,tT2,tT3⟩,tfT0,tfT1,tfT2,tfT3⟩:=tok_cells (new_at w1 (tokBox (hd l).kind (hd l).text (hd l).n (hd l).pos))
  have HC2:=Lib.hid (rnext_g l (w1.alloc (tokBox (hd l).kind (hd l).text (hd l).n (hd l).pos)) B hk4 (HR1.out.alloc _))
  go_wp2_with fail
  refine HC2.out.mono ?_
  rintro e2 w2 ⟨rfl,hk2,hr2⟩
  have HK2:=Lib.hid ((HK1.out.alloc _).trans hk2)
  have HR2:=Lib.hid hr2
  have HBZ2:=Lib.hid (hk2.blk ((Below.heap_alloc _ _ _ (lt_heap HBZ1.out)).trans HBZ1.out) (by omega))
  have hzZ2:=lt_heap HBZ2.out
  have HBT2:=Lib.hid (hk2.blk (new_at w1 (tokBox (hd l).kind (hd l).text (hd l).n (hd l).pos)) (by omega))
  have hzT2:=lt_heap HBT2.out
  clear hk2
  obtain ⟨⟨tT0,tT1,tT2,tT3⟩,tfT0,tfT1,tfT2,tfT3⟩:=tok_cells HBT2.out
  have HC3:=Lib.hid (rtake_no l.tail ⟨#[43]⟩ (w2.alloc (boxOf tVarB (hd l).text 0 (hd l).pos none 0 0)) B hw (HR2.out.alloc _))
  go_wp2_with fail
  refine HC3.out.mono ?_
  rintro e3 w3 ⟨rfl,hk3,hr3⟩
  have HK3:=Lib.hid ((HK2.out.alloc _).trans hk3)
  have HR3:=Lib.hid hr3
  have HBZ3:=Lib.hid (hk3.blk ((Below.heap_alloc _ _ _ (lt_heap HBZ2.out)).trans HBZ2.out) (by omega))
  have hzZ3:=lt_heap HBZ3.out
  have HBT3:=Lib.hid (hk3.blk ((Below.heap_alloc _ _ _ (lt_heap HBT2.out)).trans HBT2.out) (by omega))
  have hzT3:=lt_heap HBT3.out
  have HBN3:=Lib.hid (hk3.blk (new_at w2 (boxOf tVarB (hd l).text 0 (hd l).pos none 0 0)) (by omega))
  have hzN3:=lt_heap HBN3.out
  clear hk3
  have hne1:¬ w.heap.size=w1.heap.size:=by omega
  have hme1:¬ w1.heap.size=w.heap.size:=by omega
  have hne2:¬ w.heap.size=w2.heap.size:=by omega
  have hme2:¬ w2.heap.size=w.heap.size:=by omega
  have hne3:¬ w1.heap.size=w2.heap.size:=by omega
  have hme3:¬ w2.heap.size=w1.heap.size:=by omega
  obtain ⟨bN0,bN1,bN2,bN3,bN4⟩:=box_cells HBN3.out
  obtain ⟨fN0,fN1,fN2,fN3,fN4⟩:=box_frozen HBN3.out
  obtain ⟨bZ0,bZ1,bZ2,bZ3,bZ4⟩:=box_cells HBZ3.out
  obtain ⟨fZ0,fZ1,fZ2,fZ3,fZ4⟩:=box_frozen HBZ3.out
  go_wp2_with fail
  refine ret_node (B:=w.heap.size) tVarB (hd l).text 0 (hd l).pos none 0 0 Tryd.results193 rfl rfl (by repeat (with_reducible first | exact node_set HBZ3.out _ _ _ _ _ _ _ | refine (Below.heap_alloc _ _ _ (by simp;omega)).trans ?_)) ⟨⟨tVarB,(hd l).text,0,(hd l).pos,none,0,.nil⟩,rfl,(by repeat (with_reducible first | exact HK3.out | refine Kp.alloc ?_ _ | refine Kp.set ?_ (Nat.le_refl _) _)),?_⟩
  exact ⟨(by repeat (with_reducible first | exact HR3.out | refine PrS.alloc ?_ _ | refine PrS.set ?_ hB _)),Nd.Good.leaf _ _ _ _ _ _ _ _,rfl⟩
set_option maxRecDepth 100000 in
set_option maxHeartbeats 16000000 in
theorem rpart_plus (br:Bool) (l:List Tok) (w:World) (B:Nat) (hS:PrS w B (.good l)) (hk:((hd l).kind == 1)=true) (hw:((wrd l.tail).toList == (ByteArray.mk #[43]).toList)=true) (hk2:((hd l.tail.tail).kind == 2)=true) (hn:((hd l.tail.tail).n == 0)=false):Calls Tryd.prog 193 #[.pointer (some ⟨B,0,none⟩),.bool br] w (PostR B w (.ok (mkN tPlusB emp0 (hd l.tail.tail).n (hd l).pos [mkN tVarB (hd l).text 0 (hd l).pos []]) l.tail.tail.tail)):=by
  have hk24:((hd l.tail.tail).kind == 4)=false:=by have h:(hd l.tail.tail).kind=2:=(by simpa using hk2);rw [h];rfl
  have hk2n:((hd l.tail.tail).kind != 2)=false:=by rw [bne,hk2];rfl
  have hk4:((hd l).kind == 4)=false:=by have h:(hd l).kind=1:=(by simpa using hk);rw [h];rfl
  have hc5:=cellsNode
  have hc4:=cellsTok
  have hB:=hS.lt
  have q3:=tok_f3
  have q0:=tok_f0
  have q2:=tok_f2
  have q1:=tok_f1
  have HS:=Lib.hid hS
  clear hS
  go_enter Tryd.func193,Tryd.ntmps193
  have HC1:=Lib.hid (rnow_g l (w.alloc (boxOf ⟨#[]⟩ ⟨#[]⟩ 0 0 none 0 0)) B (HS.out.alloc _))
  go_wp2_with fail
  refine HC1.out.mono ?_
  rintro e1 w1 ⟨rfl,hb1⟩
  have HK1:=Lib.hid (((Kp.refl B w).alloc _).below hb1)
  have HR1:=Lib.hid ((HS.out.alloc _).below hb1)
  have HBZ1:=Lib.hid ((hb1.block _ (lt_heap (new_at w (boxOf ⟨#[]⟩ ⟨#[]⟩ 0 0 none 0 0)))).trans (new_at w (boxOf ⟨#[]⟩ ⟨#[]⟩ 0 0 none 0 0)))
  have hzZ1:=lt_heap HBZ1.out
  clear hb1
  obtain ⟨⟨tT0,tT1,tT2,tT3⟩,tfT0,tfT1,tfT2,tfT3⟩:=tok_cells (new_at w1 (tokBox (hd l).kind (hd l).text (hd l).n (hd l).pos))
  have HC2:=Lib.hid (rnext_g l (w1.alloc (tokBox (hd l).kind (hd l).text (hd l).n (hd l).pos)) B hk4 (HR1.out.alloc _))
  go_wp2_with fail
  refine HC2.out.mono ?_
  rintro e2 w2 ⟨rfl,hk2,hr2⟩
  have HK2:=Lib.hid ((HK1.out.alloc _).trans hk2)
  have HR2:=Lib.hid hr2
  have HBZ2:=Lib.hid (hk2.blk ((Below.heap_alloc _ _ _ (lt_heap HBZ1.out)).trans HBZ1.out) (by omega))
  have hzZ2:=lt_heap HBZ2.out
  have HBT2:=Lib.hid (hk2.blk (new_at w1 (tokBox (hd l).kind (hd l).text (hd l).n (hd l).pos)) (by omega))
  have hzT2:=lt_heap HBT2.out
  clear hk2
  obtain ⟨⟨tT0,tT1,tT2,tT3⟩,tfT0,tfT1,tfT2,tfT3⟩:=tok_cells HBT2.out
  have HC3:=Lib.hid (rtake_yes l.tail ⟨#[43]⟩ (w2.alloc (boxOf tVarB (hd l).text 0 (hd l).pos none 0 0)) B (by decide +kernel) hw (HR2.out.alloc _))
  go_wp2_with fail
  refine HC3.out.mono ?_
  rintro e3 w3 ⟨rfl,hk3,hr3⟩
  have HK3:=Lib.hid ((HK2.out.alloc _).trans hk3)
  have HR3:=Lib.hid hr3
  have HBZ3:=Lib.hid (hk3.blk ((Below.heap_alloc _ _ _ (lt_heap HBZ2.out)).trans HBZ2.out) (by omega))
  have hzZ3:=lt_heap HBZ3.out
  have HBT3:=Lib.hid (hk3.blk ((Below.heap_alloc _ _ _ (lt_heap HBT2.out)).trans HBT2.out) (by omega))
  have hzT3:=lt_heap HBT3.out
  have HBN3:=Lib.hid (hk3.blk (new_at w2 (boxOf tVarB (hd l).text 0 (hd l).pos none 0 0)) (by omega))
  have hzN3:=lt_heap HBN3.out
  clear hk3
  have HC4:=Lib.hid (rnow_g l.tail.tail w3 B HR3.out)
  go_wp2_with fail
  refine HC4.out.mono ?_
  rintro e4 w4 ⟨rfl,hb4⟩
  have HK4:=Lib.hid (HK3.out.below hb4)
  have HR4:=Lib.hid (HR3.out.below hb4)
  have HBZ4:=Lib.hid ((hb4.block _ (lt_heap HBZ3.out)).trans HBZ3.out)
  have hzZ4:=lt_heap HBZ4.out
  have HBT4:=Lib.hid ((hb4.block _ (lt_heap HBT3.out)).trans HBT3.out)
  have hzT4:=lt_heap HBT4.out
  have HBN4:=Lib.hid ((hb4.block _ (lt_heap HBN3.out)).trans HBN3.out)
  have hzN4:=lt_heap HBN4.out
  clear hb4
  obtain ⟨⟨tU0,tU1,tU2,tU3⟩,tfU0,tfU1,tfU2,tfU3⟩:=tok_cells (new_at w4 (tokBox (hd l.tail.tail).kind (hd l.tail.tail).text (hd l.tail.tail).n (hd l.tail.tail).pos))
  have HC5:=Lib.hid (rnext_g l.tail.tail (w4.alloc (tokBox (hd l.tail.tail).kind (hd l.tail.tail).text (hd l.tail.tail).n (hd l.tail.tail).pos)) B hk24 (HR4.out.alloc _))
  go_wp2_with fail
  refine HC5.out.mono ?_
  rintro e5 w5 ⟨rfl,hk5,hr5⟩
  have HK5:=Lib.hid ((HK4.out.alloc _).trans hk5)
  have HR5:=Lib.hid hr5
  have HBZ5:=Lib.hid (hk5.blk ((Below.heap_alloc _ _ _ (lt_heap HBZ4.out)).trans HBZ4.out) (by omega))
  have hzZ5:=lt_heap HBZ5.out
  have HBT5:=Lib.hid (hk5.blk ((Below.heap_alloc _ _ _ (lt_heap HBT4.out)).trans HBT4.out) (by omega))
  have hzT5:=lt_heap HBT5.out
  have HBN5:=Lib.hid (hk5.blk ((Below.heap_alloc _ _ _ (lt_heap HBN4.out)).trans HBN4.out) (by omega))
  have hzN5:=lt_heap HBN5.out
  have HBU5:=Lib.hid (hk5.blk (new_at w4 (tokBox (hd l.tail.tail).kind (hd l.tail.tail).text (hd l.tail.tail).n (hd l.tail.tail).pos)) (by omega))
  have hzU5:=lt_heap HBU5.out
  clear hk5
  have hne1:¬ w.heap.size=w1.heap.size:=by omega
  have hme1:¬ w1.heap.size=w.heap.size:=by omega
  have hne2:¬ w.heap.size=w2.heap.size:=by omega
  have hme2:¬ w2.heap.size=w.heap.size:=by omega
  have hne3:¬ w.heap.size=w4.heap.size:=by omega
  have hme3:¬ w4.heap.size=w.heap.size:=by omega
  have hne4:¬ w1.heap.size=w2.heap.size:=by omega
  have hme4:¬ w2.heap.size=w1.heap.size:=by omega
  have hne5:¬ w1.heap.size=w4.heap.size:=by omega
  have hme5:¬ w4.heap.size=w1.heap.size:=by omega
  have hne6:¬ w2.heap.size=w4.heap.size:=by omega
  have hme6:¬ w4.heap.size=w2.heap.size:=by omega
  obtain ⟨⟨tT0,tT1,tT2,tT3⟩,tfT0,tfT1,tfT2,tfT3⟩:=tok_cells HBT5.out
  obtain ⟨⟨tU0,tU1,tU2,tU3⟩,tfU0,tfU1,tfU2,tfU3⟩:=tok_cells HBU5.out
  obtain ⟨bN0,bN1,bN2,bN3,bN4⟩:=box_cells HBN5.out
  obtain ⟨fN0,fN1,fN2,fN3,fN4⟩:=box_frozen HBN5.out
  obtain ⟨bZ0,bZ1,bZ2,bZ3,bZ4⟩:=box_cells HBZ5.out
  obtain ⟨fZ0,fZ1,fZ2,fZ3,fZ4⟩:=box_frozen HBZ5.out
  go_wp2_with fail
  refine ret_node (B:=w.heap.size) tPlusB ⟨#[]⟩ (hd l.tail.tail).n (hd l).pos (some ⟨w5.heap.size,0,none⟩) 1 1 Tryd.results193 rfl rfl (by repeat (with_reducible first | exact node_set HBZ5.out _ _ _ _ _ _ _ | refine (Below.heap_alloc _ _ _ (by simp;omega)).trans ?_)) ⟨⟨tPlusB,⟨#[]⟩,(hd l.tail.tail).n,(hd l).pos,some ⟨w5.heap.size,0,none⟩,1,.cons tVarB (hd l).text 0 (hd l).pos none 0 .nil .nil⟩,rfl,(by repeat (with_reducible first | exact HK5.out | refine Kp.alloc ?_ _ | refine Kp.set ?_ (Nat.le_refl _) _)),?_⟩
  refine ⟨(by repeat (with_reducible first | exact HR5.out | refine PrS.alloc ?_ _ | refine PrS.set ?_ hB _)),?_,rfl⟩
  exact good1 (G:=w5.heap.size) (by show w.heap.size≤w5.heap.size;omega) (new_sets _ _ _ _ _ _ _ _) (T:=⟨tVarB,(hd l).text,0,(hd l).pos,none,0,.nil⟩) (Nd.Good.leaf _ _ _ _ _ _ _ _)
set_option maxRecDepth 100000 in
set_option maxHeartbeats 16000000 in
theorem rpart_kind (br:Bool) (l:List Tok) (w:World) (B:Nat) (hS:PrS w B (.good l)) (hk:((hd l).kind == 1)=true) (hw:((wrd l.tail).toList == (ByteArray.mk #[43]).toList)=true) (hk2:((hd l.tail.tail).kind == 2)=false):Calls Tryd.prog 193 #[.pointer (some ⟨B,0,none⟩),.bool br] w (PostR B w (.bad (hd l.tail.tail).pos 2)):=by
  have hk4:((hd l).kind == 4)=false:=by have h:(hd l).kind=1:=(by simpa using hk);rw [h];rfl
  have hc5:=cellsNode
  have hc4:=cellsTok
  have hB:=hS.lt
  have q3:=tok_f3
  have q0:=tok_f0
  have q2:=tok_f2
  have q1:=tok_f1
  have HS:=Lib.hid hS
  clear hS
  go_enter Tryd.func193,Tryd.ntmps193
  have HC1:=Lib.hid (rnow_g l (w.alloc (boxOf ⟨#[]⟩ ⟨#[]⟩ 0 0 none 0 0)) B (HS.out.alloc _))
  go_wp2_with fail
  refine HC1.out.mono ?_
  rintro e1 w1 ⟨rfl,hb1⟩
  have HK1:=Lib.hid (((Kp.refl B w).alloc _).below hb1)
  have HR1:=Lib.hid ((HS.out.alloc _).below hb1)
  have HBZ1:=Lib.hid ((hb1.block _ (lt_heap (new_at w (boxOf ⟨#[]⟩ ⟨#[]⟩ 0 0 none 0 0)))).trans (new_at w (boxOf ⟨#[]⟩ ⟨#[]⟩ 0 0 none 0 0)))
  have hzZ1:=lt_heap HBZ1.out
  clear hb1
  obtain ⟨⟨tT0,tT1,tT2,tT3⟩,tfT0,tfT1,tfT2,tfT3⟩:=tok_cells (new_at w1 (tokBox (hd l).kind (hd l).text (hd l).n (hd l).pos))
  have HC2:=Lib.hid (rnext_g l (w1.alloc (tokBox (hd l).kind (hd l).text (hd l).n (hd l).pos)) B hk4 (HR1.out.alloc _))
  go_wp2_with fail
  refine HC2.out.mono ?_
  rintro e2 w2 ⟨rfl,hk2,hr2⟩
  have HK2:=Lib.hid ((HK1.out.alloc _).trans hk2)
  have HR2:=Lib.hid hr2
  have HBZ2:=Lib.hid (hk2.blk ((Below.heap_alloc _ _ _ (lt_heap HBZ1.out)).trans HBZ1.out) (by omega))
  have hzZ2:=lt_heap HBZ2.out
  have HBT2:=Lib.hid (hk2.blk (new_at w1 (tokBox (hd l).kind (hd l).text (hd l).n (hd l).pos)) (by omega))
  have hzT2:=lt_heap HBT2.out
  clear hk2
  obtain ⟨⟨tT0,tT1,tT2,tT3⟩,tfT0,tfT1,tfT2,tfT3⟩:=tok_cells HBT2.out
  have HC3:=Lib.hid (rtake_yes l.tail ⟨#[43]⟩ (w2.alloc (boxOf tVarB (hd l).text 0 (hd l).pos none 0 0)) B (by decide +kernel) hw (HR2.out.alloc _))
  go_wp2_with fail
  refine HC3.out.mono ?_
  rintro e3 w3 ⟨rfl,hk3,hr3⟩
  have HK3:=Lib.hid ((HK2.out.alloc _).trans hk3)
  have HR3:=Lib.hid hr3
  have HBZ3:=Lib.hid (hk3.blk ((Below.heap_alloc _ _ _ (lt_heap HBZ2.out)).trans HBZ2.out) (by omega))
  have hzZ3:=lt_heap HBZ3.out
  have HBT3:=Lib.hid (hk3.blk ((Below.heap_alloc _ _ _ (lt_heap HBT2.out)).trans HBT2.out) (by omega))
  have hzT3:=lt_heap HBT3.out
  have HBN3:=Lib.hid (hk3.blk (new_at w2 (boxOf tVarB (hd l).text 0 (hd l).pos none 0 0)) (by omega))
  have hzN3:=lt_heap HBN3.out
  clear hk3
  have HC4:=Lib.hid (rnow_g l.tail.tail w3 B HR3.out)
  go_wp2_with fail
  refine HC4.out.mono ?_
  rintro e4 w4 ⟨rfl,hb4⟩
  have HK4:=Lib.hid (HK3.out.below hb4)
  have HR4:=Lib.hid (HR3.out.below hb4)
  have HBZ4:=Lib.hid ((hb4.block _ (lt_heap HBZ3.out)).trans HBZ3.out)
  have hzZ4:=lt_heap HBZ4.out
  have HBT4:=Lib.hid ((hb4.block _ (lt_heap HBT3.out)).trans HBT3.out)
  have hzT4:=lt_heap HBT4.out
  have HBN4:=Lib.hid ((hb4.block _ (lt_heap HBN3.out)).trans HBN3.out)
  have hzN4:=lt_heap HBN4.out
  clear hb4
  obtain ⟨⟨tU0,tU1,tU2,tU3⟩,tfU0,tfU1,tfU2,tfU3⟩:=tok_cells (new_at w4 (tokBox (hd l.tail.tail).kind (hd l.tail.tail).text (hd l.tail.tail).n (hd l.tail.tail).pos))
  have HC5:=Lib.hid (rfail_g l.tail.tail (hd l.tail.tail).pos 2 (w4.alloc (tokBox (hd l.tail.tail).kind (hd l.tail.tail).text (hd l.tail.tail).n (hd l.tail.tail).pos)) B rfl (HR4.out.alloc _))
  go_wp2_with fail
  refine HC5.out.mono ?_
  rintro e5 w5 ⟨rfl,hk5,hr5⟩
  have HK5:=Lib.hid ((HK4.out.alloc _).trans hk5)
  have HR5:=Lib.hid hr5
  have HBZ5:=Lib.hid (hk5.blk ((Below.heap_alloc _ _ _ (lt_heap HBZ4.out)).trans HBZ4.out) (by omega))
  have hzZ5:=lt_heap HBZ5.out
  have HBT5:=Lib.hid (hk5.blk ((Below.heap_alloc _ _ _ (lt_heap HBT4.out)).trans HBT4.out) (by omega))
  have hzT5:=lt_heap HBT5.out
  have HBN5:=Lib.hid (hk5.blk ((Below.heap_alloc _ _ _ (lt_heap HBN4.out)).trans HBN4.out) (by omega))
  have hzN5:=lt_heap HBN5.out
  have HBU5:=Lib.hid (hk5.blk (new_at w4 (tokBox (hd l.tail.tail).kind (hd l.tail.tail).text (hd l.tail.tail).n (hd l.tail.tail).pos)) (by omega))
  have hzU5:=lt_heap HBU5.out
  clear hk5
  have hne1:¬ w.heap.size=w1.heap.size:=by omega
  have hme1:¬ w1.heap.size=w.heap.size:=by omega
  have hne2:¬ w.heap.size=w2.heap.size:=by omega
  have hme2:¬ w2.heap.size=w.heap.size:=by omega
  have hne3:¬ w.heap.size=w4.heap.size:=by omega
  have hme3:¬ w4.heap.size=w.heap.size:=by omega
  have hne4:¬ w1.heap.size=w2.heap.size:=by omega
  have hme4:¬ w2.heap.size=w1.heap.size:=by omega
  have hne5:¬ w1.heap.size=w4.heap.size:=by omega
  have hme5:¬ w4.heap.size=w1.heap.size:=by omega
  have hne6:¬ w2.heap.size=w4.heap.size:=by omega
  have hme6:¬ w4.heap.size=w2.heap.size:=by omega
  obtain ⟨bN0,bN1,bN2,bN3,bN4⟩:=box_cells HBN5.out
  obtain ⟨fN0,fN1,fN2,fN3,fN4⟩:=box_frozen HBN5.out
  obtain ⟨bZ0,bZ1,bZ2,bZ3,bZ4⟩:=box_cells HBZ5.out
  obtain ⟨fZ0,fZ1,fZ2,fZ3,fZ4⟩:=box_frozen HBZ5.out
  go_wp2_with fail
  refine ret_node (B:=w.heap.size) tVarB (hd l).text 0 (hd l).pos none 0 0 Tryd.results193 rfl rfl (by repeat (with_reducible first | exact node_set HBZ5.out _ _ _ _ _ _ _ | refine (Below.heap_alloc _ _ _ (by simp;omega)).trans ?_)) ⟨⟨tVarB,(hd l).text,0,(hd l).pos,none,0,.nil⟩,rfl,(by repeat (with_reducible first | exact HK5.out | refine Kp.alloc ?_ _ | refine Kp.set ?_ (Nat.le_refl _) _)),?_⟩
  show PrS _ B (.bad _ 2)
  exact (by repeat (with_reducible first | exact HR5.out | refine PrS.alloc ?_ _ | refine PrS.set ?_ hB _))
set_option maxRecDepth 100000 in
set_option maxHeartbeats 16000000 in
theorem rpart_zero (br:Bool) (l:List Tok) (w:World) (B:Nat) (hS:PrS w B (.good l)) (hk:((hd l).kind == 1)=true) (hw:((wrd l.tail).toList == (ByteArray.mk #[43]).toList)=true) (hk2:((hd l.tail.tail).kind == 2)=true) (hn:((hd l.tail.tail).n == 0)=true):Calls Tryd.prog 193 #[.pointer (some ⟨B,0,none⟩),.bool br] w (PostR B w (.bad (hd l.tail.tail).pos 2)):=by
  have hk2n:((hd l.tail.tail).kind != 2)=false:=by rw [bne,hk2];rfl
  have hk4:((hd l).kind == 4)=false:=by have h:(hd l).kind=1:=(by simpa using hk);rw [h];rfl
  have hc5:=cellsNode
  have hc4:=cellsTok
  have hB:=hS.lt
  have q3:=tok_f3
  have q0:=tok_f0
  have q2:=tok_f2
  have q1:=tok_f1
  have HS:=Lib.hid hS
  clear hS
  go_enter Tryd.func193,Tryd.ntmps193
  have HC1:=Lib.hid (rnow_g l (w.alloc (boxOf ⟨#[]⟩ ⟨#[]⟩ 0 0 none 0 0)) B (HS.out.alloc _))
  go_wp2_with fail
  refine HC1.out.mono ?_
  rintro e1 w1 ⟨rfl,hb1⟩
  have HK1:=Lib.hid (((Kp.refl B w).alloc _).below hb1)
  have HR1:=Lib.hid ((HS.out.alloc _).below hb1)
  have HBZ1:=Lib.hid ((hb1.block _ (lt_heap (new_at w (boxOf ⟨#[]⟩ ⟨#[]⟩ 0 0 none 0 0)))).trans (new_at w (boxOf ⟨#[]⟩ ⟨#[]⟩ 0 0 none 0 0)))
  have hzZ1:=lt_heap HBZ1.out
  clear hb1
  obtain ⟨⟨tT0,tT1,tT2,tT3⟩,tfT0,tfT1,tfT2,tfT3⟩:=tok_cells (new_at w1 (tokBox (hd l).kind (hd l).text (hd l).n (hd l).pos))
  have HC2:=Lib.hid (rnext_g l (w1.alloc (tokBox (hd l).kind (hd l).text (hd l).n (hd l).pos)) B hk4 (HR1.out.alloc _))
  go_wp2_with fail
  refine HC2.out.mono ?_
  rintro e2 w2 ⟨rfl,hk2,hr2⟩
  have HK2:=Lib.hid ((HK1.out.alloc _).trans hk2)
  have HR2:=Lib.hid hr2
  have HBZ2:=Lib.hid (hk2.blk ((Below.heap_alloc _ _ _ (lt_heap HBZ1.out)).trans HBZ1.out) (by omega))
  have hzZ2:=lt_heap HBZ2.out
  have HBT2:=Lib.hid (hk2.blk (new_at w1 (tokBox (hd l).kind (hd l).text (hd l).n (hd l).pos)) (by omega))
  have hzT2:=lt_heap HBT2.out
  clear hk2
  obtain ⟨⟨tT0,tT1,tT2,tT3⟩,tfT0,tfT1,tfT2,tfT3⟩:=tok_cells HBT2.out
  have HC3:=Lib.hid (rtake_yes l.tail ⟨#[43]⟩ (w2.alloc (boxOf tVarB (hd l).text 0 (hd l).pos none 0 0)) B (by decide +kernel) hw (HR2.out.alloc _))
  go_wp2_with fail
  refine HC3.out.mono ?_
  rintro e3 w3 ⟨rfl,hk3,hr3⟩
  have HK3:=Lib.hid ((HK2.out.alloc _).trans hk3)
  have HR3:=Lib.hid hr3
  have HBZ3:=Lib.hid (hk3.blk ((Below.heap_alloc _ _ _ (lt_heap HBZ2.out)).trans HBZ2.out) (by omega))
  have hzZ3:=lt_heap HBZ3.out
  have HBT3:=Lib.hid (hk3.blk ((Below.heap_alloc _ _ _ (lt_heap HBT2.out)).trans HBT2.out) (by omega))
  have hzT3:=lt_heap HBT3.out
  have HBN3:=Lib.hid (hk3.blk (new_at w2 (boxOf tVarB (hd l).text 0 (hd l).pos none 0 0)) (by omega))
  have hzN3:=lt_heap HBN3.out
  clear hk3
  have HC4:=Lib.hid (rnow_g l.tail.tail w3 B HR3.out)
  go_wp2_with fail
  refine HC4.out.mono ?_
  rintro e4 w4 ⟨rfl,hb4⟩
  have HK4:=Lib.hid (HK3.out.below hb4)
  have HR4:=Lib.hid (HR3.out.below hb4)
  have HBZ4:=Lib.hid ((hb4.block _ (lt_heap HBZ3.out)).trans HBZ3.out)
  have hzZ4:=lt_heap HBZ4.out
  have HBT4:=Lib.hid ((hb4.block _ (lt_heap HBT3.out)).trans HBT3.out)
  have hzT4:=lt_heap HBT4.out
  have HBN4:=Lib.hid ((hb4.block _ (lt_heap HBN3.out)).trans HBN3.out)
  have hzN4:=lt_heap HBN4.out
  clear hb4
  obtain ⟨⟨tU0,tU1,tU2,tU3⟩,tfU0,tfU1,tfU2,tfU3⟩:=tok_cells (new_at w4 (tokBox (hd l.tail.tail).kind (hd l.tail.tail).text (hd l.tail.tail).n (hd l.tail.tail).pos))
  have HC5:=Lib.hid (rfail_g l.tail.tail (hd l.tail.tail).pos 2 (w4.alloc (tokBox (hd l.tail.tail).kind (hd l.tail.tail).text (hd l.tail.tail).n (hd l.tail.tail).pos)) B rfl (HR4.out.alloc _))
  go_wp2_with fail
  refine HC5.out.mono ?_
  rintro e5 w5 ⟨rfl,hk5,hr5⟩
  have HK5:=Lib.hid ((HK4.out.alloc _).trans hk5)
  have HR5:=Lib.hid hr5
  have HBZ5:=Lib.hid (hk5.blk ((Below.heap_alloc _ _ _ (lt_heap HBZ4.out)).trans HBZ4.out) (by omega))
  have hzZ5:=lt_heap HBZ5.out
  have HBT5:=Lib.hid (hk5.blk ((Below.heap_alloc _ _ _ (lt_heap HBT4.out)).trans HBT4.out) (by omega))
  have hzT5:=lt_heap HBT5.out
  have HBN5:=Lib.hid (hk5.blk ((Below.heap_alloc _ _ _ (lt_heap HBN4.out)).trans HBN4.out) (by omega))
  have hzN5:=lt_heap HBN5.out
  have HBU5:=Lib.hid (hk5.blk (new_at w4 (tokBox (hd l.tail.tail).kind (hd l.tail.tail).text (hd l.tail.tail).n (hd l.tail.tail).pos)) (by omega))
  have hzU5:=lt_heap HBU5.out
  clear hk5
  have hne1:¬ w.heap.size=w1.heap.size:=by omega
  have hme1:¬ w1.heap.size=w.heap.size:=by omega
  have hne2:¬ w.heap.size=w2.heap.size:=by omega
  have hme2:¬ w2.heap.size=w.heap.size:=by omega
  have hne3:¬ w.heap.size=w4.heap.size:=by omega
  have hme3:¬ w4.heap.size=w.heap.size:=by omega
  have hne4:¬ w1.heap.size=w2.heap.size:=by omega
  have hme4:¬ w2.heap.size=w1.heap.size:=by omega
  have hne5:¬ w1.heap.size=w4.heap.size:=by omega
  have hme5:¬ w4.heap.size=w1.heap.size:=by omega
  have hne6:¬ w2.heap.size=w4.heap.size:=by omega
  have hme6:¬ w4.heap.size=w2.heap.size:=by omega
  obtain ⟨bN0,bN1,bN2,bN3,bN4⟩:=box_cells HBN5.out
  obtain ⟨fN0,fN1,fN2,fN3,fN4⟩:=box_frozen HBN5.out
  obtain ⟨bZ0,bZ1,bZ2,bZ3,bZ4⟩:=box_cells HBZ5.out
  obtain ⟨fZ0,fZ1,fZ2,fZ3,fZ4⟩:=box_frozen HBZ5.out
  go_wp2_with fail
  refine ret_node (B:=w.heap.size) tVarB (hd l).text 0 (hd l).pos none 0 0 Tryd.results193 rfl rfl (by repeat (with_reducible first | exact node_set HBZ5.out _ _ _ _ _ _ _ | refine (Below.heap_alloc _ _ _ (by simp;omega)).trans ?_)) ⟨⟨tVarB,(hd l).text,0,(hd l).pos,none,0,.nil⟩,rfl,(by repeat (with_reducible first | exact HK5.out | refine Kp.alloc ?_ _ | refine Kp.set ?_ (Nat.le_refl _) _)),?_⟩
  show PrS _ B (.bad _ 2)
  exact (by repeat (with_reducible first | exact HR5.out | refine PrS.alloc ?_ _ | refine PrS.set ?_ hB _))
set_option maxRecDepth 100000 in
set_option maxHeartbeats 16000000 in
theorem rpart_num (br:Bool) (l:List Tok) (w:World) (B:Nat) (hS:PrS w B (.good l)) (hk:((hd l).kind == 2)=true):Calls Tryd.prog 193 #[.pointer (some ⟨B,0,none⟩),.bool br] w (PostR B w (.ok (mkN tNumB emp0 (hd l).n (hd l).pos []) l.tail)):=by
  have hk1:((hd l).kind == 1)=false:=by have h:(hd l).kind=2:=(by simpa using hk);rw [h];rfl
  have hk4:((hd l).kind == 4)=false:=by have h:(hd l).kind=2:=(by simpa using hk);rw [h];rfl
  have hc5:=cellsNode
  have hc4:=cellsTok
  have hB:=hS.lt
  have q3:=tok_f3
  have q0:=tok_f0
  have q2:=tok_f2
  have q1:=tok_f1
  have HS:=Lib.hid hS
  clear hS
  go_enter Tryd.func193,Tryd.ntmps193
  have HC1:=Lib.hid (rnow_g l (w.alloc (boxOf ⟨#[]⟩ ⟨#[]⟩ 0 0 none 0 0)) B (HS.out.alloc _))
  go_wp2_with fail
  refine HC1.out.mono ?_
  rintro e1 w1 ⟨rfl,hb1⟩
  have HK1:=Lib.hid (((Kp.refl B w).alloc _).below hb1)
  have HR1:=Lib.hid ((HS.out.alloc _).below hb1)
  have HBZ1:=Lib.hid ((hb1.block _ (lt_heap (new_at w (boxOf ⟨#[]⟩ ⟨#[]⟩ 0 0 none 0 0)))).trans (new_at w (boxOf ⟨#[]⟩ ⟨#[]⟩ 0 0 none 0 0)))
  have hzZ1:=lt_heap HBZ1.out
  clear hb1
  obtain ⟨⟨tT0,tT1,tT2,tT3⟩,tfT0,tfT1,tfT2,tfT3⟩:=tok_cells (new_at w1 (tokBox (hd l).kind (hd l).text (hd l).n (hd l).pos))
  have HC2:=Lib.hid (rnext_g l (w1.alloc (tokBox (hd l).kind (hd l).text (hd l).n (hd l).pos)) B hk4 (HR1.out.alloc _))
  go_wp2_with fail
  refine HC2.out.mono ?_
  rintro e2 w2 ⟨rfl,hk2,hr2⟩
  have HK2:=Lib.hid ((HK1.out.alloc _).trans hk2)
  have HR2:=Lib.hid hr2
  have HBZ2:=Lib.hid (hk2.blk ((Below.heap_alloc _ _ _ (lt_heap HBZ1.out)).trans HBZ1.out) (by omega))
  have hzZ2:=lt_heap HBZ2.out
  have HBT2:=Lib.hid (hk2.blk (new_at w1 (tokBox (hd l).kind (hd l).text (hd l).n (hd l).pos)) (by omega))
  have hzT2:=lt_heap HBT2.out
  clear hk2
  obtain ⟨⟨tT0,tT1,tT2,tT3⟩,tfT0,tfT1,tfT2,tfT3⟩:=tok_cells HBT2.out
  obtain ⟨bZ0,bZ1,bZ2,bZ3,bZ4⟩:=box_cells HBZ2.out
  obtain ⟨fZ0,fZ1,fZ2,fZ3,fZ4⟩:=box_frozen HBZ2.out
  go_wp2_with fail
  refine ret_node (B:=w.heap.size) tNumB ⟨#[]⟩ (hd l).n (hd l).pos none 0 0 Tryd.results193 rfl rfl (by repeat (with_reducible first | exact node_set HBZ2.out _ _ _ _ _ _ _ | refine (Below.heap_alloc _ _ _ (by simp;omega)).trans ?_)) ⟨⟨tNumB,⟨#[]⟩,(hd l).n,(hd l).pos,none,0,.nil⟩,rfl,(by repeat (with_reducible first | exact HK2.out | refine Kp.alloc ?_ _ | refine Kp.set ?_ (Nat.le_refl _) _)),?_⟩
  exact ⟨(by repeat (with_reducible first | exact HR2.out | refine PrS.alloc ?_ _ | refine PrS.set ?_ hB _)),Nd.Good.leaf _ _ _ _ _ _ _ _,rfl⟩
set_option maxRecDepth 100000 in
set_option maxHeartbeats 16000000 in
theorem rpart_no (br:Bool) (l:List Tok) (w:World) (B:Nat) (hS:PrS w B (.good l)) (hk1:((hd l).kind == 1)=false) (hk2:((hd l).kind == 2)=false) (hw:((wrd l).toList == (ByteArray.mk #[123]).toList)=false):Calls Tryd.prog 193 #[.pointer (some ⟨B,0,none⟩),.bool br] w (PostR B w (.bad (hd l).pos 2)):=by
 have hc5:=cellsNode
 have hc4:=cellsTok
 have hB:=hS.lt
 have q3:=tok_f3
 have q0:=tok_f0
 have q2:=tok_f2
 have q1:=tok_f1
 have HS:=Lib.hid hS
 clear hS
 go_enter Tryd.func193,Tryd.ntmps193
 have HC1:=Lib.hid (rnow_g l (w.alloc (boxOf ⟨#[]⟩ ⟨#[]⟩ 0 0 none 0 0)) B (HS.out.alloc _))
 go_wp2_with fail
 refine HC1.out.mono ?_
 rintro e1 w1 ⟨rfl,hb1⟩
 have HK1:=Lib.hid (((Kp.refl B w).alloc _).below hb1)
 have HR1:=Lib.hid ((HS.out.alloc _).below hb1)
 have HBZ1:=Lib.hid ((hb1.block _ (lt_heap (new_at w (boxOf ⟨#[]⟩ ⟨#[]⟩ 0 0 none 0 0)))).trans (new_at w (boxOf ⟨#[]⟩ ⟨#[]⟩ 0 0 none 0 0)))
 have hzZ1:=lt_heap HBZ1.out
 clear hb1
 obtain ⟨⟨tT0,tT1,tT2,tT3⟩,tfT0,tfT1,tfT2,tfT3⟩:=tok_cells (new_at w1 (tokBox (hd l).kind (hd l).text (hd l).n (hd l).pos))
 have HC2:=Lib.hid (ris_no l ⟨#[123]⟩ (w1.alloc (tokBox (hd l).kind (hd l).text (hd l).n (hd l).pos)) B hw (HR1.out.alloc _))
 go_wp2_with fail
 refine HC2.out.mono ?_
 rintro e2 w2 ⟨rfl,hb2⟩
 have HK2:=Lib.hid ((HK1.out.alloc _).below hb2)
 have HR2:=Lib.hid ((HR1.out.alloc _).below hb2)
 have HBZ2:=Lib.hid ((hb2.block _ (lt_heap ((Below.heap_alloc _ _ _ (lt_heap HBZ1.out)).trans HBZ1.out))).trans ((Below.heap_alloc _ _ _ (lt_heap HBZ1.out)).trans HBZ1.out))
 have hzZ2:=lt_heap HBZ2.out
 have HBT2:=Lib.hid ((hb2.block _ (lt_heap (new_at w1 (tokBox (hd l).kind (hd l).text (hd l).n (hd l).pos)))).trans (new_at w1 (tokBox (hd l).kind (hd l).text (hd l).n (hd l).pos)))
 have hzT2:=lt_heap HBT2.out
 clear hb2
 obtain ⟨⟨tT0,tT1,tT2,tT3⟩,tfT0,tfT1,tfT2,tfT3⟩:=tok_cells HBT2.out
 have HC3:=Lib.hid (rfail_g l (hd l).pos 2 w2 B rfl HR2.out)
 go_wp2_with fail
 refine HC3.out.mono ?_
 rintro e3 w3 ⟨rfl,hk3,hr3⟩
 have HK3:=Lib.hid (HK2.out.trans hk3)
 have HR3:=Lib.hid hr3
 have HBZ3:=Lib.hid (hk3.blk HBZ2.out (by omega))
 have hzZ3:=lt_heap HBZ3.out
 have HBT3:=Lib.hid (hk3.blk HBT2.out (by omega))
 have hzT3:=lt_heap HBT3.out
 clear hk3
 obtain ⟨bZ0,bZ1,bZ2,bZ3,bZ4⟩:=box_cells HBZ3.out
 obtain ⟨fZ0,fZ1,fZ2,fZ3,fZ4⟩:=box_frozen HBZ3.out
 go_wp2_with fail
 refine ret_node (B:=w.heap.size) ⟨#[]⟩ ⟨#[]⟩ 0 0 none 0 0 Tryd.results193 rfl rfl (by repeat (with_reducible first | exact node_set HBZ3.out _ _ _ _ _ _ _ | refine (Below.heap_alloc _ _ _ (by simp;omega)).trans ?_)) ⟨⟨⟨#[]⟩,⟨#[]⟩,0,0,none,0,.nil⟩,rfl,(by repeat (with_reducible first | exact HK3.out | refine Kp.alloc ?_ _ | refine Kp.set ?_ (Nat.le_refl _) _)),?_⟩
 show PrS _ B (.bad _ 2)
 exact (by repeat (with_reducible first | exact HR3.out | refine PrS.alloc ?_ _ | refine PrS.set ?_ hB _))
set_option maxRecDepth 100000 in
set_option maxHeartbeats 16000000 in
theorem rpart_within (l:List Tok) (w:World) (B:Nat) (hS:PrS w B (.good l)) (hk1:((hd l).kind == 1)=false) (hk2:((hd l).kind == 2)=false) (hw:((wrd l).toList == (ByteArray.mk #[123]).toList)=true):Calls Tryd.prog 193 #[.pointer (some ⟨B,0,none⟩),.bool true] w (PostR B w (.bad (hd l).pos 2)):=by
 have hc5:=cellsNode
 have hc4:=cellsTok
 have hB:=hS.lt
 have q3:=tok_f3
 have q0:=tok_f0
 have q2:=tok_f2
 have q1:=tok_f1
 have HS:=Lib.hid hS
 clear hS
 go_enter Tryd.func193,Tryd.ntmps193
 have HC1:=Lib.hid (rnow_g l (w.alloc (boxOf ⟨#[]⟩ ⟨#[]⟩ 0 0 none 0 0)) B (HS.out.alloc _))
 go_wp2_with fail
 refine HC1.out.mono ?_
 rintro e1 w1 ⟨rfl,hb1⟩
 have HK1:=Lib.hid (((Kp.refl B w).alloc _).below hb1)
 have HR1:=Lib.hid ((HS.out.alloc _).below hb1)
 have HBZ1:=Lib.hid ((hb1.block _ (lt_heap (new_at w (boxOf ⟨#[]⟩ ⟨#[]⟩ 0 0 none 0 0)))).trans (new_at w (boxOf ⟨#[]⟩ ⟨#[]⟩ 0 0 none 0 0)))
 have hzZ1:=lt_heap HBZ1.out
 clear hb1
 obtain ⟨⟨tT0,tT1,tT2,tT3⟩,tfT0,tfT1,tfT2,tfT3⟩:=tok_cells (new_at w1 (tokBox (hd l).kind (hd l).text (hd l).n (hd l).pos))
 have HC2:=Lib.hid (ris_yes l ⟨#[123]⟩ (w1.alloc (tokBox (hd l).kind (hd l).text (hd l).n (hd l).pos)) B (by decide +kernel) hw (HR1.out.alloc _))
 go_wp2_with fail
 refine HC2.out.mono ?_
 rintro e2 w2 ⟨rfl,hb2⟩
 have HK2:=Lib.hid ((HK1.out.alloc _).below hb2)
 have HR2:=Lib.hid ((HR1.out.alloc _).below hb2)
 have HBZ2:=Lib.hid ((hb2.block _ (lt_heap ((Below.heap_alloc _ _ _ (lt_heap HBZ1.out)).trans HBZ1.out))).trans ((Below.heap_alloc _ _ _ (lt_heap HBZ1.out)).trans HBZ1.out))
 have hzZ2:=lt_heap HBZ2.out
 have HBT2:=Lib.hid ((hb2.block _ (lt_heap (new_at w1 (tokBox (hd l).kind (hd l).text (hd l).n (hd l).pos)))).trans (new_at w1 (tokBox (hd l).kind (hd l).text (hd l).n (hd l).pos)))
 have hzT2:=lt_heap HBT2.out
 clear hb2
 obtain ⟨⟨tT0,tT1,tT2,tT3⟩,tfT0,tfT1,tfT2,tfT3⟩:=tok_cells HBT2.out
 have HC3:=Lib.hid (rfail_g l (hd l).pos 2 w2 B rfl HR2.out)
 go_wp2_with fail
 refine HC3.out.mono ?_
 rintro e3 w3 ⟨rfl,hk3,hr3⟩
 have HK3:=Lib.hid (HK2.out.trans hk3)
 have HR3:=Lib.hid hr3
 have HBZ3:=Lib.hid (hk3.blk HBZ2.out (by omega))
 have hzZ3:=lt_heap HBZ3.out
 have HBT3:=Lib.hid (hk3.blk HBT2.out (by omega))
 have hzT3:=lt_heap HBT3.out
 clear hk3
 obtain ⟨bZ0,bZ1,bZ2,bZ3,bZ4⟩:=box_cells HBZ3.out
 obtain ⟨fZ0,fZ1,fZ2,fZ3,fZ4⟩:=box_frozen HBZ3.out
 go_wp2_with fail
 refine ret_node (B:=w.heap.size) ⟨#[]⟩ ⟨#[]⟩ 0 0 none 0 0 Tryd.results193 rfl rfl (by repeat (with_reducible first | exact node_set HBZ3.out _ _ _ _ _ _ _ | refine (Below.heap_alloc _ _ _ (by simp;omega)).trans ?_)) ⟨⟨⟨#[]⟩,⟨#[]⟩,0,0,none,0,.nil⟩,rfl,(by repeat (with_reducible first | exact HK3.out | refine Kp.alloc ?_ _ | refine Kp.set ?_ (Nat.le_refl _) _)),?_⟩
 show PrS _ B (.bad _ 2)
 exact (by repeat (with_reducible first | exact HR3.out | refine PrS.alloc ?_ _ | refine PrS.set ?_ hB _))
set_option maxRecDepth 100000 in
set_option maxHeartbeats 16000000 in
theorem rpart_set (l:List Tok) (w:World) (B:Nat) (hS:PrS w B (.good l)) (hk1:((hd l).kind == 1)=false) (hk2:((hd l).kind == 2)=false) (hw:((wrd l).toList == (ByteArray.mk #[123]).toList)=true) (rl:Res (List Nd)) (hl:∀ W,PrS W B (.good l.tail)→Calls Tryd.prog 177 #[.pointer (some ⟨B,0,none⟩),.string ⟨#[125]⟩,.bool true] W (PostRL B W rl)) (r:Res Nd) (h1:∀ ks l',rl=.ok ks l'→r=.ok (mkN tSetB emp0 0 (hd l).pos ks) l') (h2:∀ a e,rl=.bad a e→r=.bad a e):Calls Tryd.prog 193 #[.pointer (some ⟨B,0,none⟩),.bool false] w (PostR B w (r)):=by
 have hk4:=word_kind hw (by decide +kernel)
 have HL:=Lib.hid hl
 have H1:=Lib.hid h1
 have H2:=Lib.hid h2
 clear hl h1 h2
 have hc5:=cellsNode
 have hc4:=cellsTok
 have hB:=hS.lt
 have q3:=tok_f3
 have q0:=tok_f0
 have q2:=tok_f2
 have q1:=tok_f1
 have HS:=Lib.hid hS
 clear hS
 go_enter Tryd.func193,Tryd.ntmps193
 have HC1:=Lib.hid (rnow_g l (w.alloc (boxOf ⟨#[]⟩ ⟨#[]⟩ 0 0 none 0 0)) B (HS.out.alloc _))
 go_wp2_with fail
 refine HC1.out.mono ?_
 rintro e1 w1 ⟨rfl,hb1⟩
 have HK1:=Lib.hid (((Kp.refl B w).alloc _).below hb1)
 have HR1:=Lib.hid ((HS.out.alloc _).below hb1)
 have HBZ1:=Lib.hid ((hb1.block _ (lt_heap (new_at w (boxOf ⟨#[]⟩ ⟨#[]⟩ 0 0 none 0 0)))).trans (new_at w (boxOf ⟨#[]⟩ ⟨#[]⟩ 0 0 none 0 0)))
 have hzZ1:=lt_heap HBZ1.out
 clear hb1
 obtain ⟨⟨tT0,tT1,tT2,tT3⟩,tfT0,tfT1,tfT2,tfT3⟩:=tok_cells (new_at w1 (tokBox (hd l).kind (hd l).text (hd l).n (hd l).pos))
 have HC2:=Lib.hid (ris_yes l ⟨#[123]⟩ (w1.alloc (tokBox (hd l).kind (hd l).text (hd l).n (hd l).pos)) B (by decide +kernel) hw (HR1.out.alloc _))
 go_wp2_with fail
 refine HC2.out.mono ?_
 rintro e2 w2 ⟨rfl,hb2⟩
 have HK2:=Lib.hid ((HK1.out.alloc _).below hb2)
 have HR2:=Lib.hid ((HR1.out.alloc _).below hb2)
 have HBZ2:=Lib.hid ((hb2.block _ (lt_heap ((Below.heap_alloc _ _ _ (lt_heap HBZ1.out)).trans HBZ1.out))).trans ((Below.heap_alloc _ _ _ (lt_heap HBZ1.out)).trans HBZ1.out))
 have hzZ2:=lt_heap HBZ2.out
 have HBT2:=Lib.hid ((hb2.block _ (lt_heap (new_at w1 (tokBox (hd l).kind (hd l).text (hd l).n (hd l).pos)))).trans (new_at w1 (tokBox (hd l).kind (hd l).text (hd l).n (hd l).pos)))
 have hzT2:=lt_heap HBT2.out
 clear hb2
 have HC3:=Lib.hid (rnext_g l w2 B hk4 HR2.out)
 go_wp2_with fail
 refine HC3.out.mono ?_
 rintro e3 w3 ⟨rfl,hk3,hr3⟩
 have HK3:=Lib.hid (HK2.out.trans hk3)
 have HR3:=Lib.hid hr3
 have HBZ3:=Lib.hid (hk3.blk HBZ2.out (by omega))
 have hzZ3:=lt_heap HBZ3.out
 have HBT3:=Lib.hid (hk3.blk HBT2.out (by omega))
 have hzT3:=lt_heap HBT3.out
 clear hk3
 have HC4:=Lib.hid (HL.out w3.drew (HR3.out.drew))
 have hne1:¬ w.heap.size=w1.heap.size:=by omega
 have hme1:¬ w1.heap.size=w.heap.size:=by omega
 obtain ⟨⟨tT0,tT1,tT2,tT3⟩,tfT0,tfT1,tfT2,tfT3⟩:=tok_cells HBT3.out
 go_wp2_with fail
 go_region_held3 (fun w'=>w'.cell? ⟨w1.heap.size,3,none⟩=some (.int .i64 (hd l).pos)) (go_keep) (first | (go_at_call 177;refine HC4.out.mono ?_;clear tT0 tT1 tT2 tT3 tfT0 tfT1 tfT2 tfT3;rintro e4 w4 ⟨a,F,cap,rfl,hk4,ho4⟩;have HO4:=Lib.hid ho4;clear ho4;have HK4:=Lib.hid ((HK3.out.drew).trans hk4);have HR4:=Lib.hid True.intro;have HBZ4:=Lib.hid (hk4.blk HBZ3.out (by omega));have hzZ4:=lt_heap HBZ4.out;have HBT4:=Lib.hid (hk4.blk HBT3.out (by omega));have hzT4:=lt_heap HBT4.out;clear hk4;obtain ⟨bZ0,bZ1,bZ2,bZ3,bZ4⟩:=box_cells HBZ4.out;obtain ⟨fZ0,fZ1,fZ2,fZ3,fZ4⟩:=box_frozen HBZ4.out;obtain ⟨⟨tT0,tT1,tT2,tT3⟩,tfT0,tfT1,tfT2,tfT3⟩:=tok_cells HBT4.out))
 have hdr:w3.drew.heap.size=w3.heap.size:=rfl
 go_wp2_with fail
 refine ret_node (B:=w.heap.size) tSetB ⟨#[]⟩ 0 (hd l).pos a F.len cap Tryd.results193 rfl rfl (by repeat (with_reducible first | exact node_set HBZ4.out _ _ _ _ _ _ _ | refine (Below.heap_alloc _ _ _ (by simp;omega)).trans ?_)) ⟨⟨tSetB,⟨#[]⟩,0,(hd l).pos,a,cap,F⟩,rfl,(by repeat (with_reducible first | exact HK4.out | refine Kp.alloc ?_ _ | refine Kp.set ?_ (Nat.le_refl _) _)),?_⟩
 cases rl with
 | ok ks l' =>
  obtain ⟨hr,hg,hs⟩:=HO4.out
  rw [H1.out ks l' rfl]
  refine ⟨(by repeat (with_reducible first | exact hr | refine PrS.alloc ?_ _ | refine PrS.set ?_ hB _)),?_,?_⟩
  ·refine Nd.Good.mono (S:=fun b=>w3.heap.size≤b) ?_ (fun b hb=>Nat.le_trans (by omega) hb)
   exact (hg _ _ _ _ _).from (set5_from _ (by omega) _ _ _ _ _)
  ·show Nd.mk _ _ _ _ _ _ _=Nd.mk _ _ _ _ _ _ _
   rw [hs]
 | bad a e =>
  have hr:PrS w4 B (.bad a e):=HO4.out
  rw [H2.out a e rfl]
  show PrS _ B (.bad a e)
  exact (by repeat (with_reducible first | exact hr | refine PrS.alloc ?_ _ | refine PrS.set ?_ hB _))
end Go.Proofs.YtmlmjopfbohglaaDoor
