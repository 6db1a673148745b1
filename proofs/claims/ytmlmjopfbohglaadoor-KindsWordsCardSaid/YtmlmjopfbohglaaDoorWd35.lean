/- Parts of the proof: RpK1. -/
import Derived.Test.YtmlmjopfbohglaaDoorWd31
namespace Go.Proofs.YtmlmjopfbohglaaDoor
open Go.RowKit
set_option maxRecDepth 100000 in
set_option maxHeartbeats 16000000 in
theorem run_ex1_ok (rk r:Res Nd) (l:List Tok) (w:World) (B d:Nat) (hS:PrS w B (.good l)) (hdd:(d:Int) < 30) (hex:ordOf [101,120] l=1) (hal:ordOf [97,108,108] l = -1) (h0:((wrd l).toList == (ByteArray.mk #[126]).toList)=false) (hk4:((hd l).kind == 4)=false) (hkn:((hd l.tail).kind == 1)=true) (hm:((wrd l.tail.tail).toList == (ByteArray.mk #[58]).toList)=true) (hk:∀ W,PrS W B (.good l.tail.tail.tail)→Calls Tryd.prog 30 #[.pointer (some ⟨B,0,none⟩),.int .i64 ((d:Int)+1)] W (PostR B W rk)) (h5:∀ t l',rk=.ok t l'→r=.ok (mkN tExB (hd l.tail).text 1 (hd l).pos [t]) l') (h6:∀ a e,rk=.bad a e→r=.bad a e):Calls Tryd.prog 136 #[.pointer (some ⟨B,0,none⟩),.int .i64 d] w (PostR B w (r)):=by
 have HKND:=Lib.hid hkn
 have HK:=Lib.hid hk
 have H5:=Lib.hid h5
 have H6:=Lib.hid h6
 clear hkn hk h5 h6
 have HM:=Lib.hid hm
 clear hm
 have hc5:=cellsNode
 have hc4:=cellsTok
 have hB:=hS.lt
 have q3:=tok_f3
 have q0:=tok_f0
 have q2:=tok_f2
 have q1:=tok_f1
 have HS:=Lib.hid hS
 clear hS
 go_enter Tryd.func136,Tryd.ntmps136
 have HC1:=Lib.hid (renter_ok l d (w.alloc (boxOf ⟨#[]⟩ ⟨#[]⟩ 0 0 none 0 0)) B hdd (HS.out.alloc _))
 go_wp2_with fail
 refine HC1.out.mono ?_
 rintro e1 w1 ⟨rfl,hk1,hr1⟩
 have HK1:=Lib.hid (((Kp.refl B w).alloc _).trans hk1)
 have HR1:=Lib.hid hr1
 have HBZ1:=Lib.hid (hk1.blk (new_at w (boxOf ⟨#[]⟩ ⟨#[]⟩ 0 0 none 0 0)) (by omega))
 have hzZ1:=lt_heap HBZ1.out
 clear hk1
 have HC2:=Lib.hid (rnow_g l w1 B HR1.out)
 go_wp2_with fail
 refine HC2.out.mono ?_
 rintro e2 w2 ⟨rfl,hb2⟩
 have HK2:=Lib.hid (HK1.out.below hb2)
 have HR2:=Lib.hid (HR1.out.below hb2)
 have HBZ2:=Lib.hid ((hb2.block _ (lt_heap HBZ1.out)).trans HBZ1.out)
 have hzZ2:=lt_heap HBZ2.out
 clear hb2
 obtain ⟨⟨tT0,tT1,tT2,tT3⟩,tfT0,tfT1,tfT2,tfT3⟩:=tok_cells (new_at w2 (tokBox (hd l).kind (hd l).text (hd l).n (hd l).pos))
 have HC3:=Lib.hid (rord_ex_g l (w2.alloc (tokBox (hd l).kind (hd l).text (hd l).n (hd l).pos)) B (HR2.out.alloc _))
 rw [hex] at HC3;clear hex
 go_wp2_with fail
 refine HC3.out.mono ?_
 rintro e3 w3 ⟨rfl,hb3⟩
 have HK3:=Lib.hid ((HK2.out.alloc _).below hb3)
 have HR3:=Lib.hid ((HR2.out.alloc _).below hb3)
 have HBZ3:=Lib.hid ((hb3.block _ (lt_heap ((Below.heap_alloc _ _ _ (lt_heap HBZ2.out)).trans HBZ2.out))).trans ((Below.heap_alloc _ _ _ (lt_heap HBZ2.out)).trans HBZ2.out))
 have hzZ3:=lt_heap HBZ3.out
 have HBT3:=Lib.hid ((hb3.block _ (lt_heap (new_at w2 (tokBox (hd l).kind (hd l).text (hd l).n (hd l).pos)))).trans (new_at w2 (tokBox (hd l).kind (hd l).text (hd l).n (hd l).pos)))
 have hzT3:=lt_heap HBT3.out
 clear hb3
 have HC4:=Lib.hid (rord_all_g l w3 B HR3.out)
 rw [hal] at HC4;clear hal
 go_wp2_with fail
 refine HC4.out.mono ?_
 rintro e4 w4 ⟨rfl,hb4⟩
 have HK4:=Lib.hid (HK3.out.below hb4)
 have HR4:=Lib.hid (HR3.out.below hb4)
 have HBZ4:=Lib.hid ((hb4.block _ (lt_heap HBZ3.out)).trans HBZ3.out)
 have hzZ4:=lt_heap HBZ4.out
 have HBT4:=Lib.hid ((hb4.block _ (lt_heap HBT3.out)).trans HBT3.out)
 have hzT4:=lt_heap HBT4.out
 clear hb4
 have HC5:=Lib.hid (rtake_no l ⟨#[126]⟩ w4 B h0 HR4.out)
 go_wp2_with fail
 refine HC5.out.mono ?_
 rintro e5 w5 ⟨rfl,hk5,hr5⟩
 have HK5:=Lib.hid (HK4.out.trans hk5)
 have HR5:=Lib.hid hr5
 have HBZ5:=Lib.hid (hk5.blk HBZ4.out (by omega))
 have hzZ5:=lt_heap HBZ5.out
 have HBT5:=Lib.hid (hk5.blk HBT4.out (by omega))
 have hzT5:=lt_heap HBT5.out
 clear hk5
 have HC6:=Lib.hid (rnext_g l w5 B hk4 HR5.out)
 go_wp2_with fail
 refine HC6.out.mono ?_
 rintro e6 w6 ⟨rfl,hk6,hr6⟩
 have HK6:=Lib.hid (HK5.out.trans hk6)
 have HR6:=Lib.hid hr6
 have HBZ6:=Lib.hid (hk6.blk HBZ5.out (by omega))
 have hzZ6:=lt_heap HBZ6.out
 have HBT6:=Lib.hid (hk6.blk HBT5.out (by omega))
 have hzT6:=lt_heap HBT6.out
 clear hk6
 clear tT0 tT1 tT2 tT3 tfT0 tfT1 tfT2 tfT3
 have HC7:=Lib.hid (rname_yes l.tail w6.drew B HKND.out (HR6.out.drew))
 have HC8:=Lib.hid (rname_yes l.tail (w6.alloc (boxOf ⟨#[]⟩ ⟨#[]⟩ 0 0 none 0 0)).drew B HKND.out ((HR6.out.alloc _).drew))
 have hne1:¬ w.heap.size=w2.heap.size:=by omega
 have hme1:¬ w2.heap.size=w.heap.size:=by omega
 obtain ⟨⟨tT0,tT1,tT2,tT3⟩,tfT0,tfT1,tfT2,tfT3⟩:=tok_cells HBT6.out
 go_wp2_with fail
 go_region_held3 (fun w'=>w'.cell? ⟨w2.heap.size,3,none⟩=some (.int .i64 (hd l).pos)) (go_keep) (first | (go_at_call 59;refine HC7.out.mono ?_;clear tT0 tT1 tT2 tT3 tfT0 tfT1 tfT2 tfT3;rintro e7 w7 ⟨rfl,hk7,hr7⟩;have HK7:=Lib.hid ((HK6.out.drew).trans hk7);have HR7:=Lib.hid hr7;have HBZ7:=Lib.hid (hk7.blk HBZ6.out (by omega));have hzZ7:=lt_heap HBZ7.out;have HBT7:=Lib.hid (hk7.blk HBT6.out (by omega));have hzT7:=lt_heap HBT7.out;clear hk7;obtain ⟨⟨tT0,tT1,tT2,tT3⟩,tfT0,tfT1,tfT2,tfT3⟩:=tok_cells HBT7.out) | (go_at_call 59;refine HC8.out.mono ?_;clear tT0 tT1 tT2 tT3 tfT0 tfT1 tfT2 tfT3;rintro e8 w8 ⟨rfl,hk8,hr8⟩;have HK8:=Lib.hid (((HK6.out.alloc _).drew).trans hk8);have HR8:=Lib.hid hr8;have HBZ8:=Lib.hid (hk8.blk ((Below.heap_alloc _ _ _ (lt_heap HBZ6.out)).trans HBZ6.out) (by omega));have hzZ8:=lt_heap HBZ8.out;have HBT8:=Lib.hid (hk8.blk ((Below.heap_alloc _ _ _ (lt_heap HBT6.out)).trans HBT6.out) (by omega));have hzT8:=lt_heap HBT8.out;have HBG8:=Lib.hid (hk8.blk (new_at w6 (boxOf ⟨#[]⟩ ⟨#[]⟩ 0 0 none 0 0)) (by omega));have hzG8:=lt_heap HBG8.out;clear hk8;have hne101:¬ w.heap.size=w2.heap.size:=(by omega);have hme101:¬ w2.heap.size=w.heap.size:=(by omega);have hne102:¬ w.heap.size=w6.heap.size:=(by omega);have hme102:¬ w6.heap.size=w.heap.size:=(by omega);have hne103:¬ w2.heap.size=w6.heap.size:=(by omega);have hme103:¬ w6.heap.size=w2.heap.size:=(by omega);obtain ⟨bG0,bG1,bG2,bG3,bG4⟩:=box_cells HBG8.out;obtain ⟨fG0,fG1,fG2,fG3,fG4⟩:=box_frozen HBG8.out;obtain ⟨⟨tT0,tT1,tT2,tT3⟩,tfT0,tfT1,tfT2,tfT3⟩:=tok_cells HBT8.out))
 ·have hne2:¬ w.heap.size=w2.heap.size:=by omega
  have hme2:¬ w2.heap.size=w.heap.size:=by omega
  have hne3:¬ w.heap.size=w7.heap.size:=by omega
  have hme3:¬ w7.heap.size=w.heap.size:=by omega
  have hne4:¬ w2.heap.size=w7.heap.size:=by omega
  have hme4:¬ w7.heap.size=w2.heap.size:=by omega
  obtain ⟨⟨tT0,tT1,tT2,tT3⟩,tfT0,tfT1,tfT2,tfT3⟩:=tok_cells HBT7.out
  have HC8:=Lib.hid (rmust_yes l.tail.tail ⟨#[58]⟩ (w7.alloc (boxOf tExB (hd l.tail).text 1 (hd l).pos none 0 0)) B (by decide +kernel) HM.out (HR7.out.alloc _))
  go_wp2_with fail
  refine HC8.out.mono ?_
  rintro e8 w8 ⟨rfl,hk8,hr8⟩
  have HK8:=Lib.hid ((HK7.out.alloc _).trans hk8)
  have HR8:=Lib.hid hr8
  have HBZ8:=Lib.hid (hk8.blk ((Below.heap_alloc _ _ _ (lt_heap HBZ7.out)).trans HBZ7.out) (by omega))
  have hzZ8:=lt_heap HBZ8.out
  have HBT8:=Lib.hid (hk8.blk ((Below.heap_alloc _ _ _ (lt_heap HBT7.out)).trans HBT7.out) (by omega))
  have hzT8:=lt_heap HBT8.out
  have HBN8:=Lib.hid (hk8.blk (new_at w7 (boxOf tExB (hd l.tail).text 1 (hd l).pos none 0 0)) (by omega))
  have hzN8:=lt_heap HBN8.out
  clear hk8
  have HC9:=Lib.hid (HK.out w8 HR8.out)
  go_wp2_with fail
  refine HC9.out.mono ?_
  rintro e9 w9 ⟨U,rfl,hk9,ho9⟩
  have HO9:=Lib.hid ho9
  clear ho9
  have HK9:=Lib.hid (HK8.out.trans hk9)
  have HBZ9:=Lib.hid (hk9.blk HBZ8.out (by omega))
  have hzZ9:=lt_heap HBZ9.out
  have HBT9:=Lib.hid (hk9.blk HBT8.out (by omega))
  have hzT9:=lt_heap HBT9.out
  have HBN9:=Lib.hid (hk9.blk HBN8.out (by omega))
  have hzN9:=lt_heap HBN9.out
  have HKL9:=Lib.hid hk9
  clear hk9
  have hne5:¬ w.heap.size=w2.heap.size:=by omega
  have hme5:¬ w2.heap.size=w.heap.size:=by omega
  have hne6:¬ w.heap.size=w7.heap.size:=by omega
  have hme6:¬ w7.heap.size=w.heap.size:=by omega
  have hne7:¬ w2.heap.size=w7.heap.size:=by omega
  have hme7:¬ w7.heap.size=w2.heap.size:=by omega
  obtain ⟨bN0,bN1,bN2,bN3,bN4⟩:=box_cells HBN9.out
  obtain ⟨fN0,fN1,fN2,fN3,fN4⟩:=box_frozen HBN9.out
  obtain ⟨bZ0,bZ1,bZ2,bZ3,bZ4⟩:=box_cells HBZ9.out
  obtain ⟨fZ0,fZ1,fZ2,fZ3,fZ4⟩:=box_frozen HBZ9.out
  go_wp2_with fail
  refine ret_node (B:=w.heap.size) tExB (hd l.tail).text 1 (hd l).pos (some ⟨w9.heap.size,0,none⟩) 1 1 Tryd.results136 rfl rfl (by repeat (with_reducible first | exact node_set ((Below.heap_setCell _ _ _ _ (by show w.heap.size≠w7.heap.size;omega)).trans HBZ9.out) _ _ _ _ _ _ _ | exact node_set HBZ9.out _ _ _ _ _ _ _ | refine (Below.heap_alloc _ _ _ (by simp;omega)).trans ?_)) ⟨⟨tExB,(hd l.tail).text,1,(hd l).pos,some ⟨w9.heap.size,0,none⟩,1,.cons U.op U.name U.n U.pos U.a U.cap U.kids .nil⟩,rfl,(by repeat (with_reducible first | exact HK9.out | refine Kp.alloc ?_ _ | refine Kp.set ?_ (by first | exact Nat.le_refl _ | (show w.heap.size≤w7.heap.size;omega)) _)),?_⟩
  cases rk with
  | ok t l' =>
   obtain ⟨hr,hg,hs⟩:=HO9.out
   rw [H5.out t l' rfl]
   refine ⟨(by repeat (with_reducible first | exact hr | refine PrS.alloc ?_ _ | refine PrS.set ?_ (by first | exact hB | (show B < w7.heap.size;omega)) _)),?_,?_⟩
   ·refine good1 (G:=w9.heap.size) (by show w.heap.size≤w9.heap.size;omega) (new_sets6 _ _ _ _ _ _ _ _ _ _ _) ?_
    refine Nd.Good.mono (S:=fun b=>w8.heap.size≤b) ?_ (fun b hb=>Nat.le_trans (by omega) hb)
    exact ((hg.from (From.set _ (by show ¬ w8.heap.size≤w7.heap.size;omega) _)).from (set5_from _ (by omega) _ _ _ _ _)).from (From.alloc _ _ _)
   ·show Nd.mk _ _ _ _ _ _ _=Nd.mk _ _ _ _ _ _ _
    rw [← hs]
    rfl
  | bad a e =>
   have hr:PrS w9 B (.bad a e):=HO9.out
   rw [H6.out a e rfl]
   show PrS _ B (.bad a e)
   exact (by repeat (with_reducible first | exact hr | refine PrS.alloc ?_ _ | refine PrS.set ?_ (by first | exact hB | (show B < w7.heap.size;omega)) _))
 ·have HRS:RowKit.Hid (PrS (((((w8.setCell ⟨w6.heap.size,0,none⟩ (.string tExB)).setCell ⟨w6.heap.size,1,none⟩ (.string (hd l.tail).text)).setCell ⟨w6.heap.size,2,none⟩ (.int .i64 1)).setCell ⟨w6.heap.size,3,none⟩ (.int .i64 (hd l).pos)).setCell ⟨w6.heap.size,4,none⟩ (.slice none 0 0)) B (.good l.tail.tail)):=Lib.hid (by repeat (with_reducible first | exact HR8.out | refine PrS.set ?_ (by show B < w6.heap.size;omega) _))
  have HKS:RowKit.Hid (Kp B w (((((w8.setCell ⟨w6.heap.size,0,none⟩ (.string tExB)).setCell ⟨w6.heap.size,1,none⟩ (.string (hd l.tail).text)).setCell ⟨w6.heap.size,2,none⟩ (.int .i64 1)).setCell ⟨w6.heap.size,3,none⟩ (.int .i64 (hd l).pos)).setCell ⟨w6.heap.size,4,none⟩ (.slice none 0 0))):=Lib.hid (by repeat (with_reducible first | exact HK8.out | refine Kp.set ?_ (by show w.heap.size≤w6.heap.size;omega) _))
  have hne104:¬ w.heap.size=w2.heap.size:=by omega
  have hme104:¬ w2.heap.size=w.heap.size:=by omega
  have hne105:¬ w.heap.size=w6.heap.size:=by omega
  have hme105:¬ w6.heap.size=w.heap.size:=by omega
  have hne106:¬ w2.heap.size=w6.heap.size:=by omega
  have hme106:¬ w6.heap.size=w2.heap.size:=by omega
  obtain ⟨⟨tT0,tT1,tT2,tT3⟩,tfT0,tfT1,tfT2,tfT3⟩:=tok_cells HBT8.out
  have HC9:=Lib.hid (rmust_yes l.tail.tail ⟨#[58]⟩ (((((w8.setCell ⟨w6.heap.size,0,none⟩ (.string tExB)).setCell ⟨w6.heap.size,1,none⟩ (.string (hd l.tail).text)).setCell ⟨w6.heap.size,2,none⟩ (.int .i64 1)).setCell ⟨w6.heap.size,3,none⟩ (.int .i64 (hd l).pos)).setCell ⟨w6.heap.size,4,none⟩ (.slice none 0 0)) B (by decide +kernel) HM.out HRS.out)
  go_wp2_with fail
  refine HC9.out.mono ?_
  rintro e9 w9 ⟨rfl,hk9,hr9⟩
  have HK9:=Lib.hid (HKS.out.trans hk9)
  have HR9:=Lib.hid hr9
  have HBZ9:=Lib.hid (hk9.blk (node_set_other HBZ8.out (by omega) _ _ _ _ _) (by omega))
  have hzZ9:=lt_heap HBZ9.out
  have HBT9:=Lib.hid (hk9.blk (node_set_other HBT8.out (by omega) _ _ _ _ _) (by omega))
  have hzT9:=lt_heap HBT9.out
  have HBN9:=Lib.hid (hk9.blk (node_set HBG8.out _ _ _ _ _ _ _) (by omega))
  have hzN9:=lt_heap HBN9.out
  clear hk9
  have HC10:=Lib.hid (HK.out w9 HR9.out)
  go_wp2_with fail
  refine HC10.out.mono ?_
  rintro e10 w10 ⟨U,rfl,hk10,ho10⟩
  have HO10:=Lib.hid ho10
  clear ho10
  have HK10:=Lib.hid (HK9.out.trans hk10)
  have HBZ10:=Lib.hid (hk10.blk HBZ9.out (by omega))
  have hzZ10:=lt_heap HBZ10.out
  have HBT10:=Lib.hid (hk10.blk HBT9.out (by omega))
  have hzT10:=lt_heap HBT10.out
  have HBN10:=Lib.hid (hk10.blk HBN9.out (by omega))
  have hzN10:=lt_heap HBN10.out
  have HKL10:=Lib.hid hk10
  clear hk10
  have hne107:¬ w.heap.size=w2.heap.size:=by omega
  have hme107:¬ w2.heap.size=w.heap.size:=by omega
  have hne108:¬ w.heap.size=w6.heap.size:=by omega
  have hme108:¬ w6.heap.size=w.heap.size:=by omega
  have hne109:¬ w2.heap.size=w6.heap.size:=by omega
  have hme109:¬ w6.heap.size=w2.heap.size:=by omega
  obtain ⟨bN0,bN1,bN2,bN3,bN4⟩:=box_cells HBN10.out
  obtain ⟨fN0,fN1,fN2,fN3,fN4⟩:=box_frozen HBN10.out
  obtain ⟨bZ0,bZ1,bZ2,bZ3,bZ4⟩:=box_cells HBZ10.out
  obtain ⟨fZ0,fZ1,fZ2,fZ3,fZ4⟩:=box_frozen HBZ10.out
  go_wp2_with fail
  refine ret_node (B:=w.heap.size) tExB (hd l.tail).text 1 (hd l).pos (some ⟨w10.heap.size,0,none⟩) 1 1 Tryd.results136 rfl rfl (by repeat (with_reducible first | exact node_set ((Below.heap_setCell _ _ _ _ (by show w.heap.size≠w6.heap.size;omega)).trans HBZ10.out) _ _ _ _ _ _ _ | exact node_set HBZ10.out _ _ _ _ _ _ _ | refine (Below.heap_alloc _ _ _ (by simp;omega)).trans ?_)) ⟨⟨tExB,(hd l.tail).text,1,(hd l).pos,some ⟨w10.heap.size,0,none⟩,1,.cons U.op U.name U.n U.pos U.a U.cap U.kids .nil⟩,rfl,(by repeat (with_reducible first | exact HK10.out | refine Kp.alloc ?_ _ | refine Kp.set ?_ (by first | exact Nat.le_refl _ | (show w.heap.size≤w6.heap.size;omega)) _)),?_⟩
  cases rk with
  | ok t l' =>
   obtain ⟨hr,hg,hs⟩:=HO10.out
   rw [H5.out t l' rfl]
   refine ⟨(by repeat (with_reducible first | exact hr | refine PrS.alloc ?_ _ | refine PrS.set ?_ (by first | exact hB | (show B < w6.heap.size;omega)) _)),?_,?_⟩
   ·refine good1 (G:=w10.heap.size) (by show w.heap.size≤w10.heap.size;omega) (new_sets6 _ _ _ _ _ _ _ _ _ _ _) ?_
    refine Nd.Good.mono (S:=fun b=>w9.heap.size≤b) ?_ (fun b hb=>Nat.le_trans (by omega) hb)
    exact ((hg.from (From.set _ (by show ¬ w9.heap.size≤w6.heap.size;omega) _)).from (set5_from _ (by omega) _ _ _ _ _)).from (From.alloc _ _ _)
   ·show Nd.mk _ _ _ _ _ _ _=Nd.mk _ _ _ _ _ _ _
    rw [← hs]
    rfl
  | bad a e =>
   have hr:PrS w10 B (.bad a e):=HO10.out
   rw [H6.out a e rfl]
   show PrS _ B (.bad a e)
   exact (by repeat (with_reducible first | exact hr | refine PrS.alloc ?_ _ | refine PrS.set ?_ (by first | exact hB | (show B < w6.heap.size;omega)) _))
set_option maxRecDepth 100000 in
set_option maxHeartbeats 16000000 in
theorem run_ex1_colon (l:List Tok) (w:World) (B d:Nat) (hS:PrS w B (.good l)) (hdd:(d:Int) < 30) (hex:ordOf [101,120] l=1) (hal:ordOf [97,108,108] l = -1) (h0:((wrd l).toList == (ByteArray.mk #[126]).toList)=false) (hk4:((hd l).kind == 4)=false) (hkn:((hd l.tail).kind == 1)=true) (hm:((wrd l.tail.tail).toList == (ByteArray.mk #[58]).toList)=false) (hk:∀ W,PrS W B (.bad (hd l.tail.tail).pos 2)→Calls Tryd.prog 30 #[.pointer (some ⟨B,0,none⟩),.int .i64 ((d:Int)+1)] W (PostR B W (.bad (hd l.tail.tail).pos 2))):Calls Tryd.prog 136 #[.pointer (some ⟨B,0,none⟩),.int .i64 d] w (PostR B w (.bad (hd l.tail.tail).pos 2)):=by
 have HKND:=Lib.hid hkn
 have HK:=Lib.hid hk
 clear hkn hk
 have HM:=Lib.hid hm
 clear hm
 have hc5:=cellsNode
 have hc4:=cellsTok
 have hB:=hS.lt
 have q3:=tok_f3
 have q0:=tok_f0
 have q2:=tok_f2
 have q1:=tok_f1
 have HS:=Lib.hid hS
 clear hS
 go_enter Tryd.func136,Tryd.ntmps136
 have HC1:=Lib.hid (renter_ok l d (w.alloc (boxOf ⟨#[]⟩ ⟨#[]⟩ 0 0 none 0 0)) B hdd (HS.out.alloc _))
 go_wp2_with fail
 refine HC1.out.mono ?_
 rintro e1 w1 ⟨rfl,hk1,hr1⟩
 have HK1:=Lib.hid (((Kp.refl B w).alloc _).trans hk1)
 have HR1:=Lib.hid hr1
 have HBZ1:=Lib.hid (hk1.blk (new_at w (boxOf ⟨#[]⟩ ⟨#[]⟩ 0 0 none 0 0)) (by omega))
 have hzZ1:=lt_heap HBZ1.out
 clear hk1
 have HC2:=Lib.hid (rnow_g l w1 B HR1.out)
 go_wp2_with fail
 refine HC2.out.mono ?_
 rintro e2 w2 ⟨rfl,hb2⟩
 have HK2:=Lib.hid (HK1.out.below hb2)
 have HR2:=Lib.hid (HR1.out.below hb2)
 have HBZ2:=Lib.hid ((hb2.block _ (lt_heap HBZ1.out)).trans HBZ1.out)
 have hzZ2:=lt_heap HBZ2.out
 clear hb2
 obtain ⟨⟨tT0,tT1,tT2,tT3⟩,tfT0,tfT1,tfT2,tfT3⟩:=tok_cells (new_at w2 (tokBox (hd l).kind (hd l).text (hd l).n (hd l).pos))
 have HC3:=Lib.hid (rord_ex_g l (w2.alloc (tokBox (hd l).kind (hd l).text (hd l).n (hd l).pos)) B (HR2.out.alloc _))
 rw [hex] at HC3;clear hex
 go_wp2_with fail
 refine HC3.out.mono ?_
 rintro e3 w3 ⟨rfl,hb3⟩
 have HK3:=Lib.hid ((HK2.out.alloc _).below hb3)
 have HR3:=Lib.hid ((HR2.out.alloc _).below hb3)
 have HBZ3:=Lib.hid ((hb3.block _ (lt_heap ((Below.heap_alloc _ _ _ (lt_heap HBZ2.out)).trans HBZ2.out))).trans ((Below.heap_alloc _ _ _ (lt_heap HBZ2.out)).trans HBZ2.out))
 have hzZ3:=lt_heap HBZ3.out
 have HBT3:=Lib.hid ((hb3.block _ (lt_heap (new_at w2 (tokBox (hd l).kind (hd l).text (hd l).n (hd l).pos)))).trans (new_at w2 (tokBox (hd l).kind (hd l).text (hd l).n (hd l).pos)))
 have hzT3:=lt_heap HBT3.out
 clear hb3
 have HC4:=Lib.hid (rord_all_g l w3 B HR3.out)
 rw [hal] at HC4;clear hal
 go_wp2_with fail
 refine HC4.out.mono ?_
 rintro e4 w4 ⟨rfl,hb4⟩
 have HK4:=Lib.hid (HK3.out.below hb4)
 have HR4:=Lib.hid (HR3.out.below hb4)
 have HBZ4:=Lib.hid ((hb4.block _ (lt_heap HBZ3.out)).trans HBZ3.out)
 have hzZ4:=lt_heap HBZ4.out
 have HBT4:=Lib.hid ((hb4.block _ (lt_heap HBT3.out)).trans HBT3.out)
 have hzT4:=lt_heap HBT4.out
 clear hb4
 have HC5:=Lib.hid (rtake_no l ⟨#[126]⟩ w4 B h0 HR4.out)
 go_wp2_with fail
 refine HC5.out.mono ?_
 rintro e5 w5 ⟨rfl,hk5,hr5⟩
 have HK5:=Lib.hid (HK4.out.trans hk5)
 have HR5:=Lib.hid hr5
 have HBZ5:=Lib.hid (hk5.blk HBZ4.out (by omega))
 have hzZ5:=lt_heap HBZ5.out
 have HBT5:=Lib.hid (hk5.blk HBT4.out (by omega))
 have hzT5:=lt_heap HBT5.out
 clear hk5
 have HC6:=Lib.hid (rnext_g l w5 B hk4 HR5.out)
 go_wp2_with fail
 refine HC6.out.mono ?_
 rintro e6 w6 ⟨rfl,hk6,hr6⟩
 have HK6:=Lib.hid (HK5.out.trans hk6)
 have HR6:=Lib.hid hr6
 have HBZ6:=Lib.hid (hk6.blk HBZ5.out (by omega))
 have hzZ6:=lt_heap HBZ6.out
 have HBT6:=Lib.hid (hk6.blk HBT5.out (by omega))
 have hzT6:=lt_heap HBT6.out
 clear hk6
 clear tT0 tT1 tT2 tT3 tfT0 tfT1 tfT2 tfT3
 have HC7:=Lib.hid (rname_yes l.tail w6.drew B HKND.out (HR6.out.drew))
 have HC8:=Lib.hid (rname_yes l.tail (w6.alloc (boxOf ⟨#[]⟩ ⟨#[]⟩ 0 0 none 0 0)).drew B HKND.out ((HR6.out.alloc _).drew))
 have hne1:¬ w.heap.size=w2.heap.size:=by omega
 have hme1:¬ w2.heap.size=w.heap.size:=by omega
 obtain ⟨⟨tT0,tT1,tT2,tT3⟩,tfT0,tfT1,tfT2,tfT3⟩:=tok_cells HBT6.out
 go_wp2_with fail
 go_region_held3 (fun w'=>w'.cell? ⟨w2.heap.size,3,none⟩=some (.int .i64 (hd l).pos)) (go_keep) (first | (go_at_call 59;refine HC7.out.mono ?_;clear tT0 tT1 tT2 tT3 tfT0 tfT1 tfT2 tfT3;rintro e7 w7 ⟨rfl,hk7,hr7⟩;have HK7:=Lib.hid ((HK6.out.drew).trans hk7);have HR7:=Lib.hid hr7;have HBZ7:=Lib.hid (hk7.blk HBZ6.out (by omega));have hzZ7:=lt_heap HBZ7.out;have HBT7:=Lib.hid (hk7.blk HBT6.out (by omega));have hzT7:=lt_heap HBT7.out;clear hk7;obtain ⟨⟨tT0,tT1,tT2,tT3⟩,tfT0,tfT1,tfT2,tfT3⟩:=tok_cells HBT7.out) | (go_at_call 59;refine HC8.out.mono ?_;clear tT0 tT1 tT2 tT3 tfT0 tfT1 tfT2 tfT3;rintro e8 w8 ⟨rfl,hk8,hr8⟩;have HK8:=Lib.hid (((HK6.out.alloc _).drew).trans hk8);have HR8:=Lib.hid hr8;have HBZ8:=Lib.hid (hk8.blk ((Below.heap_alloc _ _ _ (lt_heap HBZ6.out)).trans HBZ6.out) (by omega));have hzZ8:=lt_heap HBZ8.out;have HBT8:=Lib.hid (hk8.blk ((Below.heap_alloc _ _ _ (lt_heap HBT6.out)).trans HBT6.out) (by omega));have hzT8:=lt_heap HBT8.out;have HBG8:=Lib.hid (hk8.blk (new_at w6 (boxOf ⟨#[]⟩ ⟨#[]⟩ 0 0 none 0 0)) (by omega));have hzG8:=lt_heap HBG8.out;clear hk8;have hne101:¬ w.heap.size=w2.heap.size:=(by omega);have hme101:¬ w2.heap.size=w.heap.size:=(by omega);have hne102:¬ w.heap.size=w6.heap.size:=(by omega);have hme102:¬ w6.heap.size=w.heap.size:=(by omega);have hne103:¬ w2.heap.size=w6.heap.size:=(by omega);have hme103:¬ w6.heap.size=w2.heap.size:=(by omega);obtain ⟨bG0,bG1,bG2,bG3,bG4⟩:=box_cells HBG8.out;obtain ⟨fG0,fG1,fG2,fG3,fG4⟩:=box_frozen HBG8.out;obtain ⟨⟨tT0,tT1,tT2,tT3⟩,tfT0,tfT1,tfT2,tfT3⟩:=tok_cells HBT8.out))
 ·have hne2:¬ w.heap.size=w2.heap.size:=by omega
  have hme2:¬ w2.heap.size=w.heap.size:=by omega
  have hne3:¬ w.heap.size=w7.heap.size:=by omega
  have hme3:¬ w7.heap.size=w.heap.size:=by omega
  have hne4:¬ w2.heap.size=w7.heap.size:=by omega
  have hme4:¬ w7.heap.size=w2.heap.size:=by omega
  obtain ⟨⟨tT0,tT1,tT2,tT3⟩,tfT0,tfT1,tfT2,tfT3⟩:=tok_cells HBT7.out
  have HC8:=Lib.hid (rmust_no l.tail.tail ⟨#[58]⟩ (w7.alloc (boxOf tExB (hd l.tail).text 1 (hd l).pos none 0 0)) B HM.out (HR7.out.alloc _))
  go_wp2_with fail
  refine HC8.out.mono ?_
  rintro e8 w8 ⟨rfl,hk8,hr8⟩
  have HK8:=Lib.hid ((HK7.out.alloc _).trans hk8)
  have HR8:=Lib.hid hr8
  have HBZ8:=Lib.hid (hk8.blk ((Below.heap_alloc _ _ _ (lt_heap HBZ7.out)).trans HBZ7.out) (by omega))
  have hzZ8:=lt_heap HBZ8.out
  have HBT8:=Lib.hid (hk8.blk ((Below.heap_alloc _ _ _ (lt_heap HBT7.out)).trans HBT7.out) (by omega))
  have hzT8:=lt_heap HBT8.out
  have HBN8:=Lib.hid (hk8.blk (new_at w7 (boxOf tExB (hd l.tail).text 1 (hd l).pos none 0 0)) (by omega))
  have hzN8:=lt_heap HBN8.out
  clear hk8
  have HC9:=Lib.hid (HK.out w8 HR8.out)
  go_wp2_with fail
  refine HC9.out.mono ?_
  rintro e9 w9 ⟨U,rfl,hk9,ho9⟩
  have HO9:=Lib.hid ho9
  clear ho9
  have HK9:=Lib.hid (HK8.out.trans hk9)
  have HBZ9:=Lib.hid (hk9.blk HBZ8.out (by omega))
  have hzZ9:=lt_heap HBZ9.out
  have HBT9:=Lib.hid (hk9.blk HBT8.out (by omega))
  have hzT9:=lt_heap HBT9.out
  have HBN9:=Lib.hid (hk9.blk HBN8.out (by omega))
  have hzN9:=lt_heap HBN9.out
  have HKL9:=Lib.hid hk9
  clear hk9
  have hne5:¬ w.heap.size=w2.heap.size:=by omega
  have hme5:¬ w2.heap.size=w.heap.size:=by omega
  have hne6:¬ w.heap.size=w7.heap.size:=by omega
  have hme6:¬ w7.heap.size=w.heap.size:=by omega
  have hne7:¬ w2.heap.size=w7.heap.size:=by omega
  have hme7:¬ w7.heap.size=w2.heap.size:=by omega
  obtain ⟨bN0,bN1,bN2,bN3,bN4⟩:=box_cells HBN9.out
  obtain ⟨fN0,fN1,fN2,fN3,fN4⟩:=box_frozen HBN9.out
  obtain ⟨bZ0,bZ1,bZ2,bZ3,bZ4⟩:=box_cells HBZ9.out
  obtain ⟨fZ0,fZ1,fZ2,fZ3,fZ4⟩:=box_frozen HBZ9.out
  go_wp2_with fail
  refine ret_node (B:=w.heap.size) tExB (hd l.tail).text 1 (hd l).pos (some ⟨w9.heap.size,0,none⟩) 1 1 Tryd.results136 rfl rfl (by repeat (with_reducible first | exact node_set ((Below.heap_setCell _ _ _ _ (by show w.heap.size≠w7.heap.size;omega)).trans HBZ9.out) _ _ _ _ _ _ _ | exact node_set HBZ9.out _ _ _ _ _ _ _ | refine (Below.heap_alloc _ _ _ (by simp;omega)).trans ?_)) ⟨⟨tExB,(hd l.tail).text,1,(hd l).pos,some ⟨w9.heap.size,0,none⟩,1,.cons U.op U.name U.n U.pos U.a U.cap U.kids .nil⟩,rfl,(by repeat (with_reducible first | exact HK9.out | refine Kp.alloc ?_ _ | refine Kp.set ?_ (by first | exact Nat.le_refl _ | (show w.heap.size≤w7.heap.size;omega)) _)),?_⟩
  have hr:PrS w9 B (.bad _ _):=HO9.out
  show PrS _ B (.bad _ _)
  exact (by repeat (with_reducible first | exact hr | refine PrS.alloc ?_ _ | refine PrS.set ?_ (by first | exact hB | (show B < w7.heap.size;omega)) _))
 ·have HRS:RowKit.Hid (PrS (((((w8.setCell ⟨w6.heap.size,0,none⟩ (.string tExB)).setCell ⟨w6.heap.size,1,none⟩ (.string (hd l.tail).text)).setCell ⟨w6.heap.size,2,none⟩ (.int .i64 1)).setCell ⟨w6.heap.size,3,none⟩ (.int .i64 (hd l).pos)).setCell ⟨w6.heap.size,4,none⟩ (.slice none 0 0)) B (.good l.tail.tail)):=Lib.hid (by repeat (with_reducible first | exact HR8.out | refine PrS.set ?_ (by show B < w6.heap.size;omega) _))
  have HKS:RowKit.Hid (Kp B w (((((w8.setCell ⟨w6.heap.size,0,none⟩ (.string tExB)).setCell ⟨w6.heap.size,1,none⟩ (.string (hd l.tail).text)).setCell ⟨w6.heap.size,2,none⟩ (.int .i64 1)).setCell ⟨w6.heap.size,3,none⟩ (.int .i64 (hd l).pos)).setCell ⟨w6.heap.size,4,none⟩ (.slice none 0 0))):=Lib.hid (by repeat (with_reducible first | exact HK8.out | refine Kp.set ?_ (by show w.heap.size≤w6.heap.size;omega) _))
  have hne104:¬ w.heap.size=w2.heap.size:=by omega
  have hme104:¬ w2.heap.size=w.heap.size:=by omega
  have hne105:¬ w.heap.size=w6.heap.size:=by omega
  have hme105:¬ w6.heap.size=w.heap.size:=by omega
  have hne106:¬ w2.heap.size=w6.heap.size:=by omega
  have hme106:¬ w6.heap.size=w2.heap.size:=by omega
  obtain ⟨⟨tT0,tT1,tT2,tT3⟩,tfT0,tfT1,tfT2,tfT3⟩:=tok_cells HBT8.out
  have HC9:=Lib.hid (rmust_no l.tail.tail ⟨#[58]⟩ (((((w8.setCell ⟨w6.heap.size,0,none⟩ (.string tExB)).setCell ⟨w6.heap.size,1,none⟩ (.string (hd l.tail).text)).setCell ⟨w6.heap.size,2,none⟩ (.int .i64 1)).setCell ⟨w6.heap.size,3,none⟩ (.int .i64 (hd l).pos)).setCell ⟨w6.heap.size,4,none⟩ (.slice none 0 0)) B HM.out HRS.out)
  go_wp2_with fail
  refine HC9.out.mono ?_
  rintro e9 w9 ⟨rfl,hk9,hr9⟩
  have HK9:=Lib.hid (HKS.out.trans hk9)
  have HR9:=Lib.hid hr9
  have HBZ9:=Lib.hid (hk9.blk (node_set_other HBZ8.out (by omega) _ _ _ _ _) (by omega))
  have hzZ9:=lt_heap HBZ9.out
  have HBT9:=Lib.hid (hk9.blk (node_set_other HBT8.out (by omega) _ _ _ _ _) (by omega))
  have hzT9:=lt_heap HBT9.out
  have HBN9:=Lib.hid (hk9.blk (node_set HBG8.out _ _ _ _ _ _ _) (by omega))
  have hzN9:=lt_heap HBN9.out
  clear hk9
  have HC10:=Lib.hid (HK.out w9 HR9.out)
  go_wp2_with fail
  refine HC10.out.mono ?_
  rintro e10 w10 ⟨U,rfl,hk10,ho10⟩
  have HO10:=Lib.hid ho10
  clear ho10
  have HK10:=Lib.hid (HK9.out.trans hk10)
  have HBZ10:=Lib.hid (hk10.blk HBZ9.out (by omega))
  have hzZ10:=lt_heap HBZ10.out
  have HBT10:=Lib.hid (hk10.blk HBT9.out (by omega))
  have hzT10:=lt_heap HBT10.out
  have HBN10:=Lib.hid (hk10.blk HBN9.out (by omega))
  have hzN10:=lt_heap HBN10.out
  have HKL10:=Lib.hid hk10
  clear hk10
  have hne107:¬ w.heap.size=w2.heap.size:=by omega
  have hme107:¬ w2.heap.size=w.heap.size:=by omega
  have hne108:¬ w.heap.size=w6.heap.size:=by omega
  have hme108:¬ w6.heap.size=w.heap.size:=by omega
  have hne109:¬ w2.heap.size=w6.heap.size:=by omega
  have hme109:¬ w6.heap.size=w2.heap.size:=by omega
  obtain ⟨bN0,bN1,bN2,bN3,bN4⟩:=box_cells HBN10.out
  obtain ⟨fN0,fN1,fN2,fN3,fN4⟩:=box_frozen HBN10.out
  obtain ⟨bZ0,bZ1,bZ2,bZ3,bZ4⟩:=box_cells HBZ10.out
  obtain ⟨fZ0,fZ1,fZ2,fZ3,fZ4⟩:=box_frozen HBZ10.out
  go_wp2_with fail
  refine ret_node (B:=w.heap.size) tExB (hd l.tail).text 1 (hd l).pos (some ⟨w10.heap.size,0,none⟩) 1 1 Tryd.results136 rfl rfl (by repeat (with_reducible first | exact node_set ((Below.heap_setCell _ _ _ _ (by show w.heap.size≠w6.heap.size;omega)).trans HBZ10.out) _ _ _ _ _ _ _ | exact node_set HBZ10.out _ _ _ _ _ _ _ | refine (Below.heap_alloc _ _ _ (by simp;omega)).trans ?_)) ⟨⟨tExB,(hd l.tail).text,1,(hd l).pos,some ⟨w10.heap.size,0,none⟩,1,.cons U.op U.name U.n U.pos U.a U.cap U.kids .nil⟩,rfl,(by repeat (with_reducible first | exact HK10.out | refine Kp.alloc ?_ _ | refine Kp.set ?_ (by first | exact Nat.le_refl _ | (show w.heap.size≤w6.heap.size;omega)) _)),?_⟩
  have hr:PrS w10 B (.bad _ _):=HO10.out
  show PrS _ B (.bad _ _)
  exact (by repeat (with_reducible first | exact hr | refine PrS.alloc ?_ _ | refine PrS.set ?_ (by first | exact hB | (show B < w6.heap.size;omega)) _))
set_option maxRecDepth 100000 in
set_option maxHeartbeats 16000000 in
theorem run_ex1_name (l:List Tok) (w:World) (B d:Nat) (hS:PrS w B (.good l)) (hdd:(d:Int) < 30) (hex:ordOf [101,120] l=1) (hal:ordOf [97,108,108] l = -1) (h0:((wrd l).toList == (ByteArray.mk #[126]).toList)=false) (hk4:((hd l).kind == 4)=false) (hkn:((hd l.tail).kind == 1)=false) (hk:∀ W,PrS W B (.bad (hd l.tail).pos 2)→Calls Tryd.prog 30 #[.pointer (some ⟨B,0,none⟩),.int .i64 ((d:Int)+1)] W (PostR B W (.bad (hd l.tail).pos 2))):Calls Tryd.prog 136 #[.pointer (some ⟨B,0,none⟩),.int .i64 d] w (PostR B w (.bad (hd l.tail).pos 2)):=by
 have HKND:=Lib.hid hkn
 have HK:=Lib.hid hk
 clear hkn hk
 have hc5:=cellsNode
 have hc4:=cellsTok
 have hB:=hS.lt
 have q3:=tok_f3
 have q0:=tok_f0
 have q2:=tok_f2
 have q1:=tok_f1
 have HS:=Lib.hid hS
 clear hS
 go_enter Tryd.func136,Tryd.ntmps136
 have HC1:=Lib.hid (renter_ok l d (w.alloc (boxOf ⟨#[]⟩ ⟨#[]⟩ 0 0 none 0 0)) B hdd (HS.out.alloc _))
 go_wp2_with fail
 refine HC1.out.mono ?_
 rintro e1 w1 ⟨rfl,hk1,hr1⟩
 have HK1:=Lib.hid (((Kp.refl B w).alloc _).trans hk1)
 have HR1:=Lib.hid hr1
 have HBZ1:=Lib.hid (hk1.blk (new_at w (boxOf ⟨#[]⟩ ⟨#[]⟩ 0 0 none 0 0)) (by omega))
 have hzZ1:=lt_heap HBZ1.out
 clear hk1
 have HC2:=Lib.hid (rnow_g l w1 B HR1.out)
 go_wp2_with fail
 refine HC2.out.mono ?_
 rintro e2 w2 ⟨rfl,hb2⟩
 have HK2:=Lib.hid (HK1.out.below hb2)
 have HR2:=Lib.hid (HR1.out.below hb2)
 have HBZ2:=Lib.hid ((hb2.block _ (lt_heap HBZ1.out)).trans HBZ1.out)
 have hzZ2:=lt_heap HBZ2.out
 clear hb2
 obtain ⟨⟨tT0,tT1,tT2,tT3⟩,tfT0,tfT1,tfT2,tfT3⟩:=tok_cells (new_at w2 (tokBox (hd l).kind (hd l).text (hd l).n (hd l).pos))
 have HC3:=Lib.hid (rord_ex_g l (w2.alloc (tokBox (hd l).kind (hd l).text (hd l).n (hd l).pos)) B (HR2.out.alloc _))
 rw [hex] at HC3;clear hex
 go_wp2_with fail
 refine HC3.out.mono ?_
 rintro e3 w3 ⟨rfl,hb3⟩
 have HK3:=Lib.hid ((HK2.out.alloc _).below hb3)
 have HR3:=Lib.hid ((HR2.out.alloc _).below hb3)
 have HBZ3:=Lib.hid ((hb3.block _ (lt_heap ((Below.heap_alloc _ _ _ (lt_heap HBZ2.out)).trans HBZ2.out))).trans ((Below.heap_alloc _ _ _ (lt_heap HBZ2.out)).trans HBZ2.out))
 have hzZ3:=lt_heap HBZ3.out
 have HBT3:=Lib.hid ((hb3.block _ (lt_heap (new_at w2 (tokBox (hd l).kind (hd l).text (hd l).n (hd l).pos)))).trans (new_at w2 (tokBox (hd l).kind (hd l).text (hd l).n (hd l).pos)))
 have hzT3:=lt_heap HBT3.out
 clear hb3
 have HC4:=Lib.hid (rord_all_g l w3 B HR3.out)
 rw [hal] at HC4;clear hal
 go_wp2_with fail
 refine HC4.out.mono ?_
 rintro e4 w4 ⟨rfl,hb4⟩
 have HK4:=Lib.hid (HK3.out.below hb4)
 have HR4:=Lib.hid (HR3.out.below hb4)
 have HBZ4:=Lib.hid ((hb4.block _ (lt_heap HBZ3.out)).trans HBZ3.out)
 have hzZ4:=lt_heap HBZ4.out
 have HBT4:=Lib.hid ((hb4.block _ (lt_heap HBT3.out)).trans HBT3.out)
 have hzT4:=lt_heap HBT4.out
 clear hb4
 have HC5:=Lib.hid (rtake_no l ⟨#[126]⟩ w4 B h0 HR4.out)
 go_wp2_with fail
 refine HC5.out.mono ?_
 rintro e5 w5 ⟨rfl,hk5,hr5⟩
 have HK5:=Lib.hid (HK4.out.trans hk5)
 have HR5:=Lib.hid hr5
 have HBZ5:=Lib.hid (hk5.blk HBZ4.out (by omega))
 have hzZ5:=lt_heap HBZ5.out
 have HBT5:=Lib.hid (hk5.blk HBT4.out (by omega))
 have hzT5:=lt_heap HBT5.out
 clear hk5
 have HC6:=Lib.hid (rnext_g l w5 B hk4 HR5.out)
 go_wp2_with fail
 refine HC6.out.mono ?_
 rintro e6 w6 ⟨rfl,hk6,hr6⟩
 have HK6:=Lib.hid (HK5.out.trans hk6)
 have HR6:=Lib.hid hr6
 have HBZ6:=Lib.hid (hk6.blk HBZ5.out (by omega))
 have hzZ6:=lt_heap HBZ6.out
 have HBT6:=Lib.hid (hk6.blk HBT5.out (by omega))
 have hzT6:=lt_heap HBT6.out
 clear hk6
 clear tT0 tT1 tT2 tT3 tfT0 tfT1 tfT2 tfT3
 have HC7:=Lib.hid (rname_no l.tail w6.drew B HKND.out (HR6.out.drew))
 have HC8:=Lib.hid (rname_no l.tail (w6.alloc (boxOf ⟨#[]⟩ ⟨#[]⟩ 0 0 none 0 0)).drew B HKND.out ((HR6.out.alloc _).drew))
 have hne1:¬ w.heap.size=w2.heap.size:=by omega
 have hme1:¬ w2.heap.size=w.heap.size:=by omega
 obtain ⟨⟨tT0,tT1,tT2,tT3⟩,tfT0,tfT1,tfT2,tfT3⟩:=tok_cells HBT6.out
 go_wp2_with fail
 go_region_held3 (fun w'=>w'.cell? ⟨w2.heap.size,3,none⟩=some (.int .i64 (hd l).pos)) (go_keep) (first | (go_at_call 59;refine HC7.out.mono ?_;clear tT0 tT1 tT2 tT3 tfT0 tfT1 tfT2 tfT3;rintro e7 w7 ⟨rfl,hk7,hr7⟩;have HK7:=Lib.hid ((HK6.out.drew).trans hk7);have HR7:=Lib.hid hr7;have HBZ7:=Lib.hid (hk7.blk HBZ6.out (by omega));have hzZ7:=lt_heap HBZ7.out;have HBT7:=Lib.hid (hk7.blk HBT6.out (by omega));have hzT7:=lt_heap HBT7.out;clear hk7;obtain ⟨⟨tT0,tT1,tT2,tT3⟩,tfT0,tfT1,tfT2,tfT3⟩:=tok_cells HBT7.out) | (go_at_call 59;refine HC8.out.mono ?_;clear tT0 tT1 tT2 tT3 tfT0 tfT1 tfT2 tfT3;rintro e8 w8 ⟨rfl,hk8,hr8⟩;have HK8:=Lib.hid (((HK6.out.alloc _).drew).trans hk8);have HR8:=Lib.hid hr8;have HBZ8:=Lib.hid (hk8.blk ((Below.heap_alloc _ _ _ (lt_heap HBZ6.out)).trans HBZ6.out) (by omega));have hzZ8:=lt_heap HBZ8.out;have HBT8:=Lib.hid (hk8.blk ((Below.heap_alloc _ _ _ (lt_heap HBT6.out)).trans HBT6.out) (by omega));have hzT8:=lt_heap HBT8.out;have HBG8:=Lib.hid (hk8.blk (new_at w6 (boxOf ⟨#[]⟩ ⟨#[]⟩ 0 0 none 0 0)) (by omega));have hzG8:=lt_heap HBG8.out;clear hk8;have hne101:¬ w.heap.size=w2.heap.size:=(by omega);have hme101:¬ w2.heap.size=w.heap.size:=(by omega);have hne102:¬ w.heap.size=w6.heap.size:=(by omega);have hme102:¬ w6.heap.size=w.heap.size:=(by omega);have hne103:¬ w2.heap.size=w6.heap.size:=(by omega);have hme103:¬ w6.heap.size=w2.heap.size:=(by omega);obtain ⟨bG0,bG1,bG2,bG3,bG4⟩:=box_cells HBG8.out;obtain ⟨fG0,fG1,fG2,fG3,fG4⟩:=box_frozen HBG8.out;obtain ⟨⟨tT0,tT1,tT2,tT3⟩,tfT0,tfT1,tfT2,tfT3⟩:=tok_cells HBT8.out))
 ·have hne2:¬ w.heap.size=w2.heap.size:=by omega
  have hme2:¬ w2.heap.size=w.heap.size:=by omega
  have hne3:¬ w.heap.size=w7.heap.size:=by omega
  have hme3:¬ w7.heap.size=w.heap.size:=by omega
  have hne4:¬ w2.heap.size=w7.heap.size:=by omega
  have hme4:¬ w7.heap.size=w2.heap.size:=by omega
  obtain ⟨⟨tT0,tT1,tT2,tT3⟩,tfT0,tfT1,tfT2,tfT3⟩:=tok_cells HBT7.out
  have HC8:=Lib.hid (rmust_b ⟨#[58]⟩ (w7.alloc (boxOf tExB ⟨#[]⟩ 1 (hd l).pos none 0 0)) B _ _ (HR7.out.alloc _))
  go_wp2_with fail
  refine HC8.out.mono ?_
  rintro e8 w8 ⟨rfl,hk8,hr8⟩
  have HK8:=Lib.hid ((HK7.out.alloc _).trans hk8)
  have HR8:=Lib.hid hr8
  have HBZ8:=Lib.hid (hk8.blk ((Below.heap_alloc _ _ _ (lt_heap HBZ7.out)).trans HBZ7.out) (by omega))
  have hzZ8:=lt_heap HBZ8.out
  have HBT8:=Lib.hid (hk8.blk ((Below.heap_alloc _ _ _ (lt_heap HBT7.out)).trans HBT7.out) (by omega))
  have hzT8:=lt_heap HBT8.out
  have HBN8:=Lib.hid (hk8.blk (new_at w7 (boxOf tExB ⟨#[]⟩ 1 (hd l).pos none 0 0)) (by omega))
  have hzN8:=lt_heap HBN8.out
  clear hk8
  have HC9:=Lib.hid (HK.out w8 HR8.out)
  go_wp2_with fail
  refine HC9.out.mono ?_
  rintro e9 w9 ⟨U,rfl,hk9,ho9⟩
  have HO9:=Lib.hid ho9
  clear ho9
  have HK9:=Lib.hid (HK8.out.trans hk9)
  have HBZ9:=Lib.hid (hk9.blk HBZ8.out (by omega))
  have hzZ9:=lt_heap HBZ9.out
  have HBT9:=Lib.hid (hk9.blk HBT8.out (by omega))
  have hzT9:=lt_heap HBT9.out
  have HBN9:=Lib.hid (hk9.blk HBN8.out (by omega))
  have hzN9:=lt_heap HBN9.out
  have HKL9:=Lib.hid hk9
  clear hk9
  have hne5:¬ w.heap.size=w2.heap.size:=by omega
  have hme5:¬ w2.heap.size=w.heap.size:=by omega
  have hne6:¬ w.heap.size=w7.heap.size:=by omega
  have hme6:¬ w7.heap.size=w.heap.size:=by omega
  have hne7:¬ w2.heap.size=w7.heap.size:=by omega
  have hme7:¬ w7.heap.size=w2.heap.size:=by omega
  obtain ⟨bN0,bN1,bN2,bN3,bN4⟩:=box_cells HBN9.out
  obtain ⟨fN0,fN1,fN2,fN3,fN4⟩:=box_frozen HBN9.out
  obtain ⟨bZ0,bZ1,bZ2,bZ3,bZ4⟩:=box_cells HBZ9.out
  obtain ⟨fZ0,fZ1,fZ2,fZ3,fZ4⟩:=box_frozen HBZ9.out
  go_wp2_with fail
  refine ret_node (B:=w.heap.size) tExB ⟨#[]⟩ 1 (hd l).pos (some ⟨w9.heap.size,0,none⟩) 1 1 Tryd.results136 rfl rfl (by repeat (with_reducible first | exact node_set ((Below.heap_setCell _ _ _ _ (by show w.heap.size≠w7.heap.size;omega)).trans HBZ9.out) _ _ _ _ _ _ _ | exact node_set HBZ9.out _ _ _ _ _ _ _ | refine (Below.heap_alloc _ _ _ (by simp;omega)).trans ?_)) ⟨⟨tExB,⟨#[]⟩,1,(hd l).pos,some ⟨w9.heap.size,0,none⟩,1,.cons U.op U.name U.n U.pos U.a U.cap U.kids .nil⟩,rfl,(by repeat (with_reducible first | exact HK9.out | refine Kp.alloc ?_ _ | refine Kp.set ?_ (by first | exact Nat.le_refl _ | (show w.heap.size≤w7.heap.size;omega)) _)),?_⟩
  have hr:PrS w9 B (.bad _ _):=HO9.out
  show PrS _ B (.bad _ _)
  exact (by repeat (with_reducible first | exact hr | refine PrS.alloc ?_ _ | refine PrS.set ?_ (by first | exact hB | (show B < w7.heap.size;omega)) _))
 ·have HRS:RowKit.Hid (PrS (((((w8.setCell ⟨w6.heap.size,0,none⟩ (.string tExB)).setCell ⟨w6.heap.size,1,none⟩ (.string ⟨#[]⟩)).setCell ⟨w6.heap.size,2,none⟩ (.int .i64 1)).setCell ⟨w6.heap.size,3,none⟩ (.int .i64 (hd l).pos)).setCell ⟨w6.heap.size,4,none⟩ (.slice none 0 0)) B (.bad (hd l.tail).pos 2)):=Lib.hid (by repeat (with_reducible first | exact HR8.out | refine PrS.set ?_ (by show B < w6.heap.size;omega) _))
  have HKS:RowKit.Hid (Kp B w (((((w8.setCell ⟨w6.heap.size,0,none⟩ (.string tExB)).setCell ⟨w6.heap.size,1,none⟩ (.string ⟨#[]⟩)).setCell ⟨w6.heap.size,2,none⟩ (.int .i64 1)).setCell ⟨w6.heap.size,3,none⟩ (.int .i64 (hd l).pos)).setCell ⟨w6.heap.size,4,none⟩ (.slice none 0 0))):=Lib.hid (by repeat (with_reducible first | exact HK8.out | refine Kp.set ?_ (by show w.heap.size≤w6.heap.size;omega) _))
  have hne104:¬ w.heap.size=w2.heap.size:=by omega
  have hme104:¬ w2.heap.size=w.heap.size:=by omega
  have hne105:¬ w.heap.size=w6.heap.size:=by omega
  have hme105:¬ w6.heap.size=w.heap.size:=by omega
  have hne106:¬ w2.heap.size=w6.heap.size:=by omega
  have hme106:¬ w6.heap.size=w2.heap.size:=by omega
  obtain ⟨⟨tT0,tT1,tT2,tT3⟩,tfT0,tfT1,tfT2,tfT3⟩:=tok_cells HBT8.out
  have HC9:=Lib.hid (rmust_b ⟨#[58]⟩ (((((w8.setCell ⟨w6.heap.size,0,none⟩ (.string tExB)).setCell ⟨w6.heap.size,1,none⟩ (.string ⟨#[]⟩)).setCell ⟨w6.heap.size,2,none⟩ (.int .i64 1)).setCell ⟨w6.heap.size,3,none⟩ (.int .i64 (hd l).pos)).setCell ⟨w6.heap.size,4,none⟩ (.slice none 0 0)) B _ _ HRS.out)
  go_wp2_with fail
  refine HC9.out.mono ?_
  rintro e9 w9 ⟨rfl,hk9,hr9⟩
  have HK9:=Lib.hid (HKS.out.trans hk9)
  have HR9:=Lib.hid hr9
  have HBZ9:=Lib.hid (hk9.blk (node_set_other HBZ8.out (by omega) _ _ _ _ _) (by omega))
  have hzZ9:=lt_heap HBZ9.out
  have HBT9:=Lib.hid (hk9.blk (node_set_other HBT8.out (by omega) _ _ _ _ _) (by omega))
  have hzT9:=lt_heap HBT9.out
  have HBN9:=Lib.hid (hk9.blk (node_set HBG8.out _ _ _ _ _ _ _) (by omega))
  have hzN9:=lt_heap HBN9.out
  clear hk9
  have HC10:=Lib.hid (HK.out w9 HR9.out)
  go_wp2_with fail
  refine HC10.out.mono ?_
  rintro e10 w10 ⟨U,rfl,hk10,ho10⟩
  have HO10:=Lib.hid ho10
  clear ho10
  have HK10:=Lib.hid (HK9.out.trans hk10)
  have HBZ10:=Lib.hid (hk10.blk HBZ9.out (by omega))
  have hzZ10:=lt_heap HBZ10.out
  have HBT10:=Lib.hid (hk10.blk HBT9.out (by omega))
  have hzT10:=lt_heap HBT10.out
  have HBN10:=Lib.hid (hk10.blk HBN9.out (by omega))
  have hzN10:=lt_heap HBN10.out
  have HKL10:=Lib.hid hk10
  clear hk10
  have hne107:¬ w.heap.size=w2.heap.size:=by omega
  have hme107:¬ w2.heap.size=w.heap.size:=by omega
  have hne108:¬ w.heap.size=w6.heap.size:=by omega
  have hme108:¬ w6.heap.size=w.heap.size:=by omega
  have hne109:¬ w2.heap.size=w6.heap.size:=by omega
  have hme109:¬ w6.heap.size=w2.heap.size:=by omega
  obtain ⟨bN0,bN1,bN2,bN3,bN4⟩:=box_cells HBN10.out
  obtain ⟨fN0,fN1,fN2,fN3,fN4⟩:=box_frozen HBN10.out
  obtain ⟨bZ0,bZ1,bZ2,bZ3,bZ4⟩:=box_cells HBZ10.out
  obtain ⟨fZ0,fZ1,fZ2,fZ3,fZ4⟩:=box_frozen HBZ10.out
  go_wp2_with fail
  refine ret_node (B:=w.heap.size) tExB ⟨#[]⟩ 1 (hd l).pos (some ⟨w10.heap.size,0,none⟩) 1 1 Tryd.results136 rfl rfl (by repeat (with_reducible first | exact node_set ((Below.heap_setCell _ _ _ _ (by show w.heap.size≠w6.heap.size;omega)).trans HBZ10.out) _ _ _ _ _ _ _ | exact node_set HBZ10.out _ _ _ _ _ _ _ | refine (Below.heap_alloc _ _ _ (by simp;omega)).trans ?_)) ⟨⟨tExB,⟨#[]⟩,1,(hd l).pos,some ⟨w10.heap.size,0,none⟩,1,.cons U.op U.name U.n U.pos U.a U.cap U.kids .nil⟩,rfl,(by repeat (with_reducible first | exact HK10.out | refine Kp.alloc ?_ _ | refine Kp.set ?_ (by first | exact Nat.le_refl _ | (show w.heap.size≤w6.heap.size;omega)) _)),?_⟩
  have hr:PrS w10 B (.bad _ _):=HO10.out
  show PrS _ B (.bad _ _)
  exact (by repeat (with_reducible first | exact hr | refine PrS.alloc ?_ _ | refine PrS.set ?_ (by first | exact hB | (show B < w6.heap.size;omega)) _))
end Go.Proofs.YtmlmjopfbohglaaDoor
