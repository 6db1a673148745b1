/- Parts of the proof: RpJ. -/
import Derived.Test.YtmlmjopfbohglaaDoorWd30
namespace Go.Proofs.YtmlmjopfbohglaaDoor
open Go.RowKit
theorem wrap_d {d:Nat} (h:(d:Int) < 30):IntKind.wrap .i64 ((d:Int)+1)=(d:Int)+1:=by
 have h0:(0:Int)≤d:=Int.natCast_nonneg d
 simp [IntKind.wrap,IntKind.bits,IntKind.signed]
 omega
set_option maxRecDepth 100000 in
set_option maxHeartbeats 16000000 in
theorem run_deep (l:List Tok) (w:World) (B d:Nat) (hS:PrS w B (.good l)) (hdd:¬ (d:Int) < 30):Calls Tryd.prog 136 #[.pointer (some ⟨B,0,none⟩),.int .i64 d] w (PostR B w (.bad (hd l).pos 4)):=by
 have hc5:=cellsNode
 have hc4:=cellsTok
 have hB:=hS.lt
 have q3:=tok_f3
 have q0:=tok_f0
 have q2:=tok_f2
 have q1:=tok_f1
 have HS:=Lib.hid hS
 clear hS
 go_enter Tryd.func136,Tryd.ntmps136
 have HC1:=Lib.hid (renter_deep l d (w.alloc (boxOf ⟨#[]⟩ ⟨#[]⟩ 0 0 none 0 0)) B hdd (HS.out.alloc _))
 go_wp2_with fail
 refine HC1.out.mono ?_
 rintro e1 w1 ⟨rfl,hk1,hr1⟩
 have HK1:=Lib.hid (((Kp.refl B w).alloc _).trans hk1)
 have HR1:=Lib.hid hr1
 have HBZ1:=Lib.hid (hk1.blk (new_at w (boxOf ⟨#[]⟩ ⟨#[]⟩ 0 0 none 0 0)) (by omega))
 have hzZ1:=lt_heap HBZ1.out
 clear hk1
 obtain ⟨bZ0,bZ1,bZ2,bZ3,bZ4⟩:=box_cells HBZ1.out
 obtain ⟨fZ0,fZ1,fZ2,fZ3,fZ4⟩:=box_frozen HBZ1.out
 go_wp2_with fail
 refine ret_node (B:=w.heap.size) ⟨#[]⟩ ⟨#[]⟩ 0 0 none 0 0 Tryd.results136 rfl rfl (by repeat (with_reducible first | exact node_set HBZ1.out _ _ _ _ _ _ _ | refine (Below.heap_alloc _ _ _ (by simp;omega)).trans ?_)) ⟨⟨⟨#[]⟩,⟨#[]⟩,0,0,none,0,.nil⟩,rfl,(by repeat (with_reducible first | exact HK1.out | refine Kp.alloc ?_ _ | refine Kp.set ?_ (Nat.le_refl _) _)),?_⟩
 show PrS _ B (.bad _ _)
 exact (by repeat (with_reducible first | exact HR1.out | refine PrS.alloc ?_ _ | refine PrS.set ?_ hB _))
set_option maxRecDepth 100000 in
set_option maxHeartbeats 16000000 in
theorem run_true (l:List Tok) (w:World) (B d:Nat) (hS:PrS w B (.good l)) (hdd:(d:Int) < 30) (hex:ordOf [101,120] l = -1) (hal:ordOf [97,108,108] l = -1) (h0:((wrd l).toList == (ByteArray.mk #[126]).toList)=false) (h1:((wrd l).toList == (ByteArray.mk #[116,114,117,101]).toList)=true)  : Calls Tryd.prog 136 #[.pointer (some ⟨B,0,none⟩),.int .i64 d] w (PostR B w (.ok (mkN (hd l).text emp0 0 (hd l).pos []) l.tail)):=by
 have hk4:=word_kind h1 (by decide +kernel)
 have hc5:=cellsNode
 have hc4:=cellsTok
 have hB:=hS.lt
 have q3:=tok_f3
 have q0:=tok_f0
 have q2:=tok_f2
 have q1:=tok_f1
 have HS:=Lib.hid hS
 clear hS
 go_enter Tryd.func136,Tryd.ntmps136
 have HC1:=Lib.hid (renter_ok l d (w.alloc (boxOf ⟨#[]⟩ ⟨#[]⟩ 0 0 none 0 0)) B hdd (HS.out.alloc _))
 go_wp2_with fail
 refine HC1.out.mono ?_
 rintro e1 w1 ⟨rfl,hk1,hr1⟩
 have HK1:=Lib.hid (((Kp.refl B w).alloc _).trans hk1)
 have HR1:=Lib.hid hr1
 have HBZ1:=Lib.hid (hk1.blk (new_at w (boxOf ⟨#[]⟩ ⟨#[]⟩ 0 0 none 0 0)) (by omega))
 have hzZ1:=lt_heap HBZ1.out
 clear hk1
 have HC2:=Lib.hid (rnow_g l w1 B HR1.out)
 go_wp2_with fail
 refine HC2.out.mono ?_
 rintro e2 w2 ⟨rfl,hb2⟩
 have HK2:=Lib.hid (HK1.out.below hb2)
 have HR2:=Lib.hid (HR1.out.below hb2)
 have HBZ2:=Lib.hid ((hb2.block _ (lt_heap HBZ1.out)).trans HBZ1.out)
 have hzZ2:=lt_heap HBZ2.out
 clear hb2
 obtain ⟨⟨tT0,tT1,tT2,tT3⟩,tfT0,tfT1,tfT2,tfT3⟩:=tok_cells (new_at w2 (tokBox (hd l).kind (hd l).text (hd l).n (hd l).pos))
 have HC3:=Lib.hid (rord_ex_g l (w2.alloc (tokBox (hd l).kind (hd l).text (hd l).n (hd l).pos)) B (HR2.out.alloc _))
 rw [hex] at HC3;clear hex
 go_wp2_with fail
 refine HC3.out.mono ?_
 rintro e3 w3 ⟨rfl,hb3⟩
 have HK3:=Lib.hid ((HK2.out.alloc _).below hb3)
 have HR3:=Lib.hid ((HR2.out.alloc _).below hb3)
 have HBZ3:=Lib.hid ((hb3.block _ (lt_heap ((Below.heap_alloc _ _ _ (lt_heap HBZ2.out)).trans HBZ2.out))).trans ((Below.heap_alloc _ _ _ (lt_heap HBZ2.out)).trans HBZ2.out))
 have hzZ3:=lt_heap HBZ3.out
 have HBT3:=Lib.hid ((hb3.block _ (lt_heap (new_at w2 (tokBox (hd l).kind (hd l).text (hd l).n (hd l).pos)))).trans (new_at w2 (tokBox (hd l).kind (hd l).text (hd l).n (hd l).pos)))
 have hzT3:=lt_heap HBT3.out
 clear hb3
 have HC4:=Lib.hid (rord_all_g l w3 B HR3.out)
 rw [hal] at HC4;clear hal
 go_wp2_with fail
 refine HC4.out.mono ?_
 rintro e4 w4 ⟨rfl,hb4⟩
 have HK4:=Lib.hid (HK3.out.below hb4)
 have HR4:=Lib.hid (HR3.out.below hb4)
 have HBZ4:=Lib.hid ((hb4.block _ (lt_heap HBZ3.out)).trans HBZ3.out)
 have hzZ4:=lt_heap HBZ4.out
 have HBT4:=Lib.hid ((hb4.block _ (lt_heap HBT3.out)).trans HBT3.out)
 have hzT4:=lt_heap HBT4.out
 clear hb4
 have HC5:=Lib.hid (rtake_no l ⟨#[126]⟩ w4 B h0 HR4.out)
 go_wp2_with fail
 refine HC5.out.mono ?_
 rintro e5 w5 ⟨rfl,hk5,hr5⟩
 have HK5:=Lib.hid (HK4.out.trans hk5)
 have HR5:=Lib.hid hr5
 have HBZ5:=Lib.hid (hk5.blk HBZ4.out (by omega))
 have hzZ5:=lt_heap HBZ5.out
 have HBT5:=Lib.hid (hk5.blk HBT4.out (by omega))
 have hzT5:=lt_heap HBT5.out
 clear hk5
 have HC6:=Lib.hid (ris_yes l ⟨#[116,114,117,101]⟩ w5 B (by decide +kernel) h1 HR5.out)
 go_wp2_with fail
 refine HC6.out.mono ?_
 rintro e6 w6 ⟨rfl,hb6⟩
 have HK6:=Lib.hid (HK5.out.below hb6)
 have HR6:=Lib.hid (HR5.out.below hb6)
 have HBZ6:=Lib.hid ((hb6.block _ (lt_heap HBZ5.out)).trans HBZ5.out)
 have hzZ6:=lt_heap HBZ6.out
 have HBT6:=Lib.hid ((hb6.block _ (lt_heap HBT5.out)).trans HBT5.out)
 have hzT6:=lt_heap HBT6.out
 clear hb6
 have HC7:=Lib.hid (rnext_g l w6 B hk4 HR6.out)
 go_wp2_with fail
 refine HC7.out.mono ?_
 rintro e7 w7 ⟨rfl,hk7,hr7⟩
 have HK7:=Lib.hid (HK6.out.trans hk7)
 have HR7:=Lib.hid hr7
 have HBZ7:=Lib.hid (hk7.blk HBZ6.out (by omega))
 have hzZ7:=lt_heap HBZ7.out
 have HBT7:=Lib.hid (hk7.blk HBT6.out (by omega))
 have hzT7:=lt_heap HBT7.out
 clear hk7
 have hne1:¬ w.heap.size=w2.heap.size:=by omega
 have hme1:¬ w2.heap.size=w.heap.size:=by omega
 obtain ⟨⟨tT0,tT1,tT2,tT3⟩,tfT0,tfT1,tfT2,tfT3⟩:=tok_cells HBT7.out
 obtain ⟨bZ0,bZ1,bZ2,bZ3,bZ4⟩:=box_cells HBZ7.out
 obtain ⟨fZ0,fZ1,fZ2,fZ3,fZ4⟩:=box_frozen HBZ7.out
 go_wp2_with fail
 refine ret_node (B:=w.heap.size) (hd l).text ⟨#[]⟩ 0 (hd l).pos none 0 0 Tryd.results136 rfl rfl (by repeat (with_reducible first | exact node_set HBZ7.out _ _ _ _ _ _ _ | refine (Below.heap_alloc _ _ _ (by simp;omega)).trans ?_)) ⟨⟨(hd l).text,⟨#[]⟩,0,(hd l).pos,none,0,.nil⟩,rfl,(by repeat (with_reducible first | exact HK7.out | refine Kp.alloc ?_ _ | refine Kp.set ?_ (Nat.le_refl _) _)),?_⟩
 exact ⟨(by repeat (with_reducible first | exact HR7.out | refine PrS.alloc ?_ _ | refine PrS.set ?_ hB _)),Nd.Good.leaf _ _ _ _ _ _ _ _,rfl⟩
set_option maxRecDepth 100000 in
set_option maxHeartbeats 16000000 in
theorem run_false (l:List Tok) (w:World) (B d:Nat) (hS:PrS w B (.good l)) (hdd:(d:Int) < 30) (hex:ordOf [101,120] l = -1) (hal:ordOf [97,108,108] l = -1) (h0:((wrd l).toList == (ByteArray.mk #[126]).toList)=false) (h1:((wrd l).toList == (ByteArray.mk #[116,114,117,101]).toList)=false) (h2:((wrd l).toList == (ByteArray.mk #[102,97,108,115,101]).toList)=true)  : Calls Tryd.prog 136 #[.pointer (some ⟨B,0,none⟩),.int .i64 d] w (PostR B w (.ok (mkN (hd l).text emp0 0 (hd l).pos []) l.tail)):=by
 have hk4:=word_kind h2 (by decide +kernel)
 have hc5:=cellsNode
 have hc4:=cellsTok
 have hB:=hS.lt
 have q3:=tok_f3
 have q0:=tok_f0
 have q2:=tok_f2
 have q1:=tok_f1
 have HS:=Lib.hid hS
 clear hS
 go_enter Tryd.func136,Tryd.ntmps136
 have HC1:=Lib.hid (renter_ok l d (w.alloc (boxOf ⟨#[]⟩ ⟨#[]⟩ 0 0 none 0 0)) B hdd (HS.out.alloc _))
 go_wp2_with fail
 refine HC1.out.mono ?_
 rintro e1 w1 ⟨rfl,hk1,hr1⟩
 have HK1:=Lib.hid (((Kp.refl B w).alloc _).trans hk1)
 have HR1:=Lib.hid hr1
 have HBZ1:=Lib.hid (hk1.blk (new_at w (boxOf ⟨#[]⟩ ⟨#[]⟩ 0 0 none 0 0)) (by omega))
 have hzZ1:=lt_heap HBZ1.out
 clear hk1
 have HC2:=Lib.hid (rnow_g l w1 B HR1.out)
 go_wp2_with fail
 refine HC2.out.mono ?_
 rintro e2 w2 ⟨rfl,hb2⟩
 have HK2:=Lib.hid (HK1.out.below hb2)
 have HR2:=Lib.hid (HR1.out.below hb2)
 have HBZ2:=Lib.hid ((hb2.block _ (lt_heap HBZ1.out)).trans HBZ1.out)
 have hzZ2:=lt_heap HBZ2.out
 clear hb2
 obtain ⟨⟨tT0,tT1,tT2,tT3⟩,tfT0,tfT1,tfT2,tfT3⟩:=tok_cells (new_at w2 (tokBox (hd l).kind (hd l).text (hd l).n (hd l).pos))
 have HC3:=Lib.hid (rord_ex_g l (w2.alloc (tokBox (hd l).kind (hd l).text (hd l).n (hd l).pos)) B (HR2.out.alloc _))
 rw [hex] at HC3;clear hex
 go_wp2_with fail
 refine HC3.out.mono ?_
 rintro e3 w3 ⟨rfl,hb3⟩
 have HK3:=Lib.hid ((HK2.out.alloc _).below hb3)
 have HR3:=Lib.hid ((HR2.out.alloc _).below hb3)
 have HBZ3:=Lib.hid ((hb3.block _ (lt_heap ((Below.heap_alloc _ _ _ (lt_heap HBZ2.out)).trans HBZ2.out))).trans ((Below.heap_alloc _ _ _ (lt_heap HBZ2.out)).trans HBZ2.out))
 have hzZ3:=lt_heap HBZ3.out
 have HBT3:=Lib.hid ((hb3.block _ (lt_heap (new_at w2 (tokBox (hd l).kind (hd l).text (hd l).n (hd l).pos)))).trans (new_at w2 (tokBox (hd l).kind (hd l).text (hd l).n (hd l).pos)))
 have hzT3:=lt_heap HBT3.out
 clear hb3
 have HC4:=Lib.hid (rord_all_g l w3 B HR3.out)
 rw [hal] at HC4;clear hal
 go_wp2_with fail
 refine HC4.out.mono ?_
 rintro e4 w4 ⟨rfl,hb4⟩
 have HK4:=Lib.hid (HK3.out.below hb4)
 have HR4:=Lib.hid (HR3.out.below hb4)
 have HBZ4:=Lib.hid ((hb4.block _ (lt_heap HBZ3.out)).trans HBZ3.out)
 have hzZ4:=lt_heap HBZ4.out
 have HBT4:=Lib.hid ((hb4.block _ (lt_heap HBT3.out)).trans HBT3.out)
 have hzT4:=lt_heap HBT4.out
 clear hb4
 have HC5:=Lib.hid (rtake_no l ⟨#[126]⟩ w4 B h0 HR4.out)
 go_wp2_with fail
 refine HC5.out.mono ?_
 rintro e5 w5 ⟨rfl,hk5,hr5⟩
 have HK5:=Lib.hid (HK4.out.trans hk5)
 have HR5:=Lib.hid hr5
 have HBZ5:=Lib.hid (hk5.blk HBZ4.out (by omega))
 have hzZ5:=lt_heap HBZ5.out
 have HBT5:=Lib.hid (hk5.blk HBT4.out (by omega))
 have hzT5:=lt_heap HBT5.out
 clear hk5
 have HC6:=Lib.hid (ris_no l ⟨#[116,114,117,101]⟩ w5 B h1 HR5.out)
 go_wp2_with fail
 refine HC6.out.mono ?_
 rintro e6 w6 ⟨rfl,hb6⟩
 have HK6:=Lib.hid (HK5.out.below hb6)
 have HR6:=Lib.hid (HR5.out.below hb6)
 have HBZ6:=Lib.hid ((hb6.block _ (lt_heap HBZ5.out)).trans HBZ5.out)
 have hzZ6:=lt_heap HBZ6.out
 have HBT6:=Lib.hid ((hb6.block _ (lt_heap HBT5.out)).trans HBT5.out)
 have hzT6:=lt_heap HBT6.out
 clear hb6
 have HC7:=Lib.hid (ris_yes l ⟨#[102,97,108,115,101]⟩ w6 B (by decide +kernel) h2 HR6.out)
 go_wp2_with fail
 refine HC7.out.mono ?_
 rintro e7 w7 ⟨rfl,hb7⟩
 have HK7:=Lib.hid (HK6.out.below hb7)
 have HR7:=Lib.hid (HR6.out.below hb7)
 have HBZ7:=Lib.hid ((hb7.block _ (lt_heap HBZ6.out)).trans HBZ6.out)
 have hzZ7:=lt_heap HBZ7.out
 have HBT7:=Lib.hid ((hb7.block _ (lt_heap HBT6.out)).trans HBT6.out)
 have hzT7:=lt_heap HBT7.out
 clear hb7
 have HC8:=Lib.hid (rnext_g l w7 B hk4 HR7.out)
 go_wp2_with fail
 refine HC8.out.mono ?_
 rintro e8 w8 ⟨rfl,hk8,hr8⟩
 have HK8:=Lib.hid (HK7.out.trans hk8)
 have HR8:=Lib.hid hr8
 have HBZ8:=Lib.hid (hk8.blk HBZ7.out (by omega))
 have hzZ8:=lt_heap HBZ8.out
 have HBT8:=Lib.hid (hk8.blk HBT7.out (by omega))
 have hzT8:=lt_heap HBT8.out
 clear hk8
 have hne1:¬ w.heap.size=w2.heap.size:=by omega
 have hme1:¬ w2.heap.size=w.heap.size:=by omega
 obtain ⟨⟨tT0,tT1,tT2,tT3⟩,tfT0,tfT1,tfT2,tfT3⟩:=tok_cells HBT8.out
 obtain ⟨bZ0,bZ1,bZ2,bZ3,bZ4⟩:=box_cells HBZ8.out
 obtain ⟨fZ0,fZ1,fZ2,fZ3,fZ4⟩:=box_frozen HBZ8.out
 go_wp2_with fail
 refine ret_node (B:=w.heap.size) (hd l).text ⟨#[]⟩ 0 (hd l).pos none 0 0 Tryd.results136 rfl rfl (by repeat (with_reducible first | exact node_set HBZ8.out _ _ _ _ _ _ _ | refine (Below.heap_alloc _ _ _ (by simp;omega)).trans ?_)) ⟨⟨(hd l).text,⟨#[]⟩,0,(hd l).pos,none,0,.nil⟩,rfl,(by repeat (with_reducible first | exact HK8.out | refine Kp.alloc ?_ _ | refine Kp.set ?_ (Nat.le_refl _) _)),?_⟩
 exact ⟨(by repeat (with_reducible first | exact HR8.out | refine PrS.alloc ?_ _ | refine PrS.set ?_ hB _)),Nd.Good.leaf _ _ _ _ _ _ _ _,rfl⟩
set_option maxRecDepth 100000 in
set_option maxHeartbeats 16000000 in
theorem run_paren (rk r:Res Nd) (l:List Tok) (w:World) (B d:Nat) (hS:PrS w B (.good l)) (hdd:(d:Int) < 30) (hex:ordOf [101,120] l = -1) (hal:ordOf [97,108,108] l = -1) (h0:((wrd l).toList == (ByteArray.mk #[126]).toList)=false) (h1:((wrd l).toList == (ByteArray.mk #[116,114,117,101]).toList)=false) (h2:((wrd l).toList == (ByteArray.mk #[102,97,108,115,101]).toList)=false) (h3:((wrd l).toList == (ByteArray.mk #[40]).toList)=true) (hk:∀ W,PrS W B (.good l.tail)→Calls Tryd.prog 30 #[.pointer (some ⟨B,0,none⟩),.int .i64 ((d:Int)+1)] W (PostR B W rk)) (h5:∀ t l',rk=.ok t l'→((wrd l').toList == (ByteArray.mk #[41]).toList)=true→r=.ok t l'.tail) (h6:∀ t l',rk=.ok t l'→((wrd l').toList == (ByteArray.mk #[41]).toList)=false→r=.bad (hd l').pos 2) (h7:∀ a e,rk=.bad a e→r=.bad a e):Calls Tryd.prog 136 #[.pointer (some ⟨B,0,none⟩),.int .i64 d] w (PostR B w (r)):=by
 have HK:=Lib.hid hk
 have H5:=Lib.hid h5
 have H6:=Lib.hid h6
 have H7:=Lib.hid h7
 clear hk h5 h6 h7
 have hc5:=cellsNode
 have hc4:=cellsTok
 have hB:=hS.lt
 have q3:=tok_f3
 have q0:=tok_f0
 have q2:=tok_f2
 have q1:=tok_f1
 have HS:=Lib.hid hS
 clear hS
 go_enter Tryd.func136,Tryd.ntmps136
 have HC1:=Lib.hid (renter_ok l d (w.alloc (boxOf ⟨#[]⟩ ⟨#[]⟩ 0 0 none 0 0)) B hdd (HS.out.alloc _))
 go_wp2_with fail
 refine HC1.out.mono ?_
 rintro e1 w1 ⟨rfl,hk1,hr1⟩
 have HK1:=Lib.hid (((Kp.refl B w).alloc _).trans hk1)
 have HR1:=Lib.hid hr1
 have HBZ1:=Lib.hid (hk1.blk (new_at w (boxOf ⟨#[]⟩ ⟨#[]⟩ 0 0 none 0 0)) (by omega))
 have hzZ1:=lt_heap HBZ1.out
 clear hk1
 have HC2:=Lib.hid (rnow_g l w1 B HR1.out)
 go_wp2_with fail
 refine HC2.out.mono ?_
 rintro e2 w2 ⟨rfl,hb2⟩
 have HK2:=Lib.hid (HK1.out.below hb2)
 have HR2:=Lib.hid (HR1.out.below hb2)
 have HBZ2:=Lib.hid ((hb2.block _ (lt_heap HBZ1.out)).trans HBZ1.out)
 have hzZ2:=lt_heap HBZ2.out
 clear hb2
 obtain ⟨⟨tT0,tT1,tT2,tT3⟩,tfT0,tfT1,tfT2,tfT3⟩:=tok_cells (new_at w2 (tokBox (hd l).kind (hd l).text (hd l).n (hd l).pos))
 have HC3:=Lib.hid (rord_ex_g l (w2.alloc (tokBox (hd l).kind (hd l).text (hd l).n (hd l).pos)) B (HR2.out.alloc _))
 rw [hex] at HC3;clear hex
 go_wp2_with fail
 refine HC3.out.mono ?_
 rintro e3 w3 ⟨rfl,hb3⟩
 have HK3:=Lib.hid ((HK2.out.alloc _).below hb3)
 have HR3:=Lib.hid ((HR2.out.alloc _).below hb3)
 have HBZ3:=Lib.hid ((hb3.block _ (lt_heap ((Below.heap_alloc _ _ _ (lt_heap HBZ2.out)).trans HBZ2.out))).trans ((Below.heap_alloc _ _ _ (lt_heap HBZ2.out)).trans HBZ2.out))
 have hzZ3:=lt_heap HBZ3.out
 have HBT3:=Lib.hid ((hb3.block _ (lt_heap (new_at w2 (tokBox (hd l).kind (hd l).text (hd l).n (hd l).pos)))).trans (new_at w2 (tokBox (hd l).kind (hd l).text (hd l).n (hd l).pos)))
 have hzT3:=lt_heap HBT3.out
 clear hb3
 have HC4:=Lib.hid (rord_all_g l w3 B HR3.out)
 rw [hal] at HC4;clear hal
 go_wp2_with fail
 refine HC4.out.mono ?_
 rintro e4 w4 ⟨rfl,hb4⟩
 have HK4:=Lib.hid (HK3.out.below hb4)
 have HR4:=Lib.hid (HR3.out.below hb4)
 have HBZ4:=Lib.hid ((hb4.block _ (lt_heap HBZ3.out)).trans HBZ3.out)
 have hzZ4:=lt_heap HBZ4.out
 have HBT4:=Lib.hid ((hb4.block _ (lt_heap HBT3.out)).trans HBT3.out)
 have hzT4:=lt_heap HBT4.out
 clear hb4
 have HC5:=Lib.hid (rtake_no l ⟨#[126]⟩ w4 B h0 HR4.out)
 go_wp2_with fail
 refine HC5.out.mono ?_
 rintro e5 w5 ⟨rfl,hk5,hr5⟩
 have HK5:=Lib.hid (HK4.out.trans hk5)
 have HR5:=Lib.hid hr5
 have HBZ5:=Lib.hid (hk5.blk HBZ4.out (by omega))
 have hzZ5:=lt_heap HBZ5.out
 have HBT5:=Lib.hid (hk5.blk HBT4.out (by omega))
 have hzT5:=lt_heap HBT5.out
 clear hk5
 have HC6:=Lib.hid (ris_no l ⟨#[116,114,117,101]⟩ w5 B h1 HR5.out)
 go_wp2_with fail
 refine HC6.out.mono ?_
 rintro e6 w6 ⟨rfl,hb6⟩
 have HK6:=Lib.hid (HK5.out.below hb6)
 have HR6:=Lib.hid (HR5.out.below hb6)
 have HBZ6:=Lib.hid ((hb6.block _ (lt_heap HBZ5.out)).trans HBZ5.out)
 have hzZ6:=lt_heap HBZ6.out
 have HBT6:=Lib.hid ((hb6.block _ (lt_heap HBT5.out)).trans HBT5.out)
 have hzT6:=lt_heap HBT6.out
 clear hb6
 have HC7:=Lib.hid (ris_no l ⟨#[102,97,108,115,101]⟩ w6 B h2 HR6.out)
 go_wp2_with fail
 refine HC7.out.mono ?_
 rintro e7 w7 ⟨rfl,hb7⟩
 have HK7:=Lib.hid (HK6.out.below hb7)
 have HR7:=Lib.hid (HR6.out.below hb7)
 have HBZ7:=Lib.hid ((hb7.block _ (lt_heap HBZ6.out)).trans HBZ6.out)
 have hzZ7:=lt_heap HBZ7.out
 have HBT7:=Lib.hid ((hb7.block _ (lt_heap HBT6.out)).trans HBT6.out)
 have hzT7:=lt_heap HBT7.out
 clear hb7
 have HC8:=Lib.hid (rtake_yes l ⟨#[40]⟩ w7 B (by decide +kernel) h3 HR7.out)
 go_wp2_with fail
 refine HC8.out.mono ?_
 rintro e8 w8 ⟨rfl,hk8,hr8⟩
 have HK8:=Lib.hid (HK7.out.trans hk8)
 have HR8:=Lib.hid hr8
 have HBZ8:=Lib.hid (hk8.blk HBZ7.out (by omega))
 have hzZ8:=lt_heap HBZ8.out
 have HBT8:=Lib.hid (hk8.blk HBT7.out (by omega))
 have hzT8:=lt_heap HBT8.out
 clear hk8
 have HC9:=Lib.hid (HK.out w8 HR8.out)
 go_wp2_with fail
 refine HC9.out.mono ?_
 rintro e9 w9 ⟨T,rfl,hk9,ho9⟩
 have HO9:=Lib.hid ho9
 clear ho9
 have HK9:=Lib.hid (HK8.out.trans hk9)
 have HBZ9:=Lib.hid (hk9.blk HBZ8.out (by omega))
 have hzZ9:=lt_heap HBZ9.out
 have HBT9:=Lib.hid (hk9.blk HBT8.out (by omega))
 have hzT9:=lt_heap HBT9.out
 have HKL9:=Lib.hid hk9
 clear hk9
 cases rk with
 | ok t l' =>
  cases hc:((wrd l').toList == (ByteArray.mk #[41]).toList) with
  | true =>
   obtain ⟨hr,hg,hs⟩:=HO9.out
   have HG:=Lib.hid hg
   have HST:=Lib.hid hs
   have HR9:=Lib.hid hr
   clear hr hg hs HO9 HK
   have HL9:=Lib.hid (HG.out.lt)
   have HC10:=Lib.hid (rmust_yes l' ⟨#[41]⟩ (w9.alloc (boxOf T.op T.name T.n T.pos T.a T.kids.len T.cap)) B (by decide +kernel) hc (HR9.out.alloc _))
   go_wp2_with fail
   refine HC10.out.mono ?_
   rintro e10 w10 ⟨rfl,hk10,hr10⟩
   have HMN10:=Lib.hid ((Kp.refl B (w9.alloc (boxOf T.op T.name T.n T.pos T.a T.kids.len T.cap))).trans hk10)
   have HK10:=Lib.hid ((HK9.out.alloc _).trans hk10)
   have HR10:=Lib.hid hr10
   have HBZ10:=Lib.hid (hk10.blk ((Below.heap_alloc _ _ _ (lt_heap HBZ9.out)).trans HBZ9.out) (by omega))
   have hzZ10:=lt_heap HBZ10.out
   have HBT10:=Lib.hid (hk10.blk ((Below.heap_alloc _ _ _ (lt_heap HBT9.out)).trans HBT9.out) (by omega))
   have hzT10:=lt_heap HBT10.out
   have HBN10:=Lib.hid (hk10.blk (new_at w9 (boxOf T.op T.name T.n T.pos T.a T.kids.len T.cap)) (by omega))
   have hzN10:=lt_heap HBN10.out
   clear hk10
   have hne1:¬ w.heap.size=w2.heap.size:=by omega
   have hme1:¬ w2.heap.size=w.heap.size:=by omega
   have hne2:¬ w.heap.size=w9.heap.size:=by omega
   have hme2:¬ w9.heap.size=w.heap.size:=by omega
   have hne3:¬ w2.heap.size=w9.heap.size:=by omega
   have hme3:¬ w9.heap.size=w2.heap.size:=by omega
   obtain ⟨bN0,bN1,bN2,bN3,bN4⟩:=box_cells HBN10.out
   obtain ⟨fN0,fN1,fN2,fN3,fN4⟩:=box_frozen HBN10.out
   obtain ⟨bZ0,bZ1,bZ2,bZ3,bZ4⟩:=box_cells HBZ10.out
   obtain ⟨fZ0,fZ1,fZ2,fZ3,fZ4⟩:=box_frozen HBZ10.out
   go_wp2_with fail
   refine ret_node (B:=w.heap.size) T.op T.name T.n T.pos T.a T.kids.len T.cap Tryd.results136 rfl rfl (by repeat (with_reducible first | exact node_set HBZ10.out _ _ _ _ _ _ _ | refine (Below.heap_alloc _ _ _ (by simp;omega)).trans ?_)) ⟨T,rfl,(by repeat (with_reducible first | exact HK10.out | refine Kp.alloc ?_ _ | refine Kp.set ?_ (Nat.le_refl _) _)),?_⟩
   rw [H5.out t l' rfl hc]
   refine ⟨(by repeat (with_reducible first | exact HR10.out | refine PrS.alloc ?_ _ | refine PrS.set ?_ hB _)),?_,HST.out⟩
   refine Nd.Good.mono (S:=fun b=>w.heap.size+1≤b) ?_ (fun b hb=>by omega)
   exact (((HG.out.mono (S':=fun b=>w.heap.size+1≤b) (fun b hb=>by have h5:=hb;omega)).from (From.alloc _ _ _)).from (HMN10.out.from (S:=fun b=>w.heap.size+1≤b) (fun h=>absurd h (by omega)))).from (set5_from _ (by omega) _ _ _ _ _)
  | false =>
   obtain ⟨hr,hg,hs⟩:=HO9.out
   have HG:=Lib.hid hg
   have HST:=Lib.hid hs
   have HR9:=Lib.hid hr
   clear hr hg hs HO9 HK
   have HL9:=Lib.hid (HG.out.lt)
   have HC10:=Lib.hid (rmust_no l' ⟨#[41]⟩ (w9.alloc (boxOf T.op T.name T.n T.pos T.a T.kids.len T.cap)) B hc (HR9.out.alloc _))
   go_wp2_with fail
   refine HC10.out.mono ?_
   rintro e10 w10 ⟨rfl,hk10,hr10⟩
   have HMN10:=Lib.hid ((Kp.refl B (w9.alloc (boxOf T.op T.name T.n T.pos T.a T.kids.len T.cap))).trans hk10)
   have HK10:=Lib.hid ((HK9.out.alloc _).trans hk10)
   have HR10:=Lib.hid hr10
   have HBZ10:=Lib.hid (hk10.blk ((Below.heap_alloc _ _ _ (lt_heap HBZ9.out)).trans HBZ9.out) (by omega))
   have hzZ10:=lt_heap HBZ10.out
   have HBT10:=Lib.hid (hk10.blk ((Below.heap_alloc _ _ _ (lt_heap HBT9.out)).trans HBT9.out) (by omega))
   have hzT10:=lt_heap HBT10.out
   have HBN10:=Lib.hid (hk10.blk (new_at w9 (boxOf T.op T.name T.n T.pos T.a T.kids.len T.cap)) (by omega))
   have hzN10:=lt_heap HBN10.out
   clear hk10
   have hne1:¬ w.heap.size=w2.heap.size:=by omega
   have hme1:¬ w2.heap.size=w.heap.size:=by omega
   have hne2:¬ w.heap.size=w9.heap.size:=by omega
   have hme2:¬ w9.heap.size=w.heap.size:=by omega
   have hne3:¬ w2.heap.size=w9.heap.size:=by omega
   have hme3:¬ w9.heap.size=w2.heap.size:=by omega
   obtain ⟨bN0,bN1,bN2,bN3,bN4⟩:=box_cells HBN10.out
   obtain ⟨fN0,fN1,fN2,fN3,fN4⟩:=box_frozen HBN10.out
   obtain ⟨bZ0,bZ1,bZ2,bZ3,bZ4⟩:=box_cells HBZ10.out
   obtain ⟨fZ0,fZ1,fZ2,fZ3,fZ4⟩:=box_frozen HBZ10.out
   go_wp2_with fail
   refine ret_node (B:=w.heap.size) T.op T.name T.n T.pos T.a T.kids.len T.cap Tryd.results136 rfl rfl (by repeat (with_reducible first | exact node_set HBZ10.out _ _ _ _ _ _ _ | refine (Below.heap_alloc _ _ _ (by simp;omega)).trans ?_)) ⟨T,rfl,(by repeat (with_reducible first | exact HK10.out | refine Kp.alloc ?_ _ | refine Kp.set ?_ (Nat.le_refl _) _)),?_⟩
   rw [H6.out t l' rfl hc]
   show PrS _ B (.bad _ _)
   exact (by repeat (with_reducible first | exact HR10.out | refine PrS.alloc ?_ _ | refine PrS.set ?_ hB _))
 | bad a e =>
  have HR9:=Lib.hid (show PrS w9 B (.bad a e) from HO9.out)
  clear HO9 HK
  have HC10:=Lib.hid (rmust_b ⟨#[41]⟩ (w9.alloc (boxOf T.op T.name T.n T.pos T.a T.kids.len T.cap)) B a e (HR9.out.alloc _))
  go_wp2_with fail
  refine HC10.out.mono ?_
  rintro e10 w10 ⟨rfl,hk10,hr10⟩
  have HK10:=Lib.hid ((HK9.out.alloc _).trans hk10)
  have HR10:=Lib.hid hr10
  have HBZ10:=Lib.hid (hk10.blk ((Below.heap_alloc _ _ _ (lt_heap HBZ9.out)).trans HBZ9.out) (by omega))
  have hzZ10:=lt_heap HBZ10.out
  have HBT10:=Lib.hid (hk10.blk ((Below.heap_alloc _ _ _ (lt_heap HBT9.out)).trans HBT9.out) (by omega))
  have hzT10:=lt_heap HBT10.out
  have HBN10:=Lib.hid (hk10.blk (new_at w9 (boxOf T.op T.name T.n T.pos T.a T.kids.len T.cap)) (by omega))
  have hzN10:=lt_heap HBN10.out
  clear hk10
  have hne1:¬ w.heap.size=w2.heap.size:=by omega
  have hme1:¬ w2.heap.size=w.heap.size:=by omega
  have hne2:¬ w.heap.size=w9.heap.size:=by omega
  have hme2:¬ w9.heap.size=w.heap.size:=by omega
  have hne3:¬ w2.heap.size=w9.heap.size:=by omega
  have hme3:¬ w9.heap.size=w2.heap.size:=by omega
  obtain ⟨bN0,bN1,bN2,bN3,bN4⟩:=box_cells HBN10.out
  obtain ⟨fN0,fN1,fN2,fN3,fN4⟩:=box_frozen HBN10.out
  obtain ⟨bZ0,bZ1,bZ2,bZ3,bZ4⟩:=box_cells HBZ10.out
  obtain ⟨fZ0,fZ1,fZ2,fZ3,fZ4⟩:=box_frozen HBZ10.out
  go_wp2_with fail
  refine ret_node (B:=w.heap.size) T.op T.name T.n T.pos T.a T.kids.len T.cap Tryd.results136 rfl rfl (by repeat (with_reducible first | exact node_set HBZ10.out _ _ _ _ _ _ _ | refine (Below.heap_alloc _ _ _ (by simp;omega)).trans ?_)) ⟨T,rfl,(by repeat (with_reducible first | exact HK10.out | refine Kp.alloc ?_ _ | refine Kp.set ?_ (Nat.le_refl _) _)),?_⟩
  rw [H7.out a e rfl]
  show PrS _ B (.bad _ _)
  exact (by repeat (with_reducible first | exact HR10.out | refine PrS.alloc ?_ _ | refine PrS.set ?_ hB _))
set_option maxRecDepth 100000 in
set_option maxHeartbeats 16000000 in
theorem run_atom (r:Res Nd) (l:List Tok) (w:World) (B d:Nat) (hS:PrS w B (.good l)) (hdd:(d:Int) < 30) (hex:ordOf [101,120] l = -1) (hal:ordOf [97,108,108] l = -1) (h0:((wrd l).toList == (ByteArray.mk #[126]).toList)=false) (h1:((wrd l).toList == (ByteArray.mk #[116,114,117,101]).toList)=false) (h2:((wrd l).toList == (ByteArray.mk #[102,97,108,115,101]).toList)=false) (h3:((wrd l).toList == (ByteArray.mk #[40]).toList)=false) (hk:∀ W,PrS W B (.good l)→Calls Tryd.prog 165 #[.pointer (some ⟨B,0,none⟩)] W (PostR B W r)):Calls Tryd.prog 136 #[.pointer (some ⟨B,0,none⟩),.int .i64 d] w (PostR B w (r)):=by
 have HK:=Lib.hid hk
 clear hk
 have hc5:=cellsNode
 have hc4:=cellsTok
 have hB:=hS.lt
 have q3:=tok_f3
 have q0:=tok_f0
 have q2:=tok_f2
 have q1:=tok_f1
 have HS:=Lib.hid hS
 clear hS
 go_enter Tryd.func136,Tryd.ntmps136
 have HC1:=Lib.hid (renter_ok l d (w.alloc (boxOf ⟨#[]⟩ ⟨#[]⟩ 0 0 none 0 0)) B hdd (HS.out.alloc _))
 go_wp2_with fail
 refine HC1.out.mono ?_
 rintro e1 w1 ⟨rfl,hk1,hr1⟩
 have HK1:=Lib.hid (((Kp.refl B w).alloc _).trans hk1)
 have HR1:=Lib.hid hr1
 have HBZ1:=Lib.hid (hk1.blk (new_at w (boxOf ⟨#[]⟩ ⟨#[]⟩ 0 0 none 0 0)) (by omega))
 have hzZ1:=lt_heap HBZ1.out
 clear hk1
 have HC2:=Lib.hid (rnow_g l w1 B HR1.out)
 go_wp2_with fail
 refine HC2.out.mono ?_
 rintro e2 w2 ⟨rfl,hb2⟩
 have HK2:=Lib.hid (HK1.out.below hb2)
 have HR2:=Lib.hid (HR1.out.below hb2)
 have HBZ2:=Lib.hid ((hb2.block _ (lt_heap HBZ1.out)).trans HBZ1.out)
 have hzZ2:=lt_heap HBZ2.out
 clear hb2
 obtain ⟨⟨tT0,tT1,tT2,tT3⟩,tfT0,tfT1,tfT2,tfT3⟩:=tok_cells (new_at w2 (tokBox (hd l).kind (hd l).text (hd l).n (hd l).pos))
 have HC3:=Lib.hid (rord_ex_g l (w2.alloc (tokBox (hd l).kind (hd l).text (hd l).n (hd l).pos)) B (HR2.out.alloc _))
 rw [hex] at HC3;clear hex
 go_wp2_with fail
 refine HC3.out.mono ?_
 rintro e3 w3 ⟨rfl,hb3⟩
 have HK3:=Lib.hid ((HK2.out.alloc _).below hb3)
 have HR3:=Lib.hid ((HR2.out.alloc _).below hb3)
 have HBZ3:=Lib.hid ((hb3.block _ (lt_heap ((Below.heap_alloc _ _ _ (lt_heap HBZ2.out)).trans HBZ2.out))).trans ((Below.heap_alloc _ _ _ (lt_heap HBZ2.out)).trans HBZ2.out))
 have hzZ3:=lt_heap HBZ3.out
 have HBT3:=Lib.hid ((hb3.block _ (lt_heap (new_at w2 (tokBox (hd l).kind (hd l).text (hd l).n (hd l).pos)))).trans (new_at w2 (tokBox (hd l).kind (hd l).text (hd l).n (hd l).pos)))
 have hzT3:=lt_heap HBT3.out
 clear hb3
 have HC4:=Lib.hid (rord_all_g l w3 B HR3.out)
 rw [hal] at HC4;clear hal
 go_wp2_with fail
 refine HC4.out.mono ?_
 rintro e4 w4 ⟨rfl,hb4⟩
 have HK4:=Lib.hid (HK3.out.below hb4)
 have HR4:=Lib.hid (HR3.out.below hb4)
 have HBZ4:=Lib.hid ((hb4.block _ (lt_heap HBZ3.out)).trans HBZ3.out)
 have hzZ4:=lt_heap HBZ4.out
 have HBT4:=Lib.hid ((hb4.block _ (lt_heap HBT3.out)).trans HBT3.out)
 have hzT4:=lt_heap HBT4.out
 clear hb4
 have HC5:=Lib.hid (rtake_no l ⟨#[126]⟩ w4 B h0 HR4.out)
 go_wp2_with fail
 refine HC5.out.mono ?_
 rintro e5 w5 ⟨rfl,hk5,hr5⟩
 have HK5:=Lib.hid (HK4.out.trans hk5)
 have HR5:=Lib.hid hr5
 have HBZ5:=Lib.hid (hk5.blk HBZ4.out (by omega))
 have hzZ5:=lt_heap HBZ5.out
 have HBT5:=Lib.hid (hk5.blk HBT4.out (by omega))
 have hzT5:=lt_heap HBT5.out
 clear hk5
 have HC6:=Lib.hid (ris_no l ⟨#[116,114,117,101]⟩ w5 B h1 HR5.out)
 go_wp2_with fail
 refine HC6.out.mono ?_
 rintro e6 w6 ⟨rfl,hb6⟩
 have HK6:=Lib.hid (HK5.out.below hb6)
 have HR6:=Lib.hid (HR5.out.below hb6)
 have HBZ6:=Lib.hid ((hb6.block _ (lt_heap HBZ5.out)).trans HBZ5.out)
 have hzZ6:=lt_heap HBZ6.out
 have HBT6:=Lib.hid ((hb6.block _ (lt_heap HBT5.out)).trans HBT5.out)
 have hzT6:=lt_heap HBT6.out
 clear hb6
 have HC7:=Lib.hid (ris_no l ⟨#[102,97,108,115,101]⟩ w6 B h2 HR6.out)
 go_wp2_with fail
 refine HC7.out.mono ?_
 rintro e7 w7 ⟨rfl,hb7⟩
 have HK7:=Lib.hid (HK6.out.below hb7)
 have HR7:=Lib.hid (HR6.out.below hb7)
 have HBZ7:=Lib.hid ((hb7.block _ (lt_heap HBZ6.out)).trans HBZ6.out)
 have hzZ7:=lt_heap HBZ7.out
 have HBT7:=Lib.hid ((hb7.block _ (lt_heap HBT6.out)).trans HBT6.out)
 have hzT7:=lt_heap HBT7.out
 clear hb7
 have HC8:=Lib.hid (rtake_no l ⟨#[40]⟩ w7 B h3 HR7.out)
 go_wp2_with fail
 refine HC8.out.mono ?_
 rintro e8 w8 ⟨rfl,hk8,hr8⟩
 have HK8:=Lib.hid (HK7.out.trans hk8)
 have HR8:=Lib.hid hr8
 have HBZ8:=Lib.hid (hk8.blk HBZ7.out (by omega))
 have hzZ8:=lt_heap HBZ8.out
 have HBT8:=Lib.hid (hk8.blk HBT7.out (by omega))
 have hzT8:=lt_heap HBT8.out
 clear hk8
 have HC9:=Lib.hid (HK.out w8 HR8.out)
 go_wp2_with fail
 refine HC9.out.mono ?_
 rintro e9 w9 ⟨T,rfl,hk9,ho9⟩
 have HO9:=Lib.hid ho9
 clear ho9
 have HK9:=Lib.hid (HK8.out.trans hk9)
 have HBZ9:=Lib.hid (hk9.blk HBZ8.out (by omega))
 have hzZ9:=lt_heap HBZ9.out
 have HBT9:=Lib.hid (hk9.blk HBT8.out (by omega))
 have hzT9:=lt_heap HBT9.out
 have HKL9:=Lib.hid hk9
 clear hk9
 obtain ⟨bZ0,bZ1,bZ2,bZ3,bZ4⟩:=box_cells HBZ9.out
 obtain ⟨fZ0,fZ1,fZ2,fZ3,fZ4⟩:=box_frozen HBZ9.out
 go_wp2_with fail
 refine ret_node (B:=w.heap.size) T.op T.name T.n T.pos T.a T.kids.len T.cap Tryd.results136 rfl rfl (by repeat (with_reducible first | exact node_set HBZ9.out _ _ _ _ _ _ _ | refine (Below.heap_alloc _ _ _ (by simp;omega)).trans ?_)) ⟨T,rfl,(by repeat (with_reducible first | exact HK9.out | refine Kp.alloc ?_ _ | refine Kp.set ?_ (Nat.le_refl _) _)),?_⟩
 cases r with
 | ok t l' =>
  obtain ⟨hr,hg,hs⟩:=HO9.out
  refine ⟨(by repeat (with_reducible first | exact hr | refine PrS.alloc ?_ _ | refine PrS.set ?_ hB _)),?_,hs⟩
  refine Nd.Good.mono (S:=fun b=>w8.heap.size≤b) ?_ (fun b hb=>Nat.le_trans (by first | omega | (simp;done) | (simp;omega)) hb)
  exact hg.from (set5_from _ (by first | omega | (simp;done) | (simp;omega)) _ _ _ _ _)
 | bad a e =>
  have hr:PrS w9 B (.bad a e):=HO9.out
  show PrS _ B (.bad a e)
  exact (by repeat (with_reducible first | exact hr | refine PrS.alloc ?_ _ | refine PrS.set ?_ hB _))
set_option maxRecDepth 100000 in
set_option maxHeartbeats 16000000 in
theorem run_not (rk r:Res Nd) (l:List Tok) (w:World) (B d:Nat) (hS:PrS w B (.good l)) (hdd:(d:Int) < 30) (hex:ordOf [101,120] l = -1) (hal:ordOf [97,108,108] l = -1) (h0:((wrd l).toList == (ByteArray.mk #[126]).toList)=true) (hk:∀ W,PrS W B (.good l.tail)→Calls Tryd.prog 136 #[.pointer (some ⟨B,0,none⟩),.int .i64 ((d:Int)+1)] W (PostR B W rk)) (h5:∀ t l',rk=.ok t l'→r=.ok (mkN tNotB emp0 0 (hd l).pos [t]) l') (h6:∀ a e,rk=.bad a e→r=.bad a e):Calls Tryd.prog 136 #[.pointer (some ⟨B,0,none⟩),.int .i64 d] w (PostR B w (r)):=by
 have HK:=Lib.hid hk
 have H5:=Lib.hid h5
 have H6:=Lib.hid h6
 clear hk h5 h6
 have hc5:=cellsNode
 have hc4:=cellsTok
 have hB:=hS.lt
 have q3:=tok_f3
 have q0:=tok_f0
 have q2:=tok_f2
 have q1:=tok_f1
 have HS:=Lib.hid hS
 clear hS
 go_enter Tryd.func136,Tryd.ntmps136
 have HC1:=Lib.hid (renter_ok l d (w.alloc (boxOf ⟨#[]⟩ ⟨#[]⟩ 0 0 none 0 0)) B hdd (HS.out.alloc _))
 go_wp2_with fail
 refine HC1.out.mono ?_
 rintro e1 w1 ⟨rfl,hk1,hr1⟩
 have HK1:=Lib.hid (((Kp.refl B w).alloc _).trans hk1)
 have HR1:=Lib.hid hr1
 have HBZ1:=Lib.hid (hk1.blk (new_at w (boxOf ⟨#[]⟩ ⟨#[]⟩ 0 0 none 0 0)) (by omega))
 have hzZ1:=lt_heap HBZ1.out
 clear hk1
 have HC2:=Lib.hid (rnow_g l w1 B HR1.out)
 go_wp2_with fail
 refine HC2.out.mono ?_
 rintro e2 w2 ⟨rfl,hb2⟩
 have HK2:=Lib.hid (HK1.out.below hb2)
 have HR2:=Lib.hid (HR1.out.below hb2)
 have HBZ2:=Lib.hid ((hb2.block _ (lt_heap HBZ1.out)).trans HBZ1.out)
 have hzZ2:=lt_heap HBZ2.out
 clear hb2
 obtain ⟨⟨tT0,tT1,tT2,tT3⟩,tfT0,tfT1,tfT2,tfT3⟩:=tok_cells (new_at w2 (tokBox (hd l).kind (hd l).text (hd l).n (hd l).pos))
 have HC3:=Lib.hid (rord_ex_g l (w2.alloc (tokBox (hd l).kind (hd l).text (hd l).n (hd l).pos)) B (HR2.out.alloc _))
 rw [hex] at HC3;clear hex
 go_wp2_with fail
 refine HC3.out.mono ?_
 rintro e3 w3 ⟨rfl,hb3⟩
 have HK3:=Lib.hid ((HK2.out.alloc _).below hb3)
 have HR3:=Lib.hid ((HR2.out.alloc _).below hb3)
 have HBZ3:=Lib.hid ((hb3.block _ (lt_heap ((Below.heap_alloc _ _ _ (lt_heap HBZ2.out)).trans HBZ2.out))).trans ((Below.heap_alloc _ _ _ (lt_heap HBZ2.out)).trans HBZ2.out))
 have hzZ3:=lt_heap HBZ3.out
 have HBT3:=Lib.hid ((hb3.block _ (lt_heap (new_at w2 (tokBox (hd l).kind (hd l).text (hd l).n (hd l).pos)))).trans (new_at w2 (tokBox (hd l).kind (hd l).text (hd l).n (hd l).pos)))
 have hzT3:=lt_heap HBT3.out
 clear hb3
 have HC4:=Lib.hid (rord_all_g l w3 B HR3.out)
 rw [hal] at HC4;clear hal
 go_wp2_with fail
 refine HC4.out.mono ?_
 rintro e4 w4 ⟨rfl,hb4⟩
 have HK4:=Lib.hid (HK3.out.below hb4)
 have HR4:=Lib.hid (HR3.out.below hb4)
 have HBZ4:=Lib.hid ((hb4.block _ (lt_heap HBZ3.out)).trans HBZ3.out)
 have hzZ4:=lt_heap HBZ4.out
 have HBT4:=Lib.hid ((hb4.block _ (lt_heap HBT3.out)).trans HBT3.out)
 have hzT4:=lt_heap HBT4.out
 clear hb4
 have HC5:=Lib.hid (rtake_yes l ⟨#[126]⟩ w4 B (by decide +kernel) h0 HR4.out)
 go_wp2_with fail
 refine HC5.out.mono ?_
 rintro e5 w5 ⟨rfl,hk5,hr5⟩
 have HK5:=Lib.hid (HK4.out.trans hk5)
 have HR5:=Lib.hid hr5
 have HBZ5:=Lib.hid (hk5.blk HBZ4.out (by omega))
 have hzZ5:=lt_heap HBZ5.out
 have HBT5:=Lib.hid (hk5.blk HBT4.out (by omega))
 have hzT5:=lt_heap HBT5.out
 clear hk5
 have HC6:=Lib.hid (HK.out w5.drew (HR5.out.drew))
 go_wp2_with fail
 refine wp_region_last 5 (fun W=>W.heap[w2.heap.size]? = some (tokBox (hd l).kind (hd l).text (hd l).n (hd l).pos)) (by kernel_rfl) (by kernel_rfl) HBT5.out ?_
 refine headsC_val _ (.pointer (some ⟨w2.heap.size,3,none⟩)) rfl (fun W hW=>by unfold execOp;simp [go_sem,Act.eval]) ?_
 refine headsC_val _ (.int .i64 (hd l).pos) rfl (fun W hW=>by have h:=tok_cells hW;unfold execOp;simp [go_sem,Act.eval,h]) ?_
 refine headsC_move _ _ rfl rfl ?_
 refine headsC_move _ _ rfl rfl ?_
 refine headsC_val _ (.int .i64 ((d:Int)+1)) rfl (fun W hW=>by have h:=wrap_d hdd;unfold execOp;simp [go_sem,Act.eval,h]) ?_
 refine headsC_nil ?_
 show wpList _ _ (thenC _ _ _ _) _ _ _
 go_wp2_with fail
 refine HC6.out.mono ?_
 rintro e6 w6 ⟨T,rfl,hk6,ho6⟩
 have HO6:=Lib.hid ho6
 clear ho6
 have HK6:=Lib.hid ((HK5.out.drew).trans hk6)
 have HBZ6:=Lib.hid (hk6.blk HBZ5.out (by omega))
 have hzZ6:=lt_heap HBZ6.out
 have HBT6:=Lib.hid (hk6.blk HBT5.out (by omega))
 have hzT6:=lt_heap HBT6.out
 have HKL6:=Lib.hid hk6
 clear hk6
 have hdr:w5.drew.heap.size=w5.heap.size:=rfl
 go_wp2_with fail
 refine ⟨fun _=>HBT6.out,?_⟩
 show wpList _ _ (thenC _ _ _ _) _ _ _
 go_wp2_with fail
 refine ⟨fun _=>(Below.heap_alloc _ _ _ (lt_heap HBT6.out)).trans HBT6.out,?_⟩
 show wpList _ _ (thenC _ _ _ _) _ _ _
 go_wp2_with fail
 refine ⟨fun _=>(Below.heap_alloc _ _ _ (lt_heap HBT6.out)).trans HBT6.out,?_⟩
 show wpList _ _ (thenC _ _ _ _) _ _ _
 obtain ⟨bZ0,bZ1,bZ2,bZ3,bZ4⟩:=box_cells HBZ6.out
 obtain ⟨fZ0,fZ1,fZ2,fZ3,fZ4⟩:=box_frozen HBZ6.out
 go_wp2_with fail
 refine ⟨fun h=>(by cases h),NoPanic.normal ?_⟩
 go_wp2_with fail
 refine ret_node (B:=w.heap.size) tNotB ⟨#[]⟩ 0 (hd l).pos (some ⟨w6.heap.size,0,none⟩) 1 1 Tryd.results136 rfl rfl (by repeat (with_reducible first | exact node_set HBZ6.out _ _ _ _ _ _ _ | refine (Below.heap_alloc _ _ _ (by simp;omega)).trans ?_)) ⟨⟨tNotB,⟨#[]⟩,0,(hd l).pos,some ⟨w6.heap.size,0,none⟩,1,.cons T.op T.name T.n T.pos T.a T.cap T.kids .nil⟩,rfl,(by repeat (with_reducible first | exact HK6.out | refine Kp.alloc ?_ _ | refine Kp.set ?_ (Nat.le_refl _) _)),?_⟩
 cases rk with
 | ok t l' =>
  obtain ⟨hr,hg,hs⟩:=HO6.out
  rw [H5.out t l' rfl]
  refine ⟨(by repeat (with_reducible first | exact hr | refine PrS.alloc ?_ _ | refine PrS.set ?_ hB _)),?_,?_⟩
  ·refine good1 (G:=w6.heap.size) (by show w.heap.size≤w6.heap.size;omega) (new_sets _ _ _ _ _ _ _ _) ?_
   refine Nd.Good.mono (S:=fun b=>w5.heap.size≤b) ?_ (fun b hb=>Nat.le_trans (by omega) hb)
   exact (hg.from (set5_from _ (by omega) _ _ _ _ _)).from (From.alloc _ _ _)
  ·show Nd.mk _ _ _ _ _ _ _=Nd.mk _ _ _ _ _ _ _
   rw [← hs]
   rfl
 | bad a e =>
  have hr:PrS w6 B (.bad a e):=HO6.out
  rw [H6.out a e rfl]
  show PrS _ B (.bad a e)
  exact (by repeat (with_reducible first | exact hr | refine PrS.alloc ?_ _ | refine PrS.set ?_ hB _))
theorem new_sets6 (w:World) (ob:Obj) (B N i:Nat) (a b c d e f:Value):(((((((w.setCell ⟨N,i,none⟩ f).setCell ⟨B,0,none⟩ a).setCell ⟨B,1,none⟩ b).setCell ⟨B,2,none⟩ c).setCell ⟨B,3,none⟩ d).setCell ⟨B,4,none⟩ e).alloc ob).heap[w.heap.size]? = some ob:=by
 have h:=new_sets (w.setCell ⟨N,i,none⟩ f) ob B a b c d e
 rw [show (w.setCell ⟨N,i,none⟩ f).heap.size=w.heap.size from by simp] at h
 exact h
end Go.Proofs.YtmlmjopfbohglaaDoor
