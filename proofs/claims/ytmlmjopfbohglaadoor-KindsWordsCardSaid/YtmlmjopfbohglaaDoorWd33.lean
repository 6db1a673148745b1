/- Parts of the proof: RpLa. -/
import Derived.Test.YtmlmjopfbohglaaDoorWd31
namespace Go.Proofs.YtmlmjopfbohglaaDoor
open Go.RowKit
theorem PrS.snd2 {w:World} {B:Nat} {l:List Tok} (h:PrS w B (.good l)) (hk:((hd l).kind == 4)=false):l[1]? = some (hd l.tail):=by
 obtain ⟨a,L,cap,i,h1,h2,h3,h4,h5,h6⟩:=h
 cases l with
 | nil=>exact (h3 rfl).elim
 | cons t r =>
  cases r with
  | nil =>
   have:=h4.1 t rfl
   have hk2:(t.kind == 4)=false:=hk
   rw [this] at hk2
   exact absurd hk2 (by decide)
  | cons u s=>rfl
set_option maxRecDepth 100000 in
set_option maxHeartbeats 16000000 in
theorem ratom_rel_word (nd:Nd) (l':List Tok) (rk r:Res Nd) (l:List Tok) (w:World) (B:Nat) (hS:PrS w B (.good l)) (hk1:((hd l).kind == 1)=true) (hk3:((hd l.tail).kind == 3)=false) (ht:∀ W,PrS W B (.good l)→Calls Tryd.prog 178 #[.pointer (some ⟨B,0,none⟩)] W (PostR B W (.ok nd l'))) (hsg:((psg 4 (wrd l')).toList == [])=false) (hk6:((hd l').kind == 4)=false) (hu:∀ W,PrS W B (.good l'.tail)→Calls Tryd.prog 178 #[.pointer (some ⟨B,0,none⟩)] W (PostR B W rk)) (h5:∀ m l2,rk=.ok m l2→r=.ok (mkN (psg 4 (wrd l')) emp0 0 (hd l').pos [nd,m]) l2) (h6:∀ a e,rk=.bad a e→r=.bad a e):Calls Tryd.prog 165 #[.pointer (some ⟨B,0,none⟩)] w (PostR B w (r)):=by
 have HT:=Lib.hid ht
 have HU:=Lib.hid hu
 have H5:=Lib.hid h5
 have H6:=Lib.hid h6
 have HKI6:=Lib.hid hk6
 clear ht hu h5 h6 hk6
 have hop1:¬ (psg 4 (wrd l')).toList=[]:=by simpa using hsg
 have hk4:((hd l).kind == 4)=false:=kind_not hk1 (by decide)
 have hc5:=cellsNode
 have hc4:=cellsTok
 have hB:=hS.lt
 have q3:=tok_f3
 have q0:=tok_f0
 have q2:=tok_f2
 have q1:=tok_f1
 have HS:=Lib.hid hS
 clear hS
 go_enter Tryd.func165,Tryd.ntmps165
 have HC1:=Lib.hid (rnow_g l (w.alloc (boxOf ⟨#[]⟩ ⟨#[]⟩ 0 0 none 0 0)) B (HS.out.alloc _))
 go_wp2_with fail
 refine HC1.out.mono ?_
 rintro e1 w1 ⟨rfl,hb1⟩
 have HK1:=Lib.hid (((Kp.refl B w).alloc _).below hb1)
 have HR1:=Lib.hid ((HS.out.alloc _).below hb1)
 have HBZ1:=Lib.hid ((hb1.block _ (lt_heap (new_at w (boxOf ⟨#[]⟩ ⟨#[]⟩ 0 0 none 0 0)))).trans (new_at w (boxOf ⟨#[]⟩ ⟨#[]⟩ 0 0 none 0 0)))
 have hzZ1:=lt_heap HBZ1.out
 clear hb1
 obtain ⟨⟨tT0,tT1,tT2,tT3⟩,tfT0,tfT1,tfT2,tfT3⟩:=tok_cells (new_at w1 (tokBox (hd l).kind (hd l).text (hd l).n (hd l).pos))
 have hPT:PrS (w1.alloc (tokBox (hd l).kind (hd l).text (hd l).n (hd l).pos)) B (.good l):=(HR1.out.alloc _)
 obtain ⟨g,o,L,cap,i,hp1,hi,hL,hg,_,hnx⟩:=hPT.tok
 clear hPT
 obtain ⟨hi1,u0,u1,_⟩:=hnx (hd l.tail) (HS.out.snd2 hk4)
 obtain ⟨⟨k0,k1,k2,k3⟩,_⟩:=hp1.cells
 clear hp1 hnx
 have hi2:(i:Int)+1 < L:=by omega
 have hgs:g < w1.heap.size:=by omega
 have hit:((i:Int)+1).toNat=i+1:=by omega
 have hi0:(0:Int)≤(i:Int)+1:=by omega
 have hiw:IntKind.wrap .i64 ((i:Int)+1)=(i:Int)+1:=by simp [IntKind.wrap,IntKind.bits,IntKind.signed];omega
 go_wp2_with fail
 go_quiet (fail)
 have hb2:Below (w1.alloc (tokBox (hd l).kind (hd l).text (hd l).n (hd l).pos)).heap.size (w1.alloc (tokBox (hd l).kind (hd l).text (hd l).n (hd l).pos)) ((w1.alloc (tokBox (hd l).kind (hd l).text (hd l).n (hd l).pos)).drewN nq):=⟨rfl,rfl,rfl,Nat.le_refl _,fun _ _=>rfl⟩
 clear tT0 tfT0 tT1 tfT1 tT2 tfT2 tT3 tfT3 k0 k1 k2 k3 u0 u1
 generalize (w1.alloc (tokBox (hd l).kind (hd l).text (hd l).n (hd l).pos)).drewN nq=w2 at hb2 ⊢
 have HK2:=Lib.hid ((HK1.out.alloc _).below hb2)
 have HR2:=Lib.hid ((HR1.out.alloc _).below hb2)
 have HBZ2:=Lib.hid ((hb2.block _ (lt_heap ((Below.heap_alloc _ _ _ (lt_heap HBZ1.out)).trans HBZ1.out))).trans ((Below.heap_alloc _ _ _ (lt_heap HBZ1.out)).trans HBZ1.out))
 have hzZ2:=lt_heap HBZ2.out
 have HBT2:=Lib.hid ((hb2.block _ (lt_heap (new_at w1 (tokBox (hd l).kind (hd l).text (hd l).n (hd l).pos)))).trans (new_at w1 (tokBox (hd l).kind (hd l).text (hd l).n (hd l).pos)))
 have hzT2:=lt_heap HBT2.out
 clear hb2
 have HC3:=Lib.hid (HT.out w2 HR2.out)
 go_wp2_with fail
 refine HC3.out.mono ?_
 rintro e3 w3 ⟨A,rfl,hk3,ho3⟩
 have HO3:=Lib.hid ho3
 clear ho3
 have HK3:=Lib.hid (HK2.out.trans hk3)
 have HBZ3:=Lib.hid (hk3.blk HBZ2.out (by omega))
 have hzZ3:=lt_heap HBZ3.out
 have HBT3:=Lib.hid (hk3.blk HBT2.out (by omega))
 have hzT3:=lt_heap HBT3.out
 have HKL3:=Lib.hid hk3
 clear hk3
 obtain ⟨hr3,hg3,hs3⟩:=HO3.out
 have HR3:=Lib.hid hr3
 have HG:=Lib.hid hg3
 have HST:=Lib.hid hs3
 clear hr3 hg3 hs3 HO3
 have HC4:=Lib.hid (rrel_g l' (w3.alloc (boxOf A.op A.name A.n A.pos A.a A.kids.len A.cap)) B (HR3.out.alloc _))
 go_wp2_with fail
 refine HC4.out.mono ?_
 rintro e4 w4 ⟨rfl,hb4⟩
 have HMN4:=Lib.hid (((Kp.refl B w3).alloc _).below hb4)
 have HK4:=Lib.hid ((HK3.out.alloc _).below hb4)
 have HR4:=Lib.hid ((HR3.out.alloc _).below hb4)
 have HBZ4:=Lib.hid ((hb4.block _ (lt_heap ((Below.heap_alloc _ _ _ (lt_heap HBZ3.out)).trans HBZ3.out))).trans ((Below.heap_alloc _ _ _ (lt_heap HBZ3.out)).trans HBZ3.out))
 have hzZ4:=lt_heap HBZ4.out
 have HBT4:=Lib.hid ((hb4.block _ (lt_heap ((Below.heap_alloc _ _ _ (lt_heap HBT3.out)).trans HBT3.out))).trans ((Below.heap_alloc _ _ _ (lt_heap HBT3.out)).trans HBT3.out))
 have hzT4:=lt_heap HBT4.out
 have HBN4:=Lib.hid ((hb4.block _ (lt_heap (new_at w3 (boxOf A.op A.name A.n A.pos A.a A.kids.len A.cap)))).trans (new_at w3 (boxOf A.op A.name A.n A.pos A.a A.kids.len A.cap)))
 have hzN4:=lt_heap HBN4.out
 clear hb4
 have z2:=HR4.out.err_g
 have hne1:¬ w.heap.size=w1.heap.size:=by omega
 have hme1:¬ w1.heap.size=w.heap.size:=by omega
 have hne2:¬ w.heap.size=w3.heap.size:=by omega
 have hme2:¬ w3.heap.size=w.heap.size:=by omega
 have hne3:¬ w1.heap.size=w3.heap.size:=by omega
 have hme3:¬ w3.heap.size=w1.heap.size:=by omega
 have HC5:=Lib.hid (rnext_g l' w4 B HKI6.out HR4.out)
 go_wp2_with fail
 refine HC5.out.mono ?_
 rintro e5 w5 ⟨rfl,hk5,hr5⟩
 have HMN5:=Lib.hid (HMN4.out.trans hk5)
 have HK5:=Lib.hid (HK4.out.trans hk5)
 have HR5:=Lib.hid hr5
 have HBZ5:=Lib.hid (hk5.blk HBZ4.out (by omega))
 have hzZ5:=lt_heap HBZ5.out
 have HBT5:=Lib.hid (hk5.blk HBT4.out (by omega))
 have hzT5:=lt_heap HBT5.out
 have HBN5:=Lib.hid (hk5.blk HBN4.out (by omega))
 have hzN5:=lt_heap HBN5.out
 clear hk5
 clear z2
 have HC6:=Lib.hid (HU.out (w5.alloc (tokBox (hd l').kind (hd l').text (hd l').n (hd l').pos)).drew ((HR5.out.alloc _).drew))
 go_wp2_with fail
 refine wp_region_last 5 (fun W=>W.heap[w3.heap.size]? = some (.cells #[.string A.op,.string A.name,.int .i64 A.n,.int .i64 A.pos,.slice A.a A.kids.len A.cap] 26)∧W.heap[w5.heap.size]? = some (tokBox (hd l').kind (hd l').text (hd l').n (hd l').pos)) (by kernel_rfl) (by kernel_rfl) ⟨((Below.heap_alloc _ _ _ (lt_heap HBN5.out)).trans HBN5.out),(new_at w5 (tokBox (hd l').kind (hd l').text (hd l').n (hd l').pos))⟩ ?_
 refine headsC_move _ _ rfl rfl ?_
 refine headsC_val _ (.pointer (some ⟨w5.heap.size,3,none⟩)) rfl (fun W hW=>by unfold execOp;simp [go_sem,Act.eval]) ?_
 refine headsC_val _ (.int .i64 (hd l').pos) rfl (fun W hW=>by have h:=tok_cells hW.2;unfold execOp;simp [go_sem,Act.eval,h]) ?_
 refine headsC_load _ _ _ rfl rfl w3.heap.size rfl _ _ _ _ (fun W h=>h.1) Tryd.underlying26 rfl (by kernel_rfl) ?_
 refine headsC_move _ _ rfl rfl ?_
 refine headsC_nil ?_
 show wpList _ _ (thenC _ _ _ _) _ _ _
 go_wp2_with fail
 refine HC6.out.mono ?_
 rintro e6 w6 ⟨M,rfl,hk6,ho6⟩
 have HO6:=Lib.hid ho6
 clear ho6
 have HK6:=Lib.hid (((HK5.out.alloc _).drew).trans hk6)
 have HMN6:=Lib.hid (((HMN5.out.alloc _).drew).trans hk6)
 have HBZ6:=Lib.hid (hk6.blk ((Below.heap_alloc _ _ _ (lt_heap HBZ5.out)).trans HBZ5.out) (by omega))
 have hzZ6:=lt_heap HBZ6.out
 have HBT6:=Lib.hid (hk6.blk ((Below.heap_alloc _ _ _ (lt_heap HBT5.out)).trans HBT5.out) (by omega))
 have hzT6:=lt_heap HBT6.out
 have HBN6:=Lib.hid (hk6.blk ((Below.heap_alloc _ _ _ (lt_heap HBN5.out)).trans HBN5.out) (by omega))
 have hzN6:=lt_heap HBN6.out
 have HBU6:=Lib.hid (hk6.blk (new_at w5 (tokBox (hd l').kind (hd l').text (hd l').n (hd l').pos)) (by omega))
 have hzU6:=lt_heap HBU6.out
 have HKL6:=Lib.hid hk6
 clear hk6
 have hdr:w5.drew.heap.size=w5.heap.size:=rfl
 go_wp2_with fail
 refine ⟨fun _=>⟨HBN6.out,HBU6.out⟩,?_⟩
 show wpList _ _ (thenC _ _ _ _) _ _ _
 go_wp2_with fail
 refine ⟨fun _=>⟨(Below.heap_alloc _ _ _ (lt_heap HBN6.out)).trans HBN6.out,(Below.heap_alloc _ _ _ (lt_heap HBU6.out)).trans HBU6.out⟩,?_⟩
 show wpList _ _ (thenC _ _ _ _) _ _ _
 go_wp2_with fail
 refine ⟨fun _=>⟨(Below.heap_alloc _ _ _ (lt_heap HBN6.out)).trans HBN6.out,(Below.heap_alloc _ _ _ (lt_heap HBU6.out)).trans HBU6.out⟩,?_⟩
 show wpList _ _ (thenC _ _ _ _) _ _ _
 obtain ⟨bZ0,bZ1,bZ2,bZ3,bZ4⟩:=box_cells HBZ6.out
 obtain ⟨fZ0,fZ1,fZ2,fZ3,fZ4⟩:=box_frozen HBZ6.out
 go_wp2_with fail
 refine ⟨fun h=>(by cases h),NoPanic.normal ?_⟩
 go_wp2_with fail
 refine ret_node (B:=w.heap.size) (psg 4 (wrd l')) ⟨#[]⟩ 0 (hd l').pos (some ⟨w6.heap.size,0,none⟩) 2 2 Tryd.results165 rfl rfl (by repeat (with_reducible first | exact node_set HBZ6.out _ _ _ _ _ _ _ | refine (Below.heap_alloc _ _ _ (by simp;omega)).trans ?_)) ⟨⟨(psg 4 (wrd l')),⟨#[]⟩,0,(hd l').pos,some ⟨w6.heap.size,0,none⟩,2,.cons A.op A.name A.n A.pos A.a A.cap A.kids (.cons M.op M.name M.n M.pos M.a M.cap M.kids .nil)⟩,rfl,(by repeat (with_reducible first | exact HK6.out | refine Kp.alloc ?_ _ | refine Kp.set ?_ (Nat.le_refl _) _)),?_⟩
 have hfr:From (fun b=>w.heap.size+1≤b) w6 (((((w6.setCell ⟨w.heap.size,0,none⟩ (.string (psg 4 (wrd l')))).setCell ⟨w.heap.size,1,none⟩ (.string ⟨#[]⟩)).setCell ⟨w.heap.size,2,none⟩ (.int .i64 0)).setCell ⟨w.heap.size,3,none⟩ (.int .i64 (hd l').pos)).setCell ⟨w.heap.size,4,none⟩ (.slice (some ⟨w6.heap.size,0,none⟩) 2 2)):=set5_from _ (by omega) _ _ _ _ _
 cases rk with
 | ok m l2 =>
  obtain ⟨hr,hg,hs⟩:=HO6.out
  rw [H5.out m l2 rfl]
  refine ⟨(by repeat (with_reducible first | exact hr | refine PrS.alloc ?_ _ | refine PrS.set ?_ hB _)),?_,?_⟩
  ·refine Nd.Good.mono (S:=fun b=>w.heap.size+1≤b) ?_ (fun b hb=>by omega)
   have hT:=(HG.out.mono (S':=fun b=>w.heap.size+1≤b) (fun b hb=>by have h5:w2.heap.size≤b:=hb;omega)).from (HMN6.out.from (S:=fun b=>w.heap.size+1≤b) (fun h=>absurd h (by omega)))
   have hU:=hg.mono (S':=fun b=>w.heap.size+1≤b) (fun b hb=>by have h5:(w5.alloc (tokBox (hd l').kind (hd l').text (hd l').n (hd l').pos)).drew.heap.size≤b:=hb;(try simp at h5);omega)
   exact good2 (G:=w6.heap.size) (by omega) (new_sets _ _ _ _ _ _ _ _) ((hT.from hfr).from (From.alloc _ _ _)) ((hU.from hfr).from (From.alloc _ _ _))
  ·show Nd.mk _ _ _ _ _ _ _=_
   rw [← hs,← HST.out]
   rfl
 | bad a e =>
  have hr:PrS w6 B (.bad a e):=HO6.out
  rw [H6.out a e rfl]
  show PrS _ B (.bad a e)
  exact (by repeat (with_reducible first | exact hr | refine PrS.alloc ?_ _ | refine PrS.set ?_ hB _))
set_option maxRecDepth 100000 in
set_option maxHeartbeats 16000000 in
theorem ratom_bad_word (a e:Int) (l:List Tok) (w:World) (B:Nat) (hS:PrS w B (.good l)) (hk1:((hd l).kind == 1)=true) (hk3:((hd l.tail).kind == 3)=false) (ht:∀ W,PrS W B (.good l)→Calls Tryd.prog 178 #[.pointer (some ⟨B,0,none⟩)] W (PostR B W (.bad a e))):Calls Tryd.prog 165 #[.pointer (some ⟨B,0,none⟩)] w (PostR B w (.bad a e)):=by
 have HT:=Lib.hid ht
 clear ht
 have hk4:((hd l).kind == 4)=false:=kind_not hk1 (by decide)
 have hc5:=cellsNode
 have hc4:=cellsTok
 have hB:=hS.lt
 have q3:=tok_f3
 have q0:=tok_f0
 have q2:=tok_f2
 have q1:=tok_f1
 have HS:=Lib.hid hS
 clear hS
 go_enter Tryd.func165,Tryd.ntmps165
 have HC1:=Lib.hid (rnow_g l (w.alloc (boxOf ⟨#[]⟩ ⟨#[]⟩ 0 0 none 0 0)) B (HS.out.alloc _))
 go_wp2_with fail
 refine HC1.out.mono ?_
 rintro e1 w1 ⟨rfl,hb1⟩
 have HK1:=Lib.hid (((Kp.refl B w).alloc _).below hb1)
 have HR1:=Lib.hid ((HS.out.alloc _).below hb1)
 have HBZ1:=Lib.hid ((hb1.block _ (lt_heap (new_at w (boxOf ⟨#[]⟩ ⟨#[]⟩ 0 0 none 0 0)))).trans (new_at w (boxOf ⟨#[]⟩ ⟨#[]⟩ 0 0 none 0 0)))
 have hzZ1:=lt_heap HBZ1.out
 clear hb1
 obtain ⟨⟨tT0,tT1,tT2,tT3⟩,tfT0,tfT1,tfT2,tfT3⟩:=tok_cells (new_at w1 (tokBox (hd l).kind (hd l).text (hd l).n (hd l).pos))
 have hPT:PrS (w1.alloc (tokBox (hd l).kind (hd l).text (hd l).n (hd l).pos)) B (.good l):=(HR1.out.alloc _)
 obtain ⟨g,o,L,cap,i,hp1,hi,hL,hg,_,hnx⟩:=hPT.tok
 clear hPT
 obtain ⟨hi1,u0,u1,_⟩:=hnx (hd l.tail) (HS.out.snd2 hk4)
 obtain ⟨⟨k0,k1,k2,k3⟩,_⟩:=hp1.cells
 clear hp1 hnx
 have hi2:(i:Int)+1 < L:=by omega
 have hgs:g < w1.heap.size:=by omega
 have hit:((i:Int)+1).toNat=i+1:=by omega
 have hi0:(0:Int)≤(i:Int)+1:=by omega
 have hiw:IntKind.wrap .i64 ((i:Int)+1)=(i:Int)+1:=by simp [IntKind.wrap,IntKind.bits,IntKind.signed];omega
 go_wp2_with fail
 go_quiet (fail)
 have hb2:Below (w1.alloc (tokBox (hd l).kind (hd l).text (hd l).n (hd l).pos)).heap.size (w1.alloc (tokBox (hd l).kind (hd l).text (hd l).n (hd l).pos)) ((w1.alloc (tokBox (hd l).kind (hd l).text (hd l).n (hd l).pos)).drewN nq):=⟨rfl,rfl,rfl,Nat.le_refl _,fun _ _=>rfl⟩
 clear tT0 tfT0 tT1 tfT1 tT2 tfT2 tT3 tfT3 k0 k1 k2 k3 u0 u1
 generalize (w1.alloc (tokBox (hd l).kind (hd l).text (hd l).n (hd l).pos)).drewN nq=w2 at hb2 ⊢
 have HK2:=Lib.hid ((HK1.out.alloc _).below hb2)
 have HR2:=Lib.hid ((HR1.out.alloc _).below hb2)
 have HBZ2:=Lib.hid ((hb2.block _ (lt_heap ((Below.heap_alloc _ _ _ (lt_heap HBZ1.out)).trans HBZ1.out))).trans ((Below.heap_alloc _ _ _ (lt_heap HBZ1.out)).trans HBZ1.out))
 have hzZ2:=lt_heap HBZ2.out
 have HBT2:=Lib.hid ((hb2.block _ (lt_heap (new_at w1 (tokBox (hd l).kind (hd l).text (hd l).n (hd l).pos)))).trans (new_at w1 (tokBox (hd l).kind (hd l).text (hd l).n (hd l).pos)))
 have hzT2:=lt_heap HBT2.out
 clear hb2
 have HC3:=Lib.hid (HT.out w2 HR2.out)
 go_wp2_with fail
 refine HC3.out.mono ?_
 rintro e3 w3 ⟨A,rfl,hk3,ho3⟩
 have HO3:=Lib.hid ho3
 clear ho3
 have HK3:=Lib.hid (HK2.out.trans hk3)
 have HBZ3:=Lib.hid (hk3.blk HBZ2.out (by omega))
 have hzZ3:=lt_heap HBZ3.out
 have HBT3:=Lib.hid (hk3.blk HBT2.out (by omega))
 have hzT3:=lt_heap HBT3.out
 have HKL3:=Lib.hid hk3
 clear hk3
 have HR3:=Lib.hid (show PrS w3 B (.bad a e) from HO3.out)
 have HC4:=Lib.hid (rrel_b a e (w3.alloc (boxOf A.op A.name A.n A.pos A.a A.kids.len A.cap)) B (HR3.out.alloc _))
 go_wp2_with fail
 refine HC4.out.mono ?_
 rintro e4 w4 ⟨rfl,hb4⟩
 have HK4:=Lib.hid ((HK3.out.alloc _).below hb4)
 have HR4:=Lib.hid ((HR3.out.alloc _).below hb4)
 have HBZ4:=Lib.hid ((hb4.block _ (lt_heap ((Below.heap_alloc _ _ _ (lt_heap HBZ3.out)).trans HBZ3.out))).trans ((Below.heap_alloc _ _ _ (lt_heap HBZ3.out)).trans HBZ3.out))
 have hzZ4:=lt_heap HBZ4.out
 have HBT4:=Lib.hid ((hb4.block _ (lt_heap ((Below.heap_alloc _ _ _ (lt_heap HBT3.out)).trans HBT3.out))).trans ((Below.heap_alloc _ _ _ (lt_heap HBT3.out)).trans HBT3.out))
 have hzT4:=lt_heap HBT4.out
 have HBN4:=Lib.hid ((hb4.block _ (lt_heap (new_at w3 (boxOf A.op A.name A.n A.pos A.a A.kids.len A.cap)))).trans (new_at w3 (boxOf A.op A.name A.n A.pos A.a A.kids.len A.cap)))
 have hzN4:=lt_heap HBN4.out
 clear hb4
 obtain ⟨z2,hz0⟩:=HR4.out.err_b
 have hne1:¬ w.heap.size=w1.heap.size:=by omega
 have hme1:¬ w1.heap.size=w.heap.size:=by omega
 have hne2:¬ w.heap.size=w3.heap.size:=by omega
 have hme2:¬ w3.heap.size=w.heap.size:=by omega
 have hne3:¬ w1.heap.size=w3.heap.size:=by omega
 have hme3:¬ w3.heap.size=w1.heap.size:=by omega
 obtain ⟨bN0,bN1,bN2,bN3,bN4⟩:=box_cells HBN4.out
 obtain ⟨fN0,fN1,fN2,fN3,fN4⟩:=box_frozen HBN4.out
 obtain ⟨⟨tT0,tT1,tT2,tT3⟩,tfT0,tfT1,tfT2,tfT3⟩:=tok_cells HBT4.out
 rcases bool_two (A.op.toList == [118,97,114]) with hv | hv
 ·obtain ⟨bZ0,bZ1,bZ2,bZ3,bZ4⟩:=box_cells HBZ4.out
  obtain ⟨fZ0,fZ1,fZ2,fZ3,fZ4⟩:=box_frozen HBZ4.out
  go_wp2_with fail
  refine ret_node (B:=w.heap.size) tIsB A.name 0 (hd l).pos none 0 0 Tryd.results165 rfl rfl (by repeat (with_reducible first | exact node_set HBZ4.out _ _ _ _ _ _ _ | refine (Below.heap_alloc _ _ _ (by simp;omega)).trans ?_)) ⟨⟨tIsB,A.name,0,(hd l).pos,none,0,.nil⟩,rfl,(by repeat (with_reducible first | exact HK4.out | refine Kp.alloc ?_ _ | refine Kp.set ?_ (Nat.le_refl _) _)),?_⟩
  show PrS _ B (.bad _ _)
  exact (by repeat (with_reducible first | exact HR4.out | refine PrS.alloc ?_ _ | refine PrS.set ?_ hB _))
 ·have HC5:=Lib.hid (rfail_b (hd l).pos 2 a e w4 B HR4.out)
  go_wp2_with fail
  refine HC5.out.mono ?_
  rintro e5 w5 ⟨rfl,hk5,hr5⟩
  have HK5:=Lib.hid (HK4.out.trans hk5)
  have HR5:=Lib.hid hr5
  have HBZ5:=Lib.hid (hk5.blk HBZ4.out (by omega))
  have hzZ5:=lt_heap HBZ5.out
  have HBT5:=Lib.hid (hk5.blk HBT4.out (by omega))
  have hzT5:=lt_heap HBT5.out
  have HBN5:=Lib.hid (hk5.blk HBN4.out (by omega))
  have hzN5:=lt_heap HBN5.out
  clear hk5
  have hne4:¬ w.heap.size=w1.heap.size:=by omega
  have hme4:¬ w1.heap.size=w.heap.size:=by omega
  have hne5:¬ w.heap.size=w3.heap.size:=by omega
  have hme5:¬ w3.heap.size=w.heap.size:=by omega
  have hne6:¬ w1.heap.size=w3.heap.size:=by omega
  have hme6:¬ w3.heap.size=w1.heap.size:=by omega
  obtain ⟨bN0,bN1,bN2,bN3,bN4⟩:=box_cells HBN5.out
  obtain ⟨fN0,fN1,fN2,fN3,fN4⟩:=box_frozen HBN5.out
  obtain ⟨⟨tT0,tT1,tT2,tT3⟩,tfT0,tfT1,tfT2,tfT3⟩:=tok_cells HBT5.out
  obtain ⟨bZ0,bZ1,bZ2,bZ3,bZ4⟩:=box_cells HBZ5.out
  obtain ⟨fZ0,fZ1,fZ2,fZ3,fZ4⟩:=box_frozen HBZ5.out
  go_wp2_with fail
  refine ret_node (B:=w.heap.size) tIsB A.name 0 (hd l).pos none 0 0 Tryd.results165 rfl rfl (by repeat (with_reducible first | exact node_set HBZ5.out _ _ _ _ _ _ _ | refine (Below.heap_alloc _ _ _ (by simp;omega)).trans ?_)) ⟨⟨tIsB,A.name,0,(hd l).pos,none,0,.nil⟩,rfl,(by repeat (with_reducible first | exact HK5.out | refine Kp.alloc ?_ _ | refine Kp.set ?_ (Nat.le_refl _) _)),?_⟩
  show PrS _ B (.bad _ _)
  exact (by repeat (with_reducible first | exact HR5.out | refine PrS.alloc ?_ _ | refine PrS.set ?_ hB _))
set_option maxRecDepth 100000 in
set_option maxHeartbeats 16000000 in
theorem ratom_is_word (nd:Nd) (l':List Tok) (l:List Tok) (w:World) (B:Nat) (hS:PrS w B (.good l)) (hk1:((hd l).kind == 1)=true) (hk3:((hd l.tail).kind == 3)=false) (ht:∀ W,PrS W B (.good l)→Calls Tryd.prog 178 #[.pointer (some ⟨B,0,none⟩)] W (PostR B W (.ok nd l'))) (hsg:psg 4 (wrd l')=⟨#[]⟩) (hv:(nd.op.toList == [118,97,114])=true):Calls Tryd.prog 165 #[.pointer (some ⟨B,0,none⟩)] w (PostR B w (.ok (mkN tIsB nd.name 0 (hd l).pos []) l')):=by
 have HT:=Lib.hid ht
 clear ht
 have HV:=Lib.hid hv
 clear hv
 have HSG:=Lib.hid hsg
 clear hsg
 have hk4:((hd l).kind == 4)=false:=kind_not hk1 (by decide)
 have hc5:=cellsNode
 have hc4:=cellsTok
 have hB:=hS.lt
 have q3:=tok_f3
 have q0:=tok_f0
 have q2:=tok_f2
 have q1:=tok_f1
 have HS:=Lib.hid hS
 clear hS
 go_enter Tryd.func165,Tryd.ntmps165
 have HC1:=Lib.hid (rnow_g l (w.alloc (boxOf ⟨#[]⟩ ⟨#[]⟩ 0 0 none 0 0)) B (HS.out.alloc _))
 go_wp2_with fail
 refine HC1.out.mono ?_
 rintro e1 w1 ⟨rfl,hb1⟩
 have HK1:=Lib.hid (((Kp.refl B w).alloc _).below hb1)
 have HR1:=Lib.hid ((HS.out.alloc _).below hb1)
 have HBZ1:=Lib.hid ((hb1.block _ (lt_heap (new_at w (boxOf ⟨#[]⟩ ⟨#[]⟩ 0 0 none 0 0)))).trans (new_at w (boxOf ⟨#[]⟩ ⟨#[]⟩ 0 0 none 0 0)))
 have hzZ1:=lt_heap HBZ1.out
 clear hb1
 obtain ⟨⟨tT0,tT1,tT2,tT3⟩,tfT0,tfT1,tfT2,tfT3⟩:=tok_cells (new_at w1 (tokBox (hd l).kind (hd l).text (hd l).n (hd l).pos))
 have hPT:PrS (w1.alloc (tokBox (hd l).kind (hd l).text (hd l).n (hd l).pos)) B (.good l):=(HR1.out.alloc _)
 obtain ⟨g,o,L,cap,i,hp1,hi,hL,hg,_,hnx⟩:=hPT.tok
 clear hPT
 obtain ⟨hi1,u0,u1,_⟩:=hnx (hd l.tail) (HS.out.snd2 hk4)
 obtain ⟨⟨k0,k1,k2,k3⟩,_⟩:=hp1.cells
 clear hp1 hnx
 have hi2:(i:Int)+1 < L:=by omega
 have hgs:g < w1.heap.size:=by omega
 have hit:((i:Int)+1).toNat=i+1:=by omega
 have hi0:(0:Int)≤(i:Int)+1:=by omega
 have hiw:IntKind.wrap .i64 ((i:Int)+1)=(i:Int)+1:=by simp [IntKind.wrap,IntKind.bits,IntKind.signed];omega
 go_wp2_with fail
 go_quiet (fail)
 have hb2:Below (w1.alloc (tokBox (hd l).kind (hd l).text (hd l).n (hd l).pos)).heap.size (w1.alloc (tokBox (hd l).kind (hd l).text (hd l).n (hd l).pos)) ((w1.alloc (tokBox (hd l).kind (hd l).text (hd l).n (hd l).pos)).drewN nq):=⟨rfl,rfl,rfl,Nat.le_refl _,fun _ _=>rfl⟩
 clear tT0 tfT0 tT1 tfT1 tT2 tfT2 tT3 tfT3 k0 k1 k2 k3 u0 u1
 generalize (w1.alloc (tokBox (hd l).kind (hd l).text (hd l).n (hd l).pos)).drewN nq=w2 at hb2 ⊢
 have HK2:=Lib.hid ((HK1.out.alloc _).below hb2)
 have HR2:=Lib.hid ((HR1.out.alloc _).below hb2)
 have HBZ2:=Lib.hid ((hb2.block _ (lt_heap ((Below.heap_alloc _ _ _ (lt_heap HBZ1.out)).trans HBZ1.out))).trans ((Below.heap_alloc _ _ _ (lt_heap HBZ1.out)).trans HBZ1.out))
 have hzZ2:=lt_heap HBZ2.out
 have HBT2:=Lib.hid ((hb2.block _ (lt_heap (new_at w1 (tokBox (hd l).kind (hd l).text (hd l).n (hd l).pos)))).trans (new_at w1 (tokBox (hd l).kind (hd l).text (hd l).n (hd l).pos)))
 have hzT2:=lt_heap HBT2.out
 clear hb2
 have HC3:=Lib.hid (HT.out w2 HR2.out)
 go_wp2_with fail
 refine HC3.out.mono ?_
 rintro e3 w3 ⟨A,rfl,hk3,ho3⟩
 have HO3:=Lib.hid ho3
 clear ho3
 have HK3:=Lib.hid (HK2.out.trans hk3)
 have HBZ3:=Lib.hid (hk3.blk HBZ2.out (by omega))
 have hzZ3:=lt_heap HBZ3.out
 have HBT3:=Lib.hid (hk3.blk HBT2.out (by omega))
 have hzT3:=lt_heap HBT3.out
 have HKL3:=Lib.hid hk3
 clear hk3
 obtain ⟨hr3,hg3,hs3⟩:=HO3.out
 have HR3:=Lib.hid hr3
 have HST:=Lib.hid hs3
 clear hr3 hg3 hs3
 have hv2:(A.op.toList == [118,97,114])=true:=by have h:=HV.out;rw [← HST.out] at h;exact h
 have HC4:=Lib.hid (rrel_g l' (w3.alloc (boxOf A.op A.name A.n A.pos A.a A.kids.len A.cap)) B (HR3.out.alloc _))
 rw [HSG.out] at HC4
 go_wp2_with fail
 refine HC4.out.mono ?_
 rintro e4 w4 ⟨rfl,hb4⟩
 have HK4:=Lib.hid ((HK3.out.alloc _).below hb4)
 have HR4:=Lib.hid ((HR3.out.alloc _).below hb4)
 have HBZ4:=Lib.hid ((hb4.block _ (lt_heap ((Below.heap_alloc _ _ _ (lt_heap HBZ3.out)).trans HBZ3.out))).trans ((Below.heap_alloc _ _ _ (lt_heap HBZ3.out)).trans HBZ3.out))
 have hzZ4:=lt_heap HBZ4.out
 have HBT4:=Lib.hid ((hb4.block _ (lt_heap ((Below.heap_alloc _ _ _ (lt_heap HBT3.out)).trans HBT3.out))).trans ((Below.heap_alloc _ _ _ (lt_heap HBT3.out)).trans HBT3.out))
 have hzT4:=lt_heap HBT4.out
 have HBN4:=Lib.hid ((hb4.block _ (lt_heap (new_at w3 (boxOf A.op A.name A.n A.pos A.a A.kids.len A.cap)))).trans (new_at w3 (boxOf A.op A.name A.n A.pos A.a A.kids.len A.cap)))
 have hzN4:=lt_heap HBN4.out
 clear hb4
 have z2:=HR4.out.err_g
 have hne1:¬ w.heap.size=w1.heap.size:=by omega
 have hme1:¬ w1.heap.size=w.heap.size:=by omega
 have hne2:¬ w.heap.size=w3.heap.size:=by omega
 have hme2:¬ w3.heap.size=w.heap.size:=by omega
 have hne3:¬ w1.heap.size=w3.heap.size:=by omega
 have hme3:¬ w3.heap.size=w1.heap.size:=by omega
 obtain ⟨bN0,bN1,bN2,bN3,bN4⟩:=box_cells HBN4.out
 obtain ⟨fN0,fN1,fN2,fN3,fN4⟩:=box_frozen HBN4.out
 obtain ⟨⟨tT0,tT1,tT2,tT3⟩,tfT0,tfT1,tfT2,tfT3⟩:=tok_cells HBT4.out
 obtain ⟨bZ0,bZ1,bZ2,bZ3,bZ4⟩:=box_cells HBZ4.out
 obtain ⟨fZ0,fZ1,fZ2,fZ3,fZ4⟩:=box_frozen HBZ4.out
 go_wp2_with fail
 refine ret_node (B:=w.heap.size) tIsB A.name 0 (hd l).pos none 0 0 Tryd.results165 rfl rfl (by repeat (with_reducible first | exact node_set HBZ4.out _ _ _ _ _ _ _ | refine (Below.heap_alloc _ _ _ (by simp;omega)).trans ?_)) ⟨⟨tIsB,A.name,0,(hd l).pos,none,0,.nil⟩,rfl,(by repeat (with_reducible first | exact HK4.out | refine Kp.alloc ?_ _ | refine Kp.set ?_ (Nat.le_refl _) _)),?_⟩
 refine ⟨(by repeat (with_reducible first | exact HR4.out | refine PrS.alloc ?_ _ | refine PrS.set ?_ hB _)),Nd.Good.leaf _ _ _ _ _ _ _ _,?_⟩
 rw [← HST.out]
 rfl
set_option maxRecDepth 100000 in
set_option maxHeartbeats 16000000 in
theorem ratom_novar_word (nd:Nd) (l':List Tok) (l:List Tok) (w:World) (B:Nat) (hS:PrS w B (.good l)) (hk1:((hd l).kind == 1)=true) (hk3:((hd l.tail).kind == 3)=false) (ht:∀ W,PrS W B (.good l)→Calls Tryd.prog 178 #[.pointer (some ⟨B,0,none⟩)] W (PostR B W (.ok nd l'))) (hsg:psg 4 (wrd l')=⟨#[]⟩) (hv:(nd.op.toList == [118,97,114])=false):Calls Tryd.prog 165 #[.pointer (some ⟨B,0,none⟩)] w (PostR B w (.bad (hd l).pos 2)):=by
 have HT:=Lib.hid ht
 clear ht
 have HV:=Lib.hid hv
 clear hv
 have HSG:=Lib.hid hsg
 clear hsg
 have hk4:((hd l).kind == 4)=false:=kind_not hk1 (by decide)
 have hc5:=cellsNode
 have hc4:=cellsTok
 have hB:=hS.lt
 have q3:=tok_f3
 have q0:=tok_f0
 have q2:=tok_f2
 have q1:=tok_f1
 have HS:=Lib.hid hS
 clear hS
 go_enter Tryd.func165,Tryd.ntmps165
 have HC1:=Lib.hid (rnow_g l (w.alloc (boxOf ⟨#[]⟩ ⟨#[]⟩ 0 0 none 0 0)) B (HS.out.alloc _))
 go_wp2_with fail
 refine HC1.out.mono ?_
 rintro e1 w1 ⟨rfl,hb1⟩
 have HK1:=Lib.hid (((Kp.refl B w).alloc _).below hb1)
 have HR1:=Lib.hid ((HS.out.alloc _).below hb1)
 have HBZ1:=Lib.hid ((hb1.block _ (lt_heap (new_at w (boxOf ⟨#[]⟩ ⟨#[]⟩ 0 0 none 0 0)))).trans (new_at w (boxOf ⟨#[]⟩ ⟨#[]⟩ 0 0 none 0 0)))
 have hzZ1:=lt_heap HBZ1.out
 clear hb1
 obtain ⟨⟨tT0,tT1,tT2,tT3⟩,tfT0,tfT1,tfT2,tfT3⟩:=tok_cells (new_at w1 (tokBox (hd l).kind (hd l).text (hd l).n (hd l).pos))
 have hPT:PrS (w1.alloc (tokBox (hd l).kind (hd l).text (hd l).n (hd l).pos)) B (.good l):=(HR1.out.alloc _)
 obtain ⟨g,o,L,cap,i,hp1,hi,hL,hg,_,hnx⟩:=hPT.tok
 clear hPT
 obtain ⟨hi1,u0,u1,_⟩:=hnx (hd l.tail) (HS.out.snd2 hk4)
 obtain ⟨⟨k0,k1,k2,k3⟩,_⟩:=hp1.cells
 clear hp1 hnx
 have hi2:(i:Int)+1 < L:=by omega
 have hgs:g < w1.heap.size:=by omega
 have hit:((i:Int)+1).toNat=i+1:=by omega
 have hi0:(0:Int)≤(i:Int)+1:=by omega
 have hiw:IntKind.wrap .i64 ((i:Int)+1)=(i:Int)+1:=by simp [IntKind.wrap,IntKind.bits,IntKind.signed];omega
 go_wp2_with fail
 go_quiet (fail)
 have hb2:Below (w1.alloc (tokBox (hd l).kind (hd l).text (hd l).n (hd l).pos)).heap.size (w1.alloc (tokBox (hd l).kind (hd l).text (hd l).n (hd l).pos)) ((w1.alloc (tokBox (hd l).kind (hd l).text (hd l).n (hd l).pos)).drewN nq):=⟨rfl,rfl,rfl,Nat.le_refl _,fun _ _=>rfl⟩
 clear tT0 tfT0 tT1 tfT1 tT2 tfT2 tT3 tfT3 k0 k1 k2 k3 u0 u1
 generalize (w1.alloc (tokBox (hd l).kind (hd l).text (hd l).n (hd l).pos)).drewN nq=w2 at hb2 ⊢
 have HK2:=Lib.hid ((HK1.out.alloc _).below hb2)
 have HR2:=Lib.hid ((HR1.out.alloc _).below hb2)
 have HBZ2:=Lib.hid ((hb2.block _ (lt_heap ((Below.heap_alloc _ _ _ (lt_heap HBZ1.out)).trans HBZ1.out))).trans ((Below.heap_alloc _ _ _ (lt_heap HBZ1.out)).trans HBZ1.out))
 have hzZ2:=lt_heap HBZ2.out
 have HBT2:=Lib.hid ((hb2.block _ (lt_heap (new_at w1 (tokBox (hd l).kind (hd l).text (hd l).n (hd l).pos)))).trans (new_at w1 (tokBox (hd l).kind (hd l).text (hd l).n (hd l).pos)))
 have hzT2:=lt_heap HBT2.out
 clear hb2
 have HC3:=Lib.hid (HT.out w2 HR2.out)
 go_wp2_with fail
 refine HC3.out.mono ?_
 rintro e3 w3 ⟨A,rfl,hk3,ho3⟩
 have HO3:=Lib.hid ho3
 clear ho3
 have HK3:=Lib.hid (HK2.out.trans hk3)
 have HBZ3:=Lib.hid (hk3.blk HBZ2.out (by omega))
 have hzZ3:=lt_heap HBZ3.out
 have HBT3:=Lib.hid (hk3.blk HBT2.out (by omega))
 have hzT3:=lt_heap HBT3.out
 have HKL3:=Lib.hid hk3
 clear hk3
 obtain ⟨hr3,hg3,hs3⟩:=HO3.out
 have HR3:=Lib.hid hr3
 have HST:=Lib.hid hs3
 clear hr3 hg3 hs3
 have hv2:(A.op.toList == [118,97,114])=false:=by have h:=HV.out;rw [← HST.out] at h;exact h
 have HC4:=Lib.hid (rrel_g l' (w3.alloc (boxOf A.op A.name A.n A.pos A.a A.kids.len A.cap)) B (HR3.out.alloc _))
 rw [HSG.out] at HC4
 go_wp2_with fail
 refine HC4.out.mono ?_
 rintro e4 w4 ⟨rfl,hb4⟩
 have HK4:=Lib.hid ((HK3.out.alloc _).below hb4)
 have HR4:=Lib.hid ((HR3.out.alloc _).below hb4)
 have HBZ4:=Lib.hid ((hb4.block _ (lt_heap ((Below.heap_alloc _ _ _ (lt_heap HBZ3.out)).trans HBZ3.out))).trans ((Below.heap_alloc _ _ _ (lt_heap HBZ3.out)).trans HBZ3.out))
 have hzZ4:=lt_heap HBZ4.out
 have HBT4:=Lib.hid ((hb4.block _ (lt_heap ((Below.heap_alloc _ _ _ (lt_heap HBT3.out)).trans HBT3.out))).trans ((Below.heap_alloc _ _ _ (lt_heap HBT3.out)).trans HBT3.out))
 have hzT4:=lt_heap HBT4.out
 have HBN4:=Lib.hid ((hb4.block _ (lt_heap (new_at w3 (boxOf A.op A.name A.n A.pos A.a A.kids.len A.cap)))).trans (new_at w3 (boxOf A.op A.name A.n A.pos A.a A.kids.len A.cap)))
 have hzN4:=lt_heap HBN4.out
 clear hb4
 have z2:=HR4.out.err_g
 have hne1:¬ w.heap.size=w1.heap.size:=by omega
 have hme1:¬ w1.heap.size=w.heap.size:=by omega
 have hne2:¬ w.heap.size=w3.heap.size:=by omega
 have hme2:¬ w3.heap.size=w.heap.size:=by omega
 have hne3:¬ w1.heap.size=w3.heap.size:=by omega
 have hme3:¬ w3.heap.size=w1.heap.size:=by omega
 obtain ⟨bN0,bN1,bN2,bN3,bN4⟩:=box_cells HBN4.out
 obtain ⟨fN0,fN1,fN2,fN3,fN4⟩:=box_frozen HBN4.out
 obtain ⟨⟨tT0,tT1,tT2,tT3⟩,tfT0,tfT1,tfT2,tfT3⟩:=tok_cells HBT4.out
 have HC5:=Lib.hid (rfail_g l' (hd l).pos 2 w4 B rfl HR4.out)
 go_wp2_with fail
 refine HC5.out.mono ?_
 rintro e5 w5 ⟨rfl,hk5,hr5⟩
 have HK5:=Lib.hid (HK4.out.trans hk5)
 have HR5:=Lib.hid hr5
 have HBZ5:=Lib.hid (hk5.blk HBZ4.out (by omega))
 have hzZ5:=lt_heap HBZ5.out
 have HBT5:=Lib.hid (hk5.blk HBT4.out (by omega))
 have hzT5:=lt_heap HBT5.out
 have HBN5:=Lib.hid (hk5.blk HBN4.out (by omega))
 have hzN5:=lt_heap HBN5.out
 clear hk5
 have hne4:¬ w.heap.size=w1.heap.size:=by omega
 have hme4:¬ w1.heap.size=w.heap.size:=by omega
 have hne5:¬ w.heap.size=w3.heap.size:=by omega
 have hme5:¬ w3.heap.size=w.heap.size:=by omega
 have hne6:¬ w1.heap.size=w3.heap.size:=by omega
 have hme6:¬ w3.heap.size=w1.heap.size:=by omega
 obtain ⟨bN0,bN1,bN2,bN3,bN4⟩:=box_cells HBN5.out
 obtain ⟨fN0,fN1,fN2,fN3,fN4⟩:=box_frozen HBN5.out
 obtain ⟨⟨tT0,tT1,tT2,tT3⟩,tfT0,tfT1,tfT2,tfT3⟩:=tok_cells HBT5.out
 obtain ⟨bZ0,bZ1,bZ2,bZ3,bZ4⟩:=box_cells HBZ5.out
 obtain ⟨fZ0,fZ1,fZ2,fZ3,fZ4⟩:=box_frozen HBZ5.out
 go_wp2_with fail
 refine ret_node (B:=w.heap.size) tIsB A.name 0 (hd l).pos none 0 0 Tryd.results165 rfl rfl (by repeat (with_reducible first | exact node_set HBZ5.out _ _ _ _ _ _ _ | refine (Below.heap_alloc _ _ _ (by simp;omega)).trans ?_)) ⟨⟨tIsB,A.name,0,(hd l).pos,none,0,.nil⟩,rfl,(by repeat (with_reducible first | exact HK5.out | refine Kp.alloc ?_ _ | refine Kp.set ?_ (Nat.le_refl _) _)),?_⟩
 show PrS _ B (.bad _ _)
 exact (by repeat (with_reducible first | exact HR5.out | refine PrS.alloc ?_ _ | refine PrS.set ?_ hB _))
set_option maxRecDepth 100000 in
set_option maxHeartbeats 16000000 in
theorem ratom_rel_text (nd:Nd) (l':List Tok) (rk r:Res Nd) (l:List Tok) (w:World) (B:Nat) (hS:PrS w B (.good l)) (hk1:((hd l).kind == 1)=true) (hk3:((hd l.tail).kind == 3)=true) (htx:((hd l.tail).text.toList == [40])=false) (ht:∀ W,PrS W B (.good l)→Calls Tryd.prog 178 #[.pointer (some ⟨B,0,none⟩)] W (PostR B W (.ok nd l'))) (hsg:((psg 4 (wrd l')).toList == [])=false) (hk6:((hd l').kind == 4)=false) (hu:∀ W,PrS W B (.good l'.tail)→Calls Tryd.prog 178 #[.pointer (some ⟨B,0,none⟩)] W (PostR B W rk)) (h5:∀ m l2,rk=.ok m l2→r=.ok (mkN (psg 4 (wrd l')) emp0 0 (hd l').pos [nd,m]) l2) (h6:∀ a e,rk=.bad a e→r=.bad a e):Calls Tryd.prog 165 #[.pointer (some ⟨B,0,none⟩)] w (PostR B w (r)):=by
 have HT:=Lib.hid ht
 have HU:=Lib.hid hu
 have H5:=Lib.hid h5
 have H6:=Lib.hid h6
 have HKI6:=Lib.hid hk6
 clear ht hu h5 h6 hk6
 have hop1:¬ (psg 4 (wrd l')).toList=[]:=by simpa using hsg
 have hk4:((hd l).kind == 4)=false:=kind_not hk1 (by decide)
 have hc5:=cellsNode
 have hc4:=cellsTok
 have hB:=hS.lt
 have q3:=tok_f3
 have q0:=tok_f0
 have q2:=tok_f2
 have q1:=tok_f1
 have HS:=Lib.hid hS
 clear hS
 go_enter Tryd.func165,Tryd.ntmps165
 have HC1:=Lib.hid (rnow_g l (w.alloc (boxOf ⟨#[]⟩ ⟨#[]⟩ 0 0 none 0 0)) B (HS.out.alloc _))
 go_wp2_with fail
 refine HC1.out.mono ?_
 rintro e1 w1 ⟨rfl,hb1⟩
 have HK1:=Lib.hid (((Kp.refl B w).alloc _).below hb1)
 have HR1:=Lib.hid ((HS.out.alloc _).below hb1)
 have HBZ1:=Lib.hid ((hb1.block _ (lt_heap (new_at w (boxOf ⟨#[]⟩ ⟨#[]⟩ 0 0 none 0 0)))).trans (new_at w (boxOf ⟨#[]⟩ ⟨#[]⟩ 0 0 none 0 0)))
 have hzZ1:=lt_heap HBZ1.out
 clear hb1
 obtain ⟨⟨tT0,tT1,tT2,tT3⟩,tfT0,tfT1,tfT2,tfT3⟩:=tok_cells (new_at w1 (tokBox (hd l).kind (hd l).text (hd l).n (hd l).pos))
 have hPT:PrS (w1.alloc (tokBox (hd l).kind (hd l).text (hd l).n (hd l).pos)) B (.good l):=(HR1.out.alloc _)
 obtain ⟨g,o,L,cap,i,hp1,hi,hL,hg,_,hnx⟩:=hPT.tok
 clear hPT
 obtain ⟨hi1,u0,u1,_⟩:=hnx (hd l.tail) (HS.out.snd2 hk4)
 obtain ⟨⟨k0,k1,k2,k3⟩,_⟩:=hp1.cells
 clear hp1 hnx
 have hi2:(i:Int)+1 < L:=by omega
 have hgs:g < w1.heap.size:=by omega
 have hit:((i:Int)+1).toNat=i+1:=by omega
 have hi0:(0:Int)≤(i:Int)+1:=by omega
 have hiw:IntKind.wrap .i64 ((i:Int)+1)=(i:Int)+1:=by simp [IntKind.wrap,IntKind.bits,IntKind.signed];omega
 go_wp2_with fail
 go_quiet (fail)
 have hb2:Below (w1.alloc (tokBox (hd l).kind (hd l).text (hd l).n (hd l).pos)).heap.size (w1.alloc (tokBox (hd l).kind (hd l).text (hd l).n (hd l).pos)) ((w1.alloc (tokBox (hd l).kind (hd l).text (hd l).n (hd l).pos)).drewN nq):=⟨rfl,rfl,rfl,Nat.le_refl _,fun _ _=>rfl⟩
 clear tT0 tfT0 tT1 tfT1 tT2 tfT2 tT3 tfT3 k0 k1 k2 k3 u0 u1
 generalize (w1.alloc (tokBox (hd l).kind (hd l).text (hd l).n (hd l).pos)).drewN nq=w2 at hb2 ⊢
 have HK2:=Lib.hid ((HK1.out.alloc _).below hb2)
 have HR2:=Lib.hid ((HR1.out.alloc _).below hb2)
 have HBZ2:=Lib.hid ((hb2.block _ (lt_heap ((Below.heap_alloc _ _ _ (lt_heap HBZ1.out)).trans HBZ1.out))).trans ((Below.heap_alloc _ _ _ (lt_heap HBZ1.out)).trans HBZ1.out))
 have hzZ2:=lt_heap HBZ2.out
 have HBT2:=Lib.hid ((hb2.block _ (lt_heap (new_at w1 (tokBox (hd l).kind (hd l).text (hd l).n (hd l).pos)))).trans (new_at w1 (tokBox (hd l).kind (hd l).text (hd l).n (hd l).pos)))
 have hzT2:=lt_heap HBT2.out
 clear hb2
 have HC3:=Lib.hid (HT.out w2 HR2.out)
 go_wp2_with fail
 refine HC3.out.mono ?_
 rintro e3 w3 ⟨A,rfl,hk3,ho3⟩
 have HO3:=Lib.hid ho3
 clear ho3
 have HK3:=Lib.hid (HK2.out.trans hk3)
 have HBZ3:=Lib.hid (hk3.blk HBZ2.out (by omega))
 have hzZ3:=lt_heap HBZ3.out
 have HBT3:=Lib.hid (hk3.blk HBT2.out (by omega))
 have hzT3:=lt_heap HBT3.out
 have HKL3:=Lib.hid hk3
 clear hk3
 obtain ⟨hr3,hg3,hs3⟩:=HO3.out
 have HR3:=Lib.hid hr3
 have HG:=Lib.hid hg3
 have HST:=Lib.hid hs3
 clear hr3 hg3 hs3 HO3
 have HC4:=Lib.hid (rrel_g l' (w3.alloc (boxOf A.op A.name A.n A.pos A.a A.kids.len A.cap)) B (HR3.out.alloc _))
 go_wp2_with fail
 refine HC4.out.mono ?_
 rintro e4 w4 ⟨rfl,hb4⟩
 have HMN4:=Lib.hid (((Kp.refl B w3).alloc _).below hb4)
 have HK4:=Lib.hid ((HK3.out.alloc _).below hb4)
 have HR4:=Lib.hid ((HR3.out.alloc _).below hb4)
 have HBZ4:=Lib.hid ((hb4.block _ (lt_heap ((Below.heap_alloc _ _ _ (lt_heap HBZ3.out)).trans HBZ3.out))).trans ((Below.heap_alloc _ _ _ (lt_heap HBZ3.out)).trans HBZ3.out))
 have hzZ4:=lt_heap HBZ4.out
 have HBT4:=Lib.hid ((hb4.block _ (lt_heap ((Below.heap_alloc _ _ _ (lt_heap HBT3.out)).trans HBT3.out))).trans ((Below.heap_alloc _ _ _ (lt_heap HBT3.out)).trans HBT3.out))
 have hzT4:=lt_heap HBT4.out
 have HBN4:=Lib.hid ((hb4.block _ (lt_heap (new_at w3 (boxOf A.op A.name A.n A.pos A.a A.kids.len A.cap)))).trans (new_at w3 (boxOf A.op A.name A.n A.pos A.a A.kids.len A.cap)))
 have hzN4:=lt_heap HBN4.out
 clear hb4
 have z2:=HR4.out.err_g
 have hne1:¬ w.heap.size=w1.heap.size:=by omega
 have hme1:¬ w1.heap.size=w.heap.size:=by omega
 have hne2:¬ w.heap.size=w3.heap.size:=by omega
 have hme2:¬ w3.heap.size=w.heap.size:=by omega
 have hne3:¬ w1.heap.size=w3.heap.size:=by omega
 have hme3:¬ w3.heap.size=w1.heap.size:=by omega
 have HC5:=Lib.hid (rnext_g l' w4 B HKI6.out HR4.out)
 go_wp2_with fail
 refine HC5.out.mono ?_
 rintro e5 w5 ⟨rfl,hk5,hr5⟩
 have HMN5:=Lib.hid (HMN4.out.trans hk5)
 have HK5:=Lib.hid (HK4.out.trans hk5)
 have HR5:=Lib.hid hr5
 have HBZ5:=Lib.hid (hk5.blk HBZ4.out (by omega))
 have hzZ5:=lt_heap HBZ5.out
 have HBT5:=Lib.hid (hk5.blk HBT4.out (by omega))
 have hzT5:=lt_heap HBT5.out
 have HBN5:=Lib.hid (hk5.blk HBN4.out (by omega))
 have hzN5:=lt_heap HBN5.out
 clear hk5
 clear z2
 have HC6:=Lib.hid (HU.out (w5.alloc (tokBox (hd l').kind (hd l').text (hd l').n (hd l').pos)).drew ((HR5.out.alloc _).drew))
 go_wp2_with fail
 refine wp_region_last 5 (fun W=>W.heap[w3.heap.size]? = some (.cells #[.string A.op,.string A.name,.int .i64 A.n,.int .i64 A.pos,.slice A.a A.kids.len A.cap] 26)∧W.heap[w5.heap.size]? = some (tokBox (hd l').kind (hd l').text (hd l').n (hd l').pos)) (by kernel_rfl) (by kernel_rfl) ⟨((Below.heap_alloc _ _ _ (lt_heap HBN5.out)).trans HBN5.out),(new_at w5 (tokBox (hd l').kind (hd l').text (hd l').n (hd l').pos))⟩ ?_
 refine headsC_move _ _ rfl rfl ?_
 refine headsC_val _ (.pointer (some ⟨w5.heap.size,3,none⟩)) rfl (fun W hW=>by unfold execOp;simp [go_sem,Act.eval]) ?_
 refine headsC_val _ (.int .i64 (hd l').pos) rfl (fun W hW=>by have h:=tok_cells hW.2;unfold execOp;simp [go_sem,Act.eval,h]) ?_
 refine headsC_load _ _ _ rfl rfl w3.heap.size rfl _ _ _ _ (fun W h=>h.1) Tryd.underlying26 rfl (by kernel_rfl) ?_
 refine headsC_move _ _ rfl rfl ?_
 refine headsC_nil ?_
 show wpList _ _ (thenC _ _ _ _) _ _ _
 go_wp2_with fail
 refine HC6.out.mono ?_
 rintro e6 w6 ⟨M,rfl,hk6,ho6⟩
 have HO6:=Lib.hid ho6
 clear ho6
 have HK6:=Lib.hid (((HK5.out.alloc _).drew).trans hk6)
 have HMN6:=Lib.hid (((HMN5.out.alloc _).drew).trans hk6)
 have HBZ6:=Lib.hid (hk6.blk ((Below.heap_alloc _ _ _ (lt_heap HBZ5.out)).trans HBZ5.out) (by omega))
 have hzZ6:=lt_heap HBZ6.out
 have HBT6:=Lib.hid (hk6.blk ((Below.heap_alloc _ _ _ (lt_heap HBT5.out)).trans HBT5.out) (by omega))
 have hzT6:=lt_heap HBT6.out
 have HBN6:=Lib.hid (hk6.blk ((Below.heap_alloc _ _ _ (lt_heap HBN5.out)).trans HBN5.out) (by omega))
 have hzN6:=lt_heap HBN6.out
 have HBU6:=Lib.hid (hk6.blk (new_at w5 (tokBox (hd l').kind (hd l').text (hd l').n (hd l').pos)) (by omega))
 have hzU6:=lt_heap HBU6.out
 have HKL6:=Lib.hid hk6
 clear hk6
 have hdr:w5.drew.heap.size=w5.heap.size:=rfl
 go_wp2_with fail
 refine ⟨fun _=>⟨HBN6.out,HBU6.out⟩,?_⟩
 show wpList _ _ (thenC _ _ _ _) _ _ _
 go_wp2_with fail
 refine ⟨fun _=>⟨(Below.heap_alloc _ _ _ (lt_heap HBN6.out)).trans HBN6.out,(Below.heap_alloc _ _ _ (lt_heap HBU6.out)).trans HBU6.out⟩,?_⟩
 show wpList _ _ (thenC _ _ _ _) _ _ _
 go_wp2_with fail
 refine ⟨fun _=>⟨(Below.heap_alloc _ _ _ (lt_heap HBN6.out)).trans HBN6.out,(Below.heap_alloc _ _ _ (lt_heap HBU6.out)).trans HBU6.out⟩,?_⟩
 show wpList _ _ (thenC _ _ _ _) _ _ _
 obtain ⟨bZ0,bZ1,bZ2,bZ3,bZ4⟩:=box_cells HBZ6.out
 obtain ⟨fZ0,fZ1,fZ2,fZ3,fZ4⟩:=box_frozen HBZ6.out
 go_wp2_with fail
 refine ⟨fun h=>(by cases h),NoPanic.normal ?_⟩
 go_wp2_with fail
 refine ret_node (B:=w.heap.size) (psg 4 (wrd l')) ⟨#[]⟩ 0 (hd l').pos (some ⟨w6.heap.size,0,none⟩) 2 2 Tryd.results165 rfl rfl (by repeat (with_reducible first | exact node_set HBZ6.out _ _ _ _ _ _ _ | refine (Below.heap_alloc _ _ _ (by simp;omega)).trans ?_)) ⟨⟨(psg 4 (wrd l')),⟨#[]⟩,0,(hd l').pos,some ⟨w6.heap.size,0,none⟩,2,.cons A.op A.name A.n A.pos A.a A.cap A.kids (.cons M.op M.name M.n M.pos M.a M.cap M.kids .nil)⟩,rfl,(by repeat (with_reducible first | exact HK6.out | refine Kp.alloc ?_ _ | refine Kp.set ?_ (Nat.le_refl _) _)),?_⟩
 have hfr:From (fun b=>w.heap.size+1≤b) w6 (((((w6.setCell ⟨w.heap.size,0,none⟩ (.string (psg 4 (wrd l')))).setCell ⟨w.heap.size,1,none⟩ (.string ⟨#[]⟩)).setCell ⟨w.heap.size,2,none⟩ (.int .i64 0)).setCell ⟨w.heap.size,3,none⟩ (.int .i64 (hd l').pos)).setCell ⟨w.heap.size,4,none⟩ (.slice (some ⟨w6.heap.size,0,none⟩) 2 2)):=set5_from _ (by omega) _ _ _ _ _
 cases rk with
 | ok m l2 =>
  obtain ⟨hr,hg,hs⟩:=HO6.out
  rw [H5.out m l2 rfl]
  refine ⟨(by repeat (with_reducible first | exact hr | refine PrS.alloc ?_ _ | refine PrS.set ?_ hB _)),?_,?_⟩
  ·refine Nd.Good.mono (S:=fun b=>w.heap.size+1≤b) ?_ (fun b hb=>by omega)
   have hT:=(HG.out.mono (S':=fun b=>w.heap.size+1≤b) (fun b hb=>by have h5:w2.heap.size≤b:=hb;omega)).from (HMN6.out.from (S:=fun b=>w.heap.size+1≤b) (fun h=>absurd h (by omega)))
   have hU:=hg.mono (S':=fun b=>w.heap.size+1≤b) (fun b hb=>by have h5:(w5.alloc (tokBox (hd l').kind (hd l').text (hd l').n (hd l').pos)).drew.heap.size≤b:=hb;(try simp at h5);omega)
   exact good2 (G:=w6.heap.size) (by omega) (new_sets _ _ _ _ _ _ _ _) ((hT.from hfr).from (From.alloc _ _ _)) ((hU.from hfr).from (From.alloc _ _ _))
  ·show Nd.mk _ _ _ _ _ _ _=_
   rw [← hs,← HST.out]
   rfl
 | bad a e =>
  have hr:PrS w6 B (.bad a e):=HO6.out
  rw [H6.out a e rfl]
  show PrS _ B (.bad a e)
  exact (by repeat (with_reducible first | exact hr | refine PrS.alloc ?_ _ | refine PrS.set ?_ hB _))
set_option maxRecDepth 100000 in
set_option maxHeartbeats 16000000 in
theorem ratom_bad_text (a e:Int) (l:List Tok) (w:World) (B:Nat) (hS:PrS w B (.good l)) (hk1:((hd l).kind == 1)=true) (hk3:((hd l.tail).kind == 3)=true) (htx:((hd l.tail).text.toList == [40])=false) (ht:∀ W,PrS W B (.good l)→Calls Tryd.prog 178 #[.pointer (some ⟨B,0,none⟩)] W (PostR B W (.bad a e))):Calls Tryd.prog 165 #[.pointer (some ⟨B,0,none⟩)] w (PostR B w (.bad a e)):=by
 have HT:=Lib.hid ht
 clear ht
 have hk4:((hd l).kind == 4)=false:=kind_not hk1 (by decide)
 have hc5:=cellsNode
 have hc4:=cellsTok
 have hB:=hS.lt
 have q3:=tok_f3
 have q0:=tok_f0
 have q2:=tok_f2
 have q1:=tok_f1
 have HS:=Lib.hid hS
 clear hS
 go_enter Tryd.func165,Tryd.ntmps165
 have HC1:=Lib.hid (rnow_g l (w.alloc (boxOf ⟨#[]⟩ ⟨#[]⟩ 0 0 none 0 0)) B (HS.out.alloc _))
 go_wp2_with fail
 refine HC1.out.mono ?_
 rintro e1 w1 ⟨rfl,hb1⟩
 have HK1:=Lib.hid (((Kp.refl B w).alloc _).below hb1)
 have HR1:=Lib.hid ((HS.out.alloc _).below hb1)
 have HBZ1:=Lib.hid ((hb1.block _ (lt_heap (new_at w (boxOf ⟨#[]⟩ ⟨#[]⟩ 0 0 none 0 0)))).trans (new_at w (boxOf ⟨#[]⟩ ⟨#[]⟩ 0 0 none 0 0)))
 have hzZ1:=lt_heap HBZ1.out
 clear hb1
 obtain ⟨⟨tT0,tT1,tT2,tT3⟩,tfT0,tfT1,tfT2,tfT3⟩:=tok_cells (new_at w1 (tokBox (hd l).kind (hd l).text (hd l).n (hd l).pos))
 have hPT:PrS (w1.alloc (tokBox (hd l).kind (hd l).text (hd l).n (hd l).pos)) B (.good l):=(HR1.out.alloc _)
 obtain ⟨g,o,L,cap,i,hp1,hi,hL,hg,_,hnx⟩:=hPT.tok
 clear hPT
 obtain ⟨hi1,u0,u1,_⟩:=hnx (hd l.tail) (HS.out.snd2 hk4)
 obtain ⟨⟨k0,k1,k2,k3⟩,_⟩:=hp1.cells
 clear hp1 hnx
 have hi2:(i:Int)+1 < L:=by omega
 have hgs:g < w1.heap.size:=by omega
 have hit:((i:Int)+1).toNat=i+1:=by omega
 have hi0:(0:Int)≤(i:Int)+1:=by omega
 have hiw:IntKind.wrap .i64 ((i:Int)+1)=(i:Int)+1:=by simp [IntKind.wrap,IntKind.bits,IntKind.signed];omega
 go_wp2_with fail
 go_quiet (fail)
 have hb2:Below (w1.alloc (tokBox (hd l).kind (hd l).text (hd l).n (hd l).pos)).heap.size (w1.alloc (tokBox (hd l).kind (hd l).text (hd l).n (hd l).pos)) ((w1.alloc (tokBox (hd l).kind (hd l).text (hd l).n (hd l).pos)).drewN nq):=⟨rfl,rfl,rfl,Nat.le_refl _,fun _ _=>rfl⟩
 clear tT0 tfT0 tT1 tfT1 tT2 tfT2 tT3 tfT3 k0 k1 k2 k3 u0 u1
 generalize (w1.alloc (tokBox (hd l).kind (hd l).text (hd l).n (hd l).pos)).drewN nq=w2 at hb2 ⊢
 have HK2:=Lib.hid ((HK1.out.alloc _).below hb2)
 have HR2:=Lib.hid ((HR1.out.alloc _).below hb2)
 have HBZ2:=Lib.hid ((hb2.block _ (lt_heap ((Below.heap_alloc _ _ _ (lt_heap HBZ1.out)).trans HBZ1.out))).trans ((Below.heap_alloc _ _ _ (lt_heap HBZ1.out)).trans HBZ1.out))
 have hzZ2:=lt_heap HBZ2.out
 have HBT2:=Lib.hid ((hb2.block _ (lt_heap (new_at w1 (tokBox (hd l).kind (hd l).text (hd l).n (hd l).pos)))).trans (new_at w1 (tokBox (hd l).kind (hd l).text (hd l).n (hd l).pos)))
 have hzT2:=lt_heap HBT2.out
 clear hb2
 have HC3:=Lib.hid (HT.out w2 HR2.out)
 go_wp2_with fail
 refine HC3.out.mono ?_
 rintro e3 w3 ⟨A,rfl,hk3,ho3⟩
 have HO3:=Lib.hid ho3
 clear ho3
 have HK3:=Lib.hid (HK2.out.trans hk3)
 have HBZ3:=Lib.hid (hk3.blk HBZ2.out (by omega))
 have hzZ3:=lt_heap HBZ3.out
 have HBT3:=Lib.hid (hk3.blk HBT2.out (by omega))
 have hzT3:=lt_heap HBT3.out
 have HKL3:=Lib.hid hk3
 clear hk3
 have HR3:=Lib.hid (show PrS w3 B (.bad a e) from HO3.out)
 have HC4:=Lib.hid (rrel_b a e (w3.alloc (boxOf A.op A.name A.n A.pos A.a A.kids.len A.cap)) B (HR3.out.alloc _))
 go_wp2_with fail
 refine HC4.out.mono ?_
 rintro e4 w4 ⟨rfl,hb4⟩
 have HK4:=Lib.hid ((HK3.out.alloc _).below hb4)
 have HR4:=Lib.hid ((HR3.out.alloc _).below hb4)
 have HBZ4:=Lib.hid ((hb4.block _ (lt_heap ((Below.heap_alloc _ _ _ (lt_heap HBZ3.out)).trans HBZ3.out))).trans ((Below.heap_alloc _ _ _ (lt_heap HBZ3.out)).trans HBZ3.out))
 have hzZ4:=lt_heap HBZ4.out
 have HBT4:=Lib.hid ((hb4.block _ (lt_heap ((Below.heap_alloc _ _ _ (lt_heap HBT3.out)).trans HBT3.out))).trans ((Below.heap_alloc _ _ _ (lt_heap HBT3.out)).trans HBT3.out))
 have hzT4:=lt_heap HBT4.out
 have HBN4:=Lib.hid ((hb4.block _ (lt_heap (new_at w3 (boxOf A.op A.name A.n A.pos A.a A.kids.len A.cap)))).trans (new_at w3 (boxOf A.op A.name A.n A.pos A.a A.kids.len A.cap)))
 have hzN4:=lt_heap HBN4.out
 clear hb4
 obtain ⟨z2,hz0⟩:=HR4.out.err_b
 have hne1:¬ w.heap.size=w1.heap.size:=by omega
 have hme1:¬ w1.heap.size=w.heap.size:=by omega
 have hne2:¬ w.heap.size=w3.heap.size:=by omega
 have hme2:¬ w3.heap.size=w.heap.size:=by omega
 have hne3:¬ w1.heap.size=w3.heap.size:=by omega
 have hme3:¬ w3.heap.size=w1.heap.size:=by omega
 obtain ⟨bN0,bN1,bN2,bN3,bN4⟩:=box_cells HBN4.out
 obtain ⟨fN0,fN1,fN2,fN3,fN4⟩:=box_frozen HBN4.out
 obtain ⟨⟨tT0,tT1,tT2,tT3⟩,tfT0,tfT1,tfT2,tfT3⟩:=tok_cells HBT4.out
 rcases bool_two (A.op.toList == [118,97,114]) with hv | hv
 ·obtain ⟨bZ0,bZ1,bZ2,bZ3,bZ4⟩:=box_cells HBZ4.out
  obtain ⟨fZ0,fZ1,fZ2,fZ3,fZ4⟩:=box_frozen HBZ4.out
  go_wp2_with fail
  refine ret_node (B:=w.heap.size) tIsB A.name 0 (hd l).pos none 0 0 Tryd.results165 rfl rfl (by repeat (with_reducible first | exact node_set HBZ4.out _ _ _ _ _ _ _ | refine (Below.heap_alloc _ _ _ (by simp;omega)).trans ?_)) ⟨⟨tIsB,A.name,0,(hd l).pos,none,0,.nil⟩,rfl,(by repeat (with_reducible first | exact HK4.out | refine Kp.alloc ?_ _ | refine Kp.set ?_ (Nat.le_refl _) _)),?_⟩
  show PrS _ B (.bad _ _)
  exact (by repeat (with_reducible first | exact HR4.out | refine PrS.alloc ?_ _ | refine PrS.set ?_ hB _))
 ·have HC5:=Lib.hid (rfail_b (hd l).pos 2 a e w4 B HR4.out)
  go_wp2_with fail
  refine HC5.out.mono ?_
  rintro e5 w5 ⟨rfl,hk5,hr5⟩
  have HK5:=Lib.hid (HK4.out.trans hk5)
  have HR5:=Lib.hid hr5
  have HBZ5:=Lib.hid (hk5.blk HBZ4.out (by omega))
  have hzZ5:=lt_heap HBZ5.out
  have HBT5:=Lib.hid (hk5.blk HBT4.out (by omega))
  have hzT5:=lt_heap HBT5.out
  have HBN5:=Lib.hid (hk5.blk HBN4.out (by omega))
  have hzN5:=lt_heap HBN5.out
  clear hk5
  have hne4:¬ w.heap.size=w1.heap.size:=by omega
  have hme4:¬ w1.heap.size=w.heap.size:=by omega
  have hne5:¬ w.heap.size=w3.heap.size:=by omega
  have hme5:¬ w3.heap.size=w.heap.size:=by omega
  have hne6:¬ w1.heap.size=w3.heap.size:=by omega
  have hme6:¬ w3.heap.size=w1.heap.size:=by omega
  obtain ⟨bN0,bN1,bN2,bN3,bN4⟩:=box_cells HBN5.out
  obtain ⟨fN0,fN1,fN2,fN3,fN4⟩:=box_frozen HBN5.out
  obtain ⟨⟨tT0,tT1,tT2,tT3⟩,tfT0,tfT1,tfT2,tfT3⟩:=tok_cells HBT5.out
  obtain ⟨bZ0,bZ1,bZ2,bZ3,bZ4⟩:=box_cells HBZ5.out
  obtain ⟨fZ0,fZ1,fZ2,fZ3,fZ4⟩:=box_frozen HBZ5.out
  go_wp2_with fail
  refine ret_node (B:=w.heap.size) tIsB A.name 0 (hd l).pos none 0 0 Tryd.results165 rfl rfl (by repeat (with_reducible first | exact node_set HBZ5.out _ _ _ _ _ _ _ | refine (Below.heap_alloc _ _ _ (by simp;omega)).trans ?_)) ⟨⟨tIsB,A.name,0,(hd l).pos,none,0,.nil⟩,rfl,(by repeat (with_reducible first | exact HK5.out | refine Kp.alloc ?_ _ | refine Kp.set ?_ (Nat.le_refl _) _)),?_⟩
  show PrS _ B (.bad _ _)
  exact (by repeat (with_reducible first | exact HR5.out | refine PrS.alloc ?_ _ | refine PrS.set ?_ hB _))
set_option maxRecDepth 100000 in
set_option maxHeartbeats 16000000 in
theorem ratom_is_text (nd:Nd) (l':List Tok) (l:List Tok) (w:World) (B:Nat) (hS:PrS w B (.good l)) (hk1:((hd l).kind == 1)=true) (hk3:((hd l.tail).kind == 3)=true) (htx:((hd l.tail).text.toList == [40])=false) (ht:∀ W,PrS W B (.good l)→Calls Tryd.prog 178 #[.pointer (some ⟨B,0,none⟩)] W (PostR B W (.ok nd l'))) (hsg:psg 4 (wrd l')=⟨#[]⟩) (hv:(nd.op.toList == [118,97,114])=true):Calls Tryd.prog 165 #[.pointer (some ⟨B,0,none⟩)] w (PostR B w (.ok (mkN tIsB nd.name 0 (hd l).pos []) l')):=by
 have HT:=Lib.hid ht
 clear ht
 have HV:=Lib.hid hv
 clear hv
 have HSG:=Lib.hid hsg
 clear hsg
 have hk4:((hd l).kind == 4)=false:=kind_not hk1 (by decide)
 have hc5:=cellsNode
 have hc4:=cellsTok
 have hB:=hS.lt
 have q3:=tok_f3
 have q0:=tok_f0
 have q2:=tok_f2
 have q1:=tok_f1
 have HS:=Lib.hid hS
 clear hS
 go_enter Tryd.func165,Tryd.ntmps165
 have HC1:=Lib.hid (rnow_g l (w.alloc (boxOf ⟨#[]⟩ ⟨#[]⟩ 0 0 none 0 0)) B (HS.out.alloc _))
 go_wp2_with fail
 refine HC1.out.mono ?_
 rintro e1 w1 ⟨rfl,hb1⟩
 have HK1:=Lib.hid (((Kp.refl B w).alloc _).below hb1)
 have HR1:=Lib.hid ((HS.out.alloc _).below hb1)
 have HBZ1:=Lib.hid ((hb1.block _ (lt_heap (new_at w (boxOf ⟨#[]⟩ ⟨#[]⟩ 0 0 none 0 0)))).trans (new_at w (boxOf ⟨#[]⟩ ⟨#[]⟩ 0 0 none 0 0)))
 have hzZ1:=lt_heap HBZ1.out
 clear hb1
 obtain ⟨⟨tT0,tT1,tT2,tT3⟩,tfT0,tfT1,tfT2,tfT3⟩:=tok_cells (new_at w1 (tokBox (hd l).kind (hd l).text (hd l).n (hd l).pos))
 have hPT:PrS (w1.alloc (tokBox (hd l).kind (hd l).text (hd l).n (hd l).pos)) B (.good l):=(HR1.out.alloc _)
 obtain ⟨g,o,L,cap,i,hp1,hi,hL,hg,_,hnx⟩:=hPT.tok
 clear hPT
 obtain ⟨hi1,u0,u1,_⟩:=hnx (hd l.tail) (HS.out.snd2 hk4)
 obtain ⟨⟨k0,k1,k2,k3⟩,_⟩:=hp1.cells
 clear hp1 hnx
 have hi2:(i:Int)+1 < L:=by omega
 have hgs:g < w1.heap.size:=by omega
 have hit:((i:Int)+1).toNat=i+1:=by omega
 have hi0:(0:Int)≤(i:Int)+1:=by omega
 have hiw:IntKind.wrap .i64 ((i:Int)+1)=(i:Int)+1:=by simp [IntKind.wrap,IntKind.bits,IntKind.signed];omega
 go_wp2_with fail
 go_quiet (fail)
 have hb2:Below (w1.alloc (tokBox (hd l).kind (hd l).text (hd l).n (hd l).pos)).heap.size (w1.alloc (tokBox (hd l).kind (hd l).text (hd l).n (hd l).pos)) ((w1.alloc (tokBox (hd l).kind (hd l).text (hd l).n (hd l).pos)).drewN nq):=⟨rfl,rfl,rfl,Nat.le_refl _,fun _ _=>rfl⟩
 clear tT0 tfT0 tT1 tfT1 tT2 tfT2 tT3 tfT3 k0 k1 k2 k3 u0 u1
 generalize (w1.alloc (tokBox (hd l).kind (hd l).text (hd l).n (hd l).pos)).drewN nq=w2 at hb2 ⊢
 have HK2:=Lib.hid ((HK1.out.alloc _).below hb2)
 have HR2:=Lib.hid ((HR1.out.alloc _).below hb2)
 have HBZ2:=Lib.hid ((hb2.block _ (lt_heap ((Below.heap_alloc _ _ _ (lt_heap HBZ1.out)).trans HBZ1.out))).trans ((Below.heap_alloc _ _ _ (lt_heap HBZ1.out)).trans HBZ1.out))
 have hzZ2:=lt_heap HBZ2.out
 have HBT2:=Lib.hid ((hb2.block _ (lt_heap (new_at w1 (tokBox (hd l).kind (hd l).text (hd l).n (hd l).pos)))).trans (new_at w1 (tokBox (hd l).kind (hd l).text (hd l).n (hd l).pos)))
 have hzT2:=lt_heap HBT2.out
 clear hb2
 have HC3:=Lib.hid (HT.out w2 HR2.out)
 go_wp2_with fail
 refine HC3.out.mono ?_
 rintro e3 w3 ⟨A,rfl,hk3,ho3⟩
 have HO3:=Lib.hid ho3
 clear ho3
 have HK3:=Lib.hid (HK2.out.trans hk3)
 have HBZ3:=Lib.hid (hk3.blk HBZ2.out (by omega))
 have hzZ3:=lt_heap HBZ3.out
 have HBT3:=Lib.hid (hk3.blk HBT2.out (by omega))
 have hzT3:=lt_heap HBT3.out
 have HKL3:=Lib.hid hk3
 clear hk3
 obtain ⟨hr3,hg3,hs3⟩:=HO3.out
 have HR3:=Lib.hid hr3
 have HST:=Lib.hid hs3
 clear hr3 hg3 hs3
 have hv2:(A.op.toList == [118,97,114])=true:=by have h:=HV.out;rw [← HST.out] at h;exact h
 have HC4:=Lib.hid (rrel_g l' (w3.alloc (boxOf A.op A.name A.n A.pos A.a A.kids.len A.cap)) B (HR3.out.alloc _))
 rw [HSG.out] at HC4
 go_wp2_with fail
 refine HC4.out.mono ?_
 rintro e4 w4 ⟨rfl,hb4⟩
 have HK4:=Lib.hid ((HK3.out.alloc _).below hb4)
 have HR4:=Lib.hid ((HR3.out.alloc _).below hb4)
 have HBZ4:=Lib.hid ((hb4.block _ (lt_heap ((Below.heap_alloc _ _ _ (lt_heap HBZ3.out)).trans HBZ3.out))).trans ((Below.heap_alloc _ _ _ (lt_heap HBZ3.out)).trans HBZ3.out))
 have hzZ4:=lt_heap HBZ4.out
 have HBT4:=Lib.hid ((hb4.block _ (lt_heap ((Below.heap_alloc _ _ _ (lt_heap HBT3.out)).trans HBT3.out))).trans ((Below.heap_alloc _ _ _ (lt_heap HBT3.out)).trans HBT3.out))
 have hzT4:=lt_heap HBT4.out
 have HBN4:=Lib.hid ((hb4.block _ (lt_heap (new_at w3 (boxOf A.op A.name A.n A.pos A.a A.kids.len A.cap)))).trans (new_at w3 (boxOf A.op A.name A.n A.pos A.a A.kids.len A.cap)))
 have hzN4:=lt_heap HBN4.out
 clear hb4
 have z2:=HR4.out.err_g
 have hne1:¬ w.heap.size=w1.heap.size:=by omega
 have hme1:¬ w1.heap.size=w.heap.size:=by omega
 have hne2:¬ w.heap.size=w3.heap.size:=by omega
 have hme2:¬ w3.heap.size=w.heap.size:=by omega
 have hne3:¬ w1.heap.size=w3.heap.size:=by omega
 have hme3:¬ w3.heap.size=w1.heap.size:=by omega
 obtain ⟨bN0,bN1,bN2,bN3,bN4⟩:=box_cells HBN4.out
 obtain ⟨fN0,fN1,fN2,fN3,fN4⟩:=box_frozen HBN4.out
 obtain ⟨⟨tT0,tT1,tT2,tT3⟩,tfT0,tfT1,tfT2,tfT3⟩:=tok_cells HBT4.out
 obtain ⟨bZ0,bZ1,bZ2,bZ3,bZ4⟩:=box_cells HBZ4.out
 obtain ⟨fZ0,fZ1,fZ2,fZ3,fZ4⟩:=box_frozen HBZ4.out
 go_wp2_with fail
 refine ret_node (B:=w.heap.size) tIsB A.name 0 (hd l).pos none 0 0 Tryd.results165 rfl rfl (by repeat (with_reducible first | exact node_set HBZ4.out _ _ _ _ _ _ _ | refine (Below.heap_alloc _ _ _ (by simp;omega)).trans ?_)) ⟨⟨tIsB,A.name,0,(hd l).pos,none,0,.nil⟩,rfl,(by repeat (with_reducible first | exact HK4.out | refine Kp.alloc ?_ _ | refine Kp.set ?_ (Nat.le_refl _) _)),?_⟩
 refine ⟨(by repeat (with_reducible first | exact HR4.out | refine PrS.alloc ?_ _ | refine PrS.set ?_ hB _)),Nd.Good.leaf _ _ _ _ _ _ _ _,?_⟩
 rw [← HST.out]
 rfl
set_option maxRecDepth 100000 in
set_option maxHeartbeats 16000000 in
theorem ratom_novar_text (nd:Nd) (l':List Tok) (l:List Tok) (w:World) (B:Nat) (hS:PrS w B (.good l)) (hk1:((hd l).kind == 1)=true) (hk3:((hd l.tail).kind == 3)=true) (htx:((hd l.tail).text.toList == [40])=false) (ht:∀ W,PrS W B (.good l)→Calls Tryd.prog 178 #[.pointer (some ⟨B,0,none⟩)] W (PostR B W (.ok nd l'))) (hsg:psg 4 (wrd l')=⟨#[]⟩) (hv:(nd.op.toList == [118,97,114])=false):Calls Tryd.prog 165 #[.pointer (some ⟨B,0,none⟩)] w (PostR B w (.bad (hd l).pos 2)):=by
 have HT:=Lib.hid ht
 clear ht
 have HV:=Lib.hid hv
 clear hv
 have HSG:=Lib.hid hsg
 clear hsg
 have hk4:((hd l).kind == 4)=false:=kind_not hk1 (by decide)
 have hc5:=cellsNode
 have hc4:=cellsTok
 have hB:=hS.lt
 have q3:=tok_f3
 have q0:=tok_f0
 have q2:=tok_f2
 have q1:=tok_f1
 have HS:=Lib.hid hS
 clear hS
 go_enter Tryd.func165,Tryd.ntmps165
 have HC1:=Lib.hid (rnow_g l (w.alloc (boxOf ⟨#[]⟩ ⟨#[]⟩ 0 0 none 0 0)) B (HS.out.alloc _))
 go_wp2_with fail
 refine HC1.out.mono ?_
 rintro e1 w1 ⟨rfl,hb1⟩
 have HK1:=Lib.hid (((Kp.refl B w).alloc _).below hb1)
 have HR1:=Lib.hid ((HS.out.alloc _).below hb1)
 have HBZ1:=Lib.hid ((hb1.block _ (lt_heap (new_at w (boxOf ⟨#[]⟩ ⟨#[]⟩ 0 0 none 0 0)))).trans (new_at w (boxOf ⟨#[]⟩ ⟨#[]⟩ 0 0 none 0 0)))
 have hzZ1:=lt_heap HBZ1.out
 clear hb1
 obtain ⟨⟨tT0,tT1,tT2,tT3⟩,tfT0,tfT1,tfT2,tfT3⟩:=tok_cells (new_at w1 (tokBox (hd l).kind (hd l).text (hd l).n (hd l).pos))
 have hPT:PrS (w1.alloc (tokBox (hd l).kind (hd l).text (hd l).n (hd l).pos)) B (.good l):=(HR1.out.alloc _)
 obtain ⟨g,o,L,cap,i,hp1,hi,hL,hg,_,hnx⟩:=hPT.tok
 clear hPT
 obtain ⟨hi1,u0,u1,_⟩:=hnx (hd l.tail) (HS.out.snd2 hk4)
 obtain ⟨⟨k0,k1,k2,k3⟩,_⟩:=hp1.cells
 clear hp1 hnx
 have hi2:(i:Int)+1 < L:=by omega
 have hgs:g < w1.heap.size:=by omega
 have hit:((i:Int)+1).toNat=i+1:=by omega
 have hi0:(0:Int)≤(i:Int)+1:=by omega
 have hiw:IntKind.wrap .i64 ((i:Int)+1)=(i:Int)+1:=by simp [IntKind.wrap,IntKind.bits,IntKind.signed];omega
 go_wp2_with fail
 go_quiet (fail)
 have hb2:Below (w1.alloc (tokBox (hd l).kind (hd l).text (hd l).n (hd l).pos)).heap.size (w1.alloc (tokBox (hd l).kind (hd l).text (hd l).n (hd l).pos)) ((w1.alloc (tokBox (hd l).kind (hd l).text (hd l).n (hd l).pos)).drewN nq):=⟨rfl,rfl,rfl,Nat.le_refl _,fun _ _=>rfl⟩
 clear tT0 tfT0 tT1 tfT1 tT2 tfT2 tT3 tfT3 k0 k1 k2 k3 u0 u1
 generalize (w1.alloc (tokBox (hd l).kind (hd l).text (hd l).n (hd l).pos)).drewN nq=w2 at hb2 ⊢
 have HK2:=Lib.hid ((HK1.out.alloc _).below hb2)
 have HR2:=Lib.hid ((HR1.out.alloc _).below hb2)
 have HBZ2:=Lib.hid ((hb2.block _ (lt_heap ((Below.heap_alloc _ _ _ (lt_heap HBZ1.out)).trans HBZ1.out))).trans ((Below.heap_alloc _ _ _ (lt_heap HBZ1.out)).trans HBZ1.out))
 have hzZ2:=lt_heap HBZ2.out
 have HBT2:=Lib.hid ((hb2.block _ (lt_heap (new_at w1 (tokBox (hd l).kind (hd l).text (hd l).n (hd l).pos)))).trans (new_at w1 (tokBox (hd l).kind (hd l).text (hd l).n (hd l).pos)))
 have hzT2:=lt_heap HBT2.out
 clear hb2
 have HC3:=Lib.hid (HT.out w2 HR2.out)
 go_wp2_with fail
 refine HC3.out.mono ?_
 rintro e3 w3 ⟨A,rfl,hk3,ho3⟩
 have HO3:=Lib.hid ho3
 clear ho3
 have HK3:=Lib.hid (HK2.out.trans hk3)
 have HBZ3:=Lib.hid (hk3.blk HBZ2.out (by omega))
 have hzZ3:=lt_heap HBZ3.out
 have HBT3:=Lib.hid (hk3.blk HBT2.out (by omega))
 have hzT3:=lt_heap HBT3.out
 have HKL3:=Lib.hid hk3
 clear hk3
 obtain ⟨hr3,hg3,hs3⟩:=HO3.out
 have HR3:=Lib.hid hr3
 have HST:=Lib.hid hs3
 clear hr3 hg3 hs3
 have hv2:(A.op.toList == [118,97,114])=false:=by have h:=HV.out;rw [← HST.out] at h;exact h
 have HC4:=Lib.hid (rrel_g l' (w3.alloc (boxOf A.op A.name A.n A.pos A.a A.kids.len A.cap)) B (HR3.out.alloc _))
 rw [HSG.out] at HC4
 go_wp2_with fail
 refine HC4.out.mono ?_
 rintro e4 w4 ⟨rfl,hb4⟩
 have HK4:=Lib.hid ((HK3.out.alloc _).below hb4)
 have HR4:=Lib.hid ((HR3.out.alloc _).below hb4)
 have HBZ4:=Lib.hid ((hb4.block _ (lt_heap ((Below.heap_alloc _ _ _ (lt_heap HBZ3.out)).trans HBZ3.out))).trans ((Below.heap_alloc _ _ _ (lt_heap HBZ3.out)).trans HBZ3.out))
 have hzZ4:=lt_heap HBZ4.out
 have HBT4:=Lib.hid ((hb4.block _ (lt_heap ((Below.heap_alloc _ _ _ (lt_heap HBT3.out)).trans HBT3.out))).trans ((Below.heap_alloc _ _ _ (lt_heap HBT3.out)).trans HBT3.out))
 have hzT4:=lt_heap HBT4.out
 have HBN4:=Lib.hid ((hb4.block _ (lt_heap (new_at w3 (boxOf A.op A.name A.n A.pos A.a A.kids.len A.cap)))).trans (new_at w3 (boxOf A.op A.name A.n A.pos A.a A.kids.len A.cap)))
 have hzN4:=lt_heap HBN4.out
 clear hb4
 have z2:=HR4.out.err_g
 have hne1:¬ w.heap.size=w1.heap.size:=by omega
 have hme1:¬ w1.heap.size=w.heap.size:=by omega
 have hne2:¬ w.heap.size=w3.heap.size:=by omega
 have hme2:¬ w3.heap.size=w.heap.size:=by omega
 have hne3:¬ w1.heap.size=w3.heap.size:=by omega
 have hme3:¬ w3.heap.size=w1.heap.size:=by omega
 obtain ⟨bN0,bN1,bN2,bN3,bN4⟩:=box_cells HBN4.out
 obtain ⟨fN0,fN1,fN2,fN3,fN4⟩:=box_frozen HBN4.out
 obtain ⟨⟨tT0,tT1,tT2,tT3⟩,tfT0,tfT1,tfT2,tfT3⟩:=tok_cells HBT4.out
 have HC5:=Lib.hid (rfail_g l' (hd l).pos 2 w4 B rfl HR4.out)
 go_wp2_with fail
 refine HC5.out.mono ?_
 rintro e5 w5 ⟨rfl,hk5,hr5⟩
 have HK5:=Lib.hid (HK4.out.trans hk5)
 have HR5:=Lib.hid hr5
 have HBZ5:=Lib.hid (hk5.blk HBZ4.out (by omega))
 have hzZ5:=lt_heap HBZ5.out
 have HBT5:=Lib.hid (hk5.blk HBT4.out (by omega))
 have hzT5:=lt_heap HBT5.out
 have HBN5:=Lib.hid (hk5.blk HBN4.out (by omega))
 have hzN5:=lt_heap HBN5.out
 clear hk5
 have hne4:¬ w.heap.size=w1.heap.size:=by omega
 have hme4:¬ w1.heap.size=w.heap.size:=by omega
 have hne5:¬ w.heap.size=w3.heap.size:=by omega
 have hme5:¬ w3.heap.size=w.heap.size:=by omega
 have hne6:¬ w1.heap.size=w3.heap.size:=by omega
 have hme6:¬ w3.heap.size=w1.heap.size:=by omega
 obtain ⟨bN0,bN1,bN2,bN3,bN4⟩:=box_cells HBN5.out
 obtain ⟨fN0,fN1,fN2,fN3,fN4⟩:=box_frozen HBN5.out
 obtain ⟨⟨tT0,tT1,tT2,tT3⟩,tfT0,tfT1,tfT2,tfT3⟩:=tok_cells HBT5.out
 obtain ⟨bZ0,bZ1,bZ2,bZ3,bZ4⟩:=box_cells HBZ5.out
 obtain ⟨fZ0,fZ1,fZ2,fZ3,fZ4⟩:=box_frozen HBZ5.out
 go_wp2_with fail
 refine ret_node (B:=w.heap.size) tIsB A.name 0 (hd l).pos none 0 0 Tryd.results165 rfl rfl (by repeat (with_reducible first | exact node_set HBZ5.out _ _ _ _ _ _ _ | refine (Below.heap_alloc _ _ _ (by simp;omega)).trans ?_)) ⟨⟨tIsB,A.name,0,(hd l).pos,none,0,.nil⟩,rfl,(by repeat (with_reducible first | exact HK5.out | refine Kp.alloc ?_ _ | refine Kp.set ?_ (Nat.le_refl _) _)),?_⟩
 show PrS _ B (.bad _ _)
 exact (by repeat (with_reducible first | exact HR5.out | refine PrS.alloc ?_ _ | refine PrS.set ?_ hB _))
end Go.Proofs.YtmlmjopfbohglaaDoor
