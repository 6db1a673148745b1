/- Parts of the proof: RpG. -/
import Derived.Test.YtmlmjopfbohglaaDoorWd27
namespace Go.Proofs.YtmlmjopfbohglaaDoor
open Go.RowKit
def SayR (F need:Nat) (p:Nat→Nat→List Tok→Res Nd) (f:Nat):Prop :=
 ∀ (l:List Tok) (w:World) (B d:Nat),need+20 * l.length≤f→PrS w B (.good l)→Calls Tryd.prog F #[.pointer (some ⟨B,0,none⟩),.int .i64 d] w (PostR B w (p f d l))
theorem psg_0 (x:ByteArray):psg 0 x=if (x.toList == (⟨#[60,61,62]⟩:ByteArray).toList)=true then ⟨#[105,102,102]⟩ else ⟨#[]⟩:=by
 rw [BEq.comm (a:=x.toList)];rfl
theorem psg_1 (x:ByteArray):psg 1 x=if (x.toList == (⟨#[61,62]⟩:ByteArray).toList)=true then ⟨#[105,109,112]⟩ else ⟨#[]⟩:=by
 rw [BEq.comm (a:=x.toList)];rfl
theorem psg_2 (x:ByteArray):psg 2 x=if (x.toList == (⟨#[124]⟩:ByteArray).toList)=true then ⟨#[111,114]⟩ else ⟨#[]⟩:=by
 rw [BEq.comm (a:=x.toList)];rfl
theorem psg_3 (x:ByteArray):psg 3 x=if (x.toList == (⟨#[38]⟩:ByteArray).toList)=true then ⟨#[97,110,100]⟩ else ⟨#[]⟩:=by
 rw [BEq.comm (a:=x.toList)];rfl
set_option maxRecDepth 100000 in
set_option maxHeartbeats 16000000 in
theorem rand_of (f:Nat) (ih:∀ g,g≤f→SayR 136 3 pUn g) (s:St) (rk r:Res Nd) (w:World) (B d:Nat) (hS:PrS w B s)
  (hk:∀ W,PrS W B s→Calls Tryd.prog 136 #[.pointer (some ⟨B,0,none⟩),.int .i64 d] W (PostR B W rk))
  (hr:∀ t l',rk=.ok t l'→r=pAndL f d t l'∧3+20 * l'.length≤f) (hb:∀ a e,rk=.bad a e→r=.bad a e) :
  Calls Tryd.prog 116 #[.pointer (some ⟨B,0,none⟩),.int .i64 d] w (PostR B w r):=by
 have hc5:=cellsNode
 have hc4:=cellsTok
 have q3:=tok_f3
 have hB:=hS.lt
 have HC:=Lib.hid (hk (w.alloc (boxOf ⟨#[]⟩ ⟨#[]⟩ 0 0 none 0 0)) (hS.alloc _))
 have HR:=Lib.hid hr
 have HBD:=Lib.hid hb
 have HIH:=Lib.hid ih
 clear hk hr hb hS ih
 go_enter Tryd.func116,Tryd.ntmps116
 go_wp2_with fail
 refine HC.out.mono ?_
 rintro e w1 ⟨T,rfl,hk1,ho1⟩
 have hz1:=hk1.size
 simp only [alloc_size] at hz1
 have HK1:=Lib.hid (Kp.trans ((Kp.refl B w).alloc _) hk1)
 have HB1:=Lib.hid (hk1.blk (new_at w _) (by omega))
 have HO1:=Lib.hid ho1
 clear hk1 ho1 HC
 go_wp2_with fail
 have HN1:=Lib.hid (new_at w1 (boxOf T.op T.name T.n T.pos T.a T.kids.len T.cap))
 go_loopg [] f (fun gf wx=>∃ (X:Nd),RowKit.Hid (wx.heap[w1.heap.size]? = some (boxOf X.op X.name X.n X.pos X.a X.kids.len X.cap))∧RowKit.Hid (wx.heap[w.heap.size]? = some (boxOf ⟨#[]⟩ ⟨#[]⟩ 0 0 none 0 0))∧RowKit.Hid (Kp B w wx) ∧
   ((∃ l,PrS wx B (.good l)∧(3+20 * l.length≤gf∧gf≤f)∧X.Good (fun b=>w.heap.size+1≤b∧b≠w1.heap.size) wx∧RowKit.Hid (r=pAndL gf d X.strip l))∨(∃ a e,PrS wx B (.bad a e)∧r=.bad a e)))
 case atStart =>
  refine ⟨T,HN1,Lib.hid ((Below.heap_alloc _ _ _ (by omega)).trans HB1.out),Lib.hid (HK1.out.alloc _),?_⟩
  have ho:=HO1.out
  cases rk with
  | ok t l' =>
   obtain ⟨h1,h2,h3⟩:=ho
   obtain ⟨r1,r3⟩:=HR.out t l' rfl
   refine .inl ⟨l',h1.alloc _,⟨r3,Nat.le_refl _⟩,(h2.lt.from (From.alloc _ _ _)).mono (fun b hb=>?_),Lib.hid (by rw [h3];exact r1)⟩
   have h4:=hb.1
   have h5:=hb.2
   (try simp only [alloc_size] at h4)
   exact ⟨by omega,by omega⟩
  | bad a e =>
   have ho:PrS w1 B (.bad a e):=ho
   exact .inr ⟨a,e,ho.alloc _,HBD.out a e rfl⟩
 case round =>
  clear HO1 HN1 HB1 HK1 HR HBD
  obtain ⟨X,HN,HB0,HK,hor⟩:=hrel
  rcases hor with ⟨l,hrd,⟨hneed,hgf⟩,hgood,HE⟩ | ⟨a,e,hrd,hre⟩
  ·obtain ⟨g',rfl⟩:∃ g',gk=g'+1:=⟨gk - 1,by omega⟩
   have HRD:=Lib.hid hrd
   have HG:=Lib.hid hgood
   clear hrd hgood
   by_cases hw:((wrd l).toList == (⟨#[38]⟩:ByteArray).toList)=true
   ·have hop:psg 3 (wrd l)=⟨#[97,110,100]⟩:=by rw [psg_3,if_pos hw]
    have hopn:¬ ((psg 3 (wrd l)).toList == [])=true:=by rw [hop];decide +kernel
    have hkd:=word_kind hw (by decide +kernel)
    have hne:=ne_of_psg (by simpa using hopn)
    obtain ⟨rk',hq⟩:∃ rk',pUn g' d l.tail=rk':=⟨_,rfl⟩
    have HOK:RowKit.Hid (∀ k l',rk'=.ok k l'→r=pAndL g' d (mkN ⟨#[97,110,100]⟩ emp0 0 (hd l).pos [X.strip,k]) l'):=Lib.hid (fun k l' h=>by rw [HE.out];conv=>{ lhs;unfold pAndL };rw [if_neg hopn,hq,h,hop])
    have HBAD:RowKit.Hid (∀ a e,rk'=.bad a e→r=.bad a e):=Lib.hid (fun a e h=>by rw [HE.out];unfold pAndL;rw [if_neg hopn,hq,h])
    have HSUF:RowKit.Hid (∀ k l',rk'=.ok k l'→Suf l' l):=Lib.hid (fun k l' h=>((suf_forms g').1 _ _ _ _ (hq.trans h)).trans (Suf.tail hne).e)
    have HKID:=Lib.hid (fun W (hr:PrS W B (.good l.tail))=>HIH.out g' (by omega) l.tail W B d (by have:=(Suf.tail hne).len;omega) hr)
    simp only [hq] at HKID
    have HCS:=Lib.hid (ris_yes l ⟨#[38]⟩ wr B (by decide +kernel) hw HRD.out)
    have HTK:=Lib.hid (fun W (hr:PrS W B (.good l))=>rnext_g l W B hkd hr)
    clear hw hop hopn hkd HE hq hne
    generalize hd l=tk at HTK HOK
    go_wp2_with fail
    refine HCS.out.mono ?_
    rintro x w2 ⟨rfl,hb2⟩
    have HC3:=Lib.hid (HTK.out w2 (HRD.out.below hb2))
    have HN2:=Lib.hid ((hb2.block _ (lt_heap HN.out)).trans HN.out)
    have HB2:=Lib.hid ((hb2.block _ (lt_heap HB0.out)).trans HB0.out)
    have HK2:=Lib.hid (HK.out.below hb2)
    have HG2:=Lib.hid (HG.out.from (From.below hb2))
    clear HCS hb2
    go_wp2_with fail
    refine HC3.out.mono ?_
    rintro x w3 ⟨rfl,hk3,hr3⟩
    have HN3':=Lib.hid (hk3.blk HN2.out (by omega))
    have hz3':=lt_heap HN3'.out
    have HN3:=Lib.hid ((Below.heap_alloc _ (tokBox tk.kind tk.text tk.n tk.pos) _ (lt_heap HN3'.out)).trans HN3'.out)
    have HB3':=Lib.hid (hk3.blk HB2.out (by omega))
    have HB3:=Lib.hid ((Below.heap_alloc _ (tokBox tk.kind tk.text tk.n tk.pos) _ (lt_heap HB3'.out)).trans HB3'.out)
    have HT3:=Lib.hid (new_at w3 (tokBox tk.kind tk.text tk.n tk.pos))
    have HK3:=Lib.hid ((HK2.out.trans hk3).alloc (tokBox tk.kind tk.text tk.n tk.pos))
    have HG3:=Lib.hid ((HG2.out.from (hk3.from (fun h=>absurd h.1 (by omega)))).from (From.alloc _ _ (tokBox tk.kind tk.text tk.n tk.pos)))
    have HC4:=Lib.hid (HKID.out (w3.alloc (tokBox tk.kind tk.text tk.n tk.pos)).drew ((hr3.alloc (tokBox tk.kind tk.text tk.n tk.pos)).drew))
    clear hk3 hr3 HN2 HB2 HK2 HG2 HC3 HTK HKID HN3' HB3'
    go_wp2_with fail
    refine wp_region_last 5 (fun W=>W.heap[w1.heap.size]? = some (.cells #[.string X.op,.string X.name,.int .i64 X.n,.int .i64 X.pos,.slice X.a X.kids.len X.cap] 26)∧W.heap[w3.heap.size]? = some (tokBox tk.kind tk.text tk.n tk.pos)) (by kernel_rfl) (by kernel_rfl) ⟨HN3.out,HT3.out⟩ ?_
    refine headsC_val _ (.pointer (some ⟨w3.heap.size,3,none⟩)) rfl (fun W hW=>by unfold execOp;simp [go_sem,Act.eval]) ?_
    refine headsC_val _ (.int .i64 tk.pos) rfl (fun W hW=>by have h:=tok_cells hW.2;unfold execOp;simp [go_sem,Act.eval,h]) ?_
    refine headsC_load _ _ _ rfl rfl w1.heap.size rfl _ _ _ _ (fun W h=>h.1) Tryd.underlying26 rfl (by kernel_rfl) ?_
    refine headsC_move _ _ rfl rfl ?_
    refine headsC_move _ _ rfl rfl ?_
    refine headsC_nil ?_
    show wpList _ _ (thenC _ _ _ _) _ _ _
    go_wp2_with fail
    refine HC4.out.mono ?_
    rintro x w4 ⟨U,rfl,hk4,ho4⟩
    have HN4:=Lib.hid ((kp_drew hk4).blk HN3.out (by omega))
    have hz4:=lt_heap HN4.out
    have HT4:=Lib.hid ((kp_drew hk4).blk HT3.out (by omega))
    have hz5:=lt_heap HT4.out
    have HB4:=Lib.hid ((kp_drew hk4).blk HB3.out (by omega))
    have HK4:=Lib.hid (HK3.out.trans (kp_drew hk4))
    have HG4:=Lib.hid (HG3.out.from ((kp_drew hk4).from (fun h=>absurd h.1 (by omega))))
    have HO4:=Lib.hid ho4
    have hz34:w1.heap.size < (w3.alloc (tokBox tk.kind tk.text tk.n tk.pos)).drew.heap.size:=lt_heap HN3.out
    have hz44:(w3.alloc (tokBox tk.kind tk.text tk.n tk.pos)).drew.heap.size=w3.heap.size+1:=alloc_size _ _
    have HZ34:=Lib.hid hz34
    clear hk4 ho4 HC4 HK3 HG3 HB3 HN3 hz34
    go_wp2_with fail
    refine ⟨fun _=>⟨HN4.out,HT4.out⟩,?_⟩
    show wpList _ _ (thenC _ _ _ _) _ _ _
    go_wp2_with fail
    refine ⟨fun _=>⟨(Below.heap_alloc _ _ _ hz4).trans HN4.out,(Below.heap_alloc _ _ _ hz5).trans HT4.out⟩,?_⟩
    show wpList _ _ (thenC _ _ _ _) _ _ _
    go_wp2_with fail
    refine ⟨fun _=>⟨(Below.heap_alloc _ _ _ hz4).trans HN4.out,(Below.heap_alloc _ _ _ hz5).trans HT4.out⟩,?_⟩
    show wpList _ _ (thenC _ _ _ _) _ _ _
    obtain ⟨n0,n1,n2,n3,n4⟩:=box_cells HN4.out
    obtain ⟨q0,q1,q2,q4,q5⟩:=box_frozen HN4.out
    go_wp2_with fail
    refine ⟨fun h=>(by cases h),NoPanic.normal ?_⟩
    go_wp2_with fail
    go_roundg g'
    case rel =>
     refine ⟨⟨⟨#[97,110,100]⟩,⟨#[]⟩,0,tk.pos,some ⟨w4.heap.size,0,none⟩,2,.cons X.op X.name X.n X.pos X.a X.cap X.kids (.cons U.op U.name U.n U.pos U.a U.cap U.kids .nil)⟩,Lib.hid ((Below.heap_alloc _ _ _ (by simp;omega)).trans (node_set HN4.out _ _ _ _ _ _ _)),Lib.hid ((Below.heap_alloc _ _ _ (by simp;omega)).trans (node_set_other HB4.out (by omega) _ _ _ _ _)),
      Lib.hid (by repeat (with_reducible first | exact HK4.out | refine Kp.alloc ?_ _ | refine Kp.set ?_ (show w.heap.size≤w1.heap.size by omega) _)),?_⟩
     cases rk' with
     | ok k l' =>
      obtain ⟨hr4,hg4,hs4⟩:=HO4.out
      have hsuf:=HSUF.out k l' rfl
      have hfr:From (fun b=>w.heap.size+1≤b∧b≠w1.heap.size) w4 (((((w4.setCell ⟨w1.heap.size,0,none⟩ (.string ⟨#[97,110,100]⟩)).setCell ⟨w1.heap.size,1,none⟩ (.string ⟨#[]⟩)).setCell ⟨w1.heap.size,2,none⟩ (.int .i64 0)).setCell ⟨w1.heap.size,3,none⟩ (.int .i64 tk.pos)).setCell ⟨w1.heap.size,4,none⟩ (.slice (some ⟨w4.heap.size,0,none⟩) 2 2)) :=
       ((((((From.refl _ _).trans (From.set _ (fun h=>h.2 rfl) _)).trans (From.set _ (fun h=>h.2 rfl) _)).trans (From.set _ (fun h=>h.2 rfl) _)).trans (From.set _ (fun h=>h.2 rfl) _)).trans (From.set _ (fun h=>h.2 rfl) _))
      refine .inl ⟨l',(by repeat (with_reducible first | exact hr4 | refine PrS.alloc ?_ _ | refine PrS.set ?_ (show B < w1.heap.size by omega) _)),⟨by have:=hsuf.len;omega,by omega⟩,?_,Lib.hid (by rw [HOK.out k l' rfl,← hs4];rfl)⟩
      refine good2 (G:=w4.heap.size) ⟨by omega,by omega⟩ (by have h:=new_at (((((w4.setCell ⟨w1.heap.size,0,none⟩ (.string ⟨#[97,110,100]⟩)).setCell ⟨w1.heap.size,1,none⟩ (.string ⟨#[]⟩)).setCell ⟨w1.heap.size,2,none⟩ (.int .i64 0)).setCell ⟨w1.heap.size,3,none⟩ (.int .i64 tk.pos)).setCell ⟨w1.heap.size,4,none⟩ (.slice (some ⟨w4.heap.size,0,none⟩) 2 2)) (.cells #[.string X.op,.string X.name,.int .i64 X.n,.int .i64 X.pos,.slice X.a X.kids.len X.cap,.string U.op,.string U.name,.int .i64 U.n,.int .i64 U.pos,.slice U.a U.kids.len U.cap] 26);rw [set5_size] at h;exact h)
       ((HG4.out.from hfr).from (From.alloc _ _ _)) (((hg4.mono (fun b hb=>?_)).from hfr).from (From.alloc _ _ _))
      have hz:=HZ34.out
      exact ⟨by omega,by omega⟩
     | bad a e =>
      have hr4:PrS w4 B (.bad a e):=HO4.out
      exact .inr ⟨a,e,(by repeat (with_reducible first | exact hr4 | refine PrS.alloc ?_ _ | refine PrS.set ?_ (show B < w1.heap.size by omega) _)),HBAD.out a e rfl⟩
    case measure=>omega
   ·have hw':((wrd l).toList == (⟨#[38]⟩:ByteArray).toList)=false:=by simpa using hw
    have HRE:=Lib.hid (show r=.ok X.strip l from by rw [HE.out];unfold pAndL;rw [psg_3,if_neg hw,if_pos (by decide +kernel)])
    have HCS:=Lib.hid (ris_no l ⟨#[38]⟩ wr B hw' HRD.out)
    clear hw hw' HE
    go_wp2_with fail
    refine HCS.out.mono ?_
    rintro x w2 ⟨rfl,hb2⟩
    obtain ⟨n0,n1,n2,n3,n4⟩:=box_cells ((hb2.block _ (lt_heap HN.out)).trans HN.out)
    have hr0:=(hb2.block _ (lt_heap HB0.out)).trans HB0.out
    obtain ⟨r0,r1,r2,r3,r4⟩:=box_cells hr0
    obtain ⟨q0,q1,q2,q3,q4⟩:=box_frozen hr0
    have HR0:=Lib.hid hr0
    have HB2:=Lib.hid hb2
    clear hr0 hb2 HCS
    go_wp2_with fail
    refine ret_node (B:=w.heap.size) X.op X.name X.n X.pos X.a X.kids.len X.cap Tryd.results116 rfl rfl (node_set HR0.out _ _ _ _ _ _ _) ⟨X,rfl,?_,?_⟩
    ·exact (by repeat (with_reducible first | exact HK.out.below HB2.out | refine Kp.set ?_ (Nat.le_refl _) _))
    ·rw [HRE.out]
     refine ⟨(by repeat (with_reducible first | exact HRD.out.below HB2.out | refine PrS.set ?_ hB _)),?_,rfl⟩
     have hg2:=HG.out.from (From.below HB2.out)
     refine Nd.Good.mono (S:=fun b=>w.heap.size+1≤b∧b≠w1.heap.size) ?_ (fun b hb=>by omega)
     exact hg2.from ((((((From.refl _ _).trans (From.set _ (fun h=>absurd h.1 (by simp)) _)).trans (From.set _ (fun h=>absurd h.1 (by simp)) _)).trans (From.set _ (fun h=>absurd h.1 (by simp)) _)).trans (From.set _ (fun h=>absurd h.1 (by simp)) _)).trans (From.set _ (fun h=>absurd h.1 (by simp)) _))
  ·have HCS:=Lib.hid (ris_b ⟨#[38]⟩ wr B a e hrd)
   have HRE:=Lib.hid hre
   have HRD:=Lib.hid hrd
   clear hre hrd
   go_wp2_with fail
   refine HCS.out.mono ?_
   rintro x w2 ⟨rfl,hb2⟩
   obtain ⟨n0,n1,n2,n3,n4⟩:=box_cells ((hb2.block _ (lt_heap HN.out)).trans HN.out)
   have hr0:=(hb2.block _ (lt_heap HB0.out)).trans HB0.out
   obtain ⟨r0,r1,r2,r3,r4⟩:=box_cells hr0
   obtain ⟨q0,q1,q2,q3,q4⟩:=box_frozen hr0
   have HR0:=Lib.hid hr0
   have HB2:=Lib.hid hb2
   clear hr0 hb2 HCS
   go_wp2_with fail
   refine ret_node (B:=w.heap.size) X.op X.name X.n X.pos X.a X.kids.len X.cap Tryd.results116 rfl rfl (node_set HR0.out _ _ _ _ _ _ _) ⟨X,rfl,?_,?_⟩
   ·exact (by repeat (with_reducible first | exact HK.out.below HB2.out | refine Kp.set ?_ (Nat.le_refl _) _))
   ·rw [HRE.out]
    show PrS _ B (.bad a e)
    exact (by repeat (with_reducible first | exact HRD.out.below HB2.out | refine PrS.set ?_ hB _))
set_option maxRecDepth 100000 in
set_option maxHeartbeats 16000000 in
theorem ror_of (f:Nat) (ih:∀ g,g≤f→SayR 116 4 pAnd g) (s:St) (rk r:Res Nd) (w:World) (B d:Nat) (hS:PrS w B s)
  (hk:∀ W,PrS W B s→Calls Tryd.prog 116 #[.pointer (some ⟨B,0,none⟩),.int .i64 d] W (PostR B W rk))
  (hr:∀ t l',rk=.ok t l'→r=pOrL f d t l'∧4+20 * l'.length≤f) (hb:∀ a e,rk=.bad a e→r=.bad a e) :
  Calls Tryd.prog 90 #[.pointer (some ⟨B,0,none⟩),.int .i64 d] w (PostR B w r):=by
 have hc5:=cellsNode
 have hc4:=cellsTok
 have q3:=tok_f3
 have hB:=hS.lt
 have HC:=Lib.hid (hk (w.alloc (boxOf ⟨#[]⟩ ⟨#[]⟩ 0 0 none 0 0)) (hS.alloc _))
 have HR:=Lib.hid hr
 have HBD:=Lib.hid hb
 have HIH:=Lib.hid ih
 clear hk hr hb hS ih
 go_enter Tryd.func90,Tryd.ntmps90
 go_wp2_with fail
 refine HC.out.mono ?_
 rintro e w1 ⟨T,rfl,hk1,ho1⟩
 have hz1:=hk1.size
 simp only [alloc_size] at hz1
 have HK1:=Lib.hid (Kp.trans ((Kp.refl B w).alloc _) hk1)
 have HB1:=Lib.hid (hk1.blk (new_at w _) (by omega))
 have HO1:=Lib.hid ho1
 clear hk1 ho1 HC
 go_wp2_with fail
 have HN1:=Lib.hid (new_at w1 (boxOf T.op T.name T.n T.pos T.a T.kids.len T.cap))
 go_loopg [] f (fun gf wx=>∃ (X:Nd),RowKit.Hid (wx.heap[w1.heap.size]? = some (boxOf X.op X.name X.n X.pos X.a X.kids.len X.cap))∧RowKit.Hid (wx.heap[w.heap.size]? = some (boxOf ⟨#[]⟩ ⟨#[]⟩ 0 0 none 0 0))∧RowKit.Hid (Kp B w wx) ∧
   ((∃ l,PrS wx B (.good l)∧(4+20 * l.length≤gf∧gf≤f)∧X.Good (fun b=>w.heap.size+1≤b∧b≠w1.heap.size) wx∧RowKit.Hid (r=pOrL gf d X.strip l))∨(∃ a e,PrS wx B (.bad a e)∧r=.bad a e)))
 case atStart =>
  refine ⟨T,HN1,Lib.hid ((Below.heap_alloc _ _ _ (by omega)).trans HB1.out),Lib.hid (HK1.out.alloc _),?_⟩
  have ho:=HO1.out
  cases rk with
  | ok t l' =>
   obtain ⟨h1,h2,h3⟩:=ho
   obtain ⟨r1,r3⟩:=HR.out t l' rfl
   refine .inl ⟨l',h1.alloc _,⟨r3,Nat.le_refl _⟩,(h2.lt.from (From.alloc _ _ _)).mono (fun b hb=>?_),Lib.hid (by rw [h3];exact r1)⟩
   have h4:=hb.1
   have h5:=hb.2
   (try simp only [alloc_size] at h4)
   exact ⟨by omega,by omega⟩
  | bad a e =>
   have ho:PrS w1 B (.bad a e):=ho
   exact .inr ⟨a,e,ho.alloc _,HBD.out a e rfl⟩
 case round =>
  clear HO1 HN1 HB1 HK1 HR HBD
  obtain ⟨X,HN,HB0,HK,hor⟩:=hrel
  rcases hor with ⟨l,hrd,⟨hneed,hgf⟩,hgood,HE⟩ | ⟨a,e,hrd,hre⟩
  ·obtain ⟨g',rfl⟩:∃ g',gk=g'+1:=⟨gk - 1,by omega⟩
   have HRD:=Lib.hid hrd
   have HG:=Lib.hid hgood
   clear hrd hgood
   by_cases hw:((wrd l).toList == (⟨#[124]⟩:ByteArray).toList)=true
   ·have hop:psg 2 (wrd l)=⟨#[111,114]⟩:=by rw [psg_2,if_pos hw]
    have hopn:¬ ((psg 2 (wrd l)).toList == [])=true:=by rw [hop];decide +kernel
    have hkd:=word_kind hw (by decide +kernel)
    have hne:=ne_of_psg (by simpa using hopn)
    obtain ⟨rk',hq⟩:∃ rk',pAnd g' d l.tail=rk':=⟨_,rfl⟩
    have HOK:RowKit.Hid (∀ k l',rk'=.ok k l'→r=pOrL g' d (mkN ⟨#[111,114]⟩ emp0 0 (hd l).pos [X.strip,k]) l'):=Lib.hid (fun k l' h=>by rw [HE.out];conv=>{ lhs;unfold pOrL };rw [if_neg hopn,hq,h,hop])
    have HBAD:RowKit.Hid (∀ a e,rk'=.bad a e→r=.bad a e):=Lib.hid (fun a e h=>by rw [HE.out];unfold pOrL;rw [if_neg hopn,hq,h])
    have HSUF:RowKit.Hid (∀ k l',rk'=.ok k l'→Suf l' l):=Lib.hid (fun k l' h=>((suf_forms g').2.2.1 _ _ _ _ (hq.trans h)).trans (Suf.tail hne).e)
    have HKID:=Lib.hid (fun W (hr:PrS W B (.good l.tail))=>HIH.out g' (by omega) l.tail W B d (by have:=(Suf.tail hne).len;omega) hr)
    simp only [hq] at HKID
    have HCS:=Lib.hid (ris_yes l ⟨#[124]⟩ wr B (by decide +kernel) hw HRD.out)
    have HTK:=Lib.hid (fun W (hr:PrS W B (.good l))=>rnext_g l W B hkd hr)
    clear hw hop hopn hkd HE hq hne
    generalize hd l=tk at HTK HOK
    go_wp2_with fail
    refine HCS.out.mono ?_
    rintro x w2 ⟨rfl,hb2⟩
    have HC3:=Lib.hid (HTK.out w2 (HRD.out.below hb2))
    have HN2:=Lib.hid ((hb2.block _ (lt_heap HN.out)).trans HN.out)
    have HB2:=Lib.hid ((hb2.block _ (lt_heap HB0.out)).trans HB0.out)
    have HK2:=Lib.hid (HK.out.below hb2)
    have HG2:=Lib.hid (HG.out.from (From.below hb2))
    clear HCS hb2
    go_wp2_with fail
    refine HC3.out.mono ?_
    rintro x w3 ⟨rfl,hk3,hr3⟩
    have HN3':=Lib.hid (hk3.blk HN2.out (by omega))
    have hz3':=lt_heap HN3'.out
    have HN3:=Lib.hid ((Below.heap_alloc _ (tokBox tk.kind tk.text tk.n tk.pos) _ (lt_heap HN3'.out)).trans HN3'.out)
    have HB3':=Lib.hid (hk3.blk HB2.out (by omega))
    have HB3:=Lib.hid ((Below.heap_alloc _ (tokBox tk.kind tk.text tk.n tk.pos) _ (lt_heap HB3'.out)).trans HB3'.out)
    have HT3:=Lib.hid (new_at w3 (tokBox tk.kind tk.text tk.n tk.pos))
    have HK3:=Lib.hid ((HK2.out.trans hk3).alloc (tokBox tk.kind tk.text tk.n tk.pos))
    have HG3:=Lib.hid ((HG2.out.from (hk3.from (fun h=>absurd h.1 (by omega)))).from (From.alloc _ _ (tokBox tk.kind tk.text tk.n tk.pos)))
    have HC4:=Lib.hid (HKID.out (w3.alloc (tokBox tk.kind tk.text tk.n tk.pos)).drew ((hr3.alloc (tokBox tk.kind tk.text tk.n tk.pos)).drew))
    clear hk3 hr3 HN2 HB2 HK2 HG2 HC3 HTK HKID HN3' HB3'
    go_wp2_with fail
    refine wp_region_last 5 (fun W=>W.heap[w1.heap.size]? = some (.cells #[.string X.op,.string X.name,.int .i64 X.n,.int .i64 X.pos,.slice X.a X.kids.len X.cap] 26)∧W.heap[w3.heap.size]? = some (tokBox tk.kind tk.text tk.n tk.pos)) (by kernel_rfl) (by kernel_rfl) ⟨HN3.out,HT3.out⟩ ?_
    refine headsC_val _ (.pointer (some ⟨w3.heap.size,3,none⟩)) rfl (fun W hW=>by unfold execOp;simp [go_sem,Act.eval]) ?_
    refine headsC_val _ (.int .i64 tk.pos) rfl (fun W hW=>by have h:=tok_cells hW.2;unfold execOp;simp [go_sem,Act.eval,h]) ?_
    refine headsC_load _ _ _ rfl rfl w1.heap.size rfl _ _ _ _ (fun W h=>h.1) Tryd.underlying26 rfl (by kernel_rfl) ?_
    refine headsC_move _ _ rfl rfl ?_
    refine headsC_move _ _ rfl rfl ?_
    refine headsC_nil ?_
    show wpList _ _ (thenC _ _ _ _) _ _ _
    go_wp2_with fail
    refine HC4.out.mono ?_
    rintro x w4 ⟨U,rfl,hk4,ho4⟩
    have HN4:=Lib.hid ((kp_drew hk4).blk HN3.out (by omega))
    have hz4:=lt_heap HN4.out
    have HT4:=Lib.hid ((kp_drew hk4).blk HT3.out (by omega))
    have hz5:=lt_heap HT4.out
    have HB4:=Lib.hid ((kp_drew hk4).blk HB3.out (by omega))
    have HK4:=Lib.hid (HK3.out.trans (kp_drew hk4))
    have HG4:=Lib.hid (HG3.out.from ((kp_drew hk4).from (fun h=>absurd h.1 (by omega))))
    have HO4:=Lib.hid ho4
    have hz34:w1.heap.size < (w3.alloc (tokBox tk.kind tk.text tk.n tk.pos)).drew.heap.size:=lt_heap HN3.out
    have hz44:(w3.alloc (tokBox tk.kind tk.text tk.n tk.pos)).drew.heap.size=w3.heap.size+1:=alloc_size _ _
    have HZ34:=Lib.hid hz34
    clear hk4 ho4 HC4 HK3 HG3 HB3 HN3 hz34
    go_wp2_with fail
    refine ⟨fun _=>⟨HN4.out,HT4.out⟩,?_⟩
    show wpList _ _ (thenC _ _ _ _) _ _ _
    go_wp2_with fail
    refine ⟨fun _=>⟨(Below.heap_alloc _ _ _ hz4).trans HN4.out,(Below.heap_alloc _ _ _ hz5).trans HT4.out⟩,?_⟩
    show wpList _ _ (thenC _ _ _ _) _ _ _
    go_wp2_with fail
    refine ⟨fun _=>⟨(Below.heap_alloc _ _ _ hz4).trans HN4.out,(Below.heap_alloc _ _ _ hz5).trans HT4.out⟩,?_⟩
    show wpList _ _ (thenC _ _ _ _) _ _ _
    obtain ⟨n0,n1,n2,n3,n4⟩:=box_cells HN4.out
    obtain ⟨q0,q1,q2,q4,q5⟩:=box_frozen HN4.out
    go_wp2_with fail
    refine ⟨fun h=>(by cases h),NoPanic.normal ?_⟩
    go_wp2_with fail
    go_roundg g'
    case rel =>
     refine ⟨⟨⟨#[111,114]⟩,⟨#[]⟩,0,tk.pos,some ⟨w4.heap.size,0,none⟩,2,.cons X.op X.name X.n X.pos X.a X.cap X.kids (.cons U.op U.name U.n U.pos U.a U.cap U.kids .nil)⟩,Lib.hid ((Below.heap_alloc _ _ _ (by simp;omega)).trans (node_set HN4.out _ _ _ _ _ _ _)),Lib.hid ((Below.heap_alloc _ _ _ (by simp;omega)).trans (node_set_other HB4.out (by omega) _ _ _ _ _)),
      Lib.hid (by repeat (with_reducible first | exact HK4.out | refine Kp.alloc ?_ _ | refine Kp.set ?_ (show w.heap.size≤w1.heap.size by omega) _)),?_⟩
     cases rk' with
     | ok k l' =>
      obtain ⟨hr4,hg4,hs4⟩:=HO4.out
      have hsuf:=HSUF.out k l' rfl
      have hfr:From (fun b=>w.heap.size+1≤b∧b≠w1.heap.size) w4 (((((w4.setCell ⟨w1.heap.size,0,none⟩ (.string ⟨#[111,114]⟩)).setCell ⟨w1.heap.size,1,none⟩ (.string ⟨#[]⟩)).setCell ⟨w1.heap.size,2,none⟩ (.int .i64 0)).setCell ⟨w1.heap.size,3,none⟩ (.int .i64 tk.pos)).setCell ⟨w1.heap.size,4,none⟩ (.slice (some ⟨w4.heap.size,0,none⟩) 2 2)) :=
       ((((((From.refl _ _).trans (From.set _ (fun h=>h.2 rfl) _)).trans (From.set _ (fun h=>h.2 rfl) _)).trans (From.set _ (fun h=>h.2 rfl) _)).trans (From.set _ (fun h=>h.2 rfl) _)).trans (From.set _ (fun h=>h.2 rfl) _))
      refine .inl ⟨l',(by repeat (with_reducible first | exact hr4 | refine PrS.alloc ?_ _ | refine PrS.set ?_ (show B < w1.heap.size by omega) _)),⟨by have:=hsuf.len;omega,by omega⟩,?_,Lib.hid (by rw [HOK.out k l' rfl,← hs4];rfl)⟩
      refine good2 (G:=w4.heap.size) ⟨by omega,by omega⟩ (by have h:=new_at (((((w4.setCell ⟨w1.heap.size,0,none⟩ (.string ⟨#[111,114]⟩)).setCell ⟨w1.heap.size,1,none⟩ (.string ⟨#[]⟩)).setCell ⟨w1.heap.size,2,none⟩ (.int .i64 0)).setCell ⟨w1.heap.size,3,none⟩ (.int .i64 tk.pos)).setCell ⟨w1.heap.size,4,none⟩ (.slice (some ⟨w4.heap.size,0,none⟩) 2 2)) (.cells #[.string X.op,.string X.name,.int .i64 X.n,.int .i64 X.pos,.slice X.a X.kids.len X.cap,.string U.op,.string U.name,.int .i64 U.n,.int .i64 U.pos,.slice U.a U.kids.len U.cap] 26);rw [set5_size] at h;exact h)
       ((HG4.out.from hfr).from (From.alloc _ _ _)) (((hg4.mono (fun b hb=>?_)).from hfr).from (From.alloc _ _ _))
      have hz:=HZ34.out
      exact ⟨by omega,by omega⟩
     | bad a e =>
      have hr4:PrS w4 B (.bad a e):=HO4.out
      exact .inr ⟨a,e,(by repeat (with_reducible first | exact hr4 | refine PrS.alloc ?_ _ | refine PrS.set ?_ (show B < w1.heap.size by omega) _)),HBAD.out a e rfl⟩
    case measure=>omega
   ·have hw':((wrd l).toList == (⟨#[124]⟩:ByteArray).toList)=false:=by simpa using hw
    have HRE:=Lib.hid (show r=.ok X.strip l from by rw [HE.out];unfold pOrL;rw [psg_2,if_neg hw,if_pos (by decide +kernel)])
    have HCS:=Lib.hid (ris_no l ⟨#[124]⟩ wr B hw' HRD.out)
    clear hw hw' HE
    go_wp2_with fail
    refine HCS.out.mono ?_
    rintro x w2 ⟨rfl,hb2⟩
    obtain ⟨n0,n1,n2,n3,n4⟩:=box_cells ((hb2.block _ (lt_heap HN.out)).trans HN.out)
    have hr0:=(hb2.block _ (lt_heap HB0.out)).trans HB0.out
    obtain ⟨r0,r1,r2,r3,r4⟩:=box_cells hr0
    obtain ⟨q0,q1,q2,q3,q4⟩:=box_frozen hr0
    have HR0:=Lib.hid hr0
    have HB2:=Lib.hid hb2
    clear hr0 hb2 HCS
    go_wp2_with fail
    refine ret_node (B:=w.heap.size) X.op X.name X.n X.pos X.a X.kids.len X.cap Tryd.results90 rfl rfl (node_set HR0.out _ _ _ _ _ _ _) ⟨X,rfl,?_,?_⟩
    ·exact (by repeat (with_reducible first | exact HK.out.below HB2.out | refine Kp.set ?_ (Nat.le_refl _) _))
    ·rw [HRE.out]
     refine ⟨(by repeat (with_reducible first | exact HRD.out.below HB2.out | refine PrS.set ?_ hB _)),?_,rfl⟩
     have hg2:=HG.out.from (From.below HB2.out)
     refine Nd.Good.mono (S:=fun b=>w.heap.size+1≤b∧b≠w1.heap.size) ?_ (fun b hb=>by omega)
     exact hg2.from ((((((From.refl _ _).trans (From.set _ (fun h=>absurd h.1 (by simp)) _)).trans (From.set _ (fun h=>absurd h.1 (by simp)) _)).trans (From.set _ (fun h=>absurd h.1 (by simp)) _)).trans (From.set _ (fun h=>absurd h.1 (by simp)) _)).trans (From.set _ (fun h=>absurd h.1 (by simp)) _))
  ·have HCS:=Lib.hid (ris_b ⟨#[124]⟩ wr B a e hrd)
   have HRE:=Lib.hid hre
   have HRD:=Lib.hid hrd
   clear hre hrd
   go_wp2_with fail
   refine HCS.out.mono ?_
   rintro x w2 ⟨rfl,hb2⟩
   obtain ⟨n0,n1,n2,n3,n4⟩:=box_cells ((hb2.block _ (lt_heap HN.out)).trans HN.out)
   have hr0:=(hb2.block _ (lt_heap HB0.out)).trans HB0.out
   obtain ⟨r0,r1,r2,r3,r4⟩:=box_cells hr0
   obtain ⟨q0,q1,q2,q3,q4⟩:=box_frozen hr0
   have HR0:=Lib.hid hr0
   have HB2:=Lib.hid hb2
   clear hr0 hb2 HCS
   go_wp2_with fail
   refine ret_node (B:=w.heap.size) X.op X.name X.n X.pos X.a X.kids.len X.cap Tryd.results90 rfl rfl (node_set HR0.out _ _ _ _ _ _ _) ⟨X,rfl,?_,?_⟩
   ·exact (by repeat (with_reducible first | exact HK.out.below HB2.out | refine Kp.set ?_ (Nat.le_refl _) _))
   ·rw [HRE.out]
    show PrS _ B (.bad a e)
    exact (by repeat (with_reducible first | exact HRD.out.below HB2.out | refine PrS.set ?_ hB _))
set_option maxRecDepth 100000 in
set_option maxHeartbeats 16000000 in
theorem rformula_of (f:Nat) (ih:∀ g,g≤f→SayR 63 6 pImp g) (s:St) (rk r:Res Nd) (w:World) (B d:Nat) (hent:∀ W,PrS W B s→Calls Tryd.prog 62 #[.pointer (some ⟨B,0,none⟩),.int .i64 d] W fun e w'=>e=.returned (.bool true)∧Kp B W w'∧PrS w' B s) (hS:PrS w B s)
  (hk:∀ W,PrS W B s→Calls Tryd.prog 63 #[.pointer (some ⟨B,0,none⟩),.int .i64 d] W (PostR B W rk))
  (hr:∀ t l',rk=.ok t l'→r=pFormL f d t l'∧6+20 * l'.length≤f) (hb:∀ a e,rk=.bad a e→r=.bad a e) :
  Calls Tryd.prog 30 #[.pointer (some ⟨B,0,none⟩),.int .i64 d] w (PostR B w r):=by
 have hc5:=cellsNode
 have hc4:=cellsTok
 have q3:=tok_f3
 have hB:=hS.lt
 have HEN:=Lib.hid (hent (w.alloc (boxOf ⟨#[]⟩ ⟨#[]⟩ 0 0 none 0 0)) (hS.alloc _))
 have HKK:=Lib.hid hk
 have HR:=Lib.hid hr
 have HBD:=Lib.hid hb
 have HIH:=Lib.hid ih
 clear hk hr hb hS ih
 go_enter Tryd.func30,Tryd.ntmps30
 go_wp2_with fail
 refine HEN.out.mono ?_
 rintro e w0 ⟨rfl,hk0,hs0⟩
 have HC:=Lib.hid (HKK.out w0 hs0)
 have HB00:=Lib.hid (hk0.blk (new_at w (boxOf ⟨#[]⟩ ⟨#[]⟩ 0 0 none 0 0)) (by omega))
 have hz0:=lt_heap HB00.out
 have HK0:=Lib.hid (Kp.trans ((Kp.refl B w).alloc _) hk0)
 clear hk0 hs0 HEN HKK
 go_wp2_with fail
 refine HC.out.mono ?_
 rintro e w1 ⟨T,rfl,hk1,ho1⟩
 have hz1:=hk1.size
 have HK1:=Lib.hid (Kp.trans HK0.out hk1)
 have HB1:=Lib.hid (hk1.blk HB00.out (by omega))
 have HO1:=Lib.hid ho1
 clear hk1 ho1 HC
 go_wp2_with fail
 have HN1:=Lib.hid (new_at w1 (boxOf T.op T.name T.n T.pos T.a T.kids.len T.cap))
 go_loopg [] f (fun gf wx=>∃ (X:Nd),RowKit.Hid (wx.heap[w1.heap.size]? = some (boxOf X.op X.name X.n X.pos X.a X.kids.len X.cap))∧RowKit.Hid (wx.heap[w.heap.size]? = some (boxOf ⟨#[]⟩ ⟨#[]⟩ 0 0 none 0 0))∧RowKit.Hid (Kp B w wx) ∧
   ((∃ l,PrS wx B (.good l)∧(6+20 * l.length≤gf∧gf≤f)∧X.Good (fun b=>w.heap.size+1≤b∧b≠w1.heap.size) wx∧RowKit.Hid (r=pFormL gf d X.strip l))∨(∃ a e,PrS wx B (.bad a e)∧r=.bad a e)))
 case atStart =>
  refine ⟨T,HN1,Lib.hid ((Below.heap_alloc _ _ _ (by omega)).trans HB1.out),Lib.hid (HK1.out.alloc _),?_⟩
  have ho:=HO1.out
  cases rk with
  | ok t l' =>
   obtain ⟨h1,h2,h3⟩:=ho
   obtain ⟨r1,r3⟩:=HR.out t l' rfl
   refine .inl ⟨l',h1.alloc _,⟨r3,Nat.le_refl _⟩,(h2.lt.from (From.alloc _ _ _)).mono (fun b hb=>?_),Lib.hid (by rw [h3];exact r1)⟩
   have h4:=hb.1
   have h5:=hb.2
   (try simp only [alloc_size] at h4)
   exact ⟨by omega,by omega⟩
  | bad a e =>
   have ho:PrS w1 B (.bad a e):=ho
   exact .inr ⟨a,e,ho.alloc _,HBD.out a e rfl⟩
 case round =>
  clear HO1 HN1 HB1 HK1 HR HBD
  obtain ⟨X,HN,HB0,HK,hor⟩:=hrel
  rcases hor with ⟨l,hrd,⟨hneed,hgf⟩,hgood,HE⟩ | ⟨a,e,hrd,hre⟩
  ·obtain ⟨g',rfl⟩:∃ g',gk=g'+1:=⟨gk - 1,by omega⟩
   have HRD:=Lib.hid hrd
   have HG:=Lib.hid hgood
   clear hrd hgood
   by_cases hw:((wrd l).toList == (⟨#[60,61,62]⟩:ByteArray).toList)=true
   ·have hop:psg 0 (wrd l)=⟨#[105,102,102]⟩:=by rw [psg_0,if_pos hw]
    have hopn:¬ ((psg 0 (wrd l)).toList == [])=true:=by rw [hop];decide +kernel
    have hkd:=word_kind hw (by decide +kernel)
    have hne:=ne_of_psg (by simpa using hopn)
    obtain ⟨rk',hq⟩:∃ rk',pImp g' d l.tail=rk':=⟨_,rfl⟩
    have HOK:RowKit.Hid (∀ k l',rk'=.ok k l'→r=pFormL g' d (mkN ⟨#[105,102,102]⟩ emp0 0 (hd l).pos [X.strip,k]) l'):=Lib.hid (fun k l' h=>by rw [HE.out];conv=>{ lhs;unfold pFormL };rw [if_neg hopn,hq,h,hop])
    have HBAD:RowKit.Hid (∀ a e,rk'=.bad a e→r=.bad a e):=Lib.hid (fun a e h=>by rw [HE.out];unfold pFormL;rw [if_neg hopn,hq,h])
    have HSUF:RowKit.Hid (∀ k l',rk'=.ok k l'→Suf l' l):=Lib.hid (fun k l' h=>((suf_forms g').2.2.2.2.2.2.2.2 _ _ _ _ (hq.trans h)).trans (Suf.tail hne).e)
    have HKID:=Lib.hid (fun W (hr:PrS W B (.good l.tail))=>HIH.out g' (by omega) l.tail W B d (by have:=(Suf.tail hne).len;omega) hr)
    simp only [hq] at HKID
    have HCS:=Lib.hid (ris_yes l ⟨#[60,61,62]⟩ wr B (by decide +kernel) hw HRD.out)
    have HTK:=Lib.hid (fun W (hr:PrS W B (.good l))=>rnext_g l W B hkd hr)
    clear hw hop hopn hkd HE hq hne
    generalize hd l=tk at HTK HOK
    go_wp2_with fail
    refine HCS.out.mono ?_
    rintro x w2 ⟨rfl,hb2⟩
    have HC3:=Lib.hid (HTK.out w2 (HRD.out.below hb2))
    have HN2:=Lib.hid ((hb2.block _ (lt_heap HN.out)).trans HN.out)
    have HB2:=Lib.hid ((hb2.block _ (lt_heap HB0.out)).trans HB0.out)
    have HK2:=Lib.hid (HK.out.below hb2)
    have HG2:=Lib.hid (HG.out.from (From.below hb2))
    clear HCS hb2
    go_wp2_with fail
    refine HC3.out.mono ?_
    rintro x w3 ⟨rfl,hk3,hr3⟩
    have HN3':=Lib.hid (hk3.blk HN2.out (by omega))
    have hz3':=lt_heap HN3'.out
    have HN3:=Lib.hid ((Below.heap_alloc _ (tokBox tk.kind tk.text tk.n tk.pos) _ (lt_heap HN3'.out)).trans HN3'.out)
    have HB3':=Lib.hid (hk3.blk HB2.out (by omega))
    have HB3:=Lib.hid ((Below.heap_alloc _ (tokBox tk.kind tk.text tk.n tk.pos) _ (lt_heap HB3'.out)).trans HB3'.out)
    have HT3:=Lib.hid (new_at w3 (tokBox tk.kind tk.text tk.n tk.pos))
    have HK3:=Lib.hid ((HK2.out.trans hk3).alloc (tokBox tk.kind tk.text tk.n tk.pos))
    have HG3:=Lib.hid ((HG2.out.from (hk3.from (fun h=>absurd h.1 (by omega)))).from (From.alloc _ _ (tokBox tk.kind tk.text tk.n tk.pos)))
    have HC4:=Lib.hid (HKID.out (w3.alloc (tokBox tk.kind tk.text tk.n tk.pos)).drew ((hr3.alloc (tokBox tk.kind tk.text tk.n tk.pos)).drew))
    clear hk3 hr3 HN2 HB2 HK2 HG2 HC3 HTK HKID HN3' HB3'
    go_wp2_with fail
    refine wp_region_last 5 (fun W=>W.heap[w1.heap.size]? = some (.cells #[.string X.op,.string X.name,.int .i64 X.n,.int .i64 X.pos,.slice X.a X.kids.len X.cap] 26)∧W.heap[w3.heap.size]? = some (tokBox tk.kind tk.text tk.n tk.pos)) (by kernel_rfl) (by kernel_rfl) ⟨HN3.out,HT3.out⟩ ?_
    refine headsC_val _ (.pointer (some ⟨w3.heap.size,3,none⟩)) rfl (fun W hW=>by unfold execOp;simp [go_sem,Act.eval]) ?_
    refine headsC_val _ (.int .i64 tk.pos) rfl (fun W hW=>by have h:=tok_cells hW.2;unfold execOp;simp [go_sem,Act.eval,h]) ?_
    refine headsC_load _ _ _ rfl rfl w1.heap.size rfl _ _ _ _ (fun W h=>h.1) Tryd.underlying26 rfl (by kernel_rfl) ?_
    refine headsC_move _ _ rfl rfl ?_
    refine headsC_move _ _ rfl rfl ?_
    refine headsC_nil ?_
    show wpList _ _ (thenC _ _ _ _) _ _ _
    go_wp2_with fail
    refine HC4.out.mono ?_
    rintro x w4 ⟨U,rfl,hk4,ho4⟩
    have HN4:=Lib.hid ((kp_drew hk4).blk HN3.out (by omega))
    have hz4:=lt_heap HN4.out
    have HT4:=Lib.hid ((kp_drew hk4).blk HT3.out (by omega))
    have hz5:=lt_heap HT4.out
    have HB4:=Lib.hid ((kp_drew hk4).blk HB3.out (by omega))
    have HK4:=Lib.hid (HK3.out.trans (kp_drew hk4))
    have HG4:=Lib.hid (HG3.out.from ((kp_drew hk4).from (fun h=>absurd h.1 (by omega))))
    have HO4:=Lib.hid ho4
    have hz34:w1.heap.size < (w3.alloc (tokBox tk.kind tk.text tk.n tk.pos)).drew.heap.size:=lt_heap HN3.out
    have hz44:(w3.alloc (tokBox tk.kind tk.text tk.n tk.pos)).drew.heap.size=w3.heap.size+1:=alloc_size _ _
    have HZ34:=Lib.hid hz34
    clear hk4 ho4 HC4 HK3 HG3 HB3 HN3 hz34
    go_wp2_with fail
    refine ⟨fun _=>⟨HN4.out,HT4.out⟩,?_⟩
    show wpList _ _ (thenC _ _ _ _) _ _ _
    go_wp2_with fail
    refine ⟨fun _=>⟨(Below.heap_alloc _ _ _ hz4).trans HN4.out,(Below.heap_alloc _ _ _ hz5).trans HT4.out⟩,?_⟩
    show wpList _ _ (thenC _ _ _ _) _ _ _
    go_wp2_with fail
    refine ⟨fun _=>⟨(Below.heap_alloc _ _ _ hz4).trans HN4.out,(Below.heap_alloc _ _ _ hz5).trans HT4.out⟩,?_⟩
    show wpList _ _ (thenC _ _ _ _) _ _ _
    obtain ⟨n0,n1,n2,n3,n4⟩:=box_cells HN4.out
    obtain ⟨q0,q1,q2,q4,q5⟩:=box_frozen HN4.out
    go_wp2_with fail
    refine ⟨fun h=>(by cases h),NoPanic.normal ?_⟩
    go_wp2_with fail
    go_roundg g'
    case rel =>
     refine ⟨⟨⟨#[105,102,102]⟩,⟨#[]⟩,0,tk.pos,some ⟨w4.heap.size,0,none⟩,2,.cons X.op X.name X.n X.pos X.a X.cap X.kids (.cons U.op U.name U.n U.pos U.a U.cap U.kids .nil)⟩,Lib.hid ((Below.heap_alloc _ _ _ (by simp;omega)).trans (node_set HN4.out _ _ _ _ _ _ _)),Lib.hid ((Below.heap_alloc _ _ _ (by simp;omega)).trans (node_set_other HB4.out (by omega) _ _ _ _ _)),
      Lib.hid (by repeat (with_reducible first | exact HK4.out | refine Kp.alloc ?_ _ | refine Kp.set ?_ (show w.heap.size≤w1.heap.size by omega) _)),?_⟩
     cases rk' with
     | ok k l' =>
      obtain ⟨hr4,hg4,hs4⟩:=HO4.out
      have hsuf:=HSUF.out k l' rfl
      have hfr:From (fun b=>w.heap.size+1≤b∧b≠w1.heap.size) w4 (((((w4.setCell ⟨w1.heap.size,0,none⟩ (.string ⟨#[105,102,102]⟩)).setCell ⟨w1.heap.size,1,none⟩ (.string ⟨#[]⟩)).setCell ⟨w1.heap.size,2,none⟩ (.int .i64 0)).setCell ⟨w1.heap.size,3,none⟩ (.int .i64 tk.pos)).setCell ⟨w1.heap.size,4,none⟩ (.slice (some ⟨w4.heap.size,0,none⟩) 2 2)) :=
       ((((((From.refl _ _).trans (From.set _ (fun h=>h.2 rfl) _)).trans (From.set _ (fun h=>h.2 rfl) _)).trans (From.set _ (fun h=>h.2 rfl) _)).trans (From.set _ (fun h=>h.2 rfl) _)).trans (From.set _ (fun h=>h.2 rfl) _))
      refine .inl ⟨l',(by repeat (with_reducible first | exact hr4 | refine PrS.alloc ?_ _ | refine PrS.set ?_ (show B < w1.heap.size by omega) _)),⟨by have:=hsuf.len;omega,by omega⟩,?_,Lib.hid (by rw [HOK.out k l' rfl,← hs4];rfl)⟩
      refine good2 (G:=w4.heap.size) ⟨by omega,by omega⟩ (by have h:=new_at (((((w4.setCell ⟨w1.heap.size,0,none⟩ (.string ⟨#[105,102,102]⟩)).setCell ⟨w1.heap.size,1,none⟩ (.string ⟨#[]⟩)).setCell ⟨w1.heap.size,2,none⟩ (.int .i64 0)).setCell ⟨w1.heap.size,3,none⟩ (.int .i64 tk.pos)).setCell ⟨w1.heap.size,4,none⟩ (.slice (some ⟨w4.heap.size,0,none⟩) 2 2)) (.cells #[.string X.op,.string X.name,.int .i64 X.n,.int .i64 X.pos,.slice X.a X.kids.len X.cap,.string U.op,.string U.name,.int .i64 U.n,.int .i64 U.pos,.slice U.a U.kids.len U.cap] 26);rw [set5_size] at h;exact h)
       ((HG4.out.from hfr).from (From.alloc _ _ _)) (((hg4.mono (fun b hb=>?_)).from hfr).from (From.alloc _ _ _))
      have hz:=HZ34.out
      exact ⟨by omega,by omega⟩
     | bad a e =>
      have hr4:PrS w4 B (.bad a e):=HO4.out
      exact .inr ⟨a,e,(by repeat (with_reducible first | exact hr4 | refine PrS.alloc ?_ _ | refine PrS.set ?_ (show B < w1.heap.size by omega) _)),HBAD.out a e rfl⟩
    case measure=>omega
   ·have hw':((wrd l).toList == (⟨#[60,61,62]⟩:ByteArray).toList)=false:=by simpa using hw
    have HRE:=Lib.hid (show r=.ok X.strip l from by rw [HE.out];unfold pFormL;rw [psg_0,if_neg hw,if_pos (by decide +kernel)])
    have HCS:=Lib.hid (ris_no l ⟨#[60,61,62]⟩ wr B hw' HRD.out)
    clear hw hw' HE
    go_wp2_with fail
    refine HCS.out.mono ?_
    rintro x w2 ⟨rfl,hb2⟩
    obtain ⟨n0,n1,n2,n3,n4⟩:=box_cells ((hb2.block _ (lt_heap HN.out)).trans HN.out)
    have hr0:=(hb2.block _ (lt_heap HB0.out)).trans HB0.out
    obtain ⟨r0,r1,r2,r3,r4⟩:=box_cells hr0
    obtain ⟨q0,q1,q2,q3,q4⟩:=box_frozen hr0
    have HR0:=Lib.hid hr0
    have HB2:=Lib.hid hb2
    clear hr0 hb2 HCS
    go_wp2_with fail
    refine ret_node (B:=w.heap.size) X.op X.name X.n X.pos X.a X.kids.len X.cap Tryd.results30 rfl rfl (node_set HR0.out _ _ _ _ _ _ _) ⟨X,rfl,?_,?_⟩
    ·exact (by repeat (with_reducible first | exact HK.out.below HB2.out | refine Kp.set ?_ (Nat.le_refl _) _))
    ·rw [HRE.out]
     refine ⟨(by repeat (with_reducible first | exact HRD.out.below HB2.out | refine PrS.set ?_ hB _)),?_,rfl⟩
     have hg2:=HG.out.from (From.below HB2.out)
     refine Nd.Good.mono (S:=fun b=>w.heap.size+1≤b∧b≠w1.heap.size) ?_ (fun b hb=>by omega)
     exact hg2.from ((((((From.refl _ _).trans (From.set _ (fun h=>absurd h.1 (by simp)) _)).trans (From.set _ (fun h=>absurd h.1 (by simp)) _)).trans (From.set _ (fun h=>absurd h.1 (by simp)) _)).trans (From.set _ (fun h=>absurd h.1 (by simp)) _)).trans (From.set _ (fun h=>absurd h.1 (by simp)) _))
  ·have HCS:=Lib.hid (ris_b ⟨#[60,61,62]⟩ wr B a e hrd)
   have HRE:=Lib.hid hre
   have HRD:=Lib.hid hrd
   clear hre hrd
   go_wp2_with fail
   refine HCS.out.mono ?_
   rintro x w2 ⟨rfl,hb2⟩
   obtain ⟨n0,n1,n2,n3,n4⟩:=box_cells ((hb2.block _ (lt_heap HN.out)).trans HN.out)
   have hr0:=(hb2.block _ (lt_heap HB0.out)).trans HB0.out
   obtain ⟨r0,r1,r2,r3,r4⟩:=box_cells hr0
   obtain ⟨q0,q1,q2,q3,q4⟩:=box_frozen hr0
   have HR0:=Lib.hid hr0
   have HB2:=Lib.hid hb2
   clear hr0 hb2 HCS
   go_wp2_with fail
   refine ret_node (B:=w.heap.size) X.op X.name X.n X.pos X.a X.kids.len X.cap Tryd.results30 rfl rfl (node_set HR0.out _ _ _ _ _ _ _) ⟨X,rfl,?_,?_⟩
   ·exact (by repeat (with_reducible first | exact HK.out.below HB2.out | refine Kp.set ?_ (Nat.le_refl _) _))
   ·rw [HRE.out]
    show PrS _ B (.bad a e)
    exact (by repeat (with_reducible first | exact HRD.out.below HB2.out | refine PrS.set ?_ hB _))
end Go.Proofs.YtmlmjopfbohglaaDoor
