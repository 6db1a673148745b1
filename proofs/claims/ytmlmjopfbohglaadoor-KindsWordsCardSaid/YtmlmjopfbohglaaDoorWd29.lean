/- Parts of the proof: RpH. -/
import Derived.Test.YtmlmjopfbohglaaDoorWd28
namespace Go.Proofs.YtmlmjopfbohglaaDoor
open Go.RowKit
def SayPt (br:Bool) (f:Nat):Prop:=∀ (l:List Tok) (w:World) (B:Nat),1+20 * l.length≤f→PrS w B (.good l)→Calls Tryd.prog 193 #[.pointer (some ⟨B,0,none⟩),.bool br] w (PostR B w (pPart f br l))
theorem psg_5 (x:ByteArray):psg 5 x=if (x.toList == (⟨#[117,110,105,111,110]⟩:ByteArray).toList)=true then ⟨#[117,110,105,111,110]⟩ else if (x.toList == (⟨#[105,110,116,101,114]⟩:ByteArray).toList)=true then ⟨#[105,110,116,101,114]⟩ else if (x.toList == (⟨#[92]⟩:ByteArray).toList)=true then ⟨#[109,105,110,117,115]⟩ else ⟨#[]⟩:=by
 rw [BEq.comm (a:=x.toList) (b:=(⟨#[117,110,105,111,110]⟩:ByteArray).toList),BEq.comm (a:=x.toList) (b:=(⟨#[105,110,116,101,114]⟩:ByteArray).toList),BEq.comm (a:=x.toList) (b:=(⟨#[92]⟩:ByteArray).toList)];rfl
theorem txt_eq {l:List Tok} {x:ByteArray} (h:((wrd l).toList == x.toList)=true) (hx:(x.toList == [])=false):(hd l).text=x:=by
 have h2:(hd l).text.toList=x.toList:=by simpa using (wrd_yes h hx).2
 rw [Lib.toList_data,Lib.toList_data] at h2
 exact ByteArray.ext (Array.ext' h2)
set_option maxRecDepth 100000 in
set_option maxHeartbeats 16000000 in
theorem rptm_of (f:Nat) (ih:∀ g,g≤f→SayPt false g) (s:St) (rk r:Res Nd) (w:World) (B:Nat) (hS:PrS w B s)
  (hk:∀ W,PrS W B s→Calls Tryd.prog 193 #[.pointer (some ⟨B,0,none⟩),.bool false] W (PostR B W rk))
  (hr:∀ t l',rk=.ok t l'→r=pTermL f t l'∧1+20 * l'.length≤f) (hb:∀ a e,rk=.bad a e→r=.bad a e) :
  Calls Tryd.prog 178 #[.pointer (some ⟨B,0,none⟩)] w (PostR B w r):=by
 have hc5:=cellsNode
 have hc4:=cellsTok
 have q3:=tok_f3
 have hB:=hS.lt
 have HC:=Lib.hid (hk (w.alloc (boxOf ⟨#[]⟩ ⟨#[]⟩ 0 0 none 0 0)) (hS.alloc _))
 have HR:=Lib.hid hr
 have HBD:=Lib.hid hb
 have HIH:=Lib.hid ih
 clear hk hr hb hS ih
 go_enter Tryd.func178,Tryd.ntmps178
 go_wp2_with fail
 refine HC.out.mono ?_
 rintro e w1 ⟨T,rfl,hk1,ho1⟩
 have hz1:=hk1.size
 simp only [alloc_size] at hz1
 have HK1:=Lib.hid (Kp.trans ((Kp.refl B w).alloc _) hk1)
 have HB1:=Lib.hid (hk1.blk (new_at w _) (by omega))
 have HO1:=Lib.hid ho1
 clear hk1 ho1 HC
 go_wp2_with fail
 have HN1:=Lib.hid (new_at w1 (boxOf T.op T.name T.n T.pos T.a T.kids.len T.cap))
 go_loopg [] f (fun gf wx=>∃ (X:Nd),RowKit.Hid (wx.heap[w1.heap.size]? = some (boxOf X.op X.name X.n X.pos X.a X.kids.len X.cap))∧RowKit.Hid (wx.heap[w.heap.size]? = some (boxOf ⟨#[]⟩ ⟨#[]⟩ 0 0 none 0 0))∧RowKit.Hid (Kp B w wx) ∧
   ((∃ l,PrS wx B (.good l)∧(1+20 * l.length≤gf∧gf≤f)∧X.Good (fun b=>w.heap.size+1≤b∧b≠w1.heap.size) wx∧RowKit.Hid (r=pTermL gf X.strip l))∨(∃ a e,PrS wx B (.bad a e)∧r=.bad a e)))
 case atStart =>
  refine ⟨T,HN1,Lib.hid ((Below.heap_alloc _ _ _ (by omega)).trans HB1.out),Lib.hid (HK1.out.alloc _),?_⟩
  have ho:=HO1.out
  cases rk with
  | ok t l' =>
   obtain ⟨h1,h2,h3⟩:=ho
   obtain ⟨r1,r3⟩:=HR.out t l' rfl
   refine .inl ⟨l',h1.alloc _,⟨r3,Nat.le_refl _⟩,(h2.lt.from (From.alloc _ _ _)).mono (fun b hb=>?_),Lib.hid (by rw [h3];exact r1)⟩
   have h4:=hb.1
   have h5:=hb.2
   (try simp only [alloc_size] at h4)
   exact ⟨by omega,by omega⟩
  | bad a e =>
   have ho:PrS w1 B (.bad a e):=ho
   exact .inr ⟨a,e,ho.alloc _,HBD.out a e rfl⟩
 case round =>
  clear HO1 HN1 HB1 HK1 HR HBD
  obtain ⟨X,HN,HB0,HK,hor⟩:=hrel
  rcases hor with ⟨l,hrd,⟨hneed,hgf⟩,hgood,HE⟩ | ⟨a,e,hrd,hre⟩
  ·obtain ⟨g',rfl⟩:∃ g',gk=g'+1:=⟨gk - 1,by omega⟩
   have z2:=hrd.err_g
   have hBr:=hrd.lt
   have HRD:=Lib.hid hrd
   have HG:=Lib.hid hgood
   have HNW:=Lib.hid (rnow_g l wr B hrd)
   clear hrd hgood
   have h5:=psg_5 (wrd l)
   by_cases hw0:((wrd l).toList == (⟨#[117,110,105,111,110]⟩:ByteArray).toList)=true
   ·have hop:psg 5 (wrd l)=⟨#[117,110,105,111,110]⟩:=by rw [h5,if_pos hw0]
    have hopn:¬ ((psg 5 (wrd l)).toList == [])=true:=by rw [hop];decide +kernel
    have hkd:=word_kind hw0 (by decide +kernel)
    have hne:=ne_of_psg (by simpa using hopn)
    obtain ⟨rk',hq⟩:∃ rk',pPart g' false l.tail=rk':=⟨_,rfl⟩
    have HOK:RowKit.Hid (∀ k l',rk'=.ok k l'→r=pTermL g' (mkN ⟨#[117,110,105,111,110]⟩ emp0 0 (hd l).pos [X.strip,k]) l'):=Lib.hid (fun k l' h=>by rw [HE.out];conv=>{ lhs;unfold pTermL };rw [if_neg hopn,hq,h,hop])
    have HBAD:RowKit.Hid (∀ a e,rk'=.bad a e→r=.bad a e):=Lib.hid (fun a e h=>by rw [HE.out];unfold pTermL;rw [if_neg hopn,hq,h])
    have HSUF:RowKit.Hid (∀ k l',rk'=.ok k l'→Suf l' l):=Lib.hid (fun k l' h=>((suf_terms g').1 _ _ _ _ (hq.trans h)).trans (Suf.tail hne).e)
    have HKID:=Lib.hid (fun W (hr:PrS W B (.good l.tail))=>HIH.out g' (by omega) l.tail W B (by have:=(Suf.tail hne).len;omega) hr)
    simp only [hq] at HKID
    have HTX:=Lib.hid (txt_eq hw0 (by decide +kernel))
    have HW:=Lib.hid hw0
    have HKD:=Lib.hid hkd
    clear hw0  hop hopn hkd HE hq hne h5
    go_wp2_with fail
    refine HNW.out.mono ?_
    rintro x w2 ⟨rfl,hb2⟩
    have HN2:=Lib.hid ((Below.heap_alloc _ (tokBox (hd l).kind (hd l).text (hd l).n (hd l).pos) _ (lt_heap ((hb2.block _ (lt_heap HN.out)).trans HN.out))).trans ((hb2.block _ (lt_heap HN.out)).trans HN.out))
    have HB2:=Lib.hid ((Below.heap_alloc _ (tokBox (hd l).kind (hd l).text (hd l).n (hd l).pos) _ (lt_heap ((hb2.block _ (lt_heap HB0.out)).trans HB0.out))).trans ((hb2.block _ (lt_heap HB0.out)).trans HB0.out))
    have HT2:=Lib.hid (new_at w2 (tokBox (hd l).kind (hd l).text (hd l).n (hd l).pos))
    have hbt:Below wr.heap.size wr (w2.alloc (tokBox (hd l).kind (hd l).text (hd l).n (hd l).pos)):=hb2.alloc hb2.size _
    have hzt:w1.heap.size < w2.heap.size:=lt_heap ((hb2.block _ (lt_heap HN.out)).trans HN.out)
    have HK2:=Lib.hid (HK.out.below hbt)
    have HG2:=Lib.hid (HG.out.from (From.below hbt))
    have HP2:=Lib.hid (HRD.out.below hbt)
    clear hb2 hbt HNW
    have HCS3:=Lib.hid (ris_yes l ⟨#[117,110,105,111,110]⟩ (w2.alloc (tokBox (hd l).kind (hd l).text (hd l).n (hd l).pos)) B (by decide +kernel) HW.out HP2.out)
    go_wp2_with fail
    refine HCS3.out.mono ?_
    rintro x w3 ⟨rfl,hb3⟩
    have HN3:=Lib.hid ((hb3.block _ (lt_heap HN2.out)).trans HN2.out)
    have HB3:=Lib.hid ((hb3.block _ (lt_heap HB2.out)).trans HB2.out)
    have HT3:=Lib.hid ((hb3.block _ (lt_heap HT2.out)).trans HT2.out)
    have HK3:=Lib.hid (HK2.out.below hb3)
    have HG3:=Lib.hid (HG2.out.from (From.below hb3))
    have HP3:=Lib.hid (HP2.out.below hb3)
    clear hb3 HCS3 HN2 HB2 HT2 HK2 HG2 HP2
    have HNX:=Lib.hid (rnext_g l w3 B HKD.out HP3.out)
    obtain ⟨⟨t0,t1,t2,t3⟩,_⟩:=tok_cells HT3.out
    go_wp2_with fail
    refine HNX.out.mono ?_
    rintro x w4 ⟨rfl,hk4,hr4⟩
    have HN4:=Lib.hid (hk4.blk HN3.out (by omega))
    have hzn:=lt_heap HN4.out
    have HB4:=Lib.hid (hk4.blk HB3.out (by omega))
    have HT4:=Lib.hid (hk4.blk HT3.out (by omega))
    have hztt:=lt_heap HT4.out
    have HK4:=Lib.hid (HK3.out.trans hk4)
    have HG4:=Lib.hid (HG3.out.from (hk4.from (fun h=>absurd h.1 (by omega))))
    have HC4:=Lib.hid (HKID.out w4.drew hr4.drew)
    clear hk4 hr4 HN3 HB3 HT3 HK3 HG3 HP3 HNX HKID t0 t1 t2 t3
    go_wp2_with fail
    refine wp_region_last 5 (fun W=>W.heap[w1.heap.size]? = some (.cells #[.string X.op,.string X.name,.int .i64 X.n,.int .i64 X.pos,.slice X.a X.kids.len X.cap] 26)∧W.heap[w2.heap.size]? = some (tokBox (hd l).kind (hd l).text (hd l).n (hd l).pos)) (by kernel_rfl) (by kernel_rfl) ⟨HN4.out,HT4.out⟩ ?_
    refine headsC_move _ _ rfl rfl ?_
    refine headsC_val _ (.pointer (some ⟨w2.heap.size,3,none⟩)) rfl (fun W hW=>by unfold execOp;simp [go_sem,Act.eval]) ?_
    refine headsC_val _ (.int .i64 (hd l).pos) rfl (fun W hW=>by have h:=tok_cells hW.2;unfold execOp;simp [go_sem,Act.eval,h]) ?_
    refine headsC_load _ _ _ rfl rfl w1.heap.size rfl _ _ _ _ (fun W h=>h.1) Tryd.underlying26 rfl (by kernel_rfl) ?_
    refine headsC_move _ _ rfl rfl ?_
    refine headsC_nil ?_
    show wpList _ _ (thenC _ _ _ _) _ _ _
    go_wp2_with fail
    refine HC4.out.mono ?_
    rintro x w9 ⟨U,rfl,hk9,ho9⟩
    have HN9:=Lib.hid ((kp_drew hk9).blk HN4.out (by omega))
    have hz4:=lt_heap HN9.out
    have HT9:=Lib.hid ((kp_drew hk9).blk HT4.out (by omega))
    have hz5:=lt_heap HT9.out
    have HB9:=Lib.hid ((kp_drew hk9).blk HB4.out (by omega))
    have HK9:=Lib.hid (HK4.out.trans (kp_drew hk9))
    have HG9:=Lib.hid (HG4.out.from ((kp_drew hk9).from (fun h=>absurd h.1 (by omega))))
    have HO9:=Lib.hid ho9
    have hz34:w1.heap.size < w4.drew.heap.size:=lt_heap HN4.out
    have HZ34:=Lib.hid hz34
    clear hk9 ho9 HC4 HK4 HG4 HB4 HN4 HT4 hz34
    go_wp2_with fail
    refine ⟨fun _=>⟨HN9.out,HT9.out⟩,?_⟩
    show wpList _ _ (thenC _ _ _ _) _ _ _
    go_wp2_with fail
    refine ⟨fun _=>⟨(Below.heap_alloc _ _ _ hz4).trans HN9.out,(Below.heap_alloc _ _ _ hz5).trans HT9.out⟩,?_⟩
    show wpList _ _ (thenC _ _ _ _) _ _ _
    go_wp2_with fail
    refine ⟨fun _=>⟨(Below.heap_alloc _ _ _ hz4).trans HN9.out,(Below.heap_alloc _ _ _ hz5).trans HT9.out⟩,?_⟩
    show wpList _ _ (thenC _ _ _ _) _ _ _
    obtain ⟨n0,n1,n2,n3,n4⟩:=box_cells HN9.out
    obtain ⟨q0,q1,q2,q4,q5⟩:=box_frozen HN9.out
    go_wp2_with fail
    refine ⟨fun h=>(by cases h),NoPanic.normal ?_⟩
    go_wp2_with fail
    go_roundg g'
    case rel =>
     refine ⟨⟨(hd l).text,⟨#[]⟩,0,(hd l).pos,some ⟨w9.heap.size,0,none⟩,2,.cons X.op X.name X.n X.pos X.a X.cap X.kids (.cons U.op U.name U.n U.pos U.a U.cap U.kids .nil)⟩,Lib.hid ((Below.heap_alloc _ _ _ (by simp;omega)).trans (node_set HN9.out _ _ _ _ _ _ _)),Lib.hid ((Below.heap_alloc _ _ _ (by simp;omega)).trans (node_set_other HB9.out (by omega) _ _ _ _ _)),
      Lib.hid (by repeat (with_reducible first | exact HK9.out | refine Kp.alloc ?_ _ | refine Kp.set ?_ (show w.heap.size≤w1.heap.size by omega) _)),?_⟩
     cases rk' with
     | ok k l' =>
      obtain ⟨hr4,hg4,hs4⟩:=HO9.out
      have hsuf:=HSUF.out k l' rfl
      have hfr:From (fun b=>w.heap.size+1≤b∧b≠w1.heap.size) w9 (((((w9.setCell ⟨w1.heap.size,0,none⟩ (.string (hd l).text)).setCell ⟨w1.heap.size,1,none⟩ (.string ⟨#[]⟩)).setCell ⟨w1.heap.size,2,none⟩ (.int .i64 0)).setCell ⟨w1.heap.size,3,none⟩ (.int .i64 (hd l).pos)).setCell ⟨w1.heap.size,4,none⟩ (.slice (some ⟨w9.heap.size,0,none⟩) 2 2)) :=
       ((((((From.refl _ _).trans (From.set _ (fun h=>h.2 rfl) _)).trans (From.set _ (fun h=>h.2 rfl) _)).trans (From.set _ (fun h=>h.2 rfl) _)).trans (From.set _ (fun h=>h.2 rfl) _)).trans (From.set _ (fun h=>h.2 rfl) _))
      refine .inl ⟨l',(by repeat (with_reducible first | exact hr4 | refine PrS.alloc ?_ _ | refine PrS.set ?_ (show B < w1.heap.size by omega) _)),⟨by have:=hsuf.len;omega,by omega⟩,?_,Lib.hid (by rw [HOK.out k l' rfl,← hs4];rw [HTX.out];rfl)⟩
      refine good2 (G:=w9.heap.size) ⟨by omega,by omega⟩ (by have h:=new_at (((((w9.setCell ⟨w1.heap.size,0,none⟩ (.string (hd l).text)).setCell ⟨w1.heap.size,1,none⟩ (.string ⟨#[]⟩)).setCell ⟨w1.heap.size,2,none⟩ (.int .i64 0)).setCell ⟨w1.heap.size,3,none⟩ (.int .i64 (hd l).pos)).setCell ⟨w1.heap.size,4,none⟩ (.slice (some ⟨w9.heap.size,0,none⟩) 2 2)) (.cells #[.string X.op,.string X.name,.int .i64 X.n,.int .i64 X.pos,.slice X.a X.kids.len X.cap,.string U.op,.string U.name,.int .i64 U.n,.int .i64 U.pos,.slice U.a U.kids.len U.cap] 26);rw [set5_size] at h;exact h)
       ((HG9.out.from hfr).from (From.alloc _ _ _)) (((hg4.mono (fun b hb=>?_)).from hfr).from (From.alloc _ _ _))
      have hz:=HZ34.out
      exact ⟨by omega,by omega⟩
     | bad a e =>
      have hr4:PrS w9 B (.bad a e):=HO9.out
      exact .inr ⟨a,e,(by repeat (with_reducible first | exact hr4 | refine PrS.alloc ?_ _ | refine PrS.set ?_ (show B < w1.heap.size by omega) _)),HBAD.out a e rfl⟩
    case measure=>omega
   ·
    by_cases hw1:((wrd l).toList == (⟨#[105,110,116,101,114]⟩:ByteArray).toList)=true
    ·have hop:psg 5 (wrd l)=⟨#[105,110,116,101,114]⟩:=by rw [h5,if_neg hw0,if_pos hw1]
     have hopn:¬ ((psg 5 (wrd l)).toList == [])=true:=by rw [hop];decide +kernel
     have hkd:=word_kind hw1 (by decide +kernel)
     have hne:=ne_of_psg (by simpa using hopn)
     obtain ⟨rk',hq⟩:∃ rk',pPart g' false l.tail=rk':=⟨_,rfl⟩
     have HOK:RowKit.Hid (∀ k l',rk'=.ok k l'→r=pTermL g' (mkN ⟨#[105,110,116,101,114]⟩ emp0 0 (hd l).pos [X.strip,k]) l'):=Lib.hid (fun k l' h=>by rw [HE.out];conv=>{ lhs;unfold pTermL };rw [if_neg hopn,hq,h,hop])
     have HBAD:RowKit.Hid (∀ a e,rk'=.bad a e→r=.bad a e):=Lib.hid (fun a e h=>by rw [HE.out];unfold pTermL;rw [if_neg hopn,hq,h])
     have HSUF:RowKit.Hid (∀ k l',rk'=.ok k l'→Suf l' l):=Lib.hid (fun k l' h=>((suf_terms g').1 _ _ _ _ (hq.trans h)).trans (Suf.tail hne).e)
     have HKID:=Lib.hid (fun W (hr:PrS W B (.good l.tail))=>HIH.out g' (by omega) l.tail W B (by have:=(Suf.tail hne).len;omega) hr)
     simp only [hq] at HKID
     have HTX:=Lib.hid (txt_eq hw1 (by decide +kernel))
     have hn0:((wrd l).toList == (⟨#[117,110,105,111,110]⟩:ByteArray).toList)=false:=by simpa using hw0
     have HW:=Lib.hid hw1
     have HKD:=Lib.hid hkd
     have HWN0:=Lib.hid hn0
     clear hw0 hw1 hn0 hop hopn hkd HE hq hne h5
     go_wp2_with fail
     refine HNW.out.mono ?_
     rintro x w2 ⟨rfl,hb2⟩
     have HN2:=Lib.hid ((Below.heap_alloc _ (tokBox (hd l).kind (hd l).text (hd l).n (hd l).pos) _ (lt_heap ((hb2.block _ (lt_heap HN.out)).trans HN.out))).trans ((hb2.block _ (lt_heap HN.out)).trans HN.out))
     have HB2:=Lib.hid ((Below.heap_alloc _ (tokBox (hd l).kind (hd l).text (hd l).n (hd l).pos) _ (lt_heap ((hb2.block _ (lt_heap HB0.out)).trans HB0.out))).trans ((hb2.block _ (lt_heap HB0.out)).trans HB0.out))
     have HT2:=Lib.hid (new_at w2 (tokBox (hd l).kind (hd l).text (hd l).n (hd l).pos))
     have hbt:Below wr.heap.size wr (w2.alloc (tokBox (hd l).kind (hd l).text (hd l).n (hd l).pos)):=hb2.alloc hb2.size _
     have hzt:w1.heap.size < w2.heap.size:=lt_heap ((hb2.block _ (lt_heap HN.out)).trans HN.out)
     have HK2:=Lib.hid (HK.out.below hbt)
     have HG2:=Lib.hid (HG.out.from (From.below hbt))
     have HP2:=Lib.hid (HRD.out.below hbt)
     clear hb2 hbt HNW
     have HCS3:=Lib.hid (ris_no l ⟨#[117,110,105,111,110]⟩ (w2.alloc (tokBox (hd l).kind (hd l).text (hd l).n (hd l).pos)) B HWN0.out HP2.out)
     go_wp2_with fail
     refine HCS3.out.mono ?_
     rintro x w3 ⟨rfl,hb3⟩
     have HN3:=Lib.hid ((hb3.block _ (lt_heap HN2.out)).trans HN2.out)
     have HB3:=Lib.hid ((hb3.block _ (lt_heap HB2.out)).trans HB2.out)
     have HT3:=Lib.hid ((hb3.block _ (lt_heap HT2.out)).trans HT2.out)
     have HK3:=Lib.hid (HK2.out.below hb3)
     have HG3:=Lib.hid (HG2.out.from (From.below hb3))
     have HP3:=Lib.hid (HP2.out.below hb3)
     clear hb3 HCS3 HN2 HB2 HT2 HK2 HG2 HP2
     have HCS4:=Lib.hid (ris_yes l ⟨#[105,110,116,101,114]⟩ w3 B (by decide +kernel) HW.out HP3.out)
     go_wp2_with fail
     refine HCS4.out.mono ?_
     rintro x w4 ⟨rfl,hb4⟩
     have HN4:=Lib.hid ((hb4.block _ (lt_heap HN3.out)).trans HN3.out)
     have HB4:=Lib.hid ((hb4.block _ (lt_heap HB3.out)).trans HB3.out)
     have HT4:=Lib.hid ((hb4.block _ (lt_heap HT3.out)).trans HT3.out)
     have HK4:=Lib.hid (HK3.out.below hb4)
     have HG4:=Lib.hid (HG3.out.from (From.below hb4))
     have HP4:=Lib.hid (HP3.out.below hb4)
     clear hb4 HCS4 HN3 HB3 HT3 HK3 HG3 HP3
     have HNX:=Lib.hid (rnext_g l w4 B HKD.out HP4.out)
     obtain ⟨⟨t0,t1,t2,t3⟩,_⟩:=tok_cells HT4.out
     go_wp2_with fail
     refine HNX.out.mono ?_
     rintro x w5 ⟨rfl,hk5,hr5⟩
     have HN5:=Lib.hid (hk5.blk HN4.out (by omega))
     have hzn:=lt_heap HN5.out
     have HB5:=Lib.hid (hk5.blk HB4.out (by omega))
     have HT5:=Lib.hid (hk5.blk HT4.out (by omega))
     have hztt:=lt_heap HT5.out
     have HK5:=Lib.hid (HK4.out.trans hk5)
     have HG5:=Lib.hid (HG4.out.from (hk5.from (fun h=>absurd h.1 (by omega))))
     have HC4:=Lib.hid (HKID.out w5.drew hr5.drew)
     clear hk5 hr5 HN4 HB4 HT4 HK4 HG4 HP4 HNX HKID t0 t1 t2 t3
     go_wp2_with fail
     refine wp_region_last 5 (fun W=>W.heap[w1.heap.size]? = some (.cells #[.string X.op,.string X.name,.int .i64 X.n,.int .i64 X.pos,.slice X.a X.kids.len X.cap] 26)∧W.heap[w2.heap.size]? = some (tokBox (hd l).kind (hd l).text (hd l).n (hd l).pos)) (by kernel_rfl) (by kernel_rfl) ⟨HN5.out,HT5.out⟩ ?_
     refine headsC_move _ _ rfl rfl ?_
     refine headsC_val _ (.pointer (some ⟨w2.heap.size,3,none⟩)) rfl (fun W hW=>by unfold execOp;simp [go_sem,Act.eval]) ?_
     refine headsC_val _ (.int .i64 (hd l).pos) rfl (fun W hW=>by have h:=tok_cells hW.2;unfold execOp;simp [go_sem,Act.eval,h]) ?_
     refine headsC_load _ _ _ rfl rfl w1.heap.size rfl _ _ _ _ (fun W h=>h.1) Tryd.underlying26 rfl (by kernel_rfl) ?_
     refine headsC_move _ _ rfl rfl ?_
     refine headsC_nil ?_
     show wpList _ _ (thenC _ _ _ _) _ _ _
     go_wp2_with fail
     refine HC4.out.mono ?_
     rintro x w9 ⟨U,rfl,hk9,ho9⟩
     have HN9:=Lib.hid ((kp_drew hk9).blk HN5.out (by omega))
     have hz4:=lt_heap HN9.out
     have HT9:=Lib.hid ((kp_drew hk9).blk HT5.out (by omega))
     have hz5:=lt_heap HT9.out
     have HB9:=Lib.hid ((kp_drew hk9).blk HB5.out (by omega))
     have HK9:=Lib.hid (HK5.out.trans (kp_drew hk9))
     have HG9:=Lib.hid (HG5.out.from ((kp_drew hk9).from (fun h=>absurd h.1 (by omega))))
     have HO9:=Lib.hid ho9
     have hz34:w1.heap.size < w5.drew.heap.size:=lt_heap HN5.out
     have HZ34:=Lib.hid hz34
     clear hk9 ho9 HC4 HK5 HG5 HB5 HN5 HT5 hz34
     go_wp2_with fail
     refine ⟨fun _=>⟨HN9.out,HT9.out⟩,?_⟩
     show wpList _ _ (thenC _ _ _ _) _ _ _
     go_wp2_with fail
     refine ⟨fun _=>⟨(Below.heap_alloc _ _ _ hz4).trans HN9.out,(Below.heap_alloc _ _ _ hz5).trans HT9.out⟩,?_⟩
     show wpList _ _ (thenC _ _ _ _) _ _ _
     go_wp2_with fail
     refine ⟨fun _=>⟨(Below.heap_alloc _ _ _ hz4).trans HN9.out,(Below.heap_alloc _ _ _ hz5).trans HT9.out⟩,?_⟩
     show wpList _ _ (thenC _ _ _ _) _ _ _
     obtain ⟨n0,n1,n2,n3,n4⟩:=box_cells HN9.out
     obtain ⟨q0,q1,q2,q4,q5⟩:=box_frozen HN9.out
     go_wp2_with fail
     refine ⟨fun h=>(by cases h),NoPanic.normal ?_⟩
     go_wp2_with fail
     go_roundg g'
     case rel =>
      refine ⟨⟨(hd l).text,⟨#[]⟩,0,(hd l).pos,some ⟨w9.heap.size,0,none⟩,2,.cons X.op X.name X.n X.pos X.a X.cap X.kids (.cons U.op U.name U.n U.pos U.a U.cap U.kids .nil)⟩,Lib.hid ((Below.heap_alloc _ _ _ (by simp;omega)).trans (node_set HN9.out _ _ _ _ _ _ _)),Lib.hid ((Below.heap_alloc _ _ _ (by simp;omega)).trans (node_set_other HB9.out (by omega) _ _ _ _ _)),
       Lib.hid (by repeat (with_reducible first | exact HK9.out | refine Kp.alloc ?_ _ | refine Kp.set ?_ (show w.heap.size≤w1.heap.size by omega) _)),?_⟩
      cases rk' with
      | ok k l' =>
       obtain ⟨hr4,hg4,hs4⟩:=HO9.out
       have hsuf:=HSUF.out k l' rfl
       have hfr:From (fun b=>w.heap.size+1≤b∧b≠w1.heap.size) w9 (((((w9.setCell ⟨w1.heap.size,0,none⟩ (.string (hd l).text)).setCell ⟨w1.heap.size,1,none⟩ (.string ⟨#[]⟩)).setCell ⟨w1.heap.size,2,none⟩ (.int .i64 0)).setCell ⟨w1.heap.size,3,none⟩ (.int .i64 (hd l).pos)).setCell ⟨w1.heap.size,4,none⟩ (.slice (some ⟨w9.heap.size,0,none⟩) 2 2)) :=
        ((((((From.refl _ _).trans (From.set _ (fun h=>h.2 rfl) _)).trans (From.set _ (fun h=>h.2 rfl) _)).trans (From.set _ (fun h=>h.2 rfl) _)).trans (From.set _ (fun h=>h.2 rfl) _)).trans (From.set _ (fun h=>h.2 rfl) _))
       refine .inl ⟨l',(by repeat (with_reducible first | exact hr4 | refine PrS.alloc ?_ _ | refine PrS.set ?_ (show B < w1.heap.size by omega) _)),⟨by have:=hsuf.len;omega,by omega⟩,?_,Lib.hid (by rw [HOK.out k l' rfl,← hs4];rw [HTX.out];rfl)⟩
       refine good2 (G:=w9.heap.size) ⟨by omega,by omega⟩ (by have h:=new_at (((((w9.setCell ⟨w1.heap.size,0,none⟩ (.string (hd l).text)).setCell ⟨w1.heap.size,1,none⟩ (.string ⟨#[]⟩)).setCell ⟨w1.heap.size,2,none⟩ (.int .i64 0)).setCell ⟨w1.heap.size,3,none⟩ (.int .i64 (hd l).pos)).setCell ⟨w1.heap.size,4,none⟩ (.slice (some ⟨w9.heap.size,0,none⟩) 2 2)) (.cells #[.string X.op,.string X.name,.int .i64 X.n,.int .i64 X.pos,.slice X.a X.kids.len X.cap,.string U.op,.string U.name,.int .i64 U.n,.int .i64 U.pos,.slice U.a U.kids.len U.cap] 26);rw [set5_size] at h;exact h)
        ((HG9.out.from hfr).from (From.alloc _ _ _)) (((hg4.mono (fun b hb=>?_)).from hfr).from (From.alloc _ _ _))
       have hz:=HZ34.out
       exact ⟨by omega,by omega⟩
      | bad a e =>
       have hr4:PrS w9 B (.bad a e):=HO9.out
       exact .inr ⟨a,e,(by repeat (with_reducible first | exact hr4 | refine PrS.alloc ?_ _ | refine PrS.set ?_ (show B < w1.heap.size by omega) _)),HBAD.out a e rfl⟩
     case measure=>omega
    ·
     by_cases hw2:((wrd l).toList == (⟨#[92]⟩:ByteArray).toList)=true
     ·have hop:psg 5 (wrd l)=⟨#[109,105,110,117,115]⟩:=by rw [h5,if_neg hw0,if_neg hw1,if_pos hw2]
      have hopn:¬ ((psg 5 (wrd l)).toList == [])=true:=by rw [hop];decide +kernel
      have hkd:=word_kind hw2 (by decide +kernel)
      have hne:=ne_of_psg (by simpa using hopn)
      obtain ⟨rk',hq⟩:∃ rk',pPart g' false l.tail=rk':=⟨_,rfl⟩
      have HOK:RowKit.Hid (∀ k l',rk'=.ok k l'→r=pTermL g' (mkN ⟨#[109,105,110,117,115]⟩ emp0 0 (hd l).pos [X.strip,k]) l'):=Lib.hid (fun k l' h=>by rw [HE.out];conv=>{ lhs;unfold pTermL };rw [if_neg hopn,hq,h,hop])
      have HBAD:RowKit.Hid (∀ a e,rk'=.bad a e→r=.bad a e):=Lib.hid (fun a e h=>by rw [HE.out];unfold pTermL;rw [if_neg hopn,hq,h])
      have HSUF:RowKit.Hid (∀ k l',rk'=.ok k l'→Suf l' l):=Lib.hid (fun k l' h=>((suf_terms g').1 _ _ _ _ (hq.trans h)).trans (Suf.tail hne).e)
      have HKID:=Lib.hid (fun W (hr:PrS W B (.good l.tail))=>HIH.out g' (by omega) l.tail W B (by have:=(Suf.tail hne).len;omega) hr)
      simp only [hq] at HKID
      have hn0:((wrd l).toList == (⟨#[117,110,105,111,110]⟩:ByteArray).toList)=false:=by simpa using hw0
      have hn1:((wrd l).toList == (⟨#[105,110,116,101,114]⟩:ByteArray).toList)=false:=by simpa using hw1
      have HW:=Lib.hid hw2
      have HKD:=Lib.hid hkd
      have HWN0:=Lib.hid hn0
      have HWN1:=Lib.hid hn1
      clear hw0 hw1 hw2 hn0 hn1 hop hopn hkd HE hq hne h5
      go_wp2_with fail
      refine HNW.out.mono ?_
      rintro x w2 ⟨rfl,hb2⟩
      have HN2:=Lib.hid ((Below.heap_alloc _ (tokBox (hd l).kind (hd l).text (hd l).n (hd l).pos) _ (lt_heap ((hb2.block _ (lt_heap HN.out)).trans HN.out))).trans ((hb2.block _ (lt_heap HN.out)).trans HN.out))
      have HB2:=Lib.hid ((Below.heap_alloc _ (tokBox (hd l).kind (hd l).text (hd l).n (hd l).pos) _ (lt_heap ((hb2.block _ (lt_heap HB0.out)).trans HB0.out))).trans ((hb2.block _ (lt_heap HB0.out)).trans HB0.out))
      have HT2:=Lib.hid (new_at w2 (tokBox (hd l).kind (hd l).text (hd l).n (hd l).pos))
      have hbt:Below wr.heap.size wr (w2.alloc (tokBox (hd l).kind (hd l).text (hd l).n (hd l).pos)):=hb2.alloc hb2.size _
      have hzt:w1.heap.size < w2.heap.size:=lt_heap ((hb2.block _ (lt_heap HN.out)).trans HN.out)
      have HK2:=Lib.hid (HK.out.below hbt)
      have HG2:=Lib.hid (HG.out.from (From.below hbt))
      have HP2:=Lib.hid (HRD.out.below hbt)
      clear hb2 hbt HNW
      have HCS3:=Lib.hid (ris_no l ⟨#[117,110,105,111,110]⟩ (w2.alloc (tokBox (hd l).kind (hd l).text (hd l).n (hd l).pos)) B HWN0.out HP2.out)
      go_wp2_with fail
      refine HCS3.out.mono ?_
      rintro x w3 ⟨rfl,hb3⟩
      have HN3:=Lib.hid ((hb3.block _ (lt_heap HN2.out)).trans HN2.out)
      have HB3:=Lib.hid ((hb3.block _ (lt_heap HB2.out)).trans HB2.out)
      have HT3:=Lib.hid ((hb3.block _ (lt_heap HT2.out)).trans HT2.out)
      have HK3:=Lib.hid (HK2.out.below hb3)
      have HG3:=Lib.hid (HG2.out.from (From.below hb3))
      have HP3:=Lib.hid (HP2.out.below hb3)
      clear hb3 HCS3 HN2 HB2 HT2 HK2 HG2 HP2
      have HCS4:=Lib.hid (ris_no l ⟨#[105,110,116,101,114]⟩ w3 B HWN1.out HP3.out)
      go_wp2_with fail
      refine HCS4.out.mono ?_
      rintro x w4 ⟨rfl,hb4⟩
      have HN4:=Lib.hid ((hb4.block _ (lt_heap HN3.out)).trans HN3.out)
      have HB4:=Lib.hid ((hb4.block _ (lt_heap HB3.out)).trans HB3.out)
      have HT4:=Lib.hid ((hb4.block _ (lt_heap HT3.out)).trans HT3.out)
      have HK4:=Lib.hid (HK3.out.below hb4)
      have HG4:=Lib.hid (HG3.out.from (From.below hb4))
      have HP4:=Lib.hid (HP3.out.below hb4)
      clear hb4 HCS4 HN3 HB3 HT3 HK3 HG3 HP3
      have HCS5:=Lib.hid (ris_yes l ⟨#[92]⟩ w4 B (by decide +kernel) HW.out HP4.out)
      go_wp2_with fail
      refine HCS5.out.mono ?_
      rintro x w5 ⟨rfl,hb5⟩
      have HN5:=Lib.hid ((hb5.block _ (lt_heap HN4.out)).trans HN4.out)
      have HB5:=Lib.hid ((hb5.block _ (lt_heap HB4.out)).trans HB4.out)
      have HT5:=Lib.hid ((hb5.block _ (lt_heap HT4.out)).trans HT4.out)
      have HK5:=Lib.hid (HK4.out.below hb5)
      have HG5:=Lib.hid (HG4.out.from (From.below hb5))
      have HP5:=Lib.hid (HP4.out.below hb5)
      clear hb5 HCS5 HN4 HB4 HT4 HK4 HG4 HP4
      have HNX:=Lib.hid (rnext_g l w5 B HKD.out HP5.out)
      obtain ⟨⟨t0,t1,t2,t3⟩,_⟩:=tok_cells HT5.out
      go_wp2_with fail
      refine HNX.out.mono ?_
      rintro x w6 ⟨rfl,hk6,hr6⟩
      have HN6:=Lib.hid (hk6.blk HN5.out (by omega))
      have hzn:=lt_heap HN6.out
      have HB6:=Lib.hid (hk6.blk HB5.out (by omega))
      have HT6:=Lib.hid (hk6.blk HT5.out (by omega))
      have hztt:=lt_heap HT6.out
      have HK6:=Lib.hid (HK5.out.trans hk6)
      have HG6:=Lib.hid (HG5.out.from (hk6.from (fun h=>absurd h.1 (by omega))))
      have HC4:=Lib.hid (HKID.out w6.drew hr6.drew)
      clear hk6 hr6 HN5 HB5 HT5 HK5 HG5 HP5 HNX HKID t0 t1 t2 t3
      go_wp2_with fail
      refine wp_region_last 5 (fun W=>W.heap[w1.heap.size]? = some (.cells #[.string X.op,.string X.name,.int .i64 X.n,.int .i64 X.pos,.slice X.a X.kids.len X.cap] 26)∧W.heap[w2.heap.size]? = some (tokBox (hd l).kind (hd l).text (hd l).n (hd l).pos)) (by kernel_rfl) (by kernel_rfl) ⟨HN6.out,HT6.out⟩ ?_
      refine headsC_move _ _ rfl rfl ?_
      refine headsC_val _ (.pointer (some ⟨w2.heap.size,3,none⟩)) rfl (fun W hW=>by unfold execOp;simp [go_sem,Act.eval]) ?_
      refine headsC_val _ (.int .i64 (hd l).pos) rfl (fun W hW=>by have h:=tok_cells hW.2;unfold execOp;simp [go_sem,Act.eval,h]) ?_
      refine headsC_load _ _ _ rfl rfl w1.heap.size rfl _ _ _ _ (fun W h=>h.1) Tryd.underlying26 rfl (by kernel_rfl) ?_
      refine headsC_move _ _ rfl rfl ?_
      refine headsC_nil ?_
      show wpList _ _ (thenC _ _ _ _) _ _ _
      go_wp2_with fail
      refine HC4.out.mono ?_
      rintro x w9 ⟨U,rfl,hk9,ho9⟩
      have HN9:=Lib.hid ((kp_drew hk9).blk HN6.out (by omega))
      have hz4:=lt_heap HN9.out
      have HT9:=Lib.hid ((kp_drew hk9).blk HT6.out (by omega))
      have hz5:=lt_heap HT9.out
      have HB9:=Lib.hid ((kp_drew hk9).blk HB6.out (by omega))
      have HK9:=Lib.hid (HK6.out.trans (kp_drew hk9))
      have HG9:=Lib.hid (HG6.out.from ((kp_drew hk9).from (fun h=>absurd h.1 (by omega))))
      have HO9:=Lib.hid ho9
      have hz34:w1.heap.size < w6.drew.heap.size:=lt_heap HN6.out
      have HZ34:=Lib.hid hz34
      clear hk9 ho9 HC4 HK6 HG6 HB6 HN6 HT6 hz34
      go_wp2_with fail
      refine ⟨fun _=>⟨HN9.out,HT9.out⟩,?_⟩
      show wpList _ _ (thenC _ _ _ _) _ _ _
      go_wp2_with fail
      refine ⟨fun _=>⟨(Below.heap_alloc _ _ _ hz4).trans HN9.out,(Below.heap_alloc _ _ _ hz5).trans HT9.out⟩,?_⟩
      show wpList _ _ (thenC _ _ _ _) _ _ _
      go_wp2_with fail
      refine ⟨fun _=>⟨(Below.heap_alloc _ _ _ hz4).trans HN9.out,(Below.heap_alloc _ _ _ hz5).trans HT9.out⟩,?_⟩
      show wpList _ _ (thenC _ _ _ _) _ _ _
      obtain ⟨n0,n1,n2,n3,n4⟩:=box_cells HN9.out
      obtain ⟨q0,q1,q2,q4,q5⟩:=box_frozen HN9.out
      go_wp2_with fail
      refine ⟨fun h=>(by cases h),NoPanic.normal ?_⟩
      go_wp2_with fail
      go_roundg g'
      case rel =>
       refine ⟨⟨⟨#[109,105,110,117,115]⟩,⟨#[]⟩,0,(hd l).pos,some ⟨w9.heap.size,0,none⟩,2,.cons X.op X.name X.n X.pos X.a X.cap X.kids (.cons U.op U.name U.n U.pos U.a U.cap U.kids .nil)⟩,Lib.hid ((Below.heap_alloc _ _ _ (by simp;omega)).trans (node_set HN9.out _ _ _ _ _ _ _)),Lib.hid ((Below.heap_alloc _ _ _ (by simp;omega)).trans (node_set_other HB9.out (by omega) _ _ _ _ _)),
        Lib.hid (by repeat (with_reducible first | exact HK9.out | refine Kp.alloc ?_ _ | refine Kp.set ?_ (show w.heap.size≤w1.heap.size by omega) _)),?_⟩
       cases rk' with
       | ok k l' =>
        obtain ⟨hr4,hg4,hs4⟩:=HO9.out
        have hsuf:=HSUF.out k l' rfl
        have hfr:From (fun b=>w.heap.size+1≤b∧b≠w1.heap.size) w9 (((((w9.setCell ⟨w1.heap.size,0,none⟩ (.string ⟨#[109,105,110,117,115]⟩)).setCell ⟨w1.heap.size,1,none⟩ (.string ⟨#[]⟩)).setCell ⟨w1.heap.size,2,none⟩ (.int .i64 0)).setCell ⟨w1.heap.size,3,none⟩ (.int .i64 (hd l).pos)).setCell ⟨w1.heap.size,4,none⟩ (.slice (some ⟨w9.heap.size,0,none⟩) 2 2)) :=
         ((((((From.refl _ _).trans (From.set _ (fun h=>h.2 rfl) _)).trans (From.set _ (fun h=>h.2 rfl) _)).trans (From.set _ (fun h=>h.2 rfl) _)).trans (From.set _ (fun h=>h.2 rfl) _)).trans (From.set _ (fun h=>h.2 rfl) _))
        refine .inl ⟨l',(by repeat (with_reducible first | exact hr4 | refine PrS.alloc ?_ _ | refine PrS.set ?_ (show B < w1.heap.size by omega) _)),⟨by have:=hsuf.len;omega,by omega⟩,?_,Lib.hid (by rw [HOK.out k l' rfl,← hs4];rfl)⟩
        refine good2 (G:=w9.heap.size) ⟨by omega,by omega⟩ (by have h:=new_at (((((w9.setCell ⟨w1.heap.size,0,none⟩ (.string ⟨#[109,105,110,117,115]⟩)).setCell ⟨w1.heap.size,1,none⟩ (.string ⟨#[]⟩)).setCell ⟨w1.heap.size,2,none⟩ (.int .i64 0)).setCell ⟨w1.heap.size,3,none⟩ (.int .i64 (hd l).pos)).setCell ⟨w1.heap.size,4,none⟩ (.slice (some ⟨w9.heap.size,0,none⟩) 2 2)) (.cells #[.string X.op,.string X.name,.int .i64 X.n,.int .i64 X.pos,.slice X.a X.kids.len X.cap,.string U.op,.string U.name,.int .i64 U.n,.int .i64 U.pos,.slice U.a U.kids.len U.cap] 26);rw [set5_size] at h;exact h)
         ((HG9.out.from hfr).from (From.alloc _ _ _)) (((hg4.mono (fun b hb=>?_)).from hfr).from (From.alloc _ _ _))
        have hz:=HZ34.out
        exact ⟨by omega,by omega⟩
       | bad a e =>
        have hr4:PrS w9 B (.bad a e):=HO9.out
        exact .inr ⟨a,e,(by repeat (with_reducible first | exact hr4 | refine PrS.alloc ?_ _ | refine PrS.set ?_ (show B < w1.heap.size by omega) _)),HBAD.out a e rfl⟩
      case measure=>omega
     ·
      have HRE:=Lib.hid (show r=.ok X.strip l from by rw [HE.out];unfold pTermL;rw [h5,if_neg hw0,if_neg hw1,if_neg hw2,if_pos (by decide +kernel)])
      have HWN0:=Lib.hid (show ((wrd l).toList == (⟨#[117,110,105,111,110]⟩:ByteArray).toList)=false by simpa using hw0)
      have HWN1:=Lib.hid (show ((wrd l).toList == (⟨#[105,110,116,101,114]⟩:ByteArray).toList)=false by simpa using hw1)
      have HWN2:=Lib.hid (show ((wrd l).toList == (⟨#[92]⟩:ByteArray).toList)=false by simpa using hw2)
      clear hw0 hw1 hw2 HE h5
      go_wp2_with fail
      refine HNW.out.mono ?_
      rintro x w2 ⟨rfl,hb2⟩
      have HN2:=Lib.hid ((Below.heap_alloc _ (tokBox (hd l).kind (hd l).text (hd l).n (hd l).pos) _ (lt_heap ((hb2.block _ (lt_heap HN.out)).trans HN.out))).trans ((hb2.block _ (lt_heap HN.out)).trans HN.out))
      have HB2:=Lib.hid ((Below.heap_alloc _ (tokBox (hd l).kind (hd l).text (hd l).n (hd l).pos) _ (lt_heap ((hb2.block _ (lt_heap HB0.out)).trans HB0.out))).trans ((hb2.block _ (lt_heap HB0.out)).trans HB0.out))
      have HT2:=Lib.hid (new_at w2 (tokBox (hd l).kind (hd l).text (hd l).n (hd l).pos))
      have hbt:Below wr.heap.size wr (w2.alloc (tokBox (hd l).kind (hd l).text (hd l).n (hd l).pos)):=hb2.alloc hb2.size _
      have hzt:w1.heap.size < w2.heap.size:=lt_heap ((hb2.block _ (lt_heap HN.out)).trans HN.out)
      have HK2:=Lib.hid (HK.out.below hbt)
      have HG2:=Lib.hid (HG.out.from (From.below hbt))
      have HP2:=Lib.hid (HRD.out.below hbt)
      clear hb2 hbt HNW
      have HCS3:=Lib.hid (ris_no l ⟨#[117,110,105,111,110]⟩ (w2.alloc (tokBox (hd l).kind (hd l).text (hd l).n (hd l).pos)) B HWN0.out HP2.out)
      go_wp2_with fail
      refine HCS3.out.mono ?_
      rintro x w3 ⟨rfl,hb3⟩
      have HN3:=Lib.hid ((hb3.block _ (lt_heap HN2.out)).trans HN2.out)
      have HB3:=Lib.hid ((hb3.block _ (lt_heap HB2.out)).trans HB2.out)
      have HT3:=Lib.hid ((hb3.block _ (lt_heap HT2.out)).trans HT2.out)
      have HK3:=Lib.hid (HK2.out.below hb3)
      have HG3:=Lib.hid (HG2.out.from (From.below hb3))
      have HP3:=Lib.hid (HP2.out.below hb3)
      clear hb3 HCS3 HN2 HB2 HT2 HK2 HG2 HP2
      have HCS4:=Lib.hid (ris_no l ⟨#[105,110,116,101,114]⟩ w3 B HWN1.out HP3.out)
      go_wp2_with fail
      refine HCS4.out.mono ?_
      rintro x w4 ⟨rfl,hb4⟩
      have HN4:=Lib.hid ((hb4.block _ (lt_heap HN3.out)).trans HN3.out)
      have HB4:=Lib.hid ((hb4.block _ (lt_heap HB3.out)).trans HB3.out)
      have HT4:=Lib.hid ((hb4.block _ (lt_heap HT3.out)).trans HT3.out)
      have HK4:=Lib.hid (HK3.out.below hb4)
      have HG4:=Lib.hid (HG3.out.from (From.below hb4))
      have HP4:=Lib.hid (HP3.out.below hb4)
      clear hb4 HCS4 HN3 HB3 HT3 HK3 HG3 HP3
      have HCS5:=Lib.hid (ris_no l ⟨#[92]⟩ w4 B HWN2.out HP4.out)
      go_wp2_with fail
      refine HCS5.out.mono ?_
      rintro x w5 ⟨rfl,hb5⟩
      have HN5:=Lib.hid ((hb5.block _ (lt_heap HN4.out)).trans HN4.out)
      have HB5:=Lib.hid ((hb5.block _ (lt_heap HB4.out)).trans HB4.out)
      have HT5:=Lib.hid ((hb5.block _ (lt_heap HT4.out)).trans HT4.out)
      have HK5:=Lib.hid (HK4.out.below hb5)
      have HG5:=Lib.hid (HG4.out.from (From.below hb5))
      have HP5:=Lib.hid (HP4.out.below hb5)
      clear hb5 HCS5 HN4 HB4 HT4 HK4 HG4 HP4
      obtain ⟨n0,n1,n2,n3,n4⟩:=box_cells HN5.out
      obtain ⟨r0,r1,r2,r3,r4⟩:=box_cells HB5.out
      obtain ⟨q0,q1,q2,q3,q4⟩:=box_frozen HB5.out
      go_wp2_with fail
      refine ret_node (B:=w.heap.size) X.op X.name X.n X.pos X.a X.kids.len X.cap Tryd.results178 rfl rfl (node_set HB5.out _ _ _ _ _ _ _) ⟨X,rfl,?_,?_⟩
      ·exact (by repeat (with_reducible first | exact HK5.out | refine Kp.set ?_ (Nat.le_refl _) _))
      ·rw [HRE.out]
       refine ⟨(by repeat (with_reducible first | exact HP5.out | refine PrS.set ?_ hB _)),?_,rfl⟩
       refine Nd.Good.mono (S:=fun b=>w.heap.size+1≤b∧b≠w1.heap.size) ?_ (fun b hb=>by omega)
       exact HG5.out.from ((((((From.refl _ _).trans (From.set _ (fun h=>absurd h.1 (by simp)) _)).trans (From.set _ (fun h=>absurd h.1 (by simp)) _)).trans (From.set _ (fun h=>absurd h.1 (by simp)) _)).trans (From.set _ (fun h=>absurd h.1 (by simp)) _)).trans (From.set _ (fun h=>absurd h.1 (by simp)) _))
  ·obtain ⟨z2,hz0⟩:=hrd.err_b
   have hBr:=hrd.lt
   have HRE:=Lib.hid hre
   have HRD:=Lib.hid hrd
   clear hre hrd
   obtain ⟨n0,n1,n2,n3,n4⟩:=box_cells HN.out
   obtain ⟨r0,r1,r2,r3,r4⟩:=box_cells HB0.out
   obtain ⟨q0,q1,q2,q3,q4⟩:=box_frozen HB0.out
   go_wp2_with fail
   refine ret_node (B:=w.heap.size) X.op X.name X.n X.pos X.a X.kids.len X.cap Tryd.results178 rfl rfl (node_set HB0.out _ _ _ _ _ _ _) ⟨X,rfl,?_,?_⟩
   ·exact (by repeat (with_reducible first | exact HK.out | refine Kp.set ?_ (Nat.le_refl _) _))
   ·rw [HRE.out]
    show PrS _ B (.bad a e)
    exact (by repeat (with_reducible first | exact HRD.out | refine PrS.set ?_ hB _))
end Go.Proofs.YtmlmjopfbohglaaDoor
