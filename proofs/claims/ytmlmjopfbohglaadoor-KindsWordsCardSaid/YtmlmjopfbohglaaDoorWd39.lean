/- Parts of the proof: RpS PBoxR. -/
import Derived.Test.YtmlmjopfbohglaaDoorWd38
namespace Go.Proofs.YtmlmjopfbohglaaDoor
open Go.RowKit
set_option maxRecDepth 100000 in
set_option maxHeartbeats 16000000 in
theorem rparams_all (f:Nat) (l:List Tok) (w:World) (B:Nat) (hneed:l.length≤f) (hm:l.length≤1000000) (hS:PrS w B (.good l)) :
  Calls Tryd.prog 60 #[.pointer (some ⟨B,0,none⟩)] w (PostD B w (l.length+1) (pPar (f+1) l)):=by
 obtain ⟨i0,hi,hz0,hz1,hz2⟩:=info_parts Tryd.infoDeclR
 have HIF:=Lib.hid (And.intro hi (And.intro hz0 (And.intro hz1 hz2)))
 clear hi hz0 hz1 hz2
 have e44:(⟨#[44]⟩:ByteArray).toList=[44]:=by decide +kernel
 have eend:(⟨#[41]⟩:ByteArray).toList=[41]:=by decide +kernel
 have hc4:=cellsTok
 have q1:=tok_f1
 have q3:=tok_f3
 have hB:=hS.lt
 have HS:=Lib.hid hS
 clear hS
 rcases bool_two ((wrd l).toList == [41]) with hw | hw
 ·have hr:pPar (f+1) l=.ok [] l.tail:=by unfold pPar;rw [if_pos hw]
  rw [hr]
  have HC:=Lib.hid (rtake_yes l ⟨#[41]⟩ w B (by decide +kernel) (by rw [eend];exact hw) HS.out)
  clear hr hw
  go_enter Tryd.func60,Tryd.ntmps60
  go_wp2_with fail
  refine HC.out.mono ?_
  rintro e w1 ⟨rfl,hk1,hr1⟩
  go_wp2_with fail
  go_ret
  exact ⟨[],none,0,rfl,World.ownsRow_nil _ _ _ _,Nat.zero_le _,hk1,hr1,rfl⟩
 ·have HC:=Lib.hid (rtake_no l ⟨#[41]⟩ w B (by rw [eend];exact hw) HS.out)
  generalize hr:pPar (f+1) l=r
  have HRE0:=Lib.hid (show r=pParL (f+1) [] l from by rw [← hr];unfold pPar;rw [if_neg (by rw [hw];decide)])
  clear hr hw HS
  go_enter Tryd.func60,Tryd.ntmps60
  go_wp2_with fail
  refine HC.out.mono ?_
  rintro e w1 ⟨rfl,hk1,hr1⟩
  have HK1:=Lib.hid hk1
  have HR1:=Lib.hid hr1
  clear hk1 hr1 HC
  go_wp2_with fail
  go_loopg [3] (f+1) (fun gf v3 wx=>∃ (ds:List Dc) (a:Option Addr) (cap:Nat),v3=.slice a ds.length cap∧RowKit.Hid (wx.ownsRow w.heap.size 55 3 (.slice a ds.length cap) ds.length (flatD ds))∧RowKit.Hid (Kp B w wx) ∧
   ∃ lx,PrS wx B (.good lx)∧(lx.length+1≤gf∧ds.length+lx.length≤l.length)∧RowKit.Hid (r=pParL gf ds lx))
  case atStart=>exact ⟨[],none,0,rfl,Lib.hid (World.ownsRow_nil _ _ _ _),HK1,l,HR1.out,⟨by omega,by show 0+_≤_;omega⟩,HRE0⟩
  case round =>
   clear HRE0 HK1 HR1
   obtain ⟨ds,a,cap,rfl,HOWN,HK,lx,hrd,⟨hneed2,hN⟩,HRE⟩:=hrel
   obtain ⟨g',rfl⟩:∃ g',gk=g'+1:=⟨gk - 1,by omega⟩
   have HRD:=Lib.hid hrd
   obtain ⟨z2,hlne⟩:=prs_err hrd
   have hzz:=HK.out.size
   have htx:=tail_len hlne
   have HCO:=Lib.hid (rord_var_g lx wr B hrd)
   clear hrd hlne
   have hu:r=(if decide (ordOf [118,97,114] lx < 0)=true then .bad (hd lx).pos 2 else if (ds.length == 6)=true then .bad (hd lx.tail).pos 2 else if ((hd lx.tail).kind == 1)=true then (if ((wrd lx.tail.tail).toList == [44])=true then pParL g' (ds ++ [⟨(hd lx.tail).text,ordOf [118,97,114] lx,(hd lx.tail).pos⟩]) lx.tail.tail.tail else if ((wrd lx.tail.tail).toList == [41])=true then .ok (ds ++ [⟨(hd lx.tail).text,ordOf [118,97,114] lx,(hd lx.tail).pos⟩]) lx.tail.tail.tail else .bad (hd lx.tail.tail).pos 2) else .bad (hd lx.tail).pos 2):=by
    rw [HRE.out]
    conv=>{ lhs;unfold pParL }
   have hkk:=@ord_kind lx
   generalize ordOf [118,97,114] lx=k at HCO hu hkk
   clear HRE
   rcases Int.lt_or_le k 0 with hk0 | hk0
   ·have HR2:=Lib.hid (show r=.bad (hd lx).pos 2 from by rw [hu,if_pos (by rw [decide_eq_true hk0])])
    clear hu hkk
    have HNW:=Lib.hid (fun W (h:PrS W B (.good lx))=>rnow_g lx W B h)
    have HFL:=Lib.hid (fun W (h:PrS W B (.good lx))=>rfail_g lx (hd lx).pos 2 W B rfl h)
    generalize hd lx=tk0 at HNW HFL HR2
    go_wp2_with fail
    refine HCO.out.mono ?_
    rintro e w1 ⟨rfl,hb1⟩
    have HC2:=Lib.hid (HNW.out w1 (HRD.out.below hb1))
    have HRA:=Lib.hid (HRD.out.below hb1)
    have HKA:=Lib.hid (HK.out.below hb1)
    have hownA:=HOWN.out.kept (Kp.of_below (B:=B) hb1) (.inr (fun h=>by have:=(HOWN.out.lt _ h).1;omega))
    have HOWNA:=Lib.hid hownA
    clear hb1 HCO hownA
    go_wp2_with fail
    refine HC2.out.mono ?_
    rintro e w2 ⟨rfl,hb2⟩
    have HC3:=Lib.hid (HFL.out w2 (HRA.out.below hb2))
    have HKB:=Lib.hid (HKA.out.below hb2)
    have hownB:=HOWNA.out.kept (Kp.of_below (B:=B) hb2) (.inr (fun h=>by have:=(HOWNA.out.lt _ h).1;omega))
    have HOWNB:=Lib.hid hownB
    clear hb2 HC2 hownB HOWNA HKA HRA HNW HFL
    go_wp2_with fail
    refine HC3.out.mono ?_
    rintro e wc ⟨rfl,hkc,hrc⟩
    have HC4:=Lib.hid (rnext_b wc B tk0.pos 2 hrc)
    have hownC:=HOWNB.out.kept hkc (.inr (fun h=>by have:=(HOWNB.out.lt _ h).1;omega))
    have HOWNC:=Lib.hid hownC
    have HKC:=Lib.hid (HKB.out.trans hkc)
    clear hkc hrc HC3 hownC HOWNB HKB
    go_wp2_with fail
    refine HC4.out.mono ?_
    rintro e wd ⟨rfl,hkd,hrd⟩
    have hownD:=HOWNC.out.kept hkd (.inr (fun h=>by have:=(HOWNC.out.lt _ h).1;omega))
    have HOWND:=Lib.hid hownD
    have HKD:=Lib.hid (HKC.out.trans hkd)
    have HRD2:=Lib.hid hrd
    clear hkd hrd HC4 hownD HOWNC HKC
    generalize tk0.pos=bp at HRD2 HR2
    by_cases h6:ds.length=6
    ·have h6i:((ds.length:Int) == 6)=true:=by rw [beq_iff_eq];omega
     clear h6
     have HNB:=Lib.hid (rnow_b wd B bp 2 HRD2.out)
     go_wp2_with fail
     refine HNB.out.mono ?_
     rintro e we ⟨rfl,hbe⟩
     have HFB:=Lib.hid (rfail_b 0 2 bp 2 we B (HRD2.out.below hbe))
     have HKE:=Lib.hid (HKD.out.below hbe)
     have hownE:=HOWND.out.kept (Kp.of_below (B:=B) hbe) (.inr (fun h=>by have:=(HOWND.out.lt _ h).1;omega))
     have HOWNE:=Lib.hid hownE
     clear hbe HNB hownE
     go_wp2_with fail
     refine HFB.out.mono ?_
     rintro e wf ⟨rfl,hkf,hrf⟩
     have hownF:=HOWNE.out.kept hkf (.inr (fun h=>by have:=(HOWNE.out.lt _ h).1;omega))
     have HOWNF:=Lib.hid hownF
     have HKF:=Lib.hid (HKE.out.trans hkf)
     have HCN:=Lib.hid (rname_b wf B bp 2 hrf)
     clear hkf hrf HFB hownF HOWNE HKE
     go_wp2_with fail
     refine HCN.out.mono ?_
     rintro e w3 ⟨rfl,hk3,hr3⟩
     have HT:=Lib.hid (new_at w3 (tokBox 0 ⟨#[]⟩ 0 0))
     obtain ⟨⟨t0,t1,t2,t3⟩,_⟩:=tok_cells HT.out
     have hown3:=HOWNF.out.kept hk3 (.inr (fun h=>by have:=(HOWNF.out.lt _ h).1;omega))
     have hlt3:=hown3.lt
     have HOWN3:=Lib.hid (hown3.alloc (tokBox 0 ⟨#[]⟩ 0 0))
     have HLT:=Lib.hid hlt3
     have HK3:=Lib.hid ((HKF.out.trans hk3).alloc (tokBox 0 ⟨#[]⟩ 0 0))
     have HR3:=Lib.hid (hr3.alloc (tokBox 0 ⟨#[]⟩ 0 0))
     have hz3:=(HKF.out.trans hk3).size
     clear hk3 hr3 hown3 hlt3
     go_wp2_with (at_builtin;refine wpList_append_own_at _ rfl _ _ 22 rfl w.heap.size 55 i0 (.agg #[.string ⟨#[]⟩,.int .i64 0,.int .i64 0]) 3 32 Tryd.underlying22 HIF.out.1 HIF.out.2.1 HIF.out.2.2.1 HIF.out.2.2.2 rfl (by decide) _ _ _ rfl (HOWN3.out.alloc _) ⟨w3.heap.size+1,0,none⟩ 1 1 [.string ⟨#[]⟩,.int .i64 k,.int .i64 0] rfl rfl (by have h:=cell_three_new (w3.alloc (tokBox 0 ⟨#[]⟩ 0 0)) (.string ⟨#[]⟩) (.int .i64 k) (.int .i64 0) 55;rw [alloc_size] at h;exact h) (fun x hx=>by simp at hx;rcases hx with rfl | rfl | rfl <;> rfl) (by unfold maxLen;omega) (by omega) (by simp;omega) ?_;intro v' w9 hown9 hgrow9 _ hlie9)
     obtain ⟨a',cap',rfl⟩:=own_form hown9
     have hblk:∀ j,(Value.slice a ds.length cap).ownBlock=some j→w.heap.size≤j∧B < j:=fun j hj=>by have:=(HLT.out j hj).1;omega
     have HOWN9:RowKit.Hid (w9.ownsRow w.heap.size 55 3 (.slice a' (ds ++ [(⟨⟨#[]⟩,k,0⟩:Dc)]).length cap') (ds ++ [(⟨⟨#[]⟩,k,0⟩:Dc)]).length (flatD (ds ++ [(⟨⟨#[]⟩,k,0⟩:Dc)]))):=Lib.hid (by rw [flatD_append,List.length_append];exact hown9)
     have HK9:=Lib.hid (kp_append (HK3.out.alloc _) hgrow9 (fun j hj=>(hblk j hj).1))
     have HR9:=Lib.hid (prs_app (HR3.out.alloc _) hgrow9 (fun j hj=>(hblk j hj).2))
     have hl9:(ds ++ [(⟨⟨#[]⟩,k,0⟩:Dc)]).length=ds.length+1:=by simp
     clear hown9 hgrow9 hlie9 HOWN3 HLT HK3 HR3 hblk HT t0 t1 t2 t3 HOWN HK HRD HIF
     generalize (ds ++ [(⟨⟨#[]⟩,k,0⟩:Dc)])=ds2 at HOWN9 hl9 ⊢
     have HC6:=Lib.hid (rtake_b ⟨#[44]⟩ w9 B bp 2 HR9.out)
     go_wp2_with fail
     refine HC6.out.mono ?_
     rintro e w6 ⟨rfl,hk6,hr6⟩
     have HC7:=Lib.hid (rmust_b ⟨#[41]⟩ w6 B bp 2 hr6)
     have hown6:=HOWN9.out.kept hk6 (.inr (fun h=>by have:=(HOWN9.out.lt _ h).1;omega))
     have HOWN6:=Lib.hid hown6
     have HK6:=Lib.hid (HK9.out.trans hk6)
     clear hk6 hr6 HC6 hown6 HOWN9 HK9 HR9
     go_wp2_with fail
     refine HC7.out.mono ?_
     rintro e w7 ⟨rfl,hk7,hr7⟩
     have hown7:=HOWN6.out.kept hk7 (.inr (fun h=>by have:=(HOWN6.out.lt _ h).1;omega))
     have HOWN7:=Lib.hid hown7
     have HK7:=Lib.hid (HK6.out.trans hk7)
     have HR7:=Lib.hid hr7
     clear hk7 hr7 HC7 hown7 HOWN6 HK6
     go_wp2_with fail
     go_ret
     refine ⟨ds2,a',cap',by rw [hl9];rfl,HOWN7.out,by omega,HK7.out,?_⟩
     rw [HR2.out]
     exact HR7.out
    ·have h6i:((ds.length:Int) == 6)=false:=by rw [beq_eq_false_iff_ne];omega
     clear h6
     have HCN:=Lib.hid (rname_b wd B bp 2 HRD2.out)
     go_wp2_with fail
     refine HCN.out.mono ?_
     rintro e w3 ⟨rfl,hk3,hr3⟩
     have HT:=Lib.hid (new_at w3 (tokBox 0 ⟨#[]⟩ 0 0))
     obtain ⟨⟨t0,t1,t2,t3⟩,_⟩:=tok_cells HT.out
     have hown3:=HOWND.out.kept hk3 (.inr (fun h=>by have:=(HOWND.out.lt _ h).1;omega))
     have hlt3:=hown3.lt
     have HOWN3:=Lib.hid (hown3.alloc (tokBox 0 ⟨#[]⟩ 0 0))
     have HLT:=Lib.hid hlt3
     have HK3:=Lib.hid ((HKD.out.trans hk3).alloc (tokBox 0 ⟨#[]⟩ 0 0))
     have HR3:=Lib.hid (hr3.alloc (tokBox 0 ⟨#[]⟩ 0 0))
     have hz3:=(HKD.out.trans hk3).size
     clear hk3 hr3 hown3 hlt3
     go_wp2_with (at_builtin;refine wpList_append_own_at _ rfl _ _ 22 rfl w.heap.size 55 i0 (.agg #[.string ⟨#[]⟩,.int .i64 0,.int .i64 0]) 3 32 Tryd.underlying22 HIF.out.1 HIF.out.2.1 HIF.out.2.2.1 HIF.out.2.2.2 rfl (by decide) _ _ _ rfl (HOWN3.out.alloc _) ⟨w3.heap.size+1,0,none⟩ 1 1 [.string ⟨#[]⟩,.int .i64 k,.int .i64 0] rfl rfl (by have h:=cell_three_new (w3.alloc (tokBox 0 ⟨#[]⟩ 0 0)) (.string ⟨#[]⟩) (.int .i64 k) (.int .i64 0) 55;rw [alloc_size] at h;exact h) (fun x hx=>by simp at hx;rcases hx with rfl | rfl | rfl <;> rfl) (by unfold maxLen;omega) (by omega) (by simp;omega) ?_;intro v' w9 hown9 hgrow9 _ hlie9)
     obtain ⟨a',cap',rfl⟩:=own_form hown9
     have hblk:∀ j,(Value.slice a ds.length cap).ownBlock=some j→w.heap.size≤j∧B < j:=fun j hj=>by have:=(HLT.out j hj).1;omega
     have HOWN9:RowKit.Hid (w9.ownsRow w.heap.size 55 3 (.slice a' (ds ++ [(⟨⟨#[]⟩,k,0⟩:Dc)]).length cap') (ds ++ [(⟨⟨#[]⟩,k,0⟩:Dc)]).length (flatD (ds ++ [(⟨⟨#[]⟩,k,0⟩:Dc)]))):=Lib.hid (by rw [flatD_append,List.length_append];exact hown9)
     have HK9:=Lib.hid (kp_append (HK3.out.alloc _) hgrow9 (fun j hj=>(hblk j hj).1))
     have HR9:=Lib.hid (prs_app (HR3.out.alloc _) hgrow9 (fun j hj=>(hblk j hj).2))
     have hl9:(ds ++ [(⟨⟨#[]⟩,k,0⟩:Dc)]).length=ds.length+1:=by simp
     clear hown9 hgrow9 hlie9 HOWN3 HLT HK3 HR3 hblk HT t0 t1 t2 t3 HOWN HK HRD HIF
     generalize (ds ++ [(⟨⟨#[]⟩,k,0⟩:Dc)])=ds2 at HOWN9 hl9 ⊢
     have HC6:=Lib.hid (rtake_b ⟨#[44]⟩ w9 B bp 2 HR9.out)
     go_wp2_with fail
     refine HC6.out.mono ?_
     rintro e w6 ⟨rfl,hk6,hr6⟩
     have HC7:=Lib.hid (rmust_b ⟨#[41]⟩ w6 B bp 2 hr6)
     have hown6:=HOWN9.out.kept hk6 (.inr (fun h=>by have:=(HOWN9.out.lt _ h).1;omega))
     have HOWN6:=Lib.hid hown6
     have HK6:=Lib.hid (HK9.out.trans hk6)
     clear hk6 hr6 HC6 hown6 HOWN9 HK9 HR9
     go_wp2_with fail
     refine HC7.out.mono ?_
     rintro e w7 ⟨rfl,hk7,hr7⟩
     have hown7:=HOWN6.out.kept hk7 (.inr (fun h=>by have:=(HOWN6.out.lt _ h).1;omega))
     have HOWN7:=Lib.hid hown7
     have HK7:=Lib.hid (HK6.out.trans hk7)
     have HR7:=Lib.hid hr7
     clear hk7 hr7 HC7 hown7 HOWN6 HK6
     go_wp2_with fail
     go_ret
     refine ⟨ds2,a',cap',by rw [hl9];rfl,HOWN7.out,by omega,HK7.out,?_⟩
     rw [HR2.out]
     exact HR7.out
   ·have hk0':¬ k < 0:=by omega
    rw [if_neg (by rw [decide_eq_false hk0'];decide)] at hu
    have HNX:=Lib.hid (fun W (h:PrS W B (.good lx))=>rnext_g lx W B (hkk hk0) h)
    have HU:=Lib.hid hu
    clear hu hkk hk0
    generalize hd lx=tk0 at HNX
    go_wp2_with fail
    refine HCO.out.mono ?_
    rintro e w1 ⟨rfl,hb1⟩
    have HC4:=Lib.hid (HNX.out w1 (HRD.out.below hb1))
    have HKA:=Lib.hid (HK.out.below hb1)
    have hownA:=HOWN.out.kept (Kp.of_below (B:=B) hb1) (.inr (fun h=>by have:=(HOWN.out.lt _ h).1;omega))
    have HOWNA:=Lib.hid hownA
    clear hb1 HCO hownA HNX
    go_wp2_with fail
    refine HC4.out.mono ?_
    rintro e wd ⟨rfl,hkd,hrd⟩
    have hownD:=HOWNA.out.kept hkd (.inr (fun h=>by have:=(HOWNA.out.lt _ h).1;omega))
    have HOWND:=Lib.hid hownD
    have HKD:=Lib.hid (HKA.out.trans hkd)
    have HRD2:=Lib.hid hrd
    clear hkd hrd HC4 hownD HOWNA HKA
    generalize lx.tail=ly at HU HRD2 htx ⊢
    by_cases h6:ds.length=6
    ·have h6i:((ds.length:Int) == 6)=true:=by rw [beq_iff_eq];omega
     have HR2:=Lib.hid (show r=.bad (hd ly).pos 2 from by rw [HU.out,if_pos (by rw [h6];rfl)])
     have HNB:=Lib.hid (rnow_g ly wd B HRD2.out)
     have HFL:=Lib.hid (fun W (h:PrS W B (.good ly))=>rfail_g ly (hd ly).pos 2 W B rfl h)
     clear HU h6
     generalize hd ly=tk1 at HNB HFL HR2
     go_wp2_with fail
     refine HNB.out.mono ?_
     rintro e we ⟨rfl,hbe⟩
     have HFB:=Lib.hid (HFL.out we (HRD2.out.below hbe))
     have HKE:=Lib.hid (HKD.out.below hbe)
     have hownE:=HOWND.out.kept (Kp.of_below (B:=B) hbe) (.inr (fun h=>by have:=(HOWND.out.lt _ h).1;omega))
     have HOWNE:=Lib.hid hownE
     clear hbe HNB hownE HFL
     go_wp2_with fail
     refine HFB.out.mono ?_
     rintro e wf ⟨rfl,hkf,hrf⟩
     have hownF:=HOWNE.out.kept hkf (.inr (fun h=>by have:=(HOWNE.out.lt _ h).1;omega))
     have HOWNF:=Lib.hid hownF
     have HKF:=Lib.hid (HKE.out.trans hkf)
     generalize tk1.pos=bp at HR2 hrf
     have HCN:=Lib.hid (rname_b wf B bp 2 hrf)
     clear hkf hrf HFB hownF HOWNE HKE
     go_wp2_with fail
     refine HCN.out.mono ?_
     rintro e w3 ⟨rfl,hk3,hr3⟩
     have HT:=Lib.hid (new_at w3 (tokBox 0 ⟨#[]⟩ 0 0))
     obtain ⟨⟨t0,t1,t2,t3⟩,_⟩:=tok_cells HT.out
     have hown3:=HOWNF.out.kept hk3 (.inr (fun h=>by have:=(HOWNF.out.lt _ h).1;omega))
     have hlt3:=hown3.lt
     have HOWN3:=Lib.hid (hown3.alloc (tokBox 0 ⟨#[]⟩ 0 0))
     have HLT:=Lib.hid hlt3
     have HK3:=Lib.hid ((HKF.out.trans hk3).alloc (tokBox 0 ⟨#[]⟩ 0 0))
     have HR3:=Lib.hid (hr3.alloc (tokBox 0 ⟨#[]⟩ 0 0))
     have hz3:=(HKF.out.trans hk3).size
     clear hk3 hr3 hown3 hlt3
     go_wp2_with (at_builtin;refine wpList_append_own_at _ rfl _ _ 22 rfl w.heap.size 55 i0 (.agg #[.string ⟨#[]⟩,.int .i64 0,.int .i64 0]) 3 32 Tryd.underlying22 HIF.out.1 HIF.out.2.1 HIF.out.2.2.1 HIF.out.2.2.2 rfl (by decide) _ _ _ rfl (HOWN3.out.alloc _) ⟨w3.heap.size+1,0,none⟩ 1 1 [.string ⟨#[]⟩,.int .i64 k,.int .i64 0] rfl rfl (by have h:=cell_three_new (w3.alloc (tokBox 0 ⟨#[]⟩ 0 0)) (.string ⟨#[]⟩) (.int .i64 k) (.int .i64 0) 55;rw [alloc_size] at h;exact h) (fun x hx=>by simp at hx;rcases hx with rfl | rfl | rfl <;> rfl) (by unfold maxLen;omega) (by omega) (by simp;omega) ?_;intro v' w9 hown9 hgrow9 _ hlie9)
     obtain ⟨a',cap',rfl⟩:=own_form hown9
     have hblk:∀ j,(Value.slice a ds.length cap).ownBlock=some j→w.heap.size≤j∧B < j:=fun j hj=>by have:=(HLT.out j hj).1;omega
     have HOWN9:RowKit.Hid (w9.ownsRow w.heap.size 55 3 (.slice a' (ds ++ [(⟨⟨#[]⟩,k,0⟩:Dc)]).length cap') (ds ++ [(⟨⟨#[]⟩,k,0⟩:Dc)]).length (flatD (ds ++ [(⟨⟨#[]⟩,k,0⟩:Dc)]))):=Lib.hid (by rw [flatD_append,List.length_append];exact hown9)
     have HK9:=Lib.hid (kp_append (HK3.out.alloc _) hgrow9 (fun j hj=>(hblk j hj).1))
     have HR9:=Lib.hid (prs_app (HR3.out.alloc _) hgrow9 (fun j hj=>(hblk j hj).2))
     have hl9:(ds ++ [(⟨⟨#[]⟩,k,0⟩:Dc)]).length=ds.length+1:=by simp
     clear hown9 hgrow9 hlie9 HOWN3 HLT HK3 HR3 hblk HT t0 t1 t2 t3 HOWN HK HRD HIF
     generalize (ds ++ [(⟨⟨#[]⟩,k,0⟩:Dc)])=ds2 at HOWN9 hl9 ⊢
     have HC6:=Lib.hid (rtake_b ⟨#[44]⟩ w9 B bp 2 HR9.out)
     go_wp2_with fail
     refine HC6.out.mono ?_
     rintro e w6 ⟨rfl,hk6,hr6⟩
     have HC7:=Lib.hid (rmust_b ⟨#[41]⟩ w6 B bp 2 hr6)
     have hown6:=HOWN9.out.kept hk6 (.inr (fun h=>by have:=(HOWN9.out.lt _ h).1;omega))
     have HOWN6:=Lib.hid hown6
     have HK6:=Lib.hid (HK9.out.trans hk6)
     clear hk6 hr6 HC6 hown6 HOWN9 HK9 HR9
     go_wp2_with fail
     refine HC7.out.mono ?_
     rintro e w7 ⟨rfl,hk7,hr7⟩
     have hown7:=HOWN6.out.kept hk7 (.inr (fun h=>by have:=(HOWN6.out.lt _ h).1;omega))
     have HOWN7:=Lib.hid hown7
     have HK7:=Lib.hid (HK6.out.trans hk7)
     have HR7:=Lib.hid hr7
     clear hk7 hr7 HC7 hown7 HOWN6 HK6
     go_wp2_with fail
     go_ret
     refine ⟨ds2,a',cap',by rw [hl9];rfl,HOWN7.out,by omega,HK7.out,?_⟩
     rw [HR2.out]
     exact HR7.out
    ·have h6i:((ds.length:Int) == 6)=false:=by rw [beq_eq_false_iff_ne];omega
     have hu2:=HU.out
     rw [if_neg (by rw [beq_iff_eq];exact h6)] at hu2
     clear HU h6
     rcases bool_two ((hd ly).kind == 1) with hkd | hkd
     ·have hne:=ne_kind hkd
      have hty:=tail_len hne
      have HCN:=Lib.hid (rname_yes ly wd B hkd HRD2.out)
      rw [if_pos hkd] at hu2
      have HU:=Lib.hid hu2
      clear hkd hne hu2
      generalize hd ly=tk at HU HCN
      go_wp2_with fail
      refine HCN.out.mono ?_
      rintro e w3 ⟨rfl,hk3,hr3⟩
      have HT:=Lib.hid (new_at w3 (tokBox tk.kind tk.text tk.n tk.pos))
      obtain ⟨⟨t0,t1,t2,t3⟩,_⟩:=tok_cells HT.out
      have hown3:=HOWND.out.kept hk3 (.inr (fun h=>by have:=(HOWND.out.lt _ h).1;omega))
      have hlt3:=hown3.lt
      have HOWN3:=Lib.hid (hown3.alloc (tokBox tk.kind tk.text tk.n tk.pos))
      have HLT:=Lib.hid hlt3
      have HK3:=Lib.hid ((HKD.out.trans hk3).alloc (tokBox tk.kind tk.text tk.n tk.pos))
      have HR3:=Lib.hid (hr3.alloc (tokBox tk.kind tk.text tk.n tk.pos))
      have hz3:=(HKD.out.trans hk3).size
      clear hk3 hr3 hown3 hlt3
      go_wp2_with (at_builtin;refine wpList_append_own_at _ rfl _ _ 22 rfl w.heap.size 55 i0 (.agg #[.string ⟨#[]⟩,.int .i64 0,.int .i64 0]) 3 32 Tryd.underlying22 HIF.out.1 HIF.out.2.1 HIF.out.2.2.1 HIF.out.2.2.2 rfl (by decide) _ _ _ rfl (HOWN3.out.alloc _) ⟨w3.heap.size+1,0,none⟩ 1 1 [.string tk.text,.int .i64 k,.int .i64 tk.pos] rfl rfl (by have h:=cell_three_new (w3.alloc (tokBox tk.kind tk.text tk.n tk.pos)) (.string tk.text) (.int .i64 k) (.int .i64 tk.pos) 55;rw [alloc_size] at h;exact h) (fun x hx=>by simp at hx;rcases hx with rfl | rfl | rfl <;> rfl) (by unfold maxLen;omega) (by omega) (by simp;omega) ?_;intro v' w9 hown9 hgrow9 _ hlie9)
      obtain ⟨a',cap',rfl⟩:=own_form hown9
      have hblk:∀ j,(Value.slice a ds.length cap).ownBlock=some j→w.heap.size≤j∧B < j:=fun j hj=>by have:=(HLT.out j hj).1;omega
      have HOWN9:RowKit.Hid (w9.ownsRow w.heap.size 55 3 (.slice a' (ds ++ [(⟨tk.text,k,tk.pos⟩:Dc)]).length cap') (ds ++ [(⟨tk.text,k,tk.pos⟩:Dc)]).length (flatD (ds ++ [(⟨tk.text,k,tk.pos⟩:Dc)]))):=Lib.hid (by rw [flatD_append,List.length_append];exact hown9)
      have HK9:=Lib.hid (kp_append (HK3.out.alloc _) hgrow9 (fun j hj=>(hblk j hj).1))
      have HR9:=Lib.hid (prs_app (HR3.out.alloc _) hgrow9 (fun j hj=>(hblk j hj).2))
      have hl9:(ds ++ [(⟨tk.text,k,tk.pos⟩:Dc)]).length=ds.length+1:=by simp
      clear hown9 hgrow9 hlie9 HOWN3 HLT HK3 HR3 hblk HT t0 t1 t2 t3 HOWN HK HRD HIF
      generalize (ds ++ [(⟨tk.text,k,tk.pos⟩:Dc)])=ds2 at HU HOWN9 hl9 ⊢
      rcases bool_two ((wrd ly.tail).toList == [44]) with hcm | hcm
      ·have hne2:=ne_of_wrd hcm
       have htx2:=tail_len hne2
       have HR2:=Lib.hid (show r=pParL g' ds2 ly.tail.tail from by rw [HU.out,if_pos hcm])
       have HC6:=Lib.hid (rtake_yes (ly.tail) ⟨#[44]⟩ w9 B (by decide +kernel) (by rw [e44];exact hcm) HR9.out)
       clear hcm hne2 HU
       go_wp2_with fail
       refine HC6.out.mono ?_
       rintro e w6 ⟨rfl,hk6,hr6⟩
       have hown6:=HOWN9.out.kept hk6 (.inr (fun h=>by have:=(HOWN9.out.lt _ h).1;omega))
       have HOWN6:=Lib.hid hown6
       have HK6:=Lib.hid (HK9.out.trans hk6)
       have HR6:=Lib.hid hr6
       clear hk6 hr6 HC6 hown6 HOWN9 HK9 HR9
       go_wp2_with fail
       go_roundg g'
       case rel=>exact ⟨ds2,a',cap',by rw [hl9],HOWN6,HK6,ly.tail.tail,HR6.out,⟨by omega,by omega⟩,HR2⟩
       case measure=>omega
      ·have HC6:=Lib.hid (rtake_no (ly.tail) ⟨#[44]⟩ w9 B (by rw [e44];exact hcm) HR9.out)
       rcases bool_two ((wrd ly.tail).toList == [41]) with hcl | hcl
       ·have HR2:=Lib.hid (show r=.ok ds2 (ly.tail).tail from by rw [HU.out,if_neg (by rw [hcm];decide),if_pos hcl])
        have HMU:=Lib.hid (fun W (h:PrS W B (.good (ly.tail)))=>rmust_yes (ly.tail) ⟨#[41]⟩ W B (by decide +kernel) (by rw [eend];exact hcl) h)
        clear hcm hcl HU
        go_wp2_with fail
        refine HC6.out.mono ?_
        rintro e w6 ⟨rfl,hk6,hr6⟩
        have HC7:=Lib.hid (HMU.out w6 hr6)
        have hown6:=HOWN9.out.kept hk6 (.inr (fun h=>by have:=(HOWN9.out.lt _ h).1;omega))
        have HOWN6:=Lib.hid hown6
        have HK6:=Lib.hid (HK9.out.trans hk6)
        clear hk6 hr6 HC6 hown6 HOWN9 HK9 HR9 HMU
        go_wp2_with fail
        refine HC7.out.mono ?_
        rintro e w7 ⟨rfl,hk7,hr7⟩
        have hown7:=HOWN6.out.kept hk7 (.inr (fun h=>by have:=(HOWN6.out.lt _ h).1;omega))
        have HOWN7:=Lib.hid hown7
        have HK7:=Lib.hid (HK6.out.trans hk7)
        have HR7:=Lib.hid hr7
        clear hk7 hr7 HC7 hown7 HOWN6 HK6
        go_wp2_with fail
        go_ret
        refine ⟨ds2,a',cap',by rw [hl9];rfl,HOWN7.out,by omega,HK7.out,?_⟩
        rw [HR2.out]
        exact ⟨HR7.out,rfl⟩
       ·have HR2:=Lib.hid (show r=.bad (hd (ly.tail)).pos 2 from by rw [HU.out,if_neg (by rw [hcm];decide),if_neg (by rw [hcl];decide)])
        have HMU:=Lib.hid (fun W (h:PrS W B (.good (ly.tail)))=>rmust_no (ly.tail) ⟨#[41]⟩ W B (by rw [eend];exact hcl) h)
        clear hcm hcl HU
        go_wp2_with fail
        refine HC6.out.mono ?_
        rintro e w6 ⟨rfl,hk6,hr6⟩
        have HC7:=Lib.hid (HMU.out w6 hr6)
        have hown6:=HOWN9.out.kept hk6 (.inr (fun h=>by have:=(HOWN9.out.lt _ h).1;omega))
        have HOWN6:=Lib.hid hown6
        have HK6:=Lib.hid (HK9.out.trans hk6)
        clear hk6 hr6 HC6 hown6 HOWN9 HK9 HR9 HMU
        go_wp2_with fail
        refine HC7.out.mono ?_
        rintro e w7 ⟨rfl,hk7,hr7⟩
        have hown7:=HOWN6.out.kept hk7 (.inr (fun h=>by have:=(HOWN6.out.lt _ h).1;omega))
        have HOWN7:=Lib.hid hown7
        have HK7:=Lib.hid (HK6.out.trans hk7)
        have HR7:=Lib.hid hr7
        clear hk7 hr7 HC7 hown7 HOWN6 HK6
        go_wp2_with fail
        go_ret
        refine ⟨ds2,a',cap',by rw [hl9];rfl,HOWN7.out,by omega,HK7.out,?_⟩
        rw [HR2.out]
        exact HR7.out
     ·have HCN:=Lib.hid (rname_no ly wd B hkd HRD2.out)
      have HR2:=Lib.hid (show r=.bad (hd ly).pos 2 from by rw [hu2,if_neg (by rw [hkd];decide)])
      clear hkd hu2
      generalize (hd ly).pos=bp at HR2 HCN
      go_wp2_with fail
      refine HCN.out.mono ?_
      rintro e w3 ⟨rfl,hk3,hr3⟩
      have HT:=Lib.hid (new_at w3 (tokBox 0 ⟨#[]⟩ 0 0))
      obtain ⟨⟨t0,t1,t2,t3⟩,_⟩:=tok_cells HT.out
      have hown3:=HOWND.out.kept hk3 (.inr (fun h=>by have:=(HOWND.out.lt _ h).1;omega))
      have hlt3:=hown3.lt
      have HOWN3:=Lib.hid (hown3.alloc (tokBox 0 ⟨#[]⟩ 0 0))
      have HLT:=Lib.hid hlt3
      have HK3:=Lib.hid ((HKD.out.trans hk3).alloc (tokBox 0 ⟨#[]⟩ 0 0))
      have HR3:=Lib.hid (hr3.alloc (tokBox 0 ⟨#[]⟩ 0 0))
      have hz3:=(HKD.out.trans hk3).size
      clear hk3 hr3 hown3 hlt3
      go_wp2_with (at_builtin;refine wpList_append_own_at _ rfl _ _ 22 rfl w.heap.size 55 i0 (.agg #[.string ⟨#[]⟩,.int .i64 0,.int .i64 0]) 3 32 Tryd.underlying22 HIF.out.1 HIF.out.2.1 HIF.out.2.2.1 HIF.out.2.2.2 rfl (by decide) _ _ _ rfl (HOWN3.out.alloc _) ⟨w3.heap.size+1,0,none⟩ 1 1 [.string ⟨#[]⟩,.int .i64 k,.int .i64 0] rfl rfl (by have h:=cell_three_new (w3.alloc (tokBox 0 ⟨#[]⟩ 0 0)) (.string ⟨#[]⟩) (.int .i64 k) (.int .i64 0) 55;rw [alloc_size] at h;exact h) (fun x hx=>by simp at hx;rcases hx with rfl | rfl | rfl <;> rfl) (by unfold maxLen;omega) (by omega) (by simp;omega) ?_;intro v' w9 hown9 hgrow9 _ hlie9)
      obtain ⟨a',cap',rfl⟩:=own_form hown9
      have hblk:∀ j,(Value.slice a ds.length cap).ownBlock=some j→w.heap.size≤j∧B < j:=fun j hj=>by have:=(HLT.out j hj).1;omega
      have HOWN9:RowKit.Hid (w9.ownsRow w.heap.size 55 3 (.slice a' (ds ++ [(⟨⟨#[]⟩,k,0⟩:Dc)]).length cap') (ds ++ [(⟨⟨#[]⟩,k,0⟩:Dc)]).length (flatD (ds ++ [(⟨⟨#[]⟩,k,0⟩:Dc)]))):=Lib.hid (by rw [flatD_append,List.length_append];exact hown9)
      have HK9:=Lib.hid (kp_append (HK3.out.alloc _) hgrow9 (fun j hj=>(hblk j hj).1))
      have HR9:=Lib.hid (prs_app (HR3.out.alloc _) hgrow9 (fun j hj=>(hblk j hj).2))
      have hl9:(ds ++ [(⟨⟨#[]⟩,k,0⟩:Dc)]).length=ds.length+1:=by simp
      clear hown9 hgrow9 hlie9 HOWN3 HLT HK3 HR3 hblk HT t0 t1 t2 t3 HOWN HK HRD HIF
      generalize (ds ++ [(⟨⟨#[]⟩,k,0⟩:Dc)])=ds2 at HOWN9 hl9 ⊢
      have HC6:=Lib.hid (rtake_b ⟨#[44]⟩ w9 B bp 2 HR9.out)
      go_wp2_with fail
      refine HC6.out.mono ?_
      rintro e w6 ⟨rfl,hk6,hr6⟩
      have HC7:=Lib.hid (rmust_b ⟨#[41]⟩ w6 B bp 2 hr6)
      have hown6:=HOWN9.out.kept hk6 (.inr (fun h=>by have:=(HOWN9.out.lt _ h).1;omega))
      have HOWN6:=Lib.hid hown6
      have HK6:=Lib.hid (HK9.out.trans hk6)
      clear hk6 hr6 HC6 hown6 HOWN9 HK9 HR9
      go_wp2_with fail
      refine HC7.out.mono ?_
      rintro e w7 ⟨rfl,hk7,hr7⟩
      have hown7:=HOWN6.out.kept hk7 (.inr (fun h=>by have:=(HOWN6.out.lt _ h).1;omega))
      have HOWN7:=Lib.hid hown7
      have HK7:=Lib.hid (HK6.out.trans hk7)
      have HR7:=Lib.hid hr7
      clear hk7 hr7 HC7 hown7 HOWN6 HK6
      go_wp2_with fail
      go_ret
      refine ⟨ds2,a',cap',by rw [hl9];rfl,HOWN7.out,by omega,HK7.out,?_⟩
      rw [HR2.out]
      exact HR7.out
abbrev prdBox (t:ByteArray) (v:Value) (op name:ByteArray) (n pos:Int) (a:Option Addr) (k cap:Nat) (p:Int):Obj:=.cells #[.string t,v,.string op,.string name,.int .i64 n,.int .i64 pos,.slice a k cap,.int .i64 p] 47
theorem prd_cells {w:World} {B:Nat} {t:ByteArray} {v:Value} {op name:ByteArray} {n pos:Int} {a:Option Addr} {k cap:Nat} {p:Int} (h:w.heap[B]? = some (prdBox t v op name n pos a k cap p)):w.cell? ⟨B,0,none⟩=some (.string t)∧w.cell? ⟨B,1,none⟩=some v∧w.cell? ⟨B,2,none⟩=some (.string op)∧w.cell? ⟨B,3,none⟩=some (.string name)∧w.cell? ⟨B,4,none⟩=some (.int .i64 n)∧w.cell? ⟨B,5,none⟩=some (.int .i64 pos)∧w.cell? ⟨B,6,none⟩=some (.slice a k cap)∧w.cell? ⟨B,7,none⟩=some (.int .i64 p):=by
 refine ⟨?_,?_,?_,?_,?_,?_,?_,?_⟩ <;> simp [World.cell?,h]
theorem infoPred:(Tryd.prog.info? 47).map (·.size)=some 8:=by kernel_rfl
theorem prd_set {w:World} {B:Nat} {t:ByteArray} {v:Value} {op name:ByteArray} {n pos:Int} {a:Option Addr} {k cap:Nat} {p:Int} (h:w.heap[B]? = some (prdBox t v op name n pos a k cap p)) (t':ByteArray) (v':Value) (op' name':ByteArray) (n' pos':Int) (a':Option Addr) (k' cap':Nat) (p':Int) :
  ((((((((w.setCell ⟨B,0,none⟩ (.string t')).setCell ⟨B,1,none⟩ v').setCell ⟨B,2,none⟩ (.string op')).setCell ⟨B,3,none⟩ (.string name')).setCell ⟨B,4,none⟩ (.int .i64 n')).setCell ⟨B,5,none⟩ (.int .i64 pos')).setCell ⟨B,6,none⟩ (.slice a' k' cap')).setCell ⟨B,7,none⟩ (.int .i64 p')).heap[B]? = some (prdBox t' v' op' name' n' pos' a' k' cap' p'):=by
 have h0:(World.setCell w ⟨B,0,none⟩ (.string t')).heap[B]? = some (prdBox t' v op name n pos a k cap p):=heap_setCell_same _ B 0 _ _ (.string t') h
 obtain ⟨w0,e0⟩:∃ x,x=World.setCell w ⟨B,0,none⟩ (.string t'):=⟨_,rfl⟩
 rw [← e0] at h0 ⊢
 have h1:(World.setCell w0 ⟨B,1,none⟩ v').heap[B]? = some (prdBox t' v' op name n pos a k cap p):=heap_setCell_same _ B 1 _ _ v' h0
 obtain ⟨w1,e1⟩:∃ x,x=World.setCell w0 ⟨B,1,none⟩ v':=⟨_,rfl⟩
 rw [← e1] at h1 ⊢
 have h2:(World.setCell w1 ⟨B,2,none⟩ (.string op')).heap[B]? = some (prdBox t' v' op' name n pos a k cap p):=heap_setCell_same _ B 2 _ _ (.string op') h1
 obtain ⟨w2,e2⟩:∃ x,x=World.setCell w1 ⟨B,2,none⟩ (.string op'):=⟨_,rfl⟩
 rw [← e2] at h2 ⊢
 have h3:(World.setCell w2 ⟨B,3,none⟩ (.string name')).heap[B]? = some (prdBox t' v' op' name' n pos a k cap p):=heap_setCell_same _ B 3 _ _ (.string name') h2
 obtain ⟨w3,e3⟩:∃ x,x=World.setCell w2 ⟨B,3,none⟩ (.string name'):=⟨_,rfl⟩
 rw [← e3] at h3 ⊢
 have h4:(World.setCell w3 ⟨B,4,none⟩ (.int .i64 n')).heap[B]? = some (prdBox t' v' op' name' n' pos a k cap p):=heap_setCell_same _ B 4 _ _ (.int .i64 n') h3
 obtain ⟨w4,e4⟩:∃ x,x=World.setCell w3 ⟨B,4,none⟩ (.int .i64 n'):=⟨_,rfl⟩
 rw [← e4] at h4 ⊢
 have h5:(World.setCell w4 ⟨B,5,none⟩ (.int .i64 pos')).heap[B]? = some (prdBox t' v' op' name' n' pos' a k cap p):=heap_setCell_same _ B 5 _ _ (.int .i64 pos') h4
 obtain ⟨w5,e5⟩:∃ x,x=World.setCell w4 ⟨B,5,none⟩ (.int .i64 pos'):=⟨_,rfl⟩
 rw [← e5] at h5 ⊢
 have h6:(World.setCell w5 ⟨B,6,none⟩ (.slice a' k' cap')).heap[B]? = some (prdBox t' v' op' name' n' pos' a' k' cap' p):=heap_setCell_same _ B 6 _ _ (.slice a' k' cap') h5
 obtain ⟨w6,e6⟩:∃ x,x=World.setCell w5 ⟨B,6,none⟩ (.slice a' k' cap'):=⟨_,rfl⟩
 rw [← e6] at h6 ⊢
 have h7:(World.setCell w6 ⟨B,7,none⟩ (.int .i64 p')).heap[B]? = some (prdBox t' v' op' name' n' pos' a' k' cap' p'):=heap_setCell_same _ B 7 _ _ (.int .i64 p') h6
 exact h7
abbrev pgBox (da:Option Addr) (dlen dc:Nat) (pa:Option Addr) (pl pc:Nat) (op name:ByteArray) (n pos:Int) (a:Option Addr) (k cap:Nat):Obj:=.cells (pgCells da dlen dc pa pl pc op name n pos a k cap) 28
theorem pg_frozen {w:World} {B:Nat} {da:Option Addr} {dlen dc:Nat} {pa:Option Addr} {pl pc:Nat} {op name:ByteArray} {n pos:Int} {a:Option Addr} {k cap:Nat} (h:w.heap[B]? = some (pgBox da dlen dc pa pl pc op name n pos a k cap)) :
  w.frozen? ⟨B,0,none⟩=false∧w.frozen? ⟨B,1,none⟩=false∧w.frozen? ⟨B,2,none⟩=false∧w.frozen? ⟨B,3,none⟩=false∧w.frozen? ⟨B,4,none⟩=false∧w.frozen? ⟨B,5,none⟩=false∧w.frozen? ⟨B,6,none⟩=false:=by
 refine ⟨?_,?_,?_,?_,?_,?_,?_⟩ <;> simp [World.frozen?,h]
theorem pg_main {w:World} {B:Nat} {da:Option Addr} {dlen dc:Nat} {pa:Option Addr} {pl pc:Nat} {op name:ByteArray} {n pos:Int} {a:Option Addr} {k cap:Nat} (h:w.heap[B]? = some (pgBox da dlen dc pa pl pc op name n pos a k cap)) (op' name':ByteArray) (n' pos':Int) (a':Option Addr) (k' cap':Nat) :
  (((((w.setCell ⟨B,2,none⟩ (.string op')).setCell ⟨B,3,none⟩ (.string name')).setCell ⟨B,4,none⟩ (.int .i64 n')).setCell ⟨B,5,none⟩ (.int .i64 pos')).setCell ⟨B,6,none⟩ (.slice a' k' cap')).heap[B]? = some (pgBox da dlen dc pa pl pc op' name' n' pos' a' k' cap'):=by
 have h0:=heap_setCell_same w B 2 _ _ (.string op') h
 have h1:=heap_setCell_same _ B 3 _ _ (.string name') h0
 have h2:=heap_setCell_same _ B 4 _ _ (.int .i64 n') h1
 have h3:=heap_setCell_same _ B 5 _ _ (.int .i64 pos') h2
 have h4:=heap_setCell_same _ B 6 _ _ (.slice a' k' cap') h3
 exact h4
theorem pg_set {w:World} {B:Nat} {da:Option Addr} {dlen dc:Nat} {pa:Option Addr} {pl pc:Nat} {op name:ByteArray} {n pos:Int} {a:Option Addr} {k cap:Nat} (h:w.heap[B]? = some (pgBox da dlen dc pa pl pc op name n pos a k cap)) (da':Option Addr) (dlen' dc':Nat) (pa':Option Addr) (pl' pc':Nat) (op' name':ByteArray) (n' pos':Int) (a':Option Addr) (k' cap':Nat) :
  (((((((w.setCell ⟨B,0,none⟩ (.slice da' dlen' dc')).setCell ⟨B,1,none⟩ (.slice pa' pl' pc')).setCell ⟨B,2,none⟩ (.string op')).setCell ⟨B,3,none⟩ (.string name')).setCell ⟨B,4,none⟩ (.int .i64 n')).setCell ⟨B,5,none⟩ (.int .i64 pos')).setCell ⟨B,6,none⟩ (.slice a' k' cap')).heap[B]? = some (pgBox da' dlen' dc' pa' pl' pc' op' name' n' pos' a' k' cap'):=by
 have e0:=heap_setCell_same w B 0 _ _ (.slice da' dlen' dc') h
 have e1:=heap_setCell_same _ B 1 _ _ (.slice pa' pl' pc') e0
 exact pg_main (w:=(w.setCell ⟨B,0,none⟩ (.slice da' dlen' dc')).setCell ⟨B,1,none⟩ (.slice pa' pl' pc')) (op:=op) (name:=name) (n:=n) (pos:=pos) (a:=a) (k:=k) (cap:=cap) e1 op' name' n' pos' a' k' cap'
theorem infoProg:(Tryd.prog.info? 28).map (·.size)=some 7:=by kernel_rfl
end Go.Proofs.YtmlmjopfbohglaaDoor
