/- Parts of the proof: RpR. -/
import Derived.Test.YtmlmjopfbohglaaDoorWd37
namespace Go.Proofs.YtmlmjopfbohglaaDoor
open Go.RowKit
theorem prs_err {w:World} {B:Nat} {l:List Tok} (h:PrS w B (.good l)):w.cell? ⟨B,2,none⟩=some (.int .i64 0)∧l≠[]:=by
 obtain ⟨a,L,cap,i,h1,_,h3,_⟩:=h
 exact ⟨h1.cells.1.2.2.1,h3⟩
def PostD1 (B:Nat) (w:World) (m:Nat) (r:Res (List Dc)) (e:Ending) (w':World):Prop:=∃ (ds:List Dc) (a:Option Addr) (cap:Nat),e=.returned (.slice a ds.length cap)∧w'.ownsRow w.heap.size 55 3 (.slice a ds.length cap) ds.length (flatD ds)∧(0 < ds.length∧ds.length≤m)∧Kp B w w'∧OutD B w' ds r
theorem ord_kind {l:List Tok} (h:0≤ordOf [118,97,114] l):((hd l).kind == 4)=false:=by
 rcases bool_two ((hd l).kind == 3) with hk | hk
 ·have h3:(hd l).kind=3:=by simpa using hk
  rw [h3];rfl
 ·exfalso
  have hw:(wrd l).toList=[]:=by unfold wrd;rw [if_neg (by rw [hk];decide),Lib.toList_data]
  unfold ordOf at h
  rw [hw] at h
  revert h
  decide
theorem prs_app {B:Nat} {s:St} {w w':World} {row:Option Nat} (h:PrS w B s) (hg:w.grownBy w' row) (hr:∀ k,row=some k→B < k):PrS w' B s :=
 h.same fun g hgB=>hg.block g (Nat.lt_of_le_of_lt hgB h.lt) (fun e=>by have:=hr g e.symm;omega)
theorem ne_kind {l:List Tok} (h:((hd l).kind == 1)=true):l≠[]:=by
 intro e
 subst e
 revert h
 decide
theorem tail_len {l:List Tok} (h:l≠[]):l.tail.length+1=l.length:=by
 cases l with
 | nil=>exact absurd rfl h
 | cons x r=>rfl
set_option maxRecDepth 100000 in
set_option maxHeartbeats 16000000 in
theorem rdecl_all (f:Nat) (l:List Tok) (w:World) (B:Nat) (hneed:l.length≤f) (ho:0≤ordOf [118,97,114] l) (hm:l.length≤1000000) (hS:PrS w B (.good l)) :
  Calls Tryd.prog 29 #[.pointer (some ⟨B,0,none⟩)] w (PostD1 B w (l.length+1) (pDeclL (f+1) (ordOf [118,97,114] l) [] l.tail)):=by
 obtain ⟨i0,hi,hz0,hz1,hz2⟩:=info_parts Tryd.infoDeclR
 have HIF:=Lib.hid (And.intro hi (And.intro hz0 (And.intro hz1 hz2)))
 clear hi hz0 hz1 hz2
 have e44:(⟨#[44]⟩:ByteArray).toList=[44]:=by decide +kernel
 have e59:(⟨#[59]⟩:ByteArray).toList=[59]:=by decide +kernel
 have hc4:=cellsTok
 have q1:=tok_f1
 have q3:=tok_f3
 have hB:=hS.lt
 have hk4:=ord_kind ho
 have HC0:=Lib.hid (rord_var_g l w B hS)
 have HS:=Lib.hid hS
 have htl:l.tail.length≤l.length:=by rw [List.length_tail];omega
 have HX:=Lib.hid (fun (W:World) (h:PrS W B (.good l))=>rnext_g l W B hk4 h)
 clear hS ho hk4
 generalize hkk:ordOf [118,97,114] l=k at HC0
 generalize hr:pDeclL (f+1) k [] l.tail=r
 have HRE0:=Lib.hid hr.symm
 clear hr hkk
 go_enter Tryd.func29,Tryd.ntmps29
 go_wp2_with fail
 refine HC0.out.mono ?_
 rintro e w1 ⟨rfl,hb1⟩
 have HC1:=Lib.hid (HX.out w1 (HS.out.below hb1))
 have HK1:=Lib.hid ((Kp.refl B w).below hb1)
 clear hb1 HC0 HS HX
 go_wp2_with fail
 refine HC1.out.mono ?_
 rintro e w2 ⟨rfl,hk2,hr2⟩
 have HK2:=Lib.hid (HK1.out.trans hk2)
 have HR2:=Lib.hid hr2
 clear hk2 hr2 HC1 HK1
 go_wp2_with fail
 go_loopg [4] (f+1) (fun gf v4 wx=>∃ (ds:List Dc) (a:Option Addr) (cap:Nat),v4=.slice a ds.length cap∧RowKit.Hid (wx.ownsRow w.heap.size 55 3 (.slice a ds.length cap) ds.length (flatD ds))∧RowKit.Hid (Kp B w wx) ∧
   ∃ lx,PrS wx B (.good lx)∧(lx.length+1≤gf∧ds.length+lx.length≤l.length)∧RowKit.Hid (r=pDeclL gf k ds lx))
 case atStart=>exact ⟨[],none,0,rfl,Lib.hid (World.ownsRow_nil _ _ _ _),HK2,l.tail,HR2.out,⟨by omega,by show 0+_≤_;omega⟩,HRE0⟩
 case round =>
  clear HRE0 HK2 HR2
  obtain ⟨ds,a,cap,rfl,HOWN,HK,lx,hrd,⟨hneed2,hN⟩,HRE⟩:=hrel
  obtain ⟨g',rfl⟩:∃ g',gk=g'+1:=⟨gk - 1,by omega⟩
  have HRD:=Lib.hid hrd
  obtain ⟨z2,hlne⟩:=prs_err hrd
  have hzz:=HK.out.size
  clear hrd
  rcases bool_two ((hd lx).kind == 1) with hkd | hkd
  ·have hne:=ne_kind hkd
   have htx:=tail_len hne
   have HC1:=Lib.hid (rname_yes lx wr B hkd HRD.out)
   have hu:r=(if ((wrd lx.tail).toList == [44])=true then pDeclL g' k (ds ++ [⟨(hd lx).text,k,(hd lx).pos⟩]) lx.tail.tail else if ((wrd lx.tail).toList == [59])=true then .ok (ds ++ [⟨(hd lx).text,k,(hd lx).pos⟩]) lx.tail.tail else .bad (hd lx.tail).pos 2):=by
    rw [HRE.out]
    conv=>{ lhs;unfold pDeclL }
    rw [if_pos hkd]
   have HU:=Lib.hid hu
   clear hkd hne HRE hu
   go_wp2_with fail
   refine HC1.out.mono ?_
   rintro e w3 ⟨rfl,hk3,hr3⟩
   generalize hd lx=tk at HU
   have HT:=Lib.hid (new_at w3 (tokBox tk.kind tk.text tk.n tk.pos))
   obtain ⟨⟨t0,t1,t2,t3⟩,_⟩:=tok_cells HT.out
   have hown3:=HOWN.out.kept hk3 (.inr (fun h=>by have:=(HOWN.out.lt _ h).1;omega))
   have hlt3:=hown3.lt
   have HOWN3:=Lib.hid (hown3.alloc (tokBox tk.kind tk.text tk.n tk.pos))
   have HLT:=Lib.hid hlt3
   have HK3:=Lib.hid ((HK.out.trans hk3).alloc (tokBox tk.kind tk.text tk.n tk.pos))
   have HR3:=Lib.hid (hr3.alloc (tokBox tk.kind tk.text tk.n tk.pos))
   have hz3:=hk3.size
   clear hk3 hr3 hown3 hlt3 HC1
   go_wp2_with (at_builtin;refine wpList_append_own_at _ rfl _ _ 22 rfl w.heap.size 55 i0 (.agg #[.string ⟨#[]⟩,.int .i64 0,.int .i64 0]) 3 32 Tryd.underlying22 HIF.out.1 HIF.out.2.1 HIF.out.2.2.1 HIF.out.2.2.2 rfl (by decide) _ _ _ rfl (HOWN3.out.alloc _) ⟨w3.heap.size+1,0,none⟩ 1 1 [.string tk.text,.int .i64 k,.int .i64 tk.pos] rfl rfl (by have h:=cell_three_new (w3.alloc (tokBox tk.kind tk.text tk.n tk.pos)) (.string tk.text) (.int .i64 k) (.int .i64 tk.pos) 55;rw [alloc_size] at h;exact h) (fun x hx=>by simp at hx;rcases hx with rfl | rfl | rfl <;> rfl) (by unfold maxLen;omega) (by omega) (by simp;omega) ?_;intro v' w9 hown9 hgrow9 _ hlie9)
   obtain ⟨a',cap',rfl⟩:=own_form hown9
   have hblk:∀ j,(Value.slice a ds.length cap).ownBlock=some j→w.heap.size≤j∧B < j:=fun j hj=>by have:=(HLT.out j hj).1;omega
   have HOWN9:RowKit.Hid (w9.ownsRow w.heap.size 55 3 (.slice a' (ds ++ [(⟨tk.text,k,tk.pos⟩:Dc)]).length cap') (ds ++ [(⟨tk.text,k,tk.pos⟩:Dc)]).length (flatD (ds ++ [(⟨tk.text,k,tk.pos⟩:Dc)]))):=Lib.hid (by rw [flatD_append,List.length_append];exact hown9)
   have HK9:=Lib.hid (kp_append (HK3.out.alloc _) hgrow9 (fun j hj=>(hblk j hj).1))
   have HR9:=Lib.hid (prs_app (HR3.out.alloc _) hgrow9 (fun j hj=>(hblk j hj).2))
   have hl9:(ds ++ [(⟨tk.text,k,tk.pos⟩:Dc)]).length=ds.length+1:=by simp
   have hin9:((ds.length:Int)+1)=(((ds ++ [(⟨tk.text,k,tk.pos⟩:Dc)]).length:Nat):Int):=by rw [hl9];rfl
   clear hown9 hgrow9 hlie9 HOWN3 HLT HK3 HR3 hblk HT t0 t1 t2 t3 HOWN HK HRD HIF
   generalize (ds ++ [(⟨tk.text,k,tk.pos⟩:Dc)])=ds2 at HU HOWN9 hl9 ⊢
   rcases bool_two ((wrd lx.tail).toList == [44]) with hcm | hcm
   ·have hcm':((wrd lx.tail).toList == (⟨#[44]⟩:ByteArray).toList)=true:=by rw [e44];exact hcm
    have hne2:=ne_of_wrd hcm
    have htx2:=tail_len hne2
    have HR2:=Lib.hid (show r=pDeclL g' k ds2 lx.tail.tail from by rw [HU.out,if_pos hcm])
    have HC6:=Lib.hid (rtake_yes lx.tail ⟨#[44]⟩ w9 B (by decide +kernel) hcm' HR9.out)
    clear hcm hcm' hne2 HU
    go_wp2_with fail
    refine HC6.out.mono ?_
    rintro e w6 ⟨rfl,hk6,hr6⟩
    have HK6:=Lib.hid (HK9.out.trans hk6)
    have hown6:=HOWN9.out.kept hk6 (.inr (fun h=>by have:=(HOWN9.out.lt _ h).1;omega))
    have HOWN6:=Lib.hid hown6
    have HR6:=Lib.hid hr6
    clear hk6 hr6 HC6 hown6 HOWN9 HK9 HR9
    go_wp2_with fail
    go_roundg g'
    case rel=>exact ⟨ds2,a',cap',by rw [hl9],HOWN6,HK6,lx.tail.tail,HR6.out,⟨by omega,by omega⟩,HR2⟩
    case measure=>omega
   ·have hcm':((wrd lx.tail).toList == (⟨#[44]⟩:ByteArray).toList)=false:=by rw [e44];exact hcm
    have HC6:=Lib.hid (rtake_no lx.tail ⟨#[44]⟩ w9 B hcm' HR9.out)
    rcases bool_two ((wrd lx.tail).toList == [59]) with hcl | hcl
    ·have HR2:=Lib.hid (show r=.ok ds2 lx.tail.tail from by rw [HU.out,if_neg (by rw [hcm];decide),if_pos hcl])
     have HMU:=Lib.hid (fun W (h:PrS W B (.good lx.tail))=>rmust_yes lx.tail ⟨#[59]⟩ W B (by decide +kernel) (by rw [e59];exact hcl) h)
     clear hcm hcm' hcl HU
     go_wp2_with fail
     refine HC6.out.mono ?_
     rintro e w6 ⟨rfl,hk6,hr6⟩
     have HC7:=Lib.hid (HMU.out w6 hr6)
     have HK6:=Lib.hid (HK9.out.trans hk6)
     have hown6:=HOWN9.out.kept hk6 (.inr (fun h=>by have:=(HOWN9.out.lt _ h).1;omega))
     have HOWN6:=Lib.hid hown6
     clear hk6 hr6 HC6 hown6 HOWN9 HK9 HR9 HMU
     go_wp2_with fail
     refine HC7.out.mono ?_
     rintro e w7 ⟨rfl,hk7,hr7⟩
     have hown7:=HOWN6.out.kept hk7 (.inr (fun h=>by have:=(HOWN6.out.lt _ h).1;omega))
     have HK7:=Lib.hid (HK6.out.trans hk7)
     have HR7:=Lib.hid hr7
     have HOWN7:=Lib.hid hown7
     clear hk7 hr7 HC7 hown7 HOWN6 HK6
     go_wp2_with fail
     go_ret
     refine ⟨ds2,a',cap',by rw [hl9];rfl,HOWN7.out,⟨by omega,by omega⟩,HK7.out,?_⟩
     rw [HR2.out]
     exact ⟨HR7.out,rfl⟩
    ·have HR2:=Lib.hid (show r=.bad (hd lx.tail).pos 2 from by rw [HU.out,if_neg (by rw [hcm];decide),if_neg (by rw [hcl];decide)])
     have HMU:=Lib.hid (fun W (h:PrS W B (.good lx.tail))=>rmust_no lx.tail ⟨#[59]⟩ W B (by rw [e59];exact hcl) h)
     clear hcm hcm' hcl HU
     go_wp2_with fail
     refine HC6.out.mono ?_
     rintro e w6 ⟨rfl,hk6,hr6⟩
     have HC7:=Lib.hid (HMU.out w6 hr6)
     have HK6:=Lib.hid (HK9.out.trans hk6)
     have hown6:=HOWN9.out.kept hk6 (.inr (fun h=>by have:=(HOWN9.out.lt _ h).1;omega))
     have HOWN6:=Lib.hid hown6
     clear hk6 hr6 HC6 hown6 HOWN9 HK9 HR9 HMU
     go_wp2_with fail
     refine HC7.out.mono ?_
     rintro e w7 ⟨rfl,hk7,hr7⟩
     have hown7:=HOWN6.out.kept hk7 (.inr (fun h=>by have:=(HOWN6.out.lt _ h).1;omega))
     have HK7:=Lib.hid (HK6.out.trans hk7)
     have HR7:=Lib.hid hr7
     have HOWN7:=Lib.hid hown7
     clear hk7 hr7 HC7 hown7 HOWN6 HK6
     go_wp2_with fail
     go_ret
     refine ⟨ds2,a',cap',by rw [hl9];rfl,HOWN7.out,⟨by omega,by omega⟩,HK7.out,?_⟩
     rw [HR2.out]
     exact HR7.out
  ·have HC1:=Lib.hid (rname_no lx wr B hkd HRD.out)
   have HR2:=Lib.hid (show r=.bad (hd lx).pos 2 from by rw [HRE.out];unfold pDeclL;rw [if_neg (by rw [hkd];decide)])
   clear hkd HRE
   generalize (hd lx).pos=bp at HR2 HC1
   go_wp2_with fail
   refine HC1.out.mono ?_
   rintro e w3 ⟨rfl,hk3,hr3⟩
   have HT:=Lib.hid (new_at w3 (tokBox 0 ⟨#[]⟩ 0 0))
   obtain ⟨⟨t0,t1,t2,t3⟩,_⟩:=tok_cells HT.out
   have hown3:=HOWN.out.kept hk3 (.inr (fun h=>by have:=(HOWN.out.lt _ h).1;omega))
   have hlt3:=hown3.lt
   have HOWN3:=Lib.hid (hown3.alloc (tokBox 0 ⟨#[]⟩ 0 0))
   have HLT:=Lib.hid hlt3
   have HK3:=Lib.hid ((HK.out.trans hk3).alloc (tokBox 0 ⟨#[]⟩ 0 0))
   have HR3:=Lib.hid (hr3.alloc (tokBox 0 ⟨#[]⟩ 0 0))
   have hz3:=hk3.size
   clear hk3 hr3 hown3 hlt3 HC1
   go_wp2_with (at_builtin;refine wpList_append_own_at _ rfl _ _ 22 rfl w.heap.size 55 i0 (.agg #[.string ⟨#[]⟩,.int .i64 0,.int .i64 0]) 3 32 Tryd.underlying22 HIF.out.1 HIF.out.2.1 HIF.out.2.2.1 HIF.out.2.2.2 rfl (by decide) _ _ _ rfl (HOWN3.out.alloc _) ⟨w3.heap.size+1,0,none⟩ 1 1 [.string ⟨#[]⟩,.int .i64 k,.int .i64 0] rfl rfl (by have h:=cell_three_new (w3.alloc (tokBox 0 ⟨#[]⟩ 0 0)) (.string ⟨#[]⟩) (.int .i64 k) (.int .i64 0) 55;rw [alloc_size] at h;exact h) (fun x hx=>by simp at hx;rcases hx with rfl | rfl | rfl <;> rfl) (by unfold maxLen;omega) (by omega) (by simp;omega) ?_;intro v' w9 hown9 hgrow9 _ hlie9)
   obtain ⟨a',cap',rfl⟩:=own_form hown9
   have hblk:∀ j,(Value.slice a ds.length cap).ownBlock=some j→w.heap.size≤j∧B < j:=fun j hj=>by have:=(HLT.out j hj).1;omega
   have HOWN9:RowKit.Hid (w9.ownsRow w.heap.size 55 3 (.slice a' (ds ++ [(⟨⟨#[]⟩,k,0⟩:Dc)]).length cap') (ds ++ [(⟨⟨#[]⟩,k,0⟩:Dc)]).length (flatD (ds ++ [(⟨⟨#[]⟩,k,0⟩:Dc)]))):=Lib.hid (by rw [flatD_append,List.length_append];exact hown9)
   have HK9:=Lib.hid (kp_append (HK3.out.alloc _) hgrow9 (fun j hj=>(hblk j hj).1))
   have HR9:=Lib.hid (prs_app (HR3.out.alloc _) hgrow9 (fun j hj=>(hblk j hj).2))
   have hl9:(ds ++ [(⟨⟨#[]⟩,k,0⟩:Dc)]).length=ds.length+1:=by simp
   clear hown9 hgrow9 hlie9 HOWN3 HLT HK3 HR3 hblk HT t0 t1 t2 t3 HOWN HK HRD HIF
   generalize (ds ++ [(⟨⟨#[]⟩,k,0⟩:Dc)])=ds2 at HOWN9 hl9 ⊢
   have HC6:=Lib.hid (rtake_b ⟨#[44]⟩ w9 B bp 2 HR9.out)
   go_wp2_with fail
   refine HC6.out.mono ?_
   rintro e w6 ⟨rfl,hk6,hr6⟩
   have HC7:=Lib.hid (rmust_b ⟨#[59]⟩ w6 B bp 2 hr6)
   have HK6:=Lib.hid (HK9.out.trans hk6)
   have hown6:=HOWN9.out.kept hk6 (.inr (fun h=>by have:=(HOWN9.out.lt _ h).1;omega))
   have HOWN6:=Lib.hid hown6
   clear hk6 hr6 HC6 hown6 HOWN9 HK9 HR9
   go_wp2_with fail
   refine HC7.out.mono ?_
   rintro e w7 ⟨rfl,hk7,hr7⟩
   have hown7:=HOWN6.out.kept hk7 (.inr (fun h=>by have:=(HOWN6.out.lt _ h).1;omega))
   have HK7:=Lib.hid (HK6.out.trans hk7)
   have HR7:=Lib.hid hr7
   have HOWN7:=Lib.hid hown7
   clear hk7 hr7 HC7 hown7 HOWN6 HK6
   go_wp2_with fail
   go_ret
   refine ⟨ds2,a',cap',by rw [hl9];rfl,HOWN7.out,⟨by omega,by omega⟩,HK7.out,?_⟩
   rw [HR2.out]
   exact HR7.out
end Go.Proofs.YtmlmjopfbohglaaDoor
