/- Parts of the proof: RpF RLast. -/
import Derived.Test.YtmlmjopfbohglaaDoorWd26
namespace Go.Proofs.YtmlmjopfbohglaaDoor
open Go.RowKit
def rowH (g:Nat) (br:Bool) (acc:List Nd) (l:List Tok):Res (List Nd) :=
 if acc.length == 6 then .bad (hd l).pos 2 else match pKid g br l with
  | .ok n l'=>pListL g br (acc ++ [n]) l'
  | .bad a e=>.bad a e
theorem rowH_start (f:Nat) (br:Bool) (l:List Tok) (h:¬ ((wrd l).toList == clo br)=true):pList (f+1) br l=rowH f br [] l:=by
 unfold pList rowH
 rw [if_neg h,if_neg (by decide)]
 rfl
theorem rowH_comma (g:Nat) (br:Bool) (acc:List Nd) (l:List Tok) (h:((wrd l).toList == [44])=true):pListL (g+1) br acc l=rowH g br acc l.tail:=by
 conv=>{ lhs;unfold pListL }
 unfold rowH
 rw [if_pos h]
 by_cases h6:(acc.length == 6)=true
 ·rw [if_pos h6,if_pos h6]
 ·rw [if_neg h6,if_neg h6]
  cases pKid g br l.tail <;> rfl
def SayKR (br:Bool) (f:Nat):Prop:=∀ (l:List Tok) (w:World) (B:Nat),3+20 * l.length≤f→PrS w B (.good l) →
 match br with
 | true=>Calls Tryd.prog 193 #[.pointer (some ⟨B,0,none⟩),.bool true] w (PostR B w (pKid f true l))
 | false=>Calls Tryd.prog 178 #[.pointer (some ⟨B,0,none⟩)] w (PostR B w (pKid f false l))
theorem prs_append {B:Nat} {s:St} {w w':World} {row:Option Nat} (h:PrS w B s) (hg:w.grownBy w' row) (hr:∀ k,row=some k→B < k):PrS w' B s :=
 h.same fun g hgB=>hg.block g (Nat.lt_of_le_of_lt hgB h.lt) (fun e=>by have:=hr g e.symm;omega)
theorem PrS.err_g {w:World} {B:Nat} {l:List Tok} (h:PrS w B (.good l)):w.cell? ⟨B,2,none⟩=some (.int .i64 0):=by
 obtain ⟨a,L,cap,i,h1,_⟩:=h
 exact h1.cells.1.2.2.1
theorem PrS.err_b {w:World} {B:Nat} {p e:Int} (h:PrS w B (.bad p e)):w.cell? ⟨B,2,none⟩=some (.int .i64 e)∧(e == 0)=false:=by
 obtain ⟨a,len,cap,i,h1,h2⟩:=h
 exact ⟨h1.cells.1.2.2.1,h2⟩
set_option maxRecDepth 100000 in
set_option maxHeartbeats 16000000 in
theorem rrowT (f:Nat) (ih:∀ g,g≤f→SayKR false g) (l:List Tok) (w:World) (B:Nat) (hneed:4+20 * l.length≤f+1) (hS:PrS w B (.good l)) :
  Calls Tryd.prog 177 #[.pointer (some ⟨B,0,none⟩),.string ⟨#[41]⟩,.bool false] w (PostRL B w (pList (f+1) false l)):=by
 obtain ⟨i0,hi,hz0,hz1,hz2⟩:=info_parts Tryd.infoNode
 have HIF:=Lib.hid (And.intro hi (And.intro hz0 (And.intro hz1 hz2)))
 clear hi hz0 hz1 hz2
 have hc5:=cellsNode
 have q3:=tok_f3
 have hB:=hS.lt
 have HS:=Lib.hid hS
 have HIH:=Lib.hid ih
 clear hS ih
 generalize hr:pList (f+1) false l=r
 by_cases hw:((wrd l).toList == clo false)=true
 ·have hwx:((wrd l).toList == (⟨#[41]⟩:ByteArray).toList)=true:=by rw [← clo_t];exact hw
  have HRE:RowKit.Hid (r=.ok [] l.tail):=Lib.hid (by rw [← hr];unfold pList;rw [if_pos hw])
  have HC:=Lib.hid (rtake_yes l ⟨#[41]⟩ w B (by decide +kernel) hwx HS.out)
  clear hr hw hwx
  go_enter Tryd.func177,Tryd.ntmps177
  go_wp2_with fail
  refine HC.out.mono ?_
  rintro e w1 ⟨rfl,hk1,hr1⟩
  go_wp2_with fail
  go_ret
  refine ⟨none,.nil,0,rfl,hk1,?_⟩
  rw [HRE.out]
  exact ⟨hr1,fun _ _ _ _ _=>Nd.Good.leaf _ _ _ _ _ _ _ _,rfl⟩
 ·have hw':((wrd l).toList == (⟨#[41]⟩:ByteArray).toList)=false:=by rw [← clo_t];simpa using hw
  have HRE0:=Lib.hid (show r=rowH f false [] l from by rw [← hr];exact rowH_start f false l hw)
  have HC1:=Lib.hid (rtake_no l ⟨#[41]⟩ w B hw' HS.out)
  clear hr hw hw'
  go_enter Tryd.func177,Tryd.ntmps177
  go_wp2_with fail
  refine HC1.out.mono ?_
  rintro e w1 ⟨rfl,hk1,hr1⟩
  have HK1:=Lib.hid hk1
  have HR1:=Lib.hid hr1
  clear hk1 hr1 HC1
  go_wp2_with fail
  go_loopg [7] f (fun gf v7 wx=>∃ (F:Fo) (a:Option Addr) (cap:Nat),v7=.slice a F.len cap∧RowKit.Hid (wx.ownsRow w.heap.size 26 5 (.slice a F.len cap) F.len (flatF F))∧F.len≤6∧RowKit.Hid (Kp B w wx) ∧
   (∃ l ts,PrS wx B (.good l)∧(3+20 * l.length≤gf∧gf≤f)∧RowKit.Hid (F.Kids (fun b=>w.heap.size≤b∧some b≠(Value.slice a F.len cap).ownBlock) wx)∧RowKit.Hid (F.strip=Fo.ofL ts)∧RowKit.Hid (r=rowH gf false ts l)))
  case atStart=>exact ⟨.nil,none,0,rfl,Lib.hid (World.ownsRow_nil _ _ _ _),Nat.zero_le _,HK1,l,[],HR1.out,⟨by omega,Nat.le_refl _⟩,Lib.hid trivial,Lib.hid rfl,HRE0⟩
  case round =>
   clear HRE0 HK1 HR1
   obtain ⟨F,a,cap,rfl,HOWN,hF6,HK,lx,ts,hrd,⟨hneed2,hgf⟩,HKD,HST,HRE⟩:=hrel
   obtain ⟨g',rfl⟩:∃ g',gk=g'+1:=⟨gk - 1,by omega⟩
   have HRD:=Lib.hid hrd
   have z2:=hrd.err_g
   clear hrd
   have hlen:F.len=ts.length:=by rw [← strip_len,HST.out,ofL_len]
   by_cases h6:F.len=6
   ·have h6i:((F.len:Int) == 6)=true:=by rw [beq_iff_eq];omega
    have hts:(ts.length == 6)=true:=by rw [← hlen,h6];rfl
    have HR2:=Lib.hid (show r=.bad (hd lx).pos 2 from by rw [HRE.out];unfold rowH;rw [if_pos hts])
    have HNW:=Lib.hid (rnow_g lx wr B HRD.out)
    clear hts h6 hlen HRE
    go_wp2_with fail
    refine HNW.out.mono ?_
    rintro e w3 ⟨rfl,hb3⟩
    have HF:=Lib.hid (rfail_g lx (hd lx).pos 2 w3 B rfl (HRD.out.below hb3))
    have HK3:=Lib.hid (HK.out.below hb3)
    clear hb3 HNW
    go_wp2_with fail
    refine HF.out.mono ?_
    rintro e w4 ⟨rfl,hk4,hr4⟩
    have HK4:=Lib.hid (HK3.out.trans hk4)
    have HR4:=Lib.hid hr4
    clear hk4 hr4 HF HK3
    go_wp2_with fail
    go_ret
    refine ⟨a,F,cap,rfl,HK4.out,?_⟩
    rw [HR2.out]
    exact HR4.out
   have h6i:((F.len:Int) == 6)=false:=by rw [beq_eq_false_iff_ne];omega
   have hts:¬ (ts.length == 6)=true:=by rw [← hlen,beq_iff_eq];exact h6
   obtain ⟨rk',hq⟩:∃ rk',pKid (g'+1) false lx=rk':=⟨_,rfl⟩
   have HOK2:RowKit.Hid (∀ k l',rk'=.ok k l'→r=pListL (g'+1) false (ts ++ [k]) l'∧Suf l' lx):=Lib.hid (fun k l' h=>⟨by rw [HRE.out];unfold rowH;rw [if_neg hts,hq,h],(suf_terms (g'+1)).2.2.1 _ _ _ _ (hq.trans h)⟩)
   have HBAD2:RowKit.Hid (∀ a e,rk'=.bad a e→r=.bad a e):=Lib.hid (fun a e h=>by rw [HRE.out];unfold rowH;rw [if_neg hts,hq,h])
   have HKID2:RowKit.Hid (Calls Tryd.prog 178 #[.pointer (some ⟨B,0,none⟩)] wr (PostR B wr rk')):=Lib.hid (by rw [← hq];exact HIH.out (g'+1) (by omega) lx wr B (by omega) HRD.out)
   have hF5:F.len+1≤6:=by omega
   clear hts h6 hlen HRE hq
   go_wp2_with fail
   refine HKID2.out.mono ?_
   rintro e w5 ⟨U,rfl,hk5,ho5⟩
   have HKK:=Lib.hid hk5
   have HO5:=Lib.hid ho5
   have hzz:=HKK.out.size
   have hzw:=HK.out.size
   clear hk5 ho5 HKID2
   have hown5:=HOWN.out.kept HKK.out (.inr (fun h=>by have:=(HOWN.out.lt _ h).1;omega))
   have hlt5:=HOWN.out.lt
   have HOWN5:=Lib.hid hown5
   have HLT:=Lib.hid hlt5
   clear hown5 hlt5
   go_wp2_with (at_builtin;refine wpList_append_own_at _ rfl _ _ 24 rfl w.heap.size 26 i0 (.agg #[.string ⟨#[]⟩,.string ⟨#[]⟩,.int .i64 0,.int .i64 0,.slice none 0 0]) 5 72 Tryd.underlying24 HIF.out.1 HIF.out.2.1 HIF.out.2.2.1 HIF.out.2.2.2 rfl (by decide) _ _ _ rfl (HOWN5.out.alloc _) ⟨w5.heap.size,0,none⟩ 1 1 [.string U.op,.string U.name,.int .i64 U.n,.int .i64 U.pos,.slice U.a U.kids.len U.cap] rfl rfl (cell_five_new _ _ _ _ _ _ _) (fun x hx=>by simp at hx;rcases hx with rfl | rfl | rfl | rfl | rfl <;> rfl) (by unfold maxLen;omega) (by omega) (by simp;omega) ?_;intro v' w9 hown9 hgrow9 _ hlie9)
   obtain ⟨a',cap',rfl⟩:=own_form hown9
   have HOWN9:=Lib.hid hown9
   have HGR:=Lib.hid hgrow9
   have HLIE:=Lib.hid hlie9
   have HK9:=Lib.hid (kp_append ((HK.out.trans HKK.out).alloc _) HGR.out (fun k hk=>(HLT.out k hk).1))
   clear hown9 hgrow9 hlie9
   cases rk' with
   | bad pa pe =>
    have hp9:PrS w9 B (.bad pa pe):=prs_append ((show PrS w5 B (.bad pa pe) from HO5.out).alloc _) HGR.out (fun k hk=>by have:=(HLT.out k hk).1;omega)
    have HC6:=Lib.hid (rtake_b ⟨#[44]⟩ w9 B pa pe hp9)
    clear hp9
    go_wp2_with fail
    refine HC6.out.mono ?_
    rintro e w6 ⟨rfl,hk6,hr6⟩
    have HC7:=Lib.hid (rmust_b ⟨#[41]⟩ w6 B pa pe hr6)
    have HK6:=Lib.hid (HK9.out.trans hk6)
    clear hk6 hr6 HC6
    go_wp2_with fail
    refine HC7.out.mono ?_
    rintro e w7 ⟨rfl,hk7,hr7⟩
    have HK7:=Lib.hid (HK6.out.trans hk7)
    have HR7:=Lib.hid hr7
    clear hk7 hr7 HC7
    go_wp2_with fail
    go_ret
    refine ⟨a',F.snoc U,cap',by rw [snoc_len];rfl,HK7.out,?_⟩
    rw [HBAD2.out pa pe rfl]
    exact HR7.out
   | ok kx lk =>
   obtain ⟨hr5,hg5,hs5⟩:=HO5.out
   obtain ⟨r1,r2⟩:=HOK2.out kx lk rfl
   have hp9:PrS w9 B (.good lk):=prs_append (hr5.alloc _) HGR.out (fun k hk=>by have:=(HLT.out k hk).1;omega)
   have hkd:=kids_append ((HKD.out.from (HKK.out.from (fun h=>absurd h.1 (by omega)))).from (From.alloc _ _ _)) ((hg5.mono (fun b hb=>⟨by omega,fun h=>by have:=(HLT.out b h.symm).2;omega⟩)).from (From.alloc _ _ _)) HGR.out HLIE.out
   have HKD9:=Lib.hid hkd
   have HST9:RowKit.Hid ((F.snoc U).strip=Fo.ofL (ts ++ [kx])):=Lib.hid (by rw [← hs5];exact ofL_snoc ts U F HST.out)
   have HP9:=Lib.hid hp9
   have HR1:=Lib.hid r1
   have HSF:=Lib.hid r2
   clear hr5 hg5 hs5 r1 r2 hp9 hkd HOK2 HBAD2 HO5 HKD HST
   by_cases hcm:((wrd lk).toList == (ByteArray.mk #[44]).toList)=true
   ·have hcm44:((wrd lk).toList == [44])=true:=by rw [← show (ByteArray.mk #[44]).toList=[44] from by decide +kernel];exact hcm
    have HRE9:=Lib.hid (show r=rowH g' false (ts ++ [kx]) lk.tail from by rw [HR1.out];exact rowH_comma g' false _ _ hcm44)
    have hlt2:=(Suf.tail (ne_of_wrd hcm44)).len
    have hlt3:=HSF.out.len
    have HC6:=Lib.hid (rtake_yes lk ⟨#[44]⟩ w9 B (by decide +kernel) hcm HP9.out)
    clear hcm hcm44
    go_wp2_with fail
    refine HC6.out.mono ?_
    rintro e w6 ⟨rfl,hk6,hr6⟩
    have HK6:=Lib.hid (HK9.out.trans hk6)
    have HKL:=Lib.hid hk6
    have HR6:=Lib.hid hr6
    clear hk6 hr6 HC6
    go_wp2_with fail
    go_roundg g'
    case rel =>
     have hown6:=HOWN9.out.kept HKL.out (.inr (fun h=>by have:=(HOWN9.out.lt _ h).1;omega))
     refine ⟨F.snoc U,a',cap',by rw [snoc_len],Lib.hid (by rw [snoc_len,flatF_snoc];exact hown6),by rw [snoc_len];omega,HK6,lk.tail,ts ++ [kx],HR6.out,⟨by omega,by omega⟩,Lib.hid ?_,HST9,HRE9⟩
     rw [snoc_len]
     exact HKD9.out.from (HKL.out.from (fun h=>absurd h.1 (by omega)))
    case measure=>omega
   ·have hcm44:¬ ((wrd lk).toList == [44])=true:=by rw [← show (ByteArray.mk #[44]).toList=[44] from by decide +kernel];exact hcm
    have hcm':((wrd lk).toList == (ByteArray.mk #[44]).toList)=false:=by simpa using hcm
    have HC6:=Lib.hid (rtake_no lk ⟨#[44]⟩ w9 B hcm' HP9.out)
    by_cases hcl:((wrd lk).toList == clo false)=true
    ·have HR2:=Lib.hid (show r=.ok (ts ++ [kx]) lk.tail from by rw [HR1.out];unfold pListL;rw [if_neg hcm44,if_pos hcl])
     have HMU:=Lib.hid (fun W (h:PrS W B (.good lk))=>rmust_yes lk ⟨#[41]⟩ W B (by decide +kernel) (by rw [← clo_t];exact hcl) h)
     clear hcm hcm' hcl hcm44
     go_wp2_with fail
     refine HC6.out.mono ?_
     rintro e w6 ⟨rfl,hk6,hr6⟩
     have HC7:=Lib.hid (HMU.out w6 hr6)
     have HKL:=Lib.hid hk6
     clear hk6 hr6 HC6
     go_wp2_with fail
     refine HC7.out.mono ?_
     rintro e w7 ⟨rfl,hk7,hr7⟩
     have HKL7:=Lib.hid (HKL.out.trans hk7)
     have HR7:=Lib.hid hr7
     clear hk7 hr7 HC7
     go_wp2_with fail
     go_ret
     have hown7:=HOWN9.out.kept HKL7.out (.inr (fun h=>by have:=(HOWN9.out.lt _ h).1;omega))
     have hg7:=row_good (F:=F.snoc U) (v:=.slice a' (F.len+1) cap') (by rw [snoc_len,flatF_snoc];exact hown7) (HKD9.out.from (HKL7.out.from (fun h=>absurd h.1 (by omega)))) (by rw [snoc_len];omega)
     obtain ⟨a2,cap2,hv,hg⟩:=hg7
     have ha:a'=a2:=by injection hv
     subst ha
     refine ⟨a',F.snoc U,cap',by rw [snoc_len];rfl,HK9.out.trans HKL7.out,?_⟩
     rw [HR2.out]
     exact ⟨HR7.out,hg,HST9.out⟩
    ·have HR2:=Lib.hid (show r=.bad (hd lk).pos 2 from by rw [HR1.out];unfold pListL;rw [if_neg hcm44,if_neg hcl])
     have HMU:=Lib.hid (fun W (h:PrS W B (.good lk))=>rmust_no lk ⟨#[41]⟩ W B (by rw [← clo_t];simpa using hcl) h)
     clear hcm hcm' hcl hcm44
     go_wp2_with fail
     refine HC6.out.mono ?_
     rintro e w6 ⟨rfl,hk6,hr6⟩
     have HC7:=Lib.hid (HMU.out w6 hr6)
     have HKL:=Lib.hid hk6
     clear hk6 hr6 HC6
     go_wp2_with fail
     refine HC7.out.mono ?_
     rintro e w7 ⟨rfl,hk7,hr7⟩
     have HK7:=Lib.hid (HK9.out.trans (HKL.out.trans hk7))
     have HR7:=Lib.hid hr7
     clear hk7 hr7 HC7
     go_wp2_with fail
     go_ret
     refine ⟨a',F.snoc U,cap',by rw [snoc_len];rfl,HK7.out,?_⟩
     rw [HR2.out]
     exact HR7.out
set_option maxRecDepth 100000 in
set_option maxHeartbeats 16000000 in
theorem rrowP (f:Nat) (ih:∀ g,g≤f→SayKR true g) (l:List Tok) (w:World) (B:Nat) (hneed:4+20 * l.length≤f+1) (hS:PrS w B (.good l)) :
  Calls Tryd.prog 177 #[.pointer (some ⟨B,0,none⟩),.string ⟨#[125]⟩,.bool true] w (PostRL B w (pList (f+1) true l)):=by
 obtain ⟨i0,hi,hz0,hz1,hz2⟩:=info_parts Tryd.infoNode
 have HIF:=Lib.hid (And.intro hi (And.intro hz0 (And.intro hz1 hz2)))
 clear hi hz0 hz1 hz2
 have hc5:=cellsNode
 have q3:=tok_f3
 have hB:=hS.lt
 have HS:=Lib.hid hS
 have HIH:=Lib.hid ih
 clear hS ih
 generalize hr:pList (f+1) true l=r
 by_cases hw:((wrd l).toList == clo true)=true
 ·have hwx:((wrd l).toList == (⟨#[125]⟩:ByteArray).toList)=true:=by rw [← clo_p];exact hw
  have HRE:RowKit.Hid (r=.ok [] l.tail):=Lib.hid (by rw [← hr];unfold pList;rw [if_pos hw])
  have HC:=Lib.hid (rtake_yes l ⟨#[125]⟩ w B (by decide +kernel) hwx HS.out)
  clear hr hw hwx
  go_enter Tryd.func177,Tryd.ntmps177
  go_wp2_with fail
  refine HC.out.mono ?_
  rintro e w1 ⟨rfl,hk1,hr1⟩
  go_wp2_with fail
  go_ret
  refine ⟨none,.nil,0,rfl,hk1,?_⟩
  rw [HRE.out]
  exact ⟨hr1,fun _ _ _ _ _=>Nd.Good.leaf _ _ _ _ _ _ _ _,rfl⟩
 ·have hw':((wrd l).toList == (⟨#[125]⟩:ByteArray).toList)=false:=by rw [← clo_p];simpa using hw
  have HRE0:=Lib.hid (show r=rowH f true [] l from by rw [← hr];exact rowH_start f true l hw)
  have HC1:=Lib.hid (rtake_no l ⟨#[125]⟩ w B hw' HS.out)
  clear hr hw hw'
  go_enter Tryd.func177,Tryd.ntmps177
  go_wp2_with fail
  refine HC1.out.mono ?_
  rintro e w1 ⟨rfl,hk1,hr1⟩
  have HK1:=Lib.hid hk1
  have HR1:=Lib.hid hr1
  clear hk1 hr1 HC1
  go_wp2_with fail
  go_loopg [7] f (fun gf v7 wx=>∃ (F:Fo) (a:Option Addr) (cap:Nat),v7=.slice a F.len cap∧RowKit.Hid (wx.ownsRow w.heap.size 26 5 (.slice a F.len cap) F.len (flatF F))∧F.len≤6∧RowKit.Hid (Kp B w wx) ∧
   (∃ l ts,PrS wx B (.good l)∧(3+20 * l.length≤gf∧gf≤f)∧RowKit.Hid (F.Kids (fun b=>w.heap.size≤b∧some b≠(Value.slice a F.len cap).ownBlock) wx)∧RowKit.Hid (F.strip=Fo.ofL ts)∧RowKit.Hid (r=rowH gf true ts l)))
  case atStart=>exact ⟨.nil,none,0,rfl,Lib.hid (World.ownsRow_nil _ _ _ _),Nat.zero_le _,HK1,l,[],HR1.out,⟨by omega,Nat.le_refl _⟩,Lib.hid trivial,Lib.hid rfl,HRE0⟩
  case round =>
   clear HRE0 HK1 HR1
   obtain ⟨F,a,cap,rfl,HOWN,hF6,HK,lx,ts,hrd,⟨hneed2,hgf⟩,HKD,HST,HRE⟩:=hrel
   obtain ⟨g',rfl⟩:∃ g',gk=g'+1:=⟨gk - 1,by omega⟩
   have HRD:=Lib.hid hrd
   have z2:=hrd.err_g
   clear hrd
   have hlen:F.len=ts.length:=by rw [← strip_len,HST.out,ofL_len]
   by_cases h6:F.len=6
   ·have h6i:((F.len:Int) == 6)=true:=by rw [beq_iff_eq];omega
    have hts:(ts.length == 6)=true:=by rw [← hlen,h6];rfl
    have HR2:=Lib.hid (show r=.bad (hd lx).pos 2 from by rw [HRE.out];unfold rowH;rw [if_pos hts])
    have HNW:=Lib.hid (rnow_g lx wr B HRD.out)
    clear hts h6 hlen HRE
    go_wp2_with fail
    refine HNW.out.mono ?_
    rintro e w3 ⟨rfl,hb3⟩
    have HF:=Lib.hid (rfail_g lx (hd lx).pos 2 w3 B rfl (HRD.out.below hb3))
    have HK3:=Lib.hid (HK.out.below hb3)
    clear hb3 HNW
    go_wp2_with fail
    refine HF.out.mono ?_
    rintro e w4 ⟨rfl,hk4,hr4⟩
    have HK4:=Lib.hid (HK3.out.trans hk4)
    have HR4:=Lib.hid hr4
    clear hk4 hr4 HF HK3
    go_wp2_with fail
    go_ret
    refine ⟨a,F,cap,rfl,HK4.out,?_⟩
    rw [HR2.out]
    exact HR4.out
   have h6i:((F.len:Int) == 6)=false:=by rw [beq_eq_false_iff_ne];omega
   have hts:¬ (ts.length == 6)=true:=by rw [← hlen,beq_iff_eq];exact h6
   obtain ⟨rk',hq⟩:∃ rk',pKid (g'+1) true lx=rk':=⟨_,rfl⟩
   have HOK2:RowKit.Hid (∀ k l',rk'=.ok k l'→r=pListL (g'+1) true (ts ++ [k]) l'∧Suf l' lx):=Lib.hid (fun k l' h=>⟨by rw [HRE.out];unfold rowH;rw [if_neg hts,hq,h],(suf_terms (g'+1)).2.2.1 _ _ _ _ (hq.trans h)⟩)
   have HBAD2:RowKit.Hid (∀ a e,rk'=.bad a e→r=.bad a e):=Lib.hid (fun a e h=>by rw [HRE.out];unfold rowH;rw [if_neg hts,hq,h])
   have HKID2:RowKit.Hid (Calls Tryd.prog 193 #[.pointer (some ⟨B,0,none⟩),.bool true] wr (PostR B wr rk')):=Lib.hid (by rw [← hq];exact HIH.out (g'+1) (by omega) lx wr B (by omega) HRD.out)
   have hF5:F.len+1≤6:=by omega
   clear hts h6 hlen HRE hq
   go_wp2_with fail
   refine HKID2.out.mono ?_
   rintro e w5 ⟨U,rfl,hk5,ho5⟩
   have HKK:=Lib.hid hk5
   have HO5:=Lib.hid ho5
   have hzz:=HKK.out.size
   have hzw:=HK.out.size
   clear hk5 ho5 HKID2
   have hown5:=HOWN.out.kept HKK.out (.inr (fun h=>by have:=(HOWN.out.lt _ h).1;omega))
   have hlt5:=HOWN.out.lt
   have HOWN5:=Lib.hid hown5
   have HLT:=Lib.hid hlt5
   clear hown5 hlt5
   go_wp2_with (at_builtin;refine wpList_append_own_at _ rfl _ _ 24 rfl w.heap.size 26 i0 (.agg #[.string ⟨#[]⟩,.string ⟨#[]⟩,.int .i64 0,.int .i64 0,.slice none 0 0]) 5 72 Tryd.underlying24 HIF.out.1 HIF.out.2.1 HIF.out.2.2.1 HIF.out.2.2.2 rfl (by decide) _ _ _ rfl (HOWN5.out.alloc _) ⟨w5.heap.size,0,none⟩ 1 1 [.string U.op,.string U.name,.int .i64 U.n,.int .i64 U.pos,.slice U.a U.kids.len U.cap] rfl rfl (cell_five_new _ _ _ _ _ _ _) (fun x hx=>by simp at hx;rcases hx with rfl | rfl | rfl | rfl | rfl <;> rfl) (by unfold maxLen;omega) (by omega) (by simp;omega) ?_;intro v' w9 hown9 hgrow9 _ hlie9)
   obtain ⟨a',cap',rfl⟩:=own_form hown9
   have HOWN9:=Lib.hid hown9
   have HGR:=Lib.hid hgrow9
   have HLIE:=Lib.hid hlie9
   have HK9:=Lib.hid (kp_append ((HK.out.trans HKK.out).alloc _) HGR.out (fun k hk=>(HLT.out k hk).1))
   clear hown9 hgrow9 hlie9
   cases rk' with
   | bad pa pe =>
    have hp9:PrS w9 B (.bad pa pe):=prs_append ((show PrS w5 B (.bad pa pe) from HO5.out).alloc _) HGR.out (fun k hk=>by have:=(HLT.out k hk).1;omega)
    have HC6:=Lib.hid (rtake_b ⟨#[44]⟩ w9 B pa pe hp9)
    clear hp9
    go_wp2_with fail
    refine HC6.out.mono ?_
    rintro e w6 ⟨rfl,hk6,hr6⟩
    have HC7:=Lib.hid (rmust_b ⟨#[125]⟩ w6 B pa pe hr6)
    have HK6:=Lib.hid (HK9.out.trans hk6)
    clear hk6 hr6 HC6
    go_wp2_with fail
    refine HC7.out.mono ?_
    rintro e w7 ⟨rfl,hk7,hr7⟩
    have HK7:=Lib.hid (HK6.out.trans hk7)
    have HR7:=Lib.hid hr7
    clear hk7 hr7 HC7
    go_wp2_with fail
    go_ret
    refine ⟨a',F.snoc U,cap',by rw [snoc_len];rfl,HK7.out,?_⟩
    rw [HBAD2.out pa pe rfl]
    exact HR7.out
   | ok kx lk =>
   obtain ⟨hr5,hg5,hs5⟩:=HO5.out
   obtain ⟨r1,r2⟩:=HOK2.out kx lk rfl
   have hp9:PrS w9 B (.good lk):=prs_append (hr5.alloc _) HGR.out (fun k hk=>by have:=(HLT.out k hk).1;omega)
   have hkd:=kids_append ((HKD.out.from (HKK.out.from (fun h=>absurd h.1 (by omega)))).from (From.alloc _ _ _)) ((hg5.mono (fun b hb=>⟨by omega,fun h=>by have:=(HLT.out b h.symm).2;omega⟩)).from (From.alloc _ _ _)) HGR.out HLIE.out
   have HKD9:=Lib.hid hkd
   have HST9:RowKit.Hid ((F.snoc U).strip=Fo.ofL (ts ++ [kx])):=Lib.hid (by rw [← hs5];exact ofL_snoc ts U F HST.out)
   have HP9:=Lib.hid hp9
   have HR1:=Lib.hid r1
   have HSF:=Lib.hid r2
   clear hr5 hg5 hs5 r1 r2 hp9 hkd HOK2 HBAD2 HO5 HKD HST
   by_cases hcm:((wrd lk).toList == (ByteArray.mk #[44]).toList)=true
   ·have hcm44:((wrd lk).toList == [44])=true:=by rw [← show (ByteArray.mk #[44]).toList=[44] from by decide +kernel];exact hcm
    have HRE9:=Lib.hid (show r=rowH g' true (ts ++ [kx]) lk.tail from by rw [HR1.out];exact rowH_comma g' true _ _ hcm44)
    have hlt2:=(Suf.tail (ne_of_wrd hcm44)).len
    have hlt3:=HSF.out.len
    have HC6:=Lib.hid (rtake_yes lk ⟨#[44]⟩ w9 B (by decide +kernel) hcm HP9.out)
    clear hcm hcm44
    go_wp2_with fail
    refine HC6.out.mono ?_
    rintro e w6 ⟨rfl,hk6,hr6⟩
    have HK6:=Lib.hid (HK9.out.trans hk6)
    have HKL:=Lib.hid hk6
    have HR6:=Lib.hid hr6
    clear hk6 hr6 HC6
    go_wp2_with fail
    go_roundg g'
    case rel =>
     have hown6:=HOWN9.out.kept HKL.out (.inr (fun h=>by have:=(HOWN9.out.lt _ h).1;omega))
     refine ⟨F.snoc U,a',cap',by rw [snoc_len],Lib.hid (by rw [snoc_len,flatF_snoc];exact hown6),by rw [snoc_len];omega,HK6,lk.tail,ts ++ [kx],HR6.out,⟨by omega,by omega⟩,Lib.hid ?_,HST9,HRE9⟩
     rw [snoc_len]
     exact HKD9.out.from (HKL.out.from (fun h=>absurd h.1 (by omega)))
    case measure=>omega
   ·have hcm44:¬ ((wrd lk).toList == [44])=true:=by rw [← show (ByteArray.mk #[44]).toList=[44] from by decide +kernel];exact hcm
    have hcm':((wrd lk).toList == (ByteArray.mk #[44]).toList)=false:=by simpa using hcm
    have HC6:=Lib.hid (rtake_no lk ⟨#[44]⟩ w9 B hcm' HP9.out)
    by_cases hcl:((wrd lk).toList == clo true)=true
    ·have HR2:=Lib.hid (show r=.ok (ts ++ [kx]) lk.tail from by rw [HR1.out];unfold pListL;rw [if_neg hcm44,if_pos hcl])
     have HMU:=Lib.hid (fun W (h:PrS W B (.good lk))=>rmust_yes lk ⟨#[125]⟩ W B (by decide +kernel) (by rw [← clo_p];exact hcl) h)
     clear hcm hcm' hcl hcm44
     go_wp2_with fail
     refine HC6.out.mono ?_
     rintro e w6 ⟨rfl,hk6,hr6⟩
     have HC7:=Lib.hid (HMU.out w6 hr6)
     have HKL:=Lib.hid hk6
     clear hk6 hr6 HC6
     go_wp2_with fail
     refine HC7.out.mono ?_
     rintro e w7 ⟨rfl,hk7,hr7⟩
     have HKL7:=Lib.hid (HKL.out.trans hk7)
     have HR7:=Lib.hid hr7
     clear hk7 hr7 HC7
     go_wp2_with fail
     go_ret
     have hown7:=HOWN9.out.kept HKL7.out (.inr (fun h=>by have:=(HOWN9.out.lt _ h).1;omega))
     have hg7:=row_good (F:=F.snoc U) (v:=.slice a' (F.len+1) cap') (by rw [snoc_len,flatF_snoc];exact hown7) (HKD9.out.from (HKL7.out.from (fun h=>absurd h.1 (by omega)))) (by rw [snoc_len];omega)
     obtain ⟨a2,cap2,hv,hg⟩:=hg7
     have ha:a'=a2:=by injection hv
     subst ha
     refine ⟨a',F.snoc U,cap',by rw [snoc_len];rfl,HK9.out.trans HKL7.out,?_⟩
     rw [HR2.out]
     exact ⟨HR7.out,hg,HST9.out⟩
    ·have HR2:=Lib.hid (show r=.bad (hd lk).pos 2 from by rw [HR1.out];unfold pListL;rw [if_neg hcm44,if_neg hcl])
     have HMU:=Lib.hid (fun W (h:PrS W B (.good lk))=>rmust_no lk ⟨#[125]⟩ W B (by rw [← clo_p];simpa using hcl) h)
     clear hcm hcm' hcl hcm44
     go_wp2_with fail
     refine HC6.out.mono ?_
     rintro e w6 ⟨rfl,hk6,hr6⟩
     have HC7:=Lib.hid (HMU.out w6 hr6)
     have HKL:=Lib.hid hk6
     clear hk6 hr6 HC6
     go_wp2_with fail
     refine HC7.out.mono ?_
     rintro e w7 ⟨rfl,hk7,hr7⟩
     have HK7:=Lib.hid (HK9.out.trans (HKL.out.trans hk7))
     have HR7:=Lib.hid hr7
     clear hk7 hr7 HC7
     go_wp2_with fail
     go_ret
     refine ⟨a',F.snoc U,cap',by rw [snoc_len];rfl,HK7.out,?_⟩
     rw [HR2.out]
     exact HR7.out
section
variable {P:Program} {ops:Array Oper} {Q:Exit→Act→World→Prop} {C:World→Prop} {L:Nat}
def AnyG (P:Program) (ops:Array Oper) (Q:Exit→Act→World→Prop) (L:Nat) (C:World→Prop):Nat→Array Bool→Act→World→Prop
 | 0,listed,a,w=>Region.ready .any ops listed=[]∧Q .normal a w
 | f+1,listed,a,w=>(Region.ready .any ops listed=[]→Q .normal a w) ∧
   ∀ i ∈ Region.ready .any ops listed,wpOp P ops Q i (fun a' w'=>(i≠L→C w')∧AnyG P ops Q L C f (listed.setIfInBounds i true) a' w') a w
theorem AnyG.any:∀ (f:Nat) (listed:Array Bool) (a:Act) (w:World),AnyG P ops Q L C f listed a w→wpAny P .any ops Q f listed a w
 | 0,_,_,_,h=>h
 | f+1,_,_,_,h=>⟨h.1,fun i hi=>wpOp_mono (fun _ _ hk=>AnyG.any f _ _ _ hk.2) (h.2 i hi)⟩
theorem AnyG.first {i:Nat} {oi:Oper} {v:Value} (hi:ops[i]? = some oi) (hsel:Region.noSelect ops=true) (hQ:∀ c a w,Q (.panic c) (a.put oi.dst v) w→Q (.panic c) a w) (hL:Region.waitsFor .any ops L i=true) :
  ∀ (f:Nat) (listed:Array Bool) (a:Act) (w:World),(∀ j oj,ops[j]? = some oj→j≠i→listed.getD j true=false→(∀ e ∈ oj.after,Region.binds .any e=true→e.on≠i)→oi.apart ops oj=true) →
   i ∈ Region.ready .any ops listed→YieldsIf P ops C oi v a→C w→AnyG P ops Q L C f (listed.setIfInBounds i true) (a.put oi.dst v) w→AnyG P ops Q L C (f+1) listed a w:=by
 intro f
 induction f with
 | zero =>
  intro listed a w _ hr hy hC H
  refine ⟨fun h=>(by rw [h] at hr;cases hr),fun j hj=>?_⟩
  by_cases hji:j=i
  ·subst hji
   exact hy.wpOp hi hC ⟨fun _=>hC,H⟩
  ·have hm:=ready_mono hj hji
   rw [H.1] at hm
   cases hm
 | succ f ih =>
  intro listed a w hfree hr hy hC H
  refine ⟨fun h=>(by rw [h] at hr;cases hr),fun j hj=>?_⟩
  by_cases hji:j=i
  ·subst hji
   exact hy.wpOp hi hC ⟨fun _=>hC,H⟩
  have h1:=H.2 j (ready_mono hj hji)
  obtain ⟨hjun,oj,hoj,hall⟩:=mem_ready.1 hj
  have hiun:=(mem_ready.1 hr).1
  have hnot:∀ e ∈ oj.after,Region.binds .any e=true→e.on≠i:=by
   intro e he hb heq
   have hx:=hall e he hb
   rw [heq,getD_both hiun] at hx
   cases hx
  have hjL:j≠L:=by
   rintro rfl
   obtain ⟨o',ho',e,he,hb,hon⟩:=Region.waitsFor_spec hL
   have hoo:o'=oj:=Option.some.inj (ho'.symm.trans hoj)
   subst hoo
   exact hnot e he hb hon
  have h2:=wpOp_putIf hoj (hfree j oj hoj hji hjun hnot) (fun cs b=>Region.noSelect_spec hsel i oi cs b hi) (fun cs b=>Region.noSelect_spec hsel j oj cs b hoj) hQ hy h1
  have hfree':∀ k ok,ops[k]? = some ok→k≠i→(listed.setIfInBounds j true).getD k true=false→(∀ e ∈ ok.after,Region.binds .any e=true→e.on≠i)→oi.apart ops ok=true:=by
   intro k ok hk hki hun hno
   refine hfree k ok hk hki ?_ hno
   by_cases hjk:j=k
   ·subst hjk;exact hjun
   ·rw [getD_set_ne true hjk] at hun;exact hun
  refine wpOp_mono (fun a' w' h3=>?_) h2
  obtain ⟨hy',hC',hG'⟩:=h3
  refine ⟨hC',ih (listed.setIfInBounds j true) a' w' hfree' (ready_mono hr (Ne.symm hji)) hy' (hC' hjL) ?_⟩
  rw [Array.setIfInBounds_comm _ _ hji]
  exact hG'
def headsC (P:Program) (ops:Array Oper) (C:World→Prop) (K:Act→Prop):List Oper→Act→Prop
 | [],a=>K a
 | o :: r,a=>∃ v,YieldsIf P ops C o v a∧headsC P ops C K r (a.put o.dst v)
def thenC (C:World→Prop) (more:Bool) (R:Act→World→Prop) (Q:Exit→Act→World→Prop):Exit→Act→World→Prop
 | .normal,a,w=>(more=true→C w)∧R a w
 | e,a,w=>Q e a w
def tailC (P:Program) (ops:Array Oper) (Q:Exit→Act→World→Prop) (C:World→Prop):List Oper→Act→World→Prop
 | [],a,w=>Q .normal a w
 | o :: r,a,w=>wpList P ops (thenC C (!r.isEmpty) (tailC P ops Q C r) Q) [o] a w
theorem wpOp_thenC {i:Nat} {more:Bool} {R K:Act→World→Prop} {a:Act} {w:World} (h:wpOp P ops (thenC C more R Q) i K a w):wpOp P ops Q i K a w:=by
 unfold wpOp at *
 split at h
 ·exact h
 ·rename_i o ho
  split
  ·rename_i hw
   simp only [hw,if_true] at h
   rcases h with h | ⟨h1,a',w',h2⟩
   ·refine .inl ?_
    unfold Oper.wp at *
    generalize (execOp a.eval o).run P w=r at *
    cases r with
    | ok n w' =>
     cases n <;> simp only [Oper.upon] at h ⊢
     case value u=>exact h
     case skip=>exact h
     case defer d=>exact h
     case enter f args =>
      refine Calls.mono h fun e w'' he=>?_
      cases e with
      | returned u=>exact he
      | panicked c=>exact he
      | outgrown=>obtain ⟨a',w',h2⟩:=he;exact ⟨a',w',h2⟩
     case row row args=>exact h
    | halt x w' =>
     cases x <;> simp only [Oper.upon] at h ⊢
     case panic u=>exact h
   ·exact .inr ⟨h1,a',w',h2⟩
  ·rename_i hw
   simp only [hw] at h
   exact h
theorem anyG_tail:∀ (l:List Oper) (k:Nat) (listed:Array Bool) (a:Act) (w:World),(∀ j,l[j]? = ops[k+j]?)→k+l.length=L+1→Region.seqB .any ops l.length k listed=true→tailC P ops Q C l a w→AnyG P ops Q L C l.length listed a w
 | [],_,_,_,_,_,_,hB,h=>⟨by simpa [Region.seqB] using hB,h⟩
 | o :: l,k,listed,a,w,hl,hL,hB,h=>by
  have h0:ops[k]? = some o:=by simpa using (hl 0).symm
  simp only [List.length_cons,Region.seqB,Bool.and_eq_true,decide_eq_true_eq] at hB
  refine ⟨fun h1=>(by rw [hB.1] at h1;cases h1),fun i hi=>?_⟩
  rw [hB.1] at hi
  have hik:i=k:=by simpa using hi
  subst hik
  have hw:wpOp P ops (thenC C (!l.isEmpty) (tailC P ops Q C l) Q) i (wpList P ops (thenC C (!l.isEmpty) (tailC P ops Q C l) Q) []) a w:=by
   unfold wpOp
   simp only [h0]
   exact h
  refine wpOp_mono (fun a' w' hk=>?_) (wpOp_thenC hw)
  obtain ⟨hC,hR⟩:(((!l.isEmpty)=true→C w')∧tailC P ops Q C l a' w'):=hk
  refine ⟨fun hne=>hC ?_,anyG_tail l (i+1) _ a' w' (fun j=>by have:=hl (j+1);simpa [Nat.add_assoc,Nat.add_comm 1 j] using this) (by simp only [List.length_cons] at hL;omega) hB.2 hR⟩
  cases l with
  | nil=>simp only [List.length_cons,List.length_nil] at hL;omega
  | cons _ _=>rfl
def lastB (ops:Array Oper) (n:Nat):Bool :=
 Region.noSelect ops && decide (n < ops.size) && ((List.range n).all fun i=>Region.waitsFor .any ops (ops.size - 1) i) && Region.lexHead .any ops (ops.size - n) n 0 (Array.replicate ops.size false)
theorem anyG_heads {n:Nat} {w:World} (hsel:Region.noSelect ops=true) (hn:n < ops.size) (hQ:∀ c a b w,Q (.panic c) a w→Q (.panic c) b w) (hwait:∀ i,i < n→Region.waitsFor .any ops L i=true) (hC:C w) (hL:L+1=ops.size) {t:List Oper} (ht:∀ j,t[j]? = ops[n+j]?) (htl:n+t.length=ops.size) :
  ∀ (l:List Oper) (k:Nat) (listed:Array Bool) (a:Act),(∀ j,j < l.length→l[j]? = ops[k+j]?)→k+l.length=n→Region.lexHead .any ops t.length l.length k listed=true →
   headsC P ops C (fun a'=>tailC P ops Q C t a' w) l a→AnyG P ops Q L C (l.length+t.length) listed a w
 | [],k,listed,a,_,hk,hB,h=>by
  have hkn:k=n:=by simpa using hk
  subst hkn
  rw [List.length_nil,Nat.zero_add]
  exact anyG_tail t k listed a w ht (by omega) (by simpa [Region.lexHead] using hB) h
 | o :: l,k,listed,a,hl,hk,hB,h=>by
  have h0:ops[k]? = some o:=by simpa using (hl 0 (by simp)).symm
  simp only [List.length_cons,Region.lexHead,Bool.and_eq_true] at hB
  obtain ⟨⟨hr,hf⟩,hB'⟩:=hB
  have hkn:k < n:=by simp only [List.length_cons] at hk;omega
  obtain ⟨v,hy,hrest⟩:=h
  rw [List.length_cons,show l.length+1+t.length=l.length+t.length+1 by omega]
  exact AnyG.first h0 hsel (fun c a w hq=>hQ c _ _ w hq) (hwait k hkn) _ listed a w (Region.free_spec h0 hf) (by simpa using hr) hy hC
   (anyG_heads hsel hn hQ hwait hC hL ht htl l (k+1) _ _ (fun j hj=>by have:=hl (j+1) (by simp;omega);simpa [Nat.add_assoc,Nat.add_comm 1 j] using this) (by simp only [List.length_cons] at hk;omega) hB' hrest)
theorem wp_region_last {id:Nat} {a:Act} {w:World} {l:List Oper} (n:Nat) (C:World→Prop) (hm:P.follows .mixedOrders=true) (hB:lastB l.toArray n=true) (hC:C w.drew)
  (h:headsC P l.toArray C (fun a'=>tailC P l.toArray (NoPanic Q) C (l.drop n) a' w.drew) (l.take n) a):(Code.region id l.toArray true).wp P Q a w:=by
 simp only [lastB,Bool.and_eq_true,decide_eq_true_eq] at hB
 obtain ⟨⟨⟨hsel,hn⟩,hw⟩,hlex⟩:=hB
 have hn':n < l.length:=by simpa using hn
 have htl:(l.take n).length=n:=by simp;omega
 have hdl:(l.drop n).length=l.toArray.size - n:=by simp
 refine wp_region_noPanic (wp_region_any hm ?_)
 have H:=anyG_heads (L:=l.toArray.size - 1) hsel hn (fun c a b w hq=>hq.elim) (fun i hi=>List.all_eq_true.1 hw i (List.mem_range.2 hi)) hC (by omega) (t:=l.drop n) (fun j=>by simp [List.getElem?_drop]) (by rw [hdl];omega)
  (l.take n) 0 (Array.replicate l.toArray.size false) a (fun j hj=>by
   have hj':j < n:=by rw [htl] at hj;exact hj
   simp [hj']) (by simpa using htl) (by rw [htl,hdl];exact hlex) h
 rw [htl,hdl,show n+(l.toArray.size - n)=l.toArray.size by omega] at H
 exact H.any
end
section
variable {P:Program} {ops:Array Oper} {C:World→Prop} {K:Act→Prop} {r:List Oper} {a:Act}
theorem headsC_move (o:Oper) (x:Operand) (ho:o.op=.move x) (hg:o.guard=none) (h:headsC P ops C K r (a.put o.dst (a.eval x))):headsC P ops C K (o :: r) a:=by
 refine ⟨a.eval x,.inl ⟨by simp [Region.wanted,hg],fun w _=>?_⟩,h⟩
 unfold execOp
 simp [ho]
theorem headsC_load (o:Oper) (ty:TypeId) (x:Operand) (ho:o.op=.load ty x) (hg:o.guard=none) (g:Nat) (hx:a.eval x=.pointer (some ⟨g,0,none⟩)) (t:TypeId) (cs:Array Value) (fr:Nat × Nat) (d:TypeDesc) (hC:∀ w,C w→w.heap[g]? = some (.cells cs t fr))
  (hu:P.underlying ty=some d) (hd:(match d with | .struct _ | .array _ _=>true | _=>false)=true) (hi:(P.info? ty).map (·.size)=some cs.size) (h:headsC P ops C K r (a.put o.dst (.agg cs))):headsC P ops C K (o :: r) a:=by
 refine ⟨.agg cs,.inl ⟨by simp [Region.wanted,hg],fun w hw=>?_⟩,h⟩
 unfold execOp
 simp only [ho,hx,Instr.loadAt,Instr.sureAddr,Sem.run_bind,Sem.run_pure,Result.andThen_ok,run_loadVar_row w g t ty cs fr d (hC w hw) hu hd hi]
theorem headsC_val (o:Oper) (v:Value) (hg:o.guard=none) (hv:∀ w,C w→(execOp a.eval o).run P w=.ok (.value v) w) (h:headsC P ops C K r (a.put o.dst v)):headsC P ops C K (o :: r) a :=
 ⟨v,.inl ⟨by simp [Region.wanted,hg],hv⟩,h⟩
theorem headsC_nil (h:K a):headsC P ops C K [] a:=h
end
end Go.Proofs.YtmlmjopfbohglaaDoor
