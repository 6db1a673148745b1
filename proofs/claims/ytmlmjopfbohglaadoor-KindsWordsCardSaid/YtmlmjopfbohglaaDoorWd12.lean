/- Parts of the proof: RefName RefNum. -/
import Derived.Test.YtmlmjopfbohglaaDoorWd11
namespace Go.Proofs.YtmlmjopfbohglaaDoor
open Go.RowKit
theorem cnt_in (p:Int→Bool) (L:RL) (i k:Nat) (h:k < cnt p (L.drop i)):∃ hk:i+k < L.length,p (L[i+k]'hk).1=true:=by
 have h1:=cnt_le p (L.drop i)
 rw [List.length_drop] at h1
 have hk:i+k < L.length:=by omega
 refine ⟨hk,?_⟩
 have hm:(L.drop i)[k]'(by rw [List.length_drop];omega) ∈ (L.drop i).take (cnt p (L.drop i)):=by
  rw [List.mem_take_iff_getElem]
  exact ⟨k,by rw [List.length_drop];omega,rfl⟩
 have:=cnt_all p (L.drop i) _ hm
 rw [List.getElem_drop] at this
 exact this
theorem cnt_stop (p:Int→Bool):∀ (L:RL) (h:cnt p L < L.length),p (L[cnt p L]'h).1=false:=by
 intro L
 induction L with
 | nil=>intro h;simp [cnt] at h
 | cons q L ih =>
  intro h
  by_cases hq:p q.1=true
  ·have e:=cnt_pos (L:=L) hq
   simp only [e,List.getElem_cons_succ]
   exact ih (by rw [e] at h;simpa using h)
  ·have e:=cnt_zero (L:=L) (by simpa using hq)
   simp only [e,List.getElem_cons_zero]
   simpa using hq
theorem cnt_out (p:Int→Bool) (L:RL) (i:Nat) (h:i+cnt p (L.drop i) < L.length):p (L[i+cnt p (L.drop i)]'h).1=false:=by
 have:=cnt_stop p (L.drop i) (by rw [List.length_drop];omega)
 rw [List.getElem_drop] at this
 exact this
theorem rdclassk (w:World) (R:Nat) (s:ByteArray) (lv:Value) (L:RL) (bad:Int) (i k:Nat) (c:Int) (hS:RS w R s lv L bad i) (hk:k≤1000000) (hc:clsAt L (i+k)=c) :
  Calls Tryd.prog 85 #[.pointer (some ⟨R,0,none⟩),.int .i64 k] w fun e w'=>e=.returned (.int .i64 c)∧∃ q,w'=w.drewN q:=by
 rw [← hc];exact rdclass_any w R s lv L bad i k hS hk
theorem rdisk (w:World) (R:Nat) (s:ByteArray) (lv:Value) (L:RL) (bad:Int) (i k:Nat) (c:Int) (b:Bool) (hS:RS w R s lv L bad i) (hk:k≤1000000) (hb:isAt L (i+k) c=b) :
  Calls Tryd.prog 86 #[.pointer (some ⟨R,0,none⟩),.int .i64 k,.int .i32 c] w fun e w'=>e=.returned (.bool b)∧∃ q,w'=w.drewN q:=by
 rw [← hb];exact rdis_any w R s lv L bad c i k hS hk
theorem refword_is (t:ByteArray) (b:Bool) (w:World) (h:isWrd t=b) :
  Calls Tryd.prog 115 #[.string t] w fun e w'=>e=.returned (.bool b)∧Below w.heap.size w w':=by
 rw [← h];exact refword_any t w
theorem nm_cases (r:Int) (h:nmB r=true):cls r=1∨cls r=2∨r=39:=by
 unfold nmB at h
 simp only [Bool.or_eq_true,beq_iff_eq] at h
 omega
theorem nm_not (r:Int) (h:nmB r=false):¬ cls r=1∧¬ cls r=2∧¬ r=39:=by
 unfold nmB at h
 simp only [Bool.or_eq_false_iff,beq_eq_false_iff_ne,ne_eq] at h
 exact ⟨h.1.1,h.1.2,h.2⟩
theorem cls39:cls 39=4:=by decide +kernel
theorem name_pos (s:ByteArray) (L:RL) (bad:Int) (i c:Nat) (hL:L=(each s).1) (hbad:bad=(each s).2) (hi:i < L.length) (_hc:i+c≤L.length) :
  0≤(L[i]'hi).2∧(L[i]'hi).2≤posOf (endOf s bad) (L.drop (i+c))∧posOf (endOf s bad) (L.drop (i+c))≤s.size ∧
  (i+c < L.length→posAt s L (i+c)=posOf (endOf s bad) (L.drop (i+c))) ∧
  (¬ i+c < L.length→(0≤bad→posOf (endOf s bad) (L.drop (i+c))=bad)∧(¬ 0≤bad→posOf (endOf s bad) (L.drop (i+c))=posAt s L (i+c))):=by
 have hsr:=eachF_srt s s.size 0 (by omega)
 have he:eachF s s.size 0=each s:=rfl
 rw [he,← hL,← hbad] at hsr
 have h0:=each_at s (L[i]'hi) (by rw [← hL];exact List.getElem_mem _)
 have h1:=posOf_drop _ (L.drop i) c (srt_drop _ L i hsr)
 rw [List.drop_drop,drop_at L i hi] at h1
 have h2:=(posOf_ge s s.size 0 (by omega) (i+c)).2
 rw [he,← hL,← hbad] at h2
 refine ⟨h0,h1,h2,?_,?_⟩
 ·intro h
  unfold posAt
  rw [drop_at L _ h,List.getElem?_eq_getElem h]
  rfl
 ·intro h
  rw [List.drop_of_length_le (by omega)]
  unfold posAt endOf posOf
  rw [List.getElem?_eq_none (by omega)]
  refine ⟨fun hb=>if_neg (by omega),fun hb=>if_pos ?_⟩
  rcases bad_range s with hr | hr
  ·rw [hbad];exact hr
  ·rw [← hbad] at hr;omega
def nameT (s:ByteArray) (L:RL) (bad:Int) (i:Nat) (po:Int):ByteArray:=s.extract po.toNat (posOf (endOf s bad) (L.drop (i+cnt nmB (L.drop i)))).toNat
set_option maxRecDepth 100000 in
set_option maxHeartbeats 4000000 in
theorem rname_any (w:World) (R:Nat) (s:ByteArray) (lv:Value) (L:RL) (bad:Int) (i:Nat) (hS:RS w R s lv L bad i) (hL:L=(each s).1) (hbad:bad=(each s).2) (hi:i < L.length) (h1:cls (L[i]'hi).1=1)
  (po:Int) (hpo:(L[i]'hi).2=po) (K:Int) (hK:K=if isWrd (nameT s L bad i po) then 3 else 1) (b:Bool) (hb:b=decide (cnt nmB (L.drop i)≤12)) :
  Calls Tryd.prog 87 #[.pointer (some ⟨R,0,none⟩)] w fun e w'=>e=.returned (.tuple #[.agg #[.int .i64 K,.string (nameT s L bad i po),.int .i64 0,.int .i64 po],.bool b])∧Rd w' R s lv bad ((i:Int)+cnt nmB (L.drop i))∧w.grownBy w' (some R):=by
 obtain ⟨a,cap,rfl,_⟩:=hS.slice
 have hRlt:=hS.rd.lt
 have hlsz:=hS.sz
 have hc1:1≤cnt nmB (L.drop i):=by
  rw [drop_at L i hi,cnt_pos (by unfold nmB;rw [h1];rfl)];omega
 have hcl:i+cnt nmB (L.drop i)≤L.length:=by have:=cnt_le nmB (L.drop i);rw [List.length_drop] at this;omega
 have hpos:=name_pos s L bad i (cnt nmB (L.drop i)) hL hbad hi hcl
 have hin:=cnt_in nmB L i
 have hout:=cnt_out nmB L i
 unfold nameT at hK ⊢
 obtain ⟨c,hc⟩:∃ c,c=cnt nmB (L.drop i):=⟨_,rfl⟩
 rw [← hc] at hc1 hcl hpos hin hout hK hb ⊢
 obtain ⟨en,hen⟩:∃ en,en=posOf (endOf s bad) (L.drop (i+c)):=⟨_,rfl⟩
 rw [← hen,hpo] at hpos
 rw [← hen] at hK ⊢
 obtain ⟨hp0,hp1,hp2,hp3,hp4⟩:=hpos
 have HIN:=Lib.hid hin
 have HOUT:=Lib.hid hout
 have HP3:=Lib.hid hp3
 have HP4:=Lib.hid hp4
 have HK:=Lib.hid hK
 have HB:=Lib.hid hb
 have HPO:=Lib.hid hpo
 have H1:=Lib.hid h1
 clear hin hout hp3 hp4 hK hb hpo h1 hc hen hL hbad
 obtain ⟨T,hT⟩:∃ T,T=s.extract po.toNat en.toNat:=⟨_,rfl⟩
 rw [← hT] at HK ⊢
 have HTX:=Lib.hid hT
 clear hT
 go_enter Tryd.func87,Tryd.ntmps87
 go_wp2
 obtain ⟨W0,hW0⟩:∃ W0,W0=w.alloc (.cells #[.int .i64 0,.string ⟨#[]⟩,.int .i64 0,.int .i64 0] 73):=⟨_,rfl⟩
 have hR0:RS W0 R s (.slice a L.length cap) L bad i:=by rw [hW0];exact hS.below ((Below.refl _ _).alloc (Nat.le_refl _) _)
 have hB0:Blk4 W0 w.heap.size (.int .i64 0) (.string ⟨#[]⟩) (.int .i64 0) (.int .i64 0):=by rw [hW0];exact blk4_new _ _ _ _ _
 have hg0:w.grownBy W0 (some R):=by rw [hW0];exact grown_alloc (grown_refl _ _) _
 have hs0:W0.heap.size=w.heap.size+1:=by rw [hW0];simp
 rw [← hW0]
 have HS0:=Lib.hid hs0
 clear hW0 hs0 hS
 go_loopw [4] (fun v wr=>∃ n q:Nat,v=.int .i64 n∧n≤c∧wr=W0.drewN q) (fun v _=>c - (intOf v).toNat)
 case atStart=>exact ⟨0,0,rfl,by omega,rfl⟩
 case round =>
  obtain ⟨n,q,rfl,hn,rfl⟩:=hrel
  by_cases hnc:n < c
  ·obtain ⟨hk,hp⟩:=HIN.out n hnc
   rcases nm_cases _ hp with h | h | h
   ·have HC:=Lib.hid (show clsAt L (i+n)=1 by rw [clsAt_in L _ hk];exact h)
    clear h hp
    go_wp2_with fail
    refine (rdclassk _ R s _ L bad i n 1 (hR0.drewN _) (by omega) HC.out).mono ?_
    rintro e w2 ⟨rfl,q2,rfl⟩
    go_wp2
    go_roundw
    case rel=>exact ⟨n+1,_,by go_num,by omega,rfl⟩
    case measure=>simp [intOf];omega
   ·have hn0:0 < (n:Int):=by
     rcases Nat.eq_zero_or_pos n with h0 | h0
     ·subst h0
      have:=H1.out
      simp only [Nat.add_zero] at h
      omega
     ·omega
    have HC:=Lib.hid (show clsAt L (i+n)=2 by rw [clsAt_in L _ hk];exact h)
    clear h hp
    go_wp2_with fail
    refine (rdclassk _ R s _ L bad i n 2 (hR0.drewN _) (by omega) HC.out).mono ?_
    rintro e w2 ⟨rfl,q2,rfl⟩
    go_wp2_with fail
    refine (rdclassk _ R s _ L bad i n 2 (hR0.drewN _) (by omega) HC.out).mono ?_
    rintro e w2 ⟨rfl,q3,rfl⟩
    go_wp2
    go_roundw
    case rel=>exact ⟨n+1,_,by go_num,by omega,rfl⟩
    case measure=>simp [intOf];omega
   ·have hn0:0 < (n:Int):=by
     rcases Nat.eq_zero_or_pos n with h0 | h0
     ·subst h0
      have:=H1.out
      simp only [Nat.add_zero] at h
      rw [h,cls39] at this
      omega
     ·omega
    have HC:=Lib.hid (show clsAt L (i+n)=4 by rw [clsAt_in L _ hk,h];exact cls39)
    have HI:=Lib.hid (show isAt L (i+n) 39=true by rw [isAt_in L _ 39 hk,beq_iff_eq];exact h)
    clear h hp
    go_wp2_with fail
    refine (rdclassk _ R s _ L bad i n 4 (hR0.drewN _) (by omega) HC.out).mono ?_
    rintro e w2 ⟨rfl,q2,rfl⟩
    go_wp2_with fail
    refine (rdclassk _ R s _ L bad i n 4 (hR0.drewN _) (by omega) HC.out).mono ?_
    rintro e w2 ⟨rfl,q3,rfl⟩
    go_wp2_with fail
    refine (rdisk _ R s _ L bad i n 39 true (hR0.drewN _) (by omega) HI.out).mono ?_
    rintro e w2 ⟨rfl,q4,rfl⟩
    go_wp2
    go_roundw
    case rel=>exact ⟨n+1,_,by go_num,by omega,rfl⟩
    case measure=>simp [intOf];omega
  ·obtain rfl:n=c:=by omega
   have hn0:0 < (n:Int):=by omega
   obtain ⟨cv,hcv,hcv1,hcv2,hcv3⟩:∃ cv,clsAt L (i+n)=cv∧¬ cv=1∧¬ cv=2∧isAt L (i+n) 39=false:=by
    by_cases hin:i+n < L.length
    ·have:=nm_not _ (HOUT.out hin)
     exact ⟨_,clsAt_in L _ hin,this.1,this.2.1,by rw [isAt_in L _ 39 hin,beq_eq_false_iff_ne];exact this.2.2⟩
    ·exact ⟨-1,clsAt_out L _ hin,by omega,by omega,isAt_out L _ _ hin⟩
   have HC:=Lib.hid hcv
   have HI:=Lib.hid hcv3
   have e1:(cv == 1)=false:=by rw [beq_eq_false_iff_ne];exact hcv1
   have e2:(cv == 2)=false:=by rw [beq_eq_false_iff_ne];exact hcv2
   clear hcv hcv1 hcv2 hcv3
   go_wp2_with fail
   refine (rdclassk _ R s _ L bad i n cv (hR0.drewN _) (by omega) HC.out).mono ?_
   rintro e w2 ⟨rfl,q2,rfl⟩
   go_wp2_with fail
   refine (rdclassk _ R s _ L bad i n cv (hR0.drewN _) (by omega) HC.out).mono ?_
   rintro e w2 ⟨rfl,q3,rfl⟩
   go_wp2_with fail
   refine (rdisk _ R s _ L bad i n 39 false (hR0.drewN _) (by omega) HI.out).mono ?_
   rintro e w2 ⟨rfl,q4,rfl⟩
   clear e1 e2 HC HI HIN HOUT H1
   obtain ⟨Q,hQ⟩:∃ Q,Q=q+q2+q3:=⟨_,rfl⟩
   have hR1:=(hR0.drewN Q).drewN q4
   have hB1:=(hB0.below (below_dn W0 Q)).below (below_dn _ q4)
   have hg1:=grown_dn (grown_dn hg0 Q) q4
   have hs1:((W0.drewN Q).drewN q4).heap.size=w.heap.size+1:=HS0.out
   rw [← hQ]
   generalize (W0.drewN Q).drewN q4=W1 at hR1 hB1 hg1 hs1 ⊢
   clear hQ hR0 hB0 hg0 HS0
   go_wp2_with fail
   refine (rdat0 W1 R s _ L bad i hR1).mono ?_
   rintro e w2 ⟨rfl,q5,rfl⟩
   rw [show posAt s L i=po by rw [← HPO.out];unfold posAt;rw [List.getElem?_eq_getElem hi]]
   go_wp2_with fail
   obtain ⟨W2,hW2⟩:∃ W2,W2=(W1.drewN q5).alloc (.cells #[.int .i64 1,.string ⟨#[]⟩,.int .i64 0,.int .i64 po] 73):=⟨_,rfl⟩
   have hR2:RS W2 R s (.slice a L.length cap) L bad i:=by rw [hW2];exact (hR1.drewN q5).below ((Below.refl _ _).alloc (Nat.le_refl _) _)
   have hBa:Blk4 W2 w.heap.size (.int .i64 0) (.string ⟨#[]⟩) (.int .i64 0) (.int .i64 0):=by rw [hW2];exact (hB1.below (below_dn _ _)).below ((Below.refl _ _).alloc (Nat.le_refl _) _)
   have hBb:Blk4 W2 (w.heap.size+1) (.int .i64 1) (.string ⟨#[]⟩) (.int .i64 0) (.int .i64 po):=by
    rw [hW2,← hs1];exact blk4_new (W1.drewN q5) _ _ _ _
   have hg2:w.grownBy W2 (some R):=by rw [hW2];exact grown_alloc (grown_dn hg1 _) _
   have hs2:W2.heap.size=w.heap.size+2:=by rw [hW2];simp;exact hs1
   rw [← hW2]
   clear hW2 hR1 hB1 hg1 hs1
   refine (rdat_any W2 R s _ L bad i n hR2 (by omega)).mono ?_
   rintro e w2 ⟨rfl,q6,rfl⟩
   have hcase:(i+n < L.length∧posAt s L (i+n)=en)∨(¬ i+n < L.length∧0≤bad∧en=bad)∨(¬ i+n < L.length∧¬ 0≤bad∧posAt s L (i+n)=en):=by
    by_cases h:i+n < L.length
    ·exact .inl ⟨h,HP3.out h⟩
    ·by_cases h2:0≤bad
     ·exact .inr (.inl ⟨h,h2,(HP4.out h).1 (by omega)⟩)
     ·exact .inr (.inr ⟨h,h2,((HP4.out h).2 (by omega)).symm⟩)
   obtain ⟨pe,hpe⟩:∃ pe,posAt s L (i+n)=pe:=⟨_,rfl⟩
   rw [hpe] at hcase ⊢
   have hR3:=hR2.drewN q6
   have hBa3:=hBa.below (below_dn W2 q6)
   have hBb3:=hBb.below (below_dn W2 q6)
   have hg3:=grown_dn hg2 q6
   have hs3:(W2.drewN q6).heap.size=w.heap.size+2:=hs2
   generalize W2.drewN q6=W3 at hR3 hBa3 hBb3 hg3 hs3 ⊢
   clear hpe hR2 hBa hBb hg2 hs2 HP3 HP4
   obtain ⟨⟨k0,k1,k2,k3⟩,f0,f1,f2,f3⟩:=rd_cells hR3.rd
   obtain ⟨⟨a0,a1,a2,a3⟩,fa0,fa1,fa2,fa3⟩:=blk4 hBa3
   obtain ⟨⟨b0,b1,b2,b3⟩,fb0,fb1,fb2,fb3⟩:=blk4 hBb3
   have hw1:IntKind.i64.wrap ((i:Int)+(n:Int))=(i:Int)+(n:Int):=by rw [IntKind.wrap_i64];omega
   have hne1:R≠w.heap.size:=by omega
   have hne2:R≠w.heap.size+1:=by omega
   have hq:(isWrd T=true∧K=3)∨(isWrd T=false∧K=1):=by
    have:=HK.out
    rcases h:isWrd T with _ | _
    ·rw [h] at this;exact .inr ⟨rfl,this⟩
    ·rw [h] at this;exact .inl ⟨rfl,this⟩
   obtain ⟨bv,hbv⟩:∃ bv,bv=decide (n≤12):=⟨_,rfl⟩
   have hbi:decide ((n:Int)≤12)=b:=by
    rw [HB.out,Bool.eq_iff_iff,decide_eq_true_iff,decide_eq_true_iff];omega
   have HBI:=Lib.hid hbi
   clear hbi hbv bv HK HB
   have hdec:(((L.length:Int)≤(i:Int)+(n:Int))∧0≤bad∧en=bad)∨(decide ((L.length:Int)≤(i:Int)+(n:Int))=false∧pe=en)∨(((L.length:Int)≤(i:Int)+(n:Int))∧¬ 0≤bad∧pe=en):=by
    rcases hcase with ⟨h1,h2⟩ | ⟨h1,h2,h3⟩ | ⟨h1,h2,h3⟩
    ·exact .inr (.inl ⟨by rw [decide_eq_false_iff_not];omega,h2⟩)
    ·exact .inl ⟨by omega,h2,h3⟩
    ·exact .inr (.inr ⟨by omega,h2,h3⟩)
   clear hcase
   rcases hdec with ⟨hge,hbd,rfl⟩ | ⟨hge,rfl⟩ | ⟨hge,hbd,rfl⟩
   all_goals
    go_wp2
    go_quiet (fail)
    have hR4:=hR3.drewN nq
    have hBa4:=hBa3.below (below_dn W3 nq)
    have hBb4:=hBb3.below (below_dn W3 nq)
    have hg4:=grown_dn hg3 nq
    have hs4:(W3.drewN nq).heap.size=w.heap.size+2:=hs3
    generalize W3.drewN nq=W4 at hR4 hBa4 hBb4 hg4 hs4 ⊢
    clear k0 k1 k2 k3 f0 f1 f2 f3 a0 a1 a2 a3 fa0 fa1 fa2 fa3 b0 b1 b2 b3 fb0 fb1 fb2 fb3 hR3 hBa3 hBb3 hg3 hs3
    obtain ⟨⟨k0,k1,k2,k3⟩,f0,f1,f2,f3⟩:=rd_cells hR4.rd
    obtain ⟨⟨a0,a1,a2,a3⟩,fa0,fa1,fa2,fa3⟩:=blk4 hBa4
    obtain ⟨⟨b0,b1,b2,b3⟩,fb0,fb1,fb2,fb3⟩:=blk4 hBb4
    go_wp2_with fail
    go_still_tail 9,(by kernel_rfl)
    change wpList _ _ _ _ _ W4.drew
    have hd4:Below W4.heap.size W4 W4.drew:=(Below.refl W4.heap.size W4).trans ⟨rfl,rfl,rfl,Nat.le_refl _,fun _ _=>rfl⟩
    have hR5:=hR4.below hd4
    have hBa5:=hBa4.below hd4
    have hBb5:=hBb4.below hd4
    have hg5:=hg4.trans (grown_of_below hd4 _)
    have hs5:W4.drew.heap.size=w.heap.size+2:=hs4
    generalize W4.drew=W5 at hR5 hBa5 hBb5 hg5 hs5 ⊢
    clear hd4 k0 k1 k2 k3 f0 f1 f2 f3 a0 a1 a2 a3 fa0 fa1 fa2 fa3 b0 b1 b2 b3 fb0 fb1 fb2 fb3 hR4 hBa4 hBb4 hg4 hs4
    obtain ⟨⟨k0,k1,k2,k3⟩,f0,f1,f2,f3⟩:=rd_cells hR5.rd
    obtain ⟨⟨a0,a1,a2,a3⟩,fa0,fa1,fa2,fa3⟩:=blk4 hBa5
    obtain ⟨⟨b0,b1,b2,b3⟩,fb0,fb1,fb2,fb3⟩:=blk4 hBb5
    go_wp2_with fail
    rw [← HTX.out]
    have hR6:=rd_set (rd_other hR5.rd ⟨w.heap.size+1,1,none⟩ hne2 (.string T)) ((i:Int)+(n:Int))
    have hBa6:=blk_other (blk_other hBa5 ⟨w.heap.size+1,1,none⟩ (by simp) (.string T)) ⟨R,3,none⟩ (fun e=>hne1 e.symm) (.int .i64 ((i:Int)+(n:Int)))
    have hBb6:=blk_other (blk_set1 hBb5 (.string T)) ⟨R,3,none⟩ (fun e=>hne2 e.symm) (.int .i64 ((i:Int)+(n:Int)))
    have hg6:=grown_R (grown_new hg5 ⟨w.heap.size+1,1,none⟩ (by simp) (.string T)) 3 (.int .i64 ((i:Int)+(n:Int)))
    have hs6:((W5.setCell ⟨w.heap.size+1,1,none⟩ (.string T)).setCell ⟨R,3,none⟩ (.int .i64 ((i:Int)+(n:Int)))).heap.size=w.heap.size+2:=by simp;exact hs5
    generalize (W5.setCell ⟨w.heap.size+1,1,none⟩ (.string T)).setCell ⟨R,3,none⟩ (.int .i64 ((i:Int)+(n:Int)))=W6 at hR6 hBa6 hBb6 hg6 hs6 ⊢
    clear k0 k1 k2 k3 f0 f1 f2 f3 a0 a1 a2 a3 fa0 fa1 fa2 fa3 b0 b1 b2 b3 fb0 fb1 fb2 fb3 hR5 hBa5 hBb5 hg5 hs5
    rcases hq with ⟨hq,rfl⟩ | ⟨hq,rfl⟩
    ·refine (refword_is T _ _ hq).mono ?_
     rintro e w7 ⟨rfl,hb7⟩
     have hR7:=hR6.below hb7
     have hBa7:=hBa6.below hb7
     have hBb7:=hBb6.below hb7
     have hg7:=hg6.trans (grown_of_below hb7 _)
     have hs7:w.heap.size+2≤w7.heap.size:=by have:=hb7.size;omega
     clear hb7 hR6 hBa6 hBb6 hg6 hs6
     obtain ⟨⟨a0,a1,a2,a3⟩,fa0,fa1,fa2,fa3⟩:=blk4 hBa7
     obtain ⟨⟨b0,b1,b2,b3⟩,fb0,fb1,fb2,fb3⟩:=blk4 hBb7
     have hbi:=HBI.out
     go_wp2
     have hB9:=(blk_other hBa7 ⟨w.heap.size+1,0,none⟩ (by simp) (.int .i64 3)).set (.int .i64 3) (.string T) (.int .i64 0) (.int .i64 po)
     obtain ⟨⟨j0,j1,j2,j3⟩,g0,g1,g2,g3⟩:=blk4 hB9
     refine bodyPost_ret (v:=.tuple #[.agg #[.int .i64 3,.string T,.int .i64 0,.int .i64 po],.bool b]) (by simp [results,Tryd.results87,go_sem,j0,j1,j2,j3]) rfl ⟨rfl,?_,?_⟩
     ·refine rd_other ?_ _ hne1 _
      refine rd_other ?_ _ hne1 _
      refine rd_other ?_ _ hne1 _
      refine rd_other ?_ _ hne1 _
      refine rd_other ?_ _ hne2 _
      exact hR7
     ·refine grown_new ?_ _ (by simp) _
      refine grown_new ?_ _ (by simp) _
      refine grown_new ?_ _ (by simp) _
      refine grown_new ?_ _ (by simp) _
      refine grown_new ?_ _ (by simp) _
      exact hg7
    ·refine (refword_is T _ _ hq).mono ?_
     rintro e w7 ⟨rfl,hb7⟩
     have hR7:=hR6.below hb7
     have hBa7:=hBa6.below hb7
     have hBb7:=hBb6.below hb7
     have hg7:=hg6.trans (grown_of_below hb7 _)
     have hs7:w.heap.size+2≤w7.heap.size:=by have:=hb7.size;omega
     clear hb7 hR6 hBa6 hBb6 hg6 hs6
     obtain ⟨⟨a0,a1,a2,a3⟩,fa0,fa1,fa2,fa3⟩:=blk4 hBa7
     obtain ⟨⟨b0,b1,b2,b3⟩,fb0,fb1,fb2,fb3⟩:=blk4 hBb7
     have hbi:=HBI.out
     go_wp2
     have hB9:=hBa7.set (.int .i64 1) (.string T) (.int .i64 0) (.int .i64 po)
     obtain ⟨⟨j0,j1,j2,j3⟩,g0,g1,g2,g3⟩:=blk4 hB9
     refine bodyPost_ret (v:=.tuple #[.agg #[.int .i64 1,.string T,.int .i64 0,.int .i64 po],.bool b]) (by simp [results,Tryd.results87,go_sem,j0,j1,j2,j3]) rfl ⟨rfl,?_,?_⟩
     ·refine rd_other ?_ _ hne1 _
      refine rd_other ?_ _ hne1 _
      refine rd_other ?_ _ hne1 _
      refine rd_other ?_ _ hne1 _
      exact hR7
     ·refine grown_new ?_ _ (by simp) _
      refine grown_new ?_ _ (by simp) _
      refine grown_new ?_ _ (by simp) _
      refine grown_new ?_ _ (by simp) _
      exact hg7
theorem dg_not (r:Int) (h:dgB r=false):¬ cls r=2:=by
 unfold dgB at h
 simpa using h
set_option maxRecDepth 100000 in
set_option maxHeartbeats 4000000 in
theorem rnumber_any (w:World) (R:Nat) (s:ByteArray) (lv:Value) (L:RL) (bad:Int) (i:Nat) (hS:RS w R s lv L bad i) (hi:i < L.length) (h1:cls (L[i]'hi).1=2)
  (po:Int) (hpo:(L[i]'hi).2=po) (N:Int) (hN:N=numV 0 (L.drop i)) (b:Bool) (hb:b=decide (N≤99∧¬ ((L[i]'hi).1=48∧1 < cnt dgB (L.drop i)))) :
  Calls Tryd.prog 88 #[.pointer (some ⟨R,0,none⟩)] w fun e w'=>e=.returned (.tuple #[.agg #[.int .i64 2,.string ⟨#[]⟩,.int .i64 N,.int .i64 po],.bool b])∧Rd w' R s lv bad ((i:Int)+cnt dgB (L.drop i))∧w.grownBy w' (some R):=by
 obtain ⟨a,cap,rfl,hrow⟩:=hS.slice
 have hRlt:=hS.rd.lt
 have hlsz:=hS.sz
 have hc1:1≤cnt dgB (L.drop i):=by
  rw [drop_at L i hi,cnt_pos (by unfold dgB;rw [h1];rfl)];omega
 have hcl:i+cnt dgB (L.drop i)≤L.length:=by have:=cnt_le dgB (L.drop i);rw [List.length_drop] at this;omega
 have hin:=cnt_in dgB L i
 have hout:=cnt_out dgB L i
 obtain ⟨c,hc⟩:∃ c,c=cnt dgB (L.drop i):=⟨_,rfl⟩
 rw [← hc] at hc1 hcl hin hout hb ⊢
 obtain ⟨z,hz⟩:∃ z,isAt L i 48=z:=⟨_,rfl⟩
 have hz48:z=true↔(L[i]'hi).1=48:=by rw [← hz,isAt_in L i 48 hi,beq_iff_eq]
 have hb':b=(decide (N≤99) && !(z && decide ((1:Int) < (c:Int)))):=by
  rw [hb,Bool.eq_iff_iff]
  simp only [decide_eq_true_iff,Bool.and_eq_true,Bool.not_eq_true',Bool.and_eq_false_imp,decide_eq_false_iff_not,hz48]
  constructor
  ·intro h;exact ⟨h.1,fun h2 h3=>h.2 ⟨h2,by omega⟩⟩
  ·intro h;exact ⟨h.1,fun h2=>h.2 h2.1 (by omega)⟩
 obtain ⟨g,rfl,hgR,hglt,hcells⟩:=hrow (by omega)
 have HIN:=Lib.hid hin
 have HOUT:=Lib.hid hout
 have HN:=Lib.hid hN
 have HB:=Lib.hid hb'
 have HPO:=Lib.hid hpo
 have HZ:=Lib.hid hz
 have HS0:=Lib.hid hS
 have HCE:=Lib.hid hcells
 clear hin hout hN hb hb' hpo h1 hc hz48 hz hrow hcells
 go_enter Tryd.func88,Tryd.ntmps88
 go_wp2_with fail
 obtain ⟨W0,hW0⟩:∃ W0,W0=w.alloc (.cells #[.int .i64 0,.string ⟨#[]⟩,.int .i64 0,.int .i64 0] 73):=⟨_,rfl⟩
 have hR0:RS W0 R s (.slice (some ⟨g,0,none⟩) L.length cap) L bad i:=by rw [hW0];exact hS.below ((Below.refl _ _).alloc (Nat.le_refl _) _)
 have hB0:Blk4 W0 w.heap.size (.int .i64 0) (.string ⟨#[]⟩) (.int .i64 0) (.int .i64 0):=by rw [hW0];exact blk4_new _ _ _ _ _
 have hg0:w.grownBy W0 (some R):=by rw [hW0];exact grown_alloc (grown_refl _ _) _
 have hs0:W0.heap.size=w.heap.size+1:=by rw [hW0];simp
 rw [← hW0]
 clear hW0 hS
 refine (rdat0 W0 R s _ L bad i hR0).mono ?_
 rintro e w2 ⟨rfl,q5,rfl⟩
 rw [show posAt s L i=po by rw [← HPO.out];unfold posAt;rw [List.getElem?_eq_getElem hi]]
 go_wp2_with fail
 obtain ⟨W2,hW2⟩:∃ W2,W2=(W0.drewN q5).alloc (.cells #[.int .i64 2,.string ⟨#[]⟩,.int .i64 0,.int .i64 po] 73):=⟨_,rfl⟩
 have hR2:RS W2 R s (.slice (some ⟨g,0,none⟩) L.length cap) L bad i:=by rw [hW2];exact (hR0.drewN q5).below ((Below.refl _ _).alloc (Nat.le_refl _) _)
 have hBa:Blk4 W2 w.heap.size (.int .i64 0) (.string ⟨#[]⟩) (.int .i64 0) (.int .i64 0):=by rw [hW2];exact (hB0.below (below_dn _ _)).below ((Below.refl _ _).alloc (Nat.le_refl _) _)
 have hBb:Blk4 W2 (w.heap.size+1) (.int .i64 2) (.string ⟨#[]⟩) (.int .i64 0) (.int .i64 po):=by
  rw [hW2,← hs0];exact blk4_new (W0.drewN q5) _ _ _ _
 have hg2:w.grownBy W2 (some R):=by rw [hW2];exact grown_alloc (grown_dn hg0 _) _
 have hs2:W2.heap.size=w.heap.size+2:=by rw [hW2];simp;exact hs0
 rw [← hW2]
 clear hW2 hR0 hB0 hg0
 refine (rdis0 W2 R s _ L bad i 48 z hR2 HZ.out).mono ?_
 rintro e w2 ⟨rfl,q6,rfl⟩
 have hR3:=hR2.drewN q6
 have hBa3:=hBa.below (below_dn W2 q6)
 have hBb3:=hBb.below (below_dn W2 q6)
 have hg3:=grown_dn hg2 q6
 have hs3:(W2.drewN q6).heap.size=w.heap.size+2:=hs2
 generalize W2.drewN q6=W3 at hR3 hBa3 hBb3 hg3 hs3 ⊢
 clear hR2 hBa hBb hg2 hs2
 clear hs0
 go_wp2
 go_loopw [6] (fun v wr=>∃ (n:Nat) (V:Int),v=.int .i64 n∧n≤c∧0≤V∧V≤1000∧Rd wr R s (.slice (some ⟨g,0,none⟩) L.length cap) bad i∧Blk4 wr w.heap.size (.int .i64 0) (.string ⟨#[]⟩) (.int .i64 0) (.int .i64 0)∧Blk4 wr (w.heap.size+1) (.int .i64 2) (.string ⟨#[]⟩) (.int .i64 V) (.int .i64 po)∧w.grownBy wr (some R)∧w.heap.size+2≤wr.heap.size∧Hid (numV V (L.drop (i+n))=numV 0 (L.drop i))) (fun v _=>c - (intOf v).toNat)
 case atStart=>exact ⟨0,0,rfl,by omega,by omega,by omega,hR3.rd,hBa3,hBb3,hg3,by omega,(rfl:numV 0 (L.drop i)=_)⟩
 case round =>
  obtain ⟨n,V,rfl,hn,hV0,hV1,hRx,hBax,hBbx,hgx,hsx,HV⟩:=hrel
  have hRSx:=HS0.out.grown hgx hRx (by omega)
  clear hR3 hBa3 hBb3 hg3 hs3
  have hne1:R≠w.heap.size:=by omega
  have hne2:R≠w.heap.size+1:=by omega
  by_cases hnc:n < c
  ·obtain ⟨hk,hp⟩:=HIN.out n hnc
   have hrg:=(dgB_iff _).1 hp
   have hstep:numV V (L.drop (i+n))=numV (min (10 * V+((L[i+n]'hk).1 - 48)) 1000) (L.drop (i+(n+1))):=by
    rw [drop_at L _ hk,numV,if_pos hp];rfl
   have HV1:=Lib.hid (hstep.symm.trans HV.out)
   have HC:=Lib.hid (show clsAt L (i+n)=2 by rw [clsAt_in L _ hk];unfold dgB at hp;simpa using hp)
   have hcell:∀ W:World,RS W R s (.slice (some ⟨g,0,none⟩) L.length cap) L bad i→W.cell? ⟨g,(i+n) * 2,none⟩=some (.int .i32 (L[i+n]'hk).1):=fun W h=>(h.row.cellAt ((i+n) * 2) (by omega)).trans (flat_get0 L (i+n) hk)
   have HCL:=Lib.hid hcell
   clear hstep HV hp hcell
   go_wp2_with fail
   refine (rdclassk _ R s _ L bad i n 2 hRSx (by omega) HC.out).mono ?_
   rintro e w2 ⟨rfl,q2,rfl⟩
   have hR4:=hRSx.drewN q2
   have hBa4:=hBax.below (below_dn _ q2)
   have hBb4:=hBbx.below (below_dn _ q2)
   have hg4:=grown_dn hgx q2
   have hs4:w.heap.size+2≤(wr.drewN q2).heap.size:=hsx
   generalize wr.drewN q2=W4 at hR4 hBa4 hBb4 hg4 hs4 ⊢
   obtain ⟨⟨k0,k1,k2,k3⟩,f0,f1,f2,f3⟩:=rd_cells hR4.rd
   obtain ⟨⟨b0,b1,b2,b3⟩,fb0,fb1,fb2,fb3⟩:=blk4 hBb4
   have hc0:=HCL.out _ hR4
   generalize (L[i+n]'hk)=qq at hc0 hrg HV1
   have hw1:IntKind.i64.wrap ((i:Int)+(n:Int))=(i:Int)+(n:Int):=by rw [IntKind.wrap_i64];omega
   have hw0:0≤(i:Int)+(n:Int):=by omega
   have hwn:((i:Int)+(n:Int)).toNat=i+n:=by omega
   have hwl:(i:Int)+(n:Int) < (L.length:Int):=by omega
   have hw2:IntKind.i32.wrap (qq.1 - 48)=qq.1 - 48:=by rw [IntKind.wrap_i32];omega
   have hw3:IntKind.i64.wrap (10 * V)=10 * V:=by rw [IntKind.wrap_i64];omega
   have hw4:IntKind.i64.wrap (qq.1 - 48)=qq.1 - 48:=by rw [IntKind.wrap_i64];omega
   have hw5:IntKind.i64.wrap (10 * V+(qq.1 - 48))=10 * V+(qq.1 - 48):=by rw [IntKind.wrap_i64];omega
   have hV2:0≤min (10 * V+(qq.1 - 48)) 1000∧min (10 * V+(qq.1 - 48)) 1000≤1000:=by omega
   clear hRx hBax hBbx hgx hsx hRSx HCL
   go_wp2_with fail
   go_still_tail 21,(by kernel_rfl)
   change wpList _ _ _ _ _ W4.drew
   have hd4:Below W4.heap.size W4 W4.drew:=(Below.refl W4.heap.size W4).trans ⟨rfl,rfl,rfl,Nat.le_refl _,fun _ _=>rfl⟩
   have hR5:=hR4.rd.below hd4
   have hBa5:=hBa4.below hd4
   have hBb5:=hBb4.below hd4
   have hg5:=hg4.trans (grown_of_below hd4 _)
   have hs5:w.heap.size+2≤W4.drew.heap.size:=hs4
   generalize W4.drew=W5 at hR5 hBa5 hBb5 hg5 hs5 ⊢
   clear hd4 k0 k1 k2 k3 f0 f1 f2 f3 b0 b1 b2 b3 fb0 fb1 fb2 fb3 hR4 hBa4 hBb4 hg4 hs4 hc0 hw1 hw0 hwn hwl hw2
   obtain ⟨⟨b0,b1,b2,b3⟩,fb0,fb1,fb2,fb3⟩:=blk4 hBb5
   go_wp2
   clear hw3 hw4 hw5
   go_roundw
   case rel=>exact ⟨n+1,_,by go_num,by omega,hV2.1,hV2.2,rd_other hR5 ⟨w.heap.size+1,2,none⟩ hne2 _,blk_other hBa5 ⟨w.heap.size+1,2,none⟩ (by simp) _,blk_set2 hBb5 _,grown_new hg5 ⟨w.heap.size+1,2,none⟩ (by simp) _,by simp;omega,HV1.out⟩
   case measure=>simp [intOf];omega
  ·obtain rfl:n=c:=by omega
   obtain ⟨cv,hcv,hcv2,hVe⟩:∃ cv,clsAt L (i+n)=cv∧¬ cv=2∧numV V (L.drop (i+n))=V:=by
    by_cases hin:i+n < L.length
    ·have hno:=HOUT.out hin
     refine ⟨_,clsAt_in L _ hin,dg_not _ hno,?_⟩
     rw [drop_at L _ hin,numV,if_neg (by rw [hno];decide)]
    ·exact ⟨-1,clsAt_out L _ hin,by omega,by rw [List.drop_of_length_le (by omega)];rfl⟩
   obtain rfl:V=N:=by rw [HN.out,← HV.out,hVe]
   have HC:=Lib.hid hcv
   have e2:(cv == 2)=false:=by rw [beq_eq_false_iff_ne];exact hcv2
   clear hcv hcv2 hVe HV HN
   go_wp2_with fail
   refine (rdclassk _ R s _ L bad i n cv hRSx (by omega) HC.out).mono ?_
   rintro e w2 ⟨rfl,q2,rfl⟩
   have hR4:=hRSx.drewN q2
   have hBa4:=hBax.below (below_dn _ q2)
   have hBb4:=hBbx.below (below_dn _ q2)
   have hg4:=grown_dn hgx q2
   have hs4:w.heap.size+2≤(wr.drewN q2).heap.size:=hsx
   generalize wr.drewN q2=W4 at hR4 hBa4 hBb4 hg4 hs4 ⊢
   obtain ⟨⟨k0,k1,k2,k3⟩,f0,f1,f2,f3⟩:=rd_cells hR4.rd
   obtain ⟨⟨a0,a1,a2,a3⟩,fa0,fa1,fa2,fa3⟩:=blk4 hBa4
   obtain ⟨⟨b0,b1,b2,b3⟩,fb0,fb1,fb2,fb3⟩:=blk4 hBb4
   have hw1:IntKind.i64.wrap ((i:Int)+(n:Int))=(i:Int)+(n:Int):=by rw [IntKind.wrap_i64];omega
   clear hRx hBax hBbx hgx hsx hRSx HC
   have hbd:=HB.out
   clear HB
   rcases (show V≤99∨¬ V≤99 by omega) with h99 | h99 <;> rcases (show (1:Int) < (n:Int)∨¬ (1:Int) < (n:Int) by omega) with h1n | h1n <;> rcases z with _ | _
   all_goals
    simp [h99,h1n] at hbd
    subst hbd
    go_wp2
    have hB9:=(blk_other hBa4 ⟨R,3,none⟩ (fun e=>hne1 e.symm) (.int .i64 ((i:Int)+(n:Int)))).set (.int .i64 2) (.string ⟨#[]⟩) (.int .i64 V) (.int .i64 po)
    obtain ⟨⟨j0,j1,j2,j3⟩,g0,g1,g2,g3⟩:=blk4 hB9
    refine bodyPost_ret (v:=.tuple #[.agg #[.int .i64 2,.string ⟨#[]⟩,.int .i64 V,.int .i64 po],.bool _]) (by first | (simp [results,Tryd.results88,go_sem,j0,j1,j2,j3];done) | (simp [results,Tryd.results88,go_sem,j0,j1,j2,j3];omega)) rfl ⟨rfl,?_,?_⟩
    ·refine rd_other ?_ _ hne1 _
     refine rd_other ?_ _ hne1 _
     refine rd_other ?_ _ hne1 _
     refine rd_other ?_ _ hne1 _
     exact rd_set hR4.rd _
    ·refine grown_new ?_ _ (by simp) _
     refine grown_new ?_ _ (by simp) _
     refine grown_new ?_ _ (by simp) _
     refine grown_new ?_ _ (by simp) _
     exact grown_R hg4 3 _
end Go.Proofs.YtmlmjopfbohglaaDoor
