/- Parts of the proof: RefB GNamesR GRefA TrA GRefBR GIsR. -/
import Derived.Test.YtmlmjopfbohglaaDoorWd13
namespace Go.Proofs.YtmlmjopfbohglaaDoor
open Go.RowKit
theorem tok_name (s:ByteArray) (L:RL) (bad:Int) (i:Nat) (hi:i < L.length) (h1:cls (L[i]'hi).1=1) (po:Int) (hpo:(L[i]'hi).2=po) :
  tokL s (endOf s bad) (L.drop i)=if cnt nmB (L.drop i)≤12 then some (⟨if isWrd (nameT s L bad i po) then 3 else 1,nameT s L bad i po,0,po⟩,cnt nmB (L.drop i)) else none:=by
 unfold nameT
 rw [← List.drop_drop,drop_at L i hi,tokL,if_pos h1,hpo]
theorem tok_num (s:ByteArray) (L:RL) (e:Int) (i:Nat) (hi:i < L.length) (h1:cls (L[i]'hi).1=2) (po:Int) (hpo:(L[i]'hi).2=po) :
  tokL s e (L.drop i)=if numV 0 (L.drop i)≤99∧¬ ((L[i]'hi).1=48∧1 < cnt dgB (L.drop i)) then some (⟨2,⟨#[]⟩,numV 0 (L.drop i),po⟩,cnt dgB (L.drop i)) else none:=by
 rw [drop_at L i hi,tokL,if_neg (by omega),if_pos h1,hpo]
theorem tok_sig (s:ByteArray) (L:RL) (e:Int) (i:Nat) (hi:i < L.length) (h1:¬ cls (L[i]'hi).1=1) (h2:¬ cls (L[i]'hi).1=2) (po:Int) (hpo:(L[i]'hi).2=po) :
  tokL s e (L.drop i)=match sigL (L.drop i) with
   | some x=>some (⟨3,x,0,po⟩,x.size)
   | none=>none:=by
 rw [drop_at L i hi,tokL,if_neg h1,if_neg h2,hpo]
 cases sigL (L[i] :: L.drop (i+1)) <;> rfl
def TokOut (s:ByteArray) (R:Nat) (lv:Value) (L:RL) (bad:Int) (i:Nat) (e:Ending) (w':World):Prop :=
 match tokL s (endOf s bad) (L.drop i) with
 | some (t,k)=>e=.returned (.tuple #[tokV (some t),.bool true])∧Rd w' R s lv bad ((i:Int)+k)
 | none=>∃ (a:Int) (b:ByteArray) (c d:Int),e=.returned (.tuple #[.agg #[.int .i64 a,.string b,.int .i64 c,.int .i64 d],.bool false])
def TokPost (w:World) (s:ByteArray) (R:Nat) (lv:Value) (L:RL) (bad:Int) (i:Nat) (e:Ending) (w':World):Prop:=w.grownBy w' (some R)∧TokOut s R lv L bad i e w'
theorem Blk4.grown {w w':World} {B R:Nat} {a b c d:Value} (h:Blk4 w B a b c d) (hg:w.grownBy w' (some R)) (hne:R≠B):Blk4 w' B a b c d:=by
 unfold Blk4 at *
 rw [hg.block B (Array.getElem?_eq_some_iff.1 h).1 (fun e=>by cases e;exact hne rfl)];exact h
theorem TokOut.yes {s:ByteArray} {R:Nat} {lv:Value} {L:RL} {bad:Int} {i:Nat} {w':World} {t:Tok} {k:Nat} {v:Value} (h:tokL s (endOf s bad) (L.drop i)=some (t,k)) (hv:v=tokV (some t)) (hd:Rd w' R s lv bad ((i:Int)+k)) :
  TokOut s R lv L bad i (.returned (.tuple #[v,.bool true])) w':=by
 unfold TokOut;rw [h,hv];exact ⟨rfl,hd⟩
theorem TokOut.no {s:ByteArray} {R:Nat} {lv:Value} {L:RL} {bad:Int} {i:Nat} {w':World} {a:Int} {b:ByteArray} {c d:Int} (h:tokL s (endOf s bad) (L.drop i)=none) :
  TokOut s R lv L bad i (.returned (.tuple #[.agg #[.int .i64 a,.string b,.int .i64 c,.int .i64 d],.bool false])) w':=by
 unfold TokOut;rw [h];exact ⟨a,b,c,d,rfl⟩
set_option maxRecDepth 100000 in
set_option maxHeartbeats 4000000 in
theorem rtoken_any (w:World) (R:Nat) (s:ByteArray) (lv:Value) (L:RL) (bad:Int) (i:Nat) (hS:RS w R s lv L bad i) (hL:L=(each s).1) (hbad:bad=(each s).2) (hi:i < L.length) :
  Calls Tryd.prog 57 #[.pointer (some ⟨R,0,none⟩)] w (TokPost w s R lv L bad i):=by
 have hRlt:=hS.rd.lt
 obtain ⟨po,hpo⟩:∃ po,(L[i]'hi).2=po:=⟨_,rfl⟩
 obtain ⟨W0,hW0⟩:∃ W0,W0=w.alloc (.cells #[.int .i64 0,.string ⟨#[]⟩,.int .i64 0,.int .i64 0] 73):=⟨_,rfl⟩
 have hR0:RS W0 R s lv L bad i:=by rw [hW0];exact hS.below ((Below.refl _ _).alloc (Nat.le_refl _) _)
 have hB0:Blk4 W0 w.heap.size (.int .i64 0) (.string ⟨#[]⟩) (.int .i64 0) (.int .i64 0):=by rw [hW0];exact blk4_new _ _ _ _ _
 have hg0:w.grownBy W0 (some R):=by rw [hW0];exact grown_alloc (grown_refl _ _) _
 have hne1:R≠w.heap.size:=by omega
 have HW:=Lib.hid hW0
 have HL:=Lib.hid hL
 have HBD:=Lib.hid hbad
 have HPO:=Lib.hid hpo
 clear hW0 hS hL hbad hpo
 have fin:∀ (w2:World) (a:Int) (b:ByteArray) (c d:Int),W0.grownBy w2 (some R)→w.grownBy ((((w2.setCell ⟨w.heap.size,0,none⟩ (.int .i64 a)).setCell ⟨w.heap.size,1,none⟩ (.string b)).setCell ⟨w.heap.size,2,none⟩ (.int .i64 c)).setCell ⟨w.heap.size,3,none⟩ (.int .i64 d)) (some R) ∧
   Blk4 ((((w2.setCell ⟨w.heap.size,0,none⟩ (.int .i64 a)).setCell ⟨w.heap.size,1,none⟩ (.string b)).setCell ⟨w.heap.size,2,none⟩ (.int .i64 c)).setCell ⟨w.heap.size,3,none⟩ (.int .i64 d)) w.heap.size (.int .i64 a) (.string b) (.int .i64 c) (.int .i64 d) ∧
   ∀ j,Rd w2 R s lv bad j→Rd ((((w2.setCell ⟨w.heap.size,0,none⟩ (.int .i64 a)).setCell ⟨w.heap.size,1,none⟩ (.string b)).setCell ⟨w.heap.size,2,none⟩ (.int .i64 c)).setCell ⟨w.heap.size,3,none⟩ (.int .i64 d)) R s lv bad j:=by
  intro w2 a b c d hg
  refine ⟨?_,(hB0.grown hg hne1).set _ _ _ _,fun j hd=>?_⟩
  ·refine grown_new ?_ _ (by simp) _
   refine grown_new ?_ _ (by simp) _
   refine grown_new ?_ _ (by simp) _
   refine grown_new ?_ _ (by simp) _
   exact hg0.trans hg
  ·refine rd_other ?_ _ hne1 _
   refine rd_other ?_ _ hne1 _
   refine rd_other ?_ _ hne1 _
   refine rd_other ?_ _ hne1 _
   exact hd
 have FIN:=Lib.hid fin
 clear fin
 by_cases h1:cls (L[i]'hi).1=1
 ·have HC:=Lib.hid (show clsAt L i=1 by rw [clsAt_in L i hi];exact h1)
  have htk:=tok_name s L bad i hi h1 po HPO.out
  have HTK:=Lib.hid htk
  have H1:=Lib.hid h1
  clear htk h1
  go_enter Tryd.func57,Tryd.ntmps57
  go_wp2_with fail
  rw [← HW.out]
  refine (rdclass0 W0 R s _ L bad i 1 hR0 HC.out).mono ?_
  rintro e w1 ⟨rfl,q,rfl⟩
  go_wp2_with fail
  obtain ⟨K,hK⟩:∃ K:Int,K=if isWrd (nameT s L bad i po) then 3 else 1:=⟨_,rfl⟩
  refine (rname_any _ R s _ L bad i (hR0.drewN q) HL.out HBD.out hi H1.out po HPO.out K hK _ rfl).mono ?_
  rintro e w2 ⟨rfl,hd2,hg2⟩
  have hg3:W0.grownBy w2 (some R):=(grown_of_below (below_dn W0 q) _).trans hg2
  have hB2:=hB0.grown hg3 hne1
  obtain ⟨⟨a0,a1,a2,a3⟩,fa0,fa1,fa2,fa3⟩:=blk4 hB2
  have HKK:=Lib.hid hK
  clear hK hR0 hB0 hg2
  by_cases h12:cnt nmB (L.drop i)≤12
  ·have hb:decide (cnt nmB (L.drop i)≤12)=true:=by rw [decide_eq_true_iff];exact h12
   have HY:=Lib.hid (HTK.out.trans (if_pos h12))
   rw [hb]
   clear hb h12
   go_wp2
   obtain ⟨hgf,hB9,hdf⟩:=FIN.out w2 K (nameT s L bad i po) 0 po hg3
   obtain ⟨⟨j0,j1,j2,j3⟩,g0,g1,g2,g3⟩:=blk4 hB9
   exact bodyPost_ret (v:=.tuple #[.agg #[.int .i64 K,.string (nameT s L bad i po),.int .i64 0,.int .i64 po],.bool true]) (by simp [results,Tryd.results57,go_sem,j0,j1,j2,j3]) rfl ⟨hgf,.yes HY.out (by rw [HKK.out];rfl) (hdf _ hd2)⟩
  ·have hb:decide (cnt nmB (L.drop i)≤12)=false:=by rw [decide_eq_false_iff_not];exact h12
   have HY:=Lib.hid (HTK.out.trans (if_neg h12))
   rw [hb]
   clear hb h12
   go_wp2
   obtain ⟨hgf,hB9,hdf⟩:=FIN.out w2 K (nameT s L bad i po) 0 po hg3
   obtain ⟨⟨j0,j1,j2,j3⟩,g0,g1,g2,g3⟩:=blk4 hB9
   exact bodyPost_ret (v:=.tuple #[.agg #[.int .i64 K,.string (nameT s L bad i po),.int .i64 0,.int .i64 po],.bool false]) (by simp [results,Tryd.results57,go_sem,j0,j1,j2,j3]) rfl ⟨hgf,.no HY.out⟩
 ·by_cases h2:cls (L[i]'hi).1=2
  ·have HC:=Lib.hid (show clsAt L i=2 by rw [clsAt_in L i hi];exact h2)
   have htk:=tok_num s L (endOf s bad) i hi h2 po HPO.out
   have HTK:=Lib.hid htk
   have H1:=Lib.hid h2
   clear htk h2 h1
   go_enter Tryd.func57,Tryd.ntmps57
   go_wp2_with fail
   rw [← HW.out]
   refine (rdclass0 W0 R s _ L bad i 2 hR0 HC.out).mono ?_
   rintro e w1 ⟨rfl,q,rfl⟩
   go_wp2_with fail
   obtain ⟨N,hN⟩:∃ N:Int,N=numV 0 (L.drop i):=⟨_,rfl⟩
   refine (rnumber_any _ R s _ L bad i (hR0.drewN q) hi H1.out po HPO.out N hN _ rfl).mono ?_
   rintro e w2 ⟨rfl,hd2,hg2⟩
   have hg3:W0.grownBy w2 (some R):=(grown_of_below (below_dn W0 q) _).trans hg2
   have hB2:=hB0.grown hg3 hne1
   obtain ⟨⟨a0,a1,a2,a3⟩,fa0,fa1,fa2,fa3⟩:=blk4 hB2
   have htk:=HTK.out
   rw [← hN] at htk
   clear hN HTK hR0 hB0 hg2
   by_cases h12:N≤99∧¬ ((L[i]'hi).1=48∧1 < cnt dgB (L.drop i))
   ·rw [decide_eq_true h12]
    have HY:=Lib.hid (htk.trans (if_pos h12))
    clear h12 htk
    go_wp2
    obtain ⟨hgf,hB9,hdf⟩:=FIN.out w2 2 ⟨#[]⟩ N po hg3
    obtain ⟨⟨j0,j1,j2,j3⟩,g0,g1,g2,g3⟩:=blk4 hB9
    exact bodyPost_ret (v:=.tuple #[.agg #[.int .i64 2,.string ⟨#[]⟩,.int .i64 N,.int .i64 po],.bool true]) (by simp [results,Tryd.results57,go_sem,j0,j1,j2,j3]) rfl ⟨hgf,.yes HY.out rfl (hdf _ hd2)⟩
   ·rw [decide_eq_false h12]
    have HY:=Lib.hid (htk.trans (if_neg h12))
    clear h12 htk
    go_wp2
    obtain ⟨hgf,hB9,hdf⟩:=FIN.out w2 2 ⟨#[]⟩ N po hg3
    obtain ⟨⟨j0,j1,j2,j3⟩,g0,g1,g2,g3⟩:=blk4 hB9
    exact bodyPost_ret (v:=.tuple #[.agg #[.int .i64 2,.string ⟨#[]⟩,.int .i64 N,.int .i64 po],.bool false]) (by simp [results,Tryd.results57,go_sem,j0,j1,j2,j3]) rfl ⟨hgf,.no HY.out⟩
  ·obtain ⟨cv,hcv⟩:∃ cv,cls (L[i]'hi).1=cv:=⟨_,rfl⟩
   have HC:=Lib.hid (show clsAt L i=cv by rw [clsAt_in L i hi];exact hcv)
   have htk:=tok_sig s L (endOf s bad) i hi h1 h2 po HPO.out
   have HTK:=Lib.hid htk
   rw [hcv] at h1 h2
   have e1:(cv == 1)=false:=by rw [beq_eq_false_iff_ne];exact h1
   have e2:(cv == 2)=false:=by rw [beq_eq_false_iff_ne];exact h2
   clear htk h2 h1 hcv
   go_enter Tryd.func57,Tryd.ntmps57
   go_wp2_with fail
   rw [← HW.out]
   refine (rdclass0 W0 R s _ L bad i cv hR0 HC.out).mono ?_
   rintro e w1 ⟨rfl,q,rfl⟩
   go_wp2_with fail
   refine (rsign_any _ R s _ L bad i (hR0.drewN q) hi po HPO.out).mono ?_
   rintro e w2 ⟨hg2,hsp⟩
   have hg3:W0.grownBy w2 (some R):=(grown_of_below (below_dn W0 q) _).trans hg2
   have hB2:=hB0.grown hg3 hne1
   obtain ⟨⟨a0,a1,a2,a3⟩,fa0,fa1,fa2,fa3⟩:=blk4 hB2
   have htk:=HTK.out
   clear HTK hR0 hB0 hg2
   rcases hs:sigL (L.drop i) with _ | x
   ·rw [hs] at hsp htk
    obtain ⟨rfl,hd2⟩:=hsp
    have HY:=Lib.hid htk
    clear htk hs
    go_wp2
    obtain ⟨hgf,hB9,hdf⟩:=FIN.out w2 0 ⟨#[]⟩ 0 0 hg3
    obtain ⟨⟨j0,j1,j2,j3⟩,g0,g1,g2,g3⟩:=blk4 hB9
    exact bodyPost_ret (v:=.tuple #[.agg #[.int .i64 0,.string ⟨#[]⟩,.int .i64 0,.int .i64 0],.bool false]) (by simp [results,Tryd.results57,go_sem,j0,j1,j2,j3]) rfl ⟨hgf,.no HY.out⟩
   ·rw [hs] at hsp htk
    obtain ⟨rfl,hd2⟩:=hsp
    have HY:=Lib.hid htk
    clear htk hs
    go_wp2
    obtain ⟨hgf,hB9,hdf⟩:=FIN.out w2 3 x 0 po hg3
    obtain ⟨⟨j0,j1,j2,j3⟩,g0,g1,g2,g3⟩:=blk4 hB9
    exact bodyPost_ret (v:=.tuple #[.agg #[.int .i64 3,.string x,.int .i64 0,.int .i64 po],.bool true]) (by simp [results,Tryd.results57,go_sem,j0,j1,j2,j3]) rfl ⟨hgf,.yes HY.out rfl (hdf _ hd2)⟩
end Go.Proofs.YtmlmjopfbohglaaDoor
namespace Go.Proofs.YtmlmjopfbohglaaDoor
open Go.RowKit
theorem skp_idem:∀ (L:RL) (b:Bool),skp false (skp b L)=skp b L:=by
 intro L
 induction L with
 | nil=>intro b;cases b <;> rfl
 | cons q L ih =>
  intro b
  cases b with
  | false =>
   by_cases h3:cls q.1=3
   ·have e:skp false (q :: L)=skp false L:=by rw [skp,if_pos h3]
    rw [e];exact ih false
   ·by_cases h35:q.1=35
    ·have e:skp false (q :: L)=skp true L:=by rw [skp,if_neg h3,if_pos h35]
     rw [e];exact ih true
    ·have e:skp false (q :: L)=q :: L:=by rw [skp,if_neg h3,if_neg h35]
     rw [e,e]
  | true =>
   by_cases h10:q.1=10
   ·have e:skp true (q :: L)=skp false L:=by rw [skp,if_pos h10]
    rw [e];exact ih false
   ·have e:skp true (q :: L)=skp true L:=by rw [skp,if_neg h10]
    rw [e];exact ih true
theorem refL_skp (s:ByteArray) (e:Int) (f:Nat) (X:RL):refL s e f X=refL s e f (skp false X):=by
 cases f with
 | zero=>rfl
 | succ f =>
  conv=>rhs;unfold refL
  conv=>lhs;unfold refL
  rw [skp_idem]
def refAt (s:ByteArray) (L:RL) (e:Int) (acc:List Tok) (f i:Nat):Prop:=(lexT s).1=acc ++ (refL s e f (L.drop i)).1∧(lexT s).2=(refL s e f (L.drop i)).2∧skp false (L.drop i)=L.drop i
theorem refAt_start (s:ByteArray) (L:RL) (bad:Int) (hL:L=(each s).1) (hb:bad=(each s).2) (i:Nat) (hi:L.drop i=skp false (L.drop 0)):refAt s L (endOf s bad) [] L.length i:=by
 have h:=toks_ref s L.length (by rw [hL];exact Nat.le_refl _)
 rw [← hL,← hb,refL_skp] at h
 rw [List.drop_zero] at hi
 unfold refAt
 rw [h,hi]
 exact ⟨rfl,rfl,skp_idem _ _⟩
theorem refAt_some {s:ByteArray} {L:RL} {e:Int} {acc:List Tok} {f i j k:Nat} {t:Tok} (h:refAt s L e acc (f+1) i) (ht:tokL s e (L.drop i)=some (t,k)) (hj:L.drop j=skp false (L.drop (i+k))):refAt s L e (acc ++ [t]) f j:=by
 obtain ⟨h1,h2,h3⟩:=h
 unfold refL at h1 h2
 rw [h3] at h1 h2
 rcases hd:L.drop i with _ | ⟨q,M⟩
 ·rw [hd] at ht;cases ht
 ·rw [hd] at h1 h2 ht
  simp only [ht] at h1 h2
  have e1:(q :: M).drop k=L.drop (i+k):=by rw [← hd,List.drop_drop]
  rw [e1,refL_skp,← hj] at h1 h2
  exact ⟨by rw [h1,List.append_assoc];rfl,h2,by rw [hj];exact skp_idem _ _⟩
theorem refAt_none {s:ByteArray} {L:RL} {e:Int} {acc:List Tok} {f i:Nat} (h:refAt s L e acc (f+1) i) (hi:i < L.length) (ht:tokL s e (L.drop i)=none):(lexT s).2=some (L[i]'hi).2:=by
 obtain ⟨_,h2,h3⟩:=h
 unfold refL at h2
 rw [h3] at h2
 rw [drop_at L i hi] at h2 ht
 simp only [ht] at h2
 exact h2
theorem refAt_end {s:ByteArray} {L:RL} {e:Int} {acc:List Tok} {f i:Nat} (h:refAt s L e acc f i) (hi:¬ i < L.length):acc=(lexT s).1∧(lexT s).2=none:=by
 obtain ⟨h1,h2,_⟩:=h
 rw [List.drop_of_length_le (by omega)] at h1 h2
 have e0:refL s e f []=([],none):=by cases f <;> rfl
 rw [e0] at h1 h2
 exact ⟨by rw [h1];simp,h2⟩
theorem grown_mix {a b c:World} {r:Nat} {row:Option Nat} (h:a.grownBy b (some r)) (k:b.grownBy c row) (hr:∀ j,row=some j→a.heap.size≤j):a.grownBy c (some r) :=
 ⟨k.os.trans h.os,k.tape.trans h.tape,k.output.trans h.output,Nat.le_trans h.size k.size,fun i hi hne=>(k.block i (Nat.lt_of_lt_of_le hi h.size) (fun e=>by have:=hr i e.symm;omega)).trans (h.block i hi hne)⟩
theorem rd_grown {a b:World} {R:Nat} {s:ByteArray} {lv:Value} {bad i:Int} {row:Option Nat} (h:Rd a R s lv bad i) (k:a.grownBy b row) (hr:∀ j,row=some j→R < j):Rd b R s lv bad i:=by
 unfold Rd at *
 rw [k.block R (Array.getElem?_eq_some_iff.1 h).1 (fun e=>by have:=hr R e.symm;omega)];exact h
set_option maxRecDepth 1000000 in
set_option maxHeartbeats 4000000 in
theorem rtokens_any (s:ByteArray) (w:World) (hs:s.size≤1000000) (hU:Lib.Utf8Tabs 0 1 w) :
  Calls Tryd.prog 25 #[.string s] w (TokensPost s w):=by
 by_cases h2000:s.size≤2000
 ·obtain ⟨i0,hi,hz0,hz1,hz2⟩:=info_parts Tryd.infoTok
  go_enter Tryd.func25,Tryd.ntmps25
  go_wp2_with fail
  obtain ⟨Wr,hWr⟩:∃ Wr,Wr=w.alloc (.cells #[.string s,.slice none 0 0,.int .i64 0,.int .i64 0] 106):=⟨_,rfl⟩
  have hbr:Below w.heap.size w Wr:=by rw [hWr];exact (Below.refl _ _).alloc (Nat.le_refl _) _
  have hRr:Rd Wr w.heap.size s (.slice none 0 0) 0 0:=by rw [hWr];exact alloc_at _ _
  have hsr:Wr.heap.size=w.heap.size+1:=by rw [hWr];simp
  rw [← hWr]
  clear hWr
  refine (reach_any s Wr hs (Utf8Tabs_below hU hbr)).mono ?_
  rintro e w2 ⟨lv,rfl,hown,hb2⟩
  obtain ⟨L,hL⟩:∃ L,L=(each s).1:=⟨_,rfl⟩
  obtain ⟨bad,hbad⟩:∃ bad,bad=(each s).2:=⟨_,rfl⟩
  have hLn:L.length≤2000:=by rw [hL];have:=each_len s;omega
  rw [← hL,hsr] at hown
  rw [← hbad]
  have hR2:=hRr.below hb2
  obtain ⟨⟨k0,k1,k2,k3⟩,f0,f1,f2,f3⟩:=rd_cells hR2
  have hsz2:=hb2.size
  have HL:=Lib.hid hL
  have HBD:=Lib.hid hbad
  clear hL hbad
  obtain ⟨la,lcap,rfl⟩:∃ a cap,lv=.slice a L.length cap:=by
   rcases hown.2 with ⟨rfl,h0⟩ | ⟨g,cap,cur,rfl,_⟩
   ·exact ⟨none,0,by rw [h0]⟩
   ·exact ⟨_,cap,rfl⟩
  go_wp2_with fail
  obtain ⟨W3,hW3⟩:∃ W3,W3=(w2.setCell ⟨w.heap.size,1,none⟩ (.slice la L.length lcap)).setCell ⟨w.heap.size,2,none⟩ (.int .i64 bad):=⟨_,rfl⟩
  have hR3:RS W3 w.heap.size s (.slice la L.length lcap) L bad 0:=by
   rw [hW3]
   refine ⟨?_,ownsRow_setCell_below (ownsRow_setCell_below hown (show w.heap.size < w.heap.size+1 by omega) _) (show w.heap.size < w.heap.size+1 by omega) _,by omega,by omega⟩
   have h1:=heap_setCell_same w2 w.heap.size 1 _ _ (.slice la L.length lcap) hR2
   exact heap_setCell_same _ w.heap.size 2 _ _ (.int .i64 bad) h1
  have hb3:Below w.heap.size w W3:=by rw [hW3];exact ((hbr.trans (hb2.mono hbr.size)).setCell (by simp) _).setCell (by simp) _
  rw [← hW3]
  clear hW3 hR2 k0 k1 k2 k3 f0 f1 f2 f3 hown hb2 hbr hRr hsr hsz2
  have hlt3:=hR3.rd.lt
  refine (skip_any W3 w.heap.size s _ L bad 0 hR3).mono ?_
  rintro e w4 ⟨rfl,i1,hR4,hg4,hi1,hd4⟩
  have HA:=Lib.hid (refAt_start s L bad HL.out HBD.out i1 hd4)
  clear hd4
  go_wp2
  go_loopg [6] L.length (fun gf v wr=>∃ (i:Nat) (acc:List Tok),Rd wr w.heap.size s (.slice la L.length lcap) bad i∧i≤L.length∧W3.grownBy wr (some w.heap.size)∧wr.ownsRow W3.heap.size 73 4 v acc.length (flatT acc)∧Hid (refAt s L (endOf s bad) acc gf i)∧L.length≤i+gf∧acc.length≤i)
  case atStart=>exact ⟨i1,[],hR4.rd,hR4.le,hg4,World.ownsRow_nil _ _ _ _,HA.out,by omega,by simp⟩
  case round =>
   obtain ⟨i,acc,hRx,hil,hgx,hown,HS,hfu,hal⟩:=hrel
   clear HA hR4 hg4
   have hbx:Below w.heap.size w wr:=Below.grown hb3 hgx (by omega) (fun j hj=>by cases hj;omega)
   have hRS:=hR3.grown hgx hRx hil
   obtain ⟨⟨k0,k1,k2,k3⟩,f0,f1,f2,f3⟩:=rd_cells hRx
   by_cases hiL:i < L.length
   ·obtain ⟨f',rfl⟩:∃ f',gk=f'+1:=⟨gk - 1,by omega⟩
    have hlt:(i:Int) < (L.length:Int):=by omega
    go_wp2
    go_quiet (fail)
    have hRS1:=hRS.drewN nq
    have hg1:=grown_dn hgx nq
    have hb1:=below_drewN hbx nq
    have hown1:=own_below hown (below_dn wr nq)
    generalize wr.drewN nq=W5 at hRS1 hg1 hb1 hown1 ⊢
    clear k0 k1 k2 k3 f0 f1 f2 f3 hRx hgx hown hRS hbx
    go_wp2_with fail
    refine (rdat0 W5 w.heap.size s _ L bad i hRS1).mono ?_
    rintro e w6 ⟨rfl,q6,rfl⟩
    rw [show posAt s L i=(L[i]'hiL).2 by unfold posAt;rw [List.getElem?_eq_getElem hiL]]
    go_wp2_with fail
    refine (rtoken_any _ w.heap.size s _ L bad i (hRS1.drewN q6) HL.out HBD.out hiL).mono ?_
    rintro e w7 ⟨hg7,hout⟩
    have hg8:W3.grownBy w7 (some w.heap.size):=(grown_dn hg1 q6).trans hg7
    have hb7:Below w.heap.size w w7:=Below.grown hb3 hg8 (by omega) (fun j hj=>by cases hj;omega)
    have hown7:=own_grown (own_below hown1 (below_dn W5 q6)) hg7 hlt3
    unfold TokOut at hout
    have hsz7:=hg8.size
    clear hg7 hRS1 hg1 hb1 hown1
    rcases htk:tokL s (endOf s bad) (L.drop i) with _ | ⟨tk,k⟩
    ·rw [htk] at hout
     obtain ⟨ta,tb,tc,td,rfl⟩:=hout
     have HO:=Lib.hid (toks_fault h2000 (refAt_none HS.out hiL htk))
     clear htk HS
     go_wp2
     go_ret3
     exact TokensPost.err HO.out (hb7.alloc (by omega) _)
    ·rw [htk] at hout
     obtain ⟨rfl,hR7⟩:=hout
     have hkl:=tokL_len htk
     rw [List.length_drop] at hkl
     have hR7n:Rd w7 w.heap.size s (.slice la L.length lcap) bad ((i+k:Nat):Int):=by
      have h:=hR7
      rw [show (i:Int)+(k:Int)=((i+k:Nat):Int) by omega] at h
      exact h
     have HTK:=Lib.hid htk
     clear htk hR7
     obtain ⟨kd,tx,nn,po⟩:=tk
     unfold tokV
     go_wp2_with (at_builtin;refine wpList_append_own _ rfl _ _ 61 rfl W3.heap.size 73 i0 (.agg #[.int .i64 0,.string ⟨#[]⟩,.int .i64 0,.int .i64 0]) 4 40 Tryd.underlying61 hi hz0 hz1 hz2 rfl (by decide) _ _ _ rfl ((hown7.alloc _).alloc _) ⟨w7.heap.size+1,0,none⟩ 1 1 [.int .i64 kd,.string tx,.int .i64 nn,.int .i64 po] rfl rfl (cell_four_new _ _ _ _ _ _ _ (by simp)) (fun x hx=>by simp at hx;rcases hx with rfl | rfl | rfl | rfl <;> rfl) (by unfold maxLen;omega) (by omega) (by simp;omega) ?_;intro v' w8 hown' hgrow3 hnil3)
     have hga:W3.grownBy w8 (some w.heap.size):=grown_mix (grown_alloc (grown_alloc hg8 _) _) hgrow3 (fun j hj=>(hown7.lt _ hj).1)
     have hRa:Rd w8 w.heap.size s (.slice la L.length lcap) bad ((i+k:Nat):Int):=rd_grown (rd_alloc (rd_alloc hR7n _) _) hgrow3 (fun j hj=>by have:=(hown7.lt _ hj).1;omega)
     have hRSa:=hR3.grown hga hRa (by omega)
     rw [show flatT acc ++ [.int .i64 kd,.string tx,.int .i64 nn,.int .i64 po]=flatT (acc ++ [⟨kd,tx,nn,po⟩]) from (flatT_snoc acc ⟨kd,tx,nn,po⟩).symm] at hown'
     clear hgrow3 hnil3 hR7n
     refine (skip_any w8 w.heap.size s _ L bad (i+k) hRSa).mono ?_
     rintro e w9 ⟨rfl,i2,hR9,hg9,hi2,hd9⟩
     have hown9:=own_grown hown' hg9 hlt3
     have HN:=Lib.hid (refAt_some HS.out HTK.out hd9)
     have hle9:=hR9.le
     clear hd9 HS HTK
     go_wp2
     go_roundg f'
     case rel=>exact ⟨i2,acc ++ [Tok.mk kd tx nn po],hR9.rd,hle9,hga.trans hg9,by simpa using hown9,HN.out,by omega,by simp;omega⟩
     case measure=>omega
   ·have hend:=refAt_end HS.out hiL
    have hge:(L.length:Int)≤(i:Int):=by omega
    have hged:decide ((i:Int) < (L.length:Int))=false:=by rw [decide_eq_false_iff_not];omega
    clear HS
    rcases bad_range s with hbd | ⟨hbd0,hbd1⟩
    ·have HO:=Lib.hid (toks_ok h2000 hend.2 hbd hend.1)
     have hbn:bad < 0:=by rw [HBD.out];omega
     clear hend hbd
     go_wp2
     go_quiet (fail)
     have hown1:=own_below hown (below_dn wr nq)
     have hb1:=below_drewN hbx nq
     have hg1:=grown_dn hgx nq
     have hR1:=hRx.below (below_dn wr nq)
     generalize wr.drewN nq=W5 at hown1 hb1 hg1 hR1 ⊢
     clear k0 k1 k2 k3 f0 f1 f2 f3 hRx hgx hown hRS hbx
     obtain ⟨⟨k0,k1,k2,k3⟩,f0,f1,f2,f3⟩:=rd_cells hR1
     have hsz5:=hg1.size
     go_wp2_with (at_builtin;refine wpList_append_own _ rfl _ _ 61 rfl W3.heap.size 73 i0 (.agg #[.int .i64 0,.string ⟨#[]⟩,.int .i64 0,.int .i64 0]) 4 40 Tryd.underlying61 hi hz0 hz1 hz2 rfl (by decide) _ _ _ rfl (hown1.alloc _) ⟨W5.heap.size,0,none⟩ 1 1 [.int .i64 4,.string ⟨#[]⟩,.int .i64 0,.int .i64 s.size] rfl rfl (cell_four_new _ _ _ _ _ _ _ (by simp)) (fun x hx=>by simp at hx;rcases hx with rfl | rfl | rfl | rfl <;> rfl) (by unfold maxLen;omega) (by omega) (by simp;omega) ?_;intro v' w8 hown' hgrow3 hnil3)
     have hb8:Below w.heap.size w w8:=Below.grown (hb1.alloc (by omega) _) hgrow3 (by simp;omega) (fun j hj=>by have:=(hown1.lt _ hj).1;omega)
     go_ret3
     refine ⟨v',by rw [HO.out];rfl,?_,hb8⟩
     rw [HO.out]
     refine ownsRow_base ?_ (show w.heap.size≤W3.heap.size by omega)
     rw [flatT_snoc]
     simpa using hown'
    ·have hbb:¬ (each s).2 = -1:=by omega
     have HO:=Lib.hid (toks_bad h2000 hend.2 hbb)
     have hbn:0≤bad:=by rw [HBD.out];exact hbd0
     clear hend hbd0 hbd1 hbb hown
     go_wp2
     go_quiet (fail)
     go_wp2
     refine wp_region_quiet_lit (by kernel_rfl) (by kernel_rfl) ?_
     repeat (any_goals (first | go_big_quiet_step (fail) | quiet_step (fail)))
     all_goals (refine wpQuiet_nil ?_;intro _ hw';obtain ⟨nq2,hw''⟩:=hw';subst hw'')
     go_wp2
     go_ret3
     exact TokensPost.err (by rw [HO.out,HBD.out]) (by first | exact below_drewN (below_drewN hbx _) _ | exact below_drewN hbx _)
 ·have HL:=Lib.hid (toks_long (s:=s) (by omega))
  go_enter Tryd.func25,Tryd.ntmps25
  go_wp2
  go_ret3
  exact TokensPost.err HL.out (Below.refl _ _)
end Go.Proofs.YtmlmjopfbohglaaDoor
namespace Go.Proofs.YtmlmjopfbohglaaDoor
open Go.RowKit
theorem refL_len (s:ByteArray) (e:Int):∀ (f:Nat) (X:RL),(refL s e f X).1.length≤f:=by
 intro f
 induction f with
 | zero=>intro X;simp [refL]
 | succ f ih =>
  intro X
  unfold refL
  rcases skp false X with _ | ⟨q,M⟩
  ·simp
  ·simp only []
   rcases tokL s e (q :: M) with _ | ⟨t,k⟩
   ·simp
   ·have:=ih ((q :: M).drop k)
    simp
    omega
theorem toks_len (s:ByteArray):(toks s).1.length≤s.size+1:=by
 have h1:=toks_ref s (each s).1.length (Nat.le_refl _)
 have h2:=refL_len s (endOf s (each s).2) (each s).1.length (each s).1
 have h3:=each_len s
 rw [← h1] at h2
 unfold toks
 split
 ·split
  ·simp
  ·split
   ·simp;omega
   ·simp
 ·simp
theorem rtokens_is (s:ByteArray) (l:List Tok) (at' err:Int) (w:World) (hU:Lib.Utf8Tabs 0 1 w) (hs:s.size≤1000000) (h:toks s=(l,at',err)) :
  Calls Tryd.prog 25 #[.string s] w fun e w'=>∃ v,e=.returned (.tuple #[v,.int .i64 at',.int .i64 err])∧w'.ownsRow w.heap.size 73 4 v l.length (flatT l)∧Below w.heap.size w w':=by
 refine (rtokens_any s w hs hU).mono fun e w' hp=>?_
 obtain ⟨v,h1,h2,h3⟩:=hp
 rw [h] at h1 h2
 exact ⟨v,h1,h2,h3⟩
end Go.Proofs.YtmlmjopfbohglaaDoor
namespace Go.Proofs.YtmlmjopfbohglaaDoor
open Go.RowKit
end Go.Proofs.YtmlmjopfbohglaaDoor
namespace Go.Proofs.YtmlmjopfbohglaaDoor
open Go.RowKit
abbrev UT (w:World):Prop:=Lib.Utf8Tabs 0 1 w
end Go.Proofs.YtmlmjopfbohglaaDoor
namespace Go.Proofs.YtmlmjopfbohglaaDoor
open Go.RowKit
def SizePost (T:Nd) (m:Int) (w:World) (e:Ending) (w':World):Prop:=e=.returned (.int .i64 (min (T.size:Int) m))∧Below w.heap.size w w'
def SizeC (T:Nd):Prop:=∀ (m:Int) (w:World),1≤m→m≤2001→T.In w→Calls Tryd.prog 111 #[T.val,.int .i64 m] w (SizePost T m w)
set_option maxRecDepth 100000 in
set_option maxHeartbeats 4000000 in
theorem sizeUpTo_any (T:Nd):SizeC T:=by
 refine Nd.all_of (P:=SizeC) ?_ T
 rintro ⟨op,name,n,pos,a,cap,kids⟩ hk m w hm1 hm2 hin
 rw [Nd.val_def]
 unfold SizePost
 have hc5:=cellsNode
 have hsz:(Nd.mk op name n pos a cap kids).size=kids.size+1:=rfl
 rcases hin with hnil | ⟨b,o,hab,hlim,_,hin⟩
 ·obtain rfl:kids=.nil:=hnil
  show Calls _ _ #[.agg #[.string op,.string name,.int .i64 n,.int .i64 pos,.slice a 0 cap],.int .i64 m] w _
  have hr:min (((Nd.mk op name n pos a cap Fo.nil).size:Nat):Int) m=1:=by show min ((0+1:Nat):Int) m=1;omega
  rw [hr]
  clear hsz hk hr
  go_enter Tryd.func111,Tryd.ntmps111
  go_wp2
  go_loopw [5,11] (fun s i wr=>s=.int .i64 1∧i=.int .i64 0∧Below w.heap.size w wr) (fun _ _ _=>0)
  case atStart=>exact ⟨rfl,rfl,by first | exact (Below.refl _ _).alloc (Nat.le_refl _) _ | skip⟩
  case round =>
   obtain ⟨rfl,rfl,hbx⟩:=hrel
   go_wp2
   go_ret
   exact ⟨rfl,hbx⟩
 ·obtain rfl:a=some ⟨b,o,none⟩:=hab
  have hlim:kids.len≤140737488351232:=hlim
  show Calls _ _ #[.agg #[.string op,.string name,.int .i64 n,.int .i64 pos,.slice (some ⟨b,o,none⟩) kids.len cap],.int .i64 m] w _
  rw [hsz]
  have hst:=Tail.start hin hk
  clear hk hin hsz
  go_enter Tryd.func111,Tryd.ntmps111
  have HS:=Lib.hid hst
  clear hst
  go_wp2
  go_loopw [5,11] (fun s i wr=>∃ (k:Nat) (z:Int) (R:Fo),s=.int .i64 z∧i=.int .i64 k∧1≤z∧z≤m∧RowKit.Hid (min (z+R.size) m=min (((kids.size+1:Nat):Int)) m)∧RowKit.Hid (Tail wr SizeC kids R b o k)∧Below w.heap.size w wr) (fun _ i _=>kids.len - (intOf i).toNat)
  case atStart =>
   refine ⟨0,1,kids,rfl,rfl,by omega,hm1,Lib.hid (by congr 1;omega),Lib.hid (HS.out.below ((Below.refl _ _).alloc (Nat.le_refl _) _)),(Below.refl _ _).alloc (Nat.le_refl _) _⟩
  case round =>
   obtain ⟨k,z,R,rfl,rfl,hz1,hzm,HM,HT,hbx⟩:=hrel
   cases R with
   | nil =>
    have hkl:k=kids.len:=by have:=HT.out.len;simpa [Fo.len] using this
    have hres:min (((kids.size+1:Nat):Int)) m=z:=by rw [← HM.out];show min (z+((0:Nat):Int)) m=z;omega
    have HR:=Lib.hid hres
    subst hkl
    clear HM HT HS hres
    go_wp2
    go_ret
    exact ⟨by rw [HR.out];rfl,hbx⟩
   | cons op1 name1 n1 pos1 a1 cap1 kids1 rest =>
    obtain ⟨hnode,hin1,hP,hkl,hnext⟩:=HT.out.next
    have hkl':(k:Int) < kids.len:=by omega
    obtain ⟨c0,c1,c2,c3,c4⟩:=hnode
    have HN:=Lib.hid hnext
    have HI:=Lib.hid hin1
    have HP:=Lib.hid hP
    clear hnext hin1 hP HT HS
    by_cases hzz:z=m
    ·subst hzz
     have hres:min (((kids.size+1:Nat):Int)) z=z:=by rw [← HM.out];omega
     have HR:=Lib.hid hres
     clear HM hres HN HI HP
     go_wp2
     go_ret
     exact ⟨by rw [HR.out];rfl,by first | exact hbx.alloc hbx.size _ | exact hbx⟩
    ·have hzb:(z == m)=false:=by simpa using hzz
     have hzd:decide (z=m)=false:=by simpa using hzz
     have hzl:z < m:=by omega
     have hba:∀ ob,Below w.heap.size w (wr.alloc ob):=fun ob=>hbx.alloc hbx.size ob
     have HB:=Lib.hid hba
     clear hba
     go_wp2_with fail
     have hcall:=HP.out (m - z) (wr.alloc (.cells (nodeCells op1 name1 n1 pos1 a1 kids1.len cap1) 26)) (by omega) (by omega) (HI.out.below ((Below.refl _ _).alloc (Nat.le_refl _) _))
     rw [Nd.val_def] at hcall
     refine hcall.mono ?_
     rintro e w2 ⟨rfl,hb2⟩
     have hz1:(((Nd.mk op1 name1 n1 pos1 a1 cap1 kids1).size:Nat):Int)=kids1.size+1:=rfl
     have hbx2:=(HB.out _).trans (hb2.mono (HB.out _).size)
     generalize hy:min (((Nd.mk op1 name1 n1 pos1 a1 cap1 kids1).size:Nat):Int) (m - z)=y
     have hy0:0≤y∧y≤m - z:=by omega
     have HT2:=HN.out.below (((Below.refl _ _).alloc (Nat.le_refl _) _).trans (hb2.mono (by simp)))
     have HM2:min (z+y+(rest.size:Int)) m=min (((kids.size+1:Nat):Int)) m:=by
      rw [← HM.out]
      have:(((Fo.cons op1 name1 n1 pos1 a1 cap1 kids1 rest).size:Nat):Int)=kids1.size+1+rest.size:=rfl
      omega
     have HM3:=Lib.hid HM2
     have HT3:=Lib.hid HT2
     clear HM HP HI HN HM2 HT2 hcall hy hz1 HB hb2
     go_wp2
     go_roundw
     case rel=>exact ⟨k+1,z+y,rest,by go_num,by go_num,by omega,by omega,HM3,HT3,hbx2⟩
     case measure=>(try simp [intOf]);omega
end Go.Proofs.YtmlmjopfbohglaaDoor
namespace Go.Proofs.YtmlmjopfbohglaaDoor
open Go.RowKit
end Go.Proofs.YtmlmjopfbohglaaDoor
namespace Go.Proofs.YtmlmjopfbohglaaDoor
open Go.RowKit
def Fo.deep:Fo→Nat
 | .nil=>0
 | .cons _ _ _ _ _ _ k r=>max (k.deep+1) r.deep
def Nd.deep (T:Nd):Nat:=T.kids.deep+1
end Go.Proofs.YtmlmjopfbohglaaDoor
namespace Go.Proofs.YtmlmjopfbohglaaDoor
open Go.RowKit
end Go.Proofs.YtmlmjopfbohglaaDoor
namespace Go.Proofs.YtmlmjopfbohglaaDoor
open Go.RowKit
def Dc.ok (d:Dc):Bool:=nameB d.name && decide (0≤d.order) && decide (d.order≤2)
def Pd.ok (p:Pd):Bool:=nameB p.name && decide ((p.params.length:Int)≤6) && p.params.all Dc.ok && p.body.okF
structure PdFine (w:World) (p:Pd):Prop where
 params:DcsIn w p.pa p.params
 body:p.body.In w
 sized:p.body.sized
 name:p.name.size≤140737488351232
 deep:p.body.deep≤30
 size:p.body.size≤2000
theorem PdFine.below {w w':World} (hb:Below w.heap.size w w') {p:Pd} (h:PdFine w p):PdFine w' p:=⟨h.params.below hb,h.body.below hb,h.sized,h.name,h.deep,h.size⟩
def PdsIn (w:World) (a:Option Addr) (l:List Pd):Prop:=(l=[]∨∃ b o,a=some ⟨b,o,none⟩∧l.length≤140737488351232∧∀ i p,l[i]? = some p→PdAt w b (o+i * 8) p)∧∀ p ∈ l,PdFine w p
end Go.Proofs.YtmlmjopfbohglaaDoor
