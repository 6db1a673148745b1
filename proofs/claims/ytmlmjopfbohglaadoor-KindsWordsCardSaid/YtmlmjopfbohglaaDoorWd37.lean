/- Parts of the proof: RpOq RpPq RpQ. -/
import Derived.Test.YtmlmjopfbohglaaDoorWd34
import Derived.Test.YtmlmjopfbohglaaDoorWd35
import Derived.Test.YtmlmjopfbohglaaDoorWd36
namespace Go.Proofs.YtmlmjopfbohglaaDoor
open Go.RowKit
set_option maxRecDepth 100000 in
set_option maxHeartbeats 16000000 in
theorem rform_b (w:World) (B d:Nat) (p e:Int) (hS:PrS w B (.bad p e)):Calls Tryd.prog 30 #[.pointer (some ⟨B,0,none⟩),.int .i64 d] w (PostR B w (.bad p e)):=by
 have hc5:=cellsNode
 have hc4:=cellsTok
 have hB:=hS.lt
 have q3:=tok_f3
 have q0:=tok_f0
 have q2:=tok_f2
 have q1:=tok_f1
 have HS:=Lib.hid hS
 clear hS
 go_enter Tryd.func30,Tryd.ntmps30
 have HC1:=Lib.hid (renter_b d (w.alloc (boxOf ⟨#[]⟩ ⟨#[]⟩ 0 0 none 0 0)) B p e (HS.out.alloc _))
 go_wp2_with fail
 refine HC1.out.mono ?_
 rintro e1 w1 ⟨rfl,hk1,hr1⟩
 have HK1:=Lib.hid (((Kp.refl B w).alloc _).trans hk1)
 have HR1:=Lib.hid hr1
 have HBZ1:=Lib.hid (hk1.blk (new_at w (boxOf ⟨#[]⟩ ⟨#[]⟩ 0 0 none 0 0)) (by omega))
 have hzZ1:=lt_heap HBZ1.out
 clear hk1
 obtain ⟨bZ0,bZ1,bZ2,bZ3,bZ4⟩:=box_cells HBZ1.out
 obtain ⟨fZ0,fZ1,fZ2,fZ3,fZ4⟩:=box_frozen HBZ1.out
 go_wp2_with fail
 refine ret_node (B:=w.heap.size) ⟨#[]⟩ ⟨#[]⟩ 0 0 none 0 0 Tryd.results30 rfl rfl (by repeat (with_reducible first | exact node_set HBZ1.out _ _ _ _ _ _ _ | refine (Below.heap_alloc _ _ _ (by simp;omega)).trans ?_)) ⟨⟨⟨#[]⟩,⟨#[]⟩,0,0,none,0,.nil⟩,rfl,(by repeat (with_reducible first | exact HK1.out | refine Kp.alloc ?_ _ | refine Kp.set ?_ (Nat.le_refl _) _)),?_⟩
 show PrS _ B (.bad _ _)
 exact (by repeat (with_reducible first | exact HR1.out | refine PrS.alloc ?_ _ | refine PrS.set ?_ hB _))
set_option maxRecDepth 100000 in
set_option maxHeartbeats 16000000 in
theorem rform_deep (l:List Tok) (w:World) (B d:Nat) (hS:PrS w B (.good l)) (hdd:¬ (d:Int) < 30):Calls Tryd.prog 30 #[.pointer (some ⟨B,0,none⟩),.int .i64 d] w (PostR B w (.bad (hd l).pos 4)):=by
 have hc5:=cellsNode
 have hc4:=cellsTok
 have hB:=hS.lt
 have q3:=tok_f3
 have q0:=tok_f0
 have q2:=tok_f2
 have q1:=tok_f1
 have HS:=Lib.hid hS
 clear hS
 go_enter Tryd.func30,Tryd.ntmps30
 have HC1:=Lib.hid (renter_deep l d (w.alloc (boxOf ⟨#[]⟩ ⟨#[]⟩ 0 0 none 0 0)) B hdd (HS.out.alloc _))
 go_wp2_with fail
 refine HC1.out.mono ?_
 rintro e1 w1 ⟨rfl,hk1,hr1⟩
 have HK1:=Lib.hid (((Kp.refl B w).alloc _).trans hk1)
 have HR1:=Lib.hid hr1
 have HBZ1:=Lib.hid (hk1.blk (new_at w (boxOf ⟨#[]⟩ ⟨#[]⟩ 0 0 none 0 0)) (by omega))
 have hzZ1:=lt_heap HBZ1.out
 clear hk1
 obtain ⟨bZ0,bZ1,bZ2,bZ3,bZ4⟩:=box_cells HBZ1.out
 obtain ⟨fZ0,fZ1,fZ2,fZ3,fZ4⟩:=box_frozen HBZ1.out
 go_wp2_with fail
 refine ret_node (B:=w.heap.size) ⟨#[]⟩ ⟨#[]⟩ 0 0 none 0 0 Tryd.results30 rfl rfl (by repeat (with_reducible first | exact node_set HBZ1.out _ _ _ _ _ _ _ | refine (Below.heap_alloc _ _ _ (by simp;omega)).trans ?_)) ⟨⟨⟨#[]⟩,⟨#[]⟩,0,0,none,0,.nil⟩,rfl,(by repeat (with_reducible first | exact HK1.out | refine Kp.alloc ?_ _ | refine Kp.set ?_ (Nat.le_refl _) _)),?_⟩
 show PrS _ B (.bad _ _)
 exact (by repeat (with_reducible first | exact HR1.out | refine PrS.alloc ?_ _ | refine PrS.set ?_ hB _))
theorem pform_deep (f d:Nat) (l:List Tok) (h:29 < d):pForm (f+5) d l=.bad (hd l).pos 4:=by
 unfold pForm pImp pOr pAnd pUn
 rw [if_pos h]
theorem ord_ex {l:List Tok} {w:List UInt8} (h:((wrd l).toList == w)=true) (k:Int) (hk:(if w == [101,120] ++ [48] then (0:Int) else if w == [101,120] ++ [49] then 1 else if w == [101,120] ++ [50] then 2 else -1)=k):ordOf [101,120] l=k:=by
 unfold ordOf
 rw [beq_iff_eq.1 h]
 exact hk
theorem ord_all {l:List Tok} {w:List UInt8} (h:((wrd l).toList == w)=true) (k:Int) (hk:(if w == [97,108,108] ++ [48] then (0:Int) else if w == [97,108,108] ++ [49] then 1 else if w == [97,108,108] ++ [50] then 2 else -1)=k):ordOf [97,108,108] l=k:=by
 unfold ordOf
 rw [beq_iff_eq.1 h]
 exact hk
theorem wrd_k3 {l:List Tok} {c:UInt8} {r:List UInt8} (h:((wrd l).toList == c :: r)=true):((hd l).kind == 3)=true:=by
 cases hk:((hd l).kind == 3) with
 | true=>rfl
 | false =>
  rw [wrd_nil hk] at h
  have he:(⟨#[]⟩:ByteArray).toList=[]:=by decide +kernel
  rw [he] at h
  cases h
theorem bytes_eqL {x:ByteArray} {a:ByteArray} {w:List UInt8} (ha:a.toList=w) (h:(x.toList == w)=true):(x.toList == a.toList)=true:=by rw [ha];exact h
theorem bytes_neL {x:ByteArray} {a:ByteArray} {w:List UInt8} (ha:a.toList=w) (h:(x.toList == w)=false):(x.toList == a.toList)=false:=by rw [ha];exact h
theorem rq_ex1 (f:Nat) (ih:SayR 30 7 pForm f) (l:List Tok) (w:World) (B d:Nat) (hdd:d≤29) (hneed:20 * l.length≤f+1) (hS:PrS w B (.good l)) (hw:((wrd l).toList == [101,120,49])=true):Calls Tryd.prog 136 #[.pointer (some ⟨B,0,none⟩),.int .i64 d] w (PostR B w (pQuant (f+1) tExB d l)):=by
 have hd30:(d:Int) < 30:=by omega
 have hex:=ord_ex hw 1 (by decide)
 have hal:=ord_all hw (-1) (by decide)
 have h0:((wrd l).toList == (ByteArray.mk #[126]).toList)=false:=by rw [beq_iff_eq.1 hw,(show (ByteArray.mk #[126]).toList=[126] from by decide +kernel)];decide
 have hk3:=wrd_k3 hw
 have hk4:=kind_not hk3 (c:=4) (by decide)
 have hne:=ne_of_wrd hw
 have hn:ordW (hd l).text.toList=1:=by rw [← wrd_word hk3,beq_iff_eq.1 hw];decide +kernel
 have hdc:((d:Int)+1)=((d+1:Nat):Int):=by omega
 cases hk:((hd l.tail).kind == 1) with
 | false =>
  have h:=run_ex1_name l w B d hS hd30 hex hal h0 hk4 hk (fun W hr=>by rw [hdc];exact rform_b W B (d+1) _ _ hr)
  unfold pQuant
  rw [if_neg (by rw [hk];decide)]
  exact h
 | true =>
  cases hm:((wrd l.tail.tail).toList == [58]) with
  | false =>
   have h:=run_ex1_colon l w B d hS hd30 hex hal h0 hk4 hk (bytes_neL (show (ByteArray.mk #[58]).toList=[58] from by decide +kernel) hm) (fun W hr=>by rw [hdc];exact rform_b W B (d+1) _ _ hr)
   unfold pQuant
   rw [if_pos hk,if_neg (by rw [hm];decide)]
   exact h
  | true =>
   have h1:=(Suf.tail hne).len
   have h2:=(Suf.tail (ne_of_kind hk (by decide))).len
   have h3:=(Suf.tail (ne_of_wrd hm)).len
   refine run_ex1_ok (pForm f (d+1) l.tail.tail.tail) _ l w B d hS hd30 hex hal h0 hk4 hk (bytes_eqL (show (ByteArray.mk #[58]).toList=[58] from by decide +kernel) hm) (fun W hr=>by rw [hdc];exact ih l.tail.tail.tail W B (d+1) (by omega) hr) (fun m l2 h=>?_) (fun a e h=>?_)
   ·unfold pQuant
    rw [if_pos hk,if_pos hm,h,hn]
   ·unfold pQuant
    rw [if_pos hk,if_pos hm,h]
theorem rq_ex2 (f:Nat) (ih:SayR 30 7 pForm f) (l:List Tok) (w:World) (B d:Nat) (hdd:d≤29) (hneed:20 * l.length≤f+1) (hS:PrS w B (.good l)) (hw:((wrd l).toList == [101,120,50])=true):Calls Tryd.prog 136 #[.pointer (some ⟨B,0,none⟩),.int .i64 d] w (PostR B w (pQuant (f+1) tExB d l)):=by
 have hd30:(d:Int) < 30:=by omega
 have hex:=ord_ex hw 2 (by decide)
 have hal:=ord_all hw (-1) (by decide)
 have h0:((wrd l).toList == (ByteArray.mk #[126]).toList)=false:=by rw [beq_iff_eq.1 hw,(show (ByteArray.mk #[126]).toList=[126] from by decide +kernel)];decide
 have hk3:=wrd_k3 hw
 have hk4:=kind_not hk3 (c:=4) (by decide)
 have hne:=ne_of_wrd hw
 have hn:ordW (hd l).text.toList=2:=by rw [← wrd_word hk3,beq_iff_eq.1 hw];decide +kernel
 have hdc:((d:Int)+1)=((d+1:Nat):Int):=by omega
 cases hk:((hd l.tail).kind == 1) with
 | false =>
  have h:=run_ex2_name l w B d hS hd30 hex hal h0 hk4 hk (fun W hr=>by rw [hdc];exact rform_b W B (d+1) _ _ hr)
  unfold pQuant
  rw [if_neg (by rw [hk];decide)]
  exact h
 | true =>
  cases hm:((wrd l.tail.tail).toList == [58]) with
  | false =>
   have h:=run_ex2_colon l w B d hS hd30 hex hal h0 hk4 hk (bytes_neL (show (ByteArray.mk #[58]).toList=[58] from by decide +kernel) hm) (fun W hr=>by rw [hdc];exact rform_b W B (d+1) _ _ hr)
   unfold pQuant
   rw [if_pos hk,if_neg (by rw [hm];decide)]
   exact h
  | true =>
   have h1:=(Suf.tail hne).len
   have h2:=(Suf.tail (ne_of_kind hk (by decide))).len
   have h3:=(Suf.tail (ne_of_wrd hm)).len
   refine run_ex2_ok (pForm f (d+1) l.tail.tail.tail) _ l w B d hS hd30 hex hal h0 hk4 hk (bytes_eqL (show (ByteArray.mk #[58]).toList=[58] from by decide +kernel) hm) (fun W hr=>by rw [hdc];exact ih l.tail.tail.tail W B (d+1) (by omega) hr) (fun m l2 h=>?_) (fun a e h=>?_)
   ·unfold pQuant
    rw [if_pos hk,if_pos hm,h,hn]
   ·unfold pQuant
    rw [if_pos hk,if_pos hm,h]
theorem ord_no {l:List Tok} {p:List UInt8} (h0:((wrd l).toList == p ++ [48])=false) (h1:((wrd l).toList == p ++ [49])=false) (h2:((wrd l).toList == p ++ [50])=false):ordOf p l = -1:=by
 unfold ordOf
 rw [if_neg (by rw [h0];decide),if_neg (by rw [h1];decide),if_neg (by rw [h2];decide)]
theorem rforms_all:∀ f:Nat,SayR 136 3 pUn f∧SayR 116 4 pAnd f∧SayR 90 5 pOr f∧SayR 63 6 pImp f∧SayR 30 7 pForm f:=by
 intro f
 induction f using Nat.strongRecOn with
 | _ f ih =>
  refine ⟨?_,?_,?_,?_,?_⟩
  ·intro l w B d hneed hS
   obtain ⟨f',rfl⟩:∃ f',f=f'+1:=⟨f - 1,by omega⟩
   have hdc:((d:Int)+1)=((d+1:Nat):Int):=by omega
   rcases Nat.lt_or_ge 29 d with hdeep | hdeep
   ·have h:=run_deep l w B d hS (by omega)
    unfold pUn
    rw [if_pos hdeep]
    exact h
   have hnd:¬ 29 < d:=by omega
   have hd30:(d:Int) < 30:=by omega
   cases h0:((wrd l).toList == [126]) with
   | true =>
    have hne:=ne_of_wrd h0
    have hlt:=(Suf.tail hne).len
    refine run_not (pUn f' (d+1) l.tail) _ l w B d hS hd30 (ord_ex h0 (-1) (by decide)) (ord_all h0 (-1) (by decide)) (bytes_eqL (show (ByteArray.mk #[126]).toList=[126] from by decide +kernel) h0) (fun W hr=>by rw [hdc];exact (ih f' (by omega)).1 l.tail W B (d+1) (by omega) hr) (fun m l2 h=>?_) (fun a e h=>?_)
    ·unfold pUn
     rw [if_neg hnd,if_pos h0,h]
    ·unfold pUn
     rw [if_neg hnd,if_pos h0,h]
   | false =>
    have hq:l≠[]→∃ f2,f'=f2+1:=fun hne=>⟨f' - 1,by have:=List.length_pos_iff.2 hne;omega⟩
    cases q0:((wrd l).toList == [101,120,48]) with
    | true =>
     exact (nq_no (prs_nq hS) (by unfold isNo;rw [q0];rfl)).elim
    | false =>
     cases q1:((wrd l).toList == [101,120,49]) with
     | true =>
      obtain ⟨f2,rfl⟩:=hq (ne_of_wrd q1)
      have h:=rq_ex1 f2 (ih f2 (by omega)).2.2.2.2 l w B d hdeep (by omega) hS q1
      unfold pUn
      rw [if_neg hnd,if_neg (by rw [h0];decide),if_pos (by unfold isExW;rw [q1];simp)]
      exact h
     | false =>
      cases q2:((wrd l).toList == [101,120,50]) with
      | true =>
       obtain ⟨f2,rfl⟩:=hq (ne_of_wrd q2)
       have h:=rq_ex2 f2 (ih f2 (by omega)).2.2.2.2 l w B d hdeep (by omega) hS q2
       unfold pUn
       rw [if_neg hnd,if_neg (by rw [h0];decide),if_pos (by unfold isExW;rw [q2];simp)]
       exact h
      | false =>
       cases q3:((wrd l).toList == [97,108,108,48]) with
       | true =>
        exact (nq_no (prs_nq hS) (by unfold isNo isAllW;rw [q3];simp)).elim
       | false =>
        cases q4:((wrd l).toList == [97,108,108,49]) with
        | true =>
         exact (nq_no (prs_nq hS) (by unfold isNo isAllW;rw [q4];simp)).elim
        | false =>
         cases q5:((wrd l).toList == [97,108,108,50]) with
         | true =>
          exact (nq_no (prs_nq hS) (by unfold isNo isAllW;rw [q5];simp)).elim
         | false =>
          have hex:=ord_no (p:=[101,120]) q0 q1 q2
          have hal:=ord_no (p:=[97,108,108]) q3 q4 q5
          have hz:=bytes_neL (show (ByteArray.mk #[126]).toList=[126] from by decide +kernel) h0
          cases t1:((wrd l).toList == [116,114,117,101]) with
          | true =>
           have h:=run_true l w B d hS hd30 hex hal hz (bytes_eqL (show (ByteArray.mk #[116,114,117,101]).toList=[116,114,117,101] from by decide +kernel) t1)
           unfold pUn
           rw [if_neg hnd,if_neg (by rw [h0];decide),if_neg (by unfold isExW;rw [q0,q1,q2];decide),if_neg (by unfold isAllW;rw [q3,q4,q5];decide),if_pos (by rw [t1];rfl)]
           exact h
          | false =>
           have z1:=bytes_neL (show (ByteArray.mk #[116,114,117,101]).toList=[116,114,117,101] from by decide +kernel) t1
           cases t2:((wrd l).toList == [102,97,108,115,101]) with
           | true =>
            have h:=run_false l w B d hS hd30 hex hal hz z1 (bytes_eqL (show (ByteArray.mk #[102,97,108,115,101]).toList=[102,97,108,115,101] from by decide +kernel) t2)
            unfold pUn
            rw [if_neg hnd,if_neg (by rw [h0];decide),if_neg (by unfold isExW;rw [q0,q1,q2];decide),if_neg (by unfold isAllW;rw [q3,q4,q5];decide),if_pos (by rw [t1,t2];rfl)]
            exact h
           | false =>
            have z2:=bytes_neL (show (ByteArray.mk #[102,97,108,115,101]).toList=[102,97,108,115,101] from by decide +kernel) t2
            cases t3:((wrd l).toList == [40]) with
            | true =>
             have hlt:=(Suf.tail (ne_of_wrd t3)).len
             refine run_paren (pForm f' (d+1) l.tail) _ l w B d hS hd30 hex hal hz z1 z2 (bytes_eqL (show (ByteArray.mk #[40]).toList=[40] from by decide +kernel) t3) (fun W hr=>by rw [hdc];exact (ih f' (by omega)).2.2.2.2 l.tail W B (d+1) (by omega) hr) (fun m l2 h hm=>?_) (fun m l2 h hm=>?_) (fun a e h=>?_)
             ·rw [(show (ByteArray.mk #[41]).toList=[41] from by decide +kernel)] at hm
              unfold pUn
              rw [if_neg hnd,if_neg (by rw [h0];decide),if_neg (by unfold isExW;rw [q0,q1,q2];decide),if_neg (by unfold isAllW;rw [q3,q4,q5];decide),if_neg (by rw [t1,t2];decide),if_pos t3,h]
              show (if ((wrd l2).toList == [41])=true then _ else _)=_
              rw [if_pos hm]
             ·rw [(show (ByteArray.mk #[41]).toList=[41] from by decide +kernel)] at hm
              unfold pUn
              rw [if_neg hnd,if_neg (by rw [h0];decide),if_neg (by unfold isExW;rw [q0,q1,q2];decide),if_neg (by unfold isAllW;rw [q3,q4,q5];decide),if_neg (by rw [t1,t2];decide),if_pos t3,h]
              show (if ((wrd l2).toList == [41])=true then _ else _)=_
              rw [if_neg (by rw [hm];decide)]
             ·unfold pUn
              rw [if_neg hnd,if_neg (by rw [h0];decide),if_neg (by unfold isExW;rw [q0,q1,q2];decide),if_neg (by unfold isAllW;rw [q3,q4,q5];decide),if_neg (by rw [t1,t2];decide),if_pos t3,h]
            | false =>
             have h:=run_atom (pAtom f' l) l w B d hS hd30 hex hal hz z1 z2 (bytes_neL (show (ByteArray.mk #[40]).toList=[40] from by decide +kernel) t3) (fun W hr=>ratom_all f' l W B (by omega) hr)
             unfold pUn
             rw [if_neg hnd,if_neg (by rw [h0];decide),if_neg (by unfold isExW;rw [q0,q1,q2];decide),if_neg (by unfold isAllW;rw [q3,q4,q5];decide),if_neg (by rw [t1,t2];decide),if_neg (by rw [t3];decide)]
             exact h
  ·intro l w B d hneed hS
   obtain ⟨f',rfl⟩:∃ f',f=f'+1:=⟨f - 1,by omega⟩
   refine rand_of f' (fun g hg=>(ih g (by omega)).1) (.good l) (pUn f' d l) _ w B d hS (fun W hr=>(ih f' (by omega)).1 l W B d (by omega) hr) (fun t l' h=>?_) (fun a e h=>?_)
   ·have hs:=(suf_forms f').1 _ _ _ _ h
    refine ⟨?_,by have:=hs.len;omega⟩
    unfold pAnd
    rw [h]
   ·unfold pAnd
    rw [h]
  ·intro l w B d hneed hS
   obtain ⟨f',rfl⟩:∃ f',f=f'+1:=⟨f - 1,by omega⟩
   refine ror_of f' (fun g hg=>(ih g (by omega)).2.1) (.good l) (pAnd f' d l) _ w B d hS (fun W hr=>(ih f' (by omega)).2.1 l W B d (by omega) hr) (fun t l' h=>?_) (fun a e h=>?_)
   ·have hs:=(suf_forms f').2.2.1 _ _ _ _ h
    refine ⟨?_,by have:=hs.len;omega⟩
    unfold pOr
    rw [h]
   ·unfold pOr
    rw [h]
  ·intro l w B d hneed hS
   obtain ⟨f',rfl⟩:∃ f',f=f'+1:=⟨f - 1,by omega⟩
   cases hq:pOr f' d l with
   | bad a e =>
    have h:=rimp_bad (.good l) a e w B d hS (fun W hr=>by have:=(ih f' (by omega)).2.2.1 l W B d (by omega) hr;rw [hq] at this;exact this)
    unfold pImp
    rw [hq]
    exact h
   | ok n l' =>
    have hs:=(suf_forms f').2.2.2.2.1 _ _ _ _ hq
    have hor:∀ W,PrS W B (.good l)→Calls Tryd.prog 90 #[.pointer (some ⟨B,0,none⟩),.int .i64 d] W (PostR B W (.ok n l')):=fun W hr=>by have:=(ih f' (by omega)).2.2.1 l W B d (by omega) hr;rw [hq] at this;exact this
    have hp:=psg_1 (wrd l')
    cases hw:((wrd l').toList == (ByteArray.mk #[61,62]).toList) with
    | false =>
     have h:=rimp_one n l' l w B d hS hor hw
     rw [hw,if_neg (by decide)] at hp
     have hpe:((psg 1 (wrd l')).toList == [])=true:=by rw [hp];decide +kernel
     unfold pImp
     rw [hq]
     show Calls _ _ _ w (PostR B w (if ((psg 1 (wrd l')).toList == [])=true then _ else _))
     rw [if_pos hpe]
     exact h
    | true =>
     rw [hw,if_pos rfl] at hp
     have hpe:((psg 1 (wrd l')).toList == [])=false:=by rw [hp];decide +kernel
     have hlt:=hs.len
     have hlt2:=(Suf.tail (ne_of_psg hpe)).len
     refine rimp_two n l' (pImp f' d l'.tail) _ l w B d hS hor hw (word_kind hw (by decide +kernel)) (fun W hr=>(ih f' (by omega)).2.2.2.1 l'.tail W B d (by omega) hr) (fun m l2 h=>?_) (fun a e h=>?_)
     ·unfold pImp
      rw [hq]
      show (if ((psg 1 (wrd l')).toList == [])=true then _ else _)=_
      rw [if_neg (by rw [hpe];decide),h,hp]
     ·unfold pImp
      rw [hq]
      show (if ((psg 1 (wrd l')).toList == [])=true then _ else _)=_
      rw [if_neg (by rw [hpe];decide),h]
  ·intro l w B d hneed hS
   rcases Nat.lt_or_ge 29 d with hdeep | hdeep
   ·obtain ⟨f',rfl⟩:∃ f',f=f'+5:=⟨f - 5,by omega⟩
    have h:=rform_deep l w B d hS (by omega)
    rw [pform_deep f' d l hdeep]
    exact h
   obtain ⟨f',rfl⟩:∃ f',f=f'+1:=⟨f - 1,by omega⟩
   refine rformula_of f' (fun g hg=>(ih g (by omega)).2.2.2.1) (.good l) (pImp f' d l) _ w B d (fun W hr=>renter_ok l d W B (by omega) hr) hS (fun W hr=>(ih f' (by omega)).2.2.2.1 l W B d (by omega) hr) (fun t l' h=>?_) (fun a e h=>?_)
   ·have hs:=(suf_forms f').2.2.2.2.2.2.2.2 _ _ _ _ h
    refine ⟨?_,by have:=hs.len;omega⟩
    unfold pForm
    rw [h]
   ·unfold pForm
    rw [h]
def flatD:List Dc→List Value
 | []=>[]
 | d :: r=>.string d.name :: .int .i64 d.order :: .int .i64 d.pos :: flatD r
theorem flatD_len (l:List Dc):(flatD l).length=l.length * 3:=by
 induction l with
 | nil=>rfl
 | cons d r ih=>simp [flatD,ih];omega
theorem flatD_append (l m:List Dc):flatD (l ++ m)=flatD l ++ flatD m:=by
 induction l with
 | nil=>rfl
 | cons d r ih=>simp [flatD,ih]
theorem flatD_one (l:List Dc):∀ u ∈ flatD l,u.oneCell'=true:=by
 induction l with
 | nil=>intro u h;cases h
 | cons d r ih =>
  intro u h
  simp [flatD] at h
  rcases h with rfl | rfl | rfl | h
  ·rfl
  ·rfl
  ·rfl
  ·exact ih u h
theorem flatD_get:∀ (l:List Dc) (i:Nat) (d:Dc),l[i]? = some d→(flatD l)[i * 3]? = some (.string d.name)∧(flatD l)[i * 3+1]? = some (.int .i64 d.order)∧(flatD l)[i * 3+2]? = some (.int .i64 d.pos):=by
 intro l
 induction l with
 | nil=>intro i d h;simp at h
 | cons x r ih =>
  intro i d h
  cases i with
  | zero =>
   simp at h
   subst h
   exact ⟨rfl,rfl,rfl⟩
  | succ i =>
   have h2:=ih i d (by simpa using h)
   have e:∀ k,(flatD (x :: r))[(i+1) * 3+k]? = (flatD r)[i * 3+k]?:=fun k=>by
    rw [show (i+1) * 3+k=(i * 3+k)+3 by omega]
    simp [flatD]
   exact ⟨(e 0).trans h2.1,(e 1).trans h2.2.1,(e 2).trans h2.2.2⟩
def DcRow (S:Nat→Prop) (w:World) (a:Option Addr) (l:List Dc):Prop:=l=[]∨∃ b,a=some ⟨b,0,none⟩∧S b∧b < w.heap.size∧w.frozen? ⟨b,0,none⟩=false∧∀ i d,l[i]? = some d→DcAt w b (i * 3) d
theorem DcAt.same {w w':World} {b o:Nat} {d:Dc} (hs:w'.heap[b]? = w.heap[b]?) (h:DcAt w b o d):DcAt w' b o d:=⟨cell_same hs h.1,cell_same hs h.2.1,cell_same hs h.2.2⟩
theorem DcRow.from {S:Nat→Prop} {w w':World} {a:Option Addr} {l:List Dc} (h:DcRow S w a l) (hg:From S w w'):DcRow S w' a l:=by
 rcases h with h | ⟨b,h1,h2,h3,h5,h4⟩
 ·exact .inl h
 ·have hs:=hg.block b h2 h3
  refine .inr ⟨b,h1,h2,Nat.lt_of_lt_of_le h3 hg.size,?_,fun i d hd=>(h4 i d hd).same hs⟩
  rw [← h5]
  unfold World.frozen?
  rw [hs]
theorem DcRow.mono {S S':Nat→Prop} {w:World} {a:Option Addr} {l:List Dc} (h:DcRow S w a l) (hl:∀ b,S b→b < w.heap.size→S' b):DcRow S' w a l:=by
 rcases h with h | ⟨b,h1,h2,h3,h5,h4⟩
 ·exact .inl h
 ·exact .inr ⟨b,h1,hl b h2 h3,h3,h5,h4⟩
theorem DcRow.in {S:Nat→Prop} {w:World} {a:Option Addr} {l:List Dc} (h:DcRow S w a l) (hl:l.length≤140737488351232) (hn:∀ d ∈ l,d.name.size≤140737488351232):DcsIn w a l:=by
 rcases h with h | ⟨b,h1,h2,h3,h5,h4⟩
 ·exact .inl h
 ·exact .inr ⟨b,0,h1,hl,fun i d hd=>by rw [Nat.zero_add];exact h4 i d hd,hn⟩
theorem dcs_own {lo cap:Nat} {w:World} {a:Option Addr} {l:List Dc} (h:w.ownsRow lo 55 3 (.slice a l.length cap) l.length (flatD l)):DcRow (fun b=>lo≤b) w a l:=by
 rcases h.2 with ⟨h1,h0⟩ | ⟨g,cap',cur,h1,hb,hg,hrest⟩
 ·exact .inl (List.eq_nil_of_length_eq_zero h0)
 ·cases h1
  refine .inr ⟨g,rfl,hb,lt_heap hg,by simp [World.frozen?,hg],fun i d hd=>?_⟩
  obtain ⟨h2,h3,h4⟩:=flatD_get l i d hd
  have hi:i < l.length:=(List.getElem?_eq_some_iff.1 hd).1
  exact ⟨(h.cellAt _ (by omega)).trans h2,(h.cellAt _ (by omega)).trans h3,(h.cellAt _ (by omega)).trans h4⟩
theorem Tryd.infoDeclR:(Tryd.prog.info? 55).map (fun i=>(i.zero,i.size,i.bytes))=some (some (.agg #[.string ⟨#[]⟩,.int .i64 0,.int .i64 0]),3,32):=by kernel_rfl
theorem cell_three_new (w:World) (a b c:Value) (t:TypeId):∀ j u,[a,b,c][j]? = some u→(w.alloc (.cells #[a,b,c] t)).cell? ((⟨w.heap.size,0,none⟩:Addr).add j)=some u:=by
 intro j u hj
 have hx:=new_at w (.cells #[a,b,c] t)
 rw [show (⟨w.heap.size,0,none⟩:Addr).add j=⟨w.heap.size,0+j,none⟩ from by unfold Addr.add;split <;> simp_all,cell_of_row _ _ _ _ _ _ hx,Nat.zero_add]
 simpa using hj
def pDeclL:Nat→Int→List Dc→List Tok→Res (List Dc)
 | 0,_,_,_=>.bad 0 0
 | f+1,k,acc,l =>
  if (hd l).kind == 1 then
   if (wrd l.tail).toList == [44] then pDeclL f k (acc ++ [⟨(hd l).text,k,(hd l).pos⟩]) l.tail.tail
   else if (wrd l.tail).toList == [59] then .ok (acc ++ [⟨(hd l).text,k,(hd l).pos⟩]) l.tail.tail
   else .bad (hd l.tail).pos 2
  else .bad (hd l).pos 2
def pParL:Nat→List Dc→List Tok→Res (List Dc)
 | 0,_,_=>.bad 0 0
 | f+1,acc,l =>
  if decide (ordOf [118,97,114] l < 0) then .bad (hd l).pos 2
  else if acc.length == 6 then .bad (hd l.tail).pos 2
  else if (hd l.tail).kind == 1 then
   if (wrd l.tail.tail).toList == [44] then pParL f (acc ++ [⟨(hd l.tail).text,ordOf [118,97,114] l,(hd l.tail).pos⟩]) l.tail.tail.tail
   else if (wrd l.tail.tail).toList == [41] then .ok (acc ++ [⟨(hd l.tail).text,ordOf [118,97,114] l,(hd l.tail).pos⟩]) l.tail.tail.tail
   else .bad (hd l.tail.tail).pos 2
  else .bad (hd l.tail).pos 2
def pPar (f:Nat) (l:List Tok):Res (List Dc):=if (wrd l).toList == [41] then .ok [] l.tail else pParL f [] l
def OutD (B:Nat) (w':World) (ds:List Dc):Res (List Dc)→Prop
 | .ok ds' l=>PrS w' B (.good l)∧ds=ds'
 | .bad p e=>PrS w' B (.bad p e)
def PostD (B:Nat) (w:World) (m:Nat) (r:Res (List Dc)) (e:Ending) (w':World):Prop:=∃ (ds:List Dc) (a:Option Addr) (cap:Nat),e=.returned (.slice a ds.length cap)∧w'.ownsRow w.heap.size 55 3 (.slice a ds.length cap) ds.length (flatD ds)∧ds.length≤m∧Kp B w w'∧OutD B w' ds r
def flatP:List Pd→List Value
 | []=>[]
 | p :: r=>.string p.name :: .slice p.pa p.params.length p.pcap :: .string p.body.op :: .string p.body.name :: .int .i64 p.body.n :: .int .i64 p.body.pos :: .slice p.body.a p.body.kids.len p.body.cap :: .int .i64 p.pos :: flatP r
theorem flatP_append (l m:List Pd):flatP (l ++ m)=flatP l ++ flatP m:=by
 induction l with
 | nil=>rfl
 | cons d r ih=>simp [flatP,ih]
theorem flatP_get:∀ (l:List Pd) (i:Nat) (p:Pd),l[i]? = some p→(flatP l)[i * 8]? = some (.string p.name)∧(flatP l)[i * 8+1]? = some (.slice p.pa p.params.length p.pcap)∧(flatP l)[i * 8+2]? = some (.string p.body.op)∧(flatP l)[i * 8+3]? = some (.string p.body.name)∧(flatP l)[i * 8+4]? = some (.int .i64 p.body.n)∧(flatP l)[i * 8+5]? = some (.int .i64 p.body.pos)∧(flatP l)[i * 8+6]? = some (.slice p.body.a p.body.kids.len p.body.cap)∧(flatP l)[i * 8+7]? = some (.int .i64 p.pos):=by
 intro l
 induction l with
 | nil=>intro i d h;simp at h
 | cons x r ih =>
  intro i d h
  cases i with
  | zero =>
   simp at h
   subst h
   exact ⟨rfl,rfl,rfl,rfl,rfl,rfl,rfl,rfl⟩
  | succ i =>
   have h2:=ih i d (by simpa using h)
   have e:∀ k,(flatP (x :: r))[(i+1) * 8+k]? = (flatP r)[i * 8+k]?:=fun k=>by
    rw [show (i+1) * 8+k=(i * 8+k)+8 by omega]
    simp [flatP]
   exact ⟨(e 0).trans h2.1,(e 1).trans h2.2.1,(e 2).trans h2.2.2.1,(e 3).trans h2.2.2.2.1,(e 4).trans h2.2.2.2.2.1,(e 5).trans h2.2.2.2.2.2.1,(e 6).trans h2.2.2.2.2.2.2.1,(e 7).trans h2.2.2.2.2.2.2.2⟩
def Pd.strip (p:Pd):Pd:=⟨p.name,p.params,none,0,p.body.strip,p.pos⟩
structure PdOk (S:Nat→Prop) (w:World) (p:Pd):Prop where
 params:DcRow S w p.pa p.params
 body:p.body.Good S w
theorem PdOk.from {S:Nat→Prop} {w w':World} {p:Pd} (h:PdOk S w p) (hg:From S w w'):PdOk S w' p:=⟨h.params.from hg,h.body.from hg⟩
theorem PdOk.mono {S S':Nat→Prop} {w:World} {p:Pd} (h:PdOk S w p) (hl:∀ b,S b→b < w.heap.size→S' b):PdOk S' w p:=⟨h.params.mono hl,h.body.lt.mono (fun b hb=>hl b hb.1 hb.2)⟩
theorem pds_own {lo cap:Nat} {w:World} {a:Option Addr} {l:List Pd} (h:w.ownsRow lo 47 8 (.slice a l.length cap) l.length (flatP l)):l=[]∨∃ b,a=some ⟨b,0,none⟩∧b < w.heap.size∧w.frozen? ⟨b,0,none⟩=false∧∀ i p,l[i]? = some p→PdAt w b (i * 8) p:=by
 rcases h.2 with ⟨h1,h0⟩ | ⟨g,cap',cur,h1,hb,hg,hrest⟩
 ·exact .inl (List.eq_nil_of_length_eq_zero h0)
 ·cases h1
  refine .inr ⟨g,rfl,lt_heap hg,by simp [World.frozen?,hg],fun i d hd=>?_⟩
  obtain ⟨h0,h1,h2,h3,h4,h5,h6,h7⟩:=flatP_get l i d hd
  have hi:i < l.length:=(List.getElem?_eq_some_iff.1 hd).1
  exact ⟨(h.cellAt _ (by omega)).trans h0,(h.cellAt _ (by omega)).trans h1,(h.cellAt _ (by omega)).trans h2,(h.cellAt _ (by omega)).trans h3,(h.cellAt _ (by omega)).trans h4,(h.cellAt _ (by omega)).trans h5,(h.cellAt _ (by omega)).trans h6,(h.cellAt _ (by omega)).trans h7⟩
theorem Tryd.infoPredR:(Tryd.prog.info? 47).map (fun i=>(i.zero,i.size,i.bytes))=some (some (.agg #[.string ⟨#[]⟩,.slice none 0 0,.string ⟨#[]⟩,.string ⟨#[]⟩,.int .i64 0,.int .i64 0,.slice none 0 0,.int .i64 0]),8,120):=by kernel_rfl
def pPredB (f:Nat) (nm:ByteArray) (pos:Int) (ds:List Dc) (l:List Tok):Res Pd :=
 if (wrd l).toList == [61] then match pForm f 0 l.tail with
  | .ok n l'=>if (wrd l').toList == [59] then .ok ⟨nm,ds,none,0,n,pos⟩ l'.tail else .bad (hd l').pos 2
  | .bad a e=>.bad a e
 else .bad (hd l).pos 2
def pPred (f:Nat) (l:List Tok):Res Pd :=
 if (hd l.tail).kind == 1 then
  if (wrd l.tail.tail).toList == [40] then match pPar f l.tail.tail.tail with
   | .ok ds l'=>pPredB f (hd l.tail).text (hd l.tail).pos ds l'
   | .bad a e=>.bad a e
  else .bad (hd l.tail.tail).pos 2
 else .bad (hd l.tail).pos 2
def OutP (B:Nat) (S:Nat→Prop) (w':World) (P:Pd):Res Pd→Prop
 | .ok p l=>PrS w' B (.good l)∧PdOk S w' P∧P.strip=p
 | .bad p e=>PrS w' B (.bad p e)
def PostP (B:Nat) (w:World) (r:Res Pd) (e:Ending) (w':World):Prop:=∃ P:Pd,e=.returned (.agg #[.string P.name,.slice P.pa P.params.length P.pcap,.string P.body.op,.string P.body.name,.int .i64 P.body.n,.int .i64 P.body.pos,.slice P.body.a P.body.kids.len P.body.cap,.int .i64 P.pos])∧Kp B w w'∧OutP B (fun b=>w.heap.size≤b) w' P r
def pProgL:Nat→Nat→List Dc→List Pd→List Tok→Res (List Dc × List Pd × Nd)
 | 0,_,_,_,_=>.bad 0 0
 | g+1,f,ds,ps,l =>
  if (wrd l).toList == [112,114,101,100] then match pPred f l with
   | .ok p l'=>pProgL g f ds (ps ++ [p]) l'
   | .bad a e=>.bad a e
  else if decide (0≤ordOf [118,97,114] l) then match pDeclL f (ordOf [118,97,114] l) [] l.tail with
   | .ok d l'=>pProgL g f (ds ++ d) ps l'
   | .bad a e=>.bad a e
  else match pForm f 0 l with
   | .ok n l'=>if (wrd l').toList == [59] then (if (hd l'.tail).kind == 4 then .ok (ds,ps,n) [] else .bad (hd l'.tail).pos 2) else .bad (hd l').pos 2
   | .bad a e=>.bad a e
end Go.Proofs.YtmlmjopfbohglaaDoor
