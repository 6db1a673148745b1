/- Parts of the proof: RpPq RpQ RpR. -/
import Derived.Test.YtmlmjopfbohglaaGreatDoorPg37
namespace Go.Proofs.YtmlmjopfbohglaaGreatDoor
open Go.RowKit
theorem ord_no {l:List Tok} {p:List UInt8} (h0:((wrd l).toList == p ++ [48])=false) (h1:((wrd l).toList == p ++ [49])=false) (h2:((wrd l).toList == p ++ [50])=false):ordOf p l = -1:=by
 unfold ordOf
 rw [if_neg (by rw [h0];decide),if_neg (by rw [h1];decide),if_neg (by rw [h2];decide)]
theorem rforms_all:∀ f:Nat,SayR 189 3 pUn f∧SayR 170 4 pAnd f∧SayR 141 5 pOr f∧SayR 87 6 pImp f∧SayR 38 7 pForm f:=by
 intro f
 induction f using Nat.strongRecOn with
 | _ f ih =>
  refine ⟨?_,?_,?_,?_,?_⟩
  ·intro l w B d hneed hS
   obtain ⟨f',rfl⟩:∃ f',f=f'+1:=⟨f - 1,by omega⟩
   have hdc:((d:Int)+1)=((d+1:Nat):Int):=by omega
   rcases Nat.lt_or_ge 29 d with hdeep | hdeep
   ·have h:=run_deep l w B d hS (by omega)
    unfold pUn
    rw [if_pos hdeep]
    exact h
   have hnd:¬ 29 < d:=by omega
   have hd30:(d:Int) < 30:=by omega
   cases h0:((wrd l).toList == [126]) with
   | true =>
    have hne:=ne_of_wrd h0
    have hlt:=(Suf.tail hne).len
    refine run_not (pUn f' (d+1) l.tail) _ l w B d hS hd30 (ord_ex h0 (-1) (by decide)) (ord_all h0 (-1) (by decide)) (bytes_eqL (show (ByteArray.mk #[126]).toList=[126] from by decide +kernel) h0) (fun W hr=>by rw [hdc];exact (ih f' (by omega)).1 l.tail W B (d+1) (by omega) hr) (fun m l2 h=>?_) (fun a e h=>?_)
    ·unfold pUn
     rw [if_neg hnd,if_pos h0,h]
    ·unfold pUn
     rw [if_neg hnd,if_pos h0,h]
   | false =>
    have hq:l≠[]→∃ f2,f'=f2+1:=fun hne=>⟨f' - 1,by have:=List.length_pos_iff.2 hne;omega⟩
    cases q0:((wrd l).toList == [101,120,48]) with
    | true =>
     exact (nq_no (prs_nq hS) (by unfold isExW isAllW;rw [q0];simp)).elim
    | false =>
     cases q1:((wrd l).toList == [101,120,49]) with
     | true =>
      exact (nq_no (prs_nq hS) (by unfold isExW isAllW;rw [q1];simp)).elim
     | false =>
      cases q2:((wrd l).toList == [101,120,50]) with
      | true =>
       exact (nq_no (prs_nq hS) (by unfold isExW isAllW;rw [q2];simp)).elim
      | false =>
       cases q3:((wrd l).toList == [97,108,108,48]) with
       | true =>
        exact (nq_no (prs_nq hS) (by unfold isExW isAllW;rw [q3];simp)).elim
       | false =>
        cases q4:((wrd l).toList == [97,108,108,49]) with
        | true =>
         exact (nq_no (prs_nq hS) (by unfold isExW isAllW;rw [q4];simp)).elim
        | false =>
         cases q5:((wrd l).toList == [97,108,108,50]) with
         | true =>
          exact (nq_no (prs_nq hS) (by unfold isExW isAllW;rw [q5];simp)).elim
         | false =>
          have hex:=ord_no (p:=[101,120]) q0 q1 q2
          have hal:=ord_no (p:=[97,108,108]) q3 q4 q5
          have hz:=bytes_neL (show (ByteArray.mk #[126]).toList=[126] from by decide +kernel) h0
          cases t1:((wrd l).toList == [116,114,117,101]) with
          | true =>
           have h:=run_true l w B d hS hd30 hex hal hz (bytes_eqL (show (ByteArray.mk #[116,114,117,101]).toList=[116,114,117,101] from by decide +kernel) t1)
           unfold pUn
           rw [if_neg hnd,if_neg (by rw [h0];decide),if_neg (by unfold isExW;rw [q0,q1,q2];decide),if_neg (by unfold isAllW;rw [q3,q4,q5];decide),if_pos (by rw [t1];rfl)]
           exact h
          | false =>
           have z1:=bytes_neL (show (ByteArray.mk #[116,114,117,101]).toList=[116,114,117,101] from by decide +kernel) t1
           cases t2:((wrd l).toList == [102,97,108,115,101]) with
           | true =>
            have h:=run_false l w B d hS hd30 hex hal hz z1 (bytes_eqL (show (ByteArray.mk #[102,97,108,115,101]).toList=[102,97,108,115,101] from by decide +kernel) t2)
            unfold pUn
            rw [if_neg hnd,if_neg (by rw [h0];decide),if_neg (by unfold isExW;rw [q0,q1,q2];decide),if_neg (by unfold isAllW;rw [q3,q4,q5];decide),if_pos (by rw [t1,t2];rfl)]
            exact h
           | false =>
            have z2:=bytes_neL (show (ByteArray.mk #[102,97,108,115,101]).toList=[102,97,108,115,101] from by decide +kernel) t2
            cases t3:((wrd l).toList == [40]) with
            | true =>
             have hlt:=(Suf.tail (ne_of_wrd t3)).len
             refine run_paren (pForm f' (d+1) l.tail) _ l w B d hS hd30 hex hal hz z1 z2 (bytes_eqL (show (ByteArray.mk #[40]).toList=[40] from by decide +kernel) t3) (fun W hr=>by rw [hdc];exact (ih f' (by omega)).2.2.2.2 l.tail W B (d+1) (by omega) hr) (fun m l2 h hm=>?_) (fun m l2 h hm=>?_) (fun a e h=>?_)
             ·rw [(show (ByteArray.mk #[41]).toList=[41] from by decide +kernel)] at hm
              unfold pUn
              rw [if_neg hnd,if_neg (by rw [h0];decide),if_neg (by unfold isExW;rw [q0,q1,q2];decide),if_neg (by unfold isAllW;rw [q3,q4,q5];decide),if_neg (by rw [t1,t2];decide),if_pos t3,h]
              show (if ((wrd l2).toList == [41])=true then _ else _)=_
              rw [if_pos hm]
             ·rw [(show (ByteArray.mk #[41]).toList=[41] from by decide +kernel)] at hm
              unfold pUn
              rw [if_neg hnd,if_neg (by rw [h0];decide),if_neg (by unfold isExW;rw [q0,q1,q2];decide),if_neg (by unfold isAllW;rw [q3,q4,q5];decide),if_neg (by rw [t1,t2];decide),if_pos t3,h]
              show (if ((wrd l2).toList == [41])=true then _ else _)=_
              rw [if_neg (by rw [hm];decide)]
             ·unfold pUn
              rw [if_neg hnd,if_neg (by rw [h0];decide),if_neg (by unfold isExW;rw [q0,q1,q2];decide),if_neg (by unfold isAllW;rw [q3,q4,q5];decide),if_neg (by rw [t1,t2];decide),if_pos t3,h]
            | false =>
             have h:=run_atom (pAtom f' l) l w B d hS hd30 hex hal hz z1 z2 (bytes_neL (show (ByteArray.mk #[40]).toList=[40] from by decide +kernel) t3) (fun W hr=>ratom_all f' l W B (by omega) hr)
             unfold pUn
             rw [if_neg hnd,if_neg (by rw [h0];decide),if_neg (by unfold isExW;rw [q0,q1,q2];decide),if_neg (by unfold isAllW;rw [q3,q4,q5];decide),if_neg (by rw [t1,t2];decide),if_neg (by rw [t3];decide)]
             exact h
  ·intro l w B d hneed hS
   obtain ⟨f',rfl⟩:∃ f',f=f'+1:=⟨f - 1,by omega⟩
   refine rand_of f' (fun g hg=>(ih g (by omega)).1) (.good l) (pUn f' d l) _ w B d hS (fun W hr=>(ih f' (by omega)).1 l W B d (by omega) hr) (fun t l' h=>?_) (fun a e h=>?_)
   ·have hs:=(suf_forms f').1 _ _ _ _ h
    refine ⟨?_,by have:=hs.len;omega⟩
    unfold pAnd
    rw [h]
   ·unfold pAnd
    rw [h]
  ·intro l w B d hneed hS
   obtain ⟨f',rfl⟩:∃ f',f=f'+1:=⟨f - 1,by omega⟩
   refine ror_of f' (fun g hg=>(ih g (by omega)).2.1) (.good l) (pAnd f' d l) _ w B d hS (fun W hr=>(ih f' (by omega)).2.1 l W B d (by omega) hr) (fun t l' h=>?_) (fun a e h=>?_)
   ·have hs:=(suf_forms f').2.2.1 _ _ _ _ h
    refine ⟨?_,by have:=hs.len;omega⟩
    unfold pOr
    rw [h]
   ·unfold pOr
    rw [h]
  ·intro l w B d hneed hS
   obtain ⟨f',rfl⟩:∃ f',f=f'+1:=⟨f - 1,by omega⟩
   cases hq:pOr f' d l with
   | bad a e =>
    have h:=rimp_bad (.good l) a e w B d hS (fun W hr=>by have:=(ih f' (by omega)).2.2.1 l W B d (by omega) hr;rw [hq] at this;exact this)
    unfold pImp
    rw [hq]
    exact h
   | ok n l' =>
    have hs:=(suf_forms f').2.2.2.2.1 _ _ _ _ hq
    have hor:∀ W,PrS W B (.good l)→Calls Tryz.prog 141 #[.pointer (some ⟨B,0,none⟩),.int .i64 d] W (PostR B W (.ok n l')):=fun W hr=>by have:=(ih f' (by omega)).2.2.1 l W B d (by omega) hr;rw [hq] at this;exact this
    have hp:=psg_1 (wrd l')
    cases hw:((wrd l').toList == (ByteArray.mk #[61,62]).toList) with
    | false =>
     have h:=rimp_one n l' l w B d hS hor hw
     rw [hw,if_neg (by decide)] at hp
     have hpe:((psg 1 (wrd l')).toList == [])=true:=by rw [hp];decide +kernel
     unfold pImp
     rw [hq]
     show Calls _ _ _ w (PostR B w (if ((psg 1 (wrd l')).toList == [])=true then _ else _))
     rw [if_pos hpe]
     exact h
    | true =>
     rw [hw,if_pos rfl] at hp
     have hpe:((psg 1 (wrd l')).toList == [])=false:=by rw [hp];decide +kernel
     have hlt:=hs.len
     have hlt2:=(Suf.tail (ne_of_psg hpe)).len
     refine rimp_two n l' (pImp f' d l'.tail) _ l w B d hS hor hw (word_kind hw (by decide +kernel)) (fun W hr=>(ih f' (by omega)).2.2.2.1 l'.tail W B d (by omega) hr) (fun m l2 h=>?_) (fun a e h=>?_)
     ·unfold pImp
      rw [hq]
      show (if ((psg 1 (wrd l')).toList == [])=true then _ else _)=_
      rw [if_neg (by rw [hpe];decide),h,hp]
     ·unfold pImp
      rw [hq]
      show (if ((psg 1 (wrd l')).toList == [])=true then _ else _)=_
      rw [if_neg (by rw [hpe];decide),h]
  ·intro l w B d hneed hS
   rcases Nat.lt_or_ge 29 d with hdeep | hdeep
   ·obtain ⟨f',rfl⟩:∃ f',f=f'+5:=⟨f - 5,by omega⟩
    have h:=rform_deep l w B d hS (by omega)
    rw [pform_deep f' d l hdeep]
    exact h
   obtain ⟨f',rfl⟩:∃ f',f=f'+1:=⟨f - 1,by omega⟩
   refine rformula_of f' (fun g hg=>(ih g (by omega)).2.2.2.1) (.good l) (pImp f' d l) _ w B d (fun W hr=>renter_ok l d W B (by omega) hr) hS (fun W hr=>(ih f' (by omega)).2.2.2.1 l W B d (by omega) hr) (fun t l' h=>?_) (fun a e h=>?_)
   ·have hs:=(suf_forms f').2.2.2.2.2.2.2.2 _ _ _ _ h
    refine ⟨?_,by have:=hs.len;omega⟩
    unfold pForm
    rw [h]
   ·unfold pForm
    rw [h]
def flatD:List Dc→List Value
 | []=>[]
 | d :: r=>.string d.name :: .int .i64 d.order :: .int .i64 d.pos :: flatD r
theorem flatD_len (l:List Dc):(flatD l).length=l.length * 3:=by
 induction l with
 | nil=>rfl
 | cons d r ih=>simp [flatD,ih];omega
theorem flatD_append (l m:List Dc):flatD (l ++ m)=flatD l ++ flatD m:=by
 induction l with
 | nil=>rfl
 | cons d r ih=>simp [flatD,ih]
theorem flatD_one (l:List Dc):∀ u ∈ flatD l,u.oneCell'=true:=by
 induction l with
 | nil=>intro u h;cases h
 | cons d r ih =>
  intro u h
  simp [flatD] at h
  rcases h with rfl | rfl | rfl | h
  ·rfl
  ·rfl
  ·rfl
  ·exact ih u h
theorem flatD_get:∀ (l:List Dc) (i:Nat) (d:Dc),l[i]? = some d→(flatD l)[i * 3]? = some (.string d.name)∧(flatD l)[i * 3+1]? = some (.int .i64 d.order)∧(flatD l)[i * 3+2]? = some (.int .i64 d.pos):=by
 intro l
 induction l with
 | nil=>intro i d h;simp at h
 | cons x r ih =>
  intro i d h
  cases i with
  | zero =>
   simp at h
   subst h
   exact ⟨rfl,rfl,rfl⟩
  | succ i =>
   have h2:=ih i d (by simpa using h)
   have e:∀ k,(flatD (x :: r))[(i+1) * 3+k]? = (flatD r)[i * 3+k]?:=fun k=>by
    rw [show (i+1) * 3+k=(i * 3+k)+3 by omega]
    simp [flatD]
   exact ⟨(e 0).trans h2.1,(e 1).trans h2.2.1,(e 2).trans h2.2.2⟩
def DcRow (S:Nat→Prop) (w:World) (a:Option Addr) (l:List Dc):Prop:=l=[]∨∃ b,a=some ⟨b,0,none⟩∧S b∧b < w.heap.size∧w.frozen? ⟨b,0,none⟩=false∧∀ i d,l[i]? = some d→DcAt w b (i * 3) d
theorem DcAt.same {w w':World} {b o:Nat} {d:Dc} (hs:w'.heap[b]? = w.heap[b]?) (h:DcAt w b o d):DcAt w' b o d:=⟨cell_same hs h.1,cell_same hs h.2.1,cell_same hs h.2.2⟩
theorem DcRow.from {S:Nat→Prop} {w w':World} {a:Option Addr} {l:List Dc} (h:DcRow S w a l) (hg:From S w w'):DcRow S w' a l:=by
 rcases h with h | ⟨b,h1,h2,h3,h5,h4⟩
 ·exact .inl h
 ·have hs:=hg.block b h2 h3
  refine .inr ⟨b,h1,h2,Nat.lt_of_lt_of_le h3 hg.size,?_,fun i d hd=>(h4 i d hd).same hs⟩
  rw [← h5]
  unfold World.frozen?
  rw [hs]
theorem DcRow.mono {S S':Nat→Prop} {w:World} {a:Option Addr} {l:List Dc} (h:DcRow S w a l) (hl:∀ b,S b→b < w.heap.size→S' b):DcRow S' w a l:=by
 rcases h with h | ⟨b,h1,h2,h3,h5,h4⟩
 ·exact .inl h
 ·exact .inr ⟨b,h1,hl b h2 h3,h3,h5,h4⟩
theorem DcRow.in {S:Nat→Prop} {w:World} {a:Option Addr} {l:List Dc} (h:DcRow S w a l) (hl:l.length≤140737488351232) (hn:∀ d ∈ l,d.name.size≤140737488351232):DcsIn w a l:=by
 rcases h with h | ⟨b,h1,h2,h3,h5,h4⟩
 ·exact .inl h
 ·exact .inr ⟨b,0,h1,hl,fun i d hd=>by rw [Nat.zero_add];exact h4 i d hd,hn⟩
theorem dcs_own {lo cap:Nat} {w:World} {a:Option Addr} {l:List Dc} (h:w.ownsRow lo 120 3 (.slice a l.length cap) l.length (flatD l)):DcRow (fun b=>lo≤b) w a l:=by
 rcases h.2 with ⟨h1,h0⟩ | ⟨g,cap',cur,h1,hb,hg,hrest⟩
 ·exact .inl (List.eq_nil_of_length_eq_zero h0)
 ·cases h1
  refine .inr ⟨g,rfl,hb,lt_heap hg,by simp [World.frozen?,hg],fun i d hd=>?_⟩
  obtain ⟨h2,h3,h4⟩:=flatD_get l i d hd
  have hi:i < l.length:=(List.getElem?_eq_some_iff.1 hd).1
  exact ⟨(h.cellAt _ (by omega)).trans h2,(h.cellAt _ (by omega)).trans h3,(h.cellAt _ (by omega)).trans h4⟩
theorem Tryz.infoDeclR:(Tryz.prog.info? 120).map (fun i=>(i.zero,i.size,i.bytes))=some (some (.agg #[.string ⟨#[]⟩,.int .i64 0,.int .i64 0]),3,32):=by kernel_rfl
theorem cell_three_new (w:World) (a b c:Value) (t:TypeId):∀ j u,[a,b,c][j]? = some u→(w.alloc (.cells #[a,b,c] t)).cell? ((⟨w.heap.size,0,none⟩:Addr).add j)=some u:=by
 intro j u hj
 have hx:=new_at w (.cells #[a,b,c] t)
 rw [show (⟨w.heap.size,0,none⟩:Addr).add j=⟨w.heap.size,0+j,none⟩ from by unfold Addr.add;split <;> simp_all,cell_of_row _ _ _ _ _ _ hx,Nat.zero_add]
 simpa using hj
def pDeclL:Nat→Int→List Dc→List Tok→Res (List Dc)
 | 0,_,_,_=>.bad 0 0
 | f+1,k,acc,l =>
  if (hd l).kind == 1 then
   if (wrd l.tail).toList == [44] then pDeclL f k (acc ++ [⟨(hd l).text,k,(hd l).pos⟩]) l.tail.tail
   else if (wrd l.tail).toList == [59] then .ok (acc ++ [⟨(hd l).text,k,(hd l).pos⟩]) l.tail.tail
   else .bad (hd l.tail).pos 2
  else .bad (hd l).pos 2
def pParL:Nat→List Dc→List Tok→Res (List Dc)
 | 0,_,_=>.bad 0 0
 | f+1,acc,l =>
  if decide (ordOf [118,97,114] l < 0) then .bad (hd l).pos 2
  else if acc.length == 6 then .bad (hd l.tail).pos 2
  else if (hd l.tail).kind == 1 then
   if (wrd l.tail.tail).toList == [44] then pParL f (acc ++ [⟨(hd l.tail).text,ordOf [118,97,114] l,(hd l.tail).pos⟩]) l.tail.tail.tail
   else if (wrd l.tail.tail).toList == [41] then .ok (acc ++ [⟨(hd l.tail).text,ordOf [118,97,114] l,(hd l.tail).pos⟩]) l.tail.tail.tail
   else .bad (hd l.tail.tail).pos 2
  else .bad (hd l.tail).pos 2
def pPar (f:Nat) (l:List Tok):Res (List Dc):=if (wrd l).toList == [41] then .ok [] l.tail else pParL f [] l
def OutD (B:Nat) (w':World) (ds:List Dc):Res (List Dc)→Prop
 | .ok ds' l=>PrS w' B (.good l)∧ds=ds'
 | .bad p e=>PrS w' B (.bad p e)
def PostD (B:Nat) (w:World) (m:Nat) (r:Res (List Dc)) (e:Ending) (w':World):Prop:=∃ (ds:List Dc) (a:Option Addr) (cap:Nat),e=.returned (.slice a ds.length cap)∧w'.ownsRow w.heap.size 120 3 (.slice a ds.length cap) ds.length (flatD ds)∧ds.length≤m∧Kp B w w'∧OutD B w' ds r
def flatP:List Pd→List Value
 | []=>[]
 | p :: r=>.string p.name :: .slice p.pa p.params.length p.pcap :: .string p.body.op :: .string p.body.name :: .int .i64 p.body.n :: .int .i64 p.body.pos :: .slice p.body.a p.body.kids.len p.body.cap :: .int .i64 p.pos :: flatP r
theorem flatP_append (l m:List Pd):flatP (l ++ m)=flatP l ++ flatP m:=by
 induction l with
 | nil=>rfl
 | cons d r ih=>simp [flatP,ih]
theorem flatP_get:∀ (l:List Pd) (i:Nat) (p:Pd),l[i]? = some p→(flatP l)[i * 8]? = some (.string p.name)∧(flatP l)[i * 8+1]? = some (.slice p.pa p.params.length p.pcap)∧(flatP l)[i * 8+2]? = some (.string p.body.op)∧(flatP l)[i * 8+3]? = some (.string p.body.name)∧(flatP l)[i * 8+4]? = some (.int .i64 p.body.n)∧(flatP l)[i * 8+5]? = some (.int .i64 p.body.pos)∧(flatP l)[i * 8+6]? = some (.slice p.body.a p.body.kids.len p.body.cap)∧(flatP l)[i * 8+7]? = some (.int .i64 p.pos):=by
 intro l
 induction l with
 | nil=>intro i d h;simp at h
 | cons x r ih =>
  intro i d h
  cases i with
  | zero =>
   simp at h
   subst h
   exact ⟨rfl,rfl,rfl,rfl,rfl,rfl,rfl,rfl⟩
  | succ i =>
   have h2:=ih i d (by simpa using h)
   have e:∀ k,(flatP (x :: r))[(i+1) * 8+k]? = (flatP r)[i * 8+k]?:=fun k=>by
    rw [show (i+1) * 8+k=(i * 8+k)+8 by omega]
    simp [flatP]
   exact ⟨(e 0).trans h2.1,(e 1).trans h2.2.1,(e 2).trans h2.2.2.1,(e 3).trans h2.2.2.2.1,(e 4).trans h2.2.2.2.2.1,(e 5).trans h2.2.2.2.2.2.1,(e 6).trans h2.2.2.2.2.2.2.1,(e 7).trans h2.2.2.2.2.2.2.2⟩
def Pd.strip (p:Pd):Pd:=⟨p.name,p.params,none,0,p.body.strip,p.pos⟩
structure PdOk (S:Nat→Prop) (w:World) (p:Pd):Prop where
 params:DcRow S w p.pa p.params
 body:p.body.Good S w
theorem PdOk.from {S:Nat→Prop} {w w':World} {p:Pd} (h:PdOk S w p) (hg:From S w w'):PdOk S w' p:=⟨h.params.from hg,h.body.from hg⟩
theorem PdOk.mono {S S':Nat→Prop} {w:World} {p:Pd} (h:PdOk S w p) (hl:∀ b,S b→b < w.heap.size→S' b):PdOk S' w p:=⟨h.params.mono hl,h.body.lt.mono (fun b hb=>hl b hb.1 hb.2)⟩
theorem pds_own {lo cap:Nat} {w:World} {a:Option Addr} {l:List Pd} (h:w.ownsRow lo 67 8 (.slice a l.length cap) l.length (flatP l)):l=[]∨∃ b,a=some ⟨b,0,none⟩∧b < w.heap.size∧w.frozen? ⟨b,0,none⟩=false∧∀ i p,l[i]? = some p→PdAt w b (i * 8) p:=by
 rcases h.2 with ⟨h1,h0⟩ | ⟨g,cap',cur,h1,hb,hg,hrest⟩
 ·exact .inl (List.eq_nil_of_length_eq_zero h0)
 ·cases h1
  refine .inr ⟨g,rfl,lt_heap hg,by simp [World.frozen?,hg],fun i d hd=>?_⟩
  obtain ⟨h0,h1,h2,h3,h4,h5,h6,h7⟩:=flatP_get l i d hd
  have hi:i < l.length:=(List.getElem?_eq_some_iff.1 hd).1
  exact ⟨(h.cellAt _ (by omega)).trans h0,(h.cellAt _ (by omega)).trans h1,(h.cellAt _ (by omega)).trans h2,(h.cellAt _ (by omega)).trans h3,(h.cellAt _ (by omega)).trans h4,(h.cellAt _ (by omega)).trans h5,(h.cellAt _ (by omega)).trans h6,(h.cellAt _ (by omega)).trans h7⟩
theorem Tryz.infoPredR:(Tryz.prog.info? 67).map (fun i=>(i.zero,i.size,i.bytes))=some (some (.agg #[.string ⟨#[]⟩,.slice none 0 0,.string ⟨#[]⟩,.string ⟨#[]⟩,.int .i64 0,.int .i64 0,.slice none 0 0,.int .i64 0]),8,120):=by kernel_rfl
def pPredB (f:Nat) (nm:ByteArray) (pos:Int) (ds:List Dc) (l:List Tok):Res Pd :=
 if (wrd l).toList == [61] then match pForm f 0 l.tail with
  | .ok n l'=>if (wrd l').toList == [59] then .ok ⟨nm,ds,none,0,n,pos⟩ l'.tail else .bad (hd l').pos 2
  | .bad a e=>.bad a e
 else .bad (hd l).pos 2
def pPred (f:Nat) (l:List Tok):Res Pd :=
 if (hd l.tail).kind == 1 then
  if (wrd l.tail.tail).toList == [40] then match pPar f l.tail.tail.tail with
   | .ok ds l'=>pPredB f (hd l.tail).text (hd l.tail).pos ds l'
   | .bad a e=>.bad a e
  else .bad (hd l.tail.tail).pos 2
 else .bad (hd l.tail).pos 2
def OutP (B:Nat) (S:Nat→Prop) (w':World) (P:Pd):Res Pd→Prop
 | .ok p l=>PrS w' B (.good l)∧PdOk S w' P∧P.strip=p
 | .bad p e=>PrS w' B (.bad p e)
def PostP (B:Nat) (w:World) (r:Res Pd) (e:Ending) (w':World):Prop:=∃ P:Pd,e=.returned (.agg #[.string P.name,.slice P.pa P.params.length P.pcap,.string P.body.op,.string P.body.name,.int .i64 P.body.n,.int .i64 P.body.pos,.slice P.body.a P.body.kids.len P.body.cap,.int .i64 P.pos])∧Kp B w w'∧OutP B (fun b=>w.heap.size≤b) w' P r
def pProgL:Nat→Nat→List Dc→List Pd→List Tok→Res (List Dc × List Pd × Nd)
 | 0,_,_,_,_=>.bad 0 0
 | g+1,f,ds,ps,l =>
  if (wrd l).toList == [112,114,101,100] then match pPred f l with
   | .ok p l'=>pProgL g f ds (ps ++ [p]) l'
   | .bad a e=>.bad a e
  else if decide (0≤ordOf [118,97,114] l) then match pDeclL f (ordOf [118,97,114] l) [] l.tail with
   | .ok d l'=>pProgL g f (ds ++ d) ps l'
   | .bad a e=>.bad a e
  else match pForm f 0 l with
   | .ok n l'=>if (wrd l').toList == [59] then (if (hd l'.tail).kind == 4 then .ok (ds,ps,n) [] else .bad (hd l'.tail).pos 2) else .bad (hd l').pos 2
   | .bad a e=>.bad a e
theorem prs_err {w:World} {B:Nat} {l:List Tok} (h:PrS w B (.good l)):w.cell? ⟨B,2,none⟩=some (.int .i64 0)∧l≠[]:=by
 obtain ⟨a,L,cap,i,h1,_,h3,_⟩:=h
 exact ⟨h1.cells.1.2.2.1,h3⟩
def PostD1 (B:Nat) (w:World) (m:Nat) (r:Res (List Dc)) (e:Ending) (w':World):Prop:=∃ (ds:List Dc) (a:Option Addr) (cap:Nat),e=.returned (.slice a ds.length cap)∧w'.ownsRow w.heap.size 120 3 (.slice a ds.length cap) ds.length (flatD ds)∧(0 < ds.length∧ds.length≤m)∧Kp B w w'∧OutD B w' ds r
theorem ord_kind {l:List Tok} (h:0≤ordOf [118,97,114] l):((hd l).kind == 4)=false:=by
 rcases bool_two ((hd l).kind == 3) with hk | hk
 ·have h3:(hd l).kind=3:=by simpa using hk
  rw [h3];rfl
 ·exfalso
  have hw:(wrd l).toList=[]:=by unfold wrd;rw [if_neg (by rw [hk];decide),Lib.toList_data]
  unfold ordOf at h
  rw [hw] at h
  revert h
  decide
theorem prs_app {B:Nat} {s:St} {w w':World} {row:Option Nat} (h:PrS w B s) (hg:w.grownBy w' row) (hr:∀ k,row=some k→B < k):PrS w' B s :=
 h.same fun g hgB=>hg.block g (Nat.lt_of_le_of_lt hgB h.lt) (fun e=>by have:=hr g e.symm;omega)
theorem ne_kind {l:List Tok} (h:((hd l).kind == 1)=true):l≠[]:=by
 intro e
 subst e
 revert h
 decide
theorem tail_len {l:List Tok} (h:l≠[]):l.tail.length+1=l.length:=by
 cases l with
 | nil=>exact absurd rfl h
 | cons x r=>rfl
set_option maxRecDepth 100000 in
set_option maxHeartbeats 16000000 in
theorem rdecl_all (f:Nat) (l:List Tok) (w:World) (B:Nat) (hneed:l.length≤f) (ho:0≤ordOf [118,97,114] l) (hm:l.length≤1000000) (hS:PrS w B (.good l)) :
  Calls Tryz.prog 37 #[.pointer (some ⟨B,0,none⟩)] w (PostD1 B w (l.length+1) (pDeclL (f+1) (ordOf [118,97,114] l) [] l.tail)):=by
 obtain ⟨i0,hi,hz0,hz1,hz2⟩:=info_parts Tryz.infoDeclR
 have HIF:=Lib.hid (And.intro hi (And.intro hz0 (And.intro hz1 hz2)))
 clear hi hz0 hz1 hz2
 have e44:(⟨#[44]⟩:ByteArray).toList=[44]:=by decide +kernel
 have e59:(⟨#[59]⟩:ByteArray).toList=[59]:=by decide +kernel
 have hc4:=cellsTok
 have q1:=tok_f1
 have q3:=tok_f3
 have hB:=hS.lt
 have hk4:=ord_kind ho
 have HC0:=Lib.hid (rord_var_g l w B hS)
 have HS:=Lib.hid hS
 have htl:l.tail.length≤l.length:=by rw [List.length_tail];omega
 have HX:=Lib.hid (fun (W:World) (h:PrS W B (.good l))=>rnext_g l W B hk4 h)
 clear hS ho hk4
 generalize hkk:ordOf [118,97,114] l=k at HC0
 generalize hr:pDeclL (f+1) k [] l.tail=r
 have HRE0:=Lib.hid hr.symm
 clear hr hkk
 go_enter Tryz.func37,Tryz.ntmps37
 go_wp2_with fail
 refine HC0.out.mono ?_
 rintro e w1 ⟨rfl,hb1⟩
 have HC1:=Lib.hid (HX.out w1 (HS.out.below hb1))
 have HK1:=Lib.hid ((Kp.refl B w).below hb1)
 clear hb1 HC0 HS HX
 go_wp2_with fail
 refine HC1.out.mono ?_
 rintro e w2 ⟨rfl,hk2,hr2⟩
 have HK2:=Lib.hid (HK1.out.trans hk2)
 have HR2:=Lib.hid hr2
 clear hk2 hr2 HC1 HK1
 go_wp2_with fail
 go_loopg [4] (f+1) (fun gf v4 wx=>∃ (ds:List Dc) (a:Option Addr) (cap:Nat),v4=.slice a ds.length cap∧RowKit.Hid (wx.ownsRow w.heap.size 120 3 (.slice a ds.length cap) ds.length (flatD ds))∧RowKit.Hid (Kp B w wx) ∧
   ∃ lx,PrS wx B (.good lx)∧(lx.length+1≤gf∧ds.length+lx.length≤l.length)∧RowKit.Hid (r=pDeclL gf k ds lx))
 case atStart=>exact ⟨[],none,0,rfl,Lib.hid (World.ownsRow_nil _ _ _ _),HK2,l.tail,HR2.out,⟨by omega,by show 0+_≤_;omega⟩,HRE0⟩
 case round =>
  clear HRE0 HK2 HR2
  obtain ⟨ds,a,cap,rfl,HOWN,HK,lx,hrd,⟨hneed2,hN⟩,HRE⟩:=hrel
  obtain ⟨g',rfl⟩:∃ g',gk=g'+1:=⟨gk - 1,by omega⟩
  have HRD:=Lib.hid hrd
  obtain ⟨z2,hlne⟩:=prs_err hrd
  have hzz:=HK.out.size
  clear hrd
  rcases bool_two ((hd lx).kind == 1) with hkd | hkd
  ·have hne:=ne_kind hkd
   have htx:=tail_len hne
   have HC1:=Lib.hid (rname_yes lx wr B hkd HRD.out)
   have hu:r=(if ((wrd lx.tail).toList == [44])=true then pDeclL g' k (ds ++ [⟨(hd lx).text,k,(hd lx).pos⟩]) lx.tail.tail else if ((wrd lx.tail).toList == [59])=true then .ok (ds ++ [⟨(hd lx).text,k,(hd lx).pos⟩]) lx.tail.tail else .bad (hd lx.tail).pos 2):=by
    rw [HRE.out]
    conv=>{ lhs;unfold pDeclL }
    rw [if_pos hkd]
   have HU:=Lib.hid hu
   clear hkd hne HRE hu
   go_wp2_with fail
   refine HC1.out.mono ?_
   rintro e w3 ⟨rfl,hk3,hr3⟩
   generalize hd lx=tk at HU
   have HT:=Lib.hid (new_at w3 (tokBox tk.kind tk.text tk.n tk.pos))
   obtain ⟨⟨t0,t1,t2,t3⟩,_⟩:=tok_cells HT.out
   have hown3:=HOWN.out.kept hk3 (.inr (fun h=>by have:=(HOWN.out.lt _ h).1;omega))
   have hlt3:=hown3.lt
   have HOWN3:=Lib.hid (hown3.alloc (tokBox tk.kind tk.text tk.n tk.pos))
   have HLT:=Lib.hid hlt3
   have HK3:=Lib.hid ((HK.out.trans hk3).alloc (tokBox tk.kind tk.text tk.n tk.pos))
   have HR3:=Lib.hid (hr3.alloc (tokBox tk.kind tk.text tk.n tk.pos))
   have hz3:=hk3.size
   clear hk3 hr3 hown3 hlt3 HC1
   go_wp2_with (at_builtin;refine wpList_append_own_at _ rfl _ _ 22 rfl w.heap.size 120 i0 (.agg #[.string ⟨#[]⟩,.int .i64 0,.int .i64 0]) 3 32 Tryz.underlying22 HIF.out.1 HIF.out.2.1 HIF.out.2.2.1 HIF.out.2.2.2 rfl (by decide) _ _ _ rfl (HOWN3.out.alloc _) ⟨w3.heap.size+1,0,none⟩ 1 1 [.string tk.text,.int .i64 k,.int .i64 tk.pos] rfl rfl (by have h:=cell_three_new (w3.alloc (tokBox tk.kind tk.text tk.n tk.pos)) (.string tk.text) (.int .i64 k) (.int .i64 tk.pos) 120;rw [alloc_size] at h;exact h) (fun x hx=>by simp at hx;rcases hx with rfl | rfl | rfl <;> rfl) (by unfold maxLen;omega) (by omega) (by simp;omega) ?_;intro v' w9 hown9 hgrow9 _ hlie9)
   obtain ⟨a',cap',rfl⟩:=own_form hown9
   have hblk:∀ j,(Value.slice a ds.length cap).ownBlock=some j→w.heap.size≤j∧B < j:=fun j hj=>by have:=(HLT.out j hj).1;omega
   have HOWN9:RowKit.Hid (w9.ownsRow w.heap.size 120 3 (.slice a' (ds ++ [(⟨tk.text,k,tk.pos⟩:Dc)]).length cap') (ds ++ [(⟨tk.text,k,tk.pos⟩:Dc)]).length (flatD (ds ++ [(⟨tk.text,k,tk.pos⟩:Dc)]))):=Lib.hid (by rw [flatD_append,List.length_append];exact hown9)
   have HK9:=Lib.hid (kp_append (HK3.out.alloc _) hgrow9 (fun j hj=>(hblk j hj).1))
   have HR9:=Lib.hid (prs_app (HR3.out.alloc _) hgrow9 (fun j hj=>(hblk j hj).2))
   have hl9:(ds ++ [(⟨tk.text,k,tk.pos⟩:Dc)]).length=ds.length+1:=by simp
   have hin9:((ds.length:Int)+1)=(((ds ++ [(⟨tk.text,k,tk.pos⟩:Dc)]).length:Nat):Int):=by rw [hl9];rfl
   clear hown9 hgrow9 hlie9 HOWN3 HLT HK3 HR3 hblk HT t0 t1 t2 t3 HOWN HK HRD HIF
   generalize (ds ++ [(⟨tk.text,k,tk.pos⟩:Dc)])=ds2 at HU HOWN9 hl9 ⊢
   rcases bool_two ((wrd lx.tail).toList == [44]) with hcm | hcm
   ·have hcm':((wrd lx.tail).toList == (⟨#[44]⟩:ByteArray).toList)=true:=by rw [e44];exact hcm
    have hne2:=ne_of_wrd hcm
    have htx2:=tail_len hne2
    have HR2:=Lib.hid (show r=pDeclL g' k ds2 lx.tail.tail from by rw [HU.out,if_pos hcm])
    have HC6:=Lib.hid (rtake_yes lx.tail ⟨#[44]⟩ w9 B (by decide +kernel) hcm' HR9.out)
    clear hcm hcm' hne2 HU
    go_wp2_with fail
    refine HC6.out.mono ?_
    rintro e w6 ⟨rfl,hk6,hr6⟩
    have HK6:=Lib.hid (HK9.out.trans hk6)
    have hown6:=HOWN9.out.kept hk6 (.inr (fun h=>by have:=(HOWN9.out.lt _ h).1;omega))
    have HOWN6:=Lib.hid hown6
    have HR6:=Lib.hid hr6
    clear hk6 hr6 HC6 hown6 HOWN9 HK9 HR9
    go_wp2_with fail
    go_roundg g'
    case rel=>exact ⟨ds2,a',cap',by rw [hl9],HOWN6,HK6,lx.tail.tail,HR6.out,⟨by omega,by omega⟩,HR2⟩
    case measure=>omega
   ·have hcm':((wrd lx.tail).toList == (⟨#[44]⟩:ByteArray).toList)=false:=by rw [e44];exact hcm
    have HC6:=Lib.hid (rtake_no lx.tail ⟨#[44]⟩ w9 B hcm' HR9.out)
    rcases bool_two ((wrd lx.tail).toList == [59]) with hcl | hcl
    ·have HR2:=Lib.hid (show r=.ok ds2 lx.tail.tail from by rw [HU.out,if_neg (by rw [hcm];decide),if_pos hcl])
     have HMU:=Lib.hid (fun W (h:PrS W B (.good lx.tail))=>rmust_yes lx.tail ⟨#[59]⟩ W B (by decide +kernel) (by rw [e59];exact hcl) h)
     clear hcm hcm' hcl HU
     go_wp2_with fail
     refine HC6.out.mono ?_
     rintro e w6 ⟨rfl,hk6,hr6⟩
     have HC7:=Lib.hid (HMU.out w6 hr6)
     have HK6:=Lib.hid (HK9.out.trans hk6)
     have hown6:=HOWN9.out.kept hk6 (.inr (fun h=>by have:=(HOWN9.out.lt _ h).1;omega))
     have HOWN6:=Lib.hid hown6
     clear hk6 hr6 HC6 hown6 HOWN9 HK9 HR9 HMU
     go_wp2_with fail
     refine HC7.out.mono ?_
     rintro e w7 ⟨rfl,hk7,hr7⟩
     have hown7:=HOWN6.out.kept hk7 (.inr (fun h=>by have:=(HOWN6.out.lt _ h).1;omega))
     have HK7:=Lib.hid (HK6.out.trans hk7)
     have HR7:=Lib.hid hr7
     have HOWN7:=Lib.hid hown7
     clear hk7 hr7 HC7 hown7 HOWN6 HK6
     go_wp2_with fail
     go_ret
     refine ⟨ds2,a',cap',by rw [hl9];rfl,HOWN7.out,⟨by omega,by omega⟩,HK7.out,?_⟩
     rw [HR2.out]
     exact ⟨HR7.out,rfl⟩
    ·have HR2:=Lib.hid (show r=.bad (hd lx.tail).pos 2 from by rw [HU.out,if_neg (by rw [hcm];decide),if_neg (by rw [hcl];decide)])
     have HMU:=Lib.hid (fun W (h:PrS W B (.good lx.tail))=>rmust_no lx.tail ⟨#[59]⟩ W B (by rw [e59];exact hcl) h)
     clear hcm hcm' hcl HU
     go_wp2_with fail
     refine HC6.out.mono ?_
     rintro e w6 ⟨rfl,hk6,hr6⟩
     have HC7:=Lib.hid (HMU.out w6 hr6)
     have HK6:=Lib.hid (HK9.out.trans hk6)
     have hown6:=HOWN9.out.kept hk6 (.inr (fun h=>by have:=(HOWN9.out.lt _ h).1;omega))
     have HOWN6:=Lib.hid hown6
     clear hk6 hr6 HC6 hown6 HOWN9 HK9 HR9 HMU
     go_wp2_with fail
     refine HC7.out.mono ?_
     rintro e w7 ⟨rfl,hk7,hr7⟩
     have hown7:=HOWN6.out.kept hk7 (.inr (fun h=>by have:=(HOWN6.out.lt _ h).1;omega))
     have HK7:=Lib.hid (HK6.out.trans hk7)
     have HR7:=Lib.hid hr7
     have HOWN7:=Lib.hid hown7
     clear hk7 hr7 HC7 hown7 HOWN6 HK6
     go_wp2_with fail
     go_ret
     refine ⟨ds2,a',cap',by rw [hl9];rfl,HOWN7.out,⟨by omega,by omega⟩,HK7.out,?_⟩
     rw [HR2.out]
     exact HR7.out
  ·have HC1:=Lib.hid (rname_no lx wr B hkd HRD.out)
   have HR2:=Lib.hid (show r=.bad (hd lx).pos 2 from by rw [HRE.out];unfold pDeclL;rw [if_neg (by rw [hkd];decide)])
   clear hkd HRE
   generalize (hd lx).pos=bp at HR2 HC1
   go_wp2_with fail
   refine HC1.out.mono ?_
   rintro e w3 ⟨rfl,hk3,hr3⟩
   have HT:=Lib.hid (new_at w3 (tokBox 0 ⟨#[]⟩ 0 0))
   obtain ⟨⟨t0,t1,t2,t3⟩,_⟩:=tok_cells HT.out
   have hown3:=HOWN.out.kept hk3 (.inr (fun h=>by have:=(HOWN.out.lt _ h).1;omega))
   have hlt3:=hown3.lt
   have HOWN3:=Lib.hid (hown3.alloc (tokBox 0 ⟨#[]⟩ 0 0))
   have HLT:=Lib.hid hlt3
   have HK3:=Lib.hid ((HK.out.trans hk3).alloc (tokBox 0 ⟨#[]⟩ 0 0))
   have HR3:=Lib.hid (hr3.alloc (tokBox 0 ⟨#[]⟩ 0 0))
   have hz3:=hk3.size
   clear hk3 hr3 hown3 hlt3 HC1
   go_wp2_with (at_builtin;refine wpList_append_own_at _ rfl _ _ 22 rfl w.heap.size 120 i0 (.agg #[.string ⟨#[]⟩,.int .i64 0,.int .i64 0]) 3 32 Tryz.underlying22 HIF.out.1 HIF.out.2.1 HIF.out.2.2.1 HIF.out.2.2.2 rfl (by decide) _ _ _ rfl (HOWN3.out.alloc _) ⟨w3.heap.size+1,0,none⟩ 1 1 [.string ⟨#[]⟩,.int .i64 k,.int .i64 0] rfl rfl (by have h:=cell_three_new (w3.alloc (tokBox 0 ⟨#[]⟩ 0 0)) (.string ⟨#[]⟩) (.int .i64 k) (.int .i64 0) 120;rw [alloc_size] at h;exact h) (fun x hx=>by simp at hx;rcases hx with rfl | rfl | rfl <;> rfl) (by unfold maxLen;omega) (by omega) (by simp;omega) ?_;intro v' w9 hown9 hgrow9 _ hlie9)
   obtain ⟨a',cap',rfl⟩:=own_form hown9
   have hblk:∀ j,(Value.slice a ds.length cap).ownBlock=some j→w.heap.size≤j∧B < j:=fun j hj=>by have:=(HLT.out j hj).1;omega
   have HOWN9:RowKit.Hid (w9.ownsRow w.heap.size 120 3 (.slice a' (ds ++ [(⟨⟨#[]⟩,k,0⟩:Dc)]).length cap') (ds ++ [(⟨⟨#[]⟩,k,0⟩:Dc)]).length (flatD (ds ++ [(⟨⟨#[]⟩,k,0⟩:Dc)]))):=Lib.hid (by rw [flatD_append,List.length_append];exact hown9)
   have HK9:=Lib.hid (kp_append (HK3.out.alloc _) hgrow9 (fun j hj=>(hblk j hj).1))
   have HR9:=Lib.hid (prs_app (HR3.out.alloc _) hgrow9 (fun j hj=>(hblk j hj).2))
   have hl9:(ds ++ [(⟨⟨#[]⟩,k,0⟩:Dc)]).length=ds.length+1:=by simp
   clear hown9 hgrow9 hlie9 HOWN3 HLT HK3 HR3 hblk HT t0 t1 t2 t3 HOWN HK HRD HIF
   generalize (ds ++ [(⟨⟨#[]⟩,k,0⟩:Dc)])=ds2 at HOWN9 hl9 ⊢
   have HC6:=Lib.hid (rtake_b ⟨#[44]⟩ w9 B bp 2 HR9.out)
   go_wp2_with fail
   refine HC6.out.mono ?_
   rintro e w6 ⟨rfl,hk6,hr6⟩
   have HC7:=Lib.hid (rmust_b ⟨#[59]⟩ w6 B bp 2 hr6)
   have HK6:=Lib.hid (HK9.out.trans hk6)
   have hown6:=HOWN9.out.kept hk6 (.inr (fun h=>by have:=(HOWN9.out.lt _ h).1;omega))
   have HOWN6:=Lib.hid hown6
   clear hk6 hr6 HC6 hown6 HOWN9 HK9 HR9
   go_wp2_with fail
   refine HC7.out.mono ?_
   rintro e w7 ⟨rfl,hk7,hr7⟩
   have hown7:=HOWN6.out.kept hk7 (.inr (fun h=>by have:=(HOWN6.out.lt _ h).1;omega))
   have HK7:=Lib.hid (HK6.out.trans hk7)
   have HR7:=Lib.hid hr7
   have HOWN7:=Lib.hid hown7
   clear hk7 hr7 HC7 hown7 HOWN6 HK6
   go_wp2_with fail
   go_ret
   refine ⟨ds2,a',cap',by rw [hl9];rfl,HOWN7.out,⟨by omega,by omega⟩,HK7.out,?_⟩
   rw [HR2.out]
   exact HR7.out
end Go.Proofs.YtmlmjopfbohglaaGreatDoor
