/- Parts of the proof: RpI. -/
import Derived.Test.YtmlmjopfbohglaaDoorWd29
namespace Go.Proofs.YtmlmjopfbohglaaDoor
open Go.RowKit
def SayTmR (f:Nat):Prop:=∀ (l:List Tok) (w:World) (B:Nat),2+20 * l.length≤f→PrS w B (.good l)→Calls Tryd.prog 178 #[.pointer (some ⟨B,0,none⟩)] w (PostR B w (pTerm f l))
theorem wrd_nil {l:List Tok} (h:((hd l).kind == 3)=false):wrd l=⟨#[]⟩:=by unfold wrd;rw [if_neg (by rw [h];decide)]
theorem tl123:(ByteArray.mk #[123]).toList=[123]:=by decide +kernel
theorem tl43:(ByteArray.mk #[43]).toList=[43]:=by decide +kernel
theorem kind_not {a b c:Int} (h:(a == b)=true) (hn:(b == c)=false):(a == c)=false:=by
 have h2:a=b:=by simpa using h
 rw [h2]
 exact hn
theorem kid_pt {f:Nat} (ih:∀ g,g < f→SayPt true g):∀ g,g≤f→SayKR true g:=by
 intro g hg l w B hn hS
 obtain ⟨g',rfl⟩:∃ g',g=g'+1:=⟨g - 1,by omega⟩
 exact ih g' (by omega) l w B (by omega) hS
theorem kid_tm {f:Nat} (ih:∀ g,g < f→SayTmR g):∀ g,g≤f→SayKR false g:=by
 intro g hg l w B hn hS
 obtain ⟨g',rfl⟩:∃ g',g=g'+1:=⟨g - 1,by omega⟩
 exact ih g' (by omega) l w B (by omega) hS
theorem rterms_all:∀ f:Nat,SayPt false f∧SayPt true f∧SayTmR f:=by
 intro f
 induction f using Nat.strongRecOn with
 | _ f ih =>
  have hpart:∀ br,SayPt br f:=by
   intro br l w B hneed hS
   obtain ⟨f',rfl⟩:∃ f',f=f'+1:=⟨f - 1,by omega⟩
   cases hk:((hd l).kind == 1) with
   | true =>
    have hw0:=wrd_nil (kind_not hk (by decide))
    have hwn:¬ ((wrd l).toList == [123])=true:=by rw [hw0];decide +kernel
    unfold pPart
    rw [if_neg hwn,if_pos hk]
    cases hp2:((wrd l.tail).toList == [43]) with
    | false =>
     rw [if_neg (by decide)]
     exact rpart_var br l w B hS hk (by rw [tl43];exact hp2)
    | true =>
     have hp3:((wrd l.tail).toList == (ByteArray.mk #[43]).toList)=true:=by rw [tl43];exact hp2
     rw [if_pos rfl]
     cases hk2:((hd l.tail.tail).kind == 2) with
     | false =>
      rw [if_neg (by simp)]
      exact rpart_kind br l w B hS hk hp3 hk2
     | true =>
      cases hn:((hd l.tail.tail).n == 0) with
      | true =>
       rw [if_neg (by simp)]
       exact rpart_zero br l w B hS hk hp3 hk2 hn
      | false =>
       rw [if_pos (by simp)]
       exact rpart_plus br l w B hS hk hp3 hk2 hn
   | false =>
    have hkn:¬ ((hd l).kind == 1)=true:=by rw [hk];decide
    cases hk2:((hd l).kind == 2) with
    | true =>
     have hw0:=wrd_nil (kind_not hk2 (by decide))
     have hwn:¬ ((wrd l).toList == [123])=true:=by rw [hw0];decide +kernel
     unfold pPart
     rw [if_neg hwn,if_neg hkn,if_pos hk2]
     exact rpart_num br l w B hS hk2
    | false =>
     cases hw:((wrd l).toList == [123]) with
     | false =>
      unfold pPart
      rw [if_neg (by rw [hw];decide),if_neg hkn,if_neg (by rw [hk2];decide)]
      exact rpart_no br l w B hS hk hk2 (by rw [tl123];exact hw)
     | true =>
      have hw3:((wrd l).toList == (ByteArray.mk #[123]).toList)=true:=by rw [tl123];exact hw
      cases br with
      | true =>
       unfold pPart
       rw [if_pos hw,if_pos rfl]
       exact rpart_within l w B hS hk hk2 hw3
      | false =>
       have hne:=ne_of_wrd hw
       have hlt:=(Suf.tail hne).len
       obtain ⟨f2,rfl⟩:∃ f2,f'=f2+1:=⟨f' - 1,by omega⟩
       refine rpart_set l w B hS hk hk2 hw3 (pList (f2+1) true l.tail) (fun W hr=>?_) _ (fun ks l' h=>?_) (fun a e h=>?_)
       ·exact rrowP f2 (kid_pt (fun g hg=>(ih g (by omega)).2.1)) l.tail W B (by omega) hr
       ·unfold pPart
        rw [if_pos hw,h]
        rfl
       ·unfold pPart
        rw [if_pos hw,h]
        rfl
  refine ⟨hpart false,hpart true,?_⟩
  intro l w B hneed hS
  obtain ⟨f',rfl⟩:∃ f',f=f'+1:=⟨f - 1,by omega⟩
  refine rptm_of f' (fun g hg=>(ih g (by omega)).1) (.good l) (pPart f' false l) _ w B hS (fun W hr=>(ih f' (by omega)).1 l W B (by omega) hr) (fun t l' h=>?_) (fun a e h=>?_)
  ·have hs:=(suf_terms f').1 _ _ _ _ h
   refine ⟨?_,by have:=hs.len;omega⟩
   show pTerm (f'+1) l=_
   unfold pTerm
   rw [h]
  ·show pTerm (f'+1) l=_
   unfold pTerm
   rw [h]
end Go.Proofs.YtmlmjopfbohglaaDoor
