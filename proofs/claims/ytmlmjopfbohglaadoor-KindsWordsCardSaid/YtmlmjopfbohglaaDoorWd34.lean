/- Parts of the proof: RpN RpM. -/
import Derived.Test.YtmlmjopfbohglaaDoorWd32
import Derived.Test.YtmlmjopfbohglaaDoorWd33
namespace Go.Proofs.YtmlmjopfbohglaaDoor
open Go.RowKit
def SayAtR (f:Nat):Prop:=∀ (l:List Tok) (w:World) (B:Nat),2+20 * l.length≤f→PrS w B (.good l)→Calls Tryd.prog 165 #[.pointer (some ⟨B,0,none⟩)] w (PostR B w (pAtom f l))
abbrev AtR (B:Nat) (w:World) (r:Res Nd):Prop:=Calls Tryd.prog 165 #[.pointer (some ⟨B,0,none⟩)] w (PostR B w r)
abbrev TmR (B:Nat) (l:List Tok) (r:Res Nd):Prop:=∀ W,PrS W B (.good l)→Calls Tryd.prog 178 #[.pointer (some ⟨B,0,none⟩)] W (PostR B W r)
theorem emp_ofR {x:ByteArray} (h:(x.toList == [])=true):x=⟨#[]⟩:=by
 rw [beq_iff_eq,ByteArray.toList_eq] at h
 exact ByteArray.ext (Array.ext' h)
theorem wrd_word {l:List Tok} (h:((hd l).kind == 3)=true):wrd l=(hd l).text:=by unfold wrd;rw [if_pos h]
theorem not_open {l:List Tok} (hc:((hd l).kind == 1 && (wrd l.tail).toList == [40])=false) (hk1:((hd l).kind == 1)=true) (hk3:((hd l.tail).kind == 3)=true):((hd l.tail).text.toList == [40])=false:=by
 rw [hk1,Bool.true_and,wrd_word hk3] at hc
 exact hc
theorem ratom_bad (a e:Int) (l:List Tok) (w:World) (B:Nat) (hS:PrS w B (.good l)) (hc:((hd l).kind == 1 && (wrd l.tail).toList == [40])=false) (ht:TmR B l (.bad a e)):AtR B w (.bad a e):=by
 cases hk1:((hd l).kind == 1) with
 | false=>exact ratom_bad_kind a e l w B hS hk1 ht
 | true =>
  cases hk3:((hd l.tail).kind == 3) with
  | false=>exact ratom_bad_word a e l w B hS hk1 hk3 ht
  | true=>exact ratom_bad_text a e l w B hS hk1 hk3 (not_open hc hk1 hk3) ht
theorem ratom_is (nd:Nd) (l' l:List Tok) (w:World) (B:Nat) (hS:PrS w B (.good l)) (hc:((hd l).kind == 1 && (wrd l.tail).toList == [40])=false) (ht:TmR B l (.ok nd l')) (hsg:psg 4 (wrd l')=⟨#[]⟩) (hv:(nd.op.toList == [118,97,114])=true):AtR B w (.ok (mkN tIsB nd.name 0 (hd l).pos []) l'):=by
 cases hk1:((hd l).kind == 1) with
 | false=>exact ratom_is_kind nd l' l w B hS hk1 ht hsg hv
 | true =>
  cases hk3:((hd l.tail).kind == 3) with
  | false=>exact ratom_is_word nd l' l w B hS hk1 hk3 ht hsg hv
  | true=>exact ratom_is_text nd l' l w B hS hk1 hk3 (not_open hc hk1 hk3) ht hsg hv
theorem ratom_novar (nd:Nd) (l' l:List Tok) (w:World) (B:Nat) (hS:PrS w B (.good l)) (hc:((hd l).kind == 1 && (wrd l.tail).toList == [40])=false) (ht:TmR B l (.ok nd l')) (hsg:psg 4 (wrd l')=⟨#[]⟩) (hv:(nd.op.toList == [118,97,114])=false):AtR B w (.bad (hd l).pos 2):=by
 cases hk1:((hd l).kind == 1) with
 | false=>exact ratom_novar_kind nd l' l w B hS hk1 ht hsg hv
 | true =>
  cases hk3:((hd l.tail).kind == 3) with
  | false=>exact ratom_novar_word nd l' l w B hS hk1 hk3 ht hsg hv
  | true=>exact ratom_novar_text nd l' l w B hS hk1 hk3 (not_open hc hk1 hk3) ht hsg hv
theorem ratom_rel (nd:Nd) (l':List Tok) (rk r:Res Nd) (l:List Tok) (w:World) (B:Nat) (hS:PrS w B (.good l)) (hc:((hd l).kind == 1 && (wrd l.tail).toList == [40])=false) (ht:TmR B l (.ok nd l')) (hsg:((psg 4 (wrd l')).toList == [])=false) (hk6:((hd l').kind == 4)=false) (hu:TmR B l'.tail rk)
  (h5:∀ m l2,rk=.ok m l2→r=.ok (mkN (psg 4 (wrd l')) emp0 0 (hd l').pos [nd,m]) l2) (h6:∀ a e,rk=.bad a e→r=.bad a e):AtR B w r:=by
 cases hk1:((hd l).kind == 1) with
 | false=>exact ratom_rel_kind nd l' rk r l w B hS hk1 ht hsg hk6 hu h5 h6
 | true =>
  cases hk3:((hd l.tail).kind == 3) with
  | false=>exact ratom_rel_word nd l' rk r l w B hS hk1 hk3 ht hsg hk6 hu h5 h6
  | true=>exact ratom_rel_text nd l' rk r l w B hS hk1 hk3 (not_open hc hk1 hk3) ht hsg hk6 hu h5 h6
theorem psg5_var (x:ByteArray):((psg 5 x).toList == [118,97,114])=false:=by
 rw [psg_5]
 repeat (first | (split;decide +kernel) | decide +kernel | split)
theorem termL_var:∀ (f:Nat) (n:Nd) (l:List Tok) (m:Nd) (l':List Tok),pTermL f n l=.ok m l'→(m.op.toList == [118,97,114])=true→m=n:=by
 intro f
 induction f with
 | zero=>intro n l m l' h hv;unfold pTermL at h;cases h
 | succ f ih =>
  intro n l m l' h hv
  unfold pTermL at h
  by_cases h0:((psg 5 (wrd l)).toList == [])=true
  ·rw [if_pos h0] at h
   injection h with h1 h2
   exact h1.symm
  ·rw [if_neg h0] at h
   cases hp:pPart f false l.tail with
   | bad a e=>rw [hp] at h;cases h
   | ok k l2 =>
    rw [hp] at h
    have:=ih _ _ _ _ h hv
    rw [this] at hv
    have hv:((psg 5 (wrd l)).toList == [118,97,114])=true:=hv
    rw [psg5_var] at hv
    cases hv
theorem part_var {f:Nat} {l:List Tok} {n:Nd} {l':List Tok} (h:pPart f false l=.ok n l') (hv:(n.op.toList == [118,97,114])=true):n.pos=(hd l).pos:=by
 cases f with
 | zero=>unfold pPart at h;cases h
 | succ f =>
  unfold pPart at h
  split at h
  ·rw [if_neg (by decide)] at h
   split at h
   ·injection h with h1 h2
    subst h1
    rfl
   ·cases h
  ·split at h
   ·split at h
    ·split at h
     ·injection h with h1 h2
      subst h1
      rfl
     ·cases h
    ·injection h with h1 h2
     subst h1
     rfl
   ·split at h
    ·injection h with h1 h2
     subst h1
     rfl
    ·cases h
theorem term_var {f:Nat} {l:List Tok} {n:Nd} {l':List Tok} (h:pTerm f l=.ok n l') (hv:(n.op.toList == [118,97,114])=true):n.pos=(hd l).pos:=by
 cases f with
 | zero=>unfold pTerm at h;cases h
 | succ f =>
  unfold pTerm at h
  cases hp:pPart f false l with
  | bad a e=>rw [hp] at h;cases h
  | ok k l2 =>
   rw [hp] at h
   have he:=termL_var _ _ _ _ _ h hv
   subst he
   exact part_var hp hv
theorem word_kind4 {l:List Tok} (h:((psg 4 (wrd l)).toList == [])=false):((hd l).kind == 4)=false:=by
 cases hk:((hd l).kind == 3) with
 | true=>exact kind_not hk (by decide)
 | false =>
  rw [wrd_nil hk] at h
  exact absurd h (by decide +kernel)
theorem ratom_all (f:Nat):SayAtR f:=by
 intro l w B hneed hS
 obtain ⟨f',rfl⟩:∃ f',f=f'+1:=⟨f - 1,by omega⟩
 have hT:=fun (l:List Tok) (W:World) (hn:2+20 * l.length≤f'+1) (hr:PrS W B (.good l))=>(rterms_all (f'+1)).2.2 l W B hn hr
 cases hc:((hd l).kind == 1 && (wrd l.tail).toList == [40]) with
 | true =>
  have hc2:=hc
  rw [Bool.and_eq_true] at hc2
  have hne:=ne_of_kind hc2.1 (by decide)
  have hne2:=ne_of_wrd hc2.2
  have h1:=(Suf.tail hne).len
  have h2:=(Suf.tail hne2).len
  have hk3:((hd l.tail).kind == 3)=true:=by
   cases hk:((hd l.tail).kind == 3) with
   | true=>rfl
   | false =>
    have h:=hc2.2
    rw [wrd_nil hk] at h
    exact absurd h (by decide +kernel)
  have htx:((hd l.tail).text.toList == [40])=true:=by rw [← wrd_word hk3];exact hc2.2
  refine ratom_call l w B hS hc2.1 hk3 htx (pList (f'+1) false l.tail.tail) (fun W hr=>?_) _ (fun ks l' h=>?_) (fun a e h=>?_)
  ·exact rrowT f' (kid_tm (fun g hg=>(rterms_all g).2.2)) l.tail.tail W B (by omega) hr
  ·unfold pAtom
   rw [if_pos hc,h]
  ·unfold pAtom
   rw [if_pos hc,h]
 | false =>
  have hif:¬ ((hd l).kind == 1 && (wrd l.tail).toList == [40])=true:=by rw [hc];decide
  cases hq:pTerm (f'+1) l with
  | bad a e =>
   have h:=ratom_bad a e l w B hS hc (fun W hr=>by have:=hT l W (by omega) hr;rw [← hq];exact this)
   unfold pAtom
   rw [if_neg hif,hq]
   exact h
  | ok n l' =>
   have hsuf:=(suf_terms (f'+1)).2.2.2.2.1 _ _ _ hq
   have hterm:TmR B l (.ok n l'):=fun W hr=>by have:=hT l W (by omega) hr;rw [← hq];exact this
   cases hsg:((psg 4 (wrd l')).toList == []) with
   | true =>
    cases hv:(n.op.toList == [118,97,114]) with
    | true =>
     have h:=ratom_is n l' l w B hS hc hterm (emp_ofR hsg) hv
     rw [← term_var hq hv] at h
     unfold pAtom
     rw [if_neg hif,hq]
     show Calls _ _ _ w (PostR B w (if ((psg 4 (wrd l')).toList == [])=true then _ else _))
     rw [if_pos hsg,if_pos hv]
     exact h
    | false =>
     have h:=ratom_novar n l' l w B hS hc hterm (emp_ofR hsg) hv
     unfold pAtom
     rw [if_neg hif,hq]
     show Calls _ _ _ w (PostR B w (if ((psg 4 (wrd l')).toList == [])=true then _ else _))
     rw [if_pos hsg,if_neg (by rw [hv];decide)]
     exact h
   | false =>
    have hne:=ne_of_psg hsg
    have hlt:=hsuf.len
    have hlt2:=(Suf.tail hne).len
    refine ratom_rel n l' (pTerm (f'+1) l'.tail) _ l w B hS hc hterm hsg (word_kind4 hsg) (fun W hr=>hT l'.tail W (by omega) hr) (fun m l2 h=>?_) (fun a e h=>?_)
    ·unfold pAtom
     rw [if_neg hif,hq]
     show (if ((psg 4 (wrd l')).toList == [])=true then _ else _)=_
     rw [if_neg (by rw [hsg];decide),h]
    ·unfold pAtom
     rw [if_neg hif,hq]
     show (if ((psg 4 (wrd l')).toList == [])=true then _ else _)=_
     rw [if_neg (by rw [hsg];decide),h]
set_option maxRecDepth 100000 in
set_option maxHeartbeats 16000000 in
theorem rimp_bad (s:St) (p e:Int) (w:World) (B d:Nat) (hS:PrS w B s) (ho:∀ W,PrS W B s→Calls Tryd.prog 90 #[.pointer (some ⟨B,0,none⟩),.int .i64 d] W (PostR B W (.bad p e))):Calls Tryd.prog 63 #[.pointer (some ⟨B,0,none⟩),.int .i64 d] w (PostR B w (.bad p e)):=by
 have HOR:=Lib.hid ho
 clear ho
 have hc5:=cellsNode
 have hc4:=cellsTok
 have hB:=hS.lt
 have q3:=tok_f3
 have q0:=tok_f0
 have q2:=tok_f2
 have q1:=tok_f1
 have HS:=Lib.hid hS
 clear hS
 go_enter Tryd.func63,Tryd.ntmps63
 have HC1:=Lib.hid (HOR.out (w.alloc (boxOf ⟨#[]⟩ ⟨#[]⟩ 0 0 none 0 0)) (HS.out.alloc _))
 go_wp2_with fail
 refine HC1.out.mono ?_
 rintro e1 w1 ⟨A,rfl,hk1,ho1⟩
 have HO1:=Lib.hid ho1
 clear ho1
 have HK1:=Lib.hid (((Kp.refl B w).alloc _).trans hk1)
 have HBZ1:=Lib.hid (hk1.blk (new_at w (boxOf ⟨#[]⟩ ⟨#[]⟩ 0 0 none 0 0)) (by omega))
 have hzZ1:=lt_heap HBZ1.out
 have HKL1:=Lib.hid hk1
 clear hk1
 have HR1:=Lib.hid (show PrS w1 B (.bad p e) from HO1.out)
 have HC2:=Lib.hid (ris_b ⟨#[61,62]⟩ (w1.alloc (boxOf A.op A.name A.n A.pos A.a A.kids.len A.cap)) B p e (HR1.out.alloc _))
 go_wp2_with fail
 refine HC2.out.mono ?_
 rintro e2 w2 ⟨rfl,hb2⟩
 have HK2:=Lib.hid ((HK1.out.alloc _).below hb2)
 have HR2:=Lib.hid ((HR1.out.alloc _).below hb2)
 have HBZ2:=Lib.hid ((hb2.block _ (lt_heap ((Below.heap_alloc _ _ _ (lt_heap HBZ1.out)).trans HBZ1.out))).trans ((Below.heap_alloc _ _ _ (lt_heap HBZ1.out)).trans HBZ1.out))
 have hzZ2:=lt_heap HBZ2.out
 have HBN2:=Lib.hid ((hb2.block _ (lt_heap (new_at w1 (boxOf A.op A.name A.n A.pos A.a A.kids.len A.cap)))).trans (new_at w1 (boxOf A.op A.name A.n A.pos A.a A.kids.len A.cap)))
 have hzN2:=lt_heap HBN2.out
 clear hb2
 have hne1:¬ w.heap.size=w1.heap.size:=by omega
 have hme1:¬ w1.heap.size=w.heap.size:=by omega
 obtain ⟨bN0,bN1,bN2,bN3,bN4⟩:=box_cells HBN2.out
 obtain ⟨fN0,fN1,fN2,fN3,fN4⟩:=box_frozen HBN2.out
 obtain ⟨bZ0,bZ1,bZ2,bZ3,bZ4⟩:=box_cells HBZ2.out
 obtain ⟨fZ0,fZ1,fZ2,fZ3,fZ4⟩:=box_frozen HBZ2.out
 go_wp2_with fail
 refine ret_node (B:=w.heap.size) A.op A.name A.n A.pos A.a A.kids.len A.cap Tryd.results63 rfl rfl (by repeat (with_reducible first | exact node_set HBZ2.out _ _ _ _ _ _ _ | refine (Below.heap_alloc _ _ _ (by simp;omega)).trans ?_)) ⟨A,rfl,(by repeat (with_reducible first | exact HK2.out | refine Kp.alloc ?_ _ | refine Kp.set ?_ (Nat.le_refl _) _)),?_⟩
 show PrS _ B (.bad _ _)
 exact (by repeat (with_reducible first | exact HR2.out | refine PrS.alloc ?_ _ | refine PrS.set ?_ hB _))
set_option maxRecDepth 100000 in
set_option maxHeartbeats 16000000 in
theorem rimp_one (nd:Nd) (l':List Tok) (l:List Tok) (w:World) (B d:Nat) (hS:PrS w B (.good l)) (ho:∀ W,PrS W B (.good l)→Calls Tryd.prog 90 #[.pointer (some ⟨B,0,none⟩),.int .i64 d] W (PostR B W (.ok nd l'))) (hw:((wrd l').toList == (ByteArray.mk #[61,62]).toList)=false):Calls Tryd.prog 63 #[.pointer (some ⟨B,0,none⟩),.int .i64 d] w (PostR B w (.ok nd l')):=by
 have HOR:=Lib.hid ho
 clear ho
 have hc5:=cellsNode
 have hc4:=cellsTok
 have hB:=hS.lt
 have q3:=tok_f3
 have q0:=tok_f0
 have q2:=tok_f2
 have q1:=tok_f1
 have HS:=Lib.hid hS
 clear hS
 go_enter Tryd.func63,Tryd.ntmps63
 have HC1:=Lib.hid (HOR.out (w.alloc (boxOf ⟨#[]⟩ ⟨#[]⟩ 0 0 none 0 0)) (HS.out.alloc _))
 go_wp2_with fail
 refine HC1.out.mono ?_
 rintro e1 w1 ⟨A,rfl,hk1,ho1⟩
 have HO1:=Lib.hid ho1
 clear ho1
 have HK1:=Lib.hid (((Kp.refl B w).alloc _).trans hk1)
 have HBZ1:=Lib.hid (hk1.blk (new_at w (boxOf ⟨#[]⟩ ⟨#[]⟩ 0 0 none 0 0)) (by omega))
 have hzZ1:=lt_heap HBZ1.out
 have HKL1:=Lib.hid hk1
 clear hk1
 obtain ⟨hr1,hg1,hs1⟩:=HO1.out
 have HR1:=Lib.hid hr1
 have HG:=Lib.hid hg1
 have HST:=Lib.hid hs1
 clear hr1 hg1 hs1 HO1
 have HC2:=Lib.hid (ris_no l' ⟨#[61,62]⟩ (w1.alloc (boxOf A.op A.name A.n A.pos A.a A.kids.len A.cap)) B hw (HR1.out.alloc _))
 go_wp2_with fail
 refine HC2.out.mono ?_
 rintro e2 w2 ⟨rfl,hb2⟩
 have HMN2:=Lib.hid (((Kp.refl B w1).alloc _).below hb2)
 have HK2:=Lib.hid ((HK1.out.alloc _).below hb2)
 have HR2:=Lib.hid ((HR1.out.alloc _).below hb2)
 have HBZ2:=Lib.hid ((hb2.block _ (lt_heap ((Below.heap_alloc _ _ _ (lt_heap HBZ1.out)).trans HBZ1.out))).trans ((Below.heap_alloc _ _ _ (lt_heap HBZ1.out)).trans HBZ1.out))
 have hzZ2:=lt_heap HBZ2.out
 have HBN2:=Lib.hid ((hb2.block _ (lt_heap (new_at w1 (boxOf A.op A.name A.n A.pos A.a A.kids.len A.cap)))).trans (new_at w1 (boxOf A.op A.name A.n A.pos A.a A.kids.len A.cap)))
 have hzN2:=lt_heap HBN2.out
 clear hb2
 have hne1:¬ w.heap.size=w1.heap.size:=by omega
 have hme1:¬ w1.heap.size=w.heap.size:=by omega
 obtain ⟨bN0,bN1,bN2,bN3,bN4⟩:=box_cells HBN2.out
 obtain ⟨fN0,fN1,fN2,fN3,fN4⟩:=box_frozen HBN2.out
 obtain ⟨bZ0,bZ1,bZ2,bZ3,bZ4⟩:=box_cells HBZ2.out
 obtain ⟨fZ0,fZ1,fZ2,fZ3,fZ4⟩:=box_frozen HBZ2.out
 go_wp2_with fail
 refine ret_node (B:=w.heap.size) A.op A.name A.n A.pos A.a A.kids.len A.cap Tryd.results63 rfl rfl (by repeat (with_reducible first | exact node_set HBZ2.out _ _ _ _ _ _ _ | refine (Below.heap_alloc _ _ _ (by simp;omega)).trans ?_)) ⟨A,rfl,(by repeat (with_reducible first | exact HK2.out | refine Kp.alloc ?_ _ | refine Kp.set ?_ (Nat.le_refl _) _)),?_⟩
 refine ⟨(by repeat (with_reducible first | exact HR2.out | refine PrS.alloc ?_ _ | refine PrS.set ?_ hB _)),?_,HST.out⟩
 refine Nd.Good.mono (S:=fun b=>w.heap.size+1≤b) ?_ (fun b hb=>by omega)
 exact ((HG.out.mono (S':=fun b=>w.heap.size+1≤b) (fun b hb=>by have h5:=hb;simpa using h5)).from (HMN2.out.from (S:=fun b=>w.heap.size+1≤b) (fun h=>absurd h (by omega)))).from (set5_from _ (by omega) _ _ _ _ _)
set_option maxRecDepth 100000 in
set_option maxHeartbeats 16000000 in
theorem rimp_two (nd:Nd) (l':List Tok) (rk r:Res Nd) (l:List Tok) (w:World) (B d:Nat) (hS:PrS w B (.good l)) (ho:∀ W,PrS W B (.good l)→Calls Tryd.prog 90 #[.pointer (some ⟨B,0,none⟩),.int .i64 d] W (PostR B W (.ok nd l'))) (hw:((wrd l').toList == (ByteArray.mk #[61,62]).toList)=true) (hk6:((hd l').kind == 4)=false) (hu:∀ W,PrS W B (.good l'.tail)→Calls Tryd.prog 63 #[.pointer (some ⟨B,0,none⟩),.int .i64 d] W (PostR B W rk)) (h5:∀ m l2,rk=.ok m l2→r=.ok (mkN ⟨#[105,109,112]⟩ emp0 0 (hd l').pos [nd,m]) l2) (h6:∀ a e,rk=.bad a e→r=.bad a e):Calls Tryd.prog 63 #[.pointer (some ⟨B,0,none⟩),.int .i64 d] w (PostR B w (r)):=by
 have HOR:=Lib.hid ho
 clear ho
 have HU:=Lib.hid hu
 have H5:=Lib.hid h5
 have H6:=Lib.hid h6
 have HKI6:=Lib.hid hk6
 clear hu h5 h6 hk6
 have hc5:=cellsNode
 have hc4:=cellsTok
 have hB:=hS.lt
 have q3:=tok_f3
 have q0:=tok_f0
 have q2:=tok_f2
 have q1:=tok_f1
 have HS:=Lib.hid hS
 clear hS
 go_enter Tryd.func63,Tryd.ntmps63
 have HC1:=Lib.hid (HOR.out (w.alloc (boxOf ⟨#[]⟩ ⟨#[]⟩ 0 0 none 0 0)) (HS.out.alloc _))
 go_wp2_with fail
 refine HC1.out.mono ?_
 rintro e1 w1 ⟨A,rfl,hk1,ho1⟩
 have HO1:=Lib.hid ho1
 clear ho1
 have HK1:=Lib.hid (((Kp.refl B w).alloc _).trans hk1)
 have HBZ1:=Lib.hid (hk1.blk (new_at w (boxOf ⟨#[]⟩ ⟨#[]⟩ 0 0 none 0 0)) (by omega))
 have hzZ1:=lt_heap HBZ1.out
 have HKL1:=Lib.hid hk1
 clear hk1
 obtain ⟨hr1,hg1,hs1⟩:=HO1.out
 have HR1:=Lib.hid hr1
 have HG:=Lib.hid hg1
 have HST:=Lib.hid hs1
 clear hr1 hg1 hs1 HO1
 have HC2:=Lib.hid (ris_yes l' ⟨#[61,62]⟩ (w1.alloc (boxOf A.op A.name A.n A.pos A.a A.kids.len A.cap)) B (by decide +kernel) hw (HR1.out.alloc _))
 go_wp2_with fail
 refine HC2.out.mono ?_
 rintro e2 w2 ⟨rfl,hb2⟩
 have HMN2:=Lib.hid (((Kp.refl B w1).alloc _).below hb2)
 have HK2:=Lib.hid ((HK1.out.alloc _).below hb2)
 have HR2:=Lib.hid ((HR1.out.alloc _).below hb2)
 have HBZ2:=Lib.hid ((hb2.block _ (lt_heap ((Below.heap_alloc _ _ _ (lt_heap HBZ1.out)).trans HBZ1.out))).trans ((Below.heap_alloc _ _ _ (lt_heap HBZ1.out)).trans HBZ1.out))
 have hzZ2:=lt_heap HBZ2.out
 have HBN2:=Lib.hid ((hb2.block _ (lt_heap (new_at w1 (boxOf A.op A.name A.n A.pos A.a A.kids.len A.cap)))).trans (new_at w1 (boxOf A.op A.name A.n A.pos A.a A.kids.len A.cap)))
 have hzN2:=lt_heap HBN2.out
 clear hb2
 have hne1:¬ w.heap.size=w1.heap.size:=by omega
 have hme1:¬ w1.heap.size=w.heap.size:=by omega
 have HC3:=Lib.hid (rnext_g l' w2 B HKI6.out HR2.out)
 go_wp2_with fail
 refine HC3.out.mono ?_
 rintro e3 w3 ⟨rfl,hk3,hr3⟩
 have HMN3:=Lib.hid (HMN2.out.trans hk3)
 have HK3:=Lib.hid (HK2.out.trans hk3)
 have HR3:=Lib.hid hr3
 have HBZ3:=Lib.hid (hk3.blk HBZ2.out (by omega))
 have hzZ3:=lt_heap HBZ3.out
 have HBN3:=Lib.hid (hk3.blk HBN2.out (by omega))
 have hzN3:=lt_heap HBN3.out
 clear hk3
 have HC4:=Lib.hid (HU.out (w3.alloc (tokBox (hd l').kind (hd l').text (hd l').n (hd l').pos)).drew ((HR3.out.alloc _).drew))
 go_wp2_with fail
 refine wp_region_last 5 (fun W=>W.heap[w1.heap.size]? = some (.cells #[.string A.op,.string A.name,.int .i64 A.n,.int .i64 A.pos,.slice A.a A.kids.len A.cap] 26)∧W.heap[w3.heap.size]? = some (tokBox (hd l').kind (hd l').text (hd l').n (hd l').pos)) (by kernel_rfl) (by kernel_rfl) ⟨((Below.heap_alloc _ _ _ (lt_heap HBN3.out)).trans HBN3.out),(new_at w3 (tokBox (hd l').kind (hd l').text (hd l').n (hd l').pos))⟩ ?_
 refine headsC_val _ (.pointer (some ⟨w3.heap.size,3,none⟩)) rfl (fun W hW=>by unfold execOp;simp [go_sem,Act.eval]) ?_
 refine headsC_val _ (.int .i64 (hd l').pos) rfl (fun W hW=>by have h:=tok_cells hW.2;unfold execOp;simp [go_sem,Act.eval,h]) ?_
 refine headsC_load _ _ _ rfl rfl w1.heap.size rfl _ _ _ _ (fun W h=>h.1) Tryd.underlying26 rfl (by kernel_rfl) ?_
 refine headsC_move _ _ rfl rfl ?_
 refine headsC_move _ _ rfl rfl ?_
 refine headsC_nil ?_
 show wpList _ _ (thenC _ _ _ _) _ _ _
 go_wp2_with fail
 refine HC4.out.mono ?_
 rintro e4 w4 ⟨M,rfl,hk4,ho4⟩
 have HO4:=Lib.hid ho4
 clear ho4
 have HK4:=Lib.hid (((HK3.out.alloc _).drew).trans hk4)
 have HMN4:=Lib.hid (((HMN3.out.alloc _).drew).trans hk4)
 have HBZ4:=Lib.hid (hk4.blk ((Below.heap_alloc _ _ _ (lt_heap HBZ3.out)).trans HBZ3.out) (by omega))
 have hzZ4:=lt_heap HBZ4.out
 have HBN4:=Lib.hid (hk4.blk ((Below.heap_alloc _ _ _ (lt_heap HBN3.out)).trans HBN3.out) (by omega))
 have hzN4:=lt_heap HBN4.out
 have HBU4:=Lib.hid (hk4.blk (new_at w3 (tokBox (hd l').kind (hd l').text (hd l').n (hd l').pos)) (by omega))
 have hzU4:=lt_heap HBU4.out
 have HKL4:=Lib.hid hk4
 clear hk4
 have hdr:w3.drew.heap.size=w3.heap.size:=rfl
 go_wp2_with fail
 refine ⟨fun _=>⟨HBN4.out,HBU4.out⟩,?_⟩
 show wpList _ _ (thenC _ _ _ _) _ _ _
 go_wp2_with fail
 refine ⟨fun _=>⟨(Below.heap_alloc _ _ _ (lt_heap HBN4.out)).trans HBN4.out,(Below.heap_alloc _ _ _ (lt_heap HBU4.out)).trans HBU4.out⟩,?_⟩
 show wpList _ _ (thenC _ _ _ _) _ _ _
 go_wp2_with fail
 refine ⟨fun _=>⟨(Below.heap_alloc _ _ _ (lt_heap HBN4.out)).trans HBN4.out,(Below.heap_alloc _ _ _ (lt_heap HBU4.out)).trans HBU4.out⟩,?_⟩
 show wpList _ _ (thenC _ _ _ _) _ _ _
 obtain ⟨bZ0,bZ1,bZ2,bZ3,bZ4⟩:=box_cells HBZ4.out
 obtain ⟨fZ0,fZ1,fZ2,fZ3,fZ4⟩:=box_frozen HBZ4.out
 go_wp2_with fail
 refine ⟨fun h=>(by cases h),NoPanic.normal ?_⟩
 go_wp2_with fail
 refine ret_node (B:=w.heap.size) ⟨#[105,109,112]⟩ ⟨#[]⟩ 0 (hd l').pos (some ⟨w4.heap.size,0,none⟩) 2 2 Tryd.results63 rfl rfl (by repeat (with_reducible first | exact node_set HBZ4.out _ _ _ _ _ _ _ | refine (Below.heap_alloc _ _ _ (by simp;omega)).trans ?_)) ⟨⟨⟨#[105,109,112]⟩,⟨#[]⟩,0,(hd l').pos,some ⟨w4.heap.size,0,none⟩,2,.cons A.op A.name A.n A.pos A.a A.cap A.kids (.cons M.op M.name M.n M.pos M.a M.cap M.kids .nil)⟩,rfl,(by repeat (with_reducible first | exact HK4.out | refine Kp.alloc ?_ _ | refine Kp.set ?_ (Nat.le_refl _) _)),?_⟩
 have hfr:From (fun b=>w.heap.size+1≤b) w4 (((((w4.setCell ⟨w.heap.size,0,none⟩ (.string ⟨#[105,109,112]⟩)).setCell ⟨w.heap.size,1,none⟩ (.string ⟨#[]⟩)).setCell ⟨w.heap.size,2,none⟩ (.int .i64 0)).setCell ⟨w.heap.size,3,none⟩ (.int .i64 (hd l').pos)).setCell ⟨w.heap.size,4,none⟩ (.slice (some ⟨w4.heap.size,0,none⟩) 2 2)):=set5_from _ (by omega) _ _ _ _ _
 cases rk with
 | ok m l2 =>
  obtain ⟨hr,hg,hs⟩:=HO4.out
  rw [H5.out m l2 rfl]
  refine ⟨(by repeat (with_reducible first | exact hr | refine PrS.alloc ?_ _ | refine PrS.set ?_ hB _)),?_,?_⟩
  ·refine Nd.Good.mono (S:=fun b=>w.heap.size+1≤b) ?_ (fun b hb=>by omega)
   have hT:=(HG.out.mono (S':=fun b=>w.heap.size+1≤b) (fun b hb=>by have h5:=hb;simpa using h5)).from (HMN4.out.from (S:=fun b=>w.heap.size+1≤b) (fun h=>absurd h (by omega)))
   have hU:=hg.mono (S':=fun b=>w.heap.size+1≤b) (fun b hb=>by have h5:(w3.alloc (tokBox (hd l').kind (hd l').text (hd l').n (hd l').pos)).drew.heap.size≤b:=hb;(try simp at h5);omega)
   exact good2 (G:=w4.heap.size) (by omega) (new_sets _ _ _ _ _ _ _ _) ((hT.from hfr).from (From.alloc _ _ _)) ((hU.from hfr).from (From.alloc _ _ _))
  ·show Nd.mk _ _ _ _ _ _ _=_
   rw [← hs,← HST.out]
   rfl
 | bad a e =>
  have hr:PrS w4 B (.bad a e):=HO4.out
  rw [H6.out a e rfl]
  show PrS _ B (.bad a e)
  exact (by repeat (with_reducible first | exact hr | refine PrS.alloc ?_ _ | refine PrS.set ?_ hB _))
end Go.Proofs.YtmlmjopfbohglaaDoor
