/- Parts of the proof: RpA KD. -/
import Derived.Test.YtmlmjopfbohglaaDoorWd04
namespace Go.Proofs.YtmlmjopfbohglaaDoor
open Go.RowKit
theorem bool_two (b:Bool):b=true∨b=false:=by cases b <;> simp
abbrev prC (a:Option Addr) (len cap:Nat) (i e p:Int):Array Value:=#[.slice a len cap,.int .i64 i,.int .i64 e,.int .i64 p]
def PrAt (w:World) (B:Nat) (a:Option Addr) (len cap:Nat) (i e p:Int):Prop:=w.heap[B]? = some (.cells (prC a len cap i e p) 66)
def EndsQ (l:List Tok):Prop:=EndsOk l∧NQ l
theorem EndsQ.tail {l:List Tok} (h:EndsQ l):EndsQ l.tail:=⟨h.1.tail,h.2.tail⟩
def PrS (w:World) (B:Nat):St→Prop
 | .good l=>∃ (a:Option Addr) (L:List Tok) (cap i:Nat),PrAt w B a L.length cap i 0 0∧L.drop i=l∧l≠[]∧EndsQ l∧L.length≤1000000∧ToksIn w B a L
 | .bad p e=>∃ (a:Option Addr) (len cap i:Nat),PrAt w B a len cap i e p∧(e == 0)=false
theorem PrAt.lt {w:World} {B:Nat} {a:Option Addr} {len cap:Nat} {i e p:Int} (h:PrAt w B a len cap i e p):B < w.heap.size:=lt_heap h
theorem prs_nq {w:World} {B:Nat} {l:List Tok} (h:PrS w B (.good l)):NQ l:=by
 obtain ⟨a,L,cap,i,h1,h2,h3,h4,h5,h6⟩:=h
 exact h4.2
theorem PrS.lt {w:World} {B:Nat} {s:St} (h:PrS w B s):B < w.heap.size:=by
 cases s with
 | good l=>obtain ⟨a,L,cap,i,h,_⟩:=h;exact h.lt
 | bad p e=>obtain ⟨a,len,cap,i,h,_⟩:=h;exact h.lt
theorem PrAt.cells {w:World} {B:Nat} {a:Option Addr} {len cap:Nat} {i e p:Int} (h:PrAt w B a len cap i e p):(w.cell? ⟨B,0,none⟩=some (.slice a len cap)∧w.cell? ⟨B,1,none⟩=some (.int .i64 i)∧w.cell? ⟨B,2,none⟩=some (.int .i64 e)∧w.cell? ⟨B,3,none⟩=some (.int .i64 p))∧(w.frozen? ⟨B,0,none⟩=false∧w.frozen? ⟨B,1,none⟩=false∧w.frozen? ⟨B,2,none⟩=false∧w.frozen? ⟨B,3,none⟩=false):=by
 unfold PrAt at h
 refine ⟨⟨?_,?_,?_,?_⟩,⟨?_,?_,?_,?_⟩⟩
 all_goals first | (rw [cell_of_row w B _ _ _ _ h];rfl) | simp [World.frozen?,h]
theorem PrS.same {w w':World} {B:Nat} {s:St} (h:∀ g,g≤B→w'.heap[g]? = w.heap[g]?) (hr:PrS w B s):PrS w' B s:=by
 cases s with
 | good l =>
  obtain ⟨a,L,cap,i,h1,h2,h3,h4,h5,h6⟩:=hr
  refine ⟨a,L,cap,i,?_,h2,h3,h4,h5,h6.same fun g hg=>h g (by omega)⟩
  unfold PrAt at *
  rw [h B (Nat.le_refl _)];exact h1
 | bad p e =>
  obtain ⟨a,len,cap,i,h1,h2⟩:=hr
  refine ⟨a,len,cap,i,?_,h2⟩
  unfold PrAt at *
  rw [h B (Nat.le_refl _)];exact h1
theorem PrS.below {w w':World} {B:Nat} {s:St} (hr:PrS w B s) (hb:Below w.heap.size w w'):PrS w' B s:=hr.same fun g hg=>hb.block g (Nat.lt_of_le_of_lt hg hr.lt)
theorem PrS.alloc {w:World} {B:Nat} {s:St} (hr:PrS w B s) (o:Obj):PrS (w.alloc o) B s:=hr.below (below_box w o)
theorem PrS.set {w:World} {B:Nat} {s:St} (hr:PrS w B s) {p:Addr} (hp:B < p.block) (v:Value):PrS (w.setCell p v) B s:=hr.same fun g hg=>Below.heap_setCell _ _ _ _ (by omega)
theorem PrS.drew {w:World} {B:Nat} {s:St} (h:PrS w B s):PrS w.drew B s:=h.same fun _ _=>rfl
theorem rhd_some {l:List Tok} (h:l≠[]):l[0]? = some (hd l):=by
 cases l with
 | nil=>exact (h rfl).elim
 | cons a r=>rfl
theorem PrS.tok {w:World} {B:Nat} {l:List Tok} (h:PrS w B (.good l)):∃ (g o L cap i:Nat),PrAt w B (some ⟨g,o,none⟩) L cap i 0 0∧i < L∧L≤1000000∧g < B∧TokAt w g (o+i * 4) (hd l)∧(∀ t,l[1]? = some t→i+1 < L∧TokAt w g (o+(i+1) * 4) t):=by
 obtain ⟨a,L,cap,i,h1,h2,h3,h4,h5,h6⟩:=h
 have hi:i < L.length:=by
  rcases Nat.lt_or_ge i L.length with h | h
  ·exact h
  ·exfalso;rw [List.drop_eq_nil_of_le h] at h2;exact h3 h2.symm
 rcases h6 with h6 | ⟨g,o,rfl,hg,ht⟩
 ·rw [h6] at hi;exact absurd hi (Nat.not_lt_zero _)
 refine ⟨g,o,L.length,cap,i,h1,hi,h5,hg,ht i _ ?_,fun t h0=>?_⟩
 ·have:=rhd_some h3
  rw [← h2,List.getElem?_drop] at this
  rw [← h2]
  simpa using this
 ·rw [← h2,List.getElem?_drop] at h0
  exact ⟨(List.getElem?_eq_some_iff.1 h0).1,ht (i+1) t h0⟩
abbrev tokVal (t:Tok):Value:=.agg #[.int .i64 t.kind,.string t.text,.int .i64 t.n,.int .i64 t.pos]
abbrev endTok:Tok:=⟨4,⟨#[]⟩,0,0⟩
set_option maxRecDepth 100000 in
set_option maxHeartbeats 4000000 in
theorem rnow_g (l:List Tok) (w:World) (B:Nat) (h:PrS w B (.good l)):Calls Tryd.prog 32 #[.pointer (some ⟨B,0,none⟩)] w fun e w'=>e=.returned (tokVal (hd l))∧Below w.heap.size w w':=by
 have hc4:=cellsTok
 have hB:=h.lt
 obtain ⟨g,o,L,cap,i,h1,hi,hL,hg,⟨t0,t1,t2,t3⟩,_⟩:=h.tok
 obtain ⟨⟨k0,k1,k2,k3⟩,_⟩:=h1.cells
 have hi2:(i:Int) < L:=by omega
 clear h h1
 go_enter Tryd.func32,Tryd.ntmps32
 have hgs:g < w.heap.size:=by omega
 go_wp2_with fail
 go_region_held3 (fun wz=>wz.cell? ⟨B,0,none⟩=some (.slice (some ⟨g,o,none⟩) L cap)∧wz.cell? ⟨B,1,none⟩=some (.int .i64 i)∧wz.cell? ⟨g,o+i * 4,none⟩=some (.int .i64 (hd l).kind)∧wz.cell? ⟨g,o+i * 4+1,none⟩=some (.string (hd l).text)∧wz.cell? ⟨g,o+i * 4+2,none⟩=some (.int .i64 (hd l).n)∧wz.cell? ⟨g,o+i * 4+3,none⟩=some (.int .i64 (hd l).pos)) (go_keep) (fail)
 all_goals (go_wp2_with fail)
 exact ret_tok Tryd.results32 rfl rfl (new_at _ _) ⟨rfl,(below_box _ _).drew⟩
set_option maxRecDepth 100000 in
set_option maxHeartbeats 4000000 in
theorem rnow_b (w:World) (B:Nat) (p e:Int) (h:PrS w B (.bad p e)):Calls Tryd.prog 32 #[.pointer (some ⟨B,0,none⟩)] w fun x w'=>x=.returned (tokVal endTok)∧Below w.heap.size w w':=by
 have hc4:=cellsTok
 have hB:=h.lt
 obtain ⟨a,len,cap,i,h1,he⟩:=h
 obtain ⟨⟨k0,k1,k2,k3⟩,_⟩:=h1.cells
 clear h1
 go_enter Tryd.func32,Tryd.ntmps32
 go_wp2_with fail
 exact ret_tok Tryd.results32 rfl rfl (new_at _ _) ⟨rfl,below_box _ _⟩
set_option maxRecDepth 100000 in
set_option maxHeartbeats 4000000 in
theorem rfail_g (l:List Tok) (p q:Int) (w:World) (B:Nat) (hq:(q == 0)=false) (h:PrS w B (.good l)):Calls Tryd.prog 33 #[.pointer (some ⟨B,0,none⟩),.int .i64 p,.int .i64 q] w fun x w'=>x=.returned (.tuple #[])∧Kp B w w'∧PrS w' B (.bad p q):=by
 have hB:=h.lt
 obtain ⟨a,L,cap,i,h1,_⟩:=h
 obtain ⟨⟨k0,k1,k2,k3⟩,f0,f1,f2,f3⟩:=h1.cells
 have HZ:Hid (PrS ((w.setCell ⟨B,2,none⟩ (.int .i64 q)).setCell ⟨B,3,none⟩ (.int .i64 p)) B (.bad p q)):=Lib.hid (by
  unfold PrAt at h1
  exact ⟨a,_,cap,i,heap_setCell_same _ B 3 _ _ _ (heap_setCell_same w B 2 _ _ _ h1),hq⟩)
 have HK:=Lib.hid (((Kp.refl B w).setB 2 (.int .i64 q)).setB 3 (.int .i64 p))
 clear h1 hq
 go_enter Tryd.func33,Tryd.ntmps33
 go_wp2_with fail
 go_end0
 exact ⟨rfl,HK.out,HZ.out⟩
set_option maxRecDepth 100000 in
set_option maxHeartbeats 4000000 in
theorem rfail_b (p q p' e':Int) (w:World) (B:Nat) (h:PrS w B (.bad p' e')):Calls Tryd.prog 33 #[.pointer (some ⟨B,0,none⟩),.int .i64 p,.int .i64 q] w fun x w'=>x=.returned (.tuple #[])∧Kp B w w'∧PrS w' B (.bad p' e'):=by
 have hB:=h.lt
 have HS:=Lib.hid h
 obtain ⟨a,len,cap,i,h1,he⟩:=h
 obtain ⟨⟨k0,k1,k2,k3⟩,_⟩:=h1.cells
 clear h1
 go_enter Tryd.func33,Tryd.ntmps33
 go_wp2_with fail
 go_end0
 exact ⟨rfl,Kp.refl _ _,HS.out⟩
theorem wrd_yes {l:List Tok} {x:ByteArray} (h:((wrd l).toList == x.toList)=true) (hx:(x.toList == [])=false):((hd l).kind == 3)=true∧((hd l).text.toList == x.toList)=true:=by
 unfold wrd at h
 by_cases hk:((hd l).kind == 3)=true
 ·rw [if_pos hk] at h;exact ⟨hk,h⟩
 ·rw [if_neg hk] at h
  rw [show ((⟨#[]⟩:ByteArray).toList)=[] by rw [Lib.toList_data]] at h
  rw [show (([]:List UInt8) == x.toList)=(x.toList == []) from BEq.comm,hx] at h
  cases h
theorem wrd_no {l:List Tok} {x:ByteArray} (h:((wrd l).toList == x.toList)=false) (hk:((hd l).kind == 3)=true):((hd l).text.toList == x.toList)=false:=by
 unfold wrd at h
 rw [if_pos hk] at h;exact h
set_option maxRecDepth 100000 in
set_option maxHeartbeats 4000000 in
theorem ris_yes (l:List Tok) (x:ByteArray) (w:World) (B:Nat) (hx:(x.toList == [])=false) (hw:((wrd l).toList == x.toList)=true) (h:PrS w B (.good l)):Calls Tryd.prog 26 #[.pointer (some ⟨B,0,none⟩),.string x] w fun e w'=>e=.returned (.bool true)∧Below w.heap.size w w':=by
 obtain ⟨g1,g2⟩:=wrd_yes hw hx
 have HC:=Lib.hid (rnow_g l w B h)
 have hc4:=cellsTok
 clear h hw hx
 go_enter Tryd.func26,Tryd.ntmps26
 go_wp2_with fail
 refine HC.out.mono ?_
 rintro e w2 ⟨rfl,hb2⟩
 have hbb:=hb2.alloc hb2.size (tokBox (hd l).kind (hd l).text (hd l).n (hd l).pos)
 clear hb2 HC
 go_wp2_with fail
 go_ret
 exact ⟨rfl,hbb⟩
set_option maxRecDepth 100000 in
set_option maxHeartbeats 4000000 in
theorem ris_no (l:List Tok) (x:ByteArray) (w:World) (B:Nat) (hw:((wrd l).toList == x.toList)=false) (h:PrS w B (.good l)):Calls Tryd.prog 26 #[.pointer (some ⟨B,0,none⟩),.string x] w fun e w'=>e=.returned (.bool false)∧Below w.heap.size w w':=by
 have HC:=Lib.hid (rnow_g l w B h)
 have hc4:=cellsTok
 rcases bool_two ((hd l).kind == 3) with g1 | g1
 ·have g2:=wrd_no hw g1
  clear h hw
  go_enter Tryd.func26,Tryd.ntmps26
  go_wp2_with fail
  refine HC.out.mono ?_
  rintro e w2 ⟨rfl,hb2⟩
  have hbb:=hb2.alloc hb2.size (tokBox (hd l).kind (hd l).text (hd l).n (hd l).pos)
  clear hb2 HC
  go_wp2_with fail
  go_ret
  exact ⟨rfl,hbb⟩
 ·clear h hw
  go_enter Tryd.func26,Tryd.ntmps26
  go_wp2_with fail
  refine HC.out.mono ?_
  rintro e w2 ⟨rfl,hb2⟩
  have hbb:=hb2.alloc hb2.size (tokBox (hd l).kind (hd l).text (hd l).n (hd l).pos)
  clear hb2 HC
  go_wp2_with fail
  go_ret
  exact ⟨rfl,hbb⟩
set_option maxRecDepth 100000 in
set_option maxHeartbeats 4000000 in
theorem ris_b (x:ByteArray) (w:World) (B:Nat) (p e:Int) (h:PrS w B (.bad p e)):Calls Tryd.prog 26 #[.pointer (some ⟨B,0,none⟩),.string x] w fun y w'=>y=.returned (.bool false)∧Below w.heap.size w w':=by
 have HC:=Lib.hid (rnow_b w B p e h)
 have hc4:=cellsTok
 clear h
 go_enter Tryd.func26,Tryd.ntmps26
 go_wp2_with fail
 refine HC.out.mono ?_
 rintro e w2 ⟨rfl,hb2⟩
 have hbb:=hb2.alloc hb2.size (tokBox 4 ⟨#[]⟩ 0 0)
 clear hb2 HC
 go_wp2_with fail
 go_ret
 exact ⟨rfl,hbb⟩
theorem PrS.step {w:World} {B:Nat} {l:List Tok} (h:PrS w B (.good l)) (hk:((hd l).kind == 4)=false):∃ (a:Option Addr) (L cap i:Nat),PrAt w B a L cap i 0 0∧i < L∧L≤1000000∧(∀ W:World,PrAt W B a L cap ((i:Int)+1) 0 0→(∀ g,g < B→W.heap[g]? = w.heap[g]?)→PrS W B (.good l.tail)):=by
 obtain ⟨a,L,cap,i,h1,h2,h3,h4,h5,h6⟩:=h
 have hi:i < L.length:=by
  rcases Nat.lt_or_ge i L.length with h | h
  ·exact h
  ·exfalso;rw [List.drop_eq_nil_of_le h] at h2;exact h3 h2.symm
 refine ⟨a,L.length,cap,i,h1,hi,h5,fun W hW hs=>⟨a,L,cap,i+1,by rw [show (((i+1:Nat)):Int)=(i:Int)+1 by omega];exact hW,?_,?_,h4.tail,h5,h6.same hs⟩⟩
 ·rw [← h2,List.tail_drop]
 ·intro ht
  cases l with
  | nil=>exact h3 rfl
  | cons t r =>
   have hr:r=[]:=ht
   subst hr
   have:=h4.1 t rfl
   have hk2:(t.kind == 4)=false:=hk
   rw [this] at hk2
   exact absurd hk2 (by decide)
theorem set4_other {w:World} {g B:Nat} (hne:g≠B) (a b c d:Value):((((w.setCell ⟨B,0,none⟩ a).setCell ⟨B,1,none⟩ b).setCell ⟨B,2,none⟩ c).setCell ⟨B,3,none⟩ d).heap[g]? = w.heap[g]?:=by
 rw [Below.heap_setCell _ _ _ _ (by simpa using hne),Below.heap_setCell _ _ _ _ (by simpa using hne),Below.heap_setCell _ _ _ _ (by simpa using hne),Below.heap_setCell _ _ _ _ (by simpa using hne)]
theorem set4_size (w:World) (B:Nat) (a b c d:Value):((((w.setCell ⟨B,0,none⟩ a).setCell ⟨B,1,none⟩ b).setCell ⟨B,2,none⟩ c).setCell ⟨B,3,none⟩ d).heap.size=w.heap.size:=by simp
set_option maxRecDepth 100000 in
set_option maxHeartbeats 4000000 in
theorem rnext_g (l:List Tok) (w:World) (B:Nat) (hk:((hd l).kind == 4)=false) (h:PrS w B (.good l)):Calls Tryd.prog 58 #[.pointer (some ⟨B,0,none⟩)] w fun e w'=>e=.returned (tokVal (hd l))∧Kp B w w'∧PrS w' B (.good l.tail):=by
 have hc4:=cellsTok
 have hB:=h.lt
 have hne:¬ w.heap.size=B:=by omega
 have HC:=Lib.hid (rnow_g l (w.alloc (tokBox 0 ⟨#[]⟩ 0 0)) B (h.alloc _))
 obtain ⟨a,L,cap,i,h1,hi,hL,hst⟩:=h.step hk
 have H1:=Lib.hid h1
 have HST:=Lib.hid hst
 have HN:=Lib.hid (new_at w (tokBox 0 ⟨#[]⟩ 0 0))
 have hi2:(i:Int) < L:=by omega
 clear h h1 hst
 go_enter Tryd.func58,Tryd.ntmps58
 go_wp2_with fail
 refine HC.out.mono ?_
 rintro e w2 ⟨rfl,hb2⟩
 have hbb:=box_then hb2
 have hsz:=hb2.size
 have hblk:∀ g,g≤B→w2.heap[g]? = w.heap[g]?:=fun g hg=>hbb.block g (by omega)
 have HBK:=Lib.hid hblk
 have hat:PrAt w2 B a L cap i 0 0:=by unfold PrAt;rw [hblk B (Nat.le_refl _)];exact H1.out
 have HN2:Hid (w2.heap[w.heap.size]? = some (tokBox 0 ⟨#[]⟩ 0 0)):=Lib.hid ((hb2.block _ (by simp)).trans HN.out)
 have HAT:=Lib.hid hat
 obtain ⟨⟨k0,k1,k2,k3⟩,f0,f1,f2,f3⟩:=hat.cells
 obtain ⟨⟨r0,r1,r2,r3⟩,s0,s1,s2,s3⟩:=tok_cells HN2.out
 have hsz2:w.heap.size < w2.heap.size:=lt_heap HN2.out
 have hB2:B < w2.heap.size:=by omega
 have HK2:=Lib.hid (Kp.of_below (B:=B) hbb)
 clear hb2 hbb HC hblk hat
 go_wp2_with fail
 have hN1:(w2.setCell ⟨B,1,none⟩ (.int .i64 ((i:Int)+1))).heap[w.heap.size]? = some (tokBox 0 ⟨#[]⟩ 0 0):=by
  rw [Below.heap_setCell _ _ _ _ (by simpa using hne)];exact HN2.out
 have hT:=tok_set hN1 (hd l).kind (hd l).n (hd l).pos (hd l).text
 have hA1:PrAt (w2.setCell ⟨B,1,none⟩ (.int .i64 ((i:Int)+1))) B a L cap ((i:Int)+1) 0 0:=heap_setCell_same w2 B 1 _ _ _ HAT.out
 refine ret_tok Tryd.results58 rfl rfl ((Below.heap_alloc _ _ _ (lt_heap hT)).trans hT) ⟨rfl,((((((HK2.out.setB 1 _).set (Nat.le_refl _) _).set (Nat.le_refl _) _).set (Nat.le_refl _) _).set (Nat.le_refl _) _).alloc _),(HST.out _ ?_ ?_)⟩
 ·unfold PrAt at hA1 ⊢
  rw [Below.heap_alloc _ _ _ (by rw [set4_size];exact lt_heap hA1),set4_other (by omega)]
  exact hA1
 ·intro g hg
  have hgl:g < w2.heap.size:=by omega
  rw [Below.heap_alloc _ _ _ (by rw [set4_size];simpa using hgl),set4_other (by omega),Below.heap_setCell _ _ _ _ (by simp;omega)]
  exact HBK.out g (by omega)
set_option maxRecDepth 100000 in
set_option maxHeartbeats 4000000 in
theorem rnext_b (w:World) (B:Nat) (p e:Int) (h:PrS w B (.bad p e)):Calls Tryd.prog 58 #[.pointer (some ⟨B,0,none⟩)] w fun x w'=>x=.returned (tokVal endTok)∧Kp B w w'∧PrS w' B (.bad p e):=by
 have hc4:=cellsTok
 have hB:=h.lt
 have hne:¬ w.heap.size=B:=by omega
 have HC:=Lib.hid (rnow_b (w.alloc (tokBox 0 ⟨#[]⟩ 0 0)) B p e (h.alloc _))
 have HS:=Lib.hid h
 have HN:=Lib.hid (new_at w (tokBox 0 ⟨#[]⟩ 0 0))
 clear h
 go_enter Tryd.func58,Tryd.ntmps58
 go_wp2_with fail
 refine HC.out.mono ?_
 rintro e1 w2 ⟨rfl,hb2⟩
 have hbb:=box_then hb2
 have HS2:=Lib.hid (HS.out.below hbb)
 have HN2:Hid (w2.heap[w.heap.size]? = some (tokBox 0 ⟨#[]⟩ 0 0)):=Lib.hid ((hb2.block _ (by simp)).trans HN.out)
 obtain ⟨a,len,cap,i,h1,he⟩:=HS2.out
 obtain ⟨⟨k0,k1,k2,k3⟩,_⟩:=h1.cells
 obtain ⟨⟨r0,r1,r2,r3⟩,s0,s1,s2,s3⟩:=tok_cells HN2.out
 have hsz2:w.heap.size < w2.heap.size:=lt_heap HN2.out
 have hB2:B < w2.heap.size:=by omega
 have HK2:=Lib.hid (Kp.of_below (B:=B) hbb)
 clear hb2 hbb HC h1
 go_wp2_with fail
 have hT:=tok_set HN2.out 4 0 0 ⟨#[]⟩
 refine ret_tok Tryd.results58 rfl rfl ((Below.heap_alloc _ _ _ (lt_heap hT)).trans hT) ⟨rfl,(((((HK2.out.set (Nat.le_refl _) _).set (Nat.le_refl _) _).set (Nat.le_refl _) _).set (Nat.le_refl _) _).alloc _),?_⟩
 refine HS2.out.same fun g hg=>?_
 have hgl:g < w2.heap.size:=by omega
 rw [Below.heap_alloc _ _ _ (by rw [set4_size];exact hgl),set4_other (by omega)]
end Go.Proofs.YtmlmjopfbohglaaDoor
namespace Go.Proofs.YtmlmjopfbohglaaDoor
open Go.RowKit
open Go.Maps
set_option maxRecDepth 100000 in
set_option maxHeartbeats 16000000 in
theorem kd_plus (op name:ByteArray) (n pos:Int) (kb ko len:Nat) (cap:Nat) (op1 name1:ByteArray) (n1 pos1:Int) (a1:Option Addr) (k1' cap1:Nat) (w:World) (M m:Nat) (pv:Value) (O:ByteArray→Int) (ho:OrdIs w M m O) (h0:(op.toList == [118,97,114])=false) (h1:(op.toList == [110,117,109])=false) (h2:(op.toList == [112,108,117,115])=true) (hl:0 < len) (hn:NodeAt w kb ko op1 name1 n1 pos1 a1 k1' cap1) (q1 q2:Int)
  (hc:∀ W,OrdIs W M m O→Below w.heap.size w W→Calls Tryd.prog 97 #[scV M pv,.int .i64 1,.agg #[.string op1,.string name1,.int .i64 n1,.int .i64 pos1,.slice a1 k1' cap1],.int .i64 pos] W fun e w'=>e=.returned (.tuple #[.int .i64 q1,.int .i64 q2])∧Below W.heap.size W w') :
  Calls Tryd.prog 95 #[scV M pv,.agg #[.string op,.string name,.int .i64 n,.int .i64 pos,.slice (some ⟨kb,ko,none⟩) len cap]] w fun e w'=>e=.returned (if q2=0 then .tuple #[.int .i64 1,.int .i64 0,.int .i64 0] else .tuple #[.int .i64 0,.int .i64 q1,.int .i64 q2])∧Below w.heap.size w w':=by
 have hc2:=cellsScope
 have hc5:=cellsNode
 have hl2:(0:Int) < len:=by omega
 obtain ⟨rv,hrv⟩:∃ rv,rv=(if q2=0 then Value.tuple #[.int .i64 1,.int .i64 0,.int .i64 0] else .tuple #[.int .i64 0,.int .i64 q1,.int .i64 q2]):=⟨_,rfl⟩
 rw [← hrv]
 have HRV:=Lib.hid hrv
 clear hrv
 have HW:=Lib.hid (two_boxes w (scBox M pv) (boxOf op name n pos (some ⟨kb,ko,none⟩) len cap))
 have hx:w.heap.size < (w.alloc (scBox M pv)).heap.size:=by simp
 have HS:=Lib.hid ((Below.heap_alloc (w.alloc (scBox M pv)) (boxOf op name n pos (some ⟨kb,ko,none⟩) len cap) _ hx).trans (new_at w (scBox M pv)))
 have HB:=Lib.hid (show ((w.alloc (scBox M pv)).alloc (boxOf op name n pos (some ⟨kb,ko,none⟩) len cap)).heap[w.heap.size+1]? = some (boxOf op name n pos (some ⟨kb,ko,none⟩) len cap) from by have h:=new_at (w.alloc (scBox M pv)) (boxOf op name n pos (some ⟨kb,ko,none⟩) len cap);rw [alloc_size] at h;exact h)
 obtain ⟨k0,k1⟩:=sc_cells HS.out
 obtain ⟨b0,b1,b2,b3,b4⟩:=box_cells HB.out
 have HN:=Lib.hid (hn.below HW.out)
 obtain ⟨c0,c1,c2,c3,c4⟩:=HN.out
 have HC:=Lib.hid (hc ((w.alloc (scBox M pv)).alloc (boxOf op name n pos (some ⟨kb,ko,none⟩) len cap)).drew ((ho.below HW.out).drew) HW.out.drew)
 clear ho hc hn
 go_enter Tryd.func95,Tryd.ntmps95
 have HBD:RowKit.Hid (Below ((w.alloc (scBox M pv)).alloc (boxOf op name n pos (some ⟨kb,ko,none⟩) len cap)).heap.size ((w.alloc (scBox M pv)).alloc (boxOf op name n pos (some ⟨kb,ko,none⟩) len cap)) ((w.alloc (scBox M pv)).alloc (boxOf op name n pos (some ⟨kb,ko,none⟩) len cap)).drew):=Lib.hid (Below.refl _ _).drew
 clear HS HB HN b0 b1 b2
 go_wp2_with fail
 go_region_held3 (fun wz=>wz.cell? ⟨w.heap.size,0,none⟩=some (.map (some M))∧wz.cell? ⟨w.heap.size,1,none⟩=some (pv)∧wz.cell? ⟨w.heap.size+1,3,none⟩=some (.int .i64 pos)∧wz.cell? ⟨w.heap.size+1,4,none⟩=some (.slice (some ⟨kb,ko,none⟩) len cap)∧wz.cell? ⟨kb,ko,none⟩=some (.string op1)∧wz.cell? ⟨kb,ko+1,none⟩=some (.string name1)∧wz.cell? ⟨kb,ko+2,none⟩=some (.int .i64 n1)∧wz.cell? ⟨kb,ko+3,none⟩=some (.int .i64 pos1)∧wz.cell? ⟨kb,ko+4,none⟩=some ((.slice a1 k1' cap1))) (go_keep) (first | (go_at_call 97;refine HC.out.mono ?_;rintro e w2 ⟨rfl,hb2⟩;replace k0:=cell_below (HBD.out.trans (hb2.mono HBD.out.size)) k0;replace k1:=cell_below (HBD.out.trans (hb2.mono HBD.out.size)) k1;replace b3:=cell_below (HBD.out.trans (hb2.mono HBD.out.size)) b3;replace b4:=cell_below (HBD.out.trans (hb2.mono HBD.out.size)) b4;replace c0:=cell_below (HBD.out.trans (hb2.mono HBD.out.size)) c0;replace c1:=cell_below (HBD.out.trans (hb2.mono HBD.out.size)) c1;replace c2:=cell_below (HBD.out.trans (hb2.mono HBD.out.size)) c2;replace c3:=cell_below (HBD.out.trans (hb2.mono HBD.out.size)) c3;replace c4:=cell_below (HBD.out.trans (hb2.mono HBD.out.size)) c4;have HB2:=Lib.hid (HBD.out.trans (hb2.mono HBD.out.size));clear hb2))
 have hbb:=HW.out.trans (HB2.out.mono HW.out.size)
 clear HB2 HBD HC k0 k1 b3 b4 c0 c1 c2 c3 c4
 by_cases hq:q2=0
 ·subst hq
  have HR2:=Lib.hid (show rv=.tuple #[.int .i64 1,.int .i64 0,.int .i64 0] from by rw [HRV.out,if_pos rfl])
  clear HRV
  go_wp2_with fail
  go_ret3
  rw [HR2.out]
  exact ⟨rfl,hbb⟩
 ·have HR2:=Lib.hid (show rv=.tuple #[.int .i64 0,.int .i64 q1,.int .i64 q2] from by rw [HRV.out,if_neg hq])
  clear HRV
  have hqb:(q2 != 0)=true:=by simp [hq]
  clear hq
  go_wp2_with fail
  go_ret3
  rw [HR2.out]
  exact ⟨rfl,hbb⟩
theorem kkind_of (T:Nd) (hk:Fo.All SayKd T.kids):SayKd T:=by
 intro w M m pv O ho hin hsz hok
 obtain ⟨hko,hkp⟩:=kids_okT hok
 obtain ⟨op,name,n,pos,a,cap,kids⟩:=T
 have hs1:name.size≤140737488351232:=hsz.1
 have hs2:kids.sized:=hsz.2
 simp only [] at hko hkp hk
 show Calls _ _ _ w fun e w'=>e=.returned (.tuple #[.int .i64 (stepK O op name pos (kids.ks O)).k,.int .i64 (stepK O op name pos (kids.ks O)).pos,.int .i64 (stepK O op name pos (kids.ks O)).e])∧_
 rw [Nd.val_def]
 have hall:∀ (want:Int) (q:Int × Int),kids.al O want=q→∀ W,OrdIs W M m O→Below w.heap.size w W→Calls Tryd.prog 122 #[scV M pv,.int .i64 want,.slice a kids.len cap] W fun e w'=>e=.returned (.tuple #[.int .i64 q.1,.int .i64 q.2])∧Below W.heap.size W w':=by
  intro want q hq W h1 h2
  have h3:KidsIn W a kids:=(hin.below h2:Nd.In W ⟨op,name,n,pos,a,cap,kids⟩)
  have h:=kall_of kids a cap W M m pv O want h1 h3 hs2 hko hk
  rw [hq] at h
  exact h
 rcases bool_two (op.toList == [118,97,114]) with h0 | h0
 ·unfold stepK
  simp only [h0,if_true]
  by_cases hn:O name < 0
  ·rw [if_pos hn]
   exact kd_var_no op name n pos a cap kids w M m pv O ho h0 hs1 hn
  ·rw [if_neg hn]
   exact kd_var_yes op name n pos a cap kids w M m pv O ho h0 hs1 hn
 ·rcases bool_two (op.toList == [110,117,109]) with h1 | h1
  ·unfold stepK
   simp only [h0,h1,if_true]
   exact kd_num op name n pos a cap kids w M m pv O ho h0 h1
  ·rcases bool_two (op.toList == [112,108,117,115]) with h2 | h2
   ·have hl:=hkp h2
    cases kids with
    | nil=>cases hl
    | cons op1 name1 n1 pos1 a1 cap1 kids1 rest =>
     have hin2:KidsIn w a (.cons op1 name1 n1 pos1 a1 cap1 kids1 rest):=hin
     rcases hin2 with h | ⟨kb,ko,rfl,hlim,hpos,hkin⟩
     ·cases h
     ·have hkk:(Nd.okT ⟨op1,name1,n1,pos1,a1,cap1,kids1⟩ && rest.allB Nd.okT)=true:=hko
      rw [Bool.and_eq_true] at hkk
      have hP:SayKd ⟨op1,name1,n1,pos1,a1,cap1,kids1⟩:=hk.1
      obtain ⟨hnode,hin1,hrest⟩:=hkin
      have hin3:Nd.In w ⟨op1,name1,n1,pos1,a1,cap1,kids1⟩:=hin1
      have h:=kd_plus op name n pos kb ko (Fo.len (.cons op1 name1 n1 pos1 a1 cap1 kids1 rest)) cap op1 name1 n1 pos1 a1 kids1.len cap1 w M m pv O ho h0 h1 h2 (by rw [hl];omega) hnode (mustK 1 (Nd.kd O ⟨op1,name1,n1,pos1,a1,cap1,kids1⟩) pos (0,0)).1 (mustK 1 (Nd.kd O ⟨op1,name1,n1,pos1,a1,cap1,kids1⟩) pos (0,0)).2
       (fun W g1 g2=>kmust_of ⟨op1,name1,n1,pos1,a1,cap1,kids1⟩ hP W M m pv O 1 pos g1 (hin3.below g2) ⟨hs2.1,hs2.2.1⟩ hkk.1)
      refine h.mono ?_
      rintro e w' ⟨rfl,hb⟩
      refine ⟨?_,hb⟩
      unfold stepK
      simp only [h0,h1,h2,if_true]
      show Ending.returned (if (mustK 1 (Nd.kd O ⟨op1,name1,n1,pos1,a1,cap1,kids1⟩) pos (0,0)).2=0 then _ else _)=_
      show _=Ending.returned (.tuple #[.int .i64 (if (Nd.kd O ⟨op1,name1,n1,pos1,a1,cap1,kids1⟩).e=0 then (if (Nd.kd O ⟨op1,name1,n1,pos1,a1,cap1,kids1⟩).k=1 then (⟨1,0,0⟩:KR) else ⟨0,pos,7⟩) else ⟨0,(Nd.kd O ⟨op1,name1,n1,pos1,a1,cap1,kids1⟩).pos,(Nd.kd O ⟨op1,name1,n1,pos1,a1,cap1,kids1⟩).e⟩).k,.int .i64 (if (Nd.kd O ⟨op1,name1,n1,pos1,a1,cap1,kids1⟩).e=0 then (if (Nd.kd O ⟨op1,name1,n1,pos1,a1,cap1,kids1⟩).k=1 then (⟨1,0,0⟩:KR) else ⟨0,pos,7⟩) else ⟨0,(Nd.kd O ⟨op1,name1,n1,pos1,a1,cap1,kids1⟩).pos,(Nd.kd O ⟨op1,name1,n1,pos1,a1,cap1,kids1⟩).e⟩).pos,.int .i64 (if (Nd.kd O ⟨op1,name1,n1,pos1,a1,cap1,kids1⟩).e=0 then (if (Nd.kd O ⟨op1,name1,n1,pos1,a1,cap1,kids1⟩).k=1 then (⟨1,0,0⟩:KR) else ⟨0,pos,7⟩) else ⟨0,(Nd.kd O ⟨op1,name1,n1,pos1,a1,cap1,kids1⟩).pos,(Nd.kd O ⟨op1,name1,n1,pos1,a1,cap1,kids1⟩).e⟩).e])
      generalize Nd.kd O ⟨op1,name1,n1,pos1,a1,cap1,kids1⟩=r
      obtain ⟨rk,rp,re⟩:=r
      unfold mustK
      simp only []
      by_cases he:re=0
      ·by_cases hk1:rk=1
       ·simp [he,hk1]
       ·simp [he,hk1]
      ·simp [he]
   ·rcases bool_two (op.toList == [115,101,116]) with h3 | h3
    ·obtain ⟨q,hq⟩:∃ q,kids.al O 1=q:=⟨_,rfl⟩
     unfold stepK
     simp only [h0,h1,h2,h3,if_true]
     rw [al_1,hq]
     by_cases hz:q.2=0
     ·simp only [hz,if_true]
      exact kd_set_ok op name n pos a cap kids w M m pv O ho h0 h1 h2 h3 q.1 q.2 hz (hall 1 q hq)
     ·simp only [hz,if_false]
      exact kd_set_bad op name n pos a cap kids w M m pv O ho h0 h1 h2 h3 q.1 q.2 hz (hall 1 q hq)
    ·obtain ⟨q,hq⟩:∃ q,kids.al O 2=q:=⟨_,rfl⟩
     unfold stepK
     simp only [h0,h1,h2,h3]
     rw [al_2,hq]
     by_cases hz:q.2=0
     ·simp only [hz,if_true]
      exact kd_join_ok op name n pos a cap kids w M m pv O ho h0 h1 h2 h3 q.1 q.2 hz (hall 2 q hq)
     ·simp only [hz,if_false]
      exact kd_join_bad op name n pos a cap kids w M m pv O ho h0 h1 h2 h3 q.1 q.2 hz (hall 2 q hq)
theorem kkind_all (T:Nd):SayKd T:=Nd.all_of (P:=SayKd) (fun T hk=>kkind_of T hk) T
end Go.Proofs.YtmlmjopfbohglaaDoor
