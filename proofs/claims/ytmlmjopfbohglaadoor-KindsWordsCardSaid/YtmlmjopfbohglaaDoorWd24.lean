/- Parts of the proof: RpB RpC. -/
import Derived.Test.YtmlmjopfbohglaaDoorWd05
namespace Go.Proofs.YtmlmjopfbohglaaDoor
open Go.RowKit
theorem ris_g (l:List Tok) (x:ByteArray) (w:World) (B:Nat) (hx:(x.toList == [])=false) (h:PrS w B (.good l)):Calls Tryd.prog 26 #[.pointer (some ⟨B,0,none⟩),.string x] w fun e w'=>e=.returned (.bool ((wrd l).toList == x.toList))∧Below w.heap.size w w':=by
 rcases bool_two ((wrd l).toList == x.toList) with hb | hb
 ·rw [hb];exact ris_yes l x w B hx hb h
 ·rw [hb];exact ris_no l x w B hb h
theorem word_kind {l:List Tok} {x:ByteArray} (h:((wrd l).toList == x.toList)=true) (hx:(x.toList == [])=false):((hd l).kind == 4)=false:=by
 have:=(wrd_yes h hx).1
 have h3:(hd l).kind=3:=by simpa using this
 rw [h3];rfl
set_option maxRecDepth 100000 in
set_option maxHeartbeats 4000000 in
theorem rtake_yes (l:List Tok) (x:ByteArray) (w:World) (B:Nat) (hx:(x.toList == [])=false) (hw:((wrd l).toList == x.toList)=true) (h:PrS w B (.good l)):Calls Tryd.prog 61 #[.pointer (some ⟨B,0,none⟩),.string x] w fun e w'=>e=.returned (.bool true)∧Kp B w w'∧PrS w' B (.good l.tail):=by
 have hk:=word_kind hw hx
 have HC:=Lib.hid (ris_yes l x w B hx hw h)
 have HS:=Lib.hid h
 clear h hw hx
 go_enter Tryd.func61,Tryd.ntmps61
 go_wp2_with fail
 refine HC.out.mono ?_
 rintro e w2 ⟨rfl,hb2⟩
 have HN:=Lib.hid (rnext_g l w2 B hk (HS.out.below hb2))
 have HK:=Lib.hid (Kp.of_below (B:=B) hb2)
 clear hb2 HC
 go_wp2_with fail
 refine HN.out.mono ?_
 rintro e w3 ⟨rfl,hk3,hs3⟩
 have HZ:=Lib.hid (And.intro (HK.out.trans hk3) hs3)
 clear hk3 hs3 HN HK
 go_wp2_with fail
 go_ret
 exact ⟨rfl,HZ.out⟩
set_option maxRecDepth 100000 in
set_option maxHeartbeats 4000000 in
theorem rtake_no (l:List Tok) (x:ByteArray) (w:World) (B:Nat) (hw:((wrd l).toList == x.toList)=false) (h:PrS w B (.good l)):Calls Tryd.prog 61 #[.pointer (some ⟨B,0,none⟩),.string x] w fun e w'=>e=.returned (.bool false)∧Kp B w w'∧PrS w' B (.good l):=by
 have HC:=Lib.hid (ris_no l x w B hw h)
 have HS:=Lib.hid h
 clear h hw
 go_enter Tryd.func61,Tryd.ntmps61
 go_wp2_with fail
 refine HC.out.mono ?_
 rintro e w2 ⟨rfl,hb2⟩
 have HZ:=Lib.hid (And.intro (Kp.of_below (B:=B) hb2) (HS.out.below hb2))
 clear hb2 HC
 go_wp2_with fail
 go_ret
 exact ⟨rfl,HZ.out⟩
set_option maxRecDepth 100000 in
set_option maxHeartbeats 4000000 in
theorem rtake_b (x:ByteArray) (w:World) (B:Nat) (p e:Int) (h:PrS w B (.bad p e)):Calls Tryd.prog 61 #[.pointer (some ⟨B,0,none⟩),.string x] w fun y w'=>y=.returned (.bool false)∧Kp B w w'∧PrS w' B (.bad p e):=by
 have HC:=Lib.hid (ris_b x w B p e h)
 have HS:=Lib.hid h
 clear h
 go_enter Tryd.func61,Tryd.ntmps61
 go_wp2_with fail
 refine HC.out.mono ?_
 rintro e1 w2 ⟨rfl,hb2⟩
 have HZ:=Lib.hid (And.intro (Kp.of_below (B:=B) hb2) (HS.out.below hb2))
 clear hb2 HC
 go_wp2_with fail
 go_ret
 exact ⟨rfl,HZ.out⟩
set_option maxRecDepth 100000 in
set_option maxHeartbeats 4000000 in
theorem rmust_yes (l:List Tok) (x:ByteArray) (w:World) (B:Nat) (hx:(x.toList == [])=false) (hw:((wrd l).toList == x.toList)=true) (h:PrS w B (.good l)):Calls Tryd.prog 31 #[.pointer (some ⟨B,0,none⟩),.string x] w fun e w'=>e=.returned (.tuple #[])∧Kp B w w'∧PrS w' B (.good l.tail):=by
 have HC:=Lib.hid (rtake_yes l x w B hx hw h)
 clear h hw hx
 go_enter Tryd.func31,Tryd.ntmps31
 go_wp2_with fail
 refine HC.out.mono ?_
 rintro e w2 ⟨rfl,hk2,hs2⟩
 have HZ:=Lib.hid (And.intro hk2 hs2)
 clear hk2 hs2 HC
 go_wp2_with fail
 go_end0
 exact ⟨rfl,HZ.out⟩
set_option maxRecDepth 100000 in
set_option maxHeartbeats 4000000 in
theorem rmust_no (l:List Tok) (x:ByteArray) (w:World) (B:Nat) (hw:((wrd l).toList == x.toList)=false) (h:PrS w B (.good l)):Calls Tryd.prog 31 #[.pointer (some ⟨B,0,none⟩),.string x] w fun e w'=>e=.returned (.tuple #[])∧Kp B w w'∧PrS w' B (.bad (hd l).pos 2):=by
 have HC:=Lib.hid (rtake_no l x w B hw h)
 have f3:=tok_f3
 clear h hw
 go_enter Tryd.func31,Tryd.ntmps31
 go_wp2_with fail
 refine HC.out.mono ?_
 rintro e w2 ⟨rfl,hk2,hs2⟩
 have HN:=Lib.hid (rnow_g l w2 B hs2)
 have HK:=Lib.hid hk2
 have HS:=Lib.hid hs2
 clear hk2 hs2 HC
 go_wp2_with fail
 refine HN.out.mono ?_
 rintro e w3 ⟨rfl,hb3⟩
 have HF:=Lib.hid (rfail_g l (hd l).pos 2 w3 B rfl (HS.out.below hb3))
 have HK3:=Lib.hid (HK.out.below hb3)
 clear hb3 HN HK HS
 go_wp2_with fail
 refine HF.out.mono ?_
 rintro e w4 ⟨rfl,hk4,hs4⟩
 have HZ:=Lib.hid (And.intro (HK3.out.trans hk4) hs4)
 clear hk4 hs4 HF HK3
 go_wp2_with fail
 go_end0
 exact ⟨rfl,HZ.out⟩
set_option maxRecDepth 100000 in
set_option maxHeartbeats 4000000 in
theorem rmust_b (x:ByteArray) (w:World) (B:Nat) (p e:Int) (h:PrS w B (.bad p e)):Calls Tryd.prog 31 #[.pointer (some ⟨B,0,none⟩),.string x] w fun y w'=>y=.returned (.tuple #[])∧Kp B w w'∧PrS w' B (.bad p e):=by
 have HC:=Lib.hid (rtake_b x w B p e h)
 have f3:=tok_f3
 clear h
 go_enter Tryd.func31,Tryd.ntmps31
 go_wp2_with fail
 refine HC.out.mono ?_
 rintro e1 w2 ⟨rfl,hk2,hs2⟩
 have HN:=Lib.hid (rnow_b w2 B p e hs2)
 have HK:=Lib.hid hk2
 have HS:=Lib.hid hs2
 clear hk2 hs2 HC
 go_wp2_with fail
 refine HN.out.mono ?_
 rintro e1 w3 ⟨rfl,hb3⟩
 have HF:=Lib.hid (rfail_b 0 2 p e w3 B (HS.out.below hb3))
 have HK3:=Lib.hid (HK.out.below hb3)
 clear hb3 HN HK HS
 go_wp2_with fail
 refine HF.out.mono ?_
 rintro e1 w4 ⟨rfl,hk4,hs4⟩
 have HZ:=Lib.hid (And.intro (HK3.out.trans hk4) hs4)
 clear hk4 hs4 HF HK3
 go_wp2_with fail
 go_end0
 exact ⟨rfl,HZ.out⟩
set_option maxRecDepth 100000 in
set_option maxHeartbeats 4000000 in
theorem rname_yes (l:List Tok) (w:World) (B:Nat) (hk:((hd l).kind == 1)=true) (h:PrS w B (.good l)):Calls Tryd.prog 59 #[.pointer (some ⟨B,0,none⟩)] w fun e w'=>e=.returned (tokVal (hd l))∧Kp B w w'∧PrS w' B (.good l.tail):=by
  have hc4:=cellsTok
  have f0:=tok_f0
  have hB:=h.lt
  have hk4:((hd l).kind == 4)=false:=by have:(hd l).kind=1:=(by simpa using hk);rw [this];rfl
  have HC:=Lib.hid (rnow_g l (w.alloc (tokBox 0 ⟨#[]⟩ 0 0)) B (h.alloc _))
  have HS:=Lib.hid (h.alloc (tokBox 0 ⟨#[]⟩ 0 0))
  have HN:=Lib.hid (new_at w (tokBox 0 ⟨#[]⟩ 0 0))
  have HK4:=Lib.hid hk4
  clear h hk4
  go_enter Tryd.func59,Tryd.ntmps59
  go_wp2_with fail
  refine HC.out.mono ?_
  rintro e w2 ⟨rfl,hb2⟩
  have HX:=Lib.hid (rnext_g l w2 B HK4.out (HS.out.below hb2))
  have HN2:Hid (w2.heap[w.heap.size]? = some (tokBox 0 ⟨#[]⟩ 0 0)):=Lib.hid ((hb2.block _ (by simp)).trans HN.out)
  have HK:=Lib.hid (Kp.of_below (B:=B) (box_then hb2))
  clear hb2 HC HS
  go_wp2_with fail
  refine HX.out.mono ?_
  rintro e w3 ⟨rfl,hk3,hs3⟩
  have HN3:=Lib.hid ((hk3.block _ (lt_heap HN2.out) (by simp;omega)).trans HN2.out)
  obtain ⟨⟨r0,r1,r2,r3⟩,s0,s1,s2,s3⟩:=tok_cells HN3.out
  have HK3:=Lib.hid (HK.out.trans hk3)
  have HS3:=Lib.hid hs3
  clear hk3 hs3 HX HK
  go_wp2_with fail
  have hT:=tok_set HN3.out (hd l).kind (hd l).n (hd l).pos (hd l).text
  refine ret_tok Tryd.results59 rfl rfl hT ⟨rfl,((((HK3.out.set (Nat.le_refl _) _).set (Nat.le_refl _) _).set (Nat.le_refl _) _).set (Nat.le_refl _) _),?_⟩
  exact HS3.out.same fun g hg=>set4_other (by omega) _ _ _ _
set_option maxRecDepth 100000 in
set_option maxHeartbeats 4000000 in
theorem rname_no (l:List Tok) (w:World) (B:Nat) (hk:((hd l).kind == 1)=false) (h:PrS w B (.good l)):Calls Tryd.prog 59 #[.pointer (some ⟨B,0,none⟩)] w fun e w'=>e=.returned (tokVal ⟨0,⟨#[]⟩,0,0⟩)∧Kp B w w'∧PrS w' B (.bad (hd l).pos 2):=by
 have hc4:=cellsTok
 have f0:=tok_f0
 have f3:=tok_f3
 have hB:=h.lt
 have HC:=Lib.hid (rnow_g l (w.alloc (tokBox 0 ⟨#[]⟩ 0 0)) B (h.alloc _))
 have HS:=Lib.hid (h.alloc (tokBox 0 ⟨#[]⟩ 0 0))
 have HN:=Lib.hid (new_at w (tokBox 0 ⟨#[]⟩ 0 0))
 clear h
 go_enter Tryd.func59,Tryd.ntmps59
 go_wp2_with fail
 refine HC.out.mono ?_
 rintro e w2 ⟨rfl,hb2⟩
 have HX:=Lib.hid (rnow_g l w2 B (HS.out.below hb2))
 have HN2:Hid (w2.heap[w.heap.size]? = some (tokBox 0 ⟨#[]⟩ 0 0)):=Lib.hid ((hb2.block _ (by simp)).trans HN.out)
 have HK:=Lib.hid (Kp.of_below (B:=B) (box_then hb2))
 have HS2:=Lib.hid (HS.out.below hb2)
 clear hb2 HC HS
 go_wp2_with fail
 refine HX.out.mono ?_
 rintro e w3 ⟨rfl,hb3⟩
 have HF:=Lib.hid (rfail_g l (hd l).pos 2 w3 B rfl (HS2.out.below hb3))
 have HN3:=Lib.hid ((hb3.block _ (lt_heap HN2.out)).trans HN2.out)
 have HK3:=Lib.hid (HK.out.below hb3)
 clear hb3 HX HK HS2
 go_wp2_with fail
 refine HF.out.mono ?_
 rintro e w4 ⟨rfl,hk4,hs4⟩
 have HN4:=Lib.hid ((hk4.block _ (lt_heap HN3.out) (by simp;omega)).trans HN3.out)
 obtain ⟨⟨r0,r1,r2,r3⟩,s0,s1,s2,s3⟩:=tok_cells HN4.out
 have HK4:=Lib.hid (HK3.out.trans hk4)
 have HS4:=Lib.hid hs4
 clear hk4 hs4 HF HK3
 go_wp2_with fail
 have hT:=tok_set HN4.out 0 0 0 ⟨#[]⟩
 refine ret_tok Tryd.results59 rfl rfl hT ⟨rfl,((((HK4.out.set (Nat.le_refl _) _).set (Nat.le_refl _) _).set (Nat.le_refl _) _).set (Nat.le_refl _) _),?_⟩
 exact HS4.out.same fun g hg=>set4_other (by omega) _ _ _ _
set_option maxRecDepth 100000 in
set_option maxHeartbeats 4000000 in
theorem rname_b (w:World) (B:Nat) (p q:Int) (h:PrS w B (.bad p q)):Calls Tryd.prog 59 #[.pointer (some ⟨B,0,none⟩)] w fun e w'=>e=.returned (tokVal ⟨0,⟨#[]⟩,0,0⟩)∧Kp B w w'∧PrS w' B (.bad p q):=by
 have hc4:=cellsTok
 have f0:=tok_f0
 have f3:=tok_f3
 have hB:=h.lt
 have HC:=Lib.hid (rnow_b (w.alloc (tokBox 0 ⟨#[]⟩ 0 0)) B p q (h.alloc _))
 have HS:=Lib.hid (h.alloc (tokBox 0 ⟨#[]⟩ 0 0))
 have HN:=Lib.hid (new_at w (tokBox 0 ⟨#[]⟩ 0 0))
 clear h
 go_enter Tryd.func59,Tryd.ntmps59
 go_wp2_with fail
 refine HC.out.mono ?_
 rintro e w2 ⟨rfl,hb2⟩
 have HX:=Lib.hid (rnow_b w2 B p q (HS.out.below hb2))
 have HN2:Hid (w2.heap[w.heap.size]? = some (tokBox 0 ⟨#[]⟩ 0 0)):=Lib.hid ((hb2.block _ (by simp)).trans HN.out)
 have HK:=Lib.hid (Kp.of_below (B:=B) (box_then hb2))
 have HS2:=Lib.hid (HS.out.below hb2)
 clear hb2 HC HS
 go_wp2_with fail
 refine HX.out.mono ?_
 rintro e w3 ⟨rfl,hb3⟩
 have HF:=Lib.hid (rfail_b 0 2 p q w3 B (HS2.out.below hb3))
 have HN3:=Lib.hid ((hb3.block _ (lt_heap HN2.out)).trans HN2.out)
 have HK3:=Lib.hid (HK.out.below hb3)
 clear hb3 HX HK HS2
 go_wp2_with fail
 refine HF.out.mono ?_
 rintro e w4 ⟨rfl,hk4,hs4⟩
 have HN4:=Lib.hid ((hk4.block _ (lt_heap HN3.out) (by simp;omega)).trans HN3.out)
 obtain ⟨⟨r0,r1,r2,r3⟩,s0,s1,s2,s3⟩:=tok_cells HN4.out
 have HK4:=Lib.hid (HK3.out.trans hk4)
 have HS4:=Lib.hid hs4
 clear hk4 hs4 HF HK3
 go_wp2_with fail
 have hT:=tok_set HN4.out 0 0 0 ⟨#[]⟩
 refine ret_tok Tryd.results59 rfl rfl hT ⟨rfl,((((HK4.out.set (Nat.le_refl _) _).set (Nat.le_refl _) _).set (Nat.le_refl _) _).set (Nat.le_refl _) _),?_⟩
 exact HS4.out.same fun g hg=>set4_other (by omega) _ _ _ _
set_option maxRecDepth 100000 in
set_option maxHeartbeats 4000000 in
theorem renter_ok (l:List Tok) (d:Nat) (w:World) (B:Nat) (hd':(d:Int) < 30) (h:PrS w B (.good l)):Calls Tryd.prog 62 #[.pointer (some ⟨B,0,none⟩),.int .i64 d] w fun e w'=>e=.returned (.bool true)∧Kp B w w'∧PrS w' B (.good l):=by
 have hB:=h.lt
 have HS:=Lib.hid h
 obtain ⟨a,L,cap,i,h1,_⟩:=h
 obtain ⟨⟨k0,k1,k2,k3⟩,_⟩:=h1.cells
 have hd2:¬ (30:Int)≤(d:Int):=by omega
 clear h1
 go_enter Tryd.func62,Tryd.ntmps62
 go_wp2_with fail
 go_ret
 exact ⟨rfl,Kp.refl _ _,HS.out⟩
set_option maxRecDepth 100000 in
set_option maxHeartbeats 4000000 in
theorem renter_deep (l:List Tok) (d:Nat) (w:World) (B:Nat) (hd':¬ (d:Int) < 30) (h:PrS w B (.good l)):Calls Tryd.prog 62 #[.pointer (some ⟨B,0,none⟩),.int .i64 d] w fun e w'=>e=.returned (.bool false)∧Kp B w w'∧PrS w' B (.bad (hd l).pos 4):=by
 have hB:=h.lt
 have f3:=tok_f3
 have HS:=Lib.hid h
 have HN:=Lib.hid (rnow_g l w B h)
 have hd2:(30:Int)≤(d:Int):=by omega
 clear h
 go_enter Tryd.func62,Tryd.ntmps62
 go_wp2_with fail
 refine HN.out.mono ?_
 rintro e w2 ⟨rfl,hb2⟩
 have HF:=Lib.hid (rfail_g l (hd l).pos 4 w2 B rfl (HS.out.below hb2))
 have HK:=Lib.hid (Kp.of_below (B:=B) hb2)
 clear hb2 HN HS
 go_wp2_with fail
 refine HF.out.mono ?_
 rintro e w3 ⟨rfl,hk3,hs3⟩
 have HS3:=Lib.hid hs3
 obtain ⟨a,len,cap,i,h1,he⟩:=hs3
 obtain ⟨⟨k0,k1,k2,k3⟩,_⟩:=h1.cells
 have HK3:=Lib.hid (HK.out.trans hk3)
 clear hk3 HF HK h1
 go_wp2_with fail
 go_ret
 exact ⟨rfl,HK3.out,HS3.out⟩
set_option maxRecDepth 100000 in
set_option maxHeartbeats 4000000 in
theorem renter_b (d:Nat) (w:World) (B:Nat) (p q:Int) (h:PrS w B (.bad p q)):Calls Tryd.prog 62 #[.pointer (some ⟨B,0,none⟩),.int .i64 d] w fun e w'=>e=.returned (.bool false)∧Kp B w w'∧PrS w' B (.bad p q):=by
 have hB:=h.lt
 have f3:=tok_f3
 have HS:=Lib.hid h
 by_cases hd2:(30:Int)≤(d:Int)
 ·have HN:=Lib.hid (rnow_b w B p q h)
  clear h
  go_enter Tryd.func62,Tryd.ntmps62
  go_wp2_with fail
  refine HN.out.mono ?_
  rintro e w2 ⟨rfl,hb2⟩
  have HF:=Lib.hid (rfail_b 0 4 p q w2 B (HS.out.below hb2))
  have HK:=Lib.hid (Kp.of_below (B:=B) hb2)
  clear hb2 HN HS
  go_wp2_with fail
  refine HF.out.mono ?_
  rintro e w3 ⟨rfl,hk3,hs3⟩
  have HS3:=Lib.hid hs3
  obtain ⟨a,len,cap,i,h1,he⟩:=hs3
  obtain ⟨⟨k0,k1,k2,k3⟩,_⟩:=h1.cells
  have HK3:=Lib.hid (HK.out.trans hk3)
  clear hk3 HF HK h1
  go_wp2_with fail
  go_ret
  exact ⟨rfl,HK3.out,HS3.out⟩
 ·obtain ⟨a,len,cap,i,h1,he⟩:=h
  obtain ⟨⟨k0,k1,k2,k3⟩,_⟩:=h1.cells
  clear h1
  go_enter Tryd.func62,Tryd.ntmps62
  go_wp2_with fail
  go_ret
  exact ⟨rfl,Kp.refl _ _,HS.out⟩
def ordOf (pre:List UInt8) (l:List Tok):Int:=if (wrd l).toList == pre ++ [48] then 0 else if (wrd l).toList == pre ++ [49] then 1 else if (wrd l).toList == pre ++ [50] then 2 else -1
theorem conv_k (w:World) (c:UInt8):(convert 49 9 (.slice (some ⟨w.heap.size,0,none⟩) 1 1)).run Tryd.prog (w.alloc (.cells #[.int .u8 (c.toNat:Int)] 5))=.ok (.string ⟨#[c]⟩) (w.alloc (.cells #[.int .u8 (c.toNat:Int)] 5)) :=
 run_convert_bytes_back _ 49 9 5 ⟨w.heap.size,0,none⟩ 1 [c] Tryd.underlying49 Tryd.underlying5 Tryd.underlying9 (fun j hj=>by
  obtain rfl:j=0:=by simpa using hj
  simp [Addr.add])
set_option maxRecDepth 100000 in
set_option maxHeartbeats 4000000 in
theorem rord_ex_g (l:List Tok) (w:World) (B:Nat) (h:PrS w B (.good l)):Calls Tryd.prog 27 #[.pointer (some ⟨B,0,none⟩),.string ⟨#[101,120]⟩] w fun y w'=>y=.returned (.int .i64 (ordOf [101,120] l))∧Below w.heap.size w w':=by
 have HS:=Lib.hid h
 clear h
 obtain ⟨r,hr⟩:∃ r,r=ordOf [101,120] l:=⟨_,rfl⟩
 rw [← hr]
 have HR:=Lib.hid hr
 clear hr
 go_enter Tryd.func27,Tryd.ntmps27
 go_wp2
 go_loopw [5] (fun i wr=>∃ k:Int,i=.int .i64 k∧(0≤k∧k≤3)∧Hid (r=(if (wrd l).toList == [101,120] ++ [48] && decide (k≤0) then 0 else if (wrd l).toList == [101,120] ++ [49] && decide (k≤1) then 1 else if (wrd l).toList == [101,120] ++ [50] && decide (k≤2) then 2 else -1))∧Hid (Below w.heap.size w wr)) (fun i _=>3 - (intOf i).toNat)
 case atStart=>exact ⟨0,rfl,⟨by omega,by omega⟩,Lib.hid (by rw [HR.out];unfold ordOf;simp),Lib.hid (Below.refl _ _)⟩
 case round =>
  obtain ⟨k,rfl,⟨hk0,hk⟩,HE,HB⟩:=hrel
  have hcs:k=0∨k=1∨k=2∨k=3:=by omega
  clear hk hk0
  rcases hcs with rfl | rfl | rfl | rfl
  ·have hcv:(convert 49 9 (.slice (some ⟨wr.heap.size,0,none⟩) 1 1)).run Tryd.prog (wr.alloc (.cells #[.int .u8 48] 5))=.ok (.string ⟨#[48]⟩) (wr.alloc (.cells #[.int .u8 48] 5)):=conv_k wr 48
   have hx:((⟨#[101,120]⟩ ++ ⟨#[48]⟩:ByteArray).toList == [])=false:=by decide +kernel
   have hw2:(⟨#[101,120]⟩ ++ ⟨#[48]⟩:ByteArray).toList=[101,120] ++ [48]:=by decide +kernel
   have HC:=Lib.hid (ris_g l (⟨#[101,120]⟩ ++ ⟨#[48]⟩:ByteArray) (wr.alloc (.cells #[.int .u8 48] 5)) B hx ((HS.out.below HB.out).alloc _))
   rw [hw2] at HC
   have he:=HE.out
   generalize hq:((wrd l).toList == [101,120] ++ [48])=q at HC he
   cases q with
   | true =>
    have hr:r=0:=by rw [he];simp
    subst hr
    clear HE he hq hx hw2
    go_wp2_with fail
    refine HC.out.mono ?_
    rintro e2 w2 ⟨rfl,hb2⟩
    have hbb:=HB.out.trans ((box_then hb2).mono HB.out.size)
    clear hb2 HC HB
    go_wp2_with fail
    go_ret
    exact ⟨rfl,hbb⟩
   | false =>
    have HE2:=Lib.hid (show r=_ from he)
    clear HE he hx hw2
    go_wp2_with fail
    refine HC.out.mono ?_
    rintro e2 w2 ⟨rfl,hb2⟩
    have HB2:=Lib.hid (HB.out.trans ((box_then hb2).mono HB.out.size))
    clear hb2 HC HB
    go_wp2_with fail
    go_roundw
    case rel=>exact ⟨1,rfl,⟨by omega,by omega⟩,Lib.hid (by rw [HE2.out];simp),HB2⟩
    case measure=>(try simp [intOf]);try omega
  ·have hcv:(convert 49 9 (.slice (some ⟨wr.heap.size,0,none⟩) 1 1)).run Tryd.prog (wr.alloc (.cells #[.int .u8 49] 5))=.ok (.string ⟨#[49]⟩) (wr.alloc (.cells #[.int .u8 49] 5)):=conv_k wr 49
   have hx:((⟨#[101,120]⟩ ++ ⟨#[49]⟩:ByteArray).toList == [])=false:=by decide +kernel
   have hw2:(⟨#[101,120]⟩ ++ ⟨#[49]⟩:ByteArray).toList=[101,120] ++ [49]:=by decide +kernel
   have HC:=Lib.hid (ris_g l (⟨#[101,120]⟩ ++ ⟨#[49]⟩:ByteArray) (wr.alloc (.cells #[.int .u8 49] 5)) B hx ((HS.out.below HB.out).alloc _))
   rw [hw2] at HC
   have he:=HE.out
   generalize hq:((wrd l).toList == [101,120] ++ [49])=q at HC he
   cases q with
   | true =>
    have hr:r=1:=by rw [he];simp
    subst hr
    clear HE he hq hx hw2
    go_wp2_with fail
    refine HC.out.mono ?_
    rintro e2 w2 ⟨rfl,hb2⟩
    have hbb:=HB.out.trans ((box_then hb2).mono HB.out.size)
    clear hb2 HC HB
    go_wp2_with fail
    go_ret
    exact ⟨rfl,hbb⟩
   | false =>
    have HE2:=Lib.hid (show r=_ from he)
    clear HE he hx hw2
    go_wp2_with fail
    refine HC.out.mono ?_
    rintro e2 w2 ⟨rfl,hb2⟩
    have HB2:=Lib.hid (HB.out.trans ((box_then hb2).mono HB.out.size))
    clear hb2 HC HB
    go_wp2_with fail
    go_roundw
    case rel=>exact ⟨2,rfl,⟨by omega,by omega⟩,Lib.hid (by rw [HE2.out];simp),HB2⟩
    case measure=>(try simp [intOf]);try omega
  ·have hcv:(convert 49 9 (.slice (some ⟨wr.heap.size,0,none⟩) 1 1)).run Tryd.prog (wr.alloc (.cells #[.int .u8 50] 5))=.ok (.string ⟨#[50]⟩) (wr.alloc (.cells #[.int .u8 50] 5)):=conv_k wr 50
   have hx:((⟨#[101,120]⟩ ++ ⟨#[50]⟩:ByteArray).toList == [])=false:=by decide +kernel
   have hw2:(⟨#[101,120]⟩ ++ ⟨#[50]⟩:ByteArray).toList=[101,120] ++ [50]:=by decide +kernel
   have HC:=Lib.hid (ris_g l (⟨#[101,120]⟩ ++ ⟨#[50]⟩:ByteArray) (wr.alloc (.cells #[.int .u8 50] 5)) B hx ((HS.out.below HB.out).alloc _))
   rw [hw2] at HC
   have he:=HE.out
   generalize hq:((wrd l).toList == [101,120] ++ [50])=q at HC he
   cases q with
   | true =>
    have hr:r=2:=by rw [he];simp
    subst hr
    clear HE he hq hx hw2
    go_wp2_with fail
    refine HC.out.mono ?_
    rintro e2 w2 ⟨rfl,hb2⟩
    have hbb:=HB.out.trans ((box_then hb2).mono HB.out.size)
    clear hb2 HC HB
    go_wp2_with fail
    go_ret
    exact ⟨rfl,hbb⟩
   | false =>
    have HE2:=Lib.hid (show r=_ from he)
    clear HE he hx hw2
    go_wp2_with fail
    refine HC.out.mono ?_
    rintro e2 w2 ⟨rfl,hb2⟩
    have HB2:=Lib.hid (HB.out.trans ((box_then hb2).mono HB.out.size))
    clear hb2 HC HB
    go_wp2_with fail
    go_roundw
    case rel=>exact ⟨3,rfl,⟨by omega,by omega⟩,Lib.hid (by rw [HE2.out];simp),HB2⟩
    case measure=>(try simp [intOf]);try omega
  ·have hr:r = -1:=by rw [HE.out];simp
   subst hr
   clear HE
   go_wp2
   go_ret
   exact ⟨rfl,HB.out⟩
set_option maxRecDepth 100000 in
set_option maxHeartbeats 4000000 in
theorem rord_all_g (l:List Tok) (w:World) (B:Nat) (h:PrS w B (.good l)):Calls Tryd.prog 27 #[.pointer (some ⟨B,0,none⟩),.string ⟨#[97,108,108]⟩] w fun y w'=>y=.returned (.int .i64 (ordOf [97,108,108] l))∧Below w.heap.size w w':=by
 have HS:=Lib.hid h
 clear h
 obtain ⟨r,hr⟩:∃ r,r=ordOf [97,108,108] l:=⟨_,rfl⟩
 rw [← hr]
 have HR:=Lib.hid hr
 clear hr
 go_enter Tryd.func27,Tryd.ntmps27
 go_wp2
 go_loopw [5] (fun i wr=>∃ k:Int,i=.int .i64 k∧(0≤k∧k≤3)∧Hid (r=(if (wrd l).toList == [97,108,108] ++ [48] && decide (k≤0) then 0 else if (wrd l).toList == [97,108,108] ++ [49] && decide (k≤1) then 1 else if (wrd l).toList == [97,108,108] ++ [50] && decide (k≤2) then 2 else -1))∧Hid (Below w.heap.size w wr)) (fun i _=>3 - (intOf i).toNat)
 case atStart=>exact ⟨0,rfl,⟨by omega,by omega⟩,Lib.hid (by rw [HR.out];unfold ordOf;simp),Lib.hid (Below.refl _ _)⟩
 case round =>
  obtain ⟨k,rfl,⟨hk0,hk⟩,HE,HB⟩:=hrel
  have hcs:k=0∨k=1∨k=2∨k=3:=by omega
  clear hk hk0
  rcases hcs with rfl | rfl | rfl | rfl
  ·have hcv:(convert 49 9 (.slice (some ⟨wr.heap.size,0,none⟩) 1 1)).run Tryd.prog (wr.alloc (.cells #[.int .u8 48] 5))=.ok (.string ⟨#[48]⟩) (wr.alloc (.cells #[.int .u8 48] 5)):=conv_k wr 48
   have hx:((⟨#[97,108,108]⟩ ++ ⟨#[48]⟩:ByteArray).toList == [])=false:=by decide +kernel
   have hw2:(⟨#[97,108,108]⟩ ++ ⟨#[48]⟩:ByteArray).toList=[97,108,108] ++ [48]:=by decide +kernel
   have HC:=Lib.hid (ris_g l (⟨#[97,108,108]⟩ ++ ⟨#[48]⟩:ByteArray) (wr.alloc (.cells #[.int .u8 48] 5)) B hx ((HS.out.below HB.out).alloc _))
   rw [hw2] at HC
   have he:=HE.out
   generalize hq:((wrd l).toList == [97,108,108] ++ [48])=q at HC he
   cases q with
   | true =>
    have hr:r=0:=by rw [he];simp
    subst hr
    clear HE he hq hx hw2
    go_wp2_with fail
    refine HC.out.mono ?_
    rintro e2 w2 ⟨rfl,hb2⟩
    have hbb:=HB.out.trans ((box_then hb2).mono HB.out.size)
    clear hb2 HC HB
    go_wp2_with fail
    go_ret
    exact ⟨rfl,hbb⟩
   | false =>
    have HE2:=Lib.hid (show r=_ from he)
    clear HE he hx hw2
    go_wp2_with fail
    refine HC.out.mono ?_
    rintro e2 w2 ⟨rfl,hb2⟩
    have HB2:=Lib.hid (HB.out.trans ((box_then hb2).mono HB.out.size))
    clear hb2 HC HB
    go_wp2_with fail
    go_roundw
    case rel=>exact ⟨1,rfl,⟨by omega,by omega⟩,Lib.hid (by rw [HE2.out];simp),HB2⟩
    case measure=>(try simp [intOf]);try omega
  ·have hcv:(convert 49 9 (.slice (some ⟨wr.heap.size,0,none⟩) 1 1)).run Tryd.prog (wr.alloc (.cells #[.int .u8 49] 5))=.ok (.string ⟨#[49]⟩) (wr.alloc (.cells #[.int .u8 49] 5)):=conv_k wr 49
   have hx:((⟨#[97,108,108]⟩ ++ ⟨#[49]⟩:ByteArray).toList == [])=false:=by decide +kernel
   have hw2:(⟨#[97,108,108]⟩ ++ ⟨#[49]⟩:ByteArray).toList=[97,108,108] ++ [49]:=by decide +kernel
   have HC:=Lib.hid (ris_g l (⟨#[97,108,108]⟩ ++ ⟨#[49]⟩:ByteArray) (wr.alloc (.cells #[.int .u8 49] 5)) B hx ((HS.out.below HB.out).alloc _))
   rw [hw2] at HC
   have he:=HE.out
   generalize hq:((wrd l).toList == [97,108,108] ++ [49])=q at HC he
   cases q with
   | true =>
    have hr:r=1:=by rw [he];simp
    subst hr
    clear HE he hq hx hw2
    go_wp2_with fail
    refine HC.out.mono ?_
    rintro e2 w2 ⟨rfl,hb2⟩
    have hbb:=HB.out.trans ((box_then hb2).mono HB.out.size)
    clear hb2 HC HB
    go_wp2_with fail
    go_ret
    exact ⟨rfl,hbb⟩
   | false =>
    have HE2:=Lib.hid (show r=_ from he)
    clear HE he hx hw2
    go_wp2_with fail
    refine HC.out.mono ?_
    rintro e2 w2 ⟨rfl,hb2⟩
    have HB2:=Lib.hid (HB.out.trans ((box_then hb2).mono HB.out.size))
    clear hb2 HC HB
    go_wp2_with fail
    go_roundw
    case rel=>exact ⟨2,rfl,⟨by omega,by omega⟩,Lib.hid (by rw [HE2.out];simp),HB2⟩
    case measure=>(try simp [intOf]);try omega
  ·have hcv:(convert 49 9 (.slice (some ⟨wr.heap.size,0,none⟩) 1 1)).run Tryd.prog (wr.alloc (.cells #[.int .u8 50] 5))=.ok (.string ⟨#[50]⟩) (wr.alloc (.cells #[.int .u8 50] 5)):=conv_k wr 50
   have hx:((⟨#[97,108,108]⟩ ++ ⟨#[50]⟩:ByteArray).toList == [])=false:=by decide +kernel
   have hw2:(⟨#[97,108,108]⟩ ++ ⟨#[50]⟩:ByteArray).toList=[97,108,108] ++ [50]:=by decide +kernel
   have HC:=Lib.hid (ris_g l (⟨#[97,108,108]⟩ ++ ⟨#[50]⟩:ByteArray) (wr.alloc (.cells #[.int .u8 50] 5)) B hx ((HS.out.below HB.out).alloc _))
   rw [hw2] at HC
   have he:=HE.out
   generalize hq:((wrd l).toList == [97,108,108] ++ [50])=q at HC he
   cases q with
   | true =>
    have hr:r=2:=by rw [he];simp
    subst hr
    clear HE he hq hx hw2
    go_wp2_with fail
    refine HC.out.mono ?_
    rintro e2 w2 ⟨rfl,hb2⟩
    have hbb:=HB.out.trans ((box_then hb2).mono HB.out.size)
    clear hb2 HC HB
    go_wp2_with fail
    go_ret
    exact ⟨rfl,hbb⟩
   | false =>
    have HE2:=Lib.hid (show r=_ from he)
    clear HE he hx hw2
    go_wp2_with fail
    refine HC.out.mono ?_
    rintro e2 w2 ⟨rfl,hb2⟩
    have HB2:=Lib.hid (HB.out.trans ((box_then hb2).mono HB.out.size))
    clear hb2 HC HB
    go_wp2_with fail
    go_roundw
    case rel=>exact ⟨3,rfl,⟨by omega,by omega⟩,Lib.hid (by rw [HE2.out];simp),HB2⟩
    case measure=>(try simp [intOf]);try omega
  ·have hr:r = -1:=by rw [HE.out];simp
   subst hr
   clear HE
   go_wp2
   go_ret
   exact ⟨rfl,HB.out⟩
set_option maxRecDepth 100000 in
set_option maxHeartbeats 4000000 in
theorem rord_var_g (l:List Tok) (w:World) (B:Nat) (h:PrS w B (.good l)):Calls Tryd.prog 27 #[.pointer (some ⟨B,0,none⟩),.string ⟨#[118,97,114]⟩] w fun y w'=>y=.returned (.int .i64 (ordOf [118,97,114] l))∧Below w.heap.size w w':=by
 have HS:=Lib.hid h
 clear h
 obtain ⟨r,hr⟩:∃ r,r=ordOf [118,97,114] l:=⟨_,rfl⟩
 rw [← hr]
 have HR:=Lib.hid hr
 clear hr
 go_enter Tryd.func27,Tryd.ntmps27
 go_wp2
 go_loopw [5] (fun i wr=>∃ k:Int,i=.int .i64 k∧(0≤k∧k≤3)∧Hid (r=(if (wrd l).toList == [118,97,114] ++ [48] && decide (k≤0) then 0 else if (wrd l).toList == [118,97,114] ++ [49] && decide (k≤1) then 1 else if (wrd l).toList == [118,97,114] ++ [50] && decide (k≤2) then 2 else -1))∧Hid (Below w.heap.size w wr)) (fun i _=>3 - (intOf i).toNat)
 case atStart=>exact ⟨0,rfl,⟨by omega,by omega⟩,Lib.hid (by rw [HR.out];unfold ordOf;simp),Lib.hid (Below.refl _ _)⟩
 case round =>
  obtain ⟨k,rfl,⟨hk0,hk⟩,HE,HB⟩:=hrel
  have hcs:k=0∨k=1∨k=2∨k=3:=by omega
  clear hk hk0
  rcases hcs with rfl | rfl | rfl | rfl
  ·have hcv:(convert 49 9 (.slice (some ⟨wr.heap.size,0,none⟩) 1 1)).run Tryd.prog (wr.alloc (.cells #[.int .u8 48] 5))=.ok (.string ⟨#[48]⟩) (wr.alloc (.cells #[.int .u8 48] 5)):=conv_k wr 48
   have hx:((⟨#[118,97,114]⟩ ++ ⟨#[48]⟩:ByteArray).toList == [])=false:=by decide +kernel
   have hw2:(⟨#[118,97,114]⟩ ++ ⟨#[48]⟩:ByteArray).toList=[118,97,114] ++ [48]:=by decide +kernel
   have HC:=Lib.hid (ris_g l (⟨#[118,97,114]⟩ ++ ⟨#[48]⟩:ByteArray) (wr.alloc (.cells #[.int .u8 48] 5)) B hx ((HS.out.below HB.out).alloc _))
   rw [hw2] at HC
   have he:=HE.out
   generalize hq:((wrd l).toList == [118,97,114] ++ [48])=q at HC he
   cases q with
   | true =>
    have hr:r=0:=by rw [he];simp
    subst hr
    clear HE he hq hx hw2
    go_wp2_with fail
    refine HC.out.mono ?_
    rintro e2 w2 ⟨rfl,hb2⟩
    have hbb:=HB.out.trans ((box_then hb2).mono HB.out.size)
    clear hb2 HC HB
    go_wp2_with fail
    go_ret
    exact ⟨rfl,hbb⟩
   | false =>
    have HE2:=Lib.hid (show r=_ from he)
    clear HE he hx hw2
    go_wp2_with fail
    refine HC.out.mono ?_
    rintro e2 w2 ⟨rfl,hb2⟩
    have HB2:=Lib.hid (HB.out.trans ((box_then hb2).mono HB.out.size))
    clear hb2 HC HB
    go_wp2_with fail
    go_roundw
    case rel=>exact ⟨1,rfl,⟨by omega,by omega⟩,Lib.hid (by rw [HE2.out];simp),HB2⟩
    case measure=>(try simp [intOf]);try omega
  ·have hcv:(convert 49 9 (.slice (some ⟨wr.heap.size,0,none⟩) 1 1)).run Tryd.prog (wr.alloc (.cells #[.int .u8 49] 5))=.ok (.string ⟨#[49]⟩) (wr.alloc (.cells #[.int .u8 49] 5)):=conv_k wr 49
   have hx:((⟨#[118,97,114]⟩ ++ ⟨#[49]⟩:ByteArray).toList == [])=false:=by decide +kernel
   have hw2:(⟨#[118,97,114]⟩ ++ ⟨#[49]⟩:ByteArray).toList=[118,97,114] ++ [49]:=by decide +kernel
   have HC:=Lib.hid (ris_g l (⟨#[118,97,114]⟩ ++ ⟨#[49]⟩:ByteArray) (wr.alloc (.cells #[.int .u8 49] 5)) B hx ((HS.out.below HB.out).alloc _))
   rw [hw2] at HC
   have he:=HE.out
   generalize hq:((wrd l).toList == [118,97,114] ++ [49])=q at HC he
   cases q with
   | true =>
    have hr:r=1:=by rw [he];simp
    subst hr
    clear HE he hq hx hw2
    go_wp2_with fail
    refine HC.out.mono ?_
    rintro e2 w2 ⟨rfl,hb2⟩
    have hbb:=HB.out.trans ((box_then hb2).mono HB.out.size)
    clear hb2 HC HB
    go_wp2_with fail
    go_ret
    exact ⟨rfl,hbb⟩
   | false =>
    have HE2:=Lib.hid (show r=_ from he)
    clear HE he hx hw2
    go_wp2_with fail
    refine HC.out.mono ?_
    rintro e2 w2 ⟨rfl,hb2⟩
    have HB2:=Lib.hid (HB.out.trans ((box_then hb2).mono HB.out.size))
    clear hb2 HC HB
    go_wp2_with fail
    go_roundw
    case rel=>exact ⟨2,rfl,⟨by omega,by omega⟩,Lib.hid (by rw [HE2.out];simp),HB2⟩
    case measure=>(try simp [intOf]);try omega
  ·have hcv:(convert 49 9 (.slice (some ⟨wr.heap.size,0,none⟩) 1 1)).run Tryd.prog (wr.alloc (.cells #[.int .u8 50] 5))=.ok (.string ⟨#[50]⟩) (wr.alloc (.cells #[.int .u8 50] 5)):=conv_k wr 50
   have hx:((⟨#[118,97,114]⟩ ++ ⟨#[50]⟩:ByteArray).toList == [])=false:=by decide +kernel
   have hw2:(⟨#[118,97,114]⟩ ++ ⟨#[50]⟩:ByteArray).toList=[118,97,114] ++ [50]:=by decide +kernel
   have HC:=Lib.hid (ris_g l (⟨#[118,97,114]⟩ ++ ⟨#[50]⟩:ByteArray) (wr.alloc (.cells #[.int .u8 50] 5)) B hx ((HS.out.below HB.out).alloc _))
   rw [hw2] at HC
   have he:=HE.out
   generalize hq:((wrd l).toList == [118,97,114] ++ [50])=q at HC he
   cases q with
   | true =>
    have hr:r=2:=by rw [he];simp
    subst hr
    clear HE he hq hx hw2
    go_wp2_with fail
    refine HC.out.mono ?_
    rintro e2 w2 ⟨rfl,hb2⟩
    have hbb:=HB.out.trans ((box_then hb2).mono HB.out.size)
    clear hb2 HC HB
    go_wp2_with fail
    go_ret
    exact ⟨rfl,hbb⟩
   | false =>
    have HE2:=Lib.hid (show r=_ from he)
    clear HE he hx hw2
    go_wp2_with fail
    refine HC.out.mono ?_
    rintro e2 w2 ⟨rfl,hb2⟩
    have HB2:=Lib.hid (HB.out.trans ((box_then hb2).mono HB.out.size))
    clear hb2 HC HB
    go_wp2_with fail
    go_roundw
    case rel=>exact ⟨3,rfl,⟨by omega,by omega⟩,Lib.hid (by rw [HE2.out];simp),HB2⟩
    case measure=>(try simp [intOf]);try omega
  ·have hr:r = -1:=by rw [HE.out];simp
   subst hr
   clear HE
   go_wp2
   go_ret
   exact ⟨rfl,HB.out⟩
end Go.Proofs.YtmlmjopfbohglaaDoor
