/- Parts of the proof: LexC Node. -/
import Derived.Test.YtmlmjopfbohglaaDoorWd02
import Derived.Test.YtmlmjopfbohglaaDoorWd16
namespace Go.Proofs.YtmlmjopfbohglaaDoor
open Go.RowKit
theorem class_is (r c:Int) (w:World) (h:cls r=c) :
  Calls Tryd.prog 138 #[.int .i32 r] w fun e w'=>e=.returned (.int .i64 c)∧w=w':=by
 rw [← h];exact class_any r w
theorem name_k (s:ByteArray) (n:Nat) (K:Int) (w:World) (hT:LTabs w) (hs:s.size≤1000000) (h:(each s).2 = -1) (hn:(each s).1.length=n) (h12:n≤12) (hK:K=if isWrd s then 3 else 1) :
  Calls Tryd.prog 142 #[.string s] w fun e w'=>e=.returned (.tuple #[.agg #[.int .i64 K,.string s,.int .i64 0,.int .i64 0],.bool true])∧Below w.heap.size w w':=by
 rw [hK];exact name_ok s n w hT hs h hn h12
theorem number_is (s:ByteArray) (v:Value) (b:Bool) (w:World) (hs:s.size≤1000000) (h1:1≤s.size) (h:(each s).2 = -1) (hd:∀ q ∈ (each s).1,dgB q.1=true) (hN:numOut s=(v,b)) :
  Calls Tryd.prog 144 #[.string s] w fun e w'=>e=.returned (.tuple #[v,.bool b])∧Below w.heap.size w w':=by
 refine (number_any s w hs h1 h hd).mono fun e w' h=>?_
 unfold NumPost at h
 rw [hN] at h
 exact h
theorem lead_int (p:Int→Bool) (u:ByteArray) (h:(each u).2 = -1):((leadN p u:Nat):Int)=posOf (u.size:Int) ((each u).1.drop (cnt p (each u).1))∧leadN p u≤u.size:=by
 have h1:=posOf_ge u u.size 0 (by omega) (cnt p (each u).1)
 have e:eachF u u.size 0=each u:=rfl
 have e2:endOf u (each u).2=u.size:=by unfold endOf;rw [if_pos h]
 rw [e,e2] at h1
 unfold leadN
 omega
theorem lead_size (p:Int→Bool) (u:ByteArray) (h:(each u).2 = -1):((u.extract 0 (leadN p u)).size:Int)=posOf (u.size:Int) ((each u).1.drop (cnt p (each u).1)):=by
 have:=lead_int p u h
 rw [ext_size u _ this.2];exact this.1
theorem lead_min (p:Int→Bool) (u:ByteArray) (h:(each u).2 = -1):((min (leadN p u) u.size:Nat):Int)=posOf (u.size:Int) ((each u).1.drop (cnt p (each u).1)):=by
 have:=lead_int p u h
 rw [Nat.min_eq_left this.2];exact this.1
theorem lead_each (p:Int→Bool) (u:ByteArray) (h:(each u).2 = -1):each (u.extract 0 (leadN p u))=((each u).1.take (cnt p (each u).1),-1):=by
 have h1:=lead_int p u h
 have e2:endOf u (eachF u u.size 0).2=u.size:=by unfold endOf;exact if_pos h
 have h2:=each_cut u u.size 0 (cnt p (each u).1) (by omega) (cnt_le _ _) (by omega) (leadN p u) (by rw [e2];exact h1.1)
 rw [each_enough _ _ (by rw [ext_size u _ h1.2];exact h1.2)] at h2
 exact h2
set_option maxHeartbeats 1000000 in
theorem first_sp (u:ByteArray) (r:Int) (w:World) (h:(each u).2 = -1) (h3:cls r=3) (hst:stepL u u.size (each u).1=some (none,cnt spB (each u).1)) :
  Calls Tryd.prog 118 #[.string u,.int .i32 r] w (FirstPost u w):=by
 have HE:=Lib.hid h
 have H3:=Lib.hid h3
 have HS:=Lib.hid hst
 have HL:=Lib.hid (lead_min spB u h)
 clear h h3 hst
 go_enter Tryd.func118,Tryd.ntmps118
 go_wp2_with fail
 refine (class_is _ _ _ H3.out).mono ?_
 rintro e w' ⟨rfl,rfl⟩
 go_wp2_with fail
 refine (lead_sp _ _ HE.out).mono ?_
 rintro e w1 ⟨rfl,hb⟩
 obtain ⟨hc,hf⟩:=bcell hb
 have hz:w.heap.size < w1.heap.size:=by have:=hb.size;simp at this;omega
 have hb0:Below w.heap.size w w1:=((Below.refl _ _).alloc (Nat.le_refl _) _).trans (hb.mono (by simp))
 go_wp2
 exact bodyPost_ret (v:=.tuple #[.agg #[.int .i64 0,.string ⟨#[]⟩,.int .i64 0,.int .i64 0],.int .i64 _,.bool true]) (by simp [results,Tryd.results118,go_sem,hc]) rfl
  ⟨.yes (v:=.agg #[.int .i64 0,.string ⟨#[]⟩,.int .i64 0,.int .i64 0]) HS.out rfl HL.out,((((hb0.setCell (by simp) _).setCell (by simp) _).setCell (by simp) _).setCell (by simp) _)⟩
set_option maxHeartbeats 1000000 in
theorem first_cm (u:ByteArray) (r:Int) (w:World) (h:(each u).2 = -1) (hr:r=35) (hst:stepL u u.size (each u).1=some (none,cnt lnB (each u).1)) :
  Calls Tryd.prog 118 #[.string u,.int .i32 r] w (FirstPost u w):=by
 have HE:=Lib.hid h
 have H3:=Lib.hid (show cls r=4 by rw [hr];exact cls35)
 have HS:=Lib.hid hst
 have HL:=Lib.hid (lead_min lnB u h)
 have hr1:(r == 35)=true:=by rw [beq_iff_eq];exact hr
 clear h hst hr
 go_enter Tryd.func118,Tryd.ntmps118
 go_wp2_with fail
 refine (class_is _ _ _ H3.out).mono ?_
 rintro e w' ⟨rfl,rfl⟩
 go_wp2_with fail
 refine (lead_ln _ _ HE.out).mono ?_
 rintro e w1 ⟨rfl,hb⟩
 obtain ⟨hc,hf⟩:=bcell hb
 have hz:w.heap.size < w1.heap.size:=by have:=hb.size;simp at this;omega
 have hb0:Below w.heap.size w w1:=((Below.refl _ _).alloc (Nat.le_refl _) _).trans (hb.mono (by simp))
 go_wp2
 exact bodyPost_ret (v:=.tuple #[.agg #[.int .i64 0,.string ⟨#[]⟩,.int .i64 0,.int .i64 0],.int .i64 _,.bool true]) (by simp [results,Tryd.results118,go_sem,hc]) rfl
  ⟨.yes (v:=.agg #[.int .i64 0,.string ⟨#[]⟩,.int .i64 0,.int .i64 0]) HS.out rfl HL.out,((((hb0.setCell (by simp) _).setCell (by simp) _).setCell (by simp) _).setCell (by simp) _)⟩
set_option maxHeartbeats 1000000 in
theorem first_other (u:ByteArray) (r:Int) (w:World) (h3:cls r=0) (hst:stepL u u.size (each u).1=none) :
  Calls Tryd.prog 118 #[.string u,.int .i32 r] w (FirstPost u w):=by
 have H3:=Lib.hid h3
 have HS:=Lib.hid hst
 clear h3 hst
 go_enter Tryd.func118,Tryd.ntmps118
 go_wp2_with fail
 refine (class_is _ _ _ H3.out).mono ?_
 rintro e w' ⟨rfl,rfl⟩
 go_wp2
 exact bodyPost_ret (v:=.tuple #[.agg #[.int .i64 0,.string ⟨#[]⟩,.int .i64 0,.int .i64 0],.int .i64 0,.bool false]) (by simp [results,Tryd.results118,go_sem]) rfl
  ⟨.no HS.out,(Below.refl _ _).alloc (Nat.le_refl _) _⟩
set_option maxHeartbeats 1000000 in
theorem first_sig (u:ByteArray) (r:Int) (w:World) (hT:LTabs w) (h:(each u).2 = -1) (h3:cls r=4) (hr:¬ r=35) (x:ByteArray) (hx:signOf u=x) (hx0:¬ x.toList=[]) (hst:stepL u u.size (each u).1=some (some ⟨3,x,0,0⟩,x.size)) (hl:(x.size:Int)=posOf u.size ((each u).1.drop x.size)) :
  Calls Tryd.prog 118 #[.string u,.int .i32 r] w (FirstPost u w):=by
 have HE:=Lib.hid h
 have H3:=Lib.hid h3
 have HS:=Lib.hid hst
 have HL:=Lib.hid hl
 have HX:=Lib.hid hx
 have hr1:(r == 35)=false:=by rw [beq_eq_false_iff_ne];exact hr
 have hT1:LTabs (w.alloc (.cells #[.int .i64 0,.string ⟨#[]⟩,.int .i64 0,.int .i64 0] 73)):=hT.below ((Below.refl _ _).alloc (Nat.le_refl _) _)
 clear h h3 hst hr hx hl
 go_enter Tryd.func118,Tryd.ntmps118
 go_wp2_with fail
 refine (class_is _ _ _ H3.out).mono ?_
 rintro e w' ⟨rfl,rfl⟩
 go_wp2_with fail
 refine (sign_any _ _ hT1 HE.out).mono ?_
 rintro e w1 ⟨rfl,rfl⟩
 rw [HX.out]
 go_wp2
 exact bodyPost_ret (v:=.tuple #[.agg #[.int .i64 3,.string x,.int .i64 0,.int .i64 0],.int .i64 x.size,.bool true]) (by simp [results,Tryd.results118,go_sem,hx0]) rfl
  ⟨.yes (v:=.agg #[.int .i64 3,.string x,.int .i64 0,.int .i64 0]) HS.out rfl HL.out,(Below.refl _ _).alloc (Nat.le_refl _) _⟩
set_option maxHeartbeats 1000000 in
theorem first_nosig (u:ByteArray) (r:Int) (w:World) (hT:LTabs w) (h:(each u).2 = -1) (h3:cls r=4) (hr:¬ r=35) (hx:signOf u=⟨#[]⟩) (hst:stepL u u.size (each u).1=none) :
  Calls Tryd.prog 118 #[.string u,.int .i32 r] w (FirstPost u w):=by
 have HE:=Lib.hid h
 have H3:=Lib.hid h3
 have HS:=Lib.hid hst
 have HX:=Lib.hid hx
 have hr1:(r == 35)=false:=by rw [beq_eq_false_iff_ne];exact hr
 have hT1:LTabs (w.alloc (.cells #[.int .i64 0,.string ⟨#[]⟩,.int .i64 0,.int .i64 0] 73)):=hT.below ((Below.refl _ _).alloc (Nat.le_refl _) _)
 clear h h3 hst hr hx
 go_enter Tryd.func118,Tryd.ntmps118
 go_wp2_with fail
 refine (class_is _ _ _ H3.out).mono ?_
 rintro e w' ⟨rfl,rfl⟩
 go_wp2_with fail
 refine (sign_any _ _ hT1 HE.out).mono ?_
 rintro e w1 ⟨rfl,rfl⟩
 rw [HX.out]
 go_wp2
 exact bodyPost_ret (v:=.tuple #[.agg #[.int .i64 3,.string ⟨#[]⟩,.int .i64 0,.int .i64 0],.int .i64 0,.bool false]) (by simp [results,Tryd.results118,go_sem]) rfl
  ⟨.no HS.out,(Below.refl _ _).alloc (Nat.le_refl _) _⟩
set_option maxHeartbeats 1000000 in
theorem first_nameok (u:ByteArray) (r:Int) (w:World) (hT:LTabs w) (h:(each u).2 = -1) (hsz:u.size≤1000000) (h3:cls r=1) (h12:cnt nmB (each u).1≤12) (K:Int) (hK:K=if isWrd (u.extract 0 (leadN nmB u)) then 3 else 1) (hst:stepL u u.size (each u).1=some (some ⟨K,u.extract 0 (leadN nmB u),0,0⟩,cnt nmB (each u).1)) :
  Calls Tryd.prog 118 #[.string u,.int .i32 r] w (FirstPost u w):=by
 have HE:=Lib.hid h
 have H3:=Lib.hid h3
 have HS:=Lib.hid hst
 have HL:=Lib.hid (lead_size nmB u h)
 have HC:=Lib.hid (lead_each nmB u h)
 have hxs:(u.extract 0 (leadN nmB u)).size≤1000000:=by rw [ext_size u _ (lead_int nmB u h).2];have:=(lead_int nmB u h).2;omega
 have HN:=Lib.hid (show (each (u.extract 0 (leadN nmB u))).1.length=cnt nmB (each u).1 by rw [HC.out];exact List.length_take_of_le (cnt_le _ _))
 obtain ⟨x,hx⟩:∃ x,x=u.extract 0 (leadN nmB u):=⟨_,rfl⟩
 rw [← hx] at hst hK
 have HS:=Lib.hid hst
 have HK:=Lib.hid hK
 clear hK
 have HX:=Lib.hid hx
 rw [← hx] at hxs
 clear h h3 hst hx
 go_enter Tryd.func118,Tryd.ntmps118
 go_wp2_with fail
 refine (class_is _ _ _ H3.out).mono ?_
 rintro e w' ⟨rfl,rfl⟩
 go_wp2_with fail
 refine (lead_nm _ _ HE.out).mono ?_
 rintro e w1 ⟨rfl,hb⟩
 obtain ⟨hc,hf⟩:=bcell hb
 have hz:w.heap.size < w1.heap.size:=by have:=hb.size;simp at this;omega
 have hb0:Below w.heap.size w w1:=((Below.refl _ _).alloc (Nat.le_refl _) _).trans (hb.mono (by simp))
 have hT1:=hT.below hb0
 rw [← HX.out]
 go_wp2_with fail
 refine (name_k _ _ K _ hT1 hxs (by rw [HX.out,HC.out]) (by rw [HX.out];exact HN.out) h12 HK.out).mono ?_
 rintro e w2 ⟨rfl,hb2⟩
 have hB:=(((blk4_new w (.int .i64 0) (.string ⟨#[]⟩) (.int .i64 0) (.int .i64 0)).below hb)).below hb2
 obtain ⟨⟨k0,k1,k2,k3⟩,f0,f1,f2,f3⟩:=blk4 hB
 have hz2:w.heap.size < w2.heap.size:=by have:=hb2.size;omega
 have hb1:Below w.heap.size w w2:=hb0.trans (hb2.mono (by omega))
 go_wp2
 exact bodyPost_ret (v:=.tuple #[.agg #[.int .i64 K,.string x,.int .i64 0,.int .i64 0],.int .i64 x.size,.bool true]) (by have hB9:=(hB.set (.int .i64 K) (.string x) (.int .i64 0) (.int .i64 0)).set (.int .i64 K) (.string x) (.int .i64 0) (.int .i64 0);obtain ⟨⟨j0,j1,j2,j3⟩,g0,g1,g2,g3⟩:=blk4 hB9;simp [results,Tryd.results118,go_sem,j0,j1,j2,j3]) rfl
  ⟨.yes (v:=.agg #[.int .i64 K,.string x,.int .i64 0,.int .i64 0]) HS.out rfl (by rw [HX.out];exact HL.out),((((((((hb1.setCell (by simp) _).setCell (by simp) _).setCell (by simp) _).setCell (by simp) _).setCell (by simp) _).setCell (by simp) _).setCell (by simp) _).setCell (by simp) _)⟩
set_option maxHeartbeats 1000000 in
theorem first_namebig (u:ByteArray) (r:Int) (w:World) (hT:LTabs w) (h:(each u).2 = -1) (hsz:u.size≤1000000) (h3:cls r=1) (h12:12 < cnt nmB (each u).1) (hst:stepL u u.size (each u).1=none) :
  Calls Tryd.prog 118 #[.string u,.int .i32 r] w (FirstPost u w):=by
 have HE:=Lib.hid h
 have H3:=Lib.hid h3
 have HS:=Lib.hid hst
 have HL:=Lib.hid (lead_size nmB u h)
 have HC:=Lib.hid (lead_each nmB u h)
 have hxs:(u.extract 0 (leadN nmB u)).size≤1000000:=by rw [ext_size u _ (lead_int nmB u h).2];have:=(lead_int nmB u h).2;omega
 have HN:=Lib.hid (show (each (u.extract 0 (leadN nmB u))).1.length=cnt nmB (each u).1 by rw [HC.out];exact List.length_take_of_le (cnt_le _ _))
 obtain ⟨x,hx⟩:∃ x,x=u.extract 0 (leadN nmB u):=⟨_,rfl⟩
 have HX:=Lib.hid hx
 rw [← hx] at hxs
 clear h h3 hst hx
 go_enter Tryd.func118,Tryd.ntmps118
 go_wp2_with fail
 refine (class_is _ _ _ H3.out).mono ?_
 rintro e w' ⟨rfl,rfl⟩
 go_wp2_with fail
 refine (lead_nm _ _ HE.out).mono ?_
 rintro e w1 ⟨rfl,hb⟩
 obtain ⟨hc,hf⟩:=bcell hb
 have hz:w.heap.size < w1.heap.size:=by have:=hb.size;simp at this;omega
 have hb0:Below w.heap.size w w1:=((Below.refl _ _).alloc (Nat.le_refl _) _).trans (hb.mono (by simp))
 have hT1:=hT.below hb0
 rw [← HX.out]
 go_wp2_with fail
 refine (name_big _ _ _ hxs (by rw [HX.out,HC.out]) (by rw [HX.out];exact HN.out) h12).mono ?_
 rintro e w2 ⟨rfl,hb2⟩
 have hB:=(((blk4_new w (.int .i64 0) (.string ⟨#[]⟩) (.int .i64 0) (.int .i64 0)).below hb)).below hb2
 obtain ⟨⟨k0,k1,k2,k3⟩,f0,f1,f2,f3⟩:=blk4 hB
 have hz2:w.heap.size < w2.heap.size:=by have:=hb2.size;omega
 have hb1:Below w.heap.size w w2:=hb0.trans (hb2.mono (by omega))
 go_wp2
 exact bodyPost_ret (v:=.tuple #[.agg #[.int .i64 0,.string ⟨#[]⟩,.int .i64 0,.int .i64 0],.int .i64 x.size,.bool false]) (by have hB9:=(hB.set (.int .i64 0) (.string ⟨#[]⟩) (.int .i64 0) (.int .i64 0)).set (.int .i64 0) (.string ⟨#[]⟩) (.int .i64 0) (.int .i64 0);obtain ⟨⟨j0,j1,j2,j3⟩,g0,g1,g2,g3⟩:=blk4 hB9;simp [results,Tryd.results118,go_sem,j0,j1,j2,j3]) rfl
  ⟨.no HS.out,((((((((hb1.setCell (by simp) _).setCell (by simp) _).setCell (by simp) _).setCell (by simp) _).setCell (by simp) _).setCell (by simp) _).setCell (by simp) _).setCell (by simp) _)⟩
set_option maxHeartbeats 1000000 in
theorem first_numok (u:ByteArray) (r:Int) (w:World) (hT:LTabs w) (h:(each u).2 = -1) (hsz:u.size≤1000000) (h3:cls r=2) (h1:1≤(u.extract 0 (leadN dgB u)).size) (N:Int) (hN:numOut (u.extract 0 (leadN dgB u))=(.agg #[.int .i64 2,.string ⟨#[]⟩,.int .i64 N,.int .i64 0],true)) (hst:stepL u u.size (each u).1=some (some ⟨2,⟨#[]⟩,N,0⟩,cnt dgB (each u).1)) :
  Calls Tryd.prog 118 #[.string u,.int .i32 r] w (FirstPost u w):=by
 have HE:=Lib.hid h
 have H3:=Lib.hid h3
 have HS:=Lib.hid hst
 have HL:=Lib.hid (lead_size dgB u h)
 have HC:=Lib.hid (lead_each dgB u h)
 have hxs:(u.extract 0 (leadN dgB u)).size≤1000000:=by rw [ext_size u _ (lead_int dgB u h).2];have:=(lead_int dgB u h).2;omega
 have HN:=Lib.hid (show (each (u.extract 0 (leadN dgB u))).1.length=cnt dgB (each u).1 by rw [HC.out];exact List.length_take_of_le (cnt_le _ _))
 obtain ⟨x,hx⟩:∃ x,x=u.extract 0 (leadN dgB u):=⟨_,rfl⟩
 rw [← hx] at hN h1
 have HK:=Lib.hid hN
 clear hN
 have HX:=Lib.hid hx
 rw [← hx] at hxs
 clear h h3 hst hx
 go_enter Tryd.func118,Tryd.ntmps118
 go_wp2_with fail
 refine (class_is _ _ _ H3.out).mono ?_
 rintro e w' ⟨rfl,rfl⟩
 go_wp2_with fail
 refine (lead_dg _ _ HE.out).mono ?_
 rintro e w1 ⟨rfl,hb⟩
 obtain ⟨hc,hf⟩:=bcell hb
 have hz:w.heap.size < w1.heap.size:=by have:=hb.size;simp at this;omega
 have hb0:Below w.heap.size w w1:=((Below.refl _ _).alloc (Nat.le_refl _) _).trans (hb.mono (by simp))
 have hT1:=hT.below hb0
 rw [← HX.out]
 go_wp2_with fail
 refine (number_is _ _ _ _ hxs h1 (by rw [HX.out,HC.out]) (by rw [HX.out,HC.out];exact cnt_all dgB _) HK.out).mono ?_
 rintro e w2 ⟨rfl,hb2⟩
 have hB:=(((blk4_new w (.int .i64 0) (.string ⟨#[]⟩) (.int .i64 0) (.int .i64 0)).below hb)).below hb2
 obtain ⟨⟨k0,k1,k2,k3⟩,f0,f1,f2,f3⟩:=blk4 hB
 have hz2:w.heap.size < w2.heap.size:=by have:=hb2.size;omega
 have hb1:Below w.heap.size w w2:=hb0.trans (hb2.mono (by omega))
 go_wp2
 exact bodyPost_ret (v:=.tuple #[.agg #[.int .i64 2,.string ⟨#[]⟩,.int .i64 N,.int .i64 0],.int .i64 x.size,.bool true]) (by have hB9:=(hB.set (.int .i64 2) (.string ⟨#[]⟩) (.int .i64 N) (.int .i64 0)).set (.int .i64 2) (.string ⟨#[]⟩) (.int .i64 N) (.int .i64 0);obtain ⟨⟨j0,j1,j2,j3⟩,g0,g1,g2,g3⟩:=blk4 hB9;simp [results,Tryd.results118,go_sem,j0,j1,j2,j3]) rfl
  ⟨.yes (v:=.agg #[.int .i64 2,.string ⟨#[]⟩,.int .i64 N,.int .i64 0]) HS.out rfl (by rw [HX.out];exact HL.out),((((((((hb1.setCell (by simp) _).setCell (by simp) _).setCell (by simp) _).setCell (by simp) _).setCell (by simp) _).setCell (by simp) _).setCell (by simp) _).setCell (by simp) _)⟩
set_option maxHeartbeats 1000000 in
theorem first_numno (u:ByteArray) (r:Int) (w:World) (hT:LTabs w) (h:(each u).2 = -1) (hsz:u.size≤1000000) (h3:cls r=2) (h1:1≤(u.extract 0 (leadN dgB u)).size) (hN:numOut (u.extract 0 (leadN dgB u))=(.agg #[.int .i64 0,.string ⟨#[]⟩,.int .i64 0,.int .i64 0],false)) (hst:stepL u u.size (each u).1=none) :
  Calls Tryd.prog 118 #[.string u,.int .i32 r] w (FirstPost u w):=by
 have HE:=Lib.hid h
 have H3:=Lib.hid h3
 have HS:=Lib.hid hst
 have HL:=Lib.hid (lead_size dgB u h)
 have HC:=Lib.hid (lead_each dgB u h)
 have hxs:(u.extract 0 (leadN dgB u)).size≤1000000:=by rw [ext_size u _ (lead_int dgB u h).2];have:=(lead_int dgB u h).2;omega
 have HN:=Lib.hid (show (each (u.extract 0 (leadN dgB u))).1.length=cnt dgB (each u).1 by rw [HC.out];exact List.length_take_of_le (cnt_le _ _))
 obtain ⟨x,hx⟩:∃ x,x=u.extract 0 (leadN dgB u):=⟨_,rfl⟩
 rw [← hx] at hN h1
 have HK:=Lib.hid hN
 clear hN
 have HX:=Lib.hid hx
 rw [← hx] at hxs
 clear h h3 hst hx
 go_enter Tryd.func118,Tryd.ntmps118
 go_wp2_with fail
 refine (class_is _ _ _ H3.out).mono ?_
 rintro e w' ⟨rfl,rfl⟩
 go_wp2_with fail
 refine (lead_dg _ _ HE.out).mono ?_
 rintro e w1 ⟨rfl,hb⟩
 obtain ⟨hc,hf⟩:=bcell hb
 have hz:w.heap.size < w1.heap.size:=by have:=hb.size;simp at this;omega
 have hb0:Below w.heap.size w w1:=((Below.refl _ _).alloc (Nat.le_refl _) _).trans (hb.mono (by simp))
 have hT1:=hT.below hb0
 rw [← HX.out]
 go_wp2_with fail
 refine (number_is _ _ _ _ hxs h1 (by rw [HX.out,HC.out]) (by rw [HX.out,HC.out];exact cnt_all dgB _) HK.out).mono ?_
 rintro e w2 ⟨rfl,hb2⟩
 have hB:=(((blk4_new w (.int .i64 0) (.string ⟨#[]⟩) (.int .i64 0) (.int .i64 0)).below hb)).below hb2
 obtain ⟨⟨k0,k1,k2,k3⟩,f0,f1,f2,f3⟩:=blk4 hB
 have hz2:w.heap.size < w2.heap.size:=by have:=hb2.size;omega
 have hb1:Below w.heap.size w w2:=hb0.trans (hb2.mono (by omega))
 go_wp2
 exact bodyPost_ret (v:=.tuple #[.agg #[.int .i64 0,.string ⟨#[]⟩,.int .i64 0,.int .i64 0],.int .i64 x.size,.bool false]) (by have hB9:=(hB.set (.int .i64 0) (.string ⟨#[]⟩) (.int .i64 0) (.int .i64 0)).set (.int .i64 0) (.string ⟨#[]⟩) (.int .i64 0) (.int .i64 0);obtain ⟨⟨j0,j1,j2,j3⟩,g0,g1,g2,g3⟩:=blk4 hB9;simp [results,Tryd.results118,go_sem,j0,j1,j2,j3]) rfl
  ⟨.no HS.out,((((((((hb1.setCell (by simp) _).setCell (by simp) _).setCell (by simp) _).setCell (by simp) _).setCell (by simp) _).setCell (by simp) _).setCell (by simp) _).setCell (by simp) _)⟩
theorem num_facts (u:ByteArray) (q:Int × Int) (M:RL) (hL:(each u).1=q :: M) (h:(each u).2 = -1) (h2:cls q.1=2) :
  1≤(u.extract 0 (leadN dgB u)).size∧numOut (u.extract 0 (leadN dgB u))=if numV 0 (q :: M)≤99∧¬ (q.1=48∧1 < cnt dgB (q :: M)) then (.agg #[.int .i64 2,.string ⟨#[]⟩,.int .i64 (numV 0 (q :: M)),.int .i64 0],true) else (.agg #[.int .i64 0,.string ⟨#[]⟩,.int .i64 0,.int .i64 0],false):=by
 have hx:=lead_each dgB u h
 have hh:=head_at hL
 have hq:dgB q.1=true:=by unfold dgB;rw [h2];rfl
 have hqr:=(dgB_iff _).1 hq
 rw [hL] at hx
 have hsz:(u.extract 0 (leadN dgB u)).size=cnt dgB (q :: M):=by
  have h3:=digits_len (u.extract 0 (leadN dgB u)) (u.extract 0 (leadN dgB u)).size 0 (by omega) (by omega) (by have e:eachF (u.extract 0 (leadN dgB u)) (u.extract 0 (leadN dgB u)).size 0=each (u.extract 0 (leadN dgB u)):=rfl;rw [e,hx]) (by
   have e:eachF (u.extract 0 (leadN dgB u)) (u.extract 0 (leadN dgB u)).size 0=each (u.extract 0 (leadN dgB u)):=rfl
   rw [e,hx];exact cnt_all dgB _)
  have e:eachF (u.extract 0 (leadN dgB u)) (u.extract 0 (leadN dgB u)).size 0=each (u.extract 0 (leadN dgB u)):=rfl
  rw [e,hx] at h3
  simp only [] at h3
  rw [List.length_take_of_le (cnt_le _ _)] at h3
  omega
 have hc:=cnt_pos (L:=M) hq
 refine ⟨by omega,?_⟩
 have hli:=lead_int dgB u h
 have hl1:1≤leadN dgB u:=by rw [ext_size u _ hli.2] at hsz;omega
 have h0:=ascii_one u 0 (by have:=hh.2.2;omega)
 have hg:(u.extract 0 (leadN dgB u)).get! 0=48↔q.1=48:=by
  rw [ext_get! u _ 0 (by omega),hh.2.2]
  constructor
  ·intro e;have:(u.get! 0).toNat=48:=by rw [e];rfl
   omega
  ·intro e;exact UInt8.toNat_inj.1 (show (u.get! 0).toNat=48 by omega)
 have hn:numV 0 (each (u.extract 0 (leadN dgB u))).1=numV 0 (q :: M):=by rw [hx];exact num_take _ 0
 unfold numOut
 rw [hn,hsz]
 simp only [hg]
theorem first_any (u:ByteArray) (q:Int × Int) (M:RL) (w:World) (hT:LTabs w) (hsz:u.size≤1000000) (hL:(each u).1=q :: M) (h:(each u).2 = -1) :
  Calls Tryd.prog 118 #[.string u,.int .i32 q.1] w (FirstPost u w):=by
 have hh:=head_at hL
 have hcr:=cls_range q.1
 have hlead:∀ p,leadN p u=(posOf (u.size:Int) ((q :: M).drop (cnt p (q :: M)))).toNat:=by intro p;unfold leadN;rw [hL]
 by_cases h3:cls q.1=3
 ·exact first_sp u q.1 w h h3 (by rw [hL,stepL,if_pos h3])
 ·by_cases h35:q.1=35
  ·exact first_cm u q.1 w h h35 (by rw [hL,stepL,if_neg h3,if_pos h35])
  ·have hst:stepL u u.size (each u).1=(tokL u u.size (q :: M)).map fun p=>(some p.1,p.2):=by rw [hL,stepL,if_neg h3,if_neg h35]
   by_cases h1:cls q.1=1
   ·by_cases h12:cnt nmB (q :: M)≤12
    ·refine first_nameok u q.1 w hT h hsz h1 (by rw [hL];exact h12) _ rfl ?_
     rw [hst,tokL,if_pos h1,if_pos h12,hlead,hh.1,hL]
     rfl
    ·refine first_namebig u q.1 w hT h hsz h1 (by rw [hL];omega) ?_
     rw [hst,tokL,if_pos h1,if_neg h12]
     rfl
   ·by_cases h2:cls q.1=2
    ·have hn:=num_facts u q M hL h h2
     by_cases ho:numV 0 (q :: M)≤99∧¬ (q.1=48∧1 < cnt dgB (q :: M))
     ·rw [if_pos ho] at hn
      refine first_numok u q.1 w hT h hsz h2 hn.1 _ hn.2 ?_
      rw [hst,tokL,if_neg h1,if_pos h2,if_pos ho,hh.1,hL]
      rfl
     ·rw [if_neg ho] at hn
      refine first_numno u q.1 w hT h hsz h2 hn.1 hn.2 ?_
      rw [hst,tokL,if_neg h1,if_pos h2,if_neg ho]
      rfl
    ·have htk:tokL u u.size (q :: M)=match sigL (q :: M) with
      | some x=>some (⟨3,x,0,q.2⟩,x.size)
      | none=>none:=by
      rw [tokL,if_neg h1,if_neg h2]
      cases sigL (q :: M) <;> rfl
     by_cases h4:cls q.1=4
     ·rcases hs:sigL (q :: M) with _ | x
      ·refine first_nosig u q.1 w hT h h4 h35 (by unfold signOf;rw [hL,hs];rfl) ?_
       rw [hst,htk,hs]
       rfl
      ·have hx:=sigF_some _ _ _ hs
       have hxs:=sigs_size x hx.1
       refine first_sig u q.1 w hT h h4 h35 x (by unfold signOf;rw [hL,hs];rfl) ?_ ?_ ?_
       ·intro e
        rw [Lib.toList_data] at e
        rw [Lib.size_eq,e] at hxs
        simp at hxs
       ·rw [hst,htk,hs,hh.1]
        rfl
       ·have hr:rpre x.data.toList (eachF u u.size 0).1=true:=by
         have e:eachF u u.size 0=each u:=rfl
         rw [e,hL];exact hx.2
        have:=sig_end u x.data.toList (sigs_ascii x hx.1) u.size 0 (by omega) (by omega) h hr
        rw [Lib.size_eq x]
        have e:eachF u u.size 0=each u:=rfl
        rw [e] at this
        rw [this]
        omega
     ·have h0:cls q.1=0:=by omega
      refine first_other u q.1 w h0 ?_
      rw [hst,htk,sig_none q M h0]
      rfl
set_option maxHeartbeats 1000000 in
theorem sound_any (s:ByteArray) (w:World) (hs:s.size≤1000000) :
  Calls Tryd.prog 117 #[.string s] w fun e w'=>e=.returned (.string (sndP s))∧Below w.heap.size w w':=by
 rcases bad_range s with h | ⟨h0,h1⟩
 ·have HA:=Lib.hid (snd_all s h)
  go_enter Tryd.func117,Tryd.ntmps117
  go_wp2_with fail
  refine (each_any _ _ hs).mono ?_
  rintro e w1 ⟨v,rfl,hown,hb⟩
  rw [h]
  clear hown h
  go_wp2
  go_ret
  exact ⟨str_all HA.out.symm,hb⟩
 ·have HA:=Lib.hid (snd_bad s (by omega))
  go_enter Tryd.func117,Tryd.ntmps117
  go_wp2_with fail
  refine (each_any _ _ hs).mono ?_
  rintro e w1 ⟨v,rfl,hown,hb⟩
  clear hown
  obtain ⟨bad,hbd⟩:∃ bad:Nat,(each s).2=bad:=⟨(each s).2.toNat,by omega⟩
  have HB:=Lib.hid hbd
  rw [hbd] at h0 h1 ⊢
  have hle:bad≤s.size:=by omega
  clear hbd
  go_wp2
  go_ret
  exact ⟨str_all (by rw [HA.out,HB.out];rfl),hb⟩
set_option maxRecDepth 1000000 in
set_option maxHeartbeats 4000000 in
theorem tokens_any (s:ByteArray) (w:World) (hT:LTabs w) (hs:s.size≤1000000) :
  Calls Tryd.prog 91 #[.string s] w (TokensPost s w):=by
 by_cases h2000:s.size≤2000
 ·obtain ⟨i0,hi,hz0,hz1,hz2⟩:=info_parts Tryd.infoTok
  have HX:=Lib.hid (lexT_snd s)
  have HE:=Lib.hid (snd_each s)
  have HZ:=Lib.hid (snd_size s)
  go_enter Tryd.func91,Tryd.ntmps91
  go_wp2_with fail
  refine (sound_any _ _ hs).mono ?_
  rintro e w1 ⟨rfl,hb1⟩
  have hsz1:=hb1.size
  obtain ⟨t,ht⟩:∃ t,t=sndP s:=⟨_,rfl⟩
  have HTS:=Lib.hid ht
  rw [← ht]
  have hts:t.size≤s.size:=by rw [ht,snd_size];exact (snd_end s).2
  have HA:=Lib.hid (lexAt_start t (by rw [ht,snd_each]))
  clear ht
  go_wp2
  go_loopw [2,6] (fun v bv wr=>∃ (pos b:Nat) (acc:List Tok) (bh:Int),bv=.int .i64 bh∧0≤bh∧bh≤t.size∧wr.heap[w1.heap.size]? = some (.stringIter t pos)∧wr.ownsRow (w1.heap.size+1) 73 4 v acc.length (flatT acc)∧Below w1.heap.size w1 wr∧Hid (lexAt t b pos acc bh)∧t.size≤pos+b∧acc.length≤pos∧pos≤t.size) (fun _ _ wr=>t.size - wr.iterPos w1.heap.size)
  case atStart=>exact ⟨0,t.size,[],0,rfl,by omega,by omega,World.iter_heap w1 t 0,World.ownsRow_nil _ _ _ _,(Below.refl _ _).alloc (Nat.le_refl _) _,HA.out,by omega,by simp,by omega⟩
  case round =>
   obtain ⟨pos,b,acc,bh,rfl,hbh0,hbh1,hit,hown,hbw,HS,hb,hlen,hpt⟩:=hrel
   have hpos0:=iterPos_of hit
   clear HA
   by_cases hp:pos < t.size
   ·have hnx:∀ ty,(Instr.next (.pointer (some ⟨w1.heap.size,0,none⟩)) true ty).run Tryd.prog wr=_:=fun ty=>Lib.run_next_any_at wr w1.heap.size t pos ty hit hp
    have hwd:=width_pos t pos hp
    have hwl:=width_le t pos hp
    obtain ⟨b,rfl⟩:∃ f',b=f'+1:=⟨b - 1,by omega⟩
    have hit2:=Lib.iterAt_heap wr w1.heap.size t pos (pos+(Utf8.decode t pos).2) hit
    have hbw2:=Lib.below_iterAt hbw (k:=w1.heap.size) (Nat.le_refl _) t (pos+(Utf8.decode t pos).2)
    have hown2:=ownsRow_iterAt hown (k:=w1.heap.size) (by omega) t (pos+(Utf8.decode t pos).2)
    obtain ⟨W1,hW1⟩:∃ W1,W1=wr.iterAt w1.heap.size t (pos+(Utf8.decode t pos).2):=⟨_,rfl⟩
    rw [← hW1] at hnx hit2 hbw2 hown2
    have hBlt:=lt_of_block hit2
    have hTr:=hT.below (hb1.trans (hbw2.mono hsz1))
    clear hW1 hit hbw hown
    by_cases hlt:(pos:Int) < bh
    ·have HN:=Lib.hid (lexAt_pass HS.out hp hlt)
     clear HS
     go_wp2
     go_roundw
     case rel=>exact ⟨_,b,acc,bh,rfl,hbh0,hbh1,hit2,hown2,hbw2,HN.out,by omega,by omega,by omega⟩
     case measure=>rw [iterPos_of hit2,hpos0];omega
    ·have hrs:=rest_step HS.out hp hb
     obtain ⟨hu2,⟨M,hL⟩,hstep,hpos⟩:=hrs
     obtain ⟨u,hu⟩:∃ u,u=t.extract pos t.size:=⟨_,rfl⟩
     have husz:u.size=t.size - pos:=by rw [hu];exact Lib.tail_size t pos
     have HU:=Lib.hid hu
     rw [← hu] at hu2 hL hstep hpos
     clear hu
     have HL:=Lib.hid hL
     have HU2:=Lib.hid hu2
     have HSt:=Lib.hid hstep
     have HPo:=Lib.hid hpos
     clear hL hu2 hstep hpos
     go_wp2_with fail
     rw [← HU.out]
     refine (first_any u (((Utf8.decode t pos).1:Int),0) M _ hTr (by omega) HL.out HU2.out).mono ?_
     rintro e w2 ⟨hout,hb2⟩
     unfold FirstOut at hout
     have hit3:w2.heap[w1.heap.size]? = some (.stringIter t (pos+(Utf8.decode t pos).2)):=by rw [hb2.block _ hBlt];exact hit2
     have hown3:=own_below hown2 hb2
     have hbw3:Below w1.heap.size w1 w2:=hbw2.trans (hb2.mono hbw2.size)
     have hsz2:=hb2.size
     clear hit2 hown2 hbw2
     rcases hst:stepL u u.size (each u).1 with _ | ⟨x,k⟩
     ·rw [hst] at hout
      obtain ⟨a,b',c,d,n,rfl⟩:=hout
      have hno:stepL t t.size (eachF t (b+1) pos).1=none:=by rw [HSt.out,hst];rfl
      have HO:=Lib.hid (toks_fault h2000 (show (lexT s).2=some (pos:Int) by rw [HX.out,← HTS.out];exact lexAt_none HS.out hp (by omega) hno))
      clear HS hst hno
      go_wp2
      go_ret3
      exact TokensPost.err HO.out (hb1.trans ((hbw3.mono hsz1).trans ((Below.refl _ _).alloc (by omega) _)))
     ·rw [hst] at hout
      simp only [] at hout
      have hy:stepL t t.size (eachF t (b+1) pos).1=some (x.map (Tok.sh pos),k):=by rw [HSt.out,hst];rfl
      have hge:=posOf_ge t (b+1) pos (by omega) k
      have hen:endOf t (eachF t (b+1) pos).2=t.size:=by unfold endOf;exact if_pos HS.out.1
      rw [hen,HPo.out k] at hge
      have HN:=Lib.hid (lexAt_some HS.out hp (by omega) hy)
      have hpk:=HPo.out k
      obtain ⟨n,hn⟩:∃ n,n=posOf (u.size:Int) ((each u).1.drop k):=⟨_,rfl⟩
      rw [← hn] at hout hge hpk
      have HPK:=Lib.hid hpk
      clear hen HPo hy hn hpk HSt HS
      rcases x with _ | ⟨kd,tx,nn,po⟩
      ·obtain rfl:=hout
       clear hst
       unfold tokV
       go_wp2
       go_roundw
       case rel=>exact ⟨_,b,acc,_,rfl,by omega,by omega,(by rw [Below.heap_alloc _ _ _ (by omega)];exact hit3),hown3.alloc _,hbw3.alloc hbw3.size _,(by have:=HN.out;rw [HPK.out] at this;simp only [Option.map_none,Option.toList,List.append_nil] at this;exact this),by omega,by omega,by omega⟩
       case measure=>rw [iterPos_of (show (w2.alloc _).heap[w1.heap.size]? = _ by rw [Below.heap_alloc _ _ _ (by omega)];exact hit3),hpos0];omega
      ·obtain rfl:=hout
       rw [HL.out] at hst
       obtain ⟨hpo,hk1,hk3⟩:=stepL_pos hst
       have HPO:=Lib.hid hpo
       have hk0:(kd == 0)=false:=by rw [beq_eq_false_iff_ne];simp only [] at hk1;omega
       have hk0':(kd != 0)=true:=by rw [bne_iff_ne];simp only [] at hk1;omega
       clear hst hpo hk1 hk3
       unfold tokV
       go_wp2_with (at_builtin;refine wpList_append_own _ rfl _ _ 61 rfl (w1.heap.size+1) 73 i0 (.agg #[.int .i64 0,.string ⟨#[]⟩,.int .i64 0,.int .i64 0]) 4 40 Tryd.underlying61 hi hz0 hz1 hz2 rfl (by decide) _ _ _ rfl ((hown3.alloc _).alloc _) ⟨w2.heap.size+1,0,none⟩ 1 1 [.int .i64 kd,.string tx,.int .i64 nn,.int .i64 pos] rfl rfl (cell_four_new _ _ _ _ _ _ _ (by simp)) (fun x hx=>by simp at hx;rcases hx with rfl | rfl | rfl | rfl <;> rfl) (by unfold maxLen;omega) (by omega) (by simp;omega) ?_;intro v' w3 hown' hgrow3 hnil3)
       have hit4:w3.heap[w1.heap.size]? = some (.stringIter t (pos+(Utf8.decode t pos).2)):=by
        rw [hgrow3.block w1.heap.size (by simp;omega) (fun h=>by have:=(hown3.lt _ h.symm).1;omega),Below.heap_alloc _ _ _ (by simp;omega),Below.heap_alloc _ _ _ (by omega)];exact hit3
       have hbw4:Below w1.heap.size w1 w3:=Below.grown ((hbw3.alloc (by omega) _).alloc (by simp;omega) _) hgrow3 (by simp;omega) (fun j hj=>by have:=(hown3.lt _ hj).1;omega)
       go_roundw
       case rel=>exact ⟨_,b,acc ++ [⟨kd,tx,nn,pos⟩],_,rfl,by omega,by omega,hit4,(by rw [flatT_snoc];simpa using hown'),hbw4,(by have:=HN.out;rw [HPK.out] at this;simp only [Option.map_some,Option.toList,Tok.sh] at this;rw [show po+(pos:Int)=pos by have h0:po=0:=HPO.out;omega] at this;exact this),by omega,by simp;omega,by omega⟩
       case measure=>rw [iterPos_of hit4,hpos0];omega
   ·have hnx:∀ ty,(Instr.next (.pointer (some ⟨w1.heap.size,0,none⟩)) true ty).run Tryd.prog wr=_:=fun ty=>Lib.run_next_end_at wr w1.heap.size t pos ty hit hp
    have hend:=lexAt_end HS.out hp
    have hno:(lexT s).2=none:=by rw [HX.out,← HTS.out];exact hend.2
    have hts2:(t.size:Int)=endOf s (each s).2:=by rw [HTS.out,snd_size];exact (snd_end s).1
    have hbsz:=hbw.size
    rcases bad_range s with hbad | ⟨hbad0,hbad1⟩
    ·have heq:t.size=s.size:=by unfold endOf at hts2;rw [if_pos hbad] at hts2;omega
     have HO:=Lib.hid (toks_ok h2000 hno hbad (show acc=(lexT s).1 by rw [HX.out,← HTS.out];exact hend.1))
     have hge:¬ (t.size:Int) < (s.size:Int):=by omega
     clear hend hno hts2 hbad HS heq
     go_wp2_with (at_builtin;refine wpList_append_own _ rfl _ _ 61 rfl (w1.heap.size+1) 73 i0 (.agg #[.int .i64 0,.string ⟨#[]⟩,.int .i64 0,.int .i64 0]) 4 40 Tryd.underlying61 hi hz0 hz1 hz2 rfl (by decide) _ _ _ rfl (hown.alloc _) ⟨wr.heap.size,0,none⟩ 1 1 [.int .i64 4,.string ⟨#[]⟩,.int .i64 0,.int .i64 s.size] rfl rfl (cell_four_new _ _ _ _ _ _ _ (by simp)) (fun x hx=>by simp at hx;rcases hx with rfl | rfl | rfl | rfl <;> rfl) (by unfold maxLen;omega) (by omega) (by simp;omega) ?_;intro v' w3 hown' hgrow3 hnil3)
     have hbw4:Below w1.heap.size w1 w3:=Below.grown (hbw.alloc (by omega) _) hgrow3 (by simp;omega) (fun j hj=>by have:=(hown.lt _ hj).1;omega)
     go_ret3
     refine ⟨v',by rw [HO.out];rfl,?_,hb1.trans (hbw4.mono hsz1)⟩
     rw [HO.out]
     refine ownsRow_base ?_ (show w.heap.size≤w1.heap.size+1 by omega)
     rw [flatT_snoc]
     simpa using hown'
    ·have hbb:¬ (each s).2 = -1:=by omega
     have HO:=Lib.hid (toks_bad h2000 hno hbb)
     have heq:(t.size:Int)=(each s).2:=by unfold endOf at hts2;rw [if_neg hbb] at hts2;exact hts2
     have hlt:(t.size:Int) < (s.size:Int):=by omega
     have HEQ:=Lib.hid heq
     clear hend hno hts2 hbb HS hbad0 hbad1 heq
     go_wp2
     go_ret3
     exact TokensPost.err (by rw [HO.out,HEQ.out]) (hb1.trans (hbw.mono hsz1))
 ·have HL:=Lib.hid (toks_long (s:=s) (by omega))
  go_enter Tryd.func91,Tryd.ntmps91
  go_wp2
  go_ret3
  exact TokensPost.err HL.out (Below.refl _ _)
theorem tokens_is (s:ByteArray) (l:List Tok) (at' err:Int) (w:World) (hT:LTabs w) (hs:s.size≤1000000) (h:toks s=(l,at',err)) :
  Calls Tryd.prog 91 #[.string s] w fun e w'=>∃ v,e=.returned (.tuple #[v,.int .i64 at',.int .i64 err])∧w'.ownsRow w.heap.size 73 4 v l.length (flatT l)∧Below w.heap.size w w':=by
 refine (tokens_any s w hT hs).mono fun e w' hp=>?_
 obtain ⟨v,h1,h2,h3⟩:=hp
 rw [h] at h1 h2
 exact ⟨v,h1,h2,h3⟩
theorem shape_cells {w:World} {B:Nat} {nm:Bool} {ln mn lk mk:Int} {f:Value} (h:w.heap[B]? = some (.cells #[.bool nm,.int .i64 ln,.int .i64 mn,.int .i64 lk,.int .i64 mk,f] 150)) :
  w.cell? ⟨B,0,none⟩=some (.bool nm)∧w.cell? ⟨B,1,none⟩=some (.int .i64 ln)∧w.cell? ⟨B,2,none⟩=some (.int .i64 mn)∧w.cell? ⟨B,3,none⟩=some (.int .i64 lk)∧w.cell? ⟨B,4,none⟩=some (.int .i64 mk)∧w.cell? ⟨B,5,none⟩=some f:=by
 refine ⟨?_,?_,?_,?_,?_,?_⟩ <;> (rw [cell_of_row _ _ _ _ _ _ h];rfl)
end Go.Proofs.YtmlmjopfbohglaaDoor
