/- Parts of the proof: LexB LexSign. -/
import Derived.Test.YtmlmjopfbohglaaDoorWd01
namespace Go.Proofs.YtmlmjopfbohglaaDoor
open Go.RowKit
set_option maxHeartbeats 1000000 in
theorem class_any (r:Int) (w:World) :
  Calls Tryd.prog 138 #[.int .i32 r] w fun e w'=>e=.returned (.int .i64 (cls r))∧w=w':=by
 go_enter Tryd.func138,Tryd.ntmps138
 go_wp2
 all_goals go_ret
 all_goals (refine ⟨ret_int ?_,rfl⟩;go_light)
 all_goals (try simp only [beq_iff_eq,beq_eq_false_iff_ne,ne_eq] at *)
 all_goals first | exact cls1 (by unfold isLet;omega) | exact cls2 (by omega) | exact cls3 (by omega) | exact cls4 (by unfold isSig;omega) | exact cls0 (by unfold isLet;omega) (by omega) (by omega) (by unfold isSig;omega)
set_option maxHeartbeats 400000 in
theorem isSpace_any (r:Int) (w:World):Calls Tryd.prog 140 #[.int .i32 r] w fun e w'=>e=.returned (.bool (spB r))∧w=w':=by
 go_enter Tryd.func140,Tryd.ntmps140
 go_wp2_with (go_at_call 138;refine (class_any _ _).mono ?_;rintro e w' ⟨rfl,rfl⟩)
 go_ret
 exact ⟨rfl,rfl⟩
set_option maxHeartbeats 400000 in
theorem isDigit_any (r:Int) (w:World):Calls Tryd.prog 143 #[.int .i32 r] w fun e w'=>e=.returned (.bool (dgB r))∧w=w':=by
 go_enter Tryd.func143,Tryd.ntmps143
 go_wp2_with (go_at_call 138;refine (class_any _ _).mono ?_;rintro e w' ⟨rfl,rfl⟩)
 go_ret
 exact ⟨rfl,rfl⟩
set_option maxHeartbeats 400000 in
theorem isLinePart_any (r:Int) (w:World):Calls Tryd.prog 145 #[.int .i32 r] w fun e w'=>e=.returned (.bool (lnB r))∧w=w':=by
 go_enter Tryd.func145,Tryd.ntmps145
 go_wp2
 go_ret
 exact ⟨rfl,rfl⟩
set_option maxHeartbeats 400000 in
theorem isNamePart_any (r:Int) (w:World):Calls Tryd.prog 141 #[.int .i32 r] w fun e w'=>e=.returned (.bool (nmB r))∧w=w':=by
 by_cases h1:(cls r == 1)=true
 ·have hn:=Lib.hid (show nmB r=true by unfold nmB;rw [h1];rfl)
  go_enter Tryd.func141,Tryd.ntmps141
  go_wp2_with (go_at_call 138;refine (class_any _ _).mono ?_;rintro e w' ⟨rfl,rfl⟩)
  go_ret
  exact ⟨ret_bool hn.out.symm,rfl⟩
 ·simp only [Bool.not_eq_true] at h1
  by_cases h2:dgB r=true
  ·have hn:=Lib.hid (show nmB r=true by unfold nmB;unfold dgB at h2;rw [h2];simp)
   go_enter Tryd.func141,Tryd.ntmps141
   go_wp2_with (first | (go_at_call 138;refine (class_any _ _).mono ?_;rintro e w' ⟨rfl,rfl⟩) | (go_at_call 143;refine (isDigit_any _ _).mono ?_;rintro e w' ⟨rfl,rfl⟩))
   go_ret
   exact ⟨ret_bool hn.out.symm,rfl⟩
  ·simp only [Bool.not_eq_true] at h2
   have hn:=Lib.hid (show nmB r=(r == 39) by unfold nmB;unfold dgB at h2;rw [h1,h2];simp)
   go_enter Tryd.func141,Tryd.ntmps141
   go_wp2_with (first | (go_at_call 138;refine (class_any _ _).mono ?_;rintro e w' ⟨rfl,rfl⟩) | (go_at_call 143;refine (isDigit_any _ _).mono ?_;rintro e w' ⟨rfl,rfl⟩))
   go_ret
   exact ⟨ret_bool hn.out.symm,rfl⟩
set_option maxHeartbeats 400000 in
theorem written_any (s:ByteArray) (w:World) (hs:s.size≤1000000) :
  Calls Tryd.prog 166 #[.string s] w fun e w'=>e=.returned (.bool (fffd s))∧w=w':=by
 go_enter Tryd.func166,Tryd.ntmps166
 by_cases h3:3≤s.size
 ·go_wp2
  go_ret
  exact ⟨rfl,rfl⟩
 ·have HF:=Lib.hid (fffd_short s (by omega))
  go_wp2
  go_ret
  rw [HF.out]
  exact ⟨rfl,rfl⟩
set_option maxRecDepth 1000000 in
set_option maxHeartbeats 2000000 in
theorem each_any (s:ByteArray) (w:World) (hs:s.size≤1000000) :
  Calls Tryd.prog 137 #[.string s] w (EachPost s w):=by
 obtain ⟨i0,hi,hz0,hz1,hz2⟩:=info_parts Tryd.infoRune
 go_enter Tryd.func137,Tryd.ntmps137
 go_wp2
 go_loopw [2] (fun v wr=>∃ (pos b:Nat) (acc:List (Int × Int)),wr.heap[w.heap.size]? = some (.stringIter s pos)∧wr.ownsRow (w.heap.size+1) 128 2 v acc.length (flat acc)∧Below w.heap.size w wr∧Hid (soFar s acc b pos)∧s.size≤pos+b∧acc.length≤pos) (fun _ wr=>s.size - wr.iterPos w.heap.size)
 case atStart=>exact ⟨0,s.size,[],World.iter_heap w s 0,World.ownsRow_nil _ _ _ _,(Below.refl _ _).alloc (Nat.le_refl _) _,soFar_start s,by omega,by simp⟩
 case round =>
  obtain ⟨pos,b,acc,hit,hown,hbw,HS,hb,hlen⟩:=hrel
  have hpos0:=iterPos_of hit
  by_cases hp:pos < s.size
  ·have hnx:∀ ty,(Instr.next (.pointer (some ⟨w.heap.size,0,none⟩)) true ty).run Tryd.prog wr=_:=fun ty=>Lib.run_next_any_at wr w.heap.size s pos ty hit hp
   have hwd:=width_pos s pos hp
   obtain ⟨b,rfl⟩:∃ f',b=f'+1:=⟨b - 1,by omega⟩
   have hit2:=Lib.iterAt_heap wr w.heap.size s pos (pos+(Utf8.decode s pos).2) hit
   have hbw2:=Lib.below_iterAt hbw (k:=w.heap.size) (Nat.le_refl _) s (pos+(Utf8.decode s pos).2)
   have hown2:=ownsRow_iterAt hown (k:=w.heap.size) (by omega) s (pos+(Utf8.decode s pos).2)
   obtain ⟨W1,hW1⟩:∃ W1,W1=wr.iterAt w.heap.size s (pos+(Utf8.decode s pos).2):=⟨_,rfl⟩
   rw [← hW1] at hnx hit2 hbw2 hown2
   have hBlt:=lt_of_block hit2
   clear hW1 hit hown hbw
   by_cases hbad:badAt s pos
   ·have hr1:(((Utf8.decode s pos).1:Int) == 65533)=true:=by rw [beq_iff_eq];have:=hbad.1;omega
    have hf:fffd (s.extract pos s.size)=false:=fffd_bad s pos hbad
    have hX:=soFar_bad s acc b pos hp hbad HS.out
    have H1:=Lib.hid hX.1
    have H2:=Lib.hid hX.2
    clear hX HS hbad
    go_wp2_with (go_at_call 166;refine (written_any _ _ (by simp;omega)).mono ?_;rintro e w' ⟨rfl,rfl⟩)
    go_ret2
    exact ⟨u2,ret_v H2.out,by rw [← H1.out];exact ownsRow_base hown2 (by omega),hbw2⟩
   ·have R:=soFar_one s acc b pos hp hbad HS.out
    have HS':=Lib.hid R
    clear R
    by_cases hr:(Utf8.decode s pos).1=65533
    ·have hr1:(((Utf8.decode s pos).1:Int) == 65533)=true:=by rw [beq_iff_eq];omega
     have hf:fffd (s.extract pos s.size)=true:=fffd_good s pos hr hbad
     clear hr hbad
     go_wp2_with (first | (go_at_call 166;refine (written_any _ _ (by simp;omega)).mono ?_;rintro e w' ⟨rfl,rfl⟩) | (at_builtin;refine wpList_append_own _ rfl _ _ 104 rfl (w.heap.size+1) 128 i0 (.agg #[.int .i32 0,.int .i64 0]) 2 16 Tryd.underlying104 hi hz0 hz1 hz2 rfl (by decide) _ _ _ rfl (hown2.alloc _) ⟨W1.heap.size,0,none⟩ 1 1 [.int .i32 ((Utf8.decode s pos).1:Int),.int .i64 (pos:Int)] rfl rfl (cell_two_new _ _ _ _) (fun x hx=>by simp at hx;rcases hx with rfl | rfl <;> rfl) (by unfold maxLen;omega) (by omega) (by simp;omega) ?_;intro v' w3 hown' hgrow3 hnil3))
     have hit3:w3.heap[w.heap.size]? = some (.stringIter s (pos+(Utf8.decode s pos).2)):=by
      rw [hgrow3.block w.heap.size (by simp;omega) (fun h=>by have:=(hown2.lt _ h.symm).1;omega),Below.heap_alloc _ _ _ hBlt];exact hit2
     have hbw3:Below w.heap.size w w3:=Below.grown (hbw2.alloc (by omega) _) hgrow3 (by simp;omega) (fun j hj=>by have:=(hown2.lt _ hj).1;omega)
     rw [← flat_snoc acc ((((Utf8.decode s pos).1:Int),(pos:Int)))] at hown'
     go_wp2
     go_roundw
     case rel=>exact ⟨_,b,acc ++ [((((Utf8.decode s pos).1:Int),(pos:Int)))],hit3,by simpa using hown',hbw3,HS'.out,by omega,by simp;omega⟩
     case measure=>rw [iterPos_of hit3,hpos0];omega
    ·have hrb:(((Utf8.decode s pos).1:Int) == 65533)=false:=by rw [beq_eq_false_iff_ne];omega
     clear hr hbad
     go_wp2_with (at_builtin;refine wpList_append_own _ rfl _ _ 104 rfl (w.heap.size+1) 128 i0 (.agg #[.int .i32 0,.int .i64 0]) 2 16 Tryd.underlying104 hi hz0 hz1 hz2 rfl (by decide) _ _ _ rfl (hown2.alloc _) ⟨W1.heap.size,0,none⟩ 1 1 [.int .i32 ((Utf8.decode s pos).1:Int),.int .i64 (pos:Int)] rfl rfl (cell_two_new _ _ _ _) (fun x hx=>by simp at hx;rcases hx with rfl | rfl <;> rfl) (by unfold maxLen;omega) (by omega) (by simp;omega) ?_;intro v' w3 hown' hgrow3 hnil3)
     have hit3:w3.heap[w.heap.size]? = some (.stringIter s (pos+(Utf8.decode s pos).2)):=by
      rw [hgrow3.block w.heap.size (by simp;omega) (fun h=>by have:=(hown2.lt _ h.symm).1;omega),Below.heap_alloc _ _ _ hBlt];exact hit2
     have hbw3:Below w.heap.size w w3:=Below.grown (hbw2.alloc (by omega) _) hgrow3 (by simp;omega) (fun j hj=>by have:=(hown2.lt _ hj).1;omega)
     rw [← flat_snoc acc ((((Utf8.decode s pos).1:Int),(pos:Int)))] at hown'
     go_wp2
     go_roundw
     case rel=>exact ⟨_,b,acc ++ [((((Utf8.decode s pos).1:Int),(pos:Int)))],hit3,by simpa using hown',hbw3,HS'.out,by omega,by simp;omega⟩
     case measure=>rw [iterPos_of hit3,hpos0];omega
  ·have hnx:∀ ty,(Instr.next (.pointer (some ⟨w.heap.size,0,none⟩)) true ty).run Tryd.prog wr=_:=fun ty=>Lib.run_next_end_at wr w.heap.size s pos ty hit hp
   have hX:=soFar_end s acc b pos hp HS.out
   have H1:=Lib.hid hX.1
   have H2:=Lib.hid hX.2
   clear hX HS
   go_wp2
   go_ret2
   exact ⟨u2,ret_v H2.out,by rw [← H1.out];exact ownsRow_base hown (by omega),hbw⟩
theorem wrds_fields:Lib.fields ({ data:=#[116,114,117,101,32,102,97,108,115,101,32,101,120,48,32,101,120,49,32,101,120,50,32,97,108,108,48,32,97,108,108,49,32,97,108,108,50,32,118,97,114,48,32,118,97,114,49,32,118,97,114,50,32,112,114,101,100,32,105,110,32,110,111,116,105,110,32,115,117,98,32,117,110,105,111,110,32,105,110,116,101,114] } : ByteArray).data.toList=wrds.map fun x=>x.data.toList:=by decide +kernel
theorem tab_below {w w' : World} (h : Lib.TabIs Tryd.prog w "strings.asciiSpace" .u8 Lib.asciiSpaceTab) (hb : Below w.heap.size w w') : Lib.TabIs Tryd.prog w' "strings.asciiSpace" .u8 Lib.asciiSpaceTab := var_below h hb
structure LTabs (w:World):Prop where
 sp : Lib.TabIs Tryd.prog w "strings.asciiSpace" .u8 Lib.asciiSpaceTab
 sg : w.var? Tryd.prog "sibyl/lex.signs" = some (sigs.map Value.string).toArray
theorem LTabs.below {w w':World} (h:LTabs w) (hb:Below w.heap.size w w'):LTabs w':=⟨tab_below h.sp hb,var_below h.sg hb⟩
theorem LTabs.at {w:World} (h:LTabs w):∃ t f,w.heap[3]? = some (.cells (sigs.map Value.string).toArray t f):=by
 have hg : Tryd.prog.globalNamed "sibyl/lex.signs" = some 3 := by kernel_rfl
 have:=h.sg
 unfold World.var? at this
 rw [hg] at this
 simp only [Option.bind_some] at this
 split at this
 ·rename_i cs t f he
  obtain rfl:=Option.some.inj this
  exact ⟨t,f,he⟩
 ·cases this
set_option maxRecDepth 100000 in
set_option maxHeartbeats 1000000 in
theorem words_any (w : World) (hT : Lib.TabIs Tryd.prog w "strings.asciiSpace" .u8 Lib.asciiSpaceTab) :
  Calls Tryd.prog 167 #[] w fun e w'=>e=.returned (wrdsV w.heap.size)∧w'=w.alloc (.cells wrdsCells 9):=by
 have hf:=wrds_fields
 have c:=Tryd.strings_Fields ⟨#[116,114,117,101,32,102,97,108,115,101,32,101,120,48,32,101,120,49,32,101,120,50,32,97,108,108,48,32,97,108,108,49,32,97,108,108,50,32,118,97,114,48,32,118,97,114,49,32,118,97,114,50,32,112,114,101,100,32,105,110,32,110,111,116,105,110,32,115,117,98,32,117,110,105,111,110,32,105,110,116,101,114]⟩ w (by decide) (by
  intro j b hb
  have:∀ b ∈ (#[116,114,117,101,32,102,97,108,115,101,32,101,120,48,32,101,120,49,32,101,120,50,32,97,108,108,48,32,97,108,108,49,32,97,108,108,50,32,118,97,114,48,32,118,97,114,49,32,118,97,114,50,32,112,114,101,100,32,105,110,32,110,111,116,105,110,32,115,117,98,32,117,110,105,111,110,32,105,110,116,101,114]:Array UInt8).toList,b.toNat < 128:=by decide +kernel
  exact this b (List.mem_of_getElem? hb)) hT
 rw [hf] at c
 have e1:((wrds.map fun x=>x.data.toList).map fun l=>Value.string ⟨l.toArray⟩).toArray=wrdsCells:=by
  simp [wrdsCells,Function.comp_def]
 have e2:(wrds.map fun x=>x.data.toList).length=17:=by rfl
 rw [e1,e2] at c
 clear hf e1 e2
 go_enter Tryd.func167,Tryd.ntmps167
 go_wp2_with fail
 refine c.mono ?_
 rintro e w1 ⟨rfl,rfl⟩
 go_wp2
 go_ret
 exact ⟨rfl,rfl⟩
theorem count_any (s:ByteArray) (n:Nat) (w:World) (hs:s.size≤1000000) (h:(each s).2 = -1) (hn:(each s).1.length=n) :
  Calls Tryd.prog 42 #[.string s] w fun e w'=>e=.returned (.int .i64 n)∧Below w.heap.size w w':=by
 refine (Tryd.utf8_RuneCountInString s w (by omega)).mono ?_
 rintro e w' ⟨rfl,pos,rfl⟩
 refine ⟨?_,(Below.refl _ _).alloc (Nat.le_refl _) _⟩
 rw [show Lib.runeCount s=n by rw [← hn];exact runeCount_each s s.size 0 (by omega) h]
set_option maxHeartbeats 400000 in
theorem clone_any (s:ByteArray) (w:World) (hs:s.size≤1000000) :
  Calls Tryd.prog 168 #[.string s] w fun e w'=>e=.returned (.string s)∧Below w.heap.size w w':=by
 go_enter Tryd.func168,Tryd.ntmps168
 go_wp2_with (go_at_call 181;refine (Tryd.stringslite_Clone _ _ (by omega)).mono ?_;rintro e w' ⟨rfl,hb⟩)
 go_ret
 exact ⟨rfl,by assumption⟩
theorem words_has (t:ByteArray):Lib.containsS wrds t=isWrd t:=by
 rw [Bool.eq_iff_iff,Lib.containsS_iff]
 unfold isWrd
 rw [List.any_eq_true]
 constructor
 ·intro h;exact ⟨t,h,by simp⟩
 ·rintro ⟨x,hx,he⟩
  rw [beq_iff_eq] at he
  obtain rfl:x=t:=ByteArray.ext (Array.ext' he)
  exact hx
theorem has_any (t:ByteArray) (b:Nat) (w:World) (hc:∀ j,j < 17→w.cell? ⟨b,j,none⟩=some (.string (wrds.getD j ByteArray.empty))) :
  Calls Tryd.prog 158 #[wrdsV b,.string t] w fun e w'=>e=.returned (.bool (isWrd t))∧w=w':=by
 have c:=Tryd.slices_Contains_string b 0 17 17 wrds t w (by decide) (by decide) (fun j hj=>by rw [Nat.zero_add];exact hc j hj)
 rw [show wrds.take 17=wrds from rfl,words_has] at c
 refine c.mono ?_
 rintro e w' ⟨rfl,rfl⟩
 exact ⟨rfl,rfl⟩
set_option maxHeartbeats 1000000 in
theorem name_big (s:ByteArray) (n:Nat) (w:World) (hs:s.size≤1000000) (h:(each s).2 = -1) (hn:(each s).1.length=n) (h12:12 < n) :
  Calls Tryd.prog 142 #[.string s] w fun e w'=>e=.returned (.tuple #[.agg #[.int .i64 0,.string ⟨#[]⟩,.int .i64 0,.int .i64 0],.bool false])∧Below w.heap.size w w':=by
 have HE:=Lib.hid h
 have HN:=Lib.hid hn
 clear h hn
 go_enter Tryd.func142,Tryd.ntmps142
 go_wp2_with fail
 refine (count_any _ n _ hs HE.out HN.out).mono ?_
 rintro e w1 ⟨rfl,hb⟩
 obtain ⟨hc,hf⟩:=bcell hb
 have hz:w.heap.size < w1.heap.size:=by have:=hb.size;simp at this;omega
 have h12':(12:Int) < (n:Int):=by omega
 go_wp2
 exact bodyPost_ret (v:=.tuple #[.agg #[.int .i64 0,.string ⟨#[]⟩,.int .i64 0,.int .i64 0],.bool false]) (by simp [results,Tryd.results142,go_sem,hc]) rfl
  ⟨rfl,((((((Below.refl _ _).alloc (Nat.le_refl _) _).trans (hb.mono (by simp))).setCell (by simp) _).setCell (by simp) _).setCell (by simp) _).setCell (by simp) _⟩
set_option maxHeartbeats 2000000 in
theorem name_ok (s:ByteArray) (n:Nat) (w:World) (hT:LTabs w) (hs:s.size≤1000000) (h:(each s).2 = -1) (hn:(each s).1.length=n) (h12:n≤12) :
  Calls Tryd.prog 142 #[.string s] w fun e w'=>e=.returned (.tuple #[.agg #[.int .i64 (if isWrd s then 3 else 1),.string s,.int .i64 0,.int .i64 0],.bool true])∧Below w.heap.size w w':=by
 have HE:=Lib.hid h
 have HN:=Lib.hid hn
 clear h hn
 have hq:(isWrd s=true∧(if isWrd s then (3:Int) else 1)=3)∨(isWrd s=false∧(if isWrd s then (3:Int) else 1)=1):=by cases isWrd s <;> simp
 rcases hq with ⟨hq,hv⟩ | ⟨hq,hv⟩
 all_goals
  rw [hv]
  clear hv
  go_enter Tryd.func142,Tryd.ntmps142
  go_wp2_with fail
  refine (count_any _ n _ hs HE.out HN.out).mono ?_
  rintro e w1 ⟨rfl,hb⟩
  have hb0:Below w.heap.size w w1:=((Below.refl _ _).alloc (Nat.le_refl _) _).trans (hb.mono (by simp))
  obtain ⟨hc,hf⟩:=bcell hb
  have hz:w.heap.size < w1.heap.size:=by have:=hb.size;simp at this;omega
  have h12':(n:Int)≤(12:Int):=by omega
  have hT1:=hT.below hb0
  go_wp2_with fail
  refine (words_any _ hT1.sp).mono ?_
  rintro e w2 ⟨rfl,rfl⟩
  go_wp2_with fail
  refine (has_any _ _ _ (wrds_cells w1)).mono ?_
  rintro e w' ⟨rfl,rfl⟩
  go_wp2_with fail
  refine (clone_any _ _ hs).mono ?_
  rintro e w3 ⟨rfl,hb3⟩
  obtain ⟨hc3,hf3⟩:=bcell hb3
  have hz3:w1.heap.size+1≤w3.heap.size:=by have:=hb3.size;simp at this;omega
  have hz4:w.heap.size < w3.heap.size:=by omega
  have hz5:w.heap.size < w1.heap.size+1:=by omega
  go_wp2
  exact bodyPost_ret (v:=.tuple #[.agg #[_,.string s,.int .i64 0,.int .i64 0],.bool true]) (by simp [results,Tryd.results142,go_sem,hc,hz,hc3,hz5]) rfl
   ⟨rfl,(((((hb0.alloc (by omega) _).trans (hb3.mono (by simp;omega))).setCell (by simp) _).setCell (by simp) _).setCell (by simp) _).setCell (by simp) _⟩
set_option maxHeartbeats 2000000 in
theorem number_any (s:ByteArray) (w:World) (hs:s.size≤1000000) (h1:1≤s.size) (h:(each s).2 = -1) (hd:∀ q ∈ (each s).1,dgB q.1=true) :
  Calls Tryd.prog 144 #[.string s] w (NumPost s w):=by
 have HA:=Lib.hid (numAt_start s h hd)
 clear h hd
 by_cases hn:s.get! 0=48∧1 < s.size
 ·have HO:=Lib.hid (numOut_no hn)
  have h2:1 < s.size:=hn.2
  have hg:s[0]'h1=48:=by
   have:s.data.toList.getD 0 0=48:=by rw [Lib.getD_get!'];exact hn.1
   rw [List.getD_eq_getElem?_getD,List.getElem?_eq_getElem (by rw [← Lib.size_eq];omega)] at this
   exact this
  have hg1:((s[0]'h1).toNat:Int)=48:=by rw [hg];rfl
  clear hn hg
  go_enter Tryd.func144,Tryd.ntmps144
  go_wp2
  exact bodyPost_ret (by simp [results,Tryd.results144,go_sem]) rfl
   (NumPost.mk HO.out ((Below.refl _ _).alloc (Nat.le_refl _) _))
 ·have HNN:=Lib.hid hn
  have key:∀ (b:Bool),(decide (1 < (s.size:Int))=b)→(b=true→((s[0]'h1).toNat:Int)≠48)→True:=fun _ _ _=>trivial
  have hcase:¬ (1:Int) < (s.size:Int)∨((1:Int) < (s.size:Int)∧(((s[0]'h1).toNat:Int) == 48)=false):=by
   by_cases h2:1 < s.size
   ·right
    refine ⟨by omega,?_⟩
    rw [beq_eq_false_iff_ne]
    intro h48
    refine hn ⟨?_,h2⟩
    rw [← Lib.getD_get!',List.getD_eq_getElem?_getD,List.getElem?_eq_getElem (by rw [← Lib.size_eq];omega)]
    exact UInt8.toNat_inj.1 (show (s[0]'h1).toNat=48 by omega)
   ·left;omega
  clear hn key
  rcases hcase with h2 | ⟨h2,h48⟩
  all_goals
   go_enter Tryd.func144,Tryd.ntmps144
   go_wp2
   go_loopw [4] (fun v wr=>∃ (pos b:Nat) (a:Int),v=.int .i64 a∧0≤a∧a≤99∧wr.heap[w.heap.size+1]? = some (.stringIter s pos)∧Blk4 wr w.heap.size (.int .i64 0) (.string ⟨#[]⟩) (.int .i64 0) (.int .i64 0)∧Below w.heap.size w wr∧Hid (numAt s b pos a)∧s.size≤pos+b) (fun _ wr=>s.size - wr.iterPos (w.heap.size+1))
   case atStart=>exact ⟨0,s.size,0,rfl,by omega,by omega,iter_heap1 w _ s 0,(blk4_new w _ _ _ _).iter s 0,((Below.refl _ _).alloc (Nat.le_refl _) _).alloc (by simp) _,HA.out,by omega⟩
   case round =>
    obtain ⟨pos,b,a,rfl,ha0,ha9,hit,hcl,hbw,HS,hb⟩:=hrel
    have hpos0:=iterPos_of hit
    clear HA
    by_cases hp:pos < s.size
    ·have hnx:∀ ty,(Instr.next (.pointer (some ⟨w.heap.size+1,0,none⟩)) true ty).run Tryd.prog wr=_:=fun ty=>Lib.run_next_any_at wr (w.heap.size+1) s pos ty hit hp
     have hwd:=width_pos s pos hp
     have hwl:=width_le s pos hp
     obtain ⟨b,rfl⟩:∃ f',b=f'+1:=⟨b - 1,by omega⟩
     have hit2:=Lib.iterAt_heap wr (w.heap.size+1) s pos (pos+(Utf8.decode s pos).2) hit
     have hcl2:=hcl.iterAt (w.heap.size+1) (by omega) s (pos+(Utf8.decode s pos).2)
     have hbw2:=Lib.below_iterAt hbw (k:=w.heap.size+1) (by omega) s (pos+(Utf8.decode s pos).2)
     obtain ⟨W1,hW1⟩:∃ W1,W1=wr.iterAt (w.heap.size+1) s (pos+(Utf8.decode s pos).2):=⟨_,rfl⟩
     rw [← hW1] at hnx hit2 hbw2 hcl2
     have hst:=numAt_one hp HS.out ha0 ha9
     obtain ⟨hr0,hr9⟩:=hst.1
     have HN:=Lib.hid hst.2
     clear hW1 hit hbw HS hst hcl
     obtain ⟨⟨k0,k1,k2,k3⟩,f0,f1,f2,f3⟩:=blk4 hcl2
     have hlt2:=hcl2.lt
     by_cases h99:99 < 10 * a+(((Utf8.decode s pos).1:Int) - 48)
     ·have HO:=Lib.hid (numOut_big (numAt_big HN.out h99))
      clear HN
      go_wp2
      exact bodyPost_ret (by simp [results,Tryd.results144,go_sem,k0,k1,k2,k3]) rfl
       (NumPost.mk HO.out ((((hbw2.setCell (by simp) _).setCell (by simp) _).setCell (by simp) _).setCell (by simp) _))
     ·go_wp2
      go_roundw
      case rel=>exact ⟨_,b,_,rfl,by omega,by omega,hit2,hcl2,hbw2,HN.out,by omega⟩
      case measure=>rw [iterPos_of hit2,hpos0];omega
    ·have hnx:∀ ty,(Instr.next (.pointer (some ⟨w.heap.size+1,0,none⟩)) true ty).run Tryd.prog wr=_:=fun ty=>Lib.run_next_end_at wr (w.heap.size+1) s pos ty hit hp
     have HO:=Lib.hid (numOut_ok (numAt_end hp HS.out) ha9 HNN.out)
     obtain ⟨⟨k0,k1,k2,k3⟩,f0,f1,f2,f3⟩:=blk4 hcl
     have hlt2:=hcl.lt
     clear HS
     go_wp2
     exact bodyPost_ret (by simp [results,Tryd.results144,go_sem,k0,k1,k2,k3]) rfl
      (NumPost.mk HO.out ((((hbw.setCell (by simp) _).setCell (by simp) _).setCell (by simp) _).setCell (by simp) _))
def signOf (s:ByteArray):ByteArray:=(sigL (each s).1).getD ⟨#[]⟩
def noSig (s:ByteArray) (k:Nat):Prop:=sigF (sigs.drop k) (each s).1=sigL (each s).1
theorem noSig_start (s:ByteArray):noSig s 0:=rfl
theorem noSig_step (s:ByteArray) (k:Nat) (hk:k < 18) (h:noSig s k):(rpre (sigs[k]'hk).data.toList (each s).1=true→signOf s=sigs[k]'hk)∧(rpre (sigs[k]'hk).data.toList (each s).1=false→noSig s (k+1)):=by
 unfold noSig at h ⊢
 have hd:sigs.drop k=sigs[k]'hk :: sigs.drop (k+1):=List.drop_eq_getElem_cons hk
 rw [hd] at h
 unfold sigF at h
 constructor
 ·intro h1
  rw [if_pos h1] at h
  unfold signOf
  rw [← h];rfl
 ·intro h1
  rw [if_neg (by rw [h1];decide)] at h
  exact h
theorem noSig_end (s:ByteArray) (k:Nat) (hk:¬ k < 18) (h:noSig s k):signOf s=⟨#[]⟩:=by
 unfold noSig at h
 rw [List.drop_of_length_le (by show sigs.length≤k;exact Nat.not_lt.1 hk)] at h
 unfold signOf
 rw [← h];rfl
theorem run_index_sig (w:World) (cs:Array Value) (k:Nat) (v:Value) (hk:k < 18) (h:cs[k]? = some v):(Instr.index 187 (.agg cs) (.int .i64 k)).run Tryd.prog w=.ok v w:=by
 have h1:(0:Int)≤(k:Int)∧(k:Int) < (18:Int):=by omega
 have h2:(k:Int).toNat=k:=by omega
 simp [Instr.index,asIntOf,run_underlying Tryd.underlying187,Tryd.sizeOf9,Tryd.isAgg9,part,h1,h2,h,go_sem]
 intro h18
 omega
theorem str_is {a b:ByteArray} (h:a=b):Ending.returned (.string b)=.returned (.string a):=by rw [h]
set_option maxRecDepth 100000 in
set_option maxHeartbeats 1000000 in
theorem sign_any (s:ByteArray) (w:World) (hT:LTabs w) (h:(each s).2 = -1) :
  Calls Tryd.prog 146 #[.string s] w fun e w'=>e=.returned (.string (signOf s))∧w=w':=by
 obtain ⟨t,f,hl⟩:=hT.at
 have HP:=Lib.hid (fun (k:Nat) (hk:k < 18)=>hasPrefix_rpre s (sigs[k]'hk).data.toList (sigs_ascii _ (List.getElem_mem _)) s.size 0 (by omega) h)
 have c0:=(cell_of_row w 3 0 _ t f hl).trans (show _=some (Value.string ⟨#[60,61,62]⟩) from rfl)
 have c1:=(cell_of_row w 3 1 _ t f hl).trans (show _=some (Value.string ⟨#[61,62]⟩) from rfl)
 have c2:=(cell_of_row w 3 2 _ t f hl).trans (show _=some (Value.string ⟨#[60,61]⟩) from rfl)
 have c3:=(cell_of_row w 3 3 _ t f hl).trans (show _=some (Value.string ⟨#[126,61]⟩) from rfl)
 have c4:=(cell_of_row w 3 4 _ t f hl).trans (show _=some (Value.string ⟨#[61]⟩) from rfl)
 have c5:=(cell_of_row w 3 5 _ t f hl).trans (show _=some (Value.string ⟨#[126]⟩) from rfl)
 have c6:=(cell_of_row w 3 6 _ t f hl).trans (show _=some (Value.string ⟨#[60]⟩) from rfl)
 have c7:=(cell_of_row w 3 7 _ t f hl).trans (show _=some (Value.string ⟨#[38]⟩) from rfl)
 have c8:=(cell_of_row w 3 8 _ t f hl).trans (show _=some (Value.string ⟨#[124]⟩) from rfl)
 have c9:=(cell_of_row w 3 9 _ t f hl).trans (show _=some (Value.string ⟨#[40]⟩) from rfl)
 have c10:=(cell_of_row w 3 10 _ t f hl).trans (show _=some (Value.string ⟨#[41]⟩) from rfl)
 have c11:=(cell_of_row w 3 11 _ t f hl).trans (show _=some (Value.string ⟨#[123]⟩) from rfl)
 have c12:=(cell_of_row w 3 12 _ t f hl).trans (show _=some (Value.string ⟨#[125]⟩) from rfl)
 have c13:=(cell_of_row w 3 13 _ t f hl).trans (show _=some (Value.string ⟨#[44]⟩) from rfl)
 have c14:=(cell_of_row w 3 14 _ t f hl).trans (show _=some (Value.string ⟨#[59]⟩) from rfl)
 have c15:=(cell_of_row w 3 15 _ t f hl).trans (show _=some (Value.string ⟨#[58]⟩) from rfl)
 have c16:=(cell_of_row w 3 16 _ t f hl).trans (show _=some (Value.string ⟨#[43]⟩) from rfl)
 have c17:=(cell_of_row w 3 17 _ t f hl).trans (show _=some (Value.string ⟨#[92]⟩) from rfl)
 have hat:∀ k (hk:k < 18),(#[.string ⟨#[60,61,62]⟩,.string ⟨#[61,62]⟩,.string ⟨#[60,61]⟩,.string ⟨#[126,61]⟩,.string ⟨#[61]⟩,.string ⟨#[126]⟩,.string ⟨#[60]⟩,.string ⟨#[38]⟩,.string ⟨#[124]⟩,.string ⟨#[40]⟩,.string ⟨#[41]⟩,.string ⟨#[123]⟩,.string ⟨#[125]⟩,.string ⟨#[44]⟩,.string ⟨#[59]⟩,.string ⟨#[58]⟩,.string ⟨#[43]⟩,.string ⟨#[92]⟩]:Array Value)[k]? = some (.string (sigs[k]'hk)):=by
  intro k hk
  have e:(#[.string ⟨#[60,61,62]⟩,.string ⟨#[61,62]⟩,.string ⟨#[60,61]⟩,.string ⟨#[126,61]⟩,.string ⟨#[61]⟩,.string ⟨#[126]⟩,.string ⟨#[60]⟩,.string ⟨#[38]⟩,.string ⟨#[124]⟩,.string ⟨#[40]⟩,.string ⟨#[41]⟩,.string ⟨#[123]⟩,.string ⟨#[125]⟩,.string ⟨#[44]⟩,.string ⟨#[59]⟩,.string ⟨#[58]⟩,.string ⟨#[43]⟩,.string ⟨#[92]⟩]:Array Value)=(sigs.map Value.string).toArray:=rfl
  rw [e,List.getElem?_toArray,List.getElem?_map,List.getElem?_eq_getElem hk];rfl
 have HAt:=Lib.hid hat
 clear h hT hl hat
 go_enter Tryd.func146,Tryd.ntmps146
 go_wp2
 go_loop [6] (fun i=>∃ k:Nat,i=.int .i64 k∧k≤18∧Hid (noSig s k)) (fun i=>18 - (intOf i).toNat)
 case atStart=>exact ⟨0,rfl,by omega,noSig_start s⟩
 case round =>
  obtain ⟨k,rfl,hk,HN⟩:=hrel
  clear c0 c1 c2 c3 c4 c5 c6 c7 c8 c9 c10 c11 c12 c13 c14 c15 c16 c17
  by_cases hlt:k < 18
  ·have hx:∀ wr,(Instr.index 187 _ (.int .i64 k)).run Tryd.prog wr=_:=fun wr=>run_index_sig wr _ k _ hlt (HAt.out k hlt)
   have hst:=noSig_step s k hlt HN.out
   have hpk:Lib.hasPrefix s.data.toList (sigs[k]'hlt).data.toList=rpre (sigs[k]'hlt).data.toList (each s).1:=HP.out k hlt
   clear HN
   generalize (sigs[k]'hlt)=x at hx hst hpk
   by_cases hr:rpre x.data.toList (each s).1=true
   ·rw [hr] at hpk
    have HE:=Lib.hid (hst.1 hr)
    clear hst hr
    go_wp2_with (go_at_call 169;refine (Tryd.strings_HasPrefix _ _ _).mono ?_;rintro e w' ⟨rfl,rfl⟩)
    go_ret
    exact ⟨str_is HE.out,rfl⟩
   ·simp only [Bool.not_eq_true] at hr
    rw [hr] at hpk
    have HE:=Lib.hid (hst.2 hr)
    clear hst hr
    go_wp2_with (go_at_call 169;refine (Tryd.strings_HasPrefix _ _ _).mono ?_;rintro e w' ⟨rfl,rfl⟩)
    go_round
    case rel=>exact ⟨k+1,by go_num,by omega,HE.out⟩
    case measure=>simp [intOf];omega
  ·have HE:=Lib.hid (noSig_end s k hlt HN.out)
   clear HN
   go_wp2
   go_ret
   exact ⟨str_is HE.out,rfl⟩
end Go.Proofs.YtmlmjopfbohglaaDoor
