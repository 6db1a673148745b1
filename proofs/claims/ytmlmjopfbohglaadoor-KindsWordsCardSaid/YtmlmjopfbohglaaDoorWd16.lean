/- Parts of the proof: LexLead. -/
import Derived.Test.YtmlmjopfbohglaaDoorWd15
namespace Go.Proofs.YtmlmjopfbohglaaDoor
open Go.RowKit
theorem str_ext {s:ByteArray} {a b:Nat} (h:a=b):Ending.returned (.string (s.extract 0 a))=.returned (.string (s.extract 0 b)):=by rw [h]
theorem str_all {s t:ByteArray} (h:s=t):Ending.returned (.string s)=.returned (.string t):=by rw [h]
def leadN (p:Int→Bool) (s:ByteArray):Nat:=(posOf (s.size:Int) ((each s).1.drop (cnt p (each s).1))).toNat
def leadAt (p:Int→Bool) (s:ByteArray) (b pos:Nat):Prop:=(eachF s b pos).2 = -1∧leadN p s=(posOf (s.size:Int) ((eachF s b pos).1.drop (cnt p (eachF s b pos).1))).toNat
theorem leadAt_start (p:Int→Bool) (s:ByteArray) (h:(each s).2 = -1):leadAt p s s.size 0:=⟨h,rfl⟩
theorem leadAt_good {p:Int→Bool} {s:ByteArray} {b pos:Nat} (hp:pos < s.size) (h:leadAt p s b pos):¬ badAt s pos∨b=0:=by
 cases b with
 | zero=>right;rfl
 | succ b =>
  left
  intro hb
  have:=h.1
  rw [eachF_bad _ _ _ hp hb] at this;simp only [] at this;omega
theorem leadAt_one {p:Int→Bool} {s:ByteArray} {b pos:Nat} (hp:pos < s.size) (h:leadAt p s (b+1) pos) (hq:p (Utf8.decode s pos).1=true):leadAt p s b (pos+(Utf8.decode s pos).2):=by
 have hb:¬ badAt s pos:=by rcases leadAt_good hp h with h | h;exact h;omega
 unfold leadAt at h ⊢
 rw [eachF_one _ _ _ hp hb] at h
 refine ⟨h.1,?_⟩
 rw [h.2,cnt_pos hq]
 rfl
theorem leadAt_stop {p:Int→Bool} {s:ByteArray} {b pos:Nat} (hp:pos < s.size) (h:leadAt p s (b+1) pos) (hq:p (Utf8.decode s pos).1=false):pos=leadN p s:=by
 have hb:¬ badAt s pos:=by rcases leadAt_good hp h with h | h;exact h;omega
 unfold leadAt at h
 rw [eachF_one _ _ _ hp hb] at h
 rw [h.2,cnt_zero hq]
 simp [posOf]
theorem leadAt_end {p:Int→Bool} {s:ByteArray} {b pos:Nat} (hp:¬ pos < s.size) (h:leadAt p s b pos):s=s.extract 0 (leadN p s):=by
 unfold leadAt at h
 rw [eachF_end _ _ _ hp] at h
 rw [h.2]
 simp [posOf]
set_option maxHeartbeats 1000000 in
theorem lead_sp (s:ByteArray) (w:World) (h:(each s).2 = -1) :
  Calls Tryd.prog 139 #[.string s,.func (.func 140) #[] #[]] w fun e w'=>e=.returned (.string (s.extract 0 (leadN spB s)))∧Below w.heap.size w w':=by
 have HA:=Lib.hid (leadAt_start spB s h)
 clear h
 go_enter Tryd.func139,Tryd.ntmps139
 go_wp2
 go_loopw [] (fun wr=>∃ (pos b:Nat),wr.heap[w.heap.size]? = some (.stringIter s pos)∧Below w.heap.size w wr∧Hid (leadAt spB s b pos)∧s.size≤pos+b) (fun wr=>s.size - wr.iterPos w.heap.size)
 case atStart=>exact ⟨0,s.size,World.iter_heap w s 0,(Below.refl _ _).alloc (Nat.le_refl _) _,HA.out,by omega⟩
 case round =>
  obtain ⟨pos,b,hit,hbw,HS,hb⟩:=hrel
  have hpos0:=iterPos_of hit
  clear HA
  by_cases hp:pos < s.size
  ·have hnx:∀ ty,(Instr.next (.pointer (some ⟨w.heap.size,0,none⟩)) true ty).run Tryd.prog wr=_:=fun ty=>Lib.run_next_any_at wr w.heap.size s pos ty hit hp
   have hwd:=width_pos s pos hp
   have hwl:=width_le s pos hp
   obtain ⟨b,rfl⟩:∃ f',b=f'+1:=⟨b - 1,by omega⟩
   have hit2:=Lib.iterAt_heap wr w.heap.size s pos (pos+(Utf8.decode s pos).2) hit
   have hbw2:=Lib.below_iterAt hbw (k:=w.heap.size) (Nat.le_refl _) s (pos+(Utf8.decode s pos).2)
   obtain ⟨W1,hW1⟩:∃ W1,W1=wr.iterAt w.heap.size s (pos+(Utf8.decode s pos).2):=⟨_,rfl⟩
   rw [← hW1] at hnx hit2 hbw2
   clear hW1 hit hbw
   by_cases hq:spB (Utf8.decode s pos).1=true
   ·have HN:=Lib.hid (leadAt_one hp HS.out hq)
    clear HS
    go_wp2_with (go_at_call 140;refine (isSpace_any _ _).mono ?_;rintro e w' ⟨rfl,rfl⟩)
    go_roundw
    case rel=>exact ⟨_,b,hit2,hbw2,HN.out,by omega⟩
    case measure=>rw [iterPos_of hit2,hpos0];omega
   ·simp only [Bool.not_eq_true] at hq
    have HN:=Lib.hid (leadAt_stop hp HS.out hq)
    clear HS
    go_wp2_with (go_at_call 140;refine (isSpace_any _ _).mono ?_;rintro e w' ⟨rfl,rfl⟩)
    go_ret
    exact ⟨str_ext HN.out,hbw2⟩
  ·have hnx:∀ ty,(Instr.next (.pointer (some ⟨w.heap.size,0,none⟩)) true ty).run Tryd.prog wr=_:=fun ty=>Lib.run_next_end_at wr w.heap.size s pos ty hit hp
   have HN:=Lib.hid (leadAt_end hp HS.out)
   clear HS
   go_wp2
   go_ret
   exact ⟨str_all HN.out,hbw⟩
set_option maxHeartbeats 1000000 in
theorem lead_nm (s:ByteArray) (w:World) (h:(each s).2 = -1) :
  Calls Tryd.prog 139 #[.string s,.func (.func 141) #[] #[]] w fun e w'=>e=.returned (.string (s.extract 0 (leadN nmB s)))∧Below w.heap.size w w':=by
 have HA:=Lib.hid (leadAt_start nmB s h)
 clear h
 go_enter Tryd.func139,Tryd.ntmps139
 go_wp2
 go_loopw [] (fun wr=>∃ (pos b:Nat),wr.heap[w.heap.size]? = some (.stringIter s pos)∧Below w.heap.size w wr∧Hid (leadAt nmB s b pos)∧s.size≤pos+b) (fun wr=>s.size - wr.iterPos w.heap.size)
 case atStart=>exact ⟨0,s.size,World.iter_heap w s 0,(Below.refl _ _).alloc (Nat.le_refl _) _,HA.out,by omega⟩
 case round =>
  obtain ⟨pos,b,hit,hbw,HS,hb⟩:=hrel
  have hpos0:=iterPos_of hit
  clear HA
  by_cases hp:pos < s.size
  ·have hnx:∀ ty,(Instr.next (.pointer (some ⟨w.heap.size,0,none⟩)) true ty).run Tryd.prog wr=_:=fun ty=>Lib.run_next_any_at wr w.heap.size s pos ty hit hp
   have hwd:=width_pos s pos hp
   have hwl:=width_le s pos hp
   obtain ⟨b,rfl⟩:∃ f',b=f'+1:=⟨b - 1,by omega⟩
   have hit2:=Lib.iterAt_heap wr w.heap.size s pos (pos+(Utf8.decode s pos).2) hit
   have hbw2:=Lib.below_iterAt hbw (k:=w.heap.size) (Nat.le_refl _) s (pos+(Utf8.decode s pos).2)
   obtain ⟨W1,hW1⟩:∃ W1,W1=wr.iterAt w.heap.size s (pos+(Utf8.decode s pos).2):=⟨_,rfl⟩
   rw [← hW1] at hnx hit2 hbw2
   clear hW1 hit hbw
   by_cases hq:nmB (Utf8.decode s pos).1=true
   ·have HN:=Lib.hid (leadAt_one hp HS.out hq)
    clear HS
    go_wp2_with (go_at_call 141;refine (isNamePart_any _ _).mono ?_;rintro e w' ⟨rfl,rfl⟩)
    go_roundw
    case rel=>exact ⟨_,b,hit2,hbw2,HN.out,by omega⟩
    case measure=>rw [iterPos_of hit2,hpos0];omega
   ·simp only [Bool.not_eq_true] at hq
    have HN:=Lib.hid (leadAt_stop hp HS.out hq)
    clear HS
    go_wp2_with (go_at_call 141;refine (isNamePart_any _ _).mono ?_;rintro e w' ⟨rfl,rfl⟩)
    go_ret
    exact ⟨str_ext HN.out,hbw2⟩
  ·have hnx:∀ ty,(Instr.next (.pointer (some ⟨w.heap.size,0,none⟩)) true ty).run Tryd.prog wr=_:=fun ty=>Lib.run_next_end_at wr w.heap.size s pos ty hit hp
   have HN:=Lib.hid (leadAt_end hp HS.out)
   clear HS
   go_wp2
   go_ret
   exact ⟨str_all HN.out,hbw⟩
set_option maxHeartbeats 1000000 in
theorem lead_dg (s:ByteArray) (w:World) (h:(each s).2 = -1) :
  Calls Tryd.prog 139 #[.string s,.func (.func 143) #[] #[]] w fun e w'=>e=.returned (.string (s.extract 0 (leadN dgB s)))∧Below w.heap.size w w':=by
 have HA:=Lib.hid (leadAt_start dgB s h)
 clear h
 go_enter Tryd.func139,Tryd.ntmps139
 go_wp2
 go_loopw [] (fun wr=>∃ (pos b:Nat),wr.heap[w.heap.size]? = some (.stringIter s pos)∧Below w.heap.size w wr∧Hid (leadAt dgB s b pos)∧s.size≤pos+b) (fun wr=>s.size - wr.iterPos w.heap.size)
 case atStart=>exact ⟨0,s.size,World.iter_heap w s 0,(Below.refl _ _).alloc (Nat.le_refl _) _,HA.out,by omega⟩
 case round =>
  obtain ⟨pos,b,hit,hbw,HS,hb⟩:=hrel
  have hpos0:=iterPos_of hit
  clear HA
  by_cases hp:pos < s.size
  ·have hnx:∀ ty,(Instr.next (.pointer (some ⟨w.heap.size,0,none⟩)) true ty).run Tryd.prog wr=_:=fun ty=>Lib.run_next_any_at wr w.heap.size s pos ty hit hp
   have hwd:=width_pos s pos hp
   have hwl:=width_le s pos hp
   obtain ⟨b,rfl⟩:∃ f',b=f'+1:=⟨b - 1,by omega⟩
   have hit2:=Lib.iterAt_heap wr w.heap.size s pos (pos+(Utf8.decode s pos).2) hit
   have hbw2:=Lib.below_iterAt hbw (k:=w.heap.size) (Nat.le_refl _) s (pos+(Utf8.decode s pos).2)
   obtain ⟨W1,hW1⟩:∃ W1,W1=wr.iterAt w.heap.size s (pos+(Utf8.decode s pos).2):=⟨_,rfl⟩
   rw [← hW1] at hnx hit2 hbw2
   clear hW1 hit hbw
   by_cases hq:dgB (Utf8.decode s pos).1=true
   ·have HN:=Lib.hid (leadAt_one hp HS.out hq)
    clear HS
    go_wp2_with (go_at_call 143;refine (isDigit_any _ _).mono ?_;rintro e w' ⟨rfl,rfl⟩)
    go_roundw
    case rel=>exact ⟨_,b,hit2,hbw2,HN.out,by omega⟩
    case measure=>rw [iterPos_of hit2,hpos0];omega
   ·simp only [Bool.not_eq_true] at hq
    have HN:=Lib.hid (leadAt_stop hp HS.out hq)
    clear HS
    go_wp2_with (go_at_call 143;refine (isDigit_any _ _).mono ?_;rintro e w' ⟨rfl,rfl⟩)
    go_ret
    exact ⟨str_ext HN.out,hbw2⟩
  ·have hnx:∀ ty,(Instr.next (.pointer (some ⟨w.heap.size,0,none⟩)) true ty).run Tryd.prog wr=_:=fun ty=>Lib.run_next_end_at wr w.heap.size s pos ty hit hp
   have HN:=Lib.hid (leadAt_end hp HS.out)
   clear HS
   go_wp2
   go_ret
   exact ⟨str_all HN.out,hbw⟩
set_option maxHeartbeats 1000000 in
theorem lead_ln (s:ByteArray) (w:World) (h:(each s).2 = -1) :
  Calls Tryd.prog 139 #[.string s,.func (.func 145) #[] #[]] w fun e w'=>e=.returned (.string (s.extract 0 (leadN lnB s)))∧Below w.heap.size w w':=by
 have HA:=Lib.hid (leadAt_start lnB s h)
 clear h
 go_enter Tryd.func139,Tryd.ntmps139
 go_wp2
 go_loopw [] (fun wr=>∃ (pos b:Nat),wr.heap[w.heap.size]? = some (.stringIter s pos)∧Below w.heap.size w wr∧Hid (leadAt lnB s b pos)∧s.size≤pos+b) (fun wr=>s.size - wr.iterPos w.heap.size)
 case atStart=>exact ⟨0,s.size,World.iter_heap w s 0,(Below.refl _ _).alloc (Nat.le_refl _) _,HA.out,by omega⟩
 case round =>
  obtain ⟨pos,b,hit,hbw,HS,hb⟩:=hrel
  have hpos0:=iterPos_of hit
  clear HA
  by_cases hp:pos < s.size
  ·have hnx:∀ ty,(Instr.next (.pointer (some ⟨w.heap.size,0,none⟩)) true ty).run Tryd.prog wr=_:=fun ty=>Lib.run_next_any_at wr w.heap.size s pos ty hit hp
   have hwd:=width_pos s pos hp
   have hwl:=width_le s pos hp
   obtain ⟨b,rfl⟩:∃ f',b=f'+1:=⟨b - 1,by omega⟩
   have hit2:=Lib.iterAt_heap wr w.heap.size s pos (pos+(Utf8.decode s pos).2) hit
   have hbw2:=Lib.below_iterAt hbw (k:=w.heap.size) (Nat.le_refl _) s (pos+(Utf8.decode s pos).2)
   obtain ⟨W1,hW1⟩:∃ W1,W1=wr.iterAt w.heap.size s (pos+(Utf8.decode s pos).2):=⟨_,rfl⟩
   rw [← hW1] at hnx hit2 hbw2
   clear hW1 hit hbw
   by_cases hq:lnB (Utf8.decode s pos).1=true
   ·have HN:=Lib.hid (leadAt_one hp HS.out hq)
    clear HS
    go_wp2_with (go_at_call 145;refine (isLinePart_any _ _).mono ?_;rintro e w' ⟨rfl,rfl⟩)
    go_roundw
    case rel=>exact ⟨_,b,hit2,hbw2,HN.out,by omega⟩
    case measure=>rw [iterPos_of hit2,hpos0];omega
   ·simp only [Bool.not_eq_true] at hq
    have HN:=Lib.hid (leadAt_stop hp HS.out hq)
    clear HS
    go_wp2_with (go_at_call 145;refine (isLinePart_any _ _).mono ?_;rintro e w' ⟨rfl,rfl⟩)
    go_ret
    exact ⟨str_ext HN.out,hbw2⟩
  ·have hnx:∀ ty,(Instr.next (.pointer (some ⟨w.heap.size,0,none⟩)) true ty).run Tryd.prog wr=_:=fun ty=>Lib.run_next_end_at wr w.heap.size s pos ty hit hp
   have HN:=Lib.hid (leadAt_end hp HS.out)
   clear HS
   go_wp2
   go_ret
   exact ⟨str_all HN.out,hbw⟩
end Go.Proofs.YtmlmjopfbohglaaDoor
