/- Parts of the proof: LexSign LexLead. -/
import Derived.Test.YtmlmjopfbohglaaGreatDoorPg10
namespace Go.Proofs.YtmlmjopfbohglaaGreatDoor
open Go.RowKit
def signOf (s:ByteArray):ByteArray:=(sigL (each s).1).getD ⟨#[]⟩
def noSig (s:ByteArray) (k:Nat):Prop:=sigF (sigs.drop k) (each s).1=sigL (each s).1
theorem noSig_start (s:ByteArray):noSig s 0:=rfl
theorem noSig_step (s:ByteArray) (k:Nat) (hk:k < 18) (h:noSig s k):(rpre (sigs[k]'hk).data.toList (each s).1=true→signOf s=sigs[k]'hk)∧(rpre (sigs[k]'hk).data.toList (each s).1=false→noSig s (k+1)):=by
 unfold noSig at h ⊢
 have hd:sigs.drop k=sigs[k]'hk :: sigs.drop (k+1):=List.drop_eq_getElem_cons hk
 rw [hd] at h
 unfold sigF at h
 constructor
 ·intro h1
  rw [if_pos h1] at h
  unfold signOf
  rw [← h];rfl
 ·intro h1
  rw [if_neg (by rw [h1];decide)] at h
  exact h
theorem noSig_end (s:ByteArray) (k:Nat) (hk:¬ k < 18) (h:noSig s k):signOf s=⟨#[]⟩:=by
 unfold noSig at h
 rw [List.drop_of_length_le (by show sigs.length≤k;exact Nat.not_lt.1 hk)] at h
 unfold signOf
 rw [← h];rfl
theorem run_index_sig (w:World) (cs:Array Value) (k:Nat) (v:Value) (hk:k < 18) (h:cs[k]? = some v):(Instr.index 165 (.agg cs) (.int .i64 k)).run Tryz.prog w=.ok v w:=by
 have h1:(0:Int)≤(k:Int)∧(k:Int) < (18:Int):=by omega
 have h2:(k:Int).toNat=k:=by omega
 simp [Instr.index,asIntOf,run_underlying Tryz.underlying165,Tryz.sizeOf9,Tryz.isAgg9,part,h1,h2,h,go_sem]
 intro h18
 omega
theorem str_is {a b:ByteArray} (h:a=b):Ending.returned (.string b)=.returned (.string a):=by rw [h]
set_option maxRecDepth 100000 in
set_option maxHeartbeats 1000000 in
theorem sign_any (s:ByteArray) (w:World) (hT:LTabs w) (h:(each s).2 = -1) :
  Calls Tryz.prog 125 #[.string s] w fun e w'=>e=.returned (.string (signOf s))∧w=w':=by
 obtain ⟨t,f,hl⟩:=hT.at
 have HP:=Lib.hid (fun (k:Nat) (hk:k < 18)=>hasPrefix_rpre s (sigs[k]'hk).data.toList (sigs_ascii _ (List.getElem_mem _)) s.size 0 (by omega) h)
 have c0:=(cell_of_row w 0 0 _ t f hl).trans (show _=some (Value.string ⟨#[60,61,62]⟩) from rfl)
 have c1:=(cell_of_row w 0 1 _ t f hl).trans (show _=some (Value.string ⟨#[61,62]⟩) from rfl)
 have c2:=(cell_of_row w 0 2 _ t f hl).trans (show _=some (Value.string ⟨#[60,61]⟩) from rfl)
 have c3:=(cell_of_row w 0 3 _ t f hl).trans (show _=some (Value.string ⟨#[126,61]⟩) from rfl)
 have c4:=(cell_of_row w 0 4 _ t f hl).trans (show _=some (Value.string ⟨#[61]⟩) from rfl)
 have c5:=(cell_of_row w 0 5 _ t f hl).trans (show _=some (Value.string ⟨#[126]⟩) from rfl)
 have c6:=(cell_of_row w 0 6 _ t f hl).trans (show _=some (Value.string ⟨#[60]⟩) from rfl)
 have c7:=(cell_of_row w 0 7 _ t f hl).trans (show _=some (Value.string ⟨#[38]⟩) from rfl)
 have c8:=(cell_of_row w 0 8 _ t f hl).trans (show _=some (Value.string ⟨#[124]⟩) from rfl)
 have c9:=(cell_of_row w 0 9 _ t f hl).trans (show _=some (Value.string ⟨#[40]⟩) from rfl)
 have c10:=(cell_of_row w 0 10 _ t f hl).trans (show _=some (Value.string ⟨#[41]⟩) from rfl)
 have c11:=(cell_of_row w 0 11 _ t f hl).trans (show _=some (Value.string ⟨#[123]⟩) from rfl)
 have c12:=(cell_of_row w 0 12 _ t f hl).trans (show _=some (Value.string ⟨#[125]⟩) from rfl)
 have c13:=(cell_of_row w 0 13 _ t f hl).trans (show _=some (Value.string ⟨#[44]⟩) from rfl)
 have c14:=(cell_of_row w 0 14 _ t f hl).trans (show _=some (Value.string ⟨#[59]⟩) from rfl)
 have c15:=(cell_of_row w 0 15 _ t f hl).trans (show _=some (Value.string ⟨#[58]⟩) from rfl)
 have c16:=(cell_of_row w 0 16 _ t f hl).trans (show _=some (Value.string ⟨#[43]⟩) from rfl)
 have c17:=(cell_of_row w 0 17 _ t f hl).trans (show _=some (Value.string ⟨#[92]⟩) from rfl)
 have hat:∀ k (hk:k < 18),(#[.string ⟨#[60,61,62]⟩,.string ⟨#[61,62]⟩,.string ⟨#[60,61]⟩,.string ⟨#[126,61]⟩,.string ⟨#[61]⟩,.string ⟨#[126]⟩,.string ⟨#[60]⟩,.string ⟨#[38]⟩,.string ⟨#[124]⟩,.string ⟨#[40]⟩,.string ⟨#[41]⟩,.string ⟨#[123]⟩,.string ⟨#[125]⟩,.string ⟨#[44]⟩,.string ⟨#[59]⟩,.string ⟨#[58]⟩,.string ⟨#[43]⟩,.string ⟨#[92]⟩]:Array Value)[k]? = some (.string (sigs[k]'hk)):=by
  intro k hk
  have e:(#[.string ⟨#[60,61,62]⟩,.string ⟨#[61,62]⟩,.string ⟨#[60,61]⟩,.string ⟨#[126,61]⟩,.string ⟨#[61]⟩,.string ⟨#[126]⟩,.string ⟨#[60]⟩,.string ⟨#[38]⟩,.string ⟨#[124]⟩,.string ⟨#[40]⟩,.string ⟨#[41]⟩,.string ⟨#[123]⟩,.string ⟨#[125]⟩,.string ⟨#[44]⟩,.string ⟨#[59]⟩,.string ⟨#[58]⟩,.string ⟨#[43]⟩,.string ⟨#[92]⟩]:Array Value)=(sigs.map Value.string).toArray:=rfl
  rw [e,List.getElem?_toArray,List.getElem?_map,List.getElem?_eq_getElem hk];rfl
 have HAt:=Lib.hid hat
 clear h hT hl hat
 go_enter Tryz.func125,Tryz.ntmps125
 go_wp2
 go_loop [6] (fun i=>∃ k:Nat,i=.int .i64 k∧k≤18∧Hid (noSig s k)) (fun i=>18 - (intOf i).toNat)
 case atStart=>exact ⟨0,rfl,by omega,noSig_start s⟩
 case round =>
  obtain ⟨k,rfl,hk,HN⟩:=hrel
  clear c0 c1 c2 c3 c4 c5 c6 c7 c8 c9 c10 c11 c12 c13 c14 c15 c16 c17
  by_cases hlt:k < 18
  ·have hx:∀ wr,(Instr.index 165 _ (.int .i64 k)).run Tryz.prog wr=_:=fun wr=>run_index_sig wr _ k _ hlt (HAt.out k hlt)
   have hst:=noSig_step s k hlt HN.out
   have hpk:Lib.hasPrefix s.data.toList (sigs[k]'hlt).data.toList=rpre (sigs[k]'hlt).data.toList (each s).1:=HP.out k hlt
   clear HN
   generalize (sigs[k]'hlt)=x at hx hst hpk
   by_cases hr:rpre x.data.toList (each s).1=true
   ·rw [hr] at hpk
    have HE:=Lib.hid (hst.1 hr)
    clear hst hr
    go_wp2_with (go_at_call 162;refine (Tryz.strings_HasPrefix _ _ _).mono ?_;rintro e w' ⟨rfl,rfl⟩)
    go_ret
    exact ⟨str_is HE.out,rfl⟩
   ·simp only [Bool.not_eq_true] at hr
    rw [hr] at hpk
    have HE:=Lib.hid (hst.2 hr)
    clear hst hr
    go_wp2_with (go_at_call 162;refine (Tryz.strings_HasPrefix _ _ _).mono ?_;rintro e w' ⟨rfl,rfl⟩)
    go_round
    case rel=>exact ⟨k+1,by go_num,by omega,HE.out⟩
    case measure=>simp [intOf];omega
  ·have HE:=Lib.hid (noSig_end s k hlt HN.out)
   clear HN
   go_wp2
   go_ret
   exact ⟨str_is HE.out,rfl⟩
theorem str_ext {s:ByteArray} {a b:Nat} (h:a=b):Ending.returned (.string (s.extract 0 a))=.returned (.string (s.extract 0 b)):=by rw [h]
theorem str_all {s t:ByteArray} (h:s=t):Ending.returned (.string s)=.returned (.string t):=by rw [h]
def leadN (p:Int→Bool) (s:ByteArray):Nat:=(posOf (s.size:Int) ((each s).1.drop (cnt p (each s).1))).toNat
def leadAt (p:Int→Bool) (s:ByteArray) (b pos:Nat):Prop:=(eachF s b pos).2 = -1∧leadN p s=(posOf (s.size:Int) ((eachF s b pos).1.drop (cnt p (eachF s b pos).1))).toNat
theorem leadAt_start (p:Int→Bool) (s:ByteArray) (h:(each s).2 = -1):leadAt p s s.size 0:=⟨h,rfl⟩
theorem leadAt_good {p:Int→Bool} {s:ByteArray} {b pos:Nat} (hp:pos < s.size) (h:leadAt p s b pos):¬ badAt s pos∨b=0:=by
 cases b with
 | zero=>right;rfl
 | succ b =>
  left
  intro hb
  have:=h.1
  rw [eachF_bad _ _ _ hp hb] at this;simp only [] at this;omega
theorem leadAt_one {p:Int→Bool} {s:ByteArray} {b pos:Nat} (hp:pos < s.size) (h:leadAt p s (b+1) pos) (hq:p (Utf8.decode s pos).1=true):leadAt p s b (pos+(Utf8.decode s pos).2):=by
 have hb:¬ badAt s pos:=by rcases leadAt_good hp h with h | h;exact h;omega
 unfold leadAt at h ⊢
 rw [eachF_one _ _ _ hp hb] at h
 refine ⟨h.1,?_⟩
 rw [h.2,cnt_pos hq]
 rfl
theorem leadAt_stop {p:Int→Bool} {s:ByteArray} {b pos:Nat} (hp:pos < s.size) (h:leadAt p s (b+1) pos) (hq:p (Utf8.decode s pos).1=false):pos=leadN p s:=by
 have hb:¬ badAt s pos:=by rcases leadAt_good hp h with h | h;exact h;omega
 unfold leadAt at h
 rw [eachF_one _ _ _ hp hb] at h
 rw [h.2,cnt_zero hq]
 simp [posOf]
theorem leadAt_end {p:Int→Bool} {s:ByteArray} {b pos:Nat} (hp:¬ pos < s.size) (h:leadAt p s b pos):s=s.extract 0 (leadN p s):=by
 unfold leadAt at h
 rw [eachF_end _ _ _ hp] at h
 rw [h.2]
 simp [posOf]
set_option maxHeartbeats 1000000 in
theorem lead_sp (s:ByteArray) (w:World) (h:(each s).2 = -1) :
  Calls Tryz.prog 118 #[.string s,.func (.func 119) #[] #[]] w fun e w'=>e=.returned (.string (s.extract 0 (leadN spB s)))∧Below w.heap.size w w':=by
 have HA:=Lib.hid (leadAt_start spB s h)
 clear h
 go_enter Tryz.func118,Tryz.ntmps118
 go_wp2
 go_loopw [] (fun wr=>∃ (pos b:Nat),wr.heap[w.heap.size]? = some (.stringIter s pos)∧Below w.heap.size w wr∧Hid (leadAt spB s b pos)∧s.size≤pos+b) (fun wr=>s.size - wr.iterPos w.heap.size)
 case atStart=>exact ⟨0,s.size,World.iter_heap w s 0,(Below.refl _ _).alloc (Nat.le_refl _) _,HA.out,by omega⟩
 case round =>
  obtain ⟨pos,b,hit,hbw,HS,hb⟩:=hrel
  have hpos0:=iterPos_of hit
  clear HA
  by_cases hp:pos < s.size
  ·have hnx:∀ ty,(Instr.next (.pointer (some ⟨w.heap.size,0,none⟩)) true ty).run Tryz.prog wr=_:=fun ty=>Lib.run_next_any_at wr w.heap.size s pos ty hit hp
   have hwd:=width_pos s pos hp
   have hwl:=width_le s pos hp
   obtain ⟨b,rfl⟩:∃ f',b=f'+1:=⟨b - 1,by omega⟩
   have hit2:=Lib.iterAt_heap wr w.heap.size s pos (pos+(Utf8.decode s pos).2) hit
   have hbw2:=Lib.below_iterAt hbw (k:=w.heap.size) (Nat.le_refl _) s (pos+(Utf8.decode s pos).2)
   obtain ⟨W1,hW1⟩:∃ W1,W1=wr.iterAt w.heap.size s (pos+(Utf8.decode s pos).2):=⟨_,rfl⟩
   rw [← hW1] at hnx hit2 hbw2
   clear hW1 hit hbw
   by_cases hq:spB (Utf8.decode s pos).1=true
   ·have HN:=Lib.hid (leadAt_one hp HS.out hq)
    clear HS
    go_wp2_with (go_at_call 119;refine (isSpace_any _ _).mono ?_;rintro e w' ⟨rfl,rfl⟩)
    go_roundw
    case rel=>exact ⟨_,b,hit2,hbw2,HN.out,by omega⟩
    case measure=>rw [iterPos_of hit2,hpos0];omega
   ·simp only [Bool.not_eq_true] at hq
    have HN:=Lib.hid (leadAt_stop hp HS.out hq)
    clear HS
    go_wp2_with (go_at_call 119;refine (isSpace_any _ _).mono ?_;rintro e w' ⟨rfl,rfl⟩)
    go_ret
    exact ⟨str_ext HN.out,hbw2⟩
  ·have hnx:∀ ty,(Instr.next (.pointer (some ⟨w.heap.size,0,none⟩)) true ty).run Tryz.prog wr=_:=fun ty=>Lib.run_next_end_at wr w.heap.size s pos ty hit hp
   have HN:=Lib.hid (leadAt_end hp HS.out)
   clear HS
   go_wp2
   go_ret
   exact ⟨str_all HN.out,hbw⟩
set_option maxHeartbeats 1000000 in
theorem lead_nm (s:ByteArray) (w:World) (h:(each s).2 = -1) :
  Calls Tryz.prog 118 #[.string s,.func (.func 120) #[] #[]] w fun e w'=>e=.returned (.string (s.extract 0 (leadN nmB s)))∧Below w.heap.size w w':=by
 have HA:=Lib.hid (leadAt_start nmB s h)
 clear h
 go_enter Tryz.func118,Tryz.ntmps118
 go_wp2
 go_loopw [] (fun wr=>∃ (pos b:Nat),wr.heap[w.heap.size]? = some (.stringIter s pos)∧Below w.heap.size w wr∧Hid (leadAt nmB s b pos)∧s.size≤pos+b) (fun wr=>s.size - wr.iterPos w.heap.size)
 case atStart=>exact ⟨0,s.size,World.iter_heap w s 0,(Below.refl _ _).alloc (Nat.le_refl _) _,HA.out,by omega⟩
 case round =>
  obtain ⟨pos,b,hit,hbw,HS,hb⟩:=hrel
  have hpos0:=iterPos_of hit
  clear HA
  by_cases hp:pos < s.size
  ·have hnx:∀ ty,(Instr.next (.pointer (some ⟨w.heap.size,0,none⟩)) true ty).run Tryz.prog wr=_:=fun ty=>Lib.run_next_any_at wr w.heap.size s pos ty hit hp
   have hwd:=width_pos s pos hp
   have hwl:=width_le s pos hp
   obtain ⟨b,rfl⟩:∃ f',b=f'+1:=⟨b - 1,by omega⟩
   have hit2:=Lib.iterAt_heap wr w.heap.size s pos (pos+(Utf8.decode s pos).2) hit
   have hbw2:=Lib.below_iterAt hbw (k:=w.heap.size) (Nat.le_refl _) s (pos+(Utf8.decode s pos).2)
   obtain ⟨W1,hW1⟩:∃ W1,W1=wr.iterAt w.heap.size s (pos+(Utf8.decode s pos).2):=⟨_,rfl⟩
   rw [← hW1] at hnx hit2 hbw2
   clear hW1 hit hbw
   by_cases hq:nmB (Utf8.decode s pos).1=true
   ·have HN:=Lib.hid (leadAt_one hp HS.out hq)
    clear HS
    go_wp2_with (go_at_call 120;refine (isNamePart_any _ _).mono ?_;rintro e w' ⟨rfl,rfl⟩)
    go_roundw
    case rel=>exact ⟨_,b,hit2,hbw2,HN.out,by omega⟩
    case measure=>rw [iterPos_of hit2,hpos0];omega
   ·simp only [Bool.not_eq_true] at hq
    have HN:=Lib.hid (leadAt_stop hp HS.out hq)
    clear HS
    go_wp2_with (go_at_call 120;refine (isNamePart_any _ _).mono ?_;rintro e w' ⟨rfl,rfl⟩)
    go_ret
    exact ⟨str_ext HN.out,hbw2⟩
  ·have hnx:∀ ty,(Instr.next (.pointer (some ⟨w.heap.size,0,none⟩)) true ty).run Tryz.prog wr=_:=fun ty=>Lib.run_next_end_at wr w.heap.size s pos ty hit hp
   have HN:=Lib.hid (leadAt_end hp HS.out)
   clear HS
   go_wp2
   go_ret
   exact ⟨str_all HN.out,hbw⟩
set_option maxHeartbeats 1000000 in
theorem lead_dg (s:ByteArray) (w:World) (h:(each s).2 = -1) :
  Calls Tryz.prog 118 #[.string s,.func (.func 122) #[] #[]] w fun e w'=>e=.returned (.string (s.extract 0 (leadN dgB s)))∧Below w.heap.size w w':=by
 have HA:=Lib.hid (leadAt_start dgB s h)
 clear h
 go_enter Tryz.func118,Tryz.ntmps118
 go_wp2
 go_loopw [] (fun wr=>∃ (pos b:Nat),wr.heap[w.heap.size]? = some (.stringIter s pos)∧Below w.heap.size w wr∧Hid (leadAt dgB s b pos)∧s.size≤pos+b) (fun wr=>s.size - wr.iterPos w.heap.size)
 case atStart=>exact ⟨0,s.size,World.iter_heap w s 0,(Below.refl _ _).alloc (Nat.le_refl _) _,HA.out,by omega⟩
 case round =>
  obtain ⟨pos,b,hit,hbw,HS,hb⟩:=hrel
  have hpos0:=iterPos_of hit
  clear HA
  by_cases hp:pos < s.size
  ·have hnx:∀ ty,(Instr.next (.pointer (some ⟨w.heap.size,0,none⟩)) true ty).run Tryz.prog wr=_:=fun ty=>Lib.run_next_any_at wr w.heap.size s pos ty hit hp
   have hwd:=width_pos s pos hp
   have hwl:=width_le s pos hp
   obtain ⟨b,rfl⟩:∃ f',b=f'+1:=⟨b - 1,by omega⟩
   have hit2:=Lib.iterAt_heap wr w.heap.size s pos (pos+(Utf8.decode s pos).2) hit
   have hbw2:=Lib.below_iterAt hbw (k:=w.heap.size) (Nat.le_refl _) s (pos+(Utf8.decode s pos).2)
   obtain ⟨W1,hW1⟩:∃ W1,W1=wr.iterAt w.heap.size s (pos+(Utf8.decode s pos).2):=⟨_,rfl⟩
   rw [← hW1] at hnx hit2 hbw2
   clear hW1 hit hbw
   by_cases hq:dgB (Utf8.decode s pos).1=true
   ·have HN:=Lib.hid (leadAt_one hp HS.out hq)
    clear HS
    go_wp2_with (go_at_call 122;refine (isDigit_any _ _).mono ?_;rintro e w' ⟨rfl,rfl⟩)
    go_roundw
    case rel=>exact ⟨_,b,hit2,hbw2,HN.out,by omega⟩
    case measure=>rw [iterPos_of hit2,hpos0];omega
   ·simp only [Bool.not_eq_true] at hq
    have HN:=Lib.hid (leadAt_stop hp HS.out hq)
    clear HS
    go_wp2_with (go_at_call 122;refine (isDigit_any _ _).mono ?_;rintro e w' ⟨rfl,rfl⟩)
    go_ret
    exact ⟨str_ext HN.out,hbw2⟩
  ·have hnx:∀ ty,(Instr.next (.pointer (some ⟨w.heap.size,0,none⟩)) true ty).run Tryz.prog wr=_:=fun ty=>Lib.run_next_end_at wr w.heap.size s pos ty hit hp
   have HN:=Lib.hid (leadAt_end hp HS.out)
   clear HS
   go_wp2
   go_ret
   exact ⟨str_all HN.out,hbw⟩
set_option maxHeartbeats 1000000 in
theorem lead_ln (s:ByteArray) (w:World) (h:(each s).2 = -1) :
  Calls Tryz.prog 118 #[.string s,.func (.func 124) #[] #[]] w fun e w'=>e=.returned (.string (s.extract 0 (leadN lnB s)))∧Below w.heap.size w w':=by
 have HA:=Lib.hid (leadAt_start lnB s h)
 clear h
 go_enter Tryz.func118,Tryz.ntmps118
 go_wp2
 go_loopw [] (fun wr=>∃ (pos b:Nat),wr.heap[w.heap.size]? = some (.stringIter s pos)∧Below w.heap.size w wr∧Hid (leadAt lnB s b pos)∧s.size≤pos+b) (fun wr=>s.size - wr.iterPos w.heap.size)
 case atStart=>exact ⟨0,s.size,World.iter_heap w s 0,(Below.refl _ _).alloc (Nat.le_refl _) _,HA.out,by omega⟩
 case round =>
  obtain ⟨pos,b,hit,hbw,HS,hb⟩:=hrel
  have hpos0:=iterPos_of hit
  clear HA
  by_cases hp:pos < s.size
  ·have hnx:∀ ty,(Instr.next (.pointer (some ⟨w.heap.size,0,none⟩)) true ty).run Tryz.prog wr=_:=fun ty=>Lib.run_next_any_at wr w.heap.size s pos ty hit hp
   have hwd:=width_pos s pos hp
   have hwl:=width_le s pos hp
   obtain ⟨b,rfl⟩:∃ f',b=f'+1:=⟨b - 1,by omega⟩
   have hit2:=Lib.iterAt_heap wr w.heap.size s pos (pos+(Utf8.decode s pos).2) hit
   have hbw2:=Lib.below_iterAt hbw (k:=w.heap.size) (Nat.le_refl _) s (pos+(Utf8.decode s pos).2)
   obtain ⟨W1,hW1⟩:∃ W1,W1=wr.iterAt w.heap.size s (pos+(Utf8.decode s pos).2):=⟨_,rfl⟩
   rw [← hW1] at hnx hit2 hbw2
   clear hW1 hit hbw
   by_cases hq:lnB (Utf8.decode s pos).1=true
   ·have HN:=Lib.hid (leadAt_one hp HS.out hq)
    clear HS
    go_wp2_with (go_at_call 124;refine (isLinePart_any _ _).mono ?_;rintro e w' ⟨rfl,rfl⟩)
    go_roundw
    case rel=>exact ⟨_,b,hit2,hbw2,HN.out,by omega⟩
    case measure=>rw [iterPos_of hit2,hpos0];omega
   ·simp only [Bool.not_eq_true] at hq
    have HN:=Lib.hid (leadAt_stop hp HS.out hq)
    clear HS
    go_wp2_with (go_at_call 124;refine (isLinePart_any _ _).mono ?_;rintro e w' ⟨rfl,rfl⟩)
    go_ret
    exact ⟨str_ext HN.out,hbw2⟩
  ·have hnx:∀ ty,(Instr.next (.pointer (some ⟨w.heap.size,0,none⟩)) true ty).run Tryz.prog wr=_:=fun ty=>Lib.run_next_end_at wr w.heap.size s pos ty hit hp
   have HN:=Lib.hid (leadAt_end hp HS.out)
   clear HS
   go_wp2
   go_ret
   exact ⟨str_all HN.out,hbw⟩
end Go.Proofs.YtmlmjopfbohglaaGreatDoor
