/- Parts of the proof: KQ KV. -/
import Derived.Test.YtmlmjopfbohglaaGreatDoorPg43
namespace Go.Proofs.YtmlmjopfbohglaaGreatDoor
open Go.RowKit
open Go.Maps
def twoK (a b pos:Int) (x y:KR):Int × Int:=if x.e=0 then (if y.e=0 then (if (if a=0 then x.k=y.k∧x.k≠0 else x.k=a∧y.k=b) then (0,0) else (pos,7)) else (y.pos,y.e)) else (x.pos,x.e)
set_option maxRecDepth 100000 in
set_option maxHeartbeats 16000000 in
theorem rtwo_00 (op name:ByteArray) (n pos:Int) (kb ko len cap:Nat) (w:World) (da:Option Addr) (dl dc:Nat) (hl:len=2) (op1 name1:ByteArray) (n1 pos1:Int) (a1:Option Addr) (l1 cap1:Nat) (op2 name2:ByteArray) (n2 pos2:Int) (a2:Option Addr) (l2 cap2:Nat) (hn1:NodeAt w kb ko op1 name1 n1 pos1 a1 l1 cap1) (hn2:NodeAt w kb (ko+5) op2 name2 n2 pos2 a2 l2 cap2) (x y:KR) (hc1':∀ W,Below w.heap.size w W→Calls Tryz.prog 148 #[.slice da dl dc,.agg #[.string op1,.string name1,.int .i64 n1,.int .i64 pos1,.slice a1 l1 cap1]] W fun e w'=>e=.returned (.tuple #[.int .i64 x.k,.int .i64 x.pos,.int .i64 x.e])∧Below W.heap.size W w') (hc2':∀ W,Below w.heap.size w W→Calls Tryz.prog 148 #[.slice da dl dc,.agg #[.string op2,.string name2,.int .i64 n2,.int .i64 pos2,.slice a2 l2 cap2]] W fun e w'=>e=.returned (.tuple #[.int .i64 y.k,.int .i64 y.pos,.int .i64 y.e])∧Below W.heap.size W w') :
  Calls Tryz.prog 102 #[.slice da dl dc,.agg #[.string op,.string name,.int .i64 n,.int .i64 pos,.slice (some ⟨kb,ko,none⟩) len cap],.int .i64 0,.int .i64 0] w fun e w'=>e=.returned (.tuple #[.int .i64 (twoK 0 0 pos x y).1,.int .i64 (twoK 0 0 pos x y).2])∧Below w.heap.size w w':=by
 have hc5:=cellsNode
 have HW:=Lib.hid (below_box w (boxOf op name n pos (some ⟨kb,ko,none⟩) len cap))
 have HB:=Lib.hid (new_at w (boxOf op name n pos (some ⟨kb,ko,none⟩) len cap))
 obtain ⟨b0,b1,b2,b3,b4⟩:=box_cells HB.out
 obtain ⟨c10,c11,c12,c13,c14⟩:=hn1.below HW.out
 obtain ⟨c20,c21,c22,c23,c24⟩:=hn2.below HW.out
 simp only [Nat.add_assoc,Nat.reduceAdd] at c21 c22 c23 c24
 have hl2a:(0:Int) < len:=by omega
 have hl2b:(1:Int) < len:=by omega
 have hl0:0 < len:=by omega
 have hl1:1 < len:=by omega
 have HC1:=Lib.hid (hc1' _ HW.out)
 have HC2:=Lib.hid (fun W (h:Below w.heap.size w W)=>hc2' W h)
 clear hl hc1' hc2' hn1 hn2
 obtain ⟨rv,hrv⟩:∃ rv,rv=twoK 0 0 pos x y:=⟨_,rfl⟩
 rw [← hrv]
 have HRV:=Lib.hid hrv
 clear hrv
 obtain ⟨xk,xp,xe⟩:=x
 obtain ⟨yk,yp,ye⟩:=y
 simp only [] at HC1 HC2
 go_enter Tryz.func102,Tryz.ntmps102
 go_wp2_with fail
 refine HC1.out.mono ?_
 rintro e w2 ⟨rfl,hb2⟩
 have HW2:=Lib.hid (HW.out.trans (hb2.mono HW.out.size))
 replace b3:=cell_below hb2 b3
 replace b4:=cell_below hb2 b4
 replace c20:=cell_below hb2 c20
 replace c21:=cell_below hb2 c21
 replace c22:=cell_below hb2 c22
 replace c23:=cell_below hb2 c23
 replace c24:=cell_below hb2 c24
 clear hb2 HC1 HW HB b0 b1 b2 c10 c11 c12 c13 c14
 by_cases hxe:xe=0
 ·subst hxe
  have HC3:=Lib.hid (HC2.out w2 HW2.out)
  clear HC2
  go_wp2_with fail
  refine HC3.out.mono ?_
  rintro e w3 ⟨rfl,hb3⟩
  have HW3:=Lib.hid (HW2.out.trans (hb3.mono HW2.out.size))
  replace b3:=cell_below hb3 b3
  clear hb3 HC3 HW2 b4 c20 c21 c22 c23 c24
  by_cases hye:ye=0
  ·subst hye
   rcases bool_two (xk == yk) with ha | ha
   ·rcases bool_two (xk != 0) with hb | hb
    ·have hrv2:rv=(0,0):=by
      rw [HRV.out]
      unfold twoK
      simp at ha hb
      subst ha;simp [hb]
     clear HRV
     subst hrv2
     go_wp2_with fail
     go_ret2
     exact ⟨rfl,HW3.out⟩
    ·have hrv2:rv=(pos,7):=by
      rw [HRV.out]
      unfold twoK
      simp at ha hb
      subst ha;simp [hb]
     clear HRV
     subst hrv2
     go_wp2_with fail
     go_ret2
     exact ⟨rfl,HW3.out⟩
   ·rcases bool_two (xk != 0) with hb | hb
    ·have hrv2:rv=(pos,7):=by
      rw [HRV.out]
      unfold twoK
      simp at ha hb
      simp [ha]
     clear HRV
     subst hrv2
     go_wp2_with fail
     go_ret2
     exact ⟨rfl,HW3.out⟩
    ·have hrv2:rv=(pos,7):=by
      rw [HRV.out]
      unfold twoK
      simp at ha hb
      simp [ha]
     clear HRV
     subst hrv2
     go_wp2_with fail
     go_ret2
     exact ⟨rfl,HW3.out⟩
  ·have hrv2:rv=(yp,ye):=by rw [HRV.out];unfold twoK;simp [hye]
   have hyb:(ye != 0)=true:=by simp [hye]
   clear HRV hye
   subst hrv2
   go_wp2_with fail
   go_ret2
   exact ⟨rfl,HW3.out⟩
 ·have hrv2:rv=(xp,xe):=by rw [HRV.out];unfold twoK;simp [hxe]
  have hxb:(xe != 0)=true:=by simp [hxe]
  clear HRV hxe HC2
  subst hrv2
  go_wp2_with fail
  go_ret2
  exact ⟨rfl,HW2.out⟩
set_option maxRecDepth 100000 in
set_option maxHeartbeats 16000000 in
theorem rtwo_11 (op name:ByteArray) (n pos:Int) (kb ko len cap:Nat) (w:World) (da:Option Addr) (dl dc:Nat) (hl:len=2) (op1 name1:ByteArray) (n1 pos1:Int) (a1:Option Addr) (l1 cap1:Nat) (op2 name2:ByteArray) (n2 pos2:Int) (a2:Option Addr) (l2 cap2:Nat) (hn1:NodeAt w kb ko op1 name1 n1 pos1 a1 l1 cap1) (hn2:NodeAt w kb (ko+5) op2 name2 n2 pos2 a2 l2 cap2) (x y:KR) (hc1':∀ W,Below w.heap.size w W→Calls Tryz.prog 148 #[.slice da dl dc,.agg #[.string op1,.string name1,.int .i64 n1,.int .i64 pos1,.slice a1 l1 cap1]] W fun e w'=>e=.returned (.tuple #[.int .i64 x.k,.int .i64 x.pos,.int .i64 x.e])∧Below W.heap.size W w') (hc2':∀ W,Below w.heap.size w W→Calls Tryz.prog 148 #[.slice da dl dc,.agg #[.string op2,.string name2,.int .i64 n2,.int .i64 pos2,.slice a2 l2 cap2]] W fun e w'=>e=.returned (.tuple #[.int .i64 y.k,.int .i64 y.pos,.int .i64 y.e])∧Below W.heap.size W w') :
  Calls Tryz.prog 102 #[.slice da dl dc,.agg #[.string op,.string name,.int .i64 n,.int .i64 pos,.slice (some ⟨kb,ko,none⟩) len cap],.int .i64 1,.int .i64 1] w fun e w'=>e=.returned (.tuple #[.int .i64 (twoK 1 1 pos x y).1,.int .i64 (twoK 1 1 pos x y).2])∧Below w.heap.size w w':=by
 have hc5:=cellsNode
 have HW:=Lib.hid (below_box w (boxOf op name n pos (some ⟨kb,ko,none⟩) len cap))
 have HB:=Lib.hid (new_at w (boxOf op name n pos (some ⟨kb,ko,none⟩) len cap))
 obtain ⟨b0,b1,b2,b3,b4⟩:=box_cells HB.out
 obtain ⟨c10,c11,c12,c13,c14⟩:=hn1.below HW.out
 obtain ⟨c20,c21,c22,c23,c24⟩:=hn2.below HW.out
 simp only [Nat.add_assoc,Nat.reduceAdd] at c21 c22 c23 c24
 have hl2a:(0:Int) < len:=by omega
 have hl2b:(1:Int) < len:=by omega
 have hl0:0 < len:=by omega
 have hl1:1 < len:=by omega
 have HC1:=Lib.hid (hc1' _ HW.out)
 have HC2:=Lib.hid (fun W (h:Below w.heap.size w W)=>hc2' W h)
 clear hl hc1' hc2' hn1 hn2
 obtain ⟨rv,hrv⟩:∃ rv,rv=twoK 1 1 pos x y:=⟨_,rfl⟩
 rw [← hrv]
 have HRV:=Lib.hid hrv
 clear hrv
 obtain ⟨xk,xp,xe⟩:=x
 obtain ⟨yk,yp,ye⟩:=y
 simp only [] at HC1 HC2
 go_enter Tryz.func102,Tryz.ntmps102
 go_wp2_with fail
 refine HC1.out.mono ?_
 rintro e w2 ⟨rfl,hb2⟩
 have HW2:=Lib.hid (HW.out.trans (hb2.mono HW.out.size))
 replace b3:=cell_below hb2 b3
 replace b4:=cell_below hb2 b4
 replace c20:=cell_below hb2 c20
 replace c21:=cell_below hb2 c21
 replace c22:=cell_below hb2 c22
 replace c23:=cell_below hb2 c23
 replace c24:=cell_below hb2 c24
 clear hb2 HC1 HW HB b0 b1 b2 c10 c11 c12 c13 c14
 by_cases hxe:xe=0
 ·subst hxe
  have HC3:=Lib.hid (HC2.out w2 HW2.out)
  clear HC2
  go_wp2_with fail
  refine HC3.out.mono ?_
  rintro e w3 ⟨rfl,hb3⟩
  have HW3:=Lib.hid (HW2.out.trans (hb3.mono HW2.out.size))
  replace b3:=cell_below hb3 b3
  clear hb3 HC3 HW2 b4 c20 c21 c22 c23 c24
  by_cases hye:ye=0
  ·subst hye
   rcases bool_two (xk != 1) with ha | ha
   ·rcases bool_two (yk != 1) with hb | hb
    ·have hrv2:rv=(pos,7):=by
      rw [HRV.out]
      unfold twoK
      simp at ha hb
      simp [ha]
     clear HRV
     subst hrv2
     go_wp2_with fail
     go_ret2
     exact ⟨rfl,HW3.out⟩
    ·have hrv2:rv=(pos,7):=by
      rw [HRV.out]
      unfold twoK
      simp at ha hb
      simp [ha]
     clear HRV
     subst hrv2
     go_wp2_with fail
     go_ret2
     exact ⟨rfl,HW3.out⟩
   ·rcases bool_two (yk != 1) with hb | hb
    ·have hrv2:rv=(pos,7):=by
      rw [HRV.out]
      unfold twoK
      simp at ha hb
      simp [hb]
     clear HRV
     subst hrv2
     go_wp2_with fail
     go_ret2
     exact ⟨rfl,HW3.out⟩
    ·have hrv2:rv=(0,0):=by
      rw [HRV.out]
      unfold twoK
      simp at ha hb
      simp [ha,hb]
     clear HRV
     subst hrv2
     go_wp2_with fail
     go_ret2
     exact ⟨rfl,HW3.out⟩
  ·have hrv2:rv=(yp,ye):=by rw [HRV.out];unfold twoK;simp [hye]
   have hyb:(ye != 0)=true:=by simp [hye]
   clear HRV hye
   subst hrv2
   go_wp2_with fail
   go_ret2
   exact ⟨rfl,HW3.out⟩
 ·have hrv2:rv=(xp,xe):=by rw [HRV.out];unfold twoK;simp [hxe]
  have hxb:(xe != 0)=true:=by simp [hxe]
  clear HRV hxe HC2
  subst hrv2
  go_wp2_with fail
  go_ret2
  exact ⟨rfl,HW2.out⟩
set_option maxRecDepth 100000 in
set_option maxHeartbeats 16000000 in
theorem rtwo_12 (op name:ByteArray) (n pos:Int) (kb ko len cap:Nat) (w:World) (da:Option Addr) (dl dc:Nat) (hl:len=2) (op1 name1:ByteArray) (n1 pos1:Int) (a1:Option Addr) (l1 cap1:Nat) (op2 name2:ByteArray) (n2 pos2:Int) (a2:Option Addr) (l2 cap2:Nat) (hn1:NodeAt w kb ko op1 name1 n1 pos1 a1 l1 cap1) (hn2:NodeAt w kb (ko+5) op2 name2 n2 pos2 a2 l2 cap2) (x y:KR) (hc1':∀ W,Below w.heap.size w W→Calls Tryz.prog 148 #[.slice da dl dc,.agg #[.string op1,.string name1,.int .i64 n1,.int .i64 pos1,.slice a1 l1 cap1]] W fun e w'=>e=.returned (.tuple #[.int .i64 x.k,.int .i64 x.pos,.int .i64 x.e])∧Below W.heap.size W w') (hc2':∀ W,Below w.heap.size w W→Calls Tryz.prog 148 #[.slice da dl dc,.agg #[.string op2,.string name2,.int .i64 n2,.int .i64 pos2,.slice a2 l2 cap2]] W fun e w'=>e=.returned (.tuple #[.int .i64 y.k,.int .i64 y.pos,.int .i64 y.e])∧Below W.heap.size W w') :
  Calls Tryz.prog 102 #[.slice da dl dc,.agg #[.string op,.string name,.int .i64 n,.int .i64 pos,.slice (some ⟨kb,ko,none⟩) len cap],.int .i64 1,.int .i64 2] w fun e w'=>e=.returned (.tuple #[.int .i64 (twoK 1 2 pos x y).1,.int .i64 (twoK 1 2 pos x y).2])∧Below w.heap.size w w':=by
 have hc5:=cellsNode
 have HW:=Lib.hid (below_box w (boxOf op name n pos (some ⟨kb,ko,none⟩) len cap))
 have HB:=Lib.hid (new_at w (boxOf op name n pos (some ⟨kb,ko,none⟩) len cap))
 obtain ⟨b0,b1,b2,b3,b4⟩:=box_cells HB.out
 obtain ⟨c10,c11,c12,c13,c14⟩:=hn1.below HW.out
 obtain ⟨c20,c21,c22,c23,c24⟩:=hn2.below HW.out
 simp only [Nat.add_assoc,Nat.reduceAdd] at c21 c22 c23 c24
 have hl2a:(0:Int) < len:=by omega
 have hl2b:(1:Int) < len:=by omega
 have hl0:0 < len:=by omega
 have hl1:1 < len:=by omega
 have HC1:=Lib.hid (hc1' _ HW.out)
 have HC2:=Lib.hid (fun W (h:Below w.heap.size w W)=>hc2' W h)
 clear hl hc1' hc2' hn1 hn2
 obtain ⟨rv,hrv⟩:∃ rv,rv=twoK 1 2 pos x y:=⟨_,rfl⟩
 rw [← hrv]
 have HRV:=Lib.hid hrv
 clear hrv
 obtain ⟨xk,xp,xe⟩:=x
 obtain ⟨yk,yp,ye⟩:=y
 simp only [] at HC1 HC2
 go_enter Tryz.func102,Tryz.ntmps102
 go_wp2_with fail
 refine HC1.out.mono ?_
 rintro e w2 ⟨rfl,hb2⟩
 have HW2:=Lib.hid (HW.out.trans (hb2.mono HW.out.size))
 replace b3:=cell_below hb2 b3
 replace b4:=cell_below hb2 b4
 replace c20:=cell_below hb2 c20
 replace c21:=cell_below hb2 c21
 replace c22:=cell_below hb2 c22
 replace c23:=cell_below hb2 c23
 replace c24:=cell_below hb2 c24
 clear hb2 HC1 HW HB b0 b1 b2 c10 c11 c12 c13 c14
 by_cases hxe:xe=0
 ·subst hxe
  have HC3:=Lib.hid (HC2.out w2 HW2.out)
  clear HC2
  go_wp2_with fail
  refine HC3.out.mono ?_
  rintro e w3 ⟨rfl,hb3⟩
  have HW3:=Lib.hid (HW2.out.trans (hb3.mono HW2.out.size))
  replace b3:=cell_below hb3 b3
  clear hb3 HC3 HW2 b4 c20 c21 c22 c23 c24
  by_cases hye:ye=0
  ·subst hye
   rcases bool_two (xk != 1) with ha | ha
   ·rcases bool_two (yk != 2) with hb | hb
    ·have hrv2:rv=(pos,7):=by
      rw [HRV.out]
      unfold twoK
      simp at ha hb
      simp [ha]
     clear HRV
     subst hrv2
     go_wp2_with fail
     go_ret2
     exact ⟨rfl,HW3.out⟩
    ·have hrv2:rv=(pos,7):=by
      rw [HRV.out]
      unfold twoK
      simp at ha hb
      simp [ha]
     clear HRV
     subst hrv2
     go_wp2_with fail
     go_ret2
     exact ⟨rfl,HW3.out⟩
   ·rcases bool_two (yk != 2) with hb | hb
    ·have hrv2:rv=(pos,7):=by
      rw [HRV.out]
      unfold twoK
      simp at ha hb
      simp [hb]
     clear HRV
     subst hrv2
     go_wp2_with fail
     go_ret2
     exact ⟨rfl,HW3.out⟩
    ·have hrv2:rv=(0,0):=by
      rw [HRV.out]
      unfold twoK
      simp at ha hb
      simp [ha,hb]
     clear HRV
     subst hrv2
     go_wp2_with fail
     go_ret2
     exact ⟨rfl,HW3.out⟩
  ·have hrv2:rv=(yp,ye):=by rw [HRV.out];unfold twoK;simp [hye]
   have hyb:(ye != 0)=true:=by simp [hye]
   clear HRV hye
   subst hrv2
   go_wp2_with fail
   go_ret2
   exact ⟨rfl,HW3.out⟩
 ·have hrv2:rv=(xp,xe):=by rw [HRV.out];unfold twoK;simp [hxe]
  have hxb:(xe != 0)=true:=by simp [hxe]
  clear HRV hxe HC2
  subst hrv2
  go_wp2_with fail
  go_ret2
  exact ⟨rfl,HW2.out⟩
set_option maxRecDepth 100000 in
set_option maxHeartbeats 16000000 in
theorem rtwo_22 (op name:ByteArray) (n pos:Int) (kb ko len cap:Nat) (w:World) (da:Option Addr) (dl dc:Nat) (hl:len=2) (op1 name1:ByteArray) (n1 pos1:Int) (a1:Option Addr) (l1 cap1:Nat) (op2 name2:ByteArray) (n2 pos2:Int) (a2:Option Addr) (l2 cap2:Nat) (hn1:NodeAt w kb ko op1 name1 n1 pos1 a1 l1 cap1) (hn2:NodeAt w kb (ko+5) op2 name2 n2 pos2 a2 l2 cap2) (x y:KR) (hc1':∀ W,Below w.heap.size w W→Calls Tryz.prog 148 #[.slice da dl dc,.agg #[.string op1,.string name1,.int .i64 n1,.int .i64 pos1,.slice a1 l1 cap1]] W fun e w'=>e=.returned (.tuple #[.int .i64 x.k,.int .i64 x.pos,.int .i64 x.e])∧Below W.heap.size W w') (hc2':∀ W,Below w.heap.size w W→Calls Tryz.prog 148 #[.slice da dl dc,.agg #[.string op2,.string name2,.int .i64 n2,.int .i64 pos2,.slice a2 l2 cap2]] W fun e w'=>e=.returned (.tuple #[.int .i64 y.k,.int .i64 y.pos,.int .i64 y.e])∧Below W.heap.size W w') :
  Calls Tryz.prog 102 #[.slice da dl dc,.agg #[.string op,.string name,.int .i64 n,.int .i64 pos,.slice (some ⟨kb,ko,none⟩) len cap],.int .i64 2,.int .i64 2] w fun e w'=>e=.returned (.tuple #[.int .i64 (twoK 2 2 pos x y).1,.int .i64 (twoK 2 2 pos x y).2])∧Below w.heap.size w w':=by
 have hc5:=cellsNode
 have HW:=Lib.hid (below_box w (boxOf op name n pos (some ⟨kb,ko,none⟩) len cap))
 have HB:=Lib.hid (new_at w (boxOf op name n pos (some ⟨kb,ko,none⟩) len cap))
 obtain ⟨b0,b1,b2,b3,b4⟩:=box_cells HB.out
 obtain ⟨c10,c11,c12,c13,c14⟩:=hn1.below HW.out
 obtain ⟨c20,c21,c22,c23,c24⟩:=hn2.below HW.out
 simp only [Nat.add_assoc,Nat.reduceAdd] at c21 c22 c23 c24
 have hl2a:(0:Int) < len:=by omega
 have hl2b:(1:Int) < len:=by omega
 have hl0:0 < len:=by omega
 have hl1:1 < len:=by omega
 have HC1:=Lib.hid (hc1' _ HW.out)
 have HC2:=Lib.hid (fun W (h:Below w.heap.size w W)=>hc2' W h)
 clear hl hc1' hc2' hn1 hn2
 obtain ⟨rv,hrv⟩:∃ rv,rv=twoK 2 2 pos x y:=⟨_,rfl⟩
 rw [← hrv]
 have HRV:=Lib.hid hrv
 clear hrv
 obtain ⟨xk,xp,xe⟩:=x
 obtain ⟨yk,yp,ye⟩:=y
 simp only [] at HC1 HC2
 go_enter Tryz.func102,Tryz.ntmps102
 go_wp2_with fail
 refine HC1.out.mono ?_
 rintro e w2 ⟨rfl,hb2⟩
 have HW2:=Lib.hid (HW.out.trans (hb2.mono HW.out.size))
 replace b3:=cell_below hb2 b3
 replace b4:=cell_below hb2 b4
 replace c20:=cell_below hb2 c20
 replace c21:=cell_below hb2 c21
 replace c22:=cell_below hb2 c22
 replace c23:=cell_below hb2 c23
 replace c24:=cell_below hb2 c24
 clear hb2 HC1 HW HB b0 b1 b2 c10 c11 c12 c13 c14
 by_cases hxe:xe=0
 ·subst hxe
  have HC3:=Lib.hid (HC2.out w2 HW2.out)
  clear HC2
  go_wp2_with fail
  refine HC3.out.mono ?_
  rintro e w3 ⟨rfl,hb3⟩
  have HW3:=Lib.hid (HW2.out.trans (hb3.mono HW2.out.size))
  replace b3:=cell_below hb3 b3
  clear hb3 HC3 HW2 b4 c20 c21 c22 c23 c24
  by_cases hye:ye=0
  ·subst hye
   rcases bool_two (xk != 2) with ha | ha
   ·rcases bool_two (yk != 2) with hb | hb
    ·have hrv2:rv=(pos,7):=by
      rw [HRV.out]
      unfold twoK
      simp at ha hb
      simp [ha]
     clear HRV
     subst hrv2
     go_wp2_with fail
     go_ret2
     exact ⟨rfl,HW3.out⟩
    ·have hrv2:rv=(pos,7):=by
      rw [HRV.out]
      unfold twoK
      simp at ha hb
      simp [ha]
     clear HRV
     subst hrv2
     go_wp2_with fail
     go_ret2
     exact ⟨rfl,HW3.out⟩
   ·rcases bool_two (yk != 2) with hb | hb
    ·have hrv2:rv=(pos,7):=by
      rw [HRV.out]
      unfold twoK
      simp at ha hb
      simp [hb]
     clear HRV
     subst hrv2
     go_wp2_with fail
     go_ret2
     exact ⟨rfl,HW3.out⟩
    ·have hrv2:rv=(0,0):=by
      rw [HRV.out]
      unfold twoK
      simp at ha hb
      simp [ha,hb]
     clear HRV
     subst hrv2
     go_wp2_with fail
     go_ret2
     exact ⟨rfl,HW3.out⟩
  ·have hrv2:rv=(yp,ye):=by rw [HRV.out];unfold twoK;simp [hye]
   have hyb:(ye != 0)=true:=by simp [hye]
   clear HRV hye
   subst hrv2
   go_wp2_with fail
   go_ret2
   exact ⟨rfl,HW3.out⟩
 ·have hrv2:rv=(xp,xe):=by rw [HRV.out];unfold twoK;simp [hxe]
  have hxb:(xe != 0)=true:=by simp [hxe]
  clear HRV hxe HC2
  subst hrv2
  go_wp2_with fail
  go_ret2
  exact ⟨rfl,HW2.out⟩
set_option maxRecDepth 100000 in
set_option maxHeartbeats 16000000 in
theorem rcall_any (op name:ByteArray) (n pos:Int) (a:Option Addr) (cap:Nat) (kids:Fo) (w:World) (ps:List Pd) (pa:Option Addr) (pc:Nat) (ds:List Dc) (da:Option Addr) (dc:Nat) (hp:PdRows w pa ps) (hpd:∀ p ∈ ps,DcsIn w p.pa p.params) (hpl:ps.length≤1000000) (hd:DcsIn w da ds) (hdl:ds.length≤1000000) (hin:KidsIn w a kids) (hsz:kids.sized) (hok:kids.allB Nd.okT=true) :
  Calls Tryz.prog 103 #[.slice pa ps.length pc,.slice da ds.length dc,.agg #[.string op,.string name,.int .i64 n,.int .i64 pos,.slice a kids.len cap]] w fun e w'=>e=.returned (.tuple #[.int .i64 (callR (ordD ds) (predsK ps) name pos kids).1,.int .i64 (callR (ordD ds) (predsK ps) name pos kids).2])∧Below w.heap.size w w':=by
 have hc3:=cellsDecl
 have hc5:=cellsNode
 have hc8:=cellsPred
 obtain ⟨q0,hq0⟩:∃ q0,q0=callR (ordD ds) (predsK ps) name pos kids:=⟨_,rfl⟩
 rw [← hq0]
 have HW:=Lib.hid (below_box w (boxOf op name n pos a kids.len cap))
 have HB:=Lib.hid (new_at w (boxOf op name n pos a kids.len cap))
 obtain ⟨b0,b1,b2,b3,b4⟩:=box_cells HB.out
 have HF:=Lib.hid (rfind_any ps pa pc name _ (hp.below HW.out) hpl)
 have HD:=Lib.hid hd
 have HSZ:=Lib.hid hsz
 have HOK:=Lib.hid hok
 have HDL:=Lib.hid hdl
 clear hd hsz hok hdl hpl
 cases hQ:predsK ps name with
 | none =>
  have hz:q0=(pos,5):=by rw [hq0];unfold callR;rw [hQ]
  have hf:=fidx_none ps name 0 hQ
  rw [hf] at HF
  subst hz
  clear hq0 hQ hf hp hpd hin
  go_enter Tryz.func103,Tryz.ntmps103
  go_wp2_with fail
  refine HF.out.mono ?_
  rintro e w2 ⟨rfl,hb2⟩
  replace b3:=cell_below hb2 b3
  have HW2:=Lib.hid (HW.out.trans (hb2.mono HW.out.size))
  clear HF hb2 HB b0 b1 b2 b4
  go_wp2_with fail
  go_ret2
  exact ⟨rfl,HW2.out⟩
 | some rs =>
  obtain ⟨pi,P,hPi,hfi,hPr⟩:=fidx_some ps name 0 rs hQ
  rw [Nat.zero_add] at hfi
  rw [hfi] at HF
  have hq1:q0=(if kids.len=rs.length then callK (ordD ds) pos kids rs else (pos,7)):=by rw [hq0];unfold callR;rw [hQ]
  have hpil:pi < ps.length:=(List.getElem?_eq_some_iff.1 hPi).1
  have hPin:=hpd P (List.mem_of_getElem? hPi)
  rw [hPr] at hPin
  obtain ⟨pb,po,rfl,hpat⟩:∃ b o,pa=some ⟨b,o,none⟩∧∀ i p,ps[i]? = some p→PdAt w b (o+i * 8) p:=by
   rcases hp with h | h
   ·rw [h] at hpil;cases hpil
   ·exact h
  have hp1:=(hpat pi P hPi).2.1
  rw [hPr] at hp1
  generalize P.pa=ra at hPin hp1
  generalize P.pcap=rcap at hp1
  have hpi2:(pi:Int) < ps.length:=by omega
  have hpi0:(0:Int)≤pi:=by omega
  have hpin:((pi:Int) < 0)=False:=by simp
  clear hpat hPi hfi hPr hpd hQ hq0 hp
  have p1:=cell_below HW.out hp1
  have HPI:=Lib.hid hPin
  have HP1:=Lib.hid hp1
  clear hPin hp1
  by_cases hlen:kids.len=rs.length
  ·rw [if_pos hlen] at hq1
   have HQ:=Lib.hid hq1
   have hlb:((kids.len:Int) != (rs.length:Int))=false:=by simp [hlen]
   have HL:=Lib.hid hlen
   clear hq1 hlen
   rcases hin with hnil | ⟨kb,ko,hab,hlim,hpos,hkin⟩
   ·subst hnil
    have hz0:((Fo.nil.len:Nat):Int)=0:=rfl
    have hz:q0=(0,0):=by rw [HQ.out];rfl
    subst hz
    go_enter Tryz.func103,Tryz.ntmps103
    go_wp2_with fail
    refine HF.out.mono ?_
    rintro e w2 ⟨rfl,hb2⟩
    replace b4:=cell_below hb2 b4
    replace p1:=cell_below hb2 p1
    have HW2:=Lib.hid (HW.out.trans (hb2.mono HW.out.size))
    have HB2:=Lib.hid ((hb2.block _ (lt_heap HB.out)).trans HB.out)
    replace b3:=cell_below hb2 b3
    clear HF hb2 HB b0 b1 b2
    go_wp2_with fail
    go_region_held3 (fun wz=>wz.cell? ⟨w.heap.size,3,none⟩=some (.int .i64 pos)∧wz.cell? ⟨w.heap.size,4,none⟩=some (.slice a Fo.nil.len cap)∧wz.cell? ⟨pb,po+pi * 8+1,none⟩=some (.slice ra rs.length rcap)) (go_keep) (fail)
    go_wp2_with fail
    go_loopw [9] (fun i wr=>i=.int .i64 0∧RowKit.Hid (wr.heap[w.heap.size]? = some (boxOf op name n pos a Fo.nil.len cap))∧Below w.heap.size w wr) (fun _ _=>0)
    case atStart=>exact ⟨rfl,HB2,HW2.out.drew⟩
    case round =>
     obtain ⟨rfl,HX,hbx⟩:=hrel
     clear b3 b4 p1
     obtain ⟨b0,b1,b2,b3,b4⟩:=box_cells HX.out
     go_wp2_with fail
     go_ret2
     exact ⟨rfl,hbx⟩
   ·subst hab
    have HKI:=Lib.hid hkin
    have hrl:0 < rs.length:=by
     have:=HL.out
     have:=hpos.1
     omega
    obtain ⟨rb,rO,hra,hrat⟩:∃ b o,ra=some ⟨b,o,none⟩∧∀ i d,rs[i]? = some d→DcAt w b (o+i * 3) d:=by
     rcases HPI.out with h | ⟨b,o,h1,h2,h3,h4⟩
     ·rw [h] at hrl;cases hrl
     ·exact ⟨b,o,h1,h3⟩
    subst hra
    have HDA:=Lib.hid hrat
    clear hkin hpos hrat
    go_enter Tryz.func103,Tryz.ntmps103
    go_wp2_with fail
    refine HF.out.mono ?_
    rintro e w2 ⟨rfl,hb2⟩
    replace b4:=cell_below hb2 b4
    replace p1:=cell_below hb2 p1
    have HW2:=Lib.hid (HW.out.trans (hb2.mono HW.out.size))
    have HB2:=Lib.hid ((hb2.block _ (lt_heap HB.out)).trans HB.out)
    have HST:=Lib.hid (Tail.start (P:=fun _=>True) (HKI.out.below HW2.out) (Fo.all_of (fun _ _=>trivial) kids))
    replace b3:=cell_below hb2 b3
    clear HF hb2 HB b0 b1 b2 HKI
    go_wp2_with fail
    go_region_held3 (fun wz=>wz.cell? ⟨w.heap.size,3,none⟩=some (.int .i64 pos)∧wz.cell? ⟨w.heap.size,4,none⟩=some (.slice (some ⟨kb,ko,none⟩) kids.len cap)∧wz.cell? ⟨pb,po+pi * 8+1,none⟩=some (.slice (some ⟨rb,rO,none⟩) rs.length rcap)) (go_keep) (fail)
    go_wp2_with fail
    go_loopw [9] (fun i wr=>∃ (k:Nat) (R:Fo),i=.int .i64 k∧RowKit.Hid (Tail wr (fun _=>True) kids R kb ko k)∧RowKit.Hid (q0=callK (ordD ds) pos R (rs.drop k))∧RowKit.Hid (R.allB Nd.okT=true)∧RowKit.Hid R.sized∧RowKit.Hid (wr.heap[w.heap.size]? = some (boxOf op name n pos (some ⟨kb,ko,none⟩) kids.len cap))∧Below w.heap.size w wr) (fun i _=>kids.len - (intOf i).toNat)
    case atStart=>exact ⟨0,kids,rfl,Lib.hid (HST.out.below (Below.refl _ _).drew),HQ,HOK,HSZ,HB2,HW2.out.drew⟩
    case round =>
     obtain ⟨k,R,rfl,HTL,HAL,HKO,HRS,HX,hbx⟩:=hrel
     clear b3 b4 p1
     obtain ⟨b0,b1,b2,b3,b4⟩:=box_cells HX.out
     have p1:=cell_below hbx HP1.out
     cases R with
     | nil =>
      have hkl:k=kids.len:=by have:=HTL.out.len;simpa [Fo.len] using this
      subst hkl
      have hz:q0=(0,0):=by rw [HAL.out];cases rs.drop kids.len <;> rfl
      subst hz
      go_wp2_with fail
      go_ret2
      exact ⟨rfl,hbx⟩
     | cons op1 name1 n1 pos1 a1 cap1 kids1 rest =>
      obtain ⟨hnode,hin1,_,hkl,hnext⟩:=HTL.out.next
      have hkl2:(k:Int) < kids.len:=by omega
      have hkd:k < rs.length:=by have:=HL.out;omega
      have hkd2:(k:Int) < rs.length:=by omega
      have hkd3:(0:Int)≤k:=by omega
      obtain ⟨c0,c1,c2,c3,c4⟩:=hnode
      have HN1:=Lib.hid hnext
      have hdr:=List.drop_eq_getElem_cons hkd
      have hdg:=HDA.out k (rs[k]'hkd) (List.getElem?_eq_getElem hkd)
      generalize (rs[k]'hkd)=d at hdr hdg
      have e1:=cell_below hbx hdg.2.1
      have hal:q0=mustK d.order (Nd.kd (ordD ds) ⟨op1,name1,n1,pos1,a1,cap1,kids1⟩) pos (callK (ordD ds) pos rest (rs.drop (k+1))):=by rw [HAL.out,hdr];rfl
      have hok2:(Nd.okT ⟨op1,name1,n1,pos1,a1,cap1,kids1⟩ && rest.allB Nd.okT)=true:=HKO.out
      rw [Bool.and_eq_true] at hok2
      have hcall:=rkind_all ds da dc HDL.out ⟨op1,name1,n1,pos1,a1,cap1,kids1⟩ wr (HD.out.below hbx) hin1 ⟨HRS.out.1,HRS.out.2.1⟩ hok2.1
      rw [Nd.val_def] at hcall
      generalize Nd.kd (ordD ds) ⟨op1,name1,n1,pos1,a1,cap1,kids1⟩=r at hcall hal
      obtain ⟨rk,rp,re⟩:=r
      simp only [] at hcall
      generalize d.order=od at e1 hal
      have HCL:=Lib.hid hcall
      have HR2:=Lib.hid HRS.out.2.2
      have HK2:=Lib.hid hok2.2
      have HALq:=Lib.hid hal
      clear hnext hin1 hcall HTL hok2 hal hdg hdr HAL
      go_wp2_with fail
      refine HCL.out.mono ?_
      rintro e w3 ⟨rfl,hb3⟩
      have hbx2:=hbx.trans (hb3.mono hbx.size)
      replace b3:=cell_below hb3 b3
      replace p1:=cell_below hb3 p1
      replace e1:=cell_below hb3 e1
      have HX2:=Lib.hid ((hb3.block _ (lt_heap HX.out)).trans HX.out)
      have HN2:=Lib.hid (HN1.out.below hb3)
      clear hb3 HN1 HX HCL b0 b1 b2 b4 c0 c1 c2 c3 c4
      by_cases he:re=0
      ·subst he
       by_cases hkk:rk=od
       ·have HA2:=Lib.hid (show q0=callK (ordD ds) pos rest (rs.drop (k+1)) from by rw [HALq.out];unfold mustK;rw [if_pos rfl,if_pos hkk])
        subst hkk
        clear HALq
        go_wp2_with fail
        go_roundw
        case rel=>exact ⟨k+1,rest,by go_num,HN2,HA2,HK2,HR2,HX2,hbx2⟩
        case measure=>(try simp [intOf]);omega
       ·have hz:q0=(pos,7):=by rw [HALq.out];unfold mustK;rw [if_pos rfl,if_neg hkk]
        have hkb:(rk != od)=true:=by simp [hkk]
        subst hz
        clear HALq hkk HN2
        go_wp2_with fail
        go_ret2
        exact ⟨rfl,hbx2⟩
      ·have hz:q0=(rp,re):=by rw [HALq.out];unfold mustK;rw [if_neg he]
       have heb:(re != 0)=true:=by simp [he]
       subst hz
       clear HALq he HN2
       go_wp2_with fail
       go_ret2
       exact ⟨rfl,hbx2⟩
  ·rw [if_neg hlen] at hq1
   have hlb:((kids.len:Int) != (rs.length:Int))=true:=by simp;omega
   subst hq1
   clear hlen hin
   go_enter Tryz.func103,Tryz.ntmps103
   go_wp2_with fail
   refine HF.out.mono ?_
   rintro e w2 ⟨rfl,hb2⟩
   replace b3:=cell_below hb2 b3
   replace b4:=cell_below hb2 b4
   replace p1:=cell_below hb2 p1
   have HW2:=Lib.hid (HW.out.trans (hb2.mono HW.out.size))
   clear HF hb2 HB b0 b1 b2
   go_wp2_with fail
   go_region_held3 (fun wz=>wz.cell? ⟨w.heap.size,3,none⟩=some (.int .i64 pos)∧wz.cell? ⟨w.heap.size,4,none⟩=some (.slice a kids.len cap)∧wz.cell? ⟨pb,po+pi * 8+1,none⟩=some (.slice ra rs.length rcap)) (go_keep) (fail)
   go_wp2_with fail
   go_ret2
   exact ⟨rfl,HW2.out.drew⟩
end Go.Proofs.YtmlmjopfbohglaaGreatDoor
