/- Parts of the proof: KE KF. -/
import Derived.Test.YtmlmjopfbohglaaDoorWd05
namespace Go.Proofs.YtmlmjopfbohglaaDoor
open Go.RowKit
open Go.Maps
set_option maxRecDepth 100000 in
set_option maxHeartbeats 8000000 in
theorem relates_eq (op:ByteArray) (x y:Int) (w:World) (h0:(op.toList == [101,113])=true):Calls Tryd.prog 96 #[.string op,.int .i64 x,.int .i64 y] w fun e w'=>e=.returned (.bool (relOk op x y))∧Below w.heap.size w w':=by
 have hr:relOk op x y=(decide (x=y) && !decide (x=0)):=by unfold relOk;simp [h0]
 rw [hr]
 clear hr
 rcases bool_two (x == y) with ha | ha
 ·rcases bool_two (x != 0) with hb | hb
  ·have hv:(decide (x=y) && !decide (x=0))=true:=by simp at ha hb;subst ha;simp [hb]
   rw [hv]
   clear hv
   go_enter Tryd.func96,Tryd.ntmps96
   go_wp2_with fail
   go_ret
   exact ⟨rfl,Below.refl _ _⟩
  ·have hv:(decide (x=y) && !decide (x=0))=false:=by simp at ha hb;subst ha;simp [hb]
   rw [hv]
   clear hv
   go_enter Tryd.func96,Tryd.ntmps96
   go_wp2_with fail
   go_ret
   exact ⟨rfl,Below.refl _ _⟩
 ·skip
  have hv:(decide (x=y) && !decide (x=0))=false:=by simp at ha;simp [ha]
  rw [hv]
  clear hv
  go_enter Tryd.func96,Tryd.ntmps96
  go_wp2_with fail
  go_ret
  exact ⟨rfl,Below.refl _ _⟩
set_option maxRecDepth 100000 in
set_option maxHeartbeats 8000000 in
theorem relates_ne (op:ByteArray) (x y:Int) (w:World) (h0:(op.toList == [101,113])=false) (h1:(op.toList == [110,101])=true):Calls Tryd.prog 96 #[.string op,.int .i64 x,.int .i64 y] w fun e w'=>e=.returned (.bool (relOk op x y))∧Below w.heap.size w w':=by
 have hr:relOk op x y=(decide (x=y) && !decide (x=0)):=by unfold relOk;simp [h0,h1]
 rw [hr]
 clear hr
 rcases bool_two (x == y) with ha | ha
 ·rcases bool_two (x != 0) with hb | hb
  ·have hv:(decide (x=y) && !decide (x=0))=true:=by simp at ha hb;subst ha;simp [hb]
   rw [hv]
   clear hv
   go_enter Tryd.func96,Tryd.ntmps96
   go_wp2_with fail
   go_ret
   exact ⟨rfl,Below.refl _ _⟩
  ·have hv:(decide (x=y) && !decide (x=0))=false:=by simp at ha hb;subst ha;simp [hb]
   rw [hv]
   clear hv
   go_enter Tryd.func96,Tryd.ntmps96
   go_wp2_with fail
   go_ret
   exact ⟨rfl,Below.refl _ _⟩
 ·skip
  have hv:(decide (x=y) && !decide (x=0))=false:=by simp at ha;simp [ha]
  rw [hv]
  clear hv
  go_enter Tryd.func96,Tryd.ntmps96
  go_wp2_with fail
  go_ret
  exact ⟨rfl,Below.refl _ _⟩
set_option maxRecDepth 100000 in
set_option maxHeartbeats 8000000 in
theorem relates_lt (op:ByteArray) (x y:Int) (w:World) (h0:(op.toList == [101,113])=false) (h1:(op.toList == [110,101])=false) (h2:(op.toList == [108,116])=true):Calls Tryd.prog 96 #[.string op,.int .i64 x,.int .i64 y] w fun e w'=>e=.returned (.bool (relOk op x y))∧Below w.heap.size w w':=by
 have hr:relOk op x y=(decide (x=1) && decide (y=1)):=by unfold relOk;simp [h0,h1,h2]
 rw [hr]
 clear hr
 rcases bool_two (x == 1) with ha | ha
 ·rcases bool_two (y == 1) with hb | hb
  ·have hv:(decide (x=1) && decide (y=1))=true:=by simp at ha hb;simp [ha,hb]
   rw [hv]
   clear hv
   go_enter Tryd.func96,Tryd.ntmps96
   go_wp2_with fail
   go_ret
   exact ⟨rfl,Below.refl _ _⟩
  ·have hv:(decide (x=1) && decide (y=1))=false:=by simp at ha hb;simp [ha,hb]
   rw [hv]
   clear hv
   go_enter Tryd.func96,Tryd.ntmps96
   go_wp2_with fail
   go_ret
   exact ⟨rfl,Below.refl _ _⟩
 ·skip
  have hv:(decide (x=1) && decide (y=1))=false:=by simp at ha;simp [ha]
  rw [hv]
  clear hv
  go_enter Tryd.func96,Tryd.ntmps96
  go_wp2_with fail
  go_ret
  exact ⟨rfl,Below.refl _ _⟩
set_option maxRecDepth 100000 in
set_option maxHeartbeats 8000000 in
theorem relates_le (op:ByteArray) (x y:Int) (w:World) (h0:(op.toList == [101,113])=false) (h1:(op.toList == [110,101])=false) (h2:(op.toList == [108,116])=false) (h3:(op.toList == [108,101])=true):Calls Tryd.prog 96 #[.string op,.int .i64 x,.int .i64 y] w fun e w'=>e=.returned (.bool (relOk op x y))∧Below w.heap.size w w':=by
 have hr:relOk op x y=(decide (x=1) && decide (y=1)):=by unfold relOk;simp [h0,h1,h2,h3]
 rw [hr]
 clear hr
 rcases bool_two (x == 1) with ha | ha
 ·rcases bool_two (y == 1) with hb | hb
  ·have hv:(decide (x=1) && decide (y=1))=true:=by simp at ha hb;simp [ha,hb]
   rw [hv]
   clear hv
   go_enter Tryd.func96,Tryd.ntmps96
   go_wp2_with fail
   go_ret
   exact ⟨rfl,Below.refl _ _⟩
  ·have hv:(decide (x=1) && decide (y=1))=false:=by simp at ha hb;simp [ha,hb]
   rw [hv]
   clear hv
   go_enter Tryd.func96,Tryd.ntmps96
   go_wp2_with fail
   go_ret
   exact ⟨rfl,Below.refl _ _⟩
 ·skip
  have hv:(decide (x=1) && decide (y=1))=false:=by simp at ha;simp [ha]
  rw [hv]
  clear hv
  go_enter Tryd.func96,Tryd.ntmps96
  go_wp2_with fail
  go_ret
  exact ⟨rfl,Below.refl _ _⟩
set_option maxRecDepth 100000 in
set_option maxHeartbeats 8000000 in
theorem relates_in (op:ByteArray) (x y:Int) (w:World) (h0:(op.toList == [101,113])=false) (h1:(op.toList == [110,101])=false) (h2:(op.toList == [108,116])=false) (h3:(op.toList == [108,101])=false) (h4:(op.toList == [105,110])=true):Calls Tryd.prog 96 #[.string op,.int .i64 x,.int .i64 y] w fun e w'=>e=.returned (.bool (relOk op x y))∧Below w.heap.size w w':=by
 have hr:relOk op x y=(decide (x=1) && decide (y=2)):=by unfold relOk;simp [h0,h1,h2,h3,h4]
 rw [hr]
 clear hr
 rcases bool_two (x == 1) with ha | ha
 ·rcases bool_two (y == 2) with hb | hb
  ·have hv:(decide (x=1) && decide (y=2))=true:=by simp at ha hb;simp [ha,hb]
   rw [hv]
   clear hv
   go_enter Tryd.func96,Tryd.ntmps96
   go_wp2_with fail
   go_ret
   exact ⟨rfl,Below.refl _ _⟩
  ·have hv:(decide (x=1) && decide (y=2))=false:=by simp at ha hb;simp [ha,hb]
   rw [hv]
   clear hv
   go_enter Tryd.func96,Tryd.ntmps96
   go_wp2_with fail
   go_ret
   exact ⟨rfl,Below.refl _ _⟩
 ·skip
  have hv:(decide (x=1) && decide (y=2))=false:=by simp at ha;simp [ha]
  rw [hv]
  clear hv
  go_enter Tryd.func96,Tryd.ntmps96
  go_wp2_with fail
  go_ret
  exact ⟨rfl,Below.refl _ _⟩
set_option maxRecDepth 100000 in
set_option maxHeartbeats 8000000 in
theorem relates_notin (op:ByteArray) (x y:Int) (w:World) (h0:(op.toList == [101,113])=false) (h1:(op.toList == [110,101])=false) (h2:(op.toList == [108,116])=false) (h3:(op.toList == [108,101])=false) (h4:(op.toList == [105,110])=false) (h5:(op.toList == [110,111,116,105,110])=true):Calls Tryd.prog 96 #[.string op,.int .i64 x,.int .i64 y] w fun e w'=>e=.returned (.bool (relOk op x y))∧Below w.heap.size w w':=by
 have hr:relOk op x y=(decide (x=1) && decide (y=2)):=by unfold relOk;simp [h0,h1,h2,h3,h4,h5]
 rw [hr]
 clear hr
 rcases bool_two (x == 1) with ha | ha
 ·rcases bool_two (y == 2) with hb | hb
  ·have hv:(decide (x=1) && decide (y=2))=true:=by simp at ha hb;simp [ha,hb]
   rw [hv]
   clear hv
   go_enter Tryd.func96,Tryd.ntmps96
   go_wp2_with fail
   go_ret
   exact ⟨rfl,Below.refl _ _⟩
  ·have hv:(decide (x=1) && decide (y=2))=false:=by simp at ha hb;simp [ha,hb]
   rw [hv]
   clear hv
   go_enter Tryd.func96,Tryd.ntmps96
   go_wp2_with fail
   go_ret
   exact ⟨rfl,Below.refl _ _⟩
 ·skip
  have hv:(decide (x=1) && decide (y=2))=false:=by simp at ha;simp [ha]
  rw [hv]
  clear hv
  go_enter Tryd.func96,Tryd.ntmps96
  go_wp2_with fail
  go_ret
  exact ⟨rfl,Below.refl _ _⟩
set_option maxRecDepth 100000 in
set_option maxHeartbeats 8000000 in
theorem relates_sub (op:ByteArray) (x y:Int) (w:World) (h0:(op.toList == [101,113])=false) (h1:(op.toList == [110,101])=false) (h2:(op.toList == [108,116])=false) (h3:(op.toList == [108,101])=false) (h4:(op.toList == [105,110])=false) (h5:(op.toList == [110,111,116,105,110])=false):Calls Tryd.prog 96 #[.string op,.int .i64 x,.int .i64 y] w fun e w'=>e=.returned (.bool (relOk op x y))∧Below w.heap.size w w':=by
 have hr:relOk op x y=(decide (x=2) && decide (y=2)):=by unfold relOk;simp [h0,h1,h2,h3,h4,h5]
 rw [hr]
 clear hr
 rcases bool_two (x == 2) with ha | ha
 ·rcases bool_two (y == 2) with hb | hb
  ·have hv:(decide (x=2) && decide (y=2))=true:=by simp at ha hb;simp [ha,hb]
   rw [hv]
   clear hv
   go_enter Tryd.func96,Tryd.ntmps96
   go_wp2_with fail
   go_ret
   exact ⟨rfl,Below.refl _ _⟩
  ·have hv:(decide (x=2) && decide (y=2))=false:=by simp at ha hb;simp [ha,hb]
   rw [hv]
   clear hv
   go_enter Tryd.func96,Tryd.ntmps96
   go_wp2_with fail
   go_ret
   exact ⟨rfl,Below.refl _ _⟩
 ·skip
  have hv:(decide (x=2) && decide (y=2))=false:=by simp at ha;simp [ha]
  rw [hv]
  clear hv
  go_enter Tryd.func96,Tryd.ntmps96
  go_wp2_with fail
  go_ret
  exact ⟨rfl,Below.refl _ _⟩
theorem relates_any (op:ByteArray) (x y:Int) (w:World):Calls Tryd.prog 96 #[.string op,.int .i64 x,.int .i64 y] w fun e w'=>e=.returned (.bool (relOk op x y))∧Below w.heap.size w w':=by
 rcases bool_two (op.toList == [101,113]) with h0 | h0
 ·exact relates_eq op x y w h0
 rcases bool_two (op.toList == [110,101]) with h1 | h1
 ·exact relates_ne op x y w h0 h1
 rcases bool_two (op.toList == [108,116]) with h2 | h2
 ·exact relates_lt op x y w h0 h1 h2
 rcases bool_two (op.toList == [108,101]) with h3 | h3
 ·exact relates_le op x y w h0 h1 h2 h3
 rcases bool_two (op.toList == [105,110]) with h4 | h4
 ·exact relates_in op x y w h0 h1 h2 h3 h4
 rcases bool_two (op.toList == [110,111,116,105,110]) with h5 | h5
 ·exact relates_notin op x y w h0 h1 h2 h3 h4 h5
 exact relates_sub op x y w h0 h1 h2 h3 h4 h5
set_option maxRecDepth 100000 in
set_option maxHeartbeats 16000000 in
theorem kflag_any (op name:ByteArray) (n pos:Int) (a:Option Addr) (cap:Nat) (kids:Fo) (w:World) (M m:Nat) (pv:Value) (O:ByteArray→Int) (ho:OrdIs w M m O) (hs:name.size≤140737488351232) :
  Calls Tryd.prog 68 #[scV M pv,.agg #[.string op,.string name,.int .i64 n,.int .i64 pos,.slice a kids.len cap]] w fun e w'=>e=.returned (.tuple #[.int .i64 (if O name < 0 then (pos,(5:Int)) else if O name=0 then (0,0) else (pos,7)).1,.int .i64 (if O name < 0 then (pos,(5:Int)) else if O name=0 then (0,0) else (pos,7)).2])∧Below w.heap.size w w':=by
 have hc2:=cellsScope
 have hc5:=cellsNode
 have HW:=Lib.hid (two_boxes w (scBox M pv) (boxOf op name n pos a kids.len cap))
 have hx:w.heap.size < (w.alloc (scBox M pv)).heap.size:=by simp
 have HS:=Lib.hid ((Below.heap_alloc (w.alloc (scBox M pv)) (boxOf op name n pos a kids.len cap) _ hx).trans (new_at w (scBox M pv)))
 have HB:=Lib.hid (show ((w.alloc (scBox M pv)).alloc (boxOf op name n pos a kids.len cap)).heap[w.heap.size+1]? = some (boxOf op name n pos a kids.len cap) from by have h:=new_at (w.alloc (scBox M pv)) (boxOf op name n pos a kids.len cap);rw [alloc_size] at h;exact h)
 obtain ⟨k0,k1⟩:=sc_cells HS.out
 obtain ⟨b0,b1,b2,b3,b4⟩:=box_cells HB.out
 have HC:=Lib.hid (korder_any M m pv O name _ (ho.below HW.out) hs)
 generalize O name=k at HC ⊢
 clear ho hs
 by_cases hn:k < 0
 ·simp only [hn,if_true]
  go_enter Tryd.func68,Tryd.ntmps68
  go_wp2_with fail
  refine HC.out.mono ?_
  rintro e w2 ⟨rfl,hb2⟩
  have hbb:=HW.out.trans (hb2.mono HW.out.size)
  obtain ⟨b0,b1,b2,b3,b4⟩:=box_cells ((hb2.block _ (lt_heap HB.out)).trans HB.out)
  clear hb2 HC
  go_wp2_with fail
  go_ret2
  exact ⟨rfl,hbb⟩
 ·by_cases hz:k=0
  ·subst hz
   simp only [if_true]
   rw [if_neg (by decide)]
   clear hn
   go_enter Tryd.func68,Tryd.ntmps68
   go_wp2_with fail
   refine HC.out.mono ?_
   rintro e w2 ⟨rfl,hb2⟩
   have hbb:=HW.out.trans (hb2.mono HW.out.size)
   obtain ⟨b0,b1,b2,b3,b4⟩:=box_cells ((hb2.block _ (lt_heap HB.out)).trans HB.out)
   clear hb2 HC
   go_wp2_with fail
   go_ret2
   exact ⟨rfl,hbb⟩
  ·simp only [hn,hz,if_false]
   have hzb:(k != 0)=true:=by simp [hz]
   go_enter Tryd.func68,Tryd.ntmps68
   go_wp2_with fail
   refine HC.out.mono ?_
   rintro e w2 ⟨rfl,hb2⟩
   have hbb:=HW.out.trans (hb2.mono HW.out.size)
   obtain ⟨b0,b1,b2,b3,b4⟩:=box_cells ((hb2.block _ (lt_heap HB.out)).trans HB.out)
   clear hb2 HC
   go_wp2_with fail
   go_ret2
   exact ⟨rfl,hbb⟩
set_option maxRecDepth 100000 in
set_option maxHeartbeats 16000000 in
theorem krel_any (op name:ByteArray) (n pos:Int) (kb ko len cap:Nat) (w:World) (M m:Nat) (pv:Value) (O:ByteArray→Int) (ho:OrdIs w M m O) (hl:len=2) (op1 name1:ByteArray) (n1 pos1:Int) (a1:Option Addr) (l1 cap1:Nat) (op2 name2:ByteArray) (n2 pos2:Int) (a2:Option Addr) (l2 cap2:Nat) (hn1:NodeAt w kb ko op1 name1 n1 pos1 a1 l1 cap1) (hn2:NodeAt w kb (ko+5) op2 name2 n2 pos2 a2 l2 cap2) (x y:KR) (hc1':∀ W,OrdIs W M m O→Below w.heap.size w W→Calls Tryd.prog 95 #[scV M pv,.agg #[.string op1,.string name1,.int .i64 n1,.int .i64 pos1,.slice a1 l1 cap1]] W fun e w'=>e=.returned (.tuple #[.int .i64 x.k,.int .i64 x.pos,.int .i64 x.e])∧Below W.heap.size W w') (hc2':∀ W,OrdIs W M m O→Below w.heap.size w W→Calls Tryd.prog 95 #[scV M pv,.agg #[.string op2,.string name2,.int .i64 n2,.int .i64 pos2,.slice a2 l2 cap2]] W fun e w'=>e=.returned (.tuple #[.int .i64 y.k,.int .i64 y.pos,.int .i64 y.e])∧Below W.heap.size W w') :
  Calls Tryd.prog 69 #[scV M pv,.agg #[.string op,.string name,.int .i64 n,.int .i64 pos,.slice (some ⟨kb,ko,none⟩) len cap]] w fun e w'=>e=.returned (.tuple #[.int .i64 (relK op pos x y).1,.int .i64 (relK op pos x y).2])∧Below w.heap.size w w':=by
 have hc2:=cellsScope
 have hc5:=cellsNode
 have HW:=Lib.hid (two_boxes w (scBox M pv) (boxOf op name n pos (some ⟨kb,ko,none⟩) len cap))
 have hx:w.heap.size < (w.alloc (scBox M pv)).heap.size:=by simp
 have HS:=Lib.hid ((Below.heap_alloc (w.alloc (scBox M pv)) (boxOf op name n pos (some ⟨kb,ko,none⟩) len cap) _ hx).trans (new_at w (scBox M pv)))
 have HB:=Lib.hid (show ((w.alloc (scBox M pv)).alloc (boxOf op name n pos (some ⟨kb,ko,none⟩) len cap)).heap[w.heap.size+1]? = some (boxOf op name n pos (some ⟨kb,ko,none⟩) len cap) from by have h:=new_at (w.alloc (scBox M pv)) (boxOf op name n pos (some ⟨kb,ko,none⟩) len cap);rw [alloc_size] at h;exact h)
 obtain ⟨k0,k1⟩:=sc_cells HS.out
 obtain ⟨b0,b1,b2,b3,b4⟩:=box_cells HB.out
 obtain ⟨c10,c11,c12,c13,c14⟩:=hn1.below HW.out
 obtain ⟨c20,c21,c22,c23,c24⟩:=hn2.below HW.out
 simp only [Nat.add_assoc,Nat.reduceAdd] at c21 c22 c23 c24
 have hl2a:(0:Int) < len:=by omega
 have hl2b:(1:Int) < len:=by omega
 have hl0:0 < len:=by omega
 have hl1:1 < len:=by omega
 clear hl
 have HC1:=Lib.hid (hc1' ((w.alloc (scBox M pv)).alloc (boxOf op name n pos (some ⟨kb,ko,none⟩) len cap)).drew ((ho.below HW.out).drew) HW.out.drew)
 have HC2:=Lib.hid (fun W (h:Below ((w.alloc (scBox M pv)).alloc (boxOf op name n pos (some ⟨kb,ko,none⟩) len cap)).heap.size ((w.alloc (scBox M pv)).alloc (boxOf op name n pos (some ⟨kb,ko,none⟩) len cap)) W)=>hc2' W.drew ((ho.below (HW.out.trans (h.mono HW.out.size))).drew) (HW.out.trans (h.mono HW.out.size)).drew)
 clear ho hc1' hc2' hn1 hn2 HS HB b1 b2
 obtain ⟨rv,hrv⟩:∃ rv,rv=relK op pos x y:=⟨_,rfl⟩
 rw [← hrv]
 have HRV:=Lib.hid hrv
 clear hrv
 obtain ⟨xk,xp,xe⟩:=x
 obtain ⟨yk,yp,ye⟩:=y
 simp only [] at HC1 HC2
 go_enter Tryd.func69,Tryd.ntmps69
 go_wp2_with fail
 have HBD2:RowKit.Hid (Below ((w.alloc (scBox M pv)).alloc (boxOf op name n pos (some ⟨kb,ko,none⟩) len cap)).heap.size ((w.alloc (scBox M pv)).alloc (boxOf op name n pos (some ⟨kb,ko,none⟩) len cap)) ((w.alloc (scBox M pv)).alloc (boxOf op name n pos (some ⟨kb,ko,none⟩) len cap)).drew):=Lib.hid (Below.refl _ _).drew
 go_region_held3 (fun wz=>wz.cell? ⟨w.heap.size,0,none⟩=some (.map (some M))∧wz.cell? ⟨w.heap.size,1,none⟩=some (pv)∧wz.cell? ⟨w.heap.size+1,0,none⟩=some (.string op)∧wz.cell? ⟨w.heap.size+1,3,none⟩=some (.int .i64 pos)∧wz.cell? ⟨w.heap.size+1,4,none⟩=some (.slice (some ⟨kb,ko,none⟩) len cap)∧wz.cell? ⟨kb,ko,none⟩=some (.string op1)∧wz.cell? ⟨kb,ko+1,none⟩=some (.string name1)∧wz.cell? ⟨kb,ko+2,none⟩=some (.int .i64 n1)∧wz.cell? ⟨kb,ko+3,none⟩=some (.int .i64 pos1)∧wz.cell? ⟨kb,ko+4,none⟩=some (.slice a1 l1 cap1)∧wz.cell? ⟨kb,ko+5,none⟩=some (.string op2)∧wz.cell? ⟨kb,ko+6,none⟩=some (.string name2)∧wz.cell? ⟨kb,ko+7,none⟩=some (.int .i64 n2)∧wz.cell? ⟨kb,ko+8,none⟩=some (.int .i64 pos2)∧wz.cell? ⟨kb,ko+9,none⟩=some (.slice a2 l2 cap2)) (go_keep) (first | (go_at_call 95;refine HC1.out.mono ?_;rintro e w2 ⟨rfl,hb2⟩;replace k0:=cell_below (HBD2.out.trans (hb2.mono HBD2.out.size)) k0;replace k1:=cell_below (HBD2.out.trans (hb2.mono HBD2.out.size)) k1;replace b0:=cell_below (HBD2.out.trans (hb2.mono HBD2.out.size)) b0;replace b3:=cell_below (HBD2.out.trans (hb2.mono HBD2.out.size)) b3;replace b4:=cell_below (HBD2.out.trans (hb2.mono HBD2.out.size)) b4;replace c10:=cell_below (HBD2.out.trans (hb2.mono HBD2.out.size)) c10;replace c11:=cell_below (HBD2.out.trans (hb2.mono HBD2.out.size)) c11;replace c12:=cell_below (HBD2.out.trans (hb2.mono HBD2.out.size)) c12;replace c13:=cell_below (HBD2.out.trans (hb2.mono HBD2.out.size)) c13;replace c14:=cell_below (HBD2.out.trans (hb2.mono HBD2.out.size)) c14;replace c20:=cell_below (HBD2.out.trans (hb2.mono HBD2.out.size)) c20;replace c21:=cell_below (HBD2.out.trans (hb2.mono HBD2.out.size)) c21;replace c22:=cell_below (HBD2.out.trans (hb2.mono HBD2.out.size)) c22;replace c23:=cell_below (HBD2.out.trans (hb2.mono HBD2.out.size)) c23;replace c24:=cell_below (HBD2.out.trans (hb2.mono HBD2.out.size)) c24;have HB2:=Lib.hid (HBD2.out.trans (hb2.mono HBD2.out.size));clear hb2))
 have HCB:=Lib.hid (HC2.out w2 HB2.out)
 have HBB:=Lib.hid (HW.out.trans (HB2.out.mono HW.out.size))
 clear HBD2 HC1 HC2 HB2
 by_cases hxe:xe=0
 ·subst hxe
  go_wp2_with fail
  have HBD3:RowKit.Hid (Below w2.heap.size w2 w2.drew):=Lib.hid (Below.refl _ _).drew
  go_region_held3 (fun wz=>wz.cell? ⟨w.heap.size,0,none⟩=some (.map (some M))∧wz.cell? ⟨w.heap.size,1,none⟩=some (pv)∧wz.cell? ⟨w.heap.size+1,0,none⟩=some (.string op)∧wz.cell? ⟨w.heap.size+1,3,none⟩=some (.int .i64 pos)∧wz.cell? ⟨w.heap.size+1,4,none⟩=some (.slice (some ⟨kb,ko,none⟩) len cap)∧wz.cell? ⟨kb,ko,none⟩=some (.string op1)∧wz.cell? ⟨kb,ko+1,none⟩=some (.string name1)∧wz.cell? ⟨kb,ko+2,none⟩=some (.int .i64 n1)∧wz.cell? ⟨kb,ko+3,none⟩=some (.int .i64 pos1)∧wz.cell? ⟨kb,ko+4,none⟩=some (.slice a1 l1 cap1)∧wz.cell? ⟨kb,ko+5,none⟩=some (.string op2)∧wz.cell? ⟨kb,ko+6,none⟩=some (.string name2)∧wz.cell? ⟨kb,ko+7,none⟩=some (.int .i64 n2)∧wz.cell? ⟨kb,ko+8,none⟩=some (.int .i64 pos2)∧wz.cell? ⟨kb,ko+9,none⟩=some (.slice a2 l2 cap2)) (go_keep) (first | (go_at_call 95;refine HCB.out.mono ?_;rintro e w3 ⟨rfl,hb3⟩;replace k0:=cell_below (HBD3.out.trans (hb3.mono HBD3.out.size)) k0;replace k1:=cell_below (HBD3.out.trans (hb3.mono HBD3.out.size)) k1;replace b0:=cell_below (HBD3.out.trans (hb3.mono HBD3.out.size)) b0;replace b3:=cell_below (HBD3.out.trans (hb3.mono HBD3.out.size)) b3;replace b4:=cell_below (HBD3.out.trans (hb3.mono HBD3.out.size)) b4;replace c10:=cell_below (HBD3.out.trans (hb3.mono HBD3.out.size)) c10;replace c11:=cell_below (HBD3.out.trans (hb3.mono HBD3.out.size)) c11;replace c12:=cell_below (HBD3.out.trans (hb3.mono HBD3.out.size)) c12;replace c13:=cell_below (HBD3.out.trans (hb3.mono HBD3.out.size)) c13;replace c14:=cell_below (HBD3.out.trans (hb3.mono HBD3.out.size)) c14;replace c20:=cell_below (HBD3.out.trans (hb3.mono HBD3.out.size)) c20;replace c21:=cell_below (HBD3.out.trans (hb3.mono HBD3.out.size)) c21;replace c22:=cell_below (HBD3.out.trans (hb3.mono HBD3.out.size)) c22;replace c23:=cell_below (HBD3.out.trans (hb3.mono HBD3.out.size)) c23;replace c24:=cell_below (HBD3.out.trans (hb3.mono HBD3.out.size)) c24;have HB3:=Lib.hid (HBD3.out.trans (hb3.mono HBD3.out.size));clear hb3))
  have HBC:=Lib.hid (HBB.out.trans (HB3.out.mono HBB.out.size))
  clear HBD3 HCB HB3 HBB
  by_cases hye:ye=0
  ·subst hye
   have HCR:=Lib.hid (relates_any op xk yk w3)
   rcases bool_two (relOk op xk yk) with hrb | hrb
   ·rw [hrb] at HCR
    have hrv2:rv=(0,0):=by rw [HRV.out];unfold relK;simp [hrb]
    clear HRV
    subst hrv2
    clear hrb
    go_wp2_with fail
    refine HCR.out.mono ?_
    rintro e w4 ⟨rfl,hb4⟩
    have hbb:=HBC.out.trans (hb4.mono HBC.out.size)
    replace b3:=cell_below hb4 b3
    clear hb4 HCR
    go_wp2_with fail
    go_ret2
    exact ⟨rfl,hbb⟩
   ·rw [hrb] at HCR
    have hrv2:rv=(pos,7):=by rw [HRV.out];unfold relK;simp [hrb]
    clear HRV
    subst hrv2
    clear hrb
    go_wp2_with fail
    refine HCR.out.mono ?_
    rintro e w4 ⟨rfl,hb4⟩
    have hbb:=HBC.out.trans (hb4.mono HBC.out.size)
    replace b3:=cell_below hb4 b3
    clear hb4 HCR
    go_wp2_with fail
    go_ret2
    exact ⟨rfl,hbb⟩
  ·have hrv2:rv=(yp,ye):=by rw [HRV.out];unfold relK;simp [hye]
   have hyb:(ye != 0)=true:=by simp [hye]
   clear HRV hye
   subst hrv2
   go_wp2_with fail
   go_ret2
   exact ⟨rfl,HBC.out⟩
 ·have hrv2:rv=(xp,xe):=by rw [HRV.out];unfold relK;simp [hxe]
  have hxb:(xe != 0)=true:=by simp [hxe]
  clear HRV hxe HCB
  subst hrv2
  go_wp2_with fail
  go_ret2
  exact ⟨rfl,HBB.out⟩
def PrdIs (w:World) (M:Nat) (pv:Value) (Q:ByteArray→Option (List Dc)):Prop:=∃ (N m:Nat) (f:ByteArray→Option Value),pv=.map (some N)∧N≠M∧SMap Tryd.prog 9 w N m f∧∀ s,(f s=none∧Q s=none)∨∃ (a:Option Addr) (cap:Nat) (ds:List Dc),f s=some (.slice a ds.length cap)∧Q s=some ds∧DcsIn w a ds
theorem PrdIs.below {w w':World} {M:Nat} {pv:Value} {Q:ByteArray→Option (List Dc)} (h:PrdIs w M pv Q) (hb:Below w.heap.size w w'):PrdIs w' M pv Q:=by
 obtain ⟨N,m,f,h1,h2,h3,h4⟩:=h
 refine ⟨N,m,f,h1,h2,h3.same (hb.block N h3.lt),fun s=>?_⟩
 rcases h4 s with h | ⟨a,cap,ds,g1,g2,g3⟩
 ·exact .inl h
 ·exact .inr ⟨a,cap,ds,g1,g2,g3.below hb⟩
theorem zeroDcs (w:World):(zeroValue 22).run Tryd.prog w=.ok (.slice none 0 0) w:=by kernel_rfl
def callR (O:ByteArray→Int) (Q:ByteArray→Option (List Dc)) (name:ByteArray) (pos:Int) (kids:Fo):Int × Int :=
 match Q name with | none=>(pos,5) | some ds=>if kids.len=ds.length then callK O pos kids ds else (pos,7)
theorem callK_must (O:ByteArray→Int) (pos:Int) (op name:ByteArray) (n p:Int) (a:Option Addr) (cap:Nat) (kids rest:Fo) (d:Dc) (ds:List Dc):callK O pos (.cons op name n p a cap kids rest) (d :: ds)=mustK d.order (Nd.kd O ⟨op,name,n,p,a,cap,kids⟩) pos (callK O pos rest ds):=rfl
set_option maxRecDepth 100000 in
set_option maxHeartbeats 16000000 in
theorem kcall_any (op name:ByteArray) (n pos:Int) (a:Option Addr) (cap:Nat) (kids:Fo) (w:World) (M m:Nat) (pv:Value) (O:ByteArray→Int) (Q:ByteArray→Option (List Dc)) (ho:OrdIs w M m O) (hp:PrdIs w M pv Q) (hs:name.size≤140737488351232) (hin:KidsIn w a kids) (hsz:kids.sized) (hok:kids.allB Nd.okT=true) :
  Calls Tryd.prog 70 #[scV M pv,.agg #[.string op,.string name,.int .i64 n,.int .i64 pos,.slice a kids.len cap]] w fun e w'=>e=.returned (.tuple #[.int .i64 (callR O Q name pos kids).1,.int .i64 (callR O Q name pos kids).2])∧Below w.heap.size w w':=by
 obtain ⟨q0,hq0⟩:∃ q0,q0=callR O Q name pos kids:=⟨_,rfl⟩
 rw [← hq0]
 have hc2:=cellsScope
 have hc3:=cellsDecl
 have hc5:=cellsNode
 obtain ⟨N,mp,f,rfl,hNM,hSM,hPQ⟩:=hp
 have HW:=Lib.hid (two_boxes w (scBox M (.map (some N))) (boxOf op name n pos a kids.len cap))
 have hx:w.heap.size < (w.alloc (scBox M (.map (some N)))).heap.size:=by simp
 have HS:=Lib.hid ((Below.heap_alloc (w.alloc (scBox M (.map (some N)))) (boxOf op name n pos a kids.len cap) _ hx).trans (new_at w (scBox M (.map (some N)))))
 have HB:=Lib.hid (show ((w.alloc (scBox M (.map (some N)))).alloc (boxOf op name n pos a kids.len cap)).heap[w.heap.size+1]? = some (boxOf op name n pos a kids.len cap) from by have h:=new_at (w.alloc (scBox M (.map (some N)))) (boxOf op name n pos a kids.len cap);rw [alloc_size] at h;exact h)
 have HM:=Lib.hid (hSM.same (HW.out.block N hSM.lt))
 have hsz1:name.size≤maxLen:=by unfold maxLen;omega
 obtain ⟨k0,k1⟩:=sc_cells HS.out
 obtain ⟨b0,b1,b2,b3,b4⟩:=box_cells HB.out
 have HO:=Lib.hid (ho.below HW.out)
 have HIN:=Lib.hid hin
 have HSZ:=Lib.hid hsz
 have HOK:=Lib.hid hok
 have hpq:=hPQ name
 clear ho hin hsz hok hPQ hSM hNM
 rcases hpq with ⟨hfn,hqn⟩ | ⟨pa,pcap,ds,hfn,hqn,hdin⟩
 ·have hz:q0=(pos,5):=by rw [hq0];unfold callR;rw [hqn]
  have HN:=Lib.hid hfn
  subst hz
  clear hq0 hfn hqn
  go_enter Tryd.func70,Tryd.ntmps70
  go_wp2_with (at_lookup;refine wpList_lookup_smap _ rfl _ _ 79 rfl 9 22 Tryd.underlying9 Tryd.underlying79 (zeroDcs _) N mp f rfl HM.out name rfl hsz1 ?_;rw [HN.out])
  go_wp2_with fail
  go_ret2
  exact ⟨rfl,HW.out⟩
 ·have HN:=Lib.hid hfn
  have hq1:q0=(if kids.len=ds.length then callK O pos kids ds else (pos,7)):=by rw [hq0];unfold callR;rw [hqn]
  clear hq0 hfn hqn
  by_cases hlen:kids.len=ds.length
  ·rw [if_pos hlen] at hq1
   have HQ:=Lib.hid hq1
   have hlb:((kids.len:Int) != (ds.length:Int))=false:=by simp [hlen]
   have HL:=Lib.hid hlen
   have HDI:=Lib.hid hdin
   clear hq1 hlen hdin
   rcases HIN.out with hnil | ⟨kb,ko,hab,hlim,hpos,hkin⟩
   ·subst hnil
    have hz0:((Fo.nil.len:Nat):Int)=0:=rfl
    have hz:q0=(0,0):=by rw [HQ.out];rfl
    subst hz
    go_enter Tryd.func70,Tryd.ntmps70
    go_wp2_with (at_lookup;refine wpList_lookup_smap _ rfl _ _ 79 rfl 9 22 Tryd.underlying9 Tryd.underlying79 (zeroDcs _) N mp f rfl HM.out name rfl hsz1 ?_;rw [HN.out])
    go_wp2_with fail
    go_loopw [35] (fun i wr=>i=.int .i64 0∧Below w.heap.size w wr) (fun _ _=>0)
    case atStart=>exact ⟨rfl,HW.out⟩
    case round =>
     obtain ⟨rfl,hbx⟩:=hrel
     go_wp2_with fail
     go_ret2
     exact ⟨rfl,hbx⟩
   ·subst hab
    have HST:=Lib.hid (Tail.start (P:=fun _=>True) (hkin.below HW.out) (Fo.all_of (fun _ _=>trivial) kids))
    have hdl:0 < ds.length:=by have:=HL.out;omega
    obtain ⟨db,dO,hpa,hdat⟩:∃ b o,pa=some ⟨b,o,none⟩∧∀ i d,ds[i]? = some d→DcAt w b (o+i * 3) d:=by
     rcases HDI.out with h | ⟨b,o,h1,h2,h3,h4⟩
     ·rw [h] at hdl;cases hdl
     ·exact ⟨b,o,h1,h3⟩
    subst hpa
    have HDA:=Lib.hid hdat
    clear hkin hpos hdat
    go_enter Tryd.func70,Tryd.ntmps70
    go_wp2_with (at_lookup;refine wpList_lookup_smap _ rfl _ _ 79 rfl 9 22 Tryd.underlying9 Tryd.underlying79 (zeroDcs _) N mp f rfl HM.out name rfl hsz1 ?_;rw [HN.out])
    go_wp2_with fail
    go_loopw [35] (fun i wr=>∃ (k:Nat) (R:Fo),i=.int .i64 k∧RowKit.Hid (Tail wr (fun _=>True) kids R kb ko k)∧RowKit.Hid (q0=callK O pos R (ds.drop k))∧RowKit.Hid (R.allB Nd.okT=true)∧RowKit.Hid R.sized∧RowKit.Hid (wr.heap[w.heap.size]? = some (scBox M (.map (some N))))∧RowKit.Hid (wr.heap[w.heap.size+1]? = some (boxOf op name n pos (some ⟨kb,ko,none⟩) kids.len cap))∧Below w.heap.size w wr∧RowKit.Hid (OrdIs wr M m O)) (fun i _=>kids.len - (intOf i).toNat)
    case atStart=>exact ⟨0,kids,rfl,HST,HQ,HOK,HSZ,HS,HB,HW.out,HO⟩
    case round =>
     obtain ⟨k,R,rfl,HTL,HAL,HKO,HRS,HX,HY,hbx,HOR⟩:=hrel
     replace k0:=(sc_cells HX.out).1
     replace k1:=(sc_cells HX.out).2
     clear b0 b1 b2 b3 b4
     obtain ⟨b0,b1,b2,b3,b4⟩:=box_cells HY.out
     cases R with
     | nil =>
      have hkl:k=kids.len:=by have:=HTL.out.len;simpa [Fo.len] using this
      subst hkl
      have hz:q0=(0,0):=by rw [HAL.out];cases ds.drop kids.len <;> rfl
      subst hz
      go_wp2_with fail
      go_ret2
      exact ⟨rfl,hbx⟩
     | cons op1 name1 n1 pos1 a1 cap1 kids1 rest =>
      obtain ⟨hnode,hin1,_,hkl,hnext⟩:=HTL.out.next
      have hkl2:(k:Int) < kids.len:=by omega
      have hkd:k < ds.length:=by have:=HL.out;omega
      have hkd2:(k:Int) < ds.length:=by omega
      have hkd3:(0:Int)≤k:=by omega
      obtain ⟨c0,c1,c2,c3,c4⟩:=hnode
      have HN1:=Lib.hid hnext
      have hdr:=List.drop_eq_getElem_cons hkd
      have hdg:=HDA.out k (ds[k]'hkd) (List.getElem?_eq_getElem hkd)
      generalize (ds[k]'hkd)=d at hdr hdg
      have e1:=cell_below hbx hdg.2.1
      have hal:q0=mustK d.order (Nd.kd O ⟨op1,name1,n1,pos1,a1,cap1,kids1⟩) pos (callK O pos rest (ds.drop (k+1))):=by rw [HAL.out,hdr];rfl
      have hok2:(Nd.okT ⟨op1,name1,n1,pos1,a1,cap1,kids1⟩ && rest.allB Nd.okT)=true:=HKO.out
      rw [Bool.and_eq_true] at hok2
      have hcall:=kmust_of ⟨op1,name1,n1,pos1,a1,cap1,kids1⟩ (kkind_all _) (wr.alloc (boxOf op1 name1 n1 pos1 a1 kids1.len cap1)).drew M m (.map (some N)) O d.order pos ((HOR.out.below (below_box _ _)).drew) (hin1.below (below_box _ _).drew) ⟨HRS.out.1,HRS.out.2.1⟩ hok2.1
      rw [Nd.val_def] at hcall
      have hgo:=@mustK_go d.order (Nd.kd O ⟨op1,name1,n1,pos1,a1,cap1,kids1⟩) pos (callK O pos rest (ds.drop (k+1)))
      have hstop:=@mustK_stop d.order (Nd.kd O ⟨op1,name1,n1,pos1,a1,cap1,kids1⟩) pos (callK O pos rest (ds.drop (k+1)))
      generalize mustK d.order (Nd.kd O ⟨op1,name1,n1,pos1,a1,cap1,kids1⟩) pos (0,0)=q at hcall hgo hstop
      obtain ⟨qp,qe⟩:=q
      simp only [] at hcall hgo hstop
      generalize d.order=od at e1 hcall hal hgo hstop
      have HCL:=Lib.hid hcall
      have HR2:=Lib.hid HRS.out.2.2
      have HK2:=Lib.hid hok2.2
      obtain ⟨x0,x1,x2,x3,x4⟩:=box_cells (new_at wr (boxOf op1 name1 n1 pos1 a1 kids1.len cap1))
      have HBD:RowKit.Hid (Below wr.heap.size wr (wr.alloc (boxOf op1 name1 n1 pos1 a1 kids1.len cap1)).drew):=Lib.hid (below_box _ _).drew
      have HBE:RowKit.Hid (Below (wr.alloc (boxOf op1 name1 n1 pos1 a1 kids1.len cap1)).heap.size (wr.alloc (boxOf op1 name1 n1 pos1 a1 kids1.len cap1)) (wr.alloc (boxOf op1 name1 n1 pos1 a1 kids1.len cap1)).drew):=Lib.hid (Below.refl _ _).drew
      have HALq:=Lib.hid hal
      have HGO:=Lib.hid hgo
      have HSTOP:=Lib.hid hstop
      clear hnext hin1 hcall HTL hok2 hal hgo hstop hdg hdr HAL
      go_wp2_with fail
      replace k0:=cell_below (below_box wr (boxOf op1 name1 n1 pos1 a1 kids1.len cap1)) k0
      replace k1:=cell_below (below_box wr (boxOf op1 name1 n1 pos1 a1 kids1.len cap1)) k1
      replace b3:=cell_below (below_box wr (boxOf op1 name1 n1 pos1 a1 kids1.len cap1)) b3
      replace e1:=cell_below (below_box wr (boxOf op1 name1 n1 pos1 a1 kids1.len cap1)) e1
      clear b0 b1 b2 b4 c0 c1 c2 c3 c4
      go_region_held3 (fun wz=>wz.cell? ⟨w.heap.size,0,none⟩=some (.map (some M))∧wz.cell? ⟨w.heap.size,1,none⟩=some (.map (some N))∧wz.cell? ⟨w.heap.size+1,3,none⟩=some (.int .i64 pos)∧wz.cell? ⟨db,dO+k * 3+1,none⟩=some (.int .i64 od)∧wz.cell? ⟨wr.heap.size,0,none⟩=some (.string op1)∧wz.cell? ⟨wr.heap.size,1,none⟩=some (.string name1)∧wz.cell? ⟨wr.heap.size,2,none⟩=some (.int .i64 n1)∧wz.cell? ⟨wr.heap.size,3,none⟩=some (.int .i64 pos1)∧wz.cell? ⟨wr.heap.size,4,none⟩=some (.slice a1 kids1.len cap1)) (go_keep) (first | (go_at_call 97;refine HCL.out.mono ?_;rintro e w3 ⟨rfl,hb3⟩;replace k0:=cell_below (HBE.out.trans (hb3.mono HBE.out.size)) k0;replace k1:=cell_below (HBE.out.trans (hb3.mono HBE.out.size)) k1;replace b3:=cell_below (HBE.out.trans (hb3.mono HBE.out.size)) b3;replace e1:=cell_below (HBE.out.trans (hb3.mono HBE.out.size)) e1;replace x0:=cell_below (HBE.out.trans (hb3.mono HBE.out.size)) x0;replace x1:=cell_below (HBE.out.trans (hb3.mono HBE.out.size)) x1;replace x2:=cell_below (HBE.out.trans (hb3.mono HBE.out.size)) x2;replace x3:=cell_below (HBE.out.trans (hb3.mono HBE.out.size)) x3;replace x4:=cell_below (HBE.out.trans (hb3.mono HBE.out.size)) x4;have HB3:=Lib.hid (HBD.out.trans (hb3.mono HBD.out.size));clear hb3))
      have hbx2:=hbx.trans (HB3.out.mono hbx.size)
      by_cases he:qe=0
      ·have HA2:=Lib.hid (show q0=callK O pos rest (ds.drop (k+1)) from by rw [HALq.out,HGO.out he])
       have HX2:=Lib.hid ((HB3.out.block _ (lt_heap HX.out)).trans HX.out)
       have HY2:=Lib.hid ((HB3.out.block _ (lt_heap HY.out)).trans HY.out)
       have HN2:=Lib.hid (HN1.out.below HB3.out)
       have HO2:=Lib.hid (HOR.out.below HB3.out)
       clear HB3 HN1 HX HY HCL HBD HBE k0 k1 b3 e1 x0 x1 x2 x3 x4 HALq HGO HSTOP HOR
       subst he
       go_wp2_with fail
       go_roundw
       case rel=>exact ⟨k+1,rest,by go_num,HN2,HA2,HK2,HR2,HX2,HY2,hbx2,HO2⟩
       case measure=>(try simp [intOf]);omega
      ·have hz:q0=(qp,qe):=by rw [HALq.out,HSTOP.out he]
       have heb:(qe != 0)=true:=by simp [he]
       subst hz
       clear HB3 HN1 HX HY HCL HBD HBE k0 k1 b3 e1 x0 x1 x2 x3 x4 HALq HGO HSTOP HOR he
       go_wp2_with fail
       go_ret2
       exact ⟨rfl,hbx2⟩
  ·rw [if_neg hlen] at hq1
   have hlb:((kids.len:Int) != (ds.length:Int))=true:=by simp;omega
   subst hq1
   clear hlen hdin
   go_enter Tryd.func70,Tryd.ntmps70
   go_wp2_with (at_lookup;refine wpList_lookup_smap _ rfl _ _ 79 rfl 9 22 Tryd.underlying9 Tryd.underlying79 (zeroDcs _) N mp f rfl HM.out name rfl hsz1 ?_;rw [HN.out])
   go_wp2_with fail
   go_ret2
   exact ⟨rfl,HW.out⟩
end Go.Proofs.YtmlmjopfbohglaaDoor
