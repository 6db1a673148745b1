/- Parts of the proof: KH. -/
import Derived.Test.YtmlmjopfbohglaaDoorWd07
namespace Go.Proofs.YtmlmjopfbohglaaDoor
open Go.RowKit
open Go.Maps
set_option maxRecDepth 100000 in
set_option maxHeartbeats 8000000 in
theorem kform_ex (op name:ByteArray) (n pos:Int) (a:Option Addr) (cap:Nat) (kids:Fo) (w:World) (M:Nat) (pv:Value) (P:World→Prop) (h0:(op.toList == [101,120])=true) (q1 q2:Int) (hc:∀ W,Below w.heap.size w W→Calls Tryd.prog 67 #[scV M pv,.agg #[.string op,.string name,.int .i64 n,.int .i64 pos,.slice a kids.len cap]] W fun e w'=>e=.returned (.tuple #[.int .i64 q1,.int .i64 q2])∧P w') :
  Calls Tryd.prog 40 #[scV M pv,.agg #[.string op,.string name,.int .i64 n,.int .i64 pos,.slice a kids.len cap]] w fun e w'=>e=.returned (.tuple #[.int .i64 q1,.int .i64 q2])∧P w':=by
 have hc2:=cellsScope
 have hc5:=cellsNode
 have hx:w.heap.size < (w.alloc (scBox M pv)).heap.size:=by simp
 have HW:=two_boxes w (scBox M pv) (boxOf op name n pos a kids.len cap)
 have HS:=(Below.heap_alloc (w.alloc (scBox M pv)) (boxOf op name n pos a kids.len cap) _ hx).trans (new_at w (scBox M pv))
 have HB:=(show ((w.alloc (scBox M pv)).alloc (boxOf op name n pos a kids.len cap)).heap[w.heap.size+1]? = some (boxOf op name n pos a kids.len cap) from by have h:=new_at (w.alloc (scBox M pv)) (boxOf op name n pos a kids.len cap);rw [alloc_size] at h;exact h)
 obtain ⟨k0,k1⟩:=sc_cells HS
 obtain ⟨b0,b1,b2,b3,b4⟩:=box_cells HB
 have HC:=Lib.hid (hc _ HW)
 clear hc HW HS HB
 go_enter Tryd.func40,Tryd.ntmps40
 go_wp2_with fail
 refine HC.out.mono ?_
 rintro e w2 ⟨rfl,hp⟩
 have HP:=Lib.hid hp
 clear hp HC k0 k1 b0 b1 b2 b3 b4
 go_wp2_with fail
 go_ret2
 exact ⟨rfl,HP.out⟩
set_option maxRecDepth 100000 in
set_option maxHeartbeats 8000000 in
theorem kform_all (op name:ByteArray) (n pos:Int) (a:Option Addr) (cap:Nat) (kids:Fo) (w:World) (M:Nat) (pv:Value) (P:World→Prop) (h0:(op.toList == [101,120])=false) (h1:(op.toList == [97,108,108])=true) (q1 q2:Int) (hc:∀ W,Below w.heap.size w W→Calls Tryd.prog 67 #[scV M pv,.agg #[.string op,.string name,.int .i64 n,.int .i64 pos,.slice a kids.len cap]] W fun e w'=>e=.returned (.tuple #[.int .i64 q1,.int .i64 q2])∧P w') :
  Calls Tryd.prog 40 #[scV M pv,.agg #[.string op,.string name,.int .i64 n,.int .i64 pos,.slice a kids.len cap]] w fun e w'=>e=.returned (.tuple #[.int .i64 q1,.int .i64 q2])∧P w':=by
 have hc2:=cellsScope
 have hc5:=cellsNode
 have hx:w.heap.size < (w.alloc (scBox M pv)).heap.size:=by simp
 have HW:=two_boxes w (scBox M pv) (boxOf op name n pos a kids.len cap)
 have HS:=(Below.heap_alloc (w.alloc (scBox M pv)) (boxOf op name n pos a kids.len cap) _ hx).trans (new_at w (scBox M pv))
 have HB:=(show ((w.alloc (scBox M pv)).alloc (boxOf op name n pos a kids.len cap)).heap[w.heap.size+1]? = some (boxOf op name n pos a kids.len cap) from by have h:=new_at (w.alloc (scBox M pv)) (boxOf op name n pos a kids.len cap);rw [alloc_size] at h;exact h)
 obtain ⟨k0,k1⟩:=sc_cells HS
 obtain ⟨b0,b1,b2,b3,b4⟩:=box_cells HB
 have HC:=Lib.hid (hc _ HW)
 clear hc HW HS HB
 go_enter Tryd.func40,Tryd.ntmps40
 go_wp2_with fail
 refine HC.out.mono ?_
 rintro e w2 ⟨rfl,hp⟩
 have HP:=Lib.hid hp
 clear hp HC k0 k1 b0 b1 b2 b3 b4
 go_wp2_with fail
 go_ret2
 exact ⟨rfl,HP.out⟩
set_option maxRecDepth 100000 in
set_option maxHeartbeats 8000000 in
theorem kform_is (op name:ByteArray) (n pos:Int) (a:Option Addr) (cap:Nat) (kids:Fo) (w:World) (M:Nat) (pv:Value) (P:World→Prop) (h0:(op.toList == [101,120])=false) (h1:(op.toList == [97,108,108])=false) (h2:(op.toList == [105,115])=true) (q1 q2:Int) (hc:∀ W,Below w.heap.size w W→Calls Tryd.prog 68 #[scV M pv,.agg #[.string op,.string name,.int .i64 n,.int .i64 pos,.slice a kids.len cap]] W fun e w'=>e=.returned (.tuple #[.int .i64 q1,.int .i64 q2])∧P w') :
  Calls Tryd.prog 40 #[scV M pv,.agg #[.string op,.string name,.int .i64 n,.int .i64 pos,.slice a kids.len cap]] w fun e w'=>e=.returned (.tuple #[.int .i64 q1,.int .i64 q2])∧P w':=by
 have hc2:=cellsScope
 have hc5:=cellsNode
 have hx:w.heap.size < (w.alloc (scBox M pv)).heap.size:=by simp
 have HW:=two_boxes w (scBox M pv) (boxOf op name n pos a kids.len cap)
 have HS:=(Below.heap_alloc (w.alloc (scBox M pv)) (boxOf op name n pos a kids.len cap) _ hx).trans (new_at w (scBox M pv))
 have HB:=(show ((w.alloc (scBox M pv)).alloc (boxOf op name n pos a kids.len cap)).heap[w.heap.size+1]? = some (boxOf op name n pos a kids.len cap) from by have h:=new_at (w.alloc (scBox M pv)) (boxOf op name n pos a kids.len cap);rw [alloc_size] at h;exact h)
 obtain ⟨k0,k1⟩:=sc_cells HS
 obtain ⟨b0,b1,b2,b3,b4⟩:=box_cells HB
 have HC:=Lib.hid (hc _ HW)
 clear hc HW HS HB
 go_enter Tryd.func40,Tryd.ntmps40
 go_wp2_with fail
 refine HC.out.mono ?_
 rintro e w2 ⟨rfl,hp⟩
 have HP:=Lib.hid hp
 clear hp HC k0 k1 b0 b1 b2 b3 b4
 go_wp2_with fail
 go_ret2
 exact ⟨rfl,HP.out⟩
set_option maxRecDepth 100000 in
set_option maxHeartbeats 8000000 in
theorem kform_eq (op name:ByteArray) (n pos:Int) (a:Option Addr) (cap:Nat) (kids:Fo) (w:World) (M:Nat) (pv:Value) (P:World→Prop) (h0:(op.toList == [101,120])=false) (h1:(op.toList == [97,108,108])=false) (h2:(op.toList == [105,115])=false) (h3:(op.toList == [101,113])=true) (q1 q2:Int) (hc:∀ W,Below w.heap.size w W→Calls Tryd.prog 69 #[scV M pv,.agg #[.string op,.string name,.int .i64 n,.int .i64 pos,.slice a kids.len cap]] W fun e w'=>e=.returned (.tuple #[.int .i64 q1,.int .i64 q2])∧P w') :
  Calls Tryd.prog 40 #[scV M pv,.agg #[.string op,.string name,.int .i64 n,.int .i64 pos,.slice a kids.len cap]] w fun e w'=>e=.returned (.tuple #[.int .i64 q1,.int .i64 q2])∧P w':=by
 have hc2:=cellsScope
 have hc5:=cellsNode
 have hx:w.heap.size < (w.alloc (scBox M pv)).heap.size:=by simp
 have HW:=two_boxes w (scBox M pv) (boxOf op name n pos a kids.len cap)
 have HS:=(Below.heap_alloc (w.alloc (scBox M pv)) (boxOf op name n pos a kids.len cap) _ hx).trans (new_at w (scBox M pv))
 have HB:=(show ((w.alloc (scBox M pv)).alloc (boxOf op name n pos a kids.len cap)).heap[w.heap.size+1]? = some (boxOf op name n pos a kids.len cap) from by have h:=new_at (w.alloc (scBox M pv)) (boxOf op name n pos a kids.len cap);rw [alloc_size] at h;exact h)
 obtain ⟨k0,k1⟩:=sc_cells HS
 obtain ⟨b0,b1,b2,b3,b4⟩:=box_cells HB
 have HC:=Lib.hid (hc _ HW)
 clear hc HW HS HB
 go_enter Tryd.func40,Tryd.ntmps40
 go_wp2_with fail
 refine HC.out.mono ?_
 rintro e w2 ⟨rfl,hp⟩
 have HP:=Lib.hid hp
 clear hp HC k0 k1 b0 b1 b2 b3 b4
 go_wp2_with fail
 go_ret2
 exact ⟨rfl,HP.out⟩
set_option maxRecDepth 100000 in
set_option maxHeartbeats 8000000 in
theorem kform_ne (op name:ByteArray) (n pos:Int) (a:Option Addr) (cap:Nat) (kids:Fo) (w:World) (M:Nat) (pv:Value) (P:World→Prop) (h0:(op.toList == [101,120])=false) (h1:(op.toList == [97,108,108])=false) (h2:(op.toList == [105,115])=false) (h3:(op.toList == [101,113])=false) (h4:(op.toList == [110,101])=true) (q1 q2:Int) (hc:∀ W,Below w.heap.size w W→Calls Tryd.prog 69 #[scV M pv,.agg #[.string op,.string name,.int .i64 n,.int .i64 pos,.slice a kids.len cap]] W fun e w'=>e=.returned (.tuple #[.int .i64 q1,.int .i64 q2])∧P w') :
  Calls Tryd.prog 40 #[scV M pv,.agg #[.string op,.string name,.int .i64 n,.int .i64 pos,.slice a kids.len cap]] w fun e w'=>e=.returned (.tuple #[.int .i64 q1,.int .i64 q2])∧P w':=by
 have hc2:=cellsScope
 have hc5:=cellsNode
 have hx:w.heap.size < (w.alloc (scBox M pv)).heap.size:=by simp
 have HW:=two_boxes w (scBox M pv) (boxOf op name n pos a kids.len cap)
 have HS:=(Below.heap_alloc (w.alloc (scBox M pv)) (boxOf op name n pos a kids.len cap) _ hx).trans (new_at w (scBox M pv))
 have HB:=(show ((w.alloc (scBox M pv)).alloc (boxOf op name n pos a kids.len cap)).heap[w.heap.size+1]? = some (boxOf op name n pos a kids.len cap) from by have h:=new_at (w.alloc (scBox M pv)) (boxOf op name n pos a kids.len cap);rw [alloc_size] at h;exact h)
 obtain ⟨k0,k1⟩:=sc_cells HS
 obtain ⟨b0,b1,b2,b3,b4⟩:=box_cells HB
 have HC:=Lib.hid (hc _ HW)
 clear hc HW HS HB
 go_enter Tryd.func40,Tryd.ntmps40
 go_wp2_with fail
 refine HC.out.mono ?_
 rintro e w2 ⟨rfl,hp⟩
 have HP:=Lib.hid hp
 clear hp HC k0 k1 b0 b1 b2 b3 b4
 go_wp2_with fail
 go_ret2
 exact ⟨rfl,HP.out⟩
set_option maxRecDepth 100000 in
set_option maxHeartbeats 8000000 in
theorem kform_lt (op name:ByteArray) (n pos:Int) (a:Option Addr) (cap:Nat) (kids:Fo) (w:World) (M:Nat) (pv:Value) (P:World→Prop) (h0:(op.toList == [101,120])=false) (h1:(op.toList == [97,108,108])=false) (h2:(op.toList == [105,115])=false) (h3:(op.toList == [101,113])=false) (h4:(op.toList == [110,101])=false) (h5:(op.toList == [108,116])=true) (q1 q2:Int) (hc:∀ W,Below w.heap.size w W→Calls Tryd.prog 69 #[scV M pv,.agg #[.string op,.string name,.int .i64 n,.int .i64 pos,.slice a kids.len cap]] W fun e w'=>e=.returned (.tuple #[.int .i64 q1,.int .i64 q2])∧P w') :
  Calls Tryd.prog 40 #[scV M pv,.agg #[.string op,.string name,.int .i64 n,.int .i64 pos,.slice a kids.len cap]] w fun e w'=>e=.returned (.tuple #[.int .i64 q1,.int .i64 q2])∧P w':=by
 have hc2:=cellsScope
 have hc5:=cellsNode
 have hx:w.heap.size < (w.alloc (scBox M pv)).heap.size:=by simp
 have HW:=two_boxes w (scBox M pv) (boxOf op name n pos a kids.len cap)
 have HS:=(Below.heap_alloc (w.alloc (scBox M pv)) (boxOf op name n pos a kids.len cap) _ hx).trans (new_at w (scBox M pv))
 have HB:=(show ((w.alloc (scBox M pv)).alloc (boxOf op name n pos a kids.len cap)).heap[w.heap.size+1]? = some (boxOf op name n pos a kids.len cap) from by have h:=new_at (w.alloc (scBox M pv)) (boxOf op name n pos a kids.len cap);rw [alloc_size] at h;exact h)
 obtain ⟨k0,k1⟩:=sc_cells HS
 obtain ⟨b0,b1,b2,b3,b4⟩:=box_cells HB
 have HC:=Lib.hid (hc _ HW)
 clear hc HW HS HB
 go_enter Tryd.func40,Tryd.ntmps40
 go_wp2_with fail
 refine HC.out.mono ?_
 rintro e w2 ⟨rfl,hp⟩
 have HP:=Lib.hid hp
 clear hp HC k0 k1 b0 b1 b2 b3 b4
 go_wp2_with fail
 go_ret2
 exact ⟨rfl,HP.out⟩
set_option maxRecDepth 100000 in
set_option maxHeartbeats 8000000 in
theorem kform_le (op name:ByteArray) (n pos:Int) (a:Option Addr) (cap:Nat) (kids:Fo) (w:World) (M:Nat) (pv:Value) (P:World→Prop) (h0:(op.toList == [101,120])=false) (h1:(op.toList == [97,108,108])=false) (h2:(op.toList == [105,115])=false) (h3:(op.toList == [101,113])=false) (h4:(op.toList == [110,101])=false) (h5:(op.toList == [108,116])=false) (h6:(op.toList == [108,101])=true) (q1 q2:Int) (hc:∀ W,Below w.heap.size w W→Calls Tryd.prog 69 #[scV M pv,.agg #[.string op,.string name,.int .i64 n,.int .i64 pos,.slice a kids.len cap]] W fun e w'=>e=.returned (.tuple #[.int .i64 q1,.int .i64 q2])∧P w') :
  Calls Tryd.prog 40 #[scV M pv,.agg #[.string op,.string name,.int .i64 n,.int .i64 pos,.slice a kids.len cap]] w fun e w'=>e=.returned (.tuple #[.int .i64 q1,.int .i64 q2])∧P w':=by
 have hc2:=cellsScope
 have hc5:=cellsNode
 have hx:w.heap.size < (w.alloc (scBox M pv)).heap.size:=by simp
 have HW:=two_boxes w (scBox M pv) (boxOf op name n pos a kids.len cap)
 have HS:=(Below.heap_alloc (w.alloc (scBox M pv)) (boxOf op name n pos a kids.len cap) _ hx).trans (new_at w (scBox M pv))
 have HB:=(show ((w.alloc (scBox M pv)).alloc (boxOf op name n pos a kids.len cap)).heap[w.heap.size+1]? = some (boxOf op name n pos a kids.len cap) from by have h:=new_at (w.alloc (scBox M pv)) (boxOf op name n pos a kids.len cap);rw [alloc_size] at h;exact h)
 obtain ⟨k0,k1⟩:=sc_cells HS
 obtain ⟨b0,b1,b2,b3,b4⟩:=box_cells HB
 have HC:=Lib.hid (hc _ HW)
 clear hc HW HS HB
 go_enter Tryd.func40,Tryd.ntmps40
 go_wp2_with fail
 refine HC.out.mono ?_
 rintro e w2 ⟨rfl,hp⟩
 have HP:=Lib.hid hp
 clear hp HC k0 k1 b0 b1 b2 b3 b4
 go_wp2_with fail
 go_ret2
 exact ⟨rfl,HP.out⟩
set_option maxRecDepth 100000 in
set_option maxHeartbeats 8000000 in
theorem kform_in (op name:ByteArray) (n pos:Int) (a:Option Addr) (cap:Nat) (kids:Fo) (w:World) (M:Nat) (pv:Value) (P:World→Prop) (h0:(op.toList == [101,120])=false) (h1:(op.toList == [97,108,108])=false) (h2:(op.toList == [105,115])=false) (h3:(op.toList == [101,113])=false) (h4:(op.toList == [110,101])=false) (h5:(op.toList == [108,116])=false) (h6:(op.toList == [108,101])=false) (h7:(op.toList == [105,110])=true) (q1 q2:Int) (hc:∀ W,Below w.heap.size w W→Calls Tryd.prog 69 #[scV M pv,.agg #[.string op,.string name,.int .i64 n,.int .i64 pos,.slice a kids.len cap]] W fun e w'=>e=.returned (.tuple #[.int .i64 q1,.int .i64 q2])∧P w') :
  Calls Tryd.prog 40 #[scV M pv,.agg #[.string op,.string name,.int .i64 n,.int .i64 pos,.slice a kids.len cap]] w fun e w'=>e=.returned (.tuple #[.int .i64 q1,.int .i64 q2])∧P w':=by
 have hc2:=cellsScope
 have hc5:=cellsNode
 have hx:w.heap.size < (w.alloc (scBox M pv)).heap.size:=by simp
 have HW:=two_boxes w (scBox M pv) (boxOf op name n pos a kids.len cap)
 have HS:=(Below.heap_alloc (w.alloc (scBox M pv)) (boxOf op name n pos a kids.len cap) _ hx).trans (new_at w (scBox M pv))
 have HB:=(show ((w.alloc (scBox M pv)).alloc (boxOf op name n pos a kids.len cap)).heap[w.heap.size+1]? = some (boxOf op name n pos a kids.len cap) from by have h:=new_at (w.alloc (scBox M pv)) (boxOf op name n pos a kids.len cap);rw [alloc_size] at h;exact h)
 obtain ⟨k0,k1⟩:=sc_cells HS
 obtain ⟨b0,b1,b2,b3,b4⟩:=box_cells HB
 have HC:=Lib.hid (hc _ HW)
 clear hc HW HS HB
 go_enter Tryd.func40,Tryd.ntmps40
 go_wp2_with fail
 refine HC.out.mono ?_
 rintro e w2 ⟨rfl,hp⟩
 have HP:=Lib.hid hp
 clear hp HC k0 k1 b0 b1 b2 b3 b4
 go_wp2_with fail
 go_ret2
 exact ⟨rfl,HP.out⟩
set_option maxRecDepth 100000 in
set_option maxHeartbeats 8000000 in
theorem kform_notin (op name:ByteArray) (n pos:Int) (a:Option Addr) (cap:Nat) (kids:Fo) (w:World) (M:Nat) (pv:Value) (P:World→Prop) (h0:(op.toList == [101,120])=false) (h1:(op.toList == [97,108,108])=false) (h2:(op.toList == [105,115])=false) (h3:(op.toList == [101,113])=false) (h4:(op.toList == [110,101])=false) (h5:(op.toList == [108,116])=false) (h6:(op.toList == [108,101])=false) (h7:(op.toList == [105,110])=false) (h8:(op.toList == [110,111,116,105,110])=true) (q1 q2:Int) (hc:∀ W,Below w.heap.size w W→Calls Tryd.prog 69 #[scV M pv,.agg #[.string op,.string name,.int .i64 n,.int .i64 pos,.slice a kids.len cap]] W fun e w'=>e=.returned (.tuple #[.int .i64 q1,.int .i64 q2])∧P w') :
  Calls Tryd.prog 40 #[scV M pv,.agg #[.string op,.string name,.int .i64 n,.int .i64 pos,.slice a kids.len cap]] w fun e w'=>e=.returned (.tuple #[.int .i64 q1,.int .i64 q2])∧P w':=by
 have hc2:=cellsScope
 have hc5:=cellsNode
 have hx:w.heap.size < (w.alloc (scBox M pv)).heap.size:=by simp
 have HW:=two_boxes w (scBox M pv) (boxOf op name n pos a kids.len cap)
 have HS:=(Below.heap_alloc (w.alloc (scBox M pv)) (boxOf op name n pos a kids.len cap) _ hx).trans (new_at w (scBox M pv))
 have HB:=(show ((w.alloc (scBox M pv)).alloc (boxOf op name n pos a kids.len cap)).heap[w.heap.size+1]? = some (boxOf op name n pos a kids.len cap) from by have h:=new_at (w.alloc (scBox M pv)) (boxOf op name n pos a kids.len cap);rw [alloc_size] at h;exact h)
 obtain ⟨k0,k1⟩:=sc_cells HS
 obtain ⟨b0,b1,b2,b3,b4⟩:=box_cells HB
 have HC:=Lib.hid (hc _ HW)
 clear hc HW HS HB
 go_enter Tryd.func40,Tryd.ntmps40
 go_wp2_with fail
 refine HC.out.mono ?_
 rintro e w2 ⟨rfl,hp⟩
 have HP:=Lib.hid hp
 clear hp HC k0 k1 b0 b1 b2 b3 b4
 go_wp2_with fail
 go_ret2
 exact ⟨rfl,HP.out⟩
set_option maxRecDepth 100000 in
set_option maxHeartbeats 8000000 in
theorem kform_sub (op name:ByteArray) (n pos:Int) (a:Option Addr) (cap:Nat) (kids:Fo) (w:World) (M:Nat) (pv:Value) (P:World→Prop) (h0:(op.toList == [101,120])=false) (h1:(op.toList == [97,108,108])=false) (h2:(op.toList == [105,115])=false) (h3:(op.toList == [101,113])=false) (h4:(op.toList == [110,101])=false) (h5:(op.toList == [108,116])=false) (h6:(op.toList == [108,101])=false) (h7:(op.toList == [105,110])=false) (h8:(op.toList == [110,111,116,105,110])=false) (h9:(op.toList == [115,117,98])=true) (q1 q2:Int) (hc:∀ W,Below w.heap.size w W→Calls Tryd.prog 69 #[scV M pv,.agg #[.string op,.string name,.int .i64 n,.int .i64 pos,.slice a kids.len cap]] W fun e w'=>e=.returned (.tuple #[.int .i64 q1,.int .i64 q2])∧P w') :
  Calls Tryd.prog 40 #[scV M pv,.agg #[.string op,.string name,.int .i64 n,.int .i64 pos,.slice a kids.len cap]] w fun e w'=>e=.returned (.tuple #[.int .i64 q1,.int .i64 q2])∧P w':=by
 have hc2:=cellsScope
 have hc5:=cellsNode
 have hx:w.heap.size < (w.alloc (scBox M pv)).heap.size:=by simp
 have HW:=two_boxes w (scBox M pv) (boxOf op name n pos a kids.len cap)
 have HS:=(Below.heap_alloc (w.alloc (scBox M pv)) (boxOf op name n pos a kids.len cap) _ hx).trans (new_at w (scBox M pv))
 have HB:=(show ((w.alloc (scBox M pv)).alloc (boxOf op name n pos a kids.len cap)).heap[w.heap.size+1]? = some (boxOf op name n pos a kids.len cap) from by have h:=new_at (w.alloc (scBox M pv)) (boxOf op name n pos a kids.len cap);rw [alloc_size] at h;exact h)
 obtain ⟨k0,k1⟩:=sc_cells HS
 obtain ⟨b0,b1,b2,b3,b4⟩:=box_cells HB
 have HC:=Lib.hid (hc _ HW)
 clear hc HW HS HB
 go_enter Tryd.func40,Tryd.ntmps40
 go_wp2_with fail
 refine HC.out.mono ?_
 rintro e w2 ⟨rfl,hp⟩
 have HP:=Lib.hid hp
 clear hp HC k0 k1 b0 b1 b2 b3 b4
 go_wp2_with fail
 go_ret2
 exact ⟨rfl,HP.out⟩
set_option maxRecDepth 100000 in
set_option maxHeartbeats 8000000 in
theorem kform_call (op name:ByteArray) (n pos:Int) (a:Option Addr) (cap:Nat) (kids:Fo) (w:World) (M:Nat) (pv:Value) (P:World→Prop) (h0:(op.toList == [101,120])=false) (h1:(op.toList == [97,108,108])=false) (h2:(op.toList == [105,115])=false) (h3:(op.toList == [101,113])=false) (h4:(op.toList == [110,101])=false) (h5:(op.toList == [108,116])=false) (h6:(op.toList == [108,101])=false) (h7:(op.toList == [105,110])=false) (h8:(op.toList == [110,111,116,105,110])=false) (h9:(op.toList == [115,117,98])=false) (h10:(op.toList == [99,97,108,108])=true) (q1 q2:Int) (hc:∀ W,Below w.heap.size w W→Calls Tryd.prog 70 #[scV M pv,.agg #[.string op,.string name,.int .i64 n,.int .i64 pos,.slice a kids.len cap]] W fun e w'=>e=.returned (.tuple #[.int .i64 q1,.int .i64 q2])∧P w') :
  Calls Tryd.prog 40 #[scV M pv,.agg #[.string op,.string name,.int .i64 n,.int .i64 pos,.slice a kids.len cap]] w fun e w'=>e=.returned (.tuple #[.int .i64 q1,.int .i64 q2])∧P w':=by
 have hc2:=cellsScope
 have hc5:=cellsNode
 have hx:w.heap.size < (w.alloc (scBox M pv)).heap.size:=by simp
 have HW:=two_boxes w (scBox M pv) (boxOf op name n pos a kids.len cap)
 have HS:=(Below.heap_alloc (w.alloc (scBox M pv)) (boxOf op name n pos a kids.len cap) _ hx).trans (new_at w (scBox M pv))
 have HB:=(show ((w.alloc (scBox M pv)).alloc (boxOf op name n pos a kids.len cap)).heap[w.heap.size+1]? = some (boxOf op name n pos a kids.len cap) from by have h:=new_at (w.alloc (scBox M pv)) (boxOf op name n pos a kids.len cap);rw [alloc_size] at h;exact h)
 obtain ⟨k0,k1⟩:=sc_cells HS
 obtain ⟨b0,b1,b2,b3,b4⟩:=box_cells HB
 have HC:=Lib.hid (hc _ HW)
 clear hc HW HS HB
 go_enter Tryd.func40,Tryd.ntmps40
 go_wp2_with fail
 refine HC.out.mono ?_
 rintro e w2 ⟨rfl,hp⟩
 have HP:=Lib.hid hp
 clear hp HC k0 k1 b0 b1 b2 b3 b4
 go_wp2_with fail
 go_ret2
 exact ⟨rfl,HP.out⟩
set_option maxRecDepth 100000 in
set_option maxHeartbeats 16000000 in
theorem kform_kids (op name:ByteArray) (n pos:Int) (a:Option Addr) (cap:Nat) (kids:Fo) (w:World) (M m:Nat) (pv:Value) (O:ByteArray→Int) (Q:ByteArray→Option (List Dc)) (ho:OrdIs w M m O) (hp:PrdIs w M pv Q) (hin:KidsIn w a kids) (hsz:kids.sized) (hok:kids.allB Nd.okF=true) (hk:Fo.All SayFk kids) (hm:m+2 * kids.size≤1000000000) (h0:(op.toList == [101,120])=false) (h1:(op.toList == [97,108,108])=false) (h2:(op.toList == [105,115])=false) (h3:(op.toList == [101,113])=false) (h4:(op.toList == [110,101])=false) (h5:(op.toList == [108,116])=false) (h6:(op.toList == [108,101])=false) (h7:(op.toList == [105,110])=false) (h8:(op.toList == [110,111,116,105,110])=false) (h9:(op.toList == [115,117,98])=false) (h10:(op.toList == [99,97,108,108])=false) :
  Calls Tryd.prog 40 #[scV M pv,.agg #[.string op,.string name,.int .i64 n,.int .i64 pos,.slice a kids.len cap]] w fun e w'=>e=.returned (.tuple #[.int .i64 (kids.fs Q O).1,.int .i64 (kids.fs Q O).2])∧Kp M w w'∧∃ m',m'≤m+2 * kids.size∧OrdIs w' M m' O:=by
 have hc2:=cellsScope
 have hc5:=cellsNode
 obtain ⟨q0,hq0⟩:∃ q0,q0=kids.fs Q O:=⟨_,rfl⟩
 rw [← hq0]
 have hMs:=ho.lt
 have hx:w.heap.size < (w.alloc (scBox M pv)).heap.size:=by simp
 have HW:=Lib.hid (two_boxes w (scBox M pv) (boxOf op name n pos a kids.len cap))
 have HS:=Lib.hid ((Below.heap_alloc (w.alloc (scBox M pv)) (boxOf op name n pos a kids.len cap) _ hx).trans (new_at w (scBox M pv)))
 have HB:=(show ((w.alloc (scBox M pv)).alloc (boxOf op name n pos a kids.len cap)).heap[w.heap.size+1]? = some (boxOf op name n pos a kids.len cap) from by have h:=new_at (w.alloc (scBox M pv)) (boxOf op name n pos a kids.len cap);rw [alloc_size] at h;exact h)
 obtain ⟨b0,b1,b2,b3,b4⟩:=box_cells HB
 have HO:=Lib.hid ho
 have HO0:=Lib.hid (ho.below HW.out)
 have HP:=Lib.hid hp
 have HSZ:=Lib.hid hsz
 have HOK:=Lib.hid hok
 have HQ:=Lib.hid hq0
 have HKW:=Lib.hid (Kp.of_below (B:=M) HW.out)
 clear ho hp hsz hok hq0 HB
 rcases hin with hnil | ⟨kb,ko,hab,hlim,hpos,hkin⟩
 ·subst hnil
  have hz0:((Fo.nil.len:Nat):Int)=0:=rfl
  have hz:q0=(0,0):=HQ.out
  subst hz
  go_enter Tryd.func40,Tryd.ntmps40
  go_wp2_with fail
  go_loopw [50] (fun i wr=>i=.int .i64 0∧RowKit.Hid (Kp M w wr)∧RowKit.Hid (OrdIs wr M m O)) (fun _ _=>0)
  case atStart=>exact ⟨rfl,HKW,HO0⟩
  case round =>
   obtain ⟨rfl,HK,HOR⟩:=hrel
   go_wp2_with fail
   go_ret2
   exact ⟨rfl,HK.out,m,by omega,HOR.out⟩
 ·subst hab
  have HST:=Lib.hid (Tail.start (hkin.below HW.out) hk)
  clear hkin hpos hk
  go_enter Tryd.func40,Tryd.ntmps40
  go_wp2_with fail
  go_loopw [50] (fun i wr=>∃ (k:Nat) (R:Fo) (mk:Nat),i=.int .i64 k∧RowKit.Hid (Tail wr SayFk kids R kb ko k)∧RowKit.Hid (q0=R.fs Q O)∧RowKit.Hid (R.allB Nd.okF=true)∧RowKit.Hid R.sized∧RowKit.Hid (wr.heap[w.heap.size]? = some (scBox M pv))∧RowKit.Hid (Kp M w wr)∧RowKit.Hid (OrdIs wr M mk O)∧mk+2 * R.size≤m+2 * kids.size) (fun i _=>kids.len - (intOf i).toNat)
  case atStart=>exact ⟨0,kids,m,rfl,HST,HQ,HOK,HSZ,HS,HKW,HO0,by omega⟩
  case round =>
   obtain ⟨k,R,mk,rfl,HTL,HAL,HKO,HRS,HX,HKP,HOR,hmk⟩:=hrel
   clear HST HQ HS HO0 HKW b0 b1 b2 b3 b4
   obtain ⟨s0,s1⟩:=sc_cells HX.out
   cases R with
   | nil =>
    have hkl:k=kids.len:=by have:=HTL.out.len;simpa [Fo.len] using this
    subst hkl
    have hz:q0=(0,0):=HAL.out
    subst hz
    have hmk2:mk≤m+2 * kids.size:=by omega
    go_wp2_with fail
    go_ret2
    exact ⟨rfl,HKP.out,mk,hmk2,HOR.out⟩
   | cons op1 name1 n1 pos1 a1 cap1 kids1 rest =>
    obtain ⟨hnode,hin1,hP,hkl,hnext⟩:=HTL.out.next
    have hkl2:(k:Int) < kids.len:=by omega
    obtain ⟨c0,c1,c2,c3,c4⟩:=hnode
    have HN1:=Lib.hid hnext
    have hsz1:Fo.size (.cons op1 name1 n1 pos1 a1 cap1 kids1 rest)=kids1.size+1+rest.size:=rfl
    have hsz2:Nd.size ⟨op1,name1,n1,pos1,a1,cap1,kids1⟩=kids1.size+1:=rfl
    have hok2:(Nd.okF ⟨op1,name1,n1,pos1,a1,cap1,kids1⟩ && rest.allB Nd.okF)=true:=HKO.out
    rw [Bool.and_eq_true] at hok2
    have hcall:=hP (wr.alloc (boxOf op1 name1 n1 pos1 a1 kids1.len cap1)) M mk pv O Q (HOR.out.below (below_box _ _)) ((HP.out.kp HKP.out (HO.out.cl HKP.out)).below (below_box _ _)) (hin1.below (below_box _ _)) ⟨HRS.out.1,HRS.out.2.1⟩ hok2.1 (by omega)
    rw [Nd.val_def] at hcall
    have hal:q0=(if (Nd.fk Q O ⟨op1,name1,n1,pos1,a1,cap1,kids1⟩).2=0 then rest.fs Q O else Nd.fk Q O ⟨op1,name1,n1,pos1,a1,cap1,kids1⟩):=HAL.out
    generalize Nd.fk Q O ⟨op1,name1,n1,pos1,a1,cap1,kids1⟩=q at hcall hal
    obtain ⟨qp,qe⟩:=q
    simp only [] at hcall hal
    have HCL:=Lib.hid hcall
    have HR2:=Lib.hid HRS.out.2.2
    have HK2:=Lib.hid hok2.2
    have hBB:=new_at wr (boxOf op1 name1 n1 pos1 a1 kids1.len cap1)
    obtain ⟨x0,x1,x2,x3,x4⟩:=box_cells hBB
    have hxs:=lt_heap HX.out
    have hMr:=HOR.out.lt
    obtain ⟨r0,r1⟩:=sc_cells ((Below.heap_alloc wr (boxOf op1 name1 n1 pos1 a1 kids1.len cap1) _ hxs).trans HX.out)
    have HCLB:=Lib.hid (fun w3 (h:Kp M (wr.alloc (boxOf op1 name1 n1 pos1 a1 kids1.len cap1)) w3)=>(Cl.of_below (below_box wr (boxOf op1 name1 n1 pos1 a1 kids1.len cap1))).trans (OrdIs.cl (HOR.out.below (below_box _ _)) h))
    clear hnext hin1 hP hcall HTL hok2 hBB HAL
    have hsum:mk+2 * (kids1.size+1)+2 * rest.size≤m+2 * kids.size:=by omega
    by_cases he:qe=0
    ·have HA2:=Lib.hid (show q0=rest.fs Q O from by rw [hal,if_pos he])
     clear hal
     subst he
     go_wp2_with fail
     refine HCL.out.mono ?_
     rintro e w3 ⟨rfl,hk3,m3,hm3,ho3⟩
     have HKP2:=Lib.hid (((HKP.out.alloc (boxOf op1 name1 n1 pos1 a1 kids1.len cap1))).trans hk3)
     have HX2:=Lib.hid (hk3.blk ((Below.heap_alloc wr (boxOf op1 name1 n1 pos1 a1 kids1.len cap1) _ hxs).trans HX.out) (by omega))
     have HN2:=Lib.hid (HN1.out.cl (HCLB.out w3 hk3))
     have HO2:=Lib.hid ho3
     clear hk3 ho3 HN1 HX HCL HKP HOR HCLB x0 x1 x2 x3 x4 c0 c1 c2 c3 c4 s0 s1 r0 r1
     go_wp2_with fail
     go_roundw
     case rel=>exact ⟨k+1,rest,m3,by go_num,HN2,HA2,HK2,HR2,HX2,HKP2,HO2,by omega⟩
     case measure=>(try simp [intOf]);omega
    ·have hz:q0=(qp,qe):=by rw [hal,if_neg he]
     have heb:(qe != 0)=true:=by simp [he]
     clear hal he
     subst hz
     go_wp2_with fail
     refine HCL.out.mono ?_
     rintro e w3 ⟨rfl,hk3,m3,hm3,ho3⟩
     have HKP2:=Lib.hid (((HKP.out.alloc (boxOf op1 name1 n1 pos1 a1 kids1.len cap1))).trans hk3)
     have HO2:=Lib.hid ho3
     clear hk3 ho3 HN1 HX HCL HKP HOR HCLB x0 x1 x2 x3 x4 c0 c1 c2 c3 c4 s0 s1 r0 r1
     go_wp2_with fail
     go_ret2
     exact ⟨rfl,HKP2.out,m3,by omega,HO2.out⟩
end Go.Proofs.YtmlmjopfbohglaaDoor
