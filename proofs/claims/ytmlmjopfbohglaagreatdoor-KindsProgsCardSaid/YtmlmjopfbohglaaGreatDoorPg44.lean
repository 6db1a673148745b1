/- Parts of the proof: KX. -/
import Derived.Test.YtmlmjopfbohglaaGreatDoorPg43
namespace Go.Proofs.YtmlmjopfbohglaaGreatDoor
open Go.RowKit
open Go.Maps
set_option maxRecDepth 100000 in
set_option maxHeartbeats 16000000 in
theorem rform_eq (op name:ByteArray) (n pos:Int) (a:Option Addr) (cap:Nat) (kids:Fo) (w:World) (pa:Option Addr) (pl pc:Nat) (da:Option Addr) (dl dc:Nat) (h0:(op.toList == [105,115])=false) (h1:(op.toList == [101,113])=true) (q1 q2:Int) (hc:∀ W,Below w.heap.size w W→Calls Tryz.prog 102 #[.slice da dl dc,.agg #[.string op,.string name,.int .i64 n,.int .i64 pos,.slice a kids.len cap],.int .i64 0,.int .i64 0] W fun e w'=>e=.returned (.tuple #[.int .i64 q1,.int .i64 q2])∧Below W.heap.size W w') :
  Calls Tryz.prog 60 #[.slice pa pl pc,.slice da dl dc,.agg #[.string op,.string name,.int .i64 n,.int .i64 pos,.slice a kids.len cap]] w fun e w'=>e=.returned (.tuple #[.int .i64 q1,.int .i64 q2])∧Below w.heap.size w w':=by
 have hc5:=cellsNode
 have HW:=Lib.hid (below_box w (boxOf op name n pos a kids.len cap))
 obtain ⟨b0,b1,b2,b3,b4⟩:=box_cells (new_at w (boxOf op name n pos a kids.len cap))
 have HC:=Lib.hid (hc _ HW.out)
 clear hc
 go_enter Tryz.func60,Tryz.ntmps60
 go_wp2_with fail
 refine HC.out.mono ?_
 rintro e w2 ⟨rfl,hb2⟩
 have HW2:=Lib.hid (HW.out.trans (hb2.mono HW.out.size))
 clear hb2 HC b0 b1 b2 b3 b4
 go_wp2_with fail
 go_ret2
 exact ⟨rfl,HW2.out⟩
set_option maxRecDepth 100000 in
set_option maxHeartbeats 16000000 in
theorem rform_ne (op name:ByteArray) (n pos:Int) (a:Option Addr) (cap:Nat) (kids:Fo) (w:World) (pa:Option Addr) (pl pc:Nat) (da:Option Addr) (dl dc:Nat) (h0:(op.toList == [105,115])=false) (h1:(op.toList == [101,113])=false) (h2:(op.toList == [110,101])=true) (q1 q2:Int) (hc:∀ W,Below w.heap.size w W→Calls Tryz.prog 102 #[.slice da dl dc,.agg #[.string op,.string name,.int .i64 n,.int .i64 pos,.slice a kids.len cap],.int .i64 0,.int .i64 0] W fun e w'=>e=.returned (.tuple #[.int .i64 q1,.int .i64 q2])∧Below W.heap.size W w') :
  Calls Tryz.prog 60 #[.slice pa pl pc,.slice da dl dc,.agg #[.string op,.string name,.int .i64 n,.int .i64 pos,.slice a kids.len cap]] w fun e w'=>e=.returned (.tuple #[.int .i64 q1,.int .i64 q2])∧Below w.heap.size w w':=by
 have hc5:=cellsNode
 have HW:=Lib.hid (below_box w (boxOf op name n pos a kids.len cap))
 obtain ⟨b0,b1,b2,b3,b4⟩:=box_cells (new_at w (boxOf op name n pos a kids.len cap))
 have HC:=Lib.hid (hc _ HW.out)
 clear hc
 go_enter Tryz.func60,Tryz.ntmps60
 go_wp2_with fail
 refine HC.out.mono ?_
 rintro e w2 ⟨rfl,hb2⟩
 have HW2:=Lib.hid (HW.out.trans (hb2.mono HW.out.size))
 clear hb2 HC b0 b1 b2 b3 b4
 go_wp2_with fail
 go_ret2
 exact ⟨rfl,HW2.out⟩
set_option maxRecDepth 100000 in
set_option maxHeartbeats 16000000 in
theorem rform_lt (op name:ByteArray) (n pos:Int) (a:Option Addr) (cap:Nat) (kids:Fo) (w:World) (pa:Option Addr) (pl pc:Nat) (da:Option Addr) (dl dc:Nat) (h0:(op.toList == [105,115])=false) (h1:(op.toList == [101,113])=false) (h2:(op.toList == [110,101])=false) (h3:(op.toList == [108,116])=true) (q1 q2:Int) (hc:∀ W,Below w.heap.size w W→Calls Tryz.prog 102 #[.slice da dl dc,.agg #[.string op,.string name,.int .i64 n,.int .i64 pos,.slice a kids.len cap],.int .i64 1,.int .i64 1] W fun e w'=>e=.returned (.tuple #[.int .i64 q1,.int .i64 q2])∧Below W.heap.size W w') :
  Calls Tryz.prog 60 #[.slice pa pl pc,.slice da dl dc,.agg #[.string op,.string name,.int .i64 n,.int .i64 pos,.slice a kids.len cap]] w fun e w'=>e=.returned (.tuple #[.int .i64 q1,.int .i64 q2])∧Below w.heap.size w w':=by
 have hc5:=cellsNode
 have HW:=Lib.hid (below_box w (boxOf op name n pos a kids.len cap))
 obtain ⟨b0,b1,b2,b3,b4⟩:=box_cells (new_at w (boxOf op name n pos a kids.len cap))
 have HC:=Lib.hid (hc _ HW.out)
 clear hc
 go_enter Tryz.func60,Tryz.ntmps60
 go_wp2_with fail
 refine HC.out.mono ?_
 rintro e w2 ⟨rfl,hb2⟩
 have HW2:=Lib.hid (HW.out.trans (hb2.mono HW.out.size))
 clear hb2 HC b0 b1 b2 b3 b4
 go_wp2_with fail
 go_ret2
 exact ⟨rfl,HW2.out⟩
set_option maxRecDepth 100000 in
set_option maxHeartbeats 16000000 in
theorem rform_le (op name:ByteArray) (n pos:Int) (a:Option Addr) (cap:Nat) (kids:Fo) (w:World) (pa:Option Addr) (pl pc:Nat) (da:Option Addr) (dl dc:Nat) (h0:(op.toList == [105,115])=false) (h1:(op.toList == [101,113])=false) (h2:(op.toList == [110,101])=false) (h3:(op.toList == [108,116])=false) (h4:(op.toList == [108,101])=true) (q1 q2:Int) (hc:∀ W,Below w.heap.size w W→Calls Tryz.prog 102 #[.slice da dl dc,.agg #[.string op,.string name,.int .i64 n,.int .i64 pos,.slice a kids.len cap],.int .i64 1,.int .i64 1] W fun e w'=>e=.returned (.tuple #[.int .i64 q1,.int .i64 q2])∧Below W.heap.size W w') :
  Calls Tryz.prog 60 #[.slice pa pl pc,.slice da dl dc,.agg #[.string op,.string name,.int .i64 n,.int .i64 pos,.slice a kids.len cap]] w fun e w'=>e=.returned (.tuple #[.int .i64 q1,.int .i64 q2])∧Below w.heap.size w w':=by
 have hc5:=cellsNode
 have HW:=Lib.hid (below_box w (boxOf op name n pos a kids.len cap))
 obtain ⟨b0,b1,b2,b3,b4⟩:=box_cells (new_at w (boxOf op name n pos a kids.len cap))
 have HC:=Lib.hid (hc _ HW.out)
 clear hc
 go_enter Tryz.func60,Tryz.ntmps60
 go_wp2_with fail
 refine HC.out.mono ?_
 rintro e w2 ⟨rfl,hb2⟩
 have HW2:=Lib.hid (HW.out.trans (hb2.mono HW.out.size))
 clear hb2 HC b0 b1 b2 b3 b4
 go_wp2_with fail
 go_ret2
 exact ⟨rfl,HW2.out⟩
set_option maxRecDepth 100000 in
set_option maxHeartbeats 16000000 in
theorem rform_in (op name:ByteArray) (n pos:Int) (a:Option Addr) (cap:Nat) (kids:Fo) (w:World) (pa:Option Addr) (pl pc:Nat) (da:Option Addr) (dl dc:Nat) (h0:(op.toList == [105,115])=false) (h1:(op.toList == [101,113])=false) (h2:(op.toList == [110,101])=false) (h3:(op.toList == [108,116])=false) (h4:(op.toList == [108,101])=false) (h5:(op.toList == [105,110])=true) (q1 q2:Int) (hc:∀ W,Below w.heap.size w W→Calls Tryz.prog 102 #[.slice da dl dc,.agg #[.string op,.string name,.int .i64 n,.int .i64 pos,.slice a kids.len cap],.int .i64 1,.int .i64 2] W fun e w'=>e=.returned (.tuple #[.int .i64 q1,.int .i64 q2])∧Below W.heap.size W w') :
  Calls Tryz.prog 60 #[.slice pa pl pc,.slice da dl dc,.agg #[.string op,.string name,.int .i64 n,.int .i64 pos,.slice a kids.len cap]] w fun e w'=>e=.returned (.tuple #[.int .i64 q1,.int .i64 q2])∧Below w.heap.size w w':=by
 have hc5:=cellsNode
 have HW:=Lib.hid (below_box w (boxOf op name n pos a kids.len cap))
 obtain ⟨b0,b1,b2,b3,b4⟩:=box_cells (new_at w (boxOf op name n pos a kids.len cap))
 have HC:=Lib.hid (hc _ HW.out)
 clear hc
 go_enter Tryz.func60,Tryz.ntmps60
 go_wp2_with fail
 refine HC.out.mono ?_
 rintro e w2 ⟨rfl,hb2⟩
 have HW2:=Lib.hid (HW.out.trans (hb2.mono HW.out.size))
 clear hb2 HC b0 b1 b2 b3 b4
 go_wp2_with fail
 go_ret2
 exact ⟨rfl,HW2.out⟩
set_option maxRecDepth 100000 in
set_option maxHeartbeats 16000000 in
theorem rform_notin (op name:ByteArray) (n pos:Int) (a:Option Addr) (cap:Nat) (kids:Fo) (w:World) (pa:Option Addr) (pl pc:Nat) (da:Option Addr) (dl dc:Nat) (h0:(op.toList == [105,115])=false) (h1:(op.toList == [101,113])=false) (h2:(op.toList == [110,101])=false) (h3:(op.toList == [108,116])=false) (h4:(op.toList == [108,101])=false) (h5:(op.toList == [105,110])=false) (h6:(op.toList == [110,111,116,105,110])=true) (q1 q2:Int) (hc:∀ W,Below w.heap.size w W→Calls Tryz.prog 102 #[.slice da dl dc,.agg #[.string op,.string name,.int .i64 n,.int .i64 pos,.slice a kids.len cap],.int .i64 1,.int .i64 2] W fun e w'=>e=.returned (.tuple #[.int .i64 q1,.int .i64 q2])∧Below W.heap.size W w') :
  Calls Tryz.prog 60 #[.slice pa pl pc,.slice da dl dc,.agg #[.string op,.string name,.int .i64 n,.int .i64 pos,.slice a kids.len cap]] w fun e w'=>e=.returned (.tuple #[.int .i64 q1,.int .i64 q2])∧Below w.heap.size w w':=by
 have hc5:=cellsNode
 have HW:=Lib.hid (below_box w (boxOf op name n pos a kids.len cap))
 obtain ⟨b0,b1,b2,b3,b4⟩:=box_cells (new_at w (boxOf op name n pos a kids.len cap))
 have HC:=Lib.hid (hc _ HW.out)
 clear hc
 go_enter Tryz.func60,Tryz.ntmps60
 go_wp2_with fail
 refine HC.out.mono ?_
 rintro e w2 ⟨rfl,hb2⟩
 have HW2:=Lib.hid (HW.out.trans (hb2.mono HW.out.size))
 clear hb2 HC b0 b1 b2 b3 b4
 go_wp2_with fail
 go_ret2
 exact ⟨rfl,HW2.out⟩
set_option maxRecDepth 100000 in
set_option maxHeartbeats 16000000 in
theorem rform_sub (op name:ByteArray) (n pos:Int) (a:Option Addr) (cap:Nat) (kids:Fo) (w:World) (pa:Option Addr) (pl pc:Nat) (da:Option Addr) (dl dc:Nat) (h0:(op.toList == [105,115])=false) (h1:(op.toList == [101,113])=false) (h2:(op.toList == [110,101])=false) (h3:(op.toList == [108,116])=false) (h4:(op.toList == [108,101])=false) (h5:(op.toList == [105,110])=false) (h6:(op.toList == [110,111,116,105,110])=false) (h7:(op.toList == [115,117,98])=true) (q1 q2:Int) (hc:∀ W,Below w.heap.size w W→Calls Tryz.prog 102 #[.slice da dl dc,.agg #[.string op,.string name,.int .i64 n,.int .i64 pos,.slice a kids.len cap],.int .i64 2,.int .i64 2] W fun e w'=>e=.returned (.tuple #[.int .i64 q1,.int .i64 q2])∧Below W.heap.size W w') :
  Calls Tryz.prog 60 #[.slice pa pl pc,.slice da dl dc,.agg #[.string op,.string name,.int .i64 n,.int .i64 pos,.slice a kids.len cap]] w fun e w'=>e=.returned (.tuple #[.int .i64 q1,.int .i64 q2])∧Below w.heap.size w w':=by
 have hc5:=cellsNode
 have HW:=Lib.hid (below_box w (boxOf op name n pos a kids.len cap))
 obtain ⟨b0,b1,b2,b3,b4⟩:=box_cells (new_at w (boxOf op name n pos a kids.len cap))
 have HC:=Lib.hid (hc _ HW.out)
 clear hc
 go_enter Tryz.func60,Tryz.ntmps60
 go_wp2_with fail
 refine HC.out.mono ?_
 rintro e w2 ⟨rfl,hb2⟩
 have HW2:=Lib.hid (HW.out.trans (hb2.mono HW.out.size))
 clear hb2 HC b0 b1 b2 b3 b4
 go_wp2_with fail
 go_ret2
 exact ⟨rfl,HW2.out⟩
set_option maxRecDepth 100000 in
set_option maxHeartbeats 16000000 in
theorem rform_call (op name:ByteArray) (n pos:Int) (a:Option Addr) (cap:Nat) (kids:Fo) (w:World) (pa:Option Addr) (pl pc:Nat) (da:Option Addr) (dl dc:Nat) (h0:(op.toList == [105,115])=false) (h1:(op.toList == [101,113])=false) (h2:(op.toList == [110,101])=false) (h3:(op.toList == [108,116])=false) (h4:(op.toList == [108,101])=false) (h5:(op.toList == [105,110])=false) (h6:(op.toList == [110,111,116,105,110])=false) (h7:(op.toList == [115,117,98])=false) (h8:(op.toList == [99,97,108,108])=true) (q1 q2:Int) (hc:∀ W,Below w.heap.size w W→Calls Tryz.prog 103 #[.slice pa pl pc,.slice da dl dc,.agg #[.string op,.string name,.int .i64 n,.int .i64 pos,.slice a kids.len cap]] W fun e w'=>e=.returned (.tuple #[.int .i64 q1,.int .i64 q2])∧Below W.heap.size W w') :
  Calls Tryz.prog 60 #[.slice pa pl pc,.slice da dl dc,.agg #[.string op,.string name,.int .i64 n,.int .i64 pos,.slice a kids.len cap]] w fun e w'=>e=.returned (.tuple #[.int .i64 q1,.int .i64 q2])∧Below w.heap.size w w':=by
 have hc5:=cellsNode
 have HW:=Lib.hid (below_box w (boxOf op name n pos a kids.len cap))
 obtain ⟨b0,b1,b2,b3,b4⟩:=box_cells (new_at w (boxOf op name n pos a kids.len cap))
 have HC:=Lib.hid (hc _ HW.out)
 clear hc
 go_enter Tryz.func60,Tryz.ntmps60
 go_wp2_with fail
 refine HC.out.mono ?_
 rintro e w2 ⟨rfl,hb2⟩
 have HW2:=Lib.hid (HW.out.trans (hb2.mono HW.out.size))
 clear hb2 HC b0 b1 b2 b3 b4
 go_wp2_with fail
 go_ret2
 exact ⟨rfl,HW2.out⟩
set_option maxRecDepth 100000 in
set_option maxHeartbeats 16000000 in
theorem rform_is (op name:ByteArray) (n pos:Int) (a:Option Addr) (cap:Nat) (kids:Fo) (w:World) (pa:Option Addr) (pl pc:Nat) (da:Option Addr) (dc:Nat) (ds:List Dc) (h0:(op.toList == [105,115])=true) (hd:DcsIn w da ds) (hdl:ds.length≤1000000) :
  Calls Tryz.prog 60 #[.slice pa pl pc,.slice da ds.length dc,.agg #[.string op,.string name,.int .i64 n,.int .i64 pos,.slice a kids.len cap]] w fun e w'=>e=.returned (.tuple #[.int .i64 (if ordD ds name < 0 then ((pos:Int),(5:Int)) else if ordD ds name=0 then (0,0) else (pos,7)).1,.int .i64 (if ordD ds name < 0 then ((pos:Int),(5:Int)) else if ordD ds name=0 then (0,0) else (pos,7)).2])∧Below w.heap.size w w':=by
 have hc5:=cellsNode
 have HW:=Lib.hid (below_box w (boxOf op name n pos a kids.len cap))
 obtain ⟨b0,b1,b2,b3,b4⟩:=box_cells (new_at w (boxOf op name n pos a kids.len cap))
 have HC:=Lib.hid (rorder_any ds da dc name _ (hd.below HW.out) hdl)
 generalize ordD ds name=q at HC
 obtain ⟨rv,hrv⟩:∃ rv,rv=(if q < 0 then ((pos:Int),(5:Int)) else if q=0 then (0,0) else (pos,7)):=⟨_,rfl⟩
 rw [← hrv]
 clear hd hdl
 go_enter Tryz.func60,Tryz.ntmps60
 go_wp2_with fail
 refine HC.out.mono ?_
 rintro e w2 ⟨rfl,hb2⟩
 have HW2:=Lib.hid (HW.out.trans (hb2.mono HW.out.size))
 replace b3:=cell_below hb2 b3
 clear hb2 HC b0 b1 b2 b4
 by_cases hq:q < 0
 ·rw [if_pos hq] at hrv
  subst hrv
  go_wp2_with fail
  go_ret2
  exact ⟨rfl,HW2.out⟩
 ·rw [if_neg hq] at hrv
  have hqb:¬ q < 0:=hq
  by_cases hz:q=0
  ·rw [if_pos hz] at hrv
   subst hrv hz
   go_wp2_with fail
   go_ret2
   exact ⟨rfl,HW2.out⟩
  ·rw [if_neg hz] at hrv
   subst hrv
   have hzb:(q != 0)=true:=by simp [hz]
   go_wp2_with fail
   go_ret2
   exact ⟨rfl,HW2.out⟩
def SayRf (ps:List Pd) (pa:Option Addr) (pc:Nat) (T:Nd):Prop:=∀ (w:World) (ds:List Dc) (da:Option Addr) (dc:Nat),PdRows w pa ps→(∀ p ∈ ps,DcsIn w p.pa p.params)→DcsIn w da ds→T.In w→T.sized→T.okF=true→ds.length+T.size≤1000000→Calls Tryz.prog 60 #[.slice pa ps.length pc,.slice da ds.length dc,T.val] w fun e w'=>e=.returned (.tuple #[.int .i64 (T.fk (predsK ps) (ordD ds)).1,.int .i64 (T.fk (predsK ps) (ordD ds)).2])∧Below w.heap.size w w'
set_option maxRecDepth 100000 in
set_option maxHeartbeats 16000000 in
theorem rform_kids (op name:ByteArray) (n pos:Int) (a:Option Addr) (cap:Nat) (kids:Fo) (w:World) (ps:List Pd) (pa:Option Addr) (pc:Nat) (ds:List Dc) (da:Option Addr) (dc:Nat) (hp:PdRows w pa ps) (hpd:∀ p ∈ ps,DcsIn w p.pa p.params) (hd:DcsIn w da ds) (hin:KidsIn w a kids) (hsz:kids.sized) (hok:kids.allB Nd.okF=true) (hk:Fo.All (SayRf ps pa pc) kids) (hm:ds.length+kids.size≤1000000) (h0:(op.toList == [105,115])=false) (h1:(op.toList == [101,113])=false) (h2:(op.toList == [110,101])=false) (h3:(op.toList == [108,116])=false) (h4:(op.toList == [108,101])=false) (h5:(op.toList == [105,110])=false) (h6:(op.toList == [110,111,116,105,110])=false) (h7:(op.toList == [115,117,98])=false) (h8:(op.toList == [99,97,108,108])=false) (h9:(op.toList == [101,120])=false) (h10:(op.toList == [97,108,108])=false) :
  Calls Tryz.prog 60 #[.slice pa ps.length pc,.slice da ds.length dc,.agg #[.string op,.string name,.int .i64 n,.int .i64 pos,.slice a kids.len cap]] w fun e w'=>e=.returned (.tuple #[.int .i64 (kids.fs (predsK ps) (ordD ds)).1,.int .i64 (kids.fs (predsK ps) (ordD ds)).2])∧Below w.heap.size w w':=by
 have hc5:=cellsNode
 have HW:=Lib.hid (below_box w (boxOf op name n pos a kids.len cap))
 have HB:=Lib.hid (new_at w (boxOf op name n pos a kids.len cap))
 obtain ⟨b0,b1,b2,b3,b4⟩:=box_cells HB.out
 have HP:=Lib.hid hp
 have HPD:=Lib.hid hpd
 have HD:=Lib.hid hd
 have HSZ:=Lib.hid hsz
 have HOK:=Lib.hid hok
 obtain ⟨q0,hq0⟩:∃ q0,q0=kids.fs (predsK ps) (ordD ds):=⟨_,rfl⟩
 rw [← hq0]
 have HQ:=Lib.hid hq0
 clear hp hpd hd hsz hok hq0
 rcases hin with hnil | ⟨kb,ko,hab,hlim,hpos,hkin⟩
 ·subst hnil
  have hz0:((Fo.nil.len:Nat):Int)=0:=rfl
  have hz:q0=(0,0):=HQ.out
  subst hz
  clear hk hm
  go_enter Tryz.func60,Tryz.ntmps60
  go_wp2_with fail
  go_loopw [9] (fun i wr=>i=.int .i64 0∧RowKit.Hid (wr.heap[w.heap.size]? = some (boxOf op name n pos a Fo.nil.len cap))∧Below w.heap.size w wr) (fun _ _=>0)
  case atStart=>exact ⟨rfl,HB,HW.out⟩
  case round =>
   obtain ⟨rfl,HX,hbx⟩:=hrel
   clear b0 b1 b2 b3 b4
   obtain ⟨b0,b1,b2,b3,b4⟩:=box_cells HX.out
   go_wp2_with fail
   go_ret2
   exact ⟨rfl,hbx⟩
 ·subst hab
  have HST:=Lib.hid (Tail.start (hkin.below HW.out) hk)
  clear hkin hpos hk
  go_enter Tryz.func60,Tryz.ntmps60
  go_wp2_with fail
  go_loopw [9] (fun i wr=>∃ (k:Nat) (R:Fo),i=.int .i64 k∧RowKit.Hid (Tail wr (SayRf ps pa pc) kids R kb ko k)∧RowKit.Hid (q0=R.fs (predsK ps) (ordD ds))∧RowKit.Hid (R.allB Nd.okF=true)∧RowKit.Hid R.sized∧RowKit.Hid (wr.heap[w.heap.size]? = some (boxOf op name n pos (some ⟨kb,ko,none⟩) kids.len cap))∧Below w.heap.size w wr∧ds.length+R.size≤1000000) (fun i _=>kids.len - (intOf i).toNat)
  case atStart=>exact ⟨0,kids,rfl,HST,HQ,HOK,HSZ,HB,HW.out,hm⟩
  case round =>
   obtain ⟨k,R,rfl,HTL,HAL,HKO,HRS,HX,hbx,hmR⟩:=hrel
   clear HST HQ HB HW b0 b1 b2 b3 b4 hm
   obtain ⟨b0,b1,b2,b3,b4⟩:=box_cells HX.out
   cases R with
   | nil =>
    have hkl:k=kids.len:=by have:=HTL.out.len;simpa [Fo.len] using this
    subst hkl
    have hz:q0=(0,0):=HAL.out
    subst hz
    go_wp2_with fail
    go_ret2
    exact ⟨rfl,hbx⟩
   | cons op1 name1 n1 pos1 a1 cap1 kids1 rest =>
    obtain ⟨hnode,hin1,hP,hkl,hnext⟩:=HTL.out.next
    have hkl2:(k:Int) < kids.len:=by omega
    have hkl0:(0:Int)≤k:=by omega
    obtain ⟨c0,c1,c2,c3,c4⟩:=hnode
    have HN1:=Lib.hid hnext
    have hsz1:Fo.size (.cons op1 name1 n1 pos1 a1 cap1 kids1 rest)=kids1.size+1+rest.size:=rfl
    have hsz2:Nd.size ⟨op1,name1,n1,pos1,a1,cap1,kids1⟩=kids1.size+1:=rfl
    have hok2:(Nd.okF ⟨op1,name1,n1,pos1,a1,cap1,kids1⟩ && rest.allB Nd.okF)=true:=HKO.out
    rw [Bool.and_eq_true] at hok2
    have hcall:=hP wr ds da dc (HP.out.below hbx) (fun p h=>(HPD.out p h).below hbx) (HD.out.below hbx) hin1 ⟨HRS.out.1,HRS.out.2.1⟩ hok2.1 (by omega)
    rw [Nd.val_def] at hcall
    have hal:q0=(if (Nd.fk (predsK ps) (ordD ds) ⟨op1,name1,n1,pos1,a1,cap1,kids1⟩).2=0 then rest.fs (predsK ps) (ordD ds) else Nd.fk (predsK ps) (ordD ds) ⟨op1,name1,n1,pos1,a1,cap1,kids1⟩):=HAL.out
    generalize Nd.fk (predsK ps) (ordD ds) ⟨op1,name1,n1,pos1,a1,cap1,kids1⟩=q at hcall hal
    obtain ⟨qp,qe⟩:=q
    simp only [] at hcall hal
    have HCL:=Lib.hid hcall
    have HR2:=Lib.hid HRS.out.2.2
    have HK2:=Lib.hid hok2.2
    have hmr:ds.length+rest.size≤1000000:=by omega
    clear hnext hin1 hP hcall HTL hok2 HAL
    by_cases he:qe=0
    ·have HA2:=Lib.hid (show q0=rest.fs (predsK ps) (ordD ds) from by rw [hal,if_pos he])
     clear hal
     subst he
     go_wp2_with fail
     refine HCL.out.mono ?_
     rintro e w3 ⟨rfl,hb3⟩
     have hbx2:=hbx.trans (hb3.mono hbx.size)
     have HX2:=Lib.hid ((hb3.block _ (lt_heap HX.out)).trans HX.out)
     have HN2:=Lib.hid (HN1.out.below hb3)
     clear hb3 HN1 HX HCL b0 b1 b2 b3 b4 c0 c1 c2 c3 c4
     go_wp2_with fail
     go_roundw
     case rel=>exact ⟨k+1,rest,by go_num,HN2,HA2,HK2,HR2,HX2,hbx2,hmr⟩
     case measure=>(try simp [intOf]);omega
    ·have hz:q0=(qp,qe):=by rw [hal,if_neg he]
     have heb:(qe != 0)=true:=by simp [he]
     clear hal he
     subst hz
     go_wp2_with fail
     refine HCL.out.mono ?_
     rintro e w3 ⟨rfl,hb3⟩
     have hbx2:=hbx.trans (hb3.mono hbx.size)
     clear hb3 HN1 HX HCL b0 b1 b2 b3 b4 c0 c1 c2 c3 c4
     go_wp2_with fail
     go_ret2
     exact ⟨rfl,hbx2⟩
end Go.Proofs.YtmlmjopfbohglaaGreatDoor
