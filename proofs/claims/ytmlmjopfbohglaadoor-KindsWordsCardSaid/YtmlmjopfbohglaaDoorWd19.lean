/- Parts of the proof: GFitsB. -/
import Derived.Test.YtmlmjopfbohglaaDoorWd18
namespace Go.Proofs.YtmlmjopfbohglaaDoor
open Go.RowKit
set_option maxRecDepth 100000 in
set_option maxHeartbeats 16000000 in
theorem fitsNil_any (T:Nd) (named:Bool) (ln mn lk:Int) (w:World) (hT:LTabs w) (hin:T.In w) (hsz:T.sized) :
  Calls Tryd.prog 120 #[T.val,.agg #[.bool named,.int .i64 ln,.int .i64 mn,.int .i64 lk,.int .i64 0,.nilFunc]] w fun e w'=>e=.returned (.bool (fitB named T.name ln mn T.n lk 0 T.kids.len true))∧Below w.heap.size w w':=by
 obtain ⟨op,name,n,pos,a,cap,kids⟩:=T
 have hc5:=cellsNode
 rw [Nd.val_def]
 obtain ⟨hns,hks⟩:=hsz
 have hns:name.size≤140737488351232:=hns
 show Calls _ _ #[.agg #[.string op,.string name,.int .i64 n,.int .i64 pos,.slice a kids.len cap],_] w fun e w'=>e=.returned (.bool (fitB named name ln mn n lk 0 kids.len true))∧_
 have HI:=Lib.hid hin
 have HS:=Lib.hid hks
 have HT:=Lib.hid hT
 have HBB:=Lib.hid (two_boxes w (boxOf op name n pos a kids.len cap) (.cells #[.bool named,.int .i64 ln,.int .i64 mn,.int .i64 lk,.int .i64 0,.nilFunc] 150))
 have HB1:=Lib.hid (box_alloc (new_at w (boxOf op name n pos a kids.len cap)) (.cells #[.bool named,.int .i64 ln,.int .i64 mn,.int .i64 lk,.int .i64 0,.nilFunc] 150))
 have HB2:=Lib.hid (second_at w (boxOf op name n pos a kids.len cap) (.cells #[.bool named,.int .i64 ln,.int .i64 mn,.int .i64 lk,.int .i64 0,.nilFunc] 150))
 have HZ1:=Lib.hid (lt_heap HB1.out)
 have HZ2:=Lib.hid (lt_heap HB2.out)
 have HC:=Lib.hid (mayBeName_any name ((w.alloc (boxOf op name n pos a kids.len cap)).alloc (.cells #[.bool named,.int .i64 ln,.int .i64 mn,.int .i64 lk,.int .i64 0,.nilFunc] 150)) hns (hT.below HBB.out))
 clear hin hks hT
 cases named with
 | true =>
  by_cases hnn:nameB name=true
  ·have HN:=Lib.hid hnn
   by_cases h1:n < ln
   ·have HO:=Lib.hid (show fitB true name ln mn n lk 0 kids.len true=false from by unfold fitB;rw [show decide (ln≤n)=false from decide_eq_false (by omega)];simp)
    clear hnn
    go_enter Tryd.func120,Tryd.ntmps120
    go_wp2_with fail
    refine HC.out.mono ?_
    rintro e w2 ⟨rfl,hb2⟩
    rw [HN.out]
    obtain ⟨b0,b1,b2,b3,b4⟩:=box_cells (show w2.heap[w.heap.size]? = _ from (hb2.block _ HZ1.out).trans HB1.out)
    obtain ⟨s0,s1,s2,s3,s4,s5⟩:=shape_cells (show w2.heap[w.heap.size+1]? = _ from (hb2.block _ HZ2.out).trans HB2.out)
    have hbb:Below w.heap.size w w2:=HBB.out.trans (hb2.mono HBB.out.size)
    clear hb2 HC
    go_wp2_with fail
    go_ret
    exact ⟨by rw [HO.out];rfl,hbb⟩
   by_cases h2:mn < n
   ·have HO:=Lib.hid (show fitB true name ln mn n lk 0 kids.len true=false from by unfold fitB;rw [show decide (n≤mn)=false from decide_eq_false (by omega)];simp)
    clear hnn
    go_enter Tryd.func120,Tryd.ntmps120
    go_wp2_with fail
    refine HC.out.mono ?_
    rintro e w2 ⟨rfl,hb2⟩
    rw [HN.out]
    obtain ⟨b0,b1,b2,b3,b4⟩:=box_cells (show w2.heap[w.heap.size]? = _ from (hb2.block _ HZ1.out).trans HB1.out)
    obtain ⟨s0,s1,s2,s3,s4,s5⟩:=shape_cells (show w2.heap[w.heap.size+1]? = _ from (hb2.block _ HZ2.out).trans HB2.out)
    have hbb:Below w.heap.size w w2:=HBB.out.trans (hb2.mono HBB.out.size)
    clear hb2 HC
    go_wp2_with fail
    go_ret
    exact ⟨by rw [HO.out];rfl,hbb⟩
   by_cases h3:(kids.len:Int) < lk
   ·have HO:=Lib.hid (show fitB true name ln mn n lk 0 kids.len true=false from by unfold fitB;rw [show decide (lk≤(kids.len:Int))=false from decide_eq_false (by omega)];simp)
    clear hnn
    go_enter Tryd.func120,Tryd.ntmps120
    go_wp2_with fail
    refine HC.out.mono ?_
    rintro e w2 ⟨rfl,hb2⟩
    rw [HN.out]
    obtain ⟨b0,b1,b2,b3,b4⟩:=box_cells (show w2.heap[w.heap.size]? = _ from (hb2.block _ HZ1.out).trans HB1.out)
    obtain ⟨s0,s1,s2,s3,s4,s5⟩:=shape_cells (show w2.heap[w.heap.size+1]? = _ from (hb2.block _ HZ2.out).trans HB2.out)
    have hbb:Below w.heap.size w w2:=HBB.out.trans (hb2.mono HBB.out.size)
    clear hb2 HC
    go_wp2_with fail
    go_ret
    exact ⟨by rw [HO.out];rfl,hbb⟩
   by_cases h4:0 < (kids.len:Int)
   ·have HO:=Lib.hid (show fitB true name ln mn n lk 0 kids.len true=false from by unfold fitB;rw [show decide ((kids.len:Int)≤0)=false from decide_eq_false (by omega)];simp)
    clear hnn
    go_enter Tryd.func120,Tryd.ntmps120
    go_wp2_with fail
    refine HC.out.mono ?_
    rintro e w2 ⟨rfl,hb2⟩
    rw [HN.out]
    obtain ⟨b0,b1,b2,b3,b4⟩:=box_cells (show w2.heap[w.heap.size]? = _ from (hb2.block _ HZ1.out).trans HB1.out)
    obtain ⟨s0,s1,s2,s3,s4,s5⟩:=shape_cells (show w2.heap[w.heap.size+1]? = _ from (hb2.block _ HZ2.out).trans HB2.out)
    have hbb:Below w.heap.size w w2:=HBB.out.trans (hb2.mono HBB.out.size)
    clear hb2 HC
    go_wp2_with fail
    go_ret
    exact ⟨by rw [HO.out];rfl,hbb⟩
   have g1:ln≤n:=by omega
   have g2:n≤mn:=by omega
   have g3:lk≤(kids.len:Int):=by omega
   have g4:(kids.len:Int)≤0:=by omega
   have HO:RowKit.Hid (fitB true name ln mn n lk 0 kids.len true=true):=Lib.hid (by unfold fitB;rw [decide_eq_true g1,decide_eq_true g2,decide_eq_true g3,decide_eq_true g4];simp [HN.out])
   clear hnn
   go_enter Tryd.func120,Tryd.ntmps120
   go_wp2_with fail
   refine HC.out.mono ?_
   rintro e w2 ⟨rfl,hb2⟩
   rw [HN.out]
   obtain ⟨b0,b1,b2,b3,b4⟩:=box_cells (show w2.heap[w.heap.size]? = _ from (hb2.block _ HZ1.out).trans HB1.out)
   obtain ⟨s0,s1,s2,s3,s4,s5⟩:=shape_cells (show w2.heap[w.heap.size+1]? = _ from (hb2.block _ HZ2.out).trans HB2.out)
   have hbb:Below w.heap.size w w2:=HBB.out.trans (hb2.mono HBB.out.size)
   clear hb2 HC
   go_wp2_with fail
   have hk0:kids.len=0:=by omega
   rw [hk0]
   go_loopw [56] (fun i wr=>i=.int .i64 0∧Below w.heap.size w wr) (fun _ _=>0)
   case atStart=>exact ⟨rfl,hbb⟩
   case round =>
    obtain ⟨rfl,hbx⟩:=hrel
    go_wp2_with fail
    go_ret
    exact ⟨by rw [HO.out];rfl,hbx⟩
  ·have hnn2:nameB name=false:=by simpa using hnn
   have HN:=Lib.hid hnn2
   have HO:=Lib.hid (show fitB true name ln mn n lk 0 kids.len true=false from by unfold fitB;simp [hnn2])
   clear hnn hnn2
   go_enter Tryd.func120,Tryd.ntmps120
   go_wp2_with fail
   refine HC.out.mono ?_
   rintro e w2 ⟨rfl,hb2⟩
   rw [HN.out]
   obtain ⟨b0,b1,b2,b3,b4⟩:=box_cells (show w2.heap[w.heap.size]? = _ from (hb2.block _ HZ1.out).trans HB1.out)
   obtain ⟨s0,s1,s2,s3,s4,s5⟩:=shape_cells (show w2.heap[w.heap.size+1]? = _ from (hb2.block _ HZ2.out).trans HB2.out)
   have hbb:Below w.heap.size w w2:=HBB.out.trans (hb2.mono HBB.out.size)
   clear hb2 HC
   go_wp2_with fail
   go_ret
   exact ⟨by rw [HO.out];rfl,hbb⟩
 | false =>
  by_cases hn:name.toList=[]
  ·have hnb:(name.toList != [])=false:=by simpa using hn
   have hnb2:(name.toList == [])=true:=by simpa using hn
   have hnn:True:=trivial
   clear HC
   by_cases h1:n < ln
   ·have HO:=Lib.hid (show fitB false name ln mn n lk 0 kids.len true=false from by unfold fitB;rw [show decide (ln≤n)=false from decide_eq_false (by omega)];simp)
    clear hnn
    go_enter Tryd.func120,Tryd.ntmps120
    go_wp2_with fail
    go_ret
    exact ⟨by rw [HO.out];rfl,HBB.out⟩
   by_cases h2:mn < n
   ·have HO:=Lib.hid (show fitB false name ln mn n lk 0 kids.len true=false from by unfold fitB;rw [show decide (n≤mn)=false from decide_eq_false (by omega)];simp)
    clear hnn
    go_enter Tryd.func120,Tryd.ntmps120
    go_wp2_with fail
    go_ret
    exact ⟨by rw [HO.out];rfl,HBB.out⟩
   by_cases h3:(kids.len:Int) < lk
   ·have HO:=Lib.hid (show fitB false name ln mn n lk 0 kids.len true=false from by unfold fitB;rw [show decide (lk≤(kids.len:Int))=false from decide_eq_false (by omega)];simp)
    clear hnn
    go_enter Tryd.func120,Tryd.ntmps120
    go_wp2_with fail
    go_ret
    exact ⟨by rw [HO.out];rfl,HBB.out⟩
   by_cases h4:0 < (kids.len:Int)
   ·have HO:=Lib.hid (show fitB false name ln mn n lk 0 kids.len true=false from by unfold fitB;rw [show decide ((kids.len:Int)≤0)=false from decide_eq_false (by omega)];simp)
    clear hnn
    go_enter Tryd.func120,Tryd.ntmps120
    go_wp2_with fail
    go_ret
    exact ⟨by rw [HO.out];rfl,HBB.out⟩
   have g1:ln≤n:=by omega
   have g2:n≤mn:=by omega
   have g3:lk≤(kids.len:Int):=by omega
   have g4:(kids.len:Int)≤0:=by omega
   have HO:RowKit.Hid (fitB false name ln mn n lk 0 kids.len true=true):=Lib.hid (by unfold fitB;rw [decide_eq_true g1,decide_eq_true g2,decide_eq_true g3,decide_eq_true g4];simp [hn])
   clear hnn
   go_enter Tryd.func120,Tryd.ntmps120
   go_wp2_with fail
   have hk0:kids.len=0:=by omega
   rw [hk0]
   go_loopw [56] (fun i wr=>i=.int .i64 0∧Below w.heap.size w wr) (fun _ _=>0)
   case atStart=>exact ⟨rfl,two_boxes _ _ _⟩
   case round =>
    obtain ⟨rfl,hbx⟩:=hrel
    go_wp2_with fail
    go_ret
    exact ⟨by rw [HO.out];rfl,hbx⟩
  ·have hnb:(name.toList != [])=true:=by simpa using hn
   have hnb2:(name.toList == [])=false:=by simpa using hn
   have HO:=Lib.hid (show fitB false name ln mn n lk 0 kids.len true=false from by unfold fitB;simp [hn])
   clear HC
   go_enter Tryd.func120,Tryd.ntmps120
   go_wp2_with fail
   go_ret
   exact ⟨by rw [HO.out];rfl,HBB.out⟩
end Go.Proofs.YtmlmjopfbohglaaDoor
namespace Go.Proofs.YtmlmjopfbohglaaDoor
open Go.RowKit
def TellV (p:Nd→Bool) (T:Nd):Prop:=∀ w:World,LTabs w→T.In w→T.sized→Calls Tryd.prog 148 #[T.val] w fun e w'=>e=.returned (.bool (p T))∧Below w.heap.size w w'
set_option maxRecDepth 100000 in
set_option maxHeartbeats 16000000 in
theorem fitsV_any (p:Nd→Bool) (T:Nd) (named:Bool) (ln mn lk mk:Int) (w:World) (hT:LTabs w) (hin:T.In w) (hsz:T.sized) (hk:Fo.All (TellV p) T.kids) :
  Calls Tryd.prog 120 #[T.val,.agg #[.bool named,.int .i64 ln,.int .i64 mn,.int .i64 lk,.int .i64 mk,.func (.func 148) #[] #[]]] w fun e w'=>e=.returned (.bool (fitB named T.name ln mn T.n lk mk T.kids.len (T.kids.allB p)))∧Below w.heap.size w w':=by
 obtain ⟨op,name,n,pos,a,cap,kids⟩:=T
 have hc5:=cellsNode
 rw [Nd.val_def]
 obtain ⟨hns,hks⟩:=hsz
 have hns:name.size≤140737488351232:=hns
 show Calls _ _ #[.agg #[.string op,.string name,.int .i64 n,.int .i64 pos,.slice a kids.len cap],_] w fun e w'=>e=.returned (.bool (fitB named name ln mn n lk mk kids.len (kids.allB p)))∧_
 have HI:=Lib.hid hin
 have HK:=Lib.hid hk
 have HS:=Lib.hid hks
 have HT:=Lib.hid hT
 have HBB:=Lib.hid (two_boxes w (boxOf op name n pos a kids.len cap) (.cells #[.bool named,.int .i64 ln,.int .i64 mn,.int .i64 lk,.int .i64 mk,.func (.func 148) #[] #[]] 150))
 have HB1:=Lib.hid (box_alloc (new_at w (boxOf op name n pos a kids.len cap)) (.cells #[.bool named,.int .i64 ln,.int .i64 mn,.int .i64 lk,.int .i64 mk,.func (.func 148) #[] #[]] 150))
 have HB2:=Lib.hid (second_at w (boxOf op name n pos a kids.len cap) (.cells #[.bool named,.int .i64 ln,.int .i64 mn,.int .i64 lk,.int .i64 mk,.func (.func 148) #[] #[]] 150))
 have HZ1:=Lib.hid (lt_heap HB1.out)
 have HZ2:=Lib.hid (lt_heap HB2.out)
 have HC:=Lib.hid (mayBeName_any name ((w.alloc (boxOf op name n pos a kids.len cap)).alloc (.cells #[.bool named,.int .i64 ln,.int .i64 mn,.int .i64 lk,.int .i64 mk,.func (.func 148) #[] #[]] 150)) hns (hT.below HBB.out))
 clear hin hks hT hk
 cases named with
 | true =>
  by_cases hnn:nameB name=true
  ·have HN:=Lib.hid hnn
   by_cases h1:n < ln
   ·have HO:=Lib.hid (show fitB true name ln mn n lk mk kids.len (kids.allB p)=false from by unfold fitB;rw [show decide (ln≤n)=false from decide_eq_false (by omega)];simp)
    clear hnn
    go_enter Tryd.func120,Tryd.ntmps120
    go_wp2_with fail
    refine HC.out.mono ?_
    rintro e w2 ⟨rfl,hb2⟩
    rw [HN.out]
    obtain ⟨b0,b1,b2,b3,b4⟩:=box_cells (show w2.heap[w.heap.size]? = _ from (hb2.block _ HZ1.out).trans HB1.out)
    obtain ⟨s0,s1,s2,s3,s4,s5⟩:=shape_cells (show w2.heap[w.heap.size+1]? = _ from (hb2.block _ HZ2.out).trans HB2.out)
    have hbb:Below w.heap.size w w2:=HBB.out.trans (hb2.mono HBB.out.size)
    clear hb2 HC
    go_wp2_with fail
    go_ret
    exact ⟨by rw [HO.out];rfl,hbb⟩
   by_cases h2:mn < n
   ·have HO:=Lib.hid (show fitB true name ln mn n lk mk kids.len (kids.allB p)=false from by unfold fitB;rw [show decide (n≤mn)=false from decide_eq_false (by omega)];simp)
    clear hnn
    go_enter Tryd.func120,Tryd.ntmps120
    go_wp2_with fail
    refine HC.out.mono ?_
    rintro e w2 ⟨rfl,hb2⟩
    rw [HN.out]
    obtain ⟨b0,b1,b2,b3,b4⟩:=box_cells (show w2.heap[w.heap.size]? = _ from (hb2.block _ HZ1.out).trans HB1.out)
    obtain ⟨s0,s1,s2,s3,s4,s5⟩:=shape_cells (show w2.heap[w.heap.size+1]? = _ from (hb2.block _ HZ2.out).trans HB2.out)
    have hbb:Below w.heap.size w w2:=HBB.out.trans (hb2.mono HBB.out.size)
    clear hb2 HC
    go_wp2_with fail
    go_ret
    exact ⟨by rw [HO.out];rfl,hbb⟩
   by_cases h3:(kids.len:Int) < lk
   ·have HO:=Lib.hid (show fitB true name ln mn n lk mk kids.len (kids.allB p)=false from by unfold fitB;rw [show decide (lk≤(kids.len:Int))=false from decide_eq_false (by omega)];simp)
    clear hnn
    go_enter Tryd.func120,Tryd.ntmps120
    go_wp2_with fail
    refine HC.out.mono ?_
    rintro e w2 ⟨rfl,hb2⟩
    rw [HN.out]
    obtain ⟨b0,b1,b2,b3,b4⟩:=box_cells (show w2.heap[w.heap.size]? = _ from (hb2.block _ HZ1.out).trans HB1.out)
    obtain ⟨s0,s1,s2,s3,s4,s5⟩:=shape_cells (show w2.heap[w.heap.size+1]? = _ from (hb2.block _ HZ2.out).trans HB2.out)
    have hbb:Below w.heap.size w w2:=HBB.out.trans (hb2.mono HBB.out.size)
    clear hb2 HC
    go_wp2_with fail
    go_ret
    exact ⟨by rw [HO.out];rfl,hbb⟩
   by_cases h4:mk < (kids.len:Int)
   ·have HO:=Lib.hid (show fitB true name ln mn n lk mk kids.len (kids.allB p)=false from by unfold fitB;rw [show decide ((kids.len:Int)≤mk)=false from decide_eq_false (by omega)];simp)
    clear hnn
    go_enter Tryd.func120,Tryd.ntmps120
    go_wp2_with fail
    refine HC.out.mono ?_
    rintro e w2 ⟨rfl,hb2⟩
    rw [HN.out]
    obtain ⟨b0,b1,b2,b3,b4⟩:=box_cells (show w2.heap[w.heap.size]? = _ from (hb2.block _ HZ1.out).trans HB1.out)
    obtain ⟨s0,s1,s2,s3,s4,s5⟩:=shape_cells (show w2.heap[w.heap.size+1]? = _ from (hb2.block _ HZ2.out).trans HB2.out)
    have hbb:Below w.heap.size w w2:=HBB.out.trans (hb2.mono HBB.out.size)
    clear hb2 HC
    go_wp2_with fail
    go_ret
    exact ⟨by rw [HO.out];rfl,hbb⟩
   have g1:ln≤n:=by omega
   have g2:n≤mn:=by omega
   have g3:lk≤(kids.len:Int):=by omega
   have g4:(kids.len:Int)≤mk:=by omega
   have HO:RowKit.Hid (fitB true name ln mn n lk mk kids.len (kids.allB p)=(kids.allB p)):=Lib.hid (by unfold fitB;rw [decide_eq_true g1,decide_eq_true g2,decide_eq_true g3,decide_eq_true g4];simp [HN.out])
   clear hnn
   go_enter Tryd.func120,Tryd.ntmps120
   go_wp2_with fail
   refine HC.out.mono ?_
   rintro e w2 ⟨rfl,hb2⟩
   rw [HN.out]
   obtain ⟨b0,b1,b2,b3,b4⟩:=box_cells (show w2.heap[w.heap.size]? = _ from (hb2.block _ HZ1.out).trans HB1.out)
   obtain ⟨s0,s1,s2,s3,s4,s5⟩:=shape_cells (show w2.heap[w.heap.size+1]? = _ from (hb2.block _ HZ2.out).trans HB2.out)
   have hbb:Below w.heap.size w w2:=HBB.out.trans (hb2.mono HBB.out.size)
   clear hb2 HC
   go_wp2_with fail
   rcases HI.out with hnil | ⟨kb,ko,hab,hlim,hpos,hkin⟩
   ·obtain rfl:kids=.nil:=hnil
    go_loopw [56] (fun i wr=>i=.int .i64 0∧Below w.heap.size w wr) (fun _ _=>0)
    case atStart=>exact ⟨rfl,hbb⟩
    case round =>
     obtain ⟨rfl,hbx⟩:=hrel
     have hz0:((Fo.nil.len:Nat):Int)=0:=rfl
     go_wp2_with fail
     go_ret
     exact ⟨by rw [HO.out];rfl,hbx⟩
   ·obtain rfl:a=some ⟨kb,ko,none⟩:=hab
    have hlim:kids.len≤140737488351232:=hlim
    have HST:=Lib.hid (Tail.start hkin HK.out)
    have HSZ:=HS
    clear hkin hpos
    go_loopw [56] (fun i wr=>∃ (k:Nat) (R:Fo),i=.int .i64 k∧RowKit.Hid (Tail wr (TellV p) kids R kb ko k)∧RowKit.Hid (kids.allB p=R.allB p)∧RowKit.Hid R.sized∧RowKit.Hid (wr.cell? ⟨w.heap.size+1,5,none⟩=some (.func (.func 148) #[] #[]))∧Below w.heap.size w wr) (fun i _=>kids.len - (intOf i).toNat)
    case atStart=>exact ⟨0,kids,rfl,Lib.hid (HST.out.below hbb),Lib.hid rfl,HSZ,Lib.hid (s5),hbb⟩
    case round =>
     obtain ⟨k,R,rfl,HTL,HAL,HRS,HX,hbx⟩:=hrel
     cases R with
     | nil =>
      have hkl:k=kids.len:=by have:=HTL.out.len;simpa [Fo.len] using this
      subst hkl
      go_wp2_with fail
      go_ret
      exact ⟨by rw [HO.out,HAL.out];rfl,hbx⟩
     | cons op1 name1 n1 pos1 a1 cap1 kids1 rest =>
      obtain ⟨hnode,hin1,hP,hkl,hnext⟩:=HTL.out.next
      have hkl2:(k:Int) < kids.len:=by omega
      obtain ⟨c0,c1,c2,c3,c4⟩:=hnode
      have hx5:=fun ob:Obj=>cell_below (below_box wr ob) HX.out
      have HN1:=Lib.hid hnext
      have hcall:=hP (wr.alloc (boxOf op1 name1 n1 pos1 a1 kids1.len cap1)) (HT.out.below (hbx.alloc hbx.size _)) (hin1.below (below_box _ _)) ⟨HRS.out.1,HRS.out.2.1⟩
      rw [Nd.val_def] at hcall
      have HCL:=Lib.hid hcall
      have HR2:=Lib.hid HRS.out.2.2
      clear hnext hin1 hP hcall HTL
      go_wp2_with fail
      refine HCL.out.mono ?_
      rintro e w3 ⟨rfl,hb3⟩
      have hb4:=box_then hb3
      have hbx2:=hbx.trans (hb4.mono hbx.size)
      have HX2:=Lib.hid (cell_below hb4 HX.out)
      have HN2:=Lib.hid (HN1.out.below hb4)
      clear hb3 hb4 HN1 HX hx5 HCL
      by_cases hp1:p ⟨op1,name1,n1,pos1,a1,cap1,kids1⟩=true
      ·have HA2:=Lib.hid (show kids.allB p=rest.allB p from by rw [HAL.out];show (p _ && rest.allB p)=_;rw [hp1];rfl)
       rw [hp1]
       clear hp1
       go_wp2_with fail
       go_roundw
       case rel=>exact ⟨k+1,rest,by go_num,HN2,HA2,HR2,HX2,hbx2⟩
       case measure=>(try simp [intOf]);omega
      ·have hp2:p ⟨op1,name1,n1,pos1,a1,cap1,kids1⟩=false:=by simpa using hp1
       have HA2:=Lib.hid (show kids.allB p=false from by rw [HAL.out];show (p _ && rest.allB p)=_;rw [hp2];rfl)
       rw [hp2]
       clear hp1 hp2
       go_wp2_with fail
       go_ret
       exact ⟨by rw [HO.out,HA2.out];rfl,hbx2⟩
  ·have hnn2:nameB name=false:=by simpa using hnn
   have HN:=Lib.hid hnn2
   have HO:=Lib.hid (show fitB true name ln mn n lk mk kids.len (kids.allB p)=false from by unfold fitB;simp [hnn2])
   clear hnn hnn2
   go_enter Tryd.func120,Tryd.ntmps120
   go_wp2_with fail
   refine HC.out.mono ?_
   rintro e w2 ⟨rfl,hb2⟩
   rw [HN.out]
   obtain ⟨b0,b1,b2,b3,b4⟩:=box_cells (show w2.heap[w.heap.size]? = _ from (hb2.block _ HZ1.out).trans HB1.out)
   obtain ⟨s0,s1,s2,s3,s4,s5⟩:=shape_cells (show w2.heap[w.heap.size+1]? = _ from (hb2.block _ HZ2.out).trans HB2.out)
   have hbb:Below w.heap.size w w2:=HBB.out.trans (hb2.mono HBB.out.size)
   clear hb2 HC
   go_wp2_with fail
   go_ret
   exact ⟨by rw [HO.out];rfl,hbb⟩
 | false =>
  by_cases hn:name.toList=[]
  ·have hnb:(name.toList != [])=false:=by simpa using hn
   have hnb2:(name.toList == [])=true:=by simpa using hn
   have hnn:True:=trivial
   clear HC
   by_cases h1:n < ln
   ·have HO:=Lib.hid (show fitB false name ln mn n lk mk kids.len (kids.allB p)=false from by unfold fitB;rw [show decide (ln≤n)=false from decide_eq_false (by omega)];simp)
    clear hnn
    go_enter Tryd.func120,Tryd.ntmps120
    go_wp2_with fail
    go_ret
    exact ⟨by rw [HO.out];rfl,HBB.out⟩
   by_cases h2:mn < n
   ·have HO:=Lib.hid (show fitB false name ln mn n lk mk kids.len (kids.allB p)=false from by unfold fitB;rw [show decide (n≤mn)=false from decide_eq_false (by omega)];simp)
    clear hnn
    go_enter Tryd.func120,Tryd.ntmps120
    go_wp2_with fail
    go_ret
    exact ⟨by rw [HO.out];rfl,HBB.out⟩
   by_cases h3:(kids.len:Int) < lk
   ·have HO:=Lib.hid (show fitB false name ln mn n lk mk kids.len (kids.allB p)=false from by unfold fitB;rw [show decide (lk≤(kids.len:Int))=false from decide_eq_false (by omega)];simp)
    clear hnn
    go_enter Tryd.func120,Tryd.ntmps120
    go_wp2_with fail
    go_ret
    exact ⟨by rw [HO.out];rfl,HBB.out⟩
   by_cases h4:mk < (kids.len:Int)
   ·have HO:=Lib.hid (show fitB false name ln mn n lk mk kids.len (kids.allB p)=false from by unfold fitB;rw [show decide ((kids.len:Int)≤mk)=false from decide_eq_false (by omega)];simp)
    clear hnn
    go_enter Tryd.func120,Tryd.ntmps120
    go_wp2_with fail
    go_ret
    exact ⟨by rw [HO.out];rfl,HBB.out⟩
   have g1:ln≤n:=by omega
   have g2:n≤mn:=by omega
   have g3:lk≤(kids.len:Int):=by omega
   have g4:(kids.len:Int)≤mk:=by omega
   have HO:RowKit.Hid (fitB false name ln mn n lk mk kids.len (kids.allB p)=(kids.allB p)):=Lib.hid (by unfold fitB;rw [decide_eq_true g1,decide_eq_true g2,decide_eq_true g3,decide_eq_true g4];simp [hn])
   clear hnn
   go_enter Tryd.func120,Tryd.ntmps120
   go_wp2_with fail
   rcases HI.out with hnil | ⟨kb,ko,hab,hlim,hpos,hkin⟩
   ·obtain rfl:kids=.nil:=hnil
    go_loopw [56] (fun i wr=>i=.int .i64 0∧Below w.heap.size w wr) (fun _ _=>0)
    case atStart=>exact ⟨rfl,HBB.out⟩
    case round =>
     obtain ⟨rfl,hbx⟩:=hrel
     have hz0:((Fo.nil.len:Nat):Int)=0:=rfl
     go_wp2_with fail
     go_ret
     exact ⟨by rw [HO.out];rfl,hbx⟩
   ·obtain rfl:a=some ⟨kb,ko,none⟩:=hab
    have hlim:kids.len≤140737488351232:=hlim
    have HST:=Lib.hid (Tail.start hkin HK.out)
    have HSZ:=HS
    clear hkin hpos
    go_loopw [56] (fun i wr=>∃ (k:Nat) (R:Fo),i=.int .i64 k∧RowKit.Hid (Tail wr (TellV p) kids R kb ko k)∧RowKit.Hid (kids.allB p=R.allB p)∧RowKit.Hid R.sized∧RowKit.Hid (wr.cell? ⟨w.heap.size+1,5,none⟩=some (.func (.func 148) #[] #[]))∧Below w.heap.size w wr) (fun i _=>kids.len - (intOf i).toNat)
    case atStart=>exact ⟨0,kids,rfl,Lib.hid (HST.out.below HBB.out),Lib.hid rfl,HSZ,Lib.hid ((shape_cells HB2.out).2.2.2.2.2),HBB.out⟩
    case round =>
     obtain ⟨k,R,rfl,HTL,HAL,HRS,HX,hbx⟩:=hrel
     cases R with
     | nil =>
      have hkl:k=kids.len:=by have:=HTL.out.len;simpa [Fo.len] using this
      subst hkl
      go_wp2_with fail
      go_ret
      exact ⟨by rw [HO.out,HAL.out];rfl,hbx⟩
     | cons op1 name1 n1 pos1 a1 cap1 kids1 rest =>
      obtain ⟨hnode,hin1,hP,hkl,hnext⟩:=HTL.out.next
      have hkl2:(k:Int) < kids.len:=by omega
      obtain ⟨c0,c1,c2,c3,c4⟩:=hnode
      have hx5:=fun ob:Obj=>cell_below (below_box wr ob) HX.out
      have HN1:=Lib.hid hnext
      have hcall:=hP (wr.alloc (boxOf op1 name1 n1 pos1 a1 kids1.len cap1)) (HT.out.below (hbx.alloc hbx.size _)) (hin1.below (below_box _ _)) ⟨HRS.out.1,HRS.out.2.1⟩
      rw [Nd.val_def] at hcall
      have HCL:=Lib.hid hcall
      have HR2:=Lib.hid HRS.out.2.2
      clear hnext hin1 hP hcall HTL
      go_wp2_with fail
      refine HCL.out.mono ?_
      rintro e w3 ⟨rfl,hb3⟩
      have hb4:=box_then hb3
      have hbx2:=hbx.trans (hb4.mono hbx.size)
      have HX2:=Lib.hid (cell_below hb4 HX.out)
      have HN2:=Lib.hid (HN1.out.below hb4)
      clear hb3 hb4 HN1 HX hx5 HCL
      by_cases hp1:p ⟨op1,name1,n1,pos1,a1,cap1,kids1⟩=true
      ·have HA2:=Lib.hid (show kids.allB p=rest.allB p from by rw [HAL.out];show (p _ && rest.allB p)=_;rw [hp1];rfl)
       rw [hp1]
       clear hp1
       go_wp2_with fail
       go_roundw
       case rel=>exact ⟨k+1,rest,by go_num,HN2,HA2,HR2,HX2,hbx2⟩
       case measure=>(try simp [intOf]);omega
      ·have hp2:p ⟨op1,name1,n1,pos1,a1,cap1,kids1⟩=false:=by simpa using hp1
       have HA2:=Lib.hid (show kids.allB p=false from by rw [HAL.out];show (p _ && rest.allB p)=_;rw [hp2];rfl)
       rw [hp2]
       clear hp1 hp2
       go_wp2_with fail
       go_ret
       exact ⟨by rw [HO.out,HA2.out];rfl,hbx2⟩
  ·have hnb:(name.toList != [])=true:=by simpa using hn
   have hnb2:(name.toList == [])=false:=by simpa using hn
   have HO:=Lib.hid (show fitB false name ln mn n lk mk kids.len (kids.allB p)=false from by unfold fitB;simp [hn])
   clear HC
   go_enter Tryd.func120,Tryd.ntmps120
   go_wp2_with fail
   go_ret
   exact ⟨by rw [HO.out];rfl,HBB.out⟩
end Go.Proofs.YtmlmjopfbohglaaDoor
namespace Go.Proofs.YtmlmjopfbohglaaDoor
open Go.RowKit
def TellK (p:Nd→Bool) (T:Nd):Prop:=∀ w:World,LTabs w→T.In w→T.sized→Calls Tryd.prog 149 #[T.val] w fun e w'=>e=.returned (.bool (p T))∧Below w.heap.size w w'
set_option maxRecDepth 100000 in
set_option maxHeartbeats 16000000 in
theorem fitsK_any (p:Nd→Bool) (T:Nd) (named:Bool) (ln mn lk mk:Int) (w:World) (hT:LTabs w) (hin:T.In w) (hsz:T.sized) (hk:Fo.All (TellK p) T.kids) :
  Calls Tryd.prog 120 #[T.val,.agg #[.bool named,.int .i64 ln,.int .i64 mn,.int .i64 lk,.int .i64 mk,.func (.func 149) #[] #[]]] w fun e w'=>e=.returned (.bool (fitB named T.name ln mn T.n lk mk T.kids.len (T.kids.allB p)))∧Below w.heap.size w w':=by
 obtain ⟨op,name,n,pos,a,cap,kids⟩:=T
 have hc5:=cellsNode
 rw [Nd.val_def]
 obtain ⟨hns,hks⟩:=hsz
 have hns:name.size≤140737488351232:=hns
 show Calls _ _ #[.agg #[.string op,.string name,.int .i64 n,.int .i64 pos,.slice a kids.len cap],_] w fun e w'=>e=.returned (.bool (fitB named name ln mn n lk mk kids.len (kids.allB p)))∧_
 have HI:=Lib.hid hin
 have HK:=Lib.hid hk
 have HS:=Lib.hid hks
 have HT:=Lib.hid hT
 have HBB:=Lib.hid (two_boxes w (boxOf op name n pos a kids.len cap) (.cells #[.bool named,.int .i64 ln,.int .i64 mn,.int .i64 lk,.int .i64 mk,.func (.func 149) #[] #[]] 150))
 have HB1:=Lib.hid (box_alloc (new_at w (boxOf op name n pos a kids.len cap)) (.cells #[.bool named,.int .i64 ln,.int .i64 mn,.int .i64 lk,.int .i64 mk,.func (.func 149) #[] #[]] 150))
 have HB2:=Lib.hid (second_at w (boxOf op name n pos a kids.len cap) (.cells #[.bool named,.int .i64 ln,.int .i64 mn,.int .i64 lk,.int .i64 mk,.func (.func 149) #[] #[]] 150))
 have HZ1:=Lib.hid (lt_heap HB1.out)
 have HZ2:=Lib.hid (lt_heap HB2.out)
 have HC:=Lib.hid (mayBeName_any name ((w.alloc (boxOf op name n pos a kids.len cap)).alloc (.cells #[.bool named,.int .i64 ln,.int .i64 mn,.int .i64 lk,.int .i64 mk,.func (.func 149) #[] #[]] 150)) hns (hT.below HBB.out))
 clear hin hks hT hk
 cases named with
 | true =>
  by_cases hnn:nameB name=true
  ·have HN:=Lib.hid hnn
   by_cases h1:n < ln
   ·have HO:=Lib.hid (show fitB true name ln mn n lk mk kids.len (kids.allB p)=false from by unfold fitB;rw [show decide (ln≤n)=false from decide_eq_false (by omega)];simp)
    clear hnn
    go_enter Tryd.func120,Tryd.ntmps120
    go_wp2_with fail
    refine HC.out.mono ?_
    rintro e w2 ⟨rfl,hb2⟩
    rw [HN.out]
    obtain ⟨b0,b1,b2,b3,b4⟩:=box_cells (show w2.heap[w.heap.size]? = _ from (hb2.block _ HZ1.out).trans HB1.out)
    obtain ⟨s0,s1,s2,s3,s4,s5⟩:=shape_cells (show w2.heap[w.heap.size+1]? = _ from (hb2.block _ HZ2.out).trans HB2.out)
    have hbb:Below w.heap.size w w2:=HBB.out.trans (hb2.mono HBB.out.size)
    clear hb2 HC
    go_wp2_with fail
    go_ret
    exact ⟨by rw [HO.out];rfl,hbb⟩
   by_cases h2:mn < n
   ·have HO:=Lib.hid (show fitB true name ln mn n lk mk kids.len (kids.allB p)=false from by unfold fitB;rw [show decide (n≤mn)=false from decide_eq_false (by omega)];simp)
    clear hnn
    go_enter Tryd.func120,Tryd.ntmps120
    go_wp2_with fail
    refine HC.out.mono ?_
    rintro e w2 ⟨rfl,hb2⟩
    rw [HN.out]
    obtain ⟨b0,b1,b2,b3,b4⟩:=box_cells (show w2.heap[w.heap.size]? = _ from (hb2.block _ HZ1.out).trans HB1.out)
    obtain ⟨s0,s1,s2,s3,s4,s5⟩:=shape_cells (show w2.heap[w.heap.size+1]? = _ from (hb2.block _ HZ2.out).trans HB2.out)
    have hbb:Below w.heap.size w w2:=HBB.out.trans (hb2.mono HBB.out.size)
    clear hb2 HC
    go_wp2_with fail
    go_ret
    exact ⟨by rw [HO.out];rfl,hbb⟩
   by_cases h3:(kids.len:Int) < lk
   ·have HO:=Lib.hid (show fitB true name ln mn n lk mk kids.len (kids.allB p)=false from by unfold fitB;rw [show decide (lk≤(kids.len:Int))=false from decide_eq_false (by omega)];simp)
    clear hnn
    go_enter Tryd.func120,Tryd.ntmps120
    go_wp2_with fail
    refine HC.out.mono ?_
    rintro e w2 ⟨rfl,hb2⟩
    rw [HN.out]
    obtain ⟨b0,b1,b2,b3,b4⟩:=box_cells (show w2.heap[w.heap.size]? = _ from (hb2.block _ HZ1.out).trans HB1.out)
    obtain ⟨s0,s1,s2,s3,s4,s5⟩:=shape_cells (show w2.heap[w.heap.size+1]? = _ from (hb2.block _ HZ2.out).trans HB2.out)
    have hbb:Below w.heap.size w w2:=HBB.out.trans (hb2.mono HBB.out.size)
    clear hb2 HC
    go_wp2_with fail
    go_ret
    exact ⟨by rw [HO.out];rfl,hbb⟩
   by_cases h4:mk < (kids.len:Int)
   ·have HO:=Lib.hid (show fitB true name ln mn n lk mk kids.len (kids.allB p)=false from by unfold fitB;rw [show decide ((kids.len:Int)≤mk)=false from decide_eq_false (by omega)];simp)
    clear hnn
    go_enter Tryd.func120,Tryd.ntmps120
    go_wp2_with fail
    refine HC.out.mono ?_
    rintro e w2 ⟨rfl,hb2⟩
    rw [HN.out]
    obtain ⟨b0,b1,b2,b3,b4⟩:=box_cells (show w2.heap[w.heap.size]? = _ from (hb2.block _ HZ1.out).trans HB1.out)
    obtain ⟨s0,s1,s2,s3,s4,s5⟩:=shape_cells (show w2.heap[w.heap.size+1]? = _ from (hb2.block _ HZ2.out).trans HB2.out)
    have hbb:Below w.heap.size w w2:=HBB.out.trans (hb2.mono HBB.out.size)
    clear hb2 HC
    go_wp2_with fail
    go_ret
    exact ⟨by rw [HO.out];rfl,hbb⟩
   have g1:ln≤n:=by omega
   have g2:n≤mn:=by omega
   have g3:lk≤(kids.len:Int):=by omega
   have g4:(kids.len:Int)≤mk:=by omega
   have HO:RowKit.Hid (fitB true name ln mn n lk mk kids.len (kids.allB p)=(kids.allB p)):=Lib.hid (by unfold fitB;rw [decide_eq_true g1,decide_eq_true g2,decide_eq_true g3,decide_eq_true g4];simp [HN.out])
   clear hnn
   go_enter Tryd.func120,Tryd.ntmps120
   go_wp2_with fail
   refine HC.out.mono ?_
   rintro e w2 ⟨rfl,hb2⟩
   rw [HN.out]
   obtain ⟨b0,b1,b2,b3,b4⟩:=box_cells (show w2.heap[w.heap.size]? = _ from (hb2.block _ HZ1.out).trans HB1.out)
   obtain ⟨s0,s1,s2,s3,s4,s5⟩:=shape_cells (show w2.heap[w.heap.size+1]? = _ from (hb2.block _ HZ2.out).trans HB2.out)
   have hbb:Below w.heap.size w w2:=HBB.out.trans (hb2.mono HBB.out.size)
   clear hb2 HC
   go_wp2_with fail
   rcases HI.out with hnil | ⟨kb,ko,hab,hlim,hpos,hkin⟩
   ·obtain rfl:kids=.nil:=hnil
    go_loopw [56] (fun i wr=>i=.int .i64 0∧Below w.heap.size w wr) (fun _ _=>0)
    case atStart=>exact ⟨rfl,hbb⟩
    case round =>
     obtain ⟨rfl,hbx⟩:=hrel
     have hz0:((Fo.nil.len:Nat):Int)=0:=rfl
     go_wp2_with fail
     go_ret
     exact ⟨by rw [HO.out];rfl,hbx⟩
   ·obtain rfl:a=some ⟨kb,ko,none⟩:=hab
    have hlim:kids.len≤140737488351232:=hlim
    have HST:=Lib.hid (Tail.start hkin HK.out)
    have HSZ:=HS
    clear hkin hpos
    go_loopw [56] (fun i wr=>∃ (k:Nat) (R:Fo),i=.int .i64 k∧RowKit.Hid (Tail wr (TellK p) kids R kb ko k)∧RowKit.Hid (kids.allB p=R.allB p)∧RowKit.Hid R.sized∧RowKit.Hid (wr.cell? ⟨w.heap.size+1,5,none⟩=some (.func (.func 149) #[] #[]))∧Below w.heap.size w wr) (fun i _=>kids.len - (intOf i).toNat)
    case atStart=>exact ⟨0,kids,rfl,Lib.hid (HST.out.below hbb),Lib.hid rfl,HSZ,Lib.hid (s5),hbb⟩
    case round =>
     obtain ⟨k,R,rfl,HTL,HAL,HRS,HX,hbx⟩:=hrel
     cases R with
     | nil =>
      have hkl:k=kids.len:=by have:=HTL.out.len;simpa [Fo.len] using this
      subst hkl
      go_wp2_with fail
      go_ret
      exact ⟨by rw [HO.out,HAL.out];rfl,hbx⟩
     | cons op1 name1 n1 pos1 a1 cap1 kids1 rest =>
      obtain ⟨hnode,hin1,hP,hkl,hnext⟩:=HTL.out.next
      have hkl2:(k:Int) < kids.len:=by omega
      obtain ⟨c0,c1,c2,c3,c4⟩:=hnode
      have hx5:=fun ob:Obj=>cell_below (below_box wr ob) HX.out
      have HN1:=Lib.hid hnext
      have hcall:=hP (wr.alloc (boxOf op1 name1 n1 pos1 a1 kids1.len cap1)) (HT.out.below (hbx.alloc hbx.size _)) (hin1.below (below_box _ _)) ⟨HRS.out.1,HRS.out.2.1⟩
      rw [Nd.val_def] at hcall
      have HCL:=Lib.hid hcall
      have HR2:=Lib.hid HRS.out.2.2
      clear hnext hin1 hP hcall HTL
      go_wp2_with fail
      refine HCL.out.mono ?_
      rintro e w3 ⟨rfl,hb3⟩
      have hb4:=box_then hb3
      have hbx2:=hbx.trans (hb4.mono hbx.size)
      have HX2:=Lib.hid (cell_below hb4 HX.out)
      have HN2:=Lib.hid (HN1.out.below hb4)
      clear hb3 hb4 HN1 HX hx5 HCL
      by_cases hp1:p ⟨op1,name1,n1,pos1,a1,cap1,kids1⟩=true
      ·have HA2:=Lib.hid (show kids.allB p=rest.allB p from by rw [HAL.out];show (p _ && rest.allB p)=_;rw [hp1];rfl)
       rw [hp1]
       clear hp1
       go_wp2_with fail
       go_roundw
       case rel=>exact ⟨k+1,rest,by go_num,HN2,HA2,HR2,HX2,hbx2⟩
       case measure=>(try simp [intOf]);omega
      ·have hp2:p ⟨op1,name1,n1,pos1,a1,cap1,kids1⟩=false:=by simpa using hp1
       have HA2:=Lib.hid (show kids.allB p=false from by rw [HAL.out];show (p _ && rest.allB p)=_;rw [hp2];rfl)
       rw [hp2]
       clear hp1 hp2
       go_wp2_with fail
       go_ret
       exact ⟨by rw [HO.out,HA2.out];rfl,hbx2⟩
  ·have hnn2:nameB name=false:=by simpa using hnn
   have HN:=Lib.hid hnn2
   have HO:=Lib.hid (show fitB true name ln mn n lk mk kids.len (kids.allB p)=false from by unfold fitB;simp [hnn2])
   clear hnn hnn2
   go_enter Tryd.func120,Tryd.ntmps120
   go_wp2_with fail
   refine HC.out.mono ?_
   rintro e w2 ⟨rfl,hb2⟩
   rw [HN.out]
   obtain ⟨b0,b1,b2,b3,b4⟩:=box_cells (show w2.heap[w.heap.size]? = _ from (hb2.block _ HZ1.out).trans HB1.out)
   obtain ⟨s0,s1,s2,s3,s4,s5⟩:=shape_cells (show w2.heap[w.heap.size+1]? = _ from (hb2.block _ HZ2.out).trans HB2.out)
   have hbb:Below w.heap.size w w2:=HBB.out.trans (hb2.mono HBB.out.size)
   clear hb2 HC
   go_wp2_with fail
   go_ret
   exact ⟨by rw [HO.out];rfl,hbb⟩
 | false =>
  by_cases hn:name.toList=[]
  ·have hnb:(name.toList != [])=false:=by simpa using hn
   have hnb2:(name.toList == [])=true:=by simpa using hn
   have hnn:True:=trivial
   clear HC
   by_cases h1:n < ln
   ·have HO:=Lib.hid (show fitB false name ln mn n lk mk kids.len (kids.allB p)=false from by unfold fitB;rw [show decide (ln≤n)=false from decide_eq_false (by omega)];simp)
    clear hnn
    go_enter Tryd.func120,Tryd.ntmps120
    go_wp2_with fail
    go_ret
    exact ⟨by rw [HO.out];rfl,HBB.out⟩
   by_cases h2:mn < n
   ·have HO:=Lib.hid (show fitB false name ln mn n lk mk kids.len (kids.allB p)=false from by unfold fitB;rw [show decide (n≤mn)=false from decide_eq_false (by omega)];simp)
    clear hnn
    go_enter Tryd.func120,Tryd.ntmps120
    go_wp2_with fail
    go_ret
    exact ⟨by rw [HO.out];rfl,HBB.out⟩
   by_cases h3:(kids.len:Int) < lk
   ·have HO:=Lib.hid (show fitB false name ln mn n lk mk kids.len (kids.allB p)=false from by unfold fitB;rw [show decide (lk≤(kids.len:Int))=false from decide_eq_false (by omega)];simp)
    clear hnn
    go_enter Tryd.func120,Tryd.ntmps120
    go_wp2_with fail
    go_ret
    exact ⟨by rw [HO.out];rfl,HBB.out⟩
   by_cases h4:mk < (kids.len:Int)
   ·have HO:=Lib.hid (show fitB false name ln mn n lk mk kids.len (kids.allB p)=false from by unfold fitB;rw [show decide ((kids.len:Int)≤mk)=false from decide_eq_false (by omega)];simp)
    clear hnn
    go_enter Tryd.func120,Tryd.ntmps120
    go_wp2_with fail
    go_ret
    exact ⟨by rw [HO.out];rfl,HBB.out⟩
   have g1:ln≤n:=by omega
   have g2:n≤mn:=by omega
   have g3:lk≤(kids.len:Int):=by omega
   have g4:(kids.len:Int)≤mk:=by omega
   have HO:RowKit.Hid (fitB false name ln mn n lk mk kids.len (kids.allB p)=(kids.allB p)):=Lib.hid (by unfold fitB;rw [decide_eq_true g1,decide_eq_true g2,decide_eq_true g3,decide_eq_true g4];simp [hn])
   clear hnn
   go_enter Tryd.func120,Tryd.ntmps120
   go_wp2_with fail
   rcases HI.out with hnil | ⟨kb,ko,hab,hlim,hpos,hkin⟩
   ·obtain rfl:kids=.nil:=hnil
    go_loopw [56] (fun i wr=>i=.int .i64 0∧Below w.heap.size w wr) (fun _ _=>0)
    case atStart=>exact ⟨rfl,HBB.out⟩
    case round =>
     obtain ⟨rfl,hbx⟩:=hrel
     have hz0:((Fo.nil.len:Nat):Int)=0:=rfl
     go_wp2_with fail
     go_ret
     exact ⟨by rw [HO.out];rfl,hbx⟩
   ·obtain rfl:a=some ⟨kb,ko,none⟩:=hab
    have hlim:kids.len≤140737488351232:=hlim
    have HST:=Lib.hid (Tail.start hkin HK.out)
    have HSZ:=HS
    clear hkin hpos
    go_loopw [56] (fun i wr=>∃ (k:Nat) (R:Fo),i=.int .i64 k∧RowKit.Hid (Tail wr (TellK p) kids R kb ko k)∧RowKit.Hid (kids.allB p=R.allB p)∧RowKit.Hid R.sized∧RowKit.Hid (wr.cell? ⟨w.heap.size+1,5,none⟩=some (.func (.func 149) #[] #[]))∧Below w.heap.size w wr) (fun i _=>kids.len - (intOf i).toNat)
    case atStart=>exact ⟨0,kids,rfl,Lib.hid (HST.out.below HBB.out),Lib.hid rfl,HSZ,Lib.hid ((shape_cells HB2.out).2.2.2.2.2),HBB.out⟩
    case round =>
     obtain ⟨k,R,rfl,HTL,HAL,HRS,HX,hbx⟩:=hrel
     cases R with
     | nil =>
      have hkl:k=kids.len:=by have:=HTL.out.len;simpa [Fo.len] using this
      subst hkl
      go_wp2_with fail
      go_ret
      exact ⟨by rw [HO.out,HAL.out];rfl,hbx⟩
     | cons op1 name1 n1 pos1 a1 cap1 kids1 rest =>
      obtain ⟨hnode,hin1,hP,hkl,hnext⟩:=HTL.out.next
      have hkl2:(k:Int) < kids.len:=by omega
      obtain ⟨c0,c1,c2,c3,c4⟩:=hnode
      have hx5:=fun ob:Obj=>cell_below (below_box wr ob) HX.out
      have HN1:=Lib.hid hnext
      have hcall:=hP (wr.alloc (boxOf op1 name1 n1 pos1 a1 kids1.len cap1)) (HT.out.below (hbx.alloc hbx.size _)) (hin1.below (below_box _ _)) ⟨HRS.out.1,HRS.out.2.1⟩
      rw [Nd.val_def] at hcall
      have HCL:=Lib.hid hcall
      have HR2:=Lib.hid HRS.out.2.2
      clear hnext hin1 hP hcall HTL
      go_wp2_with fail
      refine HCL.out.mono ?_
      rintro e w3 ⟨rfl,hb3⟩
      have hb4:=box_then hb3
      have hbx2:=hbx.trans (hb4.mono hbx.size)
      have HX2:=Lib.hid (cell_below hb4 HX.out)
      have HN2:=Lib.hid (HN1.out.below hb4)
      clear hb3 hb4 HN1 HX hx5 HCL
      by_cases hp1:p ⟨op1,name1,n1,pos1,a1,cap1,kids1⟩=true
      ·have HA2:=Lib.hid (show kids.allB p=rest.allB p from by rw [HAL.out];show (p _ && rest.allB p)=_;rw [hp1];rfl)
       rw [hp1]
       clear hp1
       go_wp2_with fail
       go_roundw
       case rel=>exact ⟨k+1,rest,by go_num,HN2,HA2,HR2,HX2,hbx2⟩
       case measure=>(try simp [intOf]);omega
      ·have hp2:p ⟨op1,name1,n1,pos1,a1,cap1,kids1⟩=false:=by simpa using hp1
       have HA2:=Lib.hid (show kids.allB p=false from by rw [HAL.out];show (p _ && rest.allB p)=_;rw [hp2];rfl)
       rw [hp2]
       clear hp1 hp2
       go_wp2_with fail
       go_ret
       exact ⟨by rw [HO.out,HA2.out];rfl,hbx2⟩
  ·have hnb:(name.toList != [])=true:=by simpa using hn
   have hnb2:(name.toList == [])=false:=by simpa using hn
   have HO:=Lib.hid (show fitB false name ln mn n lk mk kids.len (kids.allB p)=false from by unfold fitB;simp [hn])
   clear HC
   go_enter Tryd.func120,Tryd.ntmps120
   go_wp2_with fail
   go_ret
   exact ⟨by rw [HO.out];rfl,HBB.out⟩
end Go.Proofs.YtmlmjopfbohglaaDoor
