/- Parts of the proof: GRefBR. -/
import Derived.Test.YtmlmjopfbohglaaGreatDoorPg07
namespace Go.Proofs.YtmlmjopfbohglaaGreatDoor
open Go.RowKit
theorem fit_plain (name:ByteArray) (n m:Int) (len:Nat) (all:Bool):fitB false name 0 0 n m m len all=(hasB name n len m false false && all):=by
 unfold fitB hasB
 have h1:(decide (0≤n) && decide (n≤0))=decide (n=0):=by
  by_cases h:n=0
  ·subst h;rfl
  ·rw [decide_eq_false h]
   by_cases h2:0≤n
   ·rw [show decide (n≤0)=false from decide_eq_false (by omega),Bool.and_false]
   ·rw [decide_eq_false h2,Bool.false_and]
 have h2:(decide (m≤(len:Int)) && decide ((len:Int)≤m))=decide ((len:Int)=m):=by
  by_cases h:(len:Int)=m
  ·rw [decide_eq_true h,decide_eq_true (by omega),decide_eq_true (by omega)];rfl
  ·rw [decide_eq_false h]
   by_cases h2:m≤(len:Int)
   ·rw [show decide ((len:Int)≤m)=false from decide_eq_false (by omega),Bool.and_false]
   ·rw [decide_eq_false h2,Bool.false_and]
 rw [h1,Bool.and_assoc (decide (n=0)),h2]
 cases (name.toList == []) <;> cases decide (n=0) <;> cases decide ((len:Int)=m) <;> cases all <;> rfl
theorem fit_named (name:ByteArray) (n m:Int) (len:Nat) (all:Bool):fitB true name 0 0 n m m len all=(hasB name n len m true false && all):=by
 have h:=fit_plain name n m len all
 have e:fitB true name 0 0 n m m len all=(nameB name && (fitB false ⟨#[]⟩ 0 0 n m m len all)):=by unfold fitB;simp [Bool.and_assoc]
 have e2:hasB name n len m true false=(nameB name && hasB ⟨#[]⟩ n len m false false):=by
  have hz:((⟨#[]⟩:ByteArray).toList == [])=true:=by rw [ByteArray.toList_eq];rfl
  unfold hasB
  rw [hz]
  cases nameB name <;> cases decide (n=0) <;> cases decide ((len:Int)=m) <;> rfl
 rw [e,e2,fit_plain,Bool.and_assoc]
theorem fit_quant (name:ByteArray) (n:Int) (len:Nat) (all:Bool):fitB true name 0 2 n 1 1 len all=(hasB name n len 1 true true && decide (0≤n) && decide (n≤2) && all):=by
 unfold fitB hasB
 have h2:(decide (1≤(len:Int)) && decide ((len:Int)≤1))=decide ((len:Int)=1):=by
  by_cases h:(len:Int)=1
  ·rw [decide_eq_true h,decide_eq_true (by omega),decide_eq_true (by omega)];rfl
  ·rw [decide_eq_false h]
   by_cases h2:1≤(len:Int)
   ·rw [show decide ((len:Int)≤1)=false from decide_eq_false (by omega),Bool.and_false]
   ·rw [decide_eq_false h2,Bool.false_and]
 rw [Bool.and_assoc (decide (0≤n) && decide (n≤2)),h2]
 cases nameB name <;> cases decide (0≤n) <;> cases decide (n≤2) <;> cases decide ((len:Int)=1) <;> cases all <;> rfl
theorem fit_call (name:ByteArray) (n:Int) (len:Nat) (all nm:Bool):fitB nm name 0 0 n 0 6 len all=(hasB name n len len nm false && decide ((len:Int)≤6) && all):=by
 unfold fitB hasB
 have h1:(decide (0≤n) && decide (n≤0))=decide (n=0):=by
  by_cases h:n=0
  ·subst h;rfl
  ·rw [decide_eq_false h]
   by_cases h2:0≤n
   ·rw [show decide (n≤0)=false from decide_eq_false (by omega),Bool.and_false]
   ·rw [decide_eq_false h2,Bool.false_and]
 rw [h1,show decide ((0:Int)≤(len:Int))=true from decide_eq_true (by omega),show decide ((len:Int)=(len:Int))=true from decide_eq_true rfl]
 cases nm <;> cases nameB name <;> cases (name.toList == []) <;> cases decide (n=0) <;> cases decide ((len:Int)≤6) <;> cases all <;> rfl
set_option maxRecDepth 100000 in
set_option maxHeartbeats 64000000 in
theorem gformula_of (T:Nd) (hkF:Fo.All SayRF T.kids) (hkT:Fo.All SayRT T.kids):SayRF T:=by
 intro w hU hin hsz
 have hF:=fun W h1 h2=>formulas_any T W h1 h2 hsz hkF
 have hTm:=fun W h1 h2=>terms_any T W h1 h2 hsz hkT
 have hns:=hsz.1
 obtain ⟨op,name,n,pos,a,cap,kids⟩:=T
 have hc5:=cellsNode
 have hns:name.size≤140737488351232:=hns
 have hF:∀ W,UT W→Nd.In W ⟨op,name,n,pos,a,cap,kids⟩→Calls Tryz.prog 89 #[.agg #[.string op,.string name,.int .i64 n,.int .i64 pos,.slice a kids.len cap]] W fun e w'=>e=.returned (.bool kids.sorts.f)∧Below W.heap.size W w':=hF
 have hTm:∀ W,UT W→Nd.In W ⟨op,name,n,pos,a,cap,kids⟩→Calls Tryz.prog 90 #[.agg #[.string op,.string name,.int .i64 n,.int .i64 pos,.slice a kids.len cap]] W fun e w'=>e=.returned (.bool kids.sorts.t)∧Below W.heap.size W w':=hTm
 have HF:=Lib.hid hF
 have HTM:=Lib.hid hTm
 have HU:=Lib.hid hU
 have HI:=Lib.hid hin
 have HB:=Lib.hid (new_at w (boxOf op name n pos a kids.len cap))
 have HZ:=Lib.hid (lt_heap HB.out)
 have hh:=fun m nm num=>rhas_any op name n pos a kids.len cap m nm num (w.alloc (boxOf op name n pos a kids.len cap)) (Utf8Tabs_below hU (below_box _ _)) hns
 have HH:=Lib.hid hh
 show Calls _ _ _ w fun e w'=>e=.returned (.bool (stepF op name n kids.len kids.sorts.f kids.sorts.t))∧_
 clear hkF hkT hF hTm hU hin hh hsz hns
 rw [Nd.val_def]
 by_cases o1:op.toList=[116,114,117,101]
 ·have e1:(op.toList == [116,114,117,101])=true:=by simp [o1]
  have HR:RowKit.Hid (stepF op name n kids.len kids.sorts.f kids.sorts.t=(hasB name n kids.len 0 false false && true)):=Lib.hid (by unfold stepF opF0 opF2 opFq opFr;rw [e1];exact fit_plain name n 0 kids.len true)
  have hcall:=HH.out 0 false false
  generalize hhv:hasB name n kids.len 0 false false=hv at hcall
  have HV:=Lib.hid hhv
  have HC:=Lib.hid hcall
  clear hcall hhv o1
  go_enter Tryz.func46,Tryz.ntmps46
  go_wp2_with fail
  refine HC.out.mono ?_
  rintro e w2 ⟨rfl,hb2⟩
  have hbb:=box_then hb2
  clear hb2 HC
  go_wp2_with fail
  go_ret
  exact ⟨by rw [HR.out,HV.out,Bool.and_true];rfl,hbb⟩
 have e1:(op.toList == [116,114,117,101])=false:=by simp [o1]
 clear o1
 by_cases o2:op.toList=[102,97,108,115,101]
 ·have e2:(op.toList == [102,97,108,115,101])=true:=by simp [o2]
  have HR:RowKit.Hid (stepF op name n kids.len kids.sorts.f kids.sorts.t=(hasB name n kids.len 0 false false && true)):=Lib.hid (by unfold stepF opF0 opF2 opFq opFr;rw [e1,e2];exact fit_plain name n 0 kids.len true)
  have hcall:=HH.out 0 false false
  generalize hhv:hasB name n kids.len 0 false false=hv at hcall
  have HV:=Lib.hid hhv
  have HC:=Lib.hid hcall
  clear hcall hhv o2
  go_enter Tryz.func46,Tryz.ntmps46
  go_wp2_with fail
  refine HC.out.mono ?_
  rintro e w2 ⟨rfl,hb2⟩
  have hbb:=box_then hb2
  clear hb2 HC
  go_wp2_with fail
  go_ret
  exact ⟨by rw [HR.out,HV.out,Bool.and_true];rfl,hbb⟩
 have e2:(op.toList == [102,97,108,115,101])=false:=by simp [o2]
 clear o2
 by_cases o3:op.toList=[110,111,116]
 ·have e3:(op.toList == [110,111,116])=true:=by simp [o3]
  have HR:RowKit.Hid (stepF op name n kids.len kids.sorts.f kids.sorts.t=(hasB name n kids.len 1 false false && kids.sorts.f)):=Lib.hid (by unfold stepF opF0 opF2 opFq opFr;rw [e1,e2,e3];exact fit_plain name n 1 kids.len kids.sorts.f)
  have hcall:=HH.out 1 false false
  generalize hhv:hasB name n kids.len 1 false false=hv at hcall
  have HV:=Lib.hid hhv
  have HC:=Lib.hid hcall
  clear hcall hhv o3
  cases hv with
  | false =>
   have HR2:=HR.out
   rw [HV.out] at HR2
   have HR:=Lib.hid HR2
   clear HR2
   go_enter Tryz.func46,Tryz.ntmps46
   go_wp2_with fail
   refine HC.out.mono ?_
   rintro e w2 ⟨rfl,hb2⟩
   have hbb:=box_then hb2
   clear hb2 HC
   go_wp2_with fail
   go_ret
   exact ⟨by rw [HR.out];rfl,hbb⟩
  | true =>
   go_enter Tryz.func46,Tryz.ntmps46
   go_wp2_with fail
   refine HC.out.mono ?_
   rintro e w2 ⟨rfl,hb2⟩
   have hbb:=box_then hb2
   obtain ⟨b0,b1,b2,b3,b4⟩:=box_cells (show w2.heap[w.heap.size]? = _ from (hb2.block _ HZ.out).trans HB.out)
   have HC2:=Lib.hid (HF.out w2 (Utf8Tabs_below HU.out hbb) (HI.out.below hbb))
   clear hb2 HC
   go_wp2_with fail
   refine HC2.out.mono ?_
   rintro e w3 ⟨rfl,hb3⟩
   have hb4:=hbb.trans (hb3.mono hbb.size)
   clear hb3 HC2
   go_wp2_with fail
   go_ret
   exact ⟨by rw [HR.out,HV.out];rfl,hb4⟩
 have e3:(op.toList == [110,111,116])=false:=by simp [o3]
 clear o3
 by_cases o4:op.toList=[97,110,100]
 ·have e4:(op.toList == [97,110,100])=true:=by simp [o4]
  have HR:RowKit.Hid (stepF op name n kids.len kids.sorts.f kids.sorts.t=(hasB name n kids.len 2 false false && kids.sorts.f)):=Lib.hid (by unfold stepF opF0 opF2 opFq opFr;rw [e1,e2,e3,e4];exact fit_plain name n 2 kids.len kids.sorts.f)
  have hcall:=HH.out 2 false false
  generalize hhv:hasB name n kids.len 2 false false=hv at hcall
  have HV:=Lib.hid hhv
  have HC:=Lib.hid hcall
  clear hcall hhv o4
  cases hv with
  | false =>
   have HR2:=HR.out
   rw [HV.out] at HR2
   have HR:=Lib.hid HR2
   clear HR2
   go_enter Tryz.func46,Tryz.ntmps46
   go_wp2_with fail
   refine HC.out.mono ?_
   rintro e w2 ⟨rfl,hb2⟩
   have hbb:=box_then hb2
   clear hb2 HC
   go_wp2_with fail
   go_ret
   exact ⟨by rw [HR.out];rfl,hbb⟩
  | true =>
   go_enter Tryz.func46,Tryz.ntmps46
   go_wp2_with fail
   refine HC.out.mono ?_
   rintro e w2 ⟨rfl,hb2⟩
   have hbb:=box_then hb2
   obtain ⟨b0,b1,b2,b3,b4⟩:=box_cells (show w2.heap[w.heap.size]? = _ from (hb2.block _ HZ.out).trans HB.out)
   have HC2:=Lib.hid (HF.out w2 (Utf8Tabs_below HU.out hbb) (HI.out.below hbb))
   clear hb2 HC
   go_wp2_with fail
   refine HC2.out.mono ?_
   rintro e w3 ⟨rfl,hb3⟩
   have hb4:=hbb.trans (hb3.mono hbb.size)
   clear hb3 HC2
   go_wp2_with fail
   go_ret
   exact ⟨by rw [HR.out,HV.out];rfl,hb4⟩
 have e4:(op.toList == [97,110,100])=false:=by simp [o4]
 clear o4
 by_cases o5:op.toList=[111,114]
 ·have e5:(op.toList == [111,114])=true:=by simp [o5]
  have HR:RowKit.Hid (stepF op name n kids.len kids.sorts.f kids.sorts.t=(hasB name n kids.len 2 false false && kids.sorts.f)):=Lib.hid (by unfold stepF opF0 opF2 opFq opFr;rw [e1,e2,e3,e4,e5];exact fit_plain name n 2 kids.len kids.sorts.f)
  have hcall:=HH.out 2 false false
  generalize hhv:hasB name n kids.len 2 false false=hv at hcall
  have HV:=Lib.hid hhv
  have HC:=Lib.hid hcall
  clear hcall hhv o5
  cases hv with
  | false =>
   have HR2:=HR.out
   rw [HV.out] at HR2
   have HR:=Lib.hid HR2
   clear HR2
   go_enter Tryz.func46,Tryz.ntmps46
   go_wp2_with fail
   refine HC.out.mono ?_
   rintro e w2 ⟨rfl,hb2⟩
   have hbb:=box_then hb2
   clear hb2 HC
   go_wp2_with fail
   go_ret
   exact ⟨by rw [HR.out];rfl,hbb⟩
  | true =>
   go_enter Tryz.func46,Tryz.ntmps46
   go_wp2_with fail
   refine HC.out.mono ?_
   rintro e w2 ⟨rfl,hb2⟩
   have hbb:=box_then hb2
   obtain ⟨b0,b1,b2,b3,b4⟩:=box_cells (show w2.heap[w.heap.size]? = _ from (hb2.block _ HZ.out).trans HB.out)
   have HC2:=Lib.hid (HF.out w2 (Utf8Tabs_below HU.out hbb) (HI.out.below hbb))
   clear hb2 HC
   go_wp2_with fail
   refine HC2.out.mono ?_
   rintro e w3 ⟨rfl,hb3⟩
   have hb4:=hbb.trans (hb3.mono hbb.size)
   clear hb3 HC2
   go_wp2_with fail
   go_ret
   exact ⟨by rw [HR.out,HV.out];rfl,hb4⟩
 have e5:(op.toList == [111,114])=false:=by simp [o5]
 clear o5
 by_cases o6:op.toList=[105,109,112]
 ·have e6:(op.toList == [105,109,112])=true:=by simp [o6]
  have HR:RowKit.Hid (stepF op name n kids.len kids.sorts.f kids.sorts.t=(hasB name n kids.len 2 false false && kids.sorts.f)):=Lib.hid (by unfold stepF opF0 opF2 opFq opFr;rw [e1,e2,e3,e4,e5,e6];exact fit_plain name n 2 kids.len kids.sorts.f)
  have hcall:=HH.out 2 false false
  generalize hhv:hasB name n kids.len 2 false false=hv at hcall
  have HV:=Lib.hid hhv
  have HC:=Lib.hid hcall
  clear hcall hhv o6
  cases hv with
  | false =>
   have HR2:=HR.out
   rw [HV.out] at HR2
   have HR:=Lib.hid HR2
   clear HR2
   go_enter Tryz.func46,Tryz.ntmps46
   go_wp2_with fail
   refine HC.out.mono ?_
   rintro e w2 ⟨rfl,hb2⟩
   have hbb:=box_then hb2
   clear hb2 HC
   go_wp2_with fail
   go_ret
   exact ⟨by rw [HR.out];rfl,hbb⟩
  | true =>
   go_enter Tryz.func46,Tryz.ntmps46
   go_wp2_with fail
   refine HC.out.mono ?_
   rintro e w2 ⟨rfl,hb2⟩
   have hbb:=box_then hb2
   obtain ⟨b0,b1,b2,b3,b4⟩:=box_cells (show w2.heap[w.heap.size]? = _ from (hb2.block _ HZ.out).trans HB.out)
   have HC2:=Lib.hid (HF.out w2 (Utf8Tabs_below HU.out hbb) (HI.out.below hbb))
   clear hb2 HC
   go_wp2_with fail
   refine HC2.out.mono ?_
   rintro e w3 ⟨rfl,hb3⟩
   have hb4:=hbb.trans (hb3.mono hbb.size)
   clear hb3 HC2
   go_wp2_with fail
   go_ret
   exact ⟨by rw [HR.out,HV.out];rfl,hb4⟩
 have e6:(op.toList == [105,109,112])=false:=by simp [o6]
 clear o6
 by_cases o7:op.toList=[105,102,102]
 ·have e7:(op.toList == [105,102,102])=true:=by simp [o7]
  have HR:RowKit.Hid (stepF op name n kids.len kids.sorts.f kids.sorts.t=(hasB name n kids.len 2 false false && kids.sorts.f)):=Lib.hid (by unfold stepF opF0 opF2 opFq opFr;rw [e1,e2,e3,e4,e5,e6,e7];exact fit_plain name n 2 kids.len kids.sorts.f)
  have hcall:=HH.out 2 false false
  generalize hhv:hasB name n kids.len 2 false false=hv at hcall
  have HV:=Lib.hid hhv
  have HC:=Lib.hid hcall
  clear hcall hhv o7
  cases hv with
  | false =>
   have HR2:=HR.out
   rw [HV.out] at HR2
   have HR:=Lib.hid HR2
   clear HR2
   go_enter Tryz.func46,Tryz.ntmps46
   go_wp2_with fail
   refine HC.out.mono ?_
   rintro e w2 ⟨rfl,hb2⟩
   have hbb:=box_then hb2
   clear hb2 HC
   go_wp2_with fail
   go_ret
   exact ⟨by rw [HR.out];rfl,hbb⟩
  | true =>
   go_enter Tryz.func46,Tryz.ntmps46
   go_wp2_with fail
   refine HC.out.mono ?_
   rintro e w2 ⟨rfl,hb2⟩
   have hbb:=box_then hb2
   obtain ⟨b0,b1,b2,b3,b4⟩:=box_cells (show w2.heap[w.heap.size]? = _ from (hb2.block _ HZ.out).trans HB.out)
   have HC2:=Lib.hid (HF.out w2 (Utf8Tabs_below HU.out hbb) (HI.out.below hbb))
   clear hb2 HC
   go_wp2_with fail
   refine HC2.out.mono ?_
   rintro e w3 ⟨rfl,hb3⟩
   have hb4:=hbb.trans (hb3.mono hbb.size)
   clear hb3 HC2
   go_wp2_with fail
   go_ret
   exact ⟨by rw [HR.out,HV.out];rfl,hb4⟩
 have e7:(op.toList == [105,102,102])=false:=by simp [o7]
 clear o7
 by_cases o8:op.toList=[101,120]
 ·have e8:(op.toList == [101,120])=true:=by simp [o8]
  have HR:RowKit.Hid (stepF op name n kids.len kids.sorts.f kids.sorts.t=(hasB name n kids.len 1 true true && decide (0≤n) && decide (n≤2) && kids.sorts.f)):=Lib.hid (by unfold stepF opF0 opF2 opFq opFr;rw [e1,e2,e3,e4,e5,e6,e7,e8];exact fit_quant name n kids.len kids.sorts.f)
  have hcall:=HH.out 1 true true
  generalize hhv:hasB name n kids.len 1 true true=hv at hcall
  have HV:=Lib.hid hhv
  have HC:=Lib.hid hcall
  clear hcall hhv o8
  cases hv with
  | false =>
   have HR2:=HR.out
   rw [HV.out] at HR2
   have HR:=Lib.hid HR2
   clear HR2
   go_enter Tryz.func46,Tryz.ntmps46
   go_wp2_with fail
   refine HC.out.mono ?_
   rintro e w2 ⟨rfl,hb2⟩
   have hbb:=box_then hb2
   clear hb2 HC
   go_wp2_with fail
   go_ret
   exact ⟨by rw [HR.out];rfl,hbb⟩
  | true =>
   by_cases t1:0≤n
   case neg =>
    have HQ1:=Lib.hid (show decide (0≤n)=false from decide_eq_false t1)
    go_enter Tryz.func46,Tryz.ntmps46
    go_wp2_with fail
    refine HC.out.mono ?_
    rintro e w2 ⟨rfl,hb2⟩
    have hbb:=box_then hb2
    obtain ⟨b0,b1,b2,b3,b4⟩:=box_cells (show w2.heap[w.heap.size]? = _ from (hb2.block _ HZ.out).trans HB.out)
    clear hb2 HC
    go_wp2_with fail
    go_ret
    exact ⟨by rw [HR.out,HV.out,HQ1.out];rfl,hbb⟩
   have HQ1:=Lib.hid (show decide (0≤n)=true from decide_eq_true t1)
   by_cases t2:n≤2
   case neg =>
    have HQ2:=Lib.hid (show decide (n≤2)=false from decide_eq_false t2)
    go_enter Tryz.func46,Tryz.ntmps46
    go_wp2_with fail
    refine HC.out.mono ?_
    rintro e w2 ⟨rfl,hb2⟩
    have hbb:=box_then hb2
    obtain ⟨b0,b1,b2,b3,b4⟩:=box_cells (show w2.heap[w.heap.size]? = _ from (hb2.block _ HZ.out).trans HB.out)
    clear hb2 HC
    go_wp2_with fail
    go_ret
    exact ⟨by rw [HR.out,HV.out,HQ1.out,HQ2.out];rfl,hbb⟩
   have HQ2:=Lib.hid (show decide (n≤2)=true from decide_eq_true t2)
   go_enter Tryz.func46,Tryz.ntmps46
   go_wp2_with fail
   refine HC.out.mono ?_
   rintro e w2 ⟨rfl,hb2⟩
   have hbb:=box_then hb2
   obtain ⟨b0,b1,b2,b3,b4⟩:=box_cells (show w2.heap[w.heap.size]? = _ from (hb2.block _ HZ.out).trans HB.out)
   have HC2:=Lib.hid (HF.out w2 (Utf8Tabs_below HU.out hbb) (HI.out.below hbb))
   clear hb2 HC
   go_wp2_with fail
   refine HC2.out.mono ?_
   rintro e w3 ⟨rfl,hb3⟩
   have hb4:=hbb.trans (hb3.mono hbb.size)
   clear hb3 HC2
   go_wp2_with fail
   go_ret
   exact ⟨by rw [HR.out,HV.out,HQ1.out,HQ2.out];rfl,hb4⟩
 have e8:(op.toList == [101,120])=false:=by simp [o8]
 clear o8
 by_cases o9:op.toList=[97,108,108]
 ·have e9:(op.toList == [97,108,108])=true:=by simp [o9]
  have HR:RowKit.Hid (stepF op name n kids.len kids.sorts.f kids.sorts.t=(hasB name n kids.len 1 true true && decide (0≤n) && decide (n≤2) && kids.sorts.f)):=Lib.hid (by unfold stepF opF0 opF2 opFq opFr;rw [e1,e2,e3,e4,e5,e6,e7,e8,e9];exact fit_quant name n kids.len kids.sorts.f)
  have hcall:=HH.out 1 true true
  generalize hhv:hasB name n kids.len 1 true true=hv at hcall
  have HV:=Lib.hid hhv
  have HC:=Lib.hid hcall
  clear hcall hhv o9
  cases hv with
  | false =>
   have HR2:=HR.out
   rw [HV.out] at HR2
   have HR:=Lib.hid HR2
   clear HR2
   go_enter Tryz.func46,Tryz.ntmps46
   go_wp2_with fail
   refine HC.out.mono ?_
   rintro e w2 ⟨rfl,hb2⟩
   have hbb:=box_then hb2
   clear hb2 HC
   go_wp2_with fail
   go_ret
   exact ⟨by rw [HR.out];rfl,hbb⟩
  | true =>
   by_cases t1:0≤n
   case neg =>
    have HQ1:=Lib.hid (show decide (0≤n)=false from decide_eq_false t1)
    go_enter Tryz.func46,Tryz.ntmps46
    go_wp2_with fail
    refine HC.out.mono ?_
    rintro e w2 ⟨rfl,hb2⟩
    have hbb:=box_then hb2
    obtain ⟨b0,b1,b2,b3,b4⟩:=box_cells (show w2.heap[w.heap.size]? = _ from (hb2.block _ HZ.out).trans HB.out)
    clear hb2 HC
    go_wp2_with fail
    go_ret
    exact ⟨by rw [HR.out,HV.out,HQ1.out];rfl,hbb⟩
   have HQ1:=Lib.hid (show decide (0≤n)=true from decide_eq_true t1)
   by_cases t2:n≤2
   case neg =>
    have HQ2:=Lib.hid (show decide (n≤2)=false from decide_eq_false t2)
    go_enter Tryz.func46,Tryz.ntmps46
    go_wp2_with fail
    refine HC.out.mono ?_
    rintro e w2 ⟨rfl,hb2⟩
    have hbb:=box_then hb2
    obtain ⟨b0,b1,b2,b3,b4⟩:=box_cells (show w2.heap[w.heap.size]? = _ from (hb2.block _ HZ.out).trans HB.out)
    clear hb2 HC
    go_wp2_with fail
    go_ret
    exact ⟨by rw [HR.out,HV.out,HQ1.out,HQ2.out];rfl,hbb⟩
   have HQ2:=Lib.hid (show decide (n≤2)=true from decide_eq_true t2)
   go_enter Tryz.func46,Tryz.ntmps46
   go_wp2_with fail
   refine HC.out.mono ?_
   rintro e w2 ⟨rfl,hb2⟩
   have hbb:=box_then hb2
   obtain ⟨b0,b1,b2,b3,b4⟩:=box_cells (show w2.heap[w.heap.size]? = _ from (hb2.block _ HZ.out).trans HB.out)
   have HC2:=Lib.hid (HF.out w2 (Utf8Tabs_below HU.out hbb) (HI.out.below hbb))
   clear hb2 HC
   go_wp2_with fail
   refine HC2.out.mono ?_
   rintro e w3 ⟨rfl,hb3⟩
   have hb4:=hbb.trans (hb3.mono hbb.size)
   clear hb3 HC2
   go_wp2_with fail
   go_ret
   exact ⟨by rw [HR.out,HV.out,HQ1.out,HQ2.out];rfl,hb4⟩
 have e9:(op.toList == [97,108,108])=false:=by simp [o9]
 clear o9
 by_cases o10:op.toList=[105,115]
 ·have e10:(op.toList == [105,115])=true:=by simp [o10]
  have HR:RowKit.Hid (stepF op name n kids.len kids.sorts.f kids.sorts.t=(hasB name n kids.len 0 true false && true)):=Lib.hid (by unfold stepF opF0 opF2 opFq opFr;rw [e1,e2,e3,e4,e5,e6,e7,e8,e9,e10];exact fit_named name n 0 kids.len true)
  have hcall:=HH.out 0 true false
  generalize hhv:hasB name n kids.len 0 true false=hv at hcall
  have HV:=Lib.hid hhv
  have HC:=Lib.hid hcall
  clear hcall hhv o10
  go_enter Tryz.func46,Tryz.ntmps46
  go_wp2_with fail
  refine HC.out.mono ?_
  rintro e w2 ⟨rfl,hb2⟩
  have hbb:=box_then hb2
  clear hb2 HC
  go_wp2_with fail
  go_ret
  exact ⟨by rw [HR.out,HV.out,Bool.and_true];rfl,hbb⟩
 have e10:(op.toList == [105,115])=false:=by simp [o10]
 clear o10
 by_cases o11:op.toList=[101,113]
 ·have e11:(op.toList == [101,113])=true:=by simp [o11]
  have HR:RowKit.Hid (stepF op name n kids.len kids.sorts.f kids.sorts.t=(hasB name n kids.len 2 false false && kids.sorts.t)):=Lib.hid (by unfold stepF opF0 opF2 opFq opFr;rw [e1,e2,e3,e4,e5,e6,e7,e8,e9,e10,e11];exact fit_plain name n 2 kids.len kids.sorts.t)
  have hcall:=HH.out 2 false false
  generalize hhv:hasB name n kids.len 2 false false=hv at hcall
  have HV:=Lib.hid hhv
  have HC:=Lib.hid hcall
  clear hcall hhv o11
  cases hv with
  | false =>
   have HR2:=HR.out
   rw [HV.out] at HR2
   have HR:=Lib.hid HR2
   clear HR2
   go_enter Tryz.func46,Tryz.ntmps46
   go_wp2_with fail
   refine HC.out.mono ?_
   rintro e w2 ⟨rfl,hb2⟩
   have hbb:=box_then hb2
   clear hb2 HC
   go_wp2_with fail
   go_ret
   exact ⟨by rw [HR.out];rfl,hbb⟩
  | true =>
   go_enter Tryz.func46,Tryz.ntmps46
   go_wp2_with fail
   refine HC.out.mono ?_
   rintro e w2 ⟨rfl,hb2⟩
   have hbb:=box_then hb2
   obtain ⟨b0,b1,b2,b3,b4⟩:=box_cells (show w2.heap[w.heap.size]? = _ from (hb2.block _ HZ.out).trans HB.out)
   have HC2:=Lib.hid (HTM.out w2 (Utf8Tabs_below HU.out hbb) (HI.out.below hbb))
   clear hb2 HC
   go_wp2_with fail
   refine HC2.out.mono ?_
   rintro e w3 ⟨rfl,hb3⟩
   have hb4:=hbb.trans (hb3.mono hbb.size)
   clear hb3 HC2
   go_wp2_with fail
   go_ret
   exact ⟨by rw [HR.out,HV.out];rfl,hb4⟩
 have e11:(op.toList == [101,113])=false:=by simp [o11]
 clear o11
 by_cases o12:op.toList=[110,101]
 ·have e12:(op.toList == [110,101])=true:=by simp [o12]
  have HR:RowKit.Hid (stepF op name n kids.len kids.sorts.f kids.sorts.t=(hasB name n kids.len 2 false false && kids.sorts.t)):=Lib.hid (by unfold stepF opF0 opF2 opFq opFr;rw [e1,e2,e3,e4,e5,e6,e7,e8,e9,e10,e11,e12];exact fit_plain name n 2 kids.len kids.sorts.t)
  have hcall:=HH.out 2 false false
  generalize hhv:hasB name n kids.len 2 false false=hv at hcall
  have HV:=Lib.hid hhv
  have HC:=Lib.hid hcall
  clear hcall hhv o12
  cases hv with
  | false =>
   have HR2:=HR.out
   rw [HV.out] at HR2
   have HR:=Lib.hid HR2
   clear HR2
   go_enter Tryz.func46,Tryz.ntmps46
   go_wp2_with fail
   refine HC.out.mono ?_
   rintro e w2 ⟨rfl,hb2⟩
   have hbb:=box_then hb2
   clear hb2 HC
   go_wp2_with fail
   go_ret
   exact ⟨by rw [HR.out];rfl,hbb⟩
  | true =>
   go_enter Tryz.func46,Tryz.ntmps46
   go_wp2_with fail
   refine HC.out.mono ?_
   rintro e w2 ⟨rfl,hb2⟩
   have hbb:=box_then hb2
   obtain ⟨b0,b1,b2,b3,b4⟩:=box_cells (show w2.heap[w.heap.size]? = _ from (hb2.block _ HZ.out).trans HB.out)
   have HC2:=Lib.hid (HTM.out w2 (Utf8Tabs_below HU.out hbb) (HI.out.below hbb))
   clear hb2 HC
   go_wp2_with fail
   refine HC2.out.mono ?_
   rintro e w3 ⟨rfl,hb3⟩
   have hb4:=hbb.trans (hb3.mono hbb.size)
   clear hb3 HC2
   go_wp2_with fail
   go_ret
   exact ⟨by rw [HR.out,HV.out];rfl,hb4⟩
 have e12:(op.toList == [110,101])=false:=by simp [o12]
 clear o12
 by_cases o13:op.toList=[108,116]
 ·have e13:(op.toList == [108,116])=true:=by simp [o13]
  have HR:RowKit.Hid (stepF op name n kids.len kids.sorts.f kids.sorts.t=(hasB name n kids.len 2 false false && kids.sorts.t)):=Lib.hid (by unfold stepF opF0 opF2 opFq opFr;rw [e1,e2,e3,e4,e5,e6,e7,e8,e9,e10,e11,e12,e13];exact fit_plain name n 2 kids.len kids.sorts.t)
  have hcall:=HH.out 2 false false
  generalize hhv:hasB name n kids.len 2 false false=hv at hcall
  have HV:=Lib.hid hhv
  have HC:=Lib.hid hcall
  clear hcall hhv o13
  cases hv with
  | false =>
   have HR2:=HR.out
   rw [HV.out] at HR2
   have HR:=Lib.hid HR2
   clear HR2
   go_enter Tryz.func46,Tryz.ntmps46
   go_wp2_with fail
   refine HC.out.mono ?_
   rintro e w2 ⟨rfl,hb2⟩
   have hbb:=box_then hb2
   clear hb2 HC
   go_wp2_with fail
   go_ret
   exact ⟨by rw [HR.out];rfl,hbb⟩
  | true =>
   go_enter Tryz.func46,Tryz.ntmps46
   go_wp2_with fail
   refine HC.out.mono ?_
   rintro e w2 ⟨rfl,hb2⟩
   have hbb:=box_then hb2
   obtain ⟨b0,b1,b2,b3,b4⟩:=box_cells (show w2.heap[w.heap.size]? = _ from (hb2.block _ HZ.out).trans HB.out)
   have HC2:=Lib.hid (HTM.out w2 (Utf8Tabs_below HU.out hbb) (HI.out.below hbb))
   clear hb2 HC
   go_wp2_with fail
   refine HC2.out.mono ?_
   rintro e w3 ⟨rfl,hb3⟩
   have hb4:=hbb.trans (hb3.mono hbb.size)
   clear hb3 HC2
   go_wp2_with fail
   go_ret
   exact ⟨by rw [HR.out,HV.out];rfl,hb4⟩
 have e13:(op.toList == [108,116])=false:=by simp [o13]
 clear o13
 by_cases o14:op.toList=[108,101]
 ·have e14:(op.toList == [108,101])=true:=by simp [o14]
  have HR:RowKit.Hid (stepF op name n kids.len kids.sorts.f kids.sorts.t=(hasB name n kids.len 2 false false && kids.sorts.t)):=Lib.hid (by unfold stepF opF0 opF2 opFq opFr;rw [e1,e2,e3,e4,e5,e6,e7,e8,e9,e10,e11,e12,e13,e14];exact fit_plain name n 2 kids.len kids.sorts.t)
  have hcall:=HH.out 2 false false
  generalize hhv:hasB name n kids.len 2 false false=hv at hcall
  have HV:=Lib.hid hhv
  have HC:=Lib.hid hcall
  clear hcall hhv o14
  cases hv with
  | false =>
   have HR2:=HR.out
   rw [HV.out] at HR2
   have HR:=Lib.hid HR2
   clear HR2
   go_enter Tryz.func46,Tryz.ntmps46
   go_wp2_with fail
   refine HC.out.mono ?_
   rintro e w2 ⟨rfl,hb2⟩
   have hbb:=box_then hb2
   clear hb2 HC
   go_wp2_with fail
   go_ret
   exact ⟨by rw [HR.out];rfl,hbb⟩
  | true =>
   go_enter Tryz.func46,Tryz.ntmps46
   go_wp2_with fail
   refine HC.out.mono ?_
   rintro e w2 ⟨rfl,hb2⟩
   have hbb:=box_then hb2
   obtain ⟨b0,b1,b2,b3,b4⟩:=box_cells (show w2.heap[w.heap.size]? = _ from (hb2.block _ HZ.out).trans HB.out)
   have HC2:=Lib.hid (HTM.out w2 (Utf8Tabs_below HU.out hbb) (HI.out.below hbb))
   clear hb2 HC
   go_wp2_with fail
   refine HC2.out.mono ?_
   rintro e w3 ⟨rfl,hb3⟩
   have hb4:=hbb.trans (hb3.mono hbb.size)
   clear hb3 HC2
   go_wp2_with fail
   go_ret
   exact ⟨by rw [HR.out,HV.out];rfl,hb4⟩
 have e14:(op.toList == [108,101])=false:=by simp [o14]
 clear o14
 by_cases o15:op.toList=[105,110]
 ·have e15:(op.toList == [105,110])=true:=by simp [o15]
  have HR:RowKit.Hid (stepF op name n kids.len kids.sorts.f kids.sorts.t=(hasB name n kids.len 2 false false && kids.sorts.t)):=Lib.hid (by unfold stepF opF0 opF2 opFq opFr;rw [e1,e2,e3,e4,e5,e6,e7,e8,e9,e10,e11,e12,e13,e14,e15];exact fit_plain name n 2 kids.len kids.sorts.t)
  have hcall:=HH.out 2 false false
  generalize hhv:hasB name n kids.len 2 false false=hv at hcall
  have HV:=Lib.hid hhv
  have HC:=Lib.hid hcall
  clear hcall hhv o15
  cases hv with
  | false =>
   have HR2:=HR.out
   rw [HV.out] at HR2
   have HR:=Lib.hid HR2
   clear HR2
   go_enter Tryz.func46,Tryz.ntmps46
   go_wp2_with fail
   refine HC.out.mono ?_
   rintro e w2 ⟨rfl,hb2⟩
   have hbb:=box_then hb2
   clear hb2 HC
   go_wp2_with fail
   go_ret
   exact ⟨by rw [HR.out];rfl,hbb⟩
  | true =>
   go_enter Tryz.func46,Tryz.ntmps46
   go_wp2_with fail
   refine HC.out.mono ?_
   rintro e w2 ⟨rfl,hb2⟩
   have hbb:=box_then hb2
   obtain ⟨b0,b1,b2,b3,b4⟩:=box_cells (show w2.heap[w.heap.size]? = _ from (hb2.block _ HZ.out).trans HB.out)
   have HC2:=Lib.hid (HTM.out w2 (Utf8Tabs_below HU.out hbb) (HI.out.below hbb))
   clear hb2 HC
   go_wp2_with fail
   refine HC2.out.mono ?_
   rintro e w3 ⟨rfl,hb3⟩
   have hb4:=hbb.trans (hb3.mono hbb.size)
   clear hb3 HC2
   go_wp2_with fail
   go_ret
   exact ⟨by rw [HR.out,HV.out];rfl,hb4⟩
 have e15:(op.toList == [105,110])=false:=by simp [o15]
 clear o15
 by_cases o16:op.toList=[110,111,116,105,110]
 ·have e16:(op.toList == [110,111,116,105,110])=true:=by simp [o16]
  have HR:RowKit.Hid (stepF op name n kids.len kids.sorts.f kids.sorts.t=(hasB name n kids.len 2 false false && kids.sorts.t)):=Lib.hid (by unfold stepF opF0 opF2 opFq opFr;rw [e1,e2,e3,e4,e5,e6,e7,e8,e9,e10,e11,e12,e13,e14,e15,e16];exact fit_plain name n 2 kids.len kids.sorts.t)
  have hcall:=HH.out 2 false false
  generalize hhv:hasB name n kids.len 2 false false=hv at hcall
  have HV:=Lib.hid hhv
  have HC:=Lib.hid hcall
  clear hcall hhv o16
  cases hv with
  | false =>
   have HR2:=HR.out
   rw [HV.out] at HR2
   have HR:=Lib.hid HR2
   clear HR2
   go_enter Tryz.func46,Tryz.ntmps46
   go_wp2_with fail
   refine HC.out.mono ?_
   rintro e w2 ⟨rfl,hb2⟩
   have hbb:=box_then hb2
   clear hb2 HC
   go_wp2_with fail
   go_ret
   exact ⟨by rw [HR.out];rfl,hbb⟩
  | true =>
   go_enter Tryz.func46,Tryz.ntmps46
   go_wp2_with fail
   refine HC.out.mono ?_
   rintro e w2 ⟨rfl,hb2⟩
   have hbb:=box_then hb2
   obtain ⟨b0,b1,b2,b3,b4⟩:=box_cells (show w2.heap[w.heap.size]? = _ from (hb2.block _ HZ.out).trans HB.out)
   have HC2:=Lib.hid (HTM.out w2 (Utf8Tabs_below HU.out hbb) (HI.out.below hbb))
   clear hb2 HC
   go_wp2_with fail
   refine HC2.out.mono ?_
   rintro e w3 ⟨rfl,hb3⟩
   have hb4:=hbb.trans (hb3.mono hbb.size)
   clear hb3 HC2
   go_wp2_with fail
   go_ret
   exact ⟨by rw [HR.out,HV.out];rfl,hb4⟩
 have e16:(op.toList == [110,111,116,105,110])=false:=by simp [o16]
 clear o16
 by_cases o17:op.toList=[115,117,98]
 ·have e17:(op.toList == [115,117,98])=true:=by simp [o17]
  have HR:RowKit.Hid (stepF op name n kids.len kids.sorts.f kids.sorts.t=(hasB name n kids.len 2 false false && kids.sorts.t)):=Lib.hid (by unfold stepF opF0 opF2 opFq opFr;rw [e1,e2,e3,e4,e5,e6,e7,e8,e9,e10,e11,e12,e13,e14,e15,e16,e17];exact fit_plain name n 2 kids.len kids.sorts.t)
  have hcall:=HH.out 2 false false
  generalize hhv:hasB name n kids.len 2 false false=hv at hcall
  have HV:=Lib.hid hhv
  have HC:=Lib.hid hcall
  clear hcall hhv o17
  cases hv with
  | false =>
   have HR2:=HR.out
   rw [HV.out] at HR2
   have HR:=Lib.hid HR2
   clear HR2
   go_enter Tryz.func46,Tryz.ntmps46
   go_wp2_with fail
   refine HC.out.mono ?_
   rintro e w2 ⟨rfl,hb2⟩
   have hbb:=box_then hb2
   clear hb2 HC
   go_wp2_with fail
   go_ret
   exact ⟨by rw [HR.out];rfl,hbb⟩
  | true =>
   go_enter Tryz.func46,Tryz.ntmps46
   go_wp2_with fail
   refine HC.out.mono ?_
   rintro e w2 ⟨rfl,hb2⟩
   have hbb:=box_then hb2
   obtain ⟨b0,b1,b2,b3,b4⟩:=box_cells (show w2.heap[w.heap.size]? = _ from (hb2.block _ HZ.out).trans HB.out)
   have HC2:=Lib.hid (HTM.out w2 (Utf8Tabs_below HU.out hbb) (HI.out.below hbb))
   clear hb2 HC
   go_wp2_with fail
   refine HC2.out.mono ?_
   rintro e w3 ⟨rfl,hb3⟩
   have hb4:=hbb.trans (hb3.mono hbb.size)
   clear hb3 HC2
   go_wp2_with fail
   go_ret
   exact ⟨by rw [HR.out,HV.out];rfl,hb4⟩
 have e17:(op.toList == [115,117,98])=false:=by simp [o17]
 clear o17
 by_cases o18:op.toList=[99,97,108,108]
 ·have e18:(op.toList == [99,97,108,108])=true:=by simp [o18]
  have HR:RowKit.Hid (stepF op name n kids.len kids.sorts.f kids.sorts.t=(hasB name n kids.len kids.len true false && decide ((kids.len:Int)≤6) && kids.sorts.t)):=Lib.hid (by unfold stepF opF0 opF2 opFq opFr;rw [e1,e2,e3,e4,e5,e6,e7,e8,e9,e10,e11,e12,e13,e14,e15,e16,e17,e18];exact fit_call name n kids.len kids.sorts.t true)
  have hcall:=HH.out kids.len true false
  generalize hhv:hasB name n kids.len kids.len true false=hv at hcall
  have HV:=Lib.hid hhv
  have HC:=Lib.hid hcall
  clear hcall hhv o18
  cases hv with
  | false =>
   have HR2:=HR.out
   rw [HV.out] at HR2
   have HR:=Lib.hid HR2
   clear HR2
   go_enter Tryz.func46,Tryz.ntmps46
   go_wp2_with fail
   refine HC.out.mono ?_
   rintro e w2 ⟨rfl,hb2⟩
   have hbb:=box_then hb2
   clear hb2 HC
   go_wp2_with fail
   go_ret
   exact ⟨by rw [HR.out];rfl,hbb⟩
  | true =>
   by_cases t1:(kids.len:Int)≤6
   case neg =>
    have HQ1:=Lib.hid (show decide ((kids.len:Int)≤6)=false from decide_eq_false t1)
    go_enter Tryz.func46,Tryz.ntmps46
    go_wp2_with fail
    refine HC.out.mono ?_
    rintro e w2 ⟨rfl,hb2⟩
    have hbb:=box_then hb2
    obtain ⟨b0,b1,b2,b3,b4⟩:=box_cells (show w2.heap[w.heap.size]? = _ from (hb2.block _ HZ.out).trans HB.out)
    clear hb2 HC
    go_wp2_with fail
    go_ret
    exact ⟨by rw [HR.out,HV.out,HQ1.out];rfl,hbb⟩
   have HQ1:=Lib.hid (show decide ((kids.len:Int)≤6)=true from decide_eq_true t1)
   go_enter Tryz.func46,Tryz.ntmps46
   go_wp2_with fail
   refine HC.out.mono ?_
   rintro e w2 ⟨rfl,hb2⟩
   have hbb:=box_then hb2
   obtain ⟨b0,b1,b2,b3,b4⟩:=box_cells (show w2.heap[w.heap.size]? = _ from (hb2.block _ HZ.out).trans HB.out)
   have HC2:=Lib.hid (HTM.out w2 (Utf8Tabs_below HU.out hbb) (HI.out.below hbb))
   clear hb2 HC
   go_wp2_with fail
   refine HC2.out.mono ?_
   rintro e w3 ⟨rfl,hb3⟩
   have hb4:=hbb.trans (hb3.mono hbb.size)
   clear hb3 HC2
   go_wp2_with fail
   go_ret
   exact ⟨by rw [HR.out,HV.out,HQ1.out];rfl,hb4⟩
 have e18:(op.toList == [99,97,108,108])=false:=by simp [o18]
 clear o18
 have HR:RowKit.Hid (stepF op name n kids.len kids.sorts.f kids.sorts.t=false):=Lib.hid (by unfold stepF opF0 opF2 opFq opFr;rw [e1,e2,e3,e4,e5,e6,e7,e8,e9,e10,e11,e12,e13,e14,e15,e16,e17,e18];rfl)
 go_enter Tryz.func46,Tryz.ntmps46
 go_wp2_with fail
 go_ret
 exact ⟨by rw [HR.out];rfl,below_box _ _⟩
theorem fit_num (name:ByteArray) (n ln mn m:Int) (len:Nat) (all:Bool):fitB false name ln mn n m m len all=(hasB name n len m false true && decide (ln≤n) && decide (n≤mn) && all):=by
 unfold fitB hasB
 have h2:(decide (m≤(len:Int)) && decide ((len:Int)≤m))=decide ((len:Int)=m):=by
  by_cases h:(len:Int)=m
  ·rw [decide_eq_true h,decide_eq_true (by omega),decide_eq_true (by omega)];rfl
  ·rw [decide_eq_false h]
   by_cases h2:m≤(len:Int)
   ·rw [show decide ((len:Int)≤m)=false from decide_eq_false (by omega),Bool.and_false]
   ·rw [decide_eq_false h2,Bool.false_and]
 rw [Bool.and_assoc (decide (ln≤n) && decide (n≤mn)),h2]
 cases (name.toList == []) <;> cases decide (ln≤n) <;> cases decide (n≤mn) <;> cases decide ((len:Int)=m) <;> cases all <;> rfl
def notSet (T:Nd):Bool:=!(T.op.toList == [115,101,116]) && !isJoin T.op
theorem sorts_plain (F:Fo):F.sorts.n=(F.allB notSet && F.sorts.t):=by
 induction F with
 | nil=>rfl
 | cons op name n pos a cap kids rest ihk ihr =>
  show (!(op.toList == [115,101,116]) && !isJoin op && _ && rest.sorts.n)=((!(op.toList == [115,101,116]) && !isJoin op && rest.allB notSet) && (_ && rest.sorts.t))
  rw [ihr]
  cases (op.toList == [115,101,116]) <;> cases isJoin op <;> cases rest.allB notSet <;> cases rest.sorts.t <;> simp
set_option maxRecDepth 100000 in
set_option maxHeartbeats 64000000 in
theorem rterm_of (T:Nd) (hkT:Fo.All SayRT T.kids):SayRT T:=by
 intro w hU hin hsz
 have hTm:=fun W h1 h2=>terms_any T W h1 h2 hsz hkT
 have hns:=hsz.1
 have hks:=hsz.2
 obtain ⟨op,name,n,pos,a,cap,kids⟩:=T
 have hc5:=cellsNode
 have hns:name.size≤140737488351232:=hns
 have hTm:∀ W,UT W→Nd.In W ⟨op,name,n,pos,a,cap,kids⟩→Calls Tryz.prog 90 #[.agg #[.string op,.string name,.int .i64 n,.int .i64 pos,.slice a kids.len cap]] W fun e w'=>e=.returned (.bool kids.sorts.t)∧Below W.heap.size W w':=hTm
 have HTM:=Lib.hid hTm
 have HU:=Lib.hid hU
 have HI:=Lib.hid hin
 have HK:=Lib.hid hkT
 have HKS:=Lib.hid hks
 have HB:=Lib.hid (new_at w (boxOf op name n pos a kids.len cap))
 have HZ:=Lib.hid (lt_heap HB.out)
 have hh:=fun m nm num W hb=>rhas_any op name n pos a kids.len cap m nm num W (Utf8Tabs_below hU (hb:Below w.heap.size w W)) hns
 have HH:=Lib.hid hh
 show Calls _ _ _ w fun e w'=>e=.returned (.bool (stepT op name n kids.len kids.sorts.t kids.sorts.v kids.sorts.n kids.second))∧_
 clear hkT hTm hU hin hh hsz hns hks
 rw [Nd.val_def]
 by_cases o1:op.toList=[118,97,114]
 ·have e1:(op.toList == [118,97,114])=true:=by simp [o1]
  have HR:RowKit.Hid (stepT op name n kids.len kids.sorts.t kids.sorts.v kids.sorts.n kids.second=(hasB name n kids.len 0 true false && true)):=Lib.hid (by unfold stepT;rw [e1];exact fit_named name n 0 kids.len true)
  clear o1
  have hcall:=HH.out 0 true false (w.alloc (boxOf op name n pos a kids.len cap)) (below_box _ _)
  generalize hhv:hasB name n kids.len 0 true false=hv at hcall
  have HV:=Lib.hid hhv
  have HC:=Lib.hid hcall
  clear hcall hhv
  go_enter Tryz.func108,Tryz.ntmps108
  go_wp2_with fail
  refine HC.out.mono ?_
  rintro e w2 ⟨rfl,hb2⟩
  have hbb:=box_then hb2
  clear hb2 HC
  go_wp2_with fail
  go_ret
  exact ⟨by rw [HR.out,HV.out,Bool.and_true];rfl,hbb⟩
 have e1:(op.toList == [118,97,114])=false:=by simp [o1]
 clear o1
 by_cases o2:op.toList=[110,117,109]
 ·have e2:(op.toList == [110,117,109])=true:=by simp [o2]
  have HR:RowKit.Hid (stepT op name n kids.len kids.sorts.t kids.sorts.v kids.sorts.n kids.second=(hasB name n kids.len 0 false true && decide (0≤n) && decide (n≤99) && true)):=Lib.hid (by unfold stepT;rw [e1,e2];exact fit_num name n 0 99 0 kids.len true)
  clear o2
  have hcall:=HH.out 0 false true (w.alloc (boxOf op name n pos a kids.len cap)) (below_box _ _)
  generalize hhv:hasB name n kids.len 0 false true=hv at hcall
  have HV:=Lib.hid hhv
  have HC:=Lib.hid hcall
  clear hcall hhv
  cases hv with
  | false =>
   have HR2:=HR.out
   rw [HV.out] at HR2
   have HR:=Lib.hid HR2
   clear HR2
   go_enter Tryz.func108,Tryz.ntmps108
   go_wp2_with fail
   refine HC.out.mono ?_
   rintro e w2 ⟨rfl,hb2⟩
   have hbb:=box_then hb2
   clear hb2 HC
   go_wp2_with fail
   go_ret
   exact ⟨by rw [HR.out];rfl,hbb⟩
  | true =>
   by_cases t1:0≤n
   case neg =>
    have HQ1:=Lib.hid (show decide (0≤n)=false from decide_eq_false t1)
    go_enter Tryz.func108,Tryz.ntmps108
    go_wp2_with fail
    refine HC.out.mono ?_
    rintro e w2 ⟨rfl,hb2⟩
    have hbb:=box_then hb2
    obtain ⟨b0,b1,b2,b3,b4⟩:=box_cells (show w2.heap[w.heap.size]? = _ from (hb2.block _ HZ.out).trans HB.out)
    clear hb2 HC
    go_wp2_with fail
    go_ret
    exact ⟨by rw [HR.out,HV.out,HQ1.out];rfl,hbb⟩
   have HQ1:=Lib.hid (show decide (0≤n)=true from decide_eq_true t1)
   by_cases t2:n≤99
   case neg =>
    have HQ2:=Lib.hid (show decide (n≤99)=false from decide_eq_false t2)
    go_enter Tryz.func108,Tryz.ntmps108
    go_wp2_with fail
    refine HC.out.mono ?_
    rintro e w2 ⟨rfl,hb2⟩
    have hbb:=box_then hb2
    obtain ⟨b0,b1,b2,b3,b4⟩:=box_cells (show w2.heap[w.heap.size]? = _ from (hb2.block _ HZ.out).trans HB.out)
    clear hb2 HC
    go_wp2_with fail
    go_ret
    exact ⟨by rw [HR.out,HV.out,HQ1.out,HQ2.out];rfl,hbb⟩
   have HQ2:=Lib.hid (show decide (n≤99)=true from decide_eq_true t2)
   go_enter Tryz.func108,Tryz.ntmps108
   go_wp2_with fail
   refine HC.out.mono ?_
   rintro e w2 ⟨rfl,hb2⟩
   have hbb:=box_then hb2
   obtain ⟨b0,b1,b2,b3,b4⟩:=box_cells (show w2.heap[w.heap.size]? = _ from (hb2.block _ HZ.out).trans HB.out)
   clear hb2 HC
   go_wp2_with fail
   go_ret
   exact ⟨by rw [HR.out,HV.out,HQ1.out,HQ2.out];rfl,hbb⟩
 have e2:(op.toList == [110,117,109])=false:=by simp [o2]
 clear o2
 by_cases o3:op.toList=[112,108,117,115]
 ·have e3:(op.toList == [112,108,117,115])=true:=by simp [o3]
  have HR:RowKit.Hid (stepT op name n kids.len kids.sorts.t kids.sorts.v kids.sorts.n kids.second=(hasB name n kids.len 1 false true && decide (1≤n) && decide (n≤99) && kids.sorts.v)):=Lib.hid (by unfold stepT;rw [e1,e2,e3];exact fit_num name n 1 99 1 kids.len kids.sorts.v)
  clear o3
  have hcall:=HH.out 1 false true (w.alloc (boxOf op name n pos a kids.len cap)) (below_box _ _)
  generalize hhv:hasB name n kids.len 1 false true=hv at hcall
  have HV:=Lib.hid hhv
  have HC:=Lib.hid hcall
  clear hcall hhv
  cases hv with
  | false =>
   have HR2:=HR.out
   rw [HV.out] at HR2
   have HR:=Lib.hid HR2
   clear HR2
   go_enter Tryz.func108,Tryz.ntmps108
   go_wp2_with fail
   refine HC.out.mono ?_
   rintro e w2 ⟨rfl,hb2⟩
   have hbb:=box_then hb2
   clear hb2 HC
   go_wp2_with fail
   go_ret
   exact ⟨by rw [HR.out];rfl,hbb⟩
  | true =>
   by_cases t1:1≤n
   case neg =>
    have HQ1:=Lib.hid (show decide (1≤n)=false from decide_eq_false t1)
    go_enter Tryz.func108,Tryz.ntmps108
    go_wp2_with fail
    refine HC.out.mono ?_
    rintro e w2 ⟨rfl,hb2⟩
    have hbb:=box_then hb2
    obtain ⟨b0,b1,b2,b3,b4⟩:=box_cells (show w2.heap[w.heap.size]? = _ from (hb2.block _ HZ.out).trans HB.out)
    clear hb2 HC
    go_wp2_with fail
    go_ret
    exact ⟨by rw [HR.out,HV.out,HQ1.out];rfl,hbb⟩
   have HQ1:=Lib.hid (show decide (1≤n)=true from decide_eq_true t1)
   by_cases t2:n≤99
   case neg =>
    have HQ2:=Lib.hid (show decide (n≤99)=false from decide_eq_false t2)
    go_enter Tryz.func108,Tryz.ntmps108
    go_wp2_with fail
    refine HC.out.mono ?_
    rintro e w2 ⟨rfl,hb2⟩
    have hbb:=box_then hb2
    obtain ⟨b0,b1,b2,b3,b4⟩:=box_cells (show w2.heap[w.heap.size]? = _ from (hb2.block _ HZ.out).trans HB.out)
    clear hb2 HC
    go_wp2_with fail
    go_ret
    exact ⟨by rw [HR.out,HV.out,HQ1.out,HQ2.out];rfl,hbb⟩
   have HQ2:=Lib.hid (show decide (n≤99)=true from decide_eq_true t2)
   have hlen:kids.len=1:=by
    have h:=HV.out
    unfold hasB at h
    simp only [Bool.and_eq_true,decide_eq_true_eq] at h
    omega
   have HL:=Lib.hid hlen
   clear hlen
   obtain ⟨kb,ko,hab,hlim,hpos,hkin⟩:∃ b o,a=some ⟨b,o,none⟩∧kids.len≤140737488351232∧(0 < kids.len∧w.frozen? ⟨b,o,none⟩=false)∧kids.In w b o:=by
    rcases HI.out with h | h
    ·have h':kids=.nil:=h
     have:=HL.out
     rw [h'] at this
     cases this
    ·exact h
   subst hab
   obtain ⟨op1,name1,n1,pos1,a1,cap1,kids1,hkk⟩:∃ op1 name1 n1 pos1 a1 cap1 kids1,kids=.cons op1 name1 n1 pos1 a1 cap1 kids1 .nil:=by
    have h2:=HL.out
    cases kids with
    | nil=>cases h2
    | cons op1 name1 n1 pos1 a1 cap1 kids1 r =>
     cases r with
     | nil=>exact ⟨_,_,_,_,_,_,_,rfl⟩
     | cons=>simp [Fo.len] at h2
   have hn1:NodeAt w kb ko op1 name1 n1 pos1 a1 kids1.len cap1∧Nd.In w ⟨op1,name1,n1,pos1,a1,cap1,kids1⟩∧SayRT ⟨op1,name1,n1,pos1,a1,cap1,kids1⟩∧Nd.sized ⟨op1,name1,n1,pos1,a1,cap1,kids1⟩:=by
    have h1:=HK.out
    have h2:=HKS.out
    have h1:Fo.All SayRT kids:=h1
    have h2:kids.sized:=h2
    rw [hkk] at hkin h1 h2
    exact ⟨hkin.1,hkin.2.1,h1.1,h2.1,h2.2.1⟩
   have HV1:RowKit.Hid (kids.sorts.v=((op1.toList == [118,97,114]) && Nd.okT ⟨op1,name1,n1,pos1,a1,cap1,kids1⟩)):=Lib.hid (by rw [hkk,sorts_v];show ((_ && _) && true)=_;rw [Bool.and_true])
   have HN1:=Lib.hid hn1
   clear hkin hkk hn1 hpos
   by_cases ov:op1.toList=[118,97,114]
   case neg =>
    have ev:(op1.toList == [118,97,114])=false:=by simp [ov]
    have HR3:=Lib.hid (show stepT op name n kids.len kids.sorts.t kids.sorts.v kids.sorts.n kids.second=false from by rw [HR.out,HV1.out,ev];simp)
    clear ov
    go_enter Tryz.func108,Tryz.ntmps108
    go_wp2_with fail
    refine HC.out.mono ?_
    rintro e w2 ⟨rfl,hb2⟩
    have hbb:=box_then hb2
    obtain ⟨b0,b1,b2,b3,b4⟩:=box_cells (show w2.heap[w.heap.size]? = _ from (hb2.block _ HZ.out).trans HB.out)
    obtain ⟨c0,c1,c2,c3,c4⟩:=HN1.out.1.below hbb
    rw [HL.out] at b4
    clear hb2 HC
    go_wp2_with fail
    go_ret
    exact ⟨by rw [HR3.out];rfl,hbb⟩
   have ev:(op1.toList == [118,97,114])=true:=by simp [ov]
   have HR3:=Lib.hid (show stepT op name n kids.len kids.sorts.t kids.sorts.v kids.sorts.n kids.second=Nd.okT ⟨op1,name1,n1,pos1,a1,cap1,kids1⟩ from by rw [HR.out,HV1.out,ev,HV.out,HQ1.out,HQ2.out];rfl)
   clear ov
   go_enter Tryz.func108,Tryz.ntmps108
   go_wp2_with fail
   refine HC.out.mono ?_
   rintro e w2 ⟨rfl,hb2⟩
   have hbb:=box_then hb2
   obtain ⟨b0,b1,b2,b3,b4⟩:=box_cells (show w2.heap[w.heap.size]? = _ from (hb2.block _ HZ.out).trans HB.out)
   obtain ⟨c0,c1,c2,c3,c4⟩:=HN1.out.1.below hbb
   rw [HL.out] at b4
   have hcall:=HN1.out.2.2.1 w2 (Utf8Tabs_below HU.out hbb) (HN1.out.2.1.below hbb) HN1.out.2.2.2
   rw [Nd.val_def] at hcall
   have HC2:=Lib.hid hcall
   clear hb2 HC hcall
   go_wp2_with fail
   refine HC2.out.mono ?_
   rintro e w3 ⟨rfl,hb3⟩
   have hb4:=hbb.trans (hb3.mono hbb.size)
   clear hb3 HC2
   go_wp2_with fail
   go_ret
   exact ⟨by rw [HR3.out];rfl,hb4⟩
 have e3:(op.toList == [112,108,117,115])=false:=by simp [o3]
 clear o3
 by_cases o4:op.toList=[115,101,116]
 ·have e4:(op.toList == [115,101,116])=true:=by simp [o4]
  have HR:RowKit.Hid (stepT op name n kids.len kids.sorts.t kids.sorts.v kids.sorts.n kids.second=(hasB name n kids.len kids.len false false && decide ((kids.len:Int)≤6) && (kids.allB notSet && kids.sorts.t))):=Lib.hid (by unfold stepT;rw [e1,e2,e3,e4];exact (fit_call name n kids.len kids.sorts.n false).trans (by rw [sorts_plain]))
  clear o4
  rcases HI.out with hnil | ⟨kb,ko,hab,hlim,hpos,hkin⟩
  ·obtain rfl:kids=.nil:=hnil
   have hz0:¬ ((0:Int) < ((Fo.nil.len:Nat):Int)):=by show ¬ ((0:Int) < ((0:Nat):Int));omega
   go_enter Tryz.func108,Tryz.ntmps108
   go_wp2_with fail
   go_loopw [3] (fun i wr=>i=.int .i64 0∧RowKit.Hid (wr.heap[w.heap.size]? = some (boxOf op name n pos a Fo.nil.len cap))∧Below w.heap.size w wr) (fun _ _=>0)
   case atStart=>exact ⟨rfl,HB,below_box _ _⟩
   case round =>
    obtain ⟨rfl,HX,hbx⟩:=hrel
    obtain ⟨b0,b1,b2,b3,b4⟩:=box_cells HX.out
    have HALL:RowKit.Hid (Fo.nil.allB notSet=true):=Lib.hid rfl
    have hbW:=hbx
    by_cases hvv:hasB name n Fo.nil.len Fo.nil.len false false=true
    case neg =>
     have hvf:hasB name n Fo.nil.len Fo.nil.len false false=false:=by simpa using hvv
     have HR3:=Lib.hid (show stepT op name n Fo.nil.len Fo.nil.sorts.t Fo.nil.sorts.v Fo.nil.sorts.n Fo.nil.second=false from by rw [HR.out,hvf];rfl)
     have hcall:=HH.out Fo.nil.len false false wr hbx
     rw [hvf] at hcall
     have HC:=Lib.hid hcall
     clear hcall hvv hvf
     go_wp2_with fail
     refine HC.out.mono ?_
     rintro e w2 ⟨rfl,hb2⟩
     have hbb:=hbx.trans (hb2.mono hbx.size)
     clear hb2 HC
     go_wp2_with fail
     go_ret
     exact ⟨by rw [HR3.out];rfl,hbb⟩
    have hcall:=HH.out Fo.nil.len false false wr hbx
    rw [hvv] at hcall
    have HVV:=Lib.hid hvv
    have HC:=Lib.hid hcall
    clear hcall hvv
    have h6:(Fo.nil.len:Int)≤6:=by show ((0:Nat):Int)≤6;omega
    have HR3:=Lib.hid (show stepT op name n Fo.nil.len Fo.nil.sorts.t Fo.nil.sorts.v Fo.nil.sorts.n Fo.nil.second=Fo.nil.sorts.t from by rw [HR.out,HVV.out,decide_eq_true h6,HALL.out];rfl)
    go_wp2_with fail
    refine HC.out.mono ?_
    rintro e w2 ⟨rfl,hb2⟩
    have hbb:=hbx.trans (hb2.mono hbx.size)
    clear b0 b1 b2 b3 b4
    obtain ⟨b0,b1,b2,b3,b4⟩:=box_cells (show w2.heap[w.heap.size]? = _ from (hb2.block _ (lt_heap HX.out)).trans HX.out)
    have HC2:=Lib.hid (HTM.out w2 (Utf8Tabs_below HU.out hbb) (HI.out.below hbb))
    clear hb2 HC
    go_wp2_with fail
    refine HC2.out.mono ?_
    rintro e w3 ⟨rfl,hb3⟩
    have hb4:=hbb.trans (hb3.mono hbb.size)
    clear hb3 HC2
    go_wp2_with fail
    go_ret
    exact ⟨by rw [HR3.out];rfl,hb4⟩
  ·obtain rfl:a=some ⟨kb,ko,none⟩:=hab
   have hlim:kids.len≤140737488351232:=hlim
   have HST:=Lib.hid (Tail.start hkin HK.out)
   clear hkin hpos
   go_enter Tryz.func108,Tryz.ntmps108
   go_wp2_with fail
   go_loopw [3] (fun i wr=>∃ (k:Nat) (R:Fo),i=.int .i64 k∧RowKit.Hid (Tail wr SayRT kids R kb ko k)∧RowKit.Hid (kids.allB notSet=R.allB notSet)∧RowKit.Hid (wr.heap[w.heap.size]? = some (boxOf op name n pos (some ⟨kb,ko,none⟩) kids.len cap))∧Below w.heap.size w wr) (fun i _=>kids.len - (intOf i).toNat)
   case atStart=>exact ⟨0,kids,rfl,Lib.hid (HST.out.below (below_box _ _)),Lib.hid rfl,HB,below_box _ _⟩
   case round =>
    obtain ⟨k,R,rfl,HTL,HAL,HX,hbx⟩:=hrel
    obtain ⟨b0,b1,b2,b3,b4⟩:=box_cells HX.out
    cases R with
    | nil =>
     have hkl:k=kids.len:=by have:=HTL.out.len;simpa [Fo.len] using this
     have HALL:RowKit.Hid (kids.allB notSet=true):=Lib.hid (by rw [HAL.out];rfl)
     subst hkl
     have hbW:=hbx
     by_cases hvv:hasB name n kids.len kids.len false false=true
     case neg =>
      have hvf:hasB name n kids.len kids.len false false=false:=by simpa using hvv
      have HR3:=Lib.hid (show stepT op name n kids.len kids.sorts.t kids.sorts.v kids.sorts.n kids.second=false from by rw [HR.out,hvf];rfl)
      have hcall:=HH.out kids.len false false wr hbx
      rw [hvf] at hcall
      have HC:=Lib.hid hcall
      clear hcall hvv hvf
      go_wp2_with fail
      refine HC.out.mono ?_
      rintro e w2 ⟨rfl,hb2⟩
      have hbb:=hbx.trans (hb2.mono hbx.size)
      clear hb2 HC
      go_wp2_with fail
      go_ret
      exact ⟨by rw [HR3.out];rfl,hbb⟩
     have hcall:=HH.out kids.len false false wr hbx
     rw [hvv] at hcall
     have HVV:=Lib.hid hvv
     have HC:=Lib.hid hcall
     clear hcall hvv
     by_cases h6:(kids.len:Int)≤6
     case neg =>
      have HR3:=Lib.hid (show stepT op name n kids.len kids.sorts.t kids.sorts.v kids.sorts.n kids.second=false from by rw [HR.out,HVV.out,decide_eq_false h6];rfl)
      go_wp2_with fail
      refine HC.out.mono ?_
      rintro e w2 ⟨rfl,hb2⟩
      have hbb:=hbx.trans (hb2.mono hbx.size)
      clear b0 b1 b2 b3 b4
      obtain ⟨b0,b1,b2,b3,b4⟩:=box_cells (show w2.heap[w.heap.size]? = _ from (hb2.block _ (lt_heap HX.out)).trans HX.out)
      clear hb2 HC
      go_wp2_with fail
      go_ret
      exact ⟨by rw [HR3.out];rfl,hbb⟩
     have HR3:=Lib.hid (show stepT op name n kids.len kids.sorts.t kids.sorts.v kids.sorts.n kids.second=kids.sorts.t from by rw [HR.out,HVV.out,decide_eq_true h6,HALL.out];rfl)
     go_wp2_with fail
     refine HC.out.mono ?_
     rintro e w2 ⟨rfl,hb2⟩
     have hbb:=hbx.trans (hb2.mono hbx.size)
     clear b0 b1 b2 b3 b4
     obtain ⟨b0,b1,b2,b3,b4⟩:=box_cells (show w2.heap[w.heap.size]? = _ from (hb2.block _ (lt_heap HX.out)).trans HX.out)
     have HC2:=Lib.hid (HTM.out w2 (Utf8Tabs_below HU.out hbb) (HI.out.below hbb))
     clear hb2 HC
     go_wp2_with fail
     refine HC2.out.mono ?_
     rintro e w3 ⟨rfl,hb3⟩
     have hb4:=hbb.trans (hb3.mono hbb.size)
     clear hb3 HC2
     go_wp2_with fail
     go_ret
     exact ⟨by rw [HR3.out];rfl,hb4⟩
    | cons op1 name1 n1 pos1 a1 cap1 kids1 rest =>
     obtain ⟨hnode,hin1,hP,hkl,hnext⟩:=HTL.out.next
     have hkl2:(k:Int) < kids.len:=by omega
     obtain ⟨c0,c1,c2,c3,c4⟩:=hnode
     have HND:=Lib.hid (show NodeAt wr kb (ko+k * 5) op1 name1 n1 pos1 a1 kids1.len cap1 from ⟨c0,c1,c2,c3,c4⟩)
     have HN1:=Lib.hid hnext
     have HCL:=Lib.hid (set_any op1 name1 n1 pos1 a1 kids1.len cap1 wr)
     clear hnext hin1 hP HTL
     by_cases hj:isJoin op1=true
     ·have HR3:=Lib.hid (show stepT op name n kids.len kids.sorts.t kids.sorts.v kids.sorts.n kids.second=false from by rw [HR.out,HAL.out];show (_ && (((!(op1.toList == [115,101,116]) && !isJoin op1) && rest.allB notSet) && _))=false;rw [hj];simp)
      have HJ:=Lib.hid hj
      clear hj
      go_wp2_with fail
      refine HCL.out.mono ?_
      rintro e w3 ⟨rfl,hb3⟩
      rw [HJ.out]
      have hbx2:=hbx.trans (hb3.mono hbx.size)
      clear hb3 HCL
      go_wp2_with fail
      go_ret
      exact ⟨by rw [HR3.out];rfl,hbx2⟩
     have hj2:isJoin op1=false:=by simpa using hj
     have HJ:=Lib.hid hj2
     clear hj
     by_cases os:op1.toList=[115,101,116]
     ·have es:(op1.toList == [115,101,116])=true:=by simp [os]
      have HR3:=Lib.hid (show stepT op name n kids.len kids.sorts.t kids.sorts.v kids.sorts.n kids.second=false from by rw [HR.out,HAL.out];show (_ && (((!(op1.toList == [115,101,116]) && !isJoin op1) && rest.allB notSet) && _))=false;rw [es];simp)
      clear os hj2
      go_wp2_with fail
      refine HCL.out.mono ?_
      rintro e w3 ⟨rfl,hb3⟩
      rw [HJ.out]
      have hbx2:=hbx.trans (hb3.mono hbx.size)
      clear b0 b1 b2 b3 b4 c0 c1 c2 c3 c4
      obtain ⟨b0,b1,b2,b3,b4⟩:=box_cells (show w3.heap[w.heap.size]? = _ from (hb3.block _ (lt_heap HX.out)).trans HX.out)
      obtain ⟨c0,c1,c2,c3,c4⟩:=HND.out.below hb3
      clear hb3 HCL
      go_wp2_with fail
      go_ret
      exact ⟨by rw [HR3.out];rfl,hbx2⟩
     have es:(op1.toList == [115,101,116])=false:=by simp [os]
     have HA2:=Lib.hid (show kids.allB notSet=rest.allB notSet from by rw [HAL.out];show ((!(op1.toList == [115,101,116]) && !isJoin op1) && rest.allB notSet)=_;rw [es,hj2];rfl)
     clear os hj2
     go_wp2_with fail
     refine HCL.out.mono ?_
     rintro e w3 ⟨rfl,hb3⟩
     rw [HJ.out]
     have hbx2:=hbx.trans (hb3.mono hbx.size)
     have HX2:=Lib.hid ((hb3.block _ (lt_heap HX.out)).trans HX.out)
     clear b0 b1 b2 b3 b4 c0 c1 c2 c3 c4
     obtain ⟨b0,b1,b2,b3,b4⟩:=box_cells HX2.out
     obtain ⟨c0,c1,c2,c3,c4⟩:=HND.out.below hb3
     have HN2:=Lib.hid (HN1.out.below hb3)
     clear hb3 HN1 HX HCL
     go_wp2_with fail
     go_roundw
     case rel=>exact ⟨k+1,rest,by go_num,HN2,HA2,HX2,hbx2⟩
     case measure=>(try simp [intOf]);omega
 have e4:(op.toList == [115,101,116])=false:=by simp [o4]
 clear o4
 have hR:stepT op name n kids.len kids.sorts.t kids.sorts.v kids.sorts.n kids.second=(isJoin op && fitB false name 0 0 n 2 2 kids.len kids.sorts.t && !kids.second):=by unfold stepT;rw [e1,e2,e3,e4];rfl
 rw [fit_plain] at hR
 have HJ:=Lib.hid (set_any op name n pos a kids.len cap (w.alloc (boxOf op name n pos a kids.len cap)))
 by_cases hj:isJoin op=true
 case neg =>
  have hj2:isJoin op=false:=by simpa using hj
  have HR:=Lib.hid (show stepT op name n kids.len kids.sorts.t kids.sorts.v kids.sorts.n kids.second=false from by rw [hR,hj2];rfl)
  have HJT:=Lib.hid hj2
  clear hj hj2 hR
  go_enter Tryz.func108,Tryz.ntmps108
  go_wp2_with fail
  refine HJ.out.mono ?_
  rintro e w2 ⟨rfl,hb2⟩
  rw [HJT.out]
  have hbb:=box_then hb2
  clear hb2 HJ
  go_wp2_with fail
  go_ret
  exact ⟨by rw [HR.out];rfl,hbb⟩
 have HJT:=Lib.hid hj
 have HR:=Lib.hid hR
 clear hj hR
 by_cases hv:hasB name n kids.len 2 false false=true
 case neg =>
  have hv2:hasB name n kids.len 2 false false=false:=by simpa using hv
  have HV:=Lib.hid hv2
  have HR3:=Lib.hid (show stepT op name n kids.len kids.sorts.t kids.sorts.v kids.sorts.n kids.second=false from by rw [HR.out,hv2];simp)
  clear hv hv2
  go_enter Tryz.func108,Tryz.ntmps108
  go_wp2_with fail
  refine HJ.out.mono ?_
  rintro e w2 ⟨rfl,hb2⟩
  rw [HJT.out]
  have hbb:=box_then hb2
  obtain ⟨b0,b1,b2,b3,b4⟩:=box_cells (show w2.heap[w.heap.size]? = _ from (hb2.block _ HZ.out).trans HB.out)
  have HC2:=Lib.hid (HH.out 2 false false w2 hbb)
  clear hb2 HJ
  go_wp2_with fail
  refine HC2.out.mono ?_
  rintro e w3 ⟨rfl,hb3⟩
  rw [HV.out]
  have hb4:=hbb.trans (hb3.mono hbb.size)
  clear hb3 HC2
  go_wp2_with fail
  go_ret
  exact ⟨by rw [HR3.out];rfl,hb4⟩
 have HV:=Lib.hid hv
 have hlen:kids.len=2:=by
  unfold hasB at hv
  simp only [Bool.and_eq_true,decide_eq_true_eq] at hv
  omega
 have HL:=Lib.hid hlen
 clear hv hlen
 obtain ⟨kb,ko,hab,hlim,hpos,hkin⟩:∃ b o,a=some ⟨b,o,none⟩∧kids.len≤140737488351232∧(0 < kids.len∧w.frozen? ⟨b,o,none⟩=false)∧kids.In w b o:=by
  rcases HI.out with h | h
  ·have h':kids=.nil:=h
   have:=HL.out
   rw [h'] at this
   cases this
  ·exact h
 subst hab
 obtain ⟨op1,name1,n1,pos1,a1,cap1,kids1,op2,name2,n2,pos2,a2,cap2,kids2,hkk⟩:∃ op1 name1 n1 pos1 a1 cap1 kids1 op2 name2 n2 pos2 a2 cap2 kids2,kids=.cons op1 name1 n1 pos1 a1 cap1 kids1 (.cons op2 name2 n2 pos2 a2 cap2 kids2 .nil):=by
  have h2:=HL.out
  cases kids with
  | nil=>cases h2
  | cons op1 name1 n1 pos1 a1 cap1 kids1 r =>
   cases r with
   | nil=>cases h2
   | cons op2 name2 n2 pos2 a2 cap2 kids2 r2 =>
    cases r2 with
    | nil=>exact ⟨_,_,_,_,_,_,_,_,_,_,_,_,_,_,rfl⟩
    | cons=>simp [Fo.len] at h2
 have hn2:NodeAt w kb (ko+5) op2 name2 n2 pos2 a2 kids2.len cap2:=by rw [hkk] at hkin;exact hkin.2.2.1
 have HR2:RowKit.Hid (stepT op name n kids.len kids.sorts.t kids.sorts.v kids.sorts.n kids.second=(kids.sorts.t && !isJoin op2)):=Lib.hid (by rw [HR.out,HJT.out,HV.out,show kids.second=isJoin op2 from by rw [hkk];rfl];rfl)
 have HN2:=Lib.hid hn2
 clear hkin hkk hn2 HR hpos
 generalize hst:kids.sorts.t=st at HTM HR2
 clear hst
 go_enter Tryz.func108,Tryz.ntmps108
 go_wp2_with fail
 refine HJ.out.mono ?_
 rintro e w2 ⟨rfl,hb2⟩
 rw [HJT.out]
 have hbb:=box_then hb2
 have HB2:=Lib.hid ((hb2.block _ HZ.out).trans HB.out)
 obtain ⟨b0,b1,b2,b3,b4⟩:=box_cells HB2.out
 have HC2:=Lib.hid (HH.out 2 false false w2 hbb)
 clear hb2 HJ
 go_wp2_with fail
 refine HC2.out.mono ?_
 rintro e w3 ⟨rfl,hb3⟩
 rw [HV.out]
 have hb4:=hbb.trans (hb3.mono hbb.size)
 clear b0 b1 b2 b3 b4
 have HB3:=Lib.hid ((hb3.block _ (lt_heap HB2.out)).trans HB2.out)
 obtain ⟨b0,b1,b2,b3,b4⟩:=box_cells HB3.out
 have HC3:=Lib.hid (HTM.out w3 (Utf8Tabs_below HU.out hb4) (HI.out.below hb4))
 clear hb3 HC2
 go_wp2_with fail
 refine HC3.out.mono ?_
 rintro e w4 ⟨rfl,hb5⟩
 have hb6:=hb4.trans (hb5.mono hb4.size)
 clear b0 b1 b2 b3 b4
 obtain ⟨b0,b1,b2,b3,b4⟩:=box_cells (show w4.heap[w.heap.size]? = _ from (hb5.block _ (lt_heap HB3.out)).trans HB3.out)
 obtain ⟨c0,c1,c2,c3,c4⟩:=HN2.out.below hb6
 rw [HL.out] at b4
 clear hb5 HC3
 cases st with
 | false =>
  go_wp2_with fail
  go_ret
  exact ⟨by rw [HR2.out];rfl,hb6⟩
 | true =>
  have HJ2:=Lib.hid (set_any op2 name2 n2 pos2 a2 kids2.len cap2 w4)
  go_wp2_with fail
  refine HJ2.out.mono ?_
  rintro e w5 ⟨rfl,hb7⟩
  have hb8:=hb6.trans (hb7.mono hb6.size)
  clear hb7 HJ2
  go_wp2_with fail
  go_ret
  exact ⟨by rw [HR2.out];rfl,hb8⟩
theorem gterms_all (T:Nd):SayRT T:=Nd.all_of (P:=SayRT) (fun T hk=>rterm_of T hk) T
theorem rformulas_all (T:Nd):SayRF T:=Nd.all_of (P:=SayRF) (fun T hk=>gformula_of T hk (Fo.all_of (fun T _=>gterms_all T) T.kids)) T
set_option maxRecDepth 100000 in
set_option maxHeartbeats 4000000 in
theorem rsize_any (T:Nd) (w:World) (hT:T.In w):Calls Tryz.prog 15 #[T.val] w fun e w'=>e=.returned (.int .i64 (min (T.size:Int) 2001))∧Below w.heap.size w w':=by
 obtain ⟨op,name,n,pos,a,cap,kids⟩:=T
 have hc:=rcount_any ⟨op,name,n,pos,a,cap,kids⟩ 2001 (w.alloc (boxOf op name n pos a kids.len cap)) (by omega) (by omega) (hT.below (below_box _ _))
 have HC:=Lib.hid hc
 have hc5:=cellsNode
 clear hc hT
 rw [Nd.val_def]
 go_enter Tryz.func15,Tryz.ntmps15
 go_wp2_with fail
 refine HC.out.mono ?_
 rintro e w2 ⟨rfl,hb2⟩
 go_wp2
 go_ret
 exact ⟨rfl,box_then hb2⟩
set_option maxRecDepth 100000 in
set_option maxHeartbeats 4000000 in
theorem rdepth_any (T:Nd) (w:World) (hT:T.In w):Calls Tryz.prog 51 #[T.val] w fun e w'=>e=.returned (.int .i64 (min (T.deep:Int) 31))∧Below w.heap.size w w':=by
 obtain ⟨op,name,n,pos,a,cap,kids⟩:=T
 have hc:=rdeep_any ⟨op,name,n,pos,a,cap,kids⟩ 31 (w.alloc (boxOf op name n pos a kids.len cap)) (by omega) (by omega) (hT.below (below_box _ _))
 have HC:=Lib.hid hc
 have hc5:=cellsNode
 clear hc hT
 rw [Nd.val_def]
 go_enter Tryz.func51,Tryz.ntmps51
 go_wp2_with fail
 refine HC.out.mono ?_
 rintro e w2 ⟨rfl,hb2⟩
 go_wp2
 go_ret
 exact ⟨rfl,box_then hb2⟩
set_option maxRecDepth 100000 in
set_option maxHeartbeats 8000000 in
theorem small_any (T:Nd) (w:World) (hT:T.In w):Calls Tryz.prog 45 #[T.val] w fun e w'=>e=.returned (.bool (decide (T.deep≤30) && decide (T.size≤2000)))∧Below w.heap.size w w':=by
 obtain ⟨op,name,n,pos,a,cap,kids⟩:=T
 have hc1:=rdepth_any ⟨op,name,n,pos,a,cap,kids⟩ (w.alloc (boxOf op name n pos a kids.len cap)) (hT.below (below_box _ _))
 generalize (Nd.mk op name n pos a cap kids).deep=d at hc1
 have HS:RowKit.Hid (∀ W:World,Nd.In W ⟨op,name,n,pos,a,cap,kids⟩→Calls Tryz.prog 15 #[(Nd.mk op name n pos a cap kids).val] W fun e w'=>e=.returned (.int .i64 (min ((Nd.mk op name n pos a cap kids).size:Int) 2001))∧Below W.heap.size W w'):=Lib.hid fun W h=>rsize_any _ W h
 generalize (Nd.mk op name n pos a cap kids).size=z at HS
 have HI:=Lib.hid hT
 have HC:=Lib.hid hc1
 have HB:=Lib.hid (new_at w (boxOf op name n pos a kids.len cap))
 have HZ:=Lib.hid (lt_heap HB.out)
 have hc5:=cellsNode
 clear hc1 hT
 rw [Nd.val_def]
 by_cases hd:d≤30
 ·have hd2:min (d:Int) 31≤30:=by omega
  have HD:=Lib.hid (decide_eq_true hd)
  clear hd
  generalize min (d:Int) 31=dd at HC hd2
  go_enter Tryz.func45,Tryz.ntmps45
  go_wp2_with fail
  refine HC.out.mono ?_
  rintro e w2 ⟨rfl,hb2⟩
  have hbb:=box_then hb2
  obtain ⟨b0,b1,b2,b3,b4⟩:=box_cells (show w2.heap[w.heap.size]? = _ from (hb2.block _ HZ.out).trans HB.out)
  have hcall:=HS.out w2 (HI.out.below hbb)
  rw [Nd.val_def] at hcall
  have HC2:=Lib.hid hcall
  clear hb2 HC hcall
  by_cases hz:z≤2000
  ·have hz2:min (z:Int) 2001≤2000:=by omega
   have HZZ:=Lib.hid (decide_eq_true hz)
   clear hz
   generalize min (z:Int) 2001=zz at HC2 hz2
   go_wp2_with fail
   refine HC2.out.mono ?_
   rintro e w3 ⟨rfl,hb3⟩
   have hb4:=hbb.trans (hb3.mono hbb.size)
   clear hb3 HC2
   go_wp2_with fail
   go_ret
   exact ⟨by rw [HD.out,HZZ.out];rfl,hb4⟩
  ·have hz2:¬ min (z:Int) 2001≤2000:=by omega
   have HZZ:=Lib.hid (decide_eq_false hz)
   clear hz
   generalize min (z:Int) 2001=zz at HC2 hz2
   have HZD:=Lib.hid (decide_eq_false hz2)
   go_wp2_with fail
   refine HC2.out.mono ?_
   rintro e w3 ⟨rfl,hb3⟩
   have hb4:=hbb.trans (hb3.mono hbb.size)
   clear hb3 HC2
   go_wp2_with fail
   go_ret
   exact ⟨by rw [HD.out,HZZ.out];show Ending.returned (Value.bool (decide (zz≤2000)))=_;rw [HZD.out];rfl,hb4⟩
 ·have hd2:¬ min (d:Int) 31≤30:=by omega
  have HD:=Lib.hid (decide_eq_false hd)
  clear hd
  generalize min (d:Int) 31=dd at HC hd2
  go_enter Tryz.func45,Tryz.ntmps45
  go_wp2_with fail
  refine HC.out.mono ?_
  rintro e w2 ⟨rfl,hb2⟩
  have hbb:=box_then hb2
  clear hb2 HC
  go_wp2_with fail
  go_ret
  exact ⟨by rw [HD.out];rfl,hbb⟩
set_option maxRecDepth 100000 in
set_option maxHeartbeats 8000000 in
theorem rIsFormula_fine (T:Nd) (w:World) (hU:UT w) (hT:T.In w) (hsz:T.sized) (hd:T.deep≤30) (hs:T.size≤2000):Calls Tryz.prog 16 #[T.val] w fun e w'=>e=.returned (.bool T.okF)∧Below w.heap.size w w':=by
 have hf:=fun W h1 h2=>rformulas_all T W h1 h2 hsz
 have hb:=fun W h=>small_any T W h
 obtain ⟨op,name,n,pos,a,cap,kids⟩:=T
 generalize (Nd.mk op name n pos a cap kids).okF=q at hf
 have HI:=Lib.hid hT
 have HU:=Lib.hid hU
 have HF:=Lib.hid hf
 have HC:=Lib.hid (hb (w.alloc (boxOf op name n pos a kids.len cap)) (hT.below (below_box _ _)))
 have HB:=Lib.hid (new_at w (boxOf op name n pos a kids.len cap))
 have HZ:=Lib.hid (lt_heap HB.out)
 have HD:=Lib.hid (And.intro hd hs)
 have hc5:=cellsNode
 clear hf hb hT hU hd hs hsz
 rw [Nd.val_def]
 go_enter Tryz.func16,Tryz.ntmps16
 go_wp2_with fail
 refine HC.out.mono ?_
 rintro e w2 ⟨rfl,hb2⟩
 rw [decide_eq_true HD.out.1,decide_eq_true HD.out.2,Bool.and_true]
 have hbb:=box_then hb2
 obtain ⟨b0,b1,b2,b3,b4⟩:=box_cells (show w2.heap[w.heap.size]? = _ from (hb2.block _ HZ.out).trans HB.out)
 have hcall:=HF.out w2 (Utf8Tabs_below HU.out hbb) (HI.out.below hbb)
 rw [Nd.val_def] at hcall
 have HC2:=Lib.hid hcall
 clear hb2 HC hcall
 go_wp2_with fail
 refine HC2.out.mono ?_
 rintro e w3 ⟨rfl,hb3⟩
 have hb4:=hbb.trans (hb3.mono hbb.size)
 clear hb3 HC2
 go_wp2_with fail
 go_ret
 exact ⟨rfl,hb4⟩
end Go.Proofs.YtmlmjopfbohglaaGreatDoor
