/- Parts of the proof: GCode TSize. -/
import Derived.Test.YtmlmjopfbohglaaDoorWd19
import Derived.Test.YtmlmjopfbohglaaDoorWd20
namespace Go.Proofs.YtmlmjopfbohglaaDoor
open Go.RowKit
set_option maxRecDepth 100000 in
set_option maxHeartbeats 32000000 in
theorem formula_of (T:Nd) (hkF:Fo.All (TellF Nd.okF) T.kids) (hkT:Fo.All (TellT Nd.okT) T.kids):TellF Nd.okF T:=by
 intro w hT hin hsz
 obtain ⟨op,name,n,pos,a,cap,kids⟩:=T
 have hc5:=cellsNode
 have hb0:=below_box w (boxOf op name n pos a kids.len cap)
 have hinW:=hin.below hb0
 have hTW:=hT.below hb0
 show Calls _ _ _ w fun e w'=>e=.returned (.bool (stepF op name n kids.len kids.sorts.f kids.sorts.t))∧_
 by_cases o1:op.toList=[116,114,117,101]
 ·have e1:(op.toList == [116,114,117,101])=true:=by simp [o1]
  have HR:=Lib.hid (show stepF op name n kids.len kids.sorts.f kids.sorts.t=fitB false name 0 0 n 0 0 kids.len true from by unfold stepF opF0 opF2 opFq opFr;rw [e1];rfl)
  have hcall:=fitsNil_any ⟨op,name,n,pos,a,cap,kids⟩ false 0 0 0 _ hTW hinW hsz
  rw [Nd.val_def] at hcall
  have HC:=Lib.hid hcall
  clear hcall hkF hkT hinW hTW hin hT hsz hb0 o1
  rw [Nd.val_def]
  go_enter Tryd.func93,Tryd.ntmps93
  go_wp2_with fail
  refine HC.out.mono ?_
  rintro e w2 ⟨rfl,hb2⟩
  have hb3:=box_then hb2
  clear hb2 HC
  go_wp2_with fail
  go_ret
  exact ⟨by rw [HR.out];rfl,hb3⟩
 have e1:(op.toList == [116,114,117,101])=false:=by simp [o1]
 clear o1
 by_cases o2:op.toList=[102,97,108,115,101]
 ·have e2:(op.toList == [102,97,108,115,101])=true:=by simp [o2]
  have HR:=Lib.hid (show stepF op name n kids.len kids.sorts.f kids.sorts.t=fitB false name 0 0 n 0 0 kids.len true from by unfold stepF opF0 opF2 opFq opFr;rw [e1,e2];rfl)
  have hcall:=fitsNil_any ⟨op,name,n,pos,a,cap,kids⟩ false 0 0 0 _ hTW hinW hsz
  rw [Nd.val_def] at hcall
  have HC:=Lib.hid hcall
  clear hcall hkF hkT hinW hTW hin hT hsz hb0 o2
  rw [Nd.val_def]
  go_enter Tryd.func93,Tryd.ntmps93
  go_wp2_with fail
  refine HC.out.mono ?_
  rintro e w2 ⟨rfl,hb2⟩
  have hb3:=box_then hb2
  clear hb2 HC
  go_wp2_with fail
  go_ret
  exact ⟨by rw [HR.out];rfl,hb3⟩
 have e2:(op.toList == [102,97,108,115,101])=false:=by simp [o2]
 clear o2
 by_cases o3:op.toList=[110,111,116]
 ·have e3:(op.toList == [110,111,116])=true:=by simp [o3]
  have HR:=Lib.hid (show stepF op name n kids.len kids.sorts.f kids.sorts.t=fitB false name 0 0 n 1 1 kids.len kids.sorts.f from by unfold stepF opF0 opF2 opFq opFr;rw [e1,e2,e3];rfl)
  have hcall:=fitsF_any Nd.okF ⟨op,name,n,pos,a,cap,kids⟩ false 0 0 1 1 _ hTW hinW hsz hkF
  rw [Nd.val_def] at hcall
  rw [show Fo.allB Nd.okF (Nd.mk op name n pos a cap kids).kids=kids.sorts.f from (sorts_f kids).symm] at hcall
  have HC:=Lib.hid hcall
  clear hcall hkF hkT hinW hTW hin hT hsz hb0 o3
  rw [Nd.val_def]
  go_enter Tryd.func93,Tryd.ntmps93
  go_wp2_with fail
  refine HC.out.mono ?_
  rintro e w2 ⟨rfl,hb2⟩
  have hb3:=box_then hb2
  clear hb2 HC
  go_wp2_with fail
  go_ret
  exact ⟨by rw [HR.out];rfl,hb3⟩
 have e3:(op.toList == [110,111,116])=false:=by simp [o3]
 clear o3
 by_cases o4:op.toList=[97,110,100]
 ·have e4:(op.toList == [97,110,100])=true:=by simp [o4]
  have HR:=Lib.hid (show stepF op name n kids.len kids.sorts.f kids.sorts.t=fitB false name 0 0 n 2 2 kids.len kids.sorts.f from by unfold stepF opF0 opF2 opFq opFr;rw [e1,e2,e3,e4];rfl)
  have hcall:=fitsF_any Nd.okF ⟨op,name,n,pos,a,cap,kids⟩ false 0 0 2 2 _ hTW hinW hsz hkF
  rw [Nd.val_def] at hcall
  rw [show Fo.allB Nd.okF (Nd.mk op name n pos a cap kids).kids=kids.sorts.f from (sorts_f kids).symm] at hcall
  have HC:=Lib.hid hcall
  clear hcall hkF hkT hinW hTW hin hT hsz hb0 o4
  rw [Nd.val_def]
  go_enter Tryd.func93,Tryd.ntmps93
  go_wp2_with fail
  refine HC.out.mono ?_
  rintro e w2 ⟨rfl,hb2⟩
  have hb3:=box_then hb2
  clear hb2 HC
  go_wp2_with fail
  go_ret
  exact ⟨by rw [HR.out];rfl,hb3⟩
 have e4:(op.toList == [97,110,100])=false:=by simp [o4]
 clear o4
 by_cases o5:op.toList=[111,114]
 ·have e5:(op.toList == [111,114])=true:=by simp [o5]
  have HR:=Lib.hid (show stepF op name n kids.len kids.sorts.f kids.sorts.t=fitB false name 0 0 n 2 2 kids.len kids.sorts.f from by unfold stepF opF0 opF2 opFq opFr;rw [e1,e2,e3,e4,e5];rfl)
  have hcall:=fitsF_any Nd.okF ⟨op,name,n,pos,a,cap,kids⟩ false 0 0 2 2 _ hTW hinW hsz hkF
  rw [Nd.val_def] at hcall
  rw [show Fo.allB Nd.okF (Nd.mk op name n pos a cap kids).kids=kids.sorts.f from (sorts_f kids).symm] at hcall
  have HC:=Lib.hid hcall
  clear hcall hkF hkT hinW hTW hin hT hsz hb0 o5
  rw [Nd.val_def]
  go_enter Tryd.func93,Tryd.ntmps93
  go_wp2_with fail
  refine HC.out.mono ?_
  rintro e w2 ⟨rfl,hb2⟩
  have hb3:=box_then hb2
  clear hb2 HC
  go_wp2_with fail
  go_ret
  exact ⟨by rw [HR.out];rfl,hb3⟩
 have e5:(op.toList == [111,114])=false:=by simp [o5]
 clear o5
 by_cases o6:op.toList=[105,109,112]
 ·have e6:(op.toList == [105,109,112])=true:=by simp [o6]
  have HR:=Lib.hid (show stepF op name n kids.len kids.sorts.f kids.sorts.t=fitB false name 0 0 n 2 2 kids.len kids.sorts.f from by unfold stepF opF0 opF2 opFq opFr;rw [e1,e2,e3,e4,e5,e6];rfl)
  have hcall:=fitsF_any Nd.okF ⟨op,name,n,pos,a,cap,kids⟩ false 0 0 2 2 _ hTW hinW hsz hkF
  rw [Nd.val_def] at hcall
  rw [show Fo.allB Nd.okF (Nd.mk op name n pos a cap kids).kids=kids.sorts.f from (sorts_f kids).symm] at hcall
  have HC:=Lib.hid hcall
  clear hcall hkF hkT hinW hTW hin hT hsz hb0 o6
  rw [Nd.val_def]
  go_enter Tryd.func93,Tryd.ntmps93
  go_wp2_with fail
  refine HC.out.mono ?_
  rintro e w2 ⟨rfl,hb2⟩
  have hb3:=box_then hb2
  clear hb2 HC
  go_wp2_with fail
  go_ret
  exact ⟨by rw [HR.out];rfl,hb3⟩
 have e6:(op.toList == [105,109,112])=false:=by simp [o6]
 clear o6
 by_cases o7:op.toList=[105,102,102]
 ·have e7:(op.toList == [105,102,102])=true:=by simp [o7]
  have HR:=Lib.hid (show stepF op name n kids.len kids.sorts.f kids.sorts.t=fitB false name 0 0 n 2 2 kids.len kids.sorts.f from by unfold stepF opF0 opF2 opFq opFr;rw [e1,e2,e3,e4,e5,e6,e7];rfl)
  have hcall:=fitsF_any Nd.okF ⟨op,name,n,pos,a,cap,kids⟩ false 0 0 2 2 _ hTW hinW hsz hkF
  rw [Nd.val_def] at hcall
  rw [show Fo.allB Nd.okF (Nd.mk op name n pos a cap kids).kids=kids.sorts.f from (sorts_f kids).symm] at hcall
  have HC:=Lib.hid hcall
  clear hcall hkF hkT hinW hTW hin hT hsz hb0 o7
  rw [Nd.val_def]
  go_enter Tryd.func93,Tryd.ntmps93
  go_wp2_with fail
  refine HC.out.mono ?_
  rintro e w2 ⟨rfl,hb2⟩
  have hb3:=box_then hb2
  clear hb2 HC
  go_wp2_with fail
  go_ret
  exact ⟨by rw [HR.out];rfl,hb3⟩
 have e7:(op.toList == [105,102,102])=false:=by simp [o7]
 clear o7
 by_cases o8:op.toList=[101,120]
 ·have e8:(op.toList == [101,120])=true:=by simp [o8]
  have HR:=Lib.hid (show stepF op name n kids.len kids.sorts.f kids.sorts.t=fitB true name 0 2 n 1 1 kids.len kids.sorts.f from by unfold stepF opF0 opF2 opFq opFr;rw [e1,e2,e3,e4,e5,e6,e7,e8];rfl)
  have hcall:=fitsF_any Nd.okF ⟨op,name,n,pos,a,cap,kids⟩ true 0 2 1 1 _ hTW hinW hsz hkF
  rw [Nd.val_def] at hcall
  rw [show Fo.allB Nd.okF (Nd.mk op name n pos a cap kids).kids=kids.sorts.f from (sorts_f kids).symm] at hcall
  have HC:=Lib.hid hcall
  clear hcall hkF hkT hinW hTW hin hT hsz hb0 o8
  rw [Nd.val_def]
  go_enter Tryd.func93,Tryd.ntmps93
  go_wp2_with fail
  refine HC.out.mono ?_
  rintro e w2 ⟨rfl,hb2⟩
  have hb3:=box_then hb2
  clear hb2 HC
  go_wp2_with fail
  go_ret
  exact ⟨by rw [HR.out];rfl,hb3⟩
 have e8:(op.toList == [101,120])=false:=by simp [o8]
 clear o8
 by_cases o9:op.toList=[97,108,108]
 ·have e9:(op.toList == [97,108,108])=true:=by simp [o9]
  have HR:=Lib.hid (show stepF op name n kids.len kids.sorts.f kids.sorts.t=fitB true name 0 2 n 1 1 kids.len kids.sorts.f from by unfold stepF opF0 opF2 opFq opFr;rw [e1,e2,e3,e4,e5,e6,e7,e8,e9];rfl)
  have hcall:=fitsF_any Nd.okF ⟨op,name,n,pos,a,cap,kids⟩ true 0 2 1 1 _ hTW hinW hsz hkF
  rw [Nd.val_def] at hcall
  rw [show Fo.allB Nd.okF (Nd.mk op name n pos a cap kids).kids=kids.sorts.f from (sorts_f kids).symm] at hcall
  have HC:=Lib.hid hcall
  clear hcall hkF hkT hinW hTW hin hT hsz hb0 o9
  rw [Nd.val_def]
  go_enter Tryd.func93,Tryd.ntmps93
  go_wp2_with fail
  refine HC.out.mono ?_
  rintro e w2 ⟨rfl,hb2⟩
  have hb3:=box_then hb2
  clear hb2 HC
  go_wp2_with fail
  go_ret
  exact ⟨by rw [HR.out];rfl,hb3⟩
 have e9:(op.toList == [97,108,108])=false:=by simp [o9]
 clear o9
 by_cases o10:op.toList=[105,115]
 ·have e10:(op.toList == [105,115])=true:=by simp [o10]
  have HR:=Lib.hid (show stepF op name n kids.len kids.sorts.f kids.sorts.t=fitB true name 0 0 n 0 0 kids.len true from by unfold stepF opF0 opF2 opFq opFr;rw [e1,e2,e3,e4,e5,e6,e7,e8,e9,e10];rfl)
  have hcall:=fitsNil_any ⟨op,name,n,pos,a,cap,kids⟩ true 0 0 0 _ hTW hinW hsz
  rw [Nd.val_def] at hcall
  have HC:=Lib.hid hcall
  clear hcall hkF hkT hinW hTW hin hT hsz hb0 o10
  rw [Nd.val_def]
  go_enter Tryd.func93,Tryd.ntmps93
  go_wp2_with fail
  refine HC.out.mono ?_
  rintro e w2 ⟨rfl,hb2⟩
  have hb3:=box_then hb2
  clear hb2 HC
  go_wp2_with fail
  go_ret
  exact ⟨by rw [HR.out];rfl,hb3⟩
 have e10:(op.toList == [105,115])=false:=by simp [o10]
 clear o10
 by_cases o11:op.toList=[101,113]
 ·have e11:(op.toList == [101,113])=true:=by simp [o11]
  have HR:=Lib.hid (show stepF op name n kids.len kids.sorts.f kids.sorts.t=fitB false name 0 0 n 2 2 kids.len kids.sorts.t from by unfold stepF opF0 opF2 opFq opFr;rw [e1,e2,e3,e4,e5,e6,e7,e8,e9,e10,e11];rfl)
  have hcall:=fitsT_any Nd.okT ⟨op,name,n,pos,a,cap,kids⟩ false 0 0 2 2 _ hTW hinW hsz hkT
  rw [Nd.val_def] at hcall
  rw [show Fo.allB Nd.okT (Nd.mk op name n pos a cap kids).kids=kids.sorts.t from (sorts_t kids).symm] at hcall
  have HC:=Lib.hid hcall
  clear hcall hkF hkT hinW hTW hin hT hsz hb0 o11
  rw [Nd.val_def]
  go_enter Tryd.func93,Tryd.ntmps93
  go_wp2_with fail
  refine HC.out.mono ?_
  rintro e w2 ⟨rfl,hb2⟩
  have hb3:=box_then hb2
  clear hb2 HC
  go_wp2_with fail
  go_ret
  exact ⟨by rw [HR.out];rfl,hb3⟩
 have e11:(op.toList == [101,113])=false:=by simp [o11]
 clear o11
 by_cases o12:op.toList=[110,101]
 ·have e12:(op.toList == [110,101])=true:=by simp [o12]
  have HR:=Lib.hid (show stepF op name n kids.len kids.sorts.f kids.sorts.t=fitB false name 0 0 n 2 2 kids.len kids.sorts.t from by unfold stepF opF0 opF2 opFq opFr;rw [e1,e2,e3,e4,e5,e6,e7,e8,e9,e10,e11,e12];rfl)
  have hcall:=fitsT_any Nd.okT ⟨op,name,n,pos,a,cap,kids⟩ false 0 0 2 2 _ hTW hinW hsz hkT
  rw [Nd.val_def] at hcall
  rw [show Fo.allB Nd.okT (Nd.mk op name n pos a cap kids).kids=kids.sorts.t from (sorts_t kids).symm] at hcall
  have HC:=Lib.hid hcall
  clear hcall hkF hkT hinW hTW hin hT hsz hb0 o12
  rw [Nd.val_def]
  go_enter Tryd.func93,Tryd.ntmps93
  go_wp2_with fail
  refine HC.out.mono ?_
  rintro e w2 ⟨rfl,hb2⟩
  have hb3:=box_then hb2
  clear hb2 HC
  go_wp2_with fail
  go_ret
  exact ⟨by rw [HR.out];rfl,hb3⟩
 have e12:(op.toList == [110,101])=false:=by simp [o12]
 clear o12
 by_cases o13:op.toList=[108,116]
 ·have e13:(op.toList == [108,116])=true:=by simp [o13]
  have HR:=Lib.hid (show stepF op name n kids.len kids.sorts.f kids.sorts.t=fitB false name 0 0 n 2 2 kids.len kids.sorts.t from by unfold stepF opF0 opF2 opFq opFr;rw [e1,e2,e3,e4,e5,e6,e7,e8,e9,e10,e11,e12,e13];rfl)
  have hcall:=fitsT_any Nd.okT ⟨op,name,n,pos,a,cap,kids⟩ false 0 0 2 2 _ hTW hinW hsz hkT
  rw [Nd.val_def] at hcall
  rw [show Fo.allB Nd.okT (Nd.mk op name n pos a cap kids).kids=kids.sorts.t from (sorts_t kids).symm] at hcall
  have HC:=Lib.hid hcall
  clear hcall hkF hkT hinW hTW hin hT hsz hb0 o13
  rw [Nd.val_def]
  go_enter Tryd.func93,Tryd.ntmps93
  go_wp2_with fail
  refine HC.out.mono ?_
  rintro e w2 ⟨rfl,hb2⟩
  have hb3:=box_then hb2
  clear hb2 HC
  go_wp2_with fail
  go_ret
  exact ⟨by rw [HR.out];rfl,hb3⟩
 have e13:(op.toList == [108,116])=false:=by simp [o13]
 clear o13
 by_cases o14:op.toList=[108,101]
 ·have e14:(op.toList == [108,101])=true:=by simp [o14]
  have HR:=Lib.hid (show stepF op name n kids.len kids.sorts.f kids.sorts.t=fitB false name 0 0 n 2 2 kids.len kids.sorts.t from by unfold stepF opF0 opF2 opFq opFr;rw [e1,e2,e3,e4,e5,e6,e7,e8,e9,e10,e11,e12,e13,e14];rfl)
  have hcall:=fitsT_any Nd.okT ⟨op,name,n,pos,a,cap,kids⟩ false 0 0 2 2 _ hTW hinW hsz hkT
  rw [Nd.val_def] at hcall
  rw [show Fo.allB Nd.okT (Nd.mk op name n pos a cap kids).kids=kids.sorts.t from (sorts_t kids).symm] at hcall
  have HC:=Lib.hid hcall
  clear hcall hkF hkT hinW hTW hin hT hsz hb0 o14
  rw [Nd.val_def]
  go_enter Tryd.func93,Tryd.ntmps93
  go_wp2_with fail
  refine HC.out.mono ?_
  rintro e w2 ⟨rfl,hb2⟩
  have hb3:=box_then hb2
  clear hb2 HC
  go_wp2_with fail
  go_ret
  exact ⟨by rw [HR.out];rfl,hb3⟩
 have e14:(op.toList == [108,101])=false:=by simp [o14]
 clear o14
 by_cases o15:op.toList=[105,110]
 ·have e15:(op.toList == [105,110])=true:=by simp [o15]
  have HR:=Lib.hid (show stepF op name n kids.len kids.sorts.f kids.sorts.t=fitB false name 0 0 n 2 2 kids.len kids.sorts.t from by unfold stepF opF0 opF2 opFq opFr;rw [e1,e2,e3,e4,e5,e6,e7,e8,e9,e10,e11,e12,e13,e14,e15];rfl)
  have hcall:=fitsT_any Nd.okT ⟨op,name,n,pos,a,cap,kids⟩ false 0 0 2 2 _ hTW hinW hsz hkT
  rw [Nd.val_def] at hcall
  rw [show Fo.allB Nd.okT (Nd.mk op name n pos a cap kids).kids=kids.sorts.t from (sorts_t kids).symm] at hcall
  have HC:=Lib.hid hcall
  clear hcall hkF hkT hinW hTW hin hT hsz hb0 o15
  rw [Nd.val_def]
  go_enter Tryd.func93,Tryd.ntmps93
  go_wp2_with fail
  refine HC.out.mono ?_
  rintro e w2 ⟨rfl,hb2⟩
  have hb3:=box_then hb2
  clear hb2 HC
  go_wp2_with fail
  go_ret
  exact ⟨by rw [HR.out];rfl,hb3⟩
 have e15:(op.toList == [105,110])=false:=by simp [o15]
 clear o15
 by_cases o16:op.toList=[110,111,116,105,110]
 ·have e16:(op.toList == [110,111,116,105,110])=true:=by simp [o16]
  have HR:=Lib.hid (show stepF op name n kids.len kids.sorts.f kids.sorts.t=fitB false name 0 0 n 2 2 kids.len kids.sorts.t from by unfold stepF opF0 opF2 opFq opFr;rw [e1,e2,e3,e4,e5,e6,e7,e8,e9,e10,e11,e12,e13,e14,e15,e16];rfl)
  have hcall:=fitsT_any Nd.okT ⟨op,name,n,pos,a,cap,kids⟩ false 0 0 2 2 _ hTW hinW hsz hkT
  rw [Nd.val_def] at hcall
  rw [show Fo.allB Nd.okT (Nd.mk op name n pos a cap kids).kids=kids.sorts.t from (sorts_t kids).symm] at hcall
  have HC:=Lib.hid hcall
  clear hcall hkF hkT hinW hTW hin hT hsz hb0 o16
  rw [Nd.val_def]
  go_enter Tryd.func93,Tryd.ntmps93
  go_wp2_with fail
  refine HC.out.mono ?_
  rintro e w2 ⟨rfl,hb2⟩
  have hb3:=box_then hb2
  clear hb2 HC
  go_wp2_with fail
  go_ret
  exact ⟨by rw [HR.out];rfl,hb3⟩
 have e16:(op.toList == [110,111,116,105,110])=false:=by simp [o16]
 clear o16
 by_cases o17:op.toList=[115,117,98]
 ·have e17:(op.toList == [115,117,98])=true:=by simp [o17]
  have HR:=Lib.hid (show stepF op name n kids.len kids.sorts.f kids.sorts.t=fitB false name 0 0 n 2 2 kids.len kids.sorts.t from by unfold stepF opF0 opF2 opFq opFr;rw [e1,e2,e3,e4,e5,e6,e7,e8,e9,e10,e11,e12,e13,e14,e15,e16,e17];rfl)
  have hcall:=fitsT_any Nd.okT ⟨op,name,n,pos,a,cap,kids⟩ false 0 0 2 2 _ hTW hinW hsz hkT
  rw [Nd.val_def] at hcall
  rw [show Fo.allB Nd.okT (Nd.mk op name n pos a cap kids).kids=kids.sorts.t from (sorts_t kids).symm] at hcall
  have HC:=Lib.hid hcall
  clear hcall hkF hkT hinW hTW hin hT hsz hb0 o17
  rw [Nd.val_def]
  go_enter Tryd.func93,Tryd.ntmps93
  go_wp2_with fail
  refine HC.out.mono ?_
  rintro e w2 ⟨rfl,hb2⟩
  have hb3:=box_then hb2
  clear hb2 HC
  go_wp2_with fail
  go_ret
  exact ⟨by rw [HR.out];rfl,hb3⟩
 have e17:(op.toList == [115,117,98])=false:=by simp [o17]
 clear o17
 by_cases o18:op.toList=[99,97,108,108]
 ·have e18:(op.toList == [99,97,108,108])=true:=by simp [o18]
  have HR:=Lib.hid (show stepF op name n kids.len kids.sorts.f kids.sorts.t=fitB true name 0 0 n 0 6 kids.len kids.sorts.t from by unfold stepF opF0 opF2 opFq opFr;rw [e1,e2,e3,e4,e5,e6,e7,e8,e9,e10,e11,e12,e13,e14,e15,e16,e17,e18];rfl)
  have hcall:=fitsT_any Nd.okT ⟨op,name,n,pos,a,cap,kids⟩ true 0 0 0 6 _ hTW hinW hsz hkT
  rw [Nd.val_def] at hcall
  rw [show Fo.allB Nd.okT (Nd.mk op name n pos a cap kids).kids=kids.sorts.t from (sorts_t kids).symm] at hcall
  have HC:=Lib.hid hcall
  clear hcall hkF hkT hinW hTW hin hT hsz hb0 o18
  rw [Nd.val_def]
  go_enter Tryd.func93,Tryd.ntmps93
  go_wp2_with fail
  refine HC.out.mono ?_
  rintro e w2 ⟨rfl,hb2⟩
  have hb3:=box_then hb2
  clear hb2 HC
  go_wp2_with fail
  go_ret
  exact ⟨by rw [HR.out];rfl,hb3⟩
 have e18:(op.toList == [99,97,108,108])=false:=by simp [o18]
 clear o18
 have HR:=Lib.hid (show stepF op name n kids.len kids.sorts.f kids.sorts.t=false from by unfold stepF opF0 opF2 opFq opFr;rw [e1,e2,e3,e4,e5,e6,e7,e8,e9,e10,e11,e12,e13,e14,e15,e16,e17,e18];rfl)
 clear hkF hkT hinW hTW hin hT hsz hb0
 rw [Nd.val_def]
 go_enter Tryd.func93,Tryd.ntmps93
 go_wp2_with fail
 go_ret
 exact ⟨by rw [HR.out];rfl,below_box _ _⟩
end Go.Proofs.YtmlmjopfbohglaaDoor
namespace Go.Proofs.YtmlmjopfbohglaaDoor
open Go.RowKit
set_option maxRecDepth 100000 in
set_option maxHeartbeats 8000000 in
theorem joins_any (op name:ByteArray) (n pos:Int) (a:Option Addr) (k cap:Nat) (w:World):Calls Tryd.prog 150 #[.agg #[.string op,.string name,.int .i64 n,.int .i64 pos,.slice a k cap]] w fun e w'=>e=.returned (.bool (isJoin op))∧Below w.heap.size w w':=by
 have hc5:=cellsNode
 by_cases o1:op.toList=[117,110,105,111,110]
 ·have e1:(op.toList == [117,110,105,111,110])=true:=by simp [o1]
  have HR:=Lib.hid (show isJoin op=true from by unfold isJoin;rw [e1];simp)
  clear o1
  go_enter Tryd.func150,Tryd.ntmps150
  go_wp2_with fail
  go_ret
  exact ⟨by rw [HR.out];rfl,below_box _ _⟩
 have e1:(op.toList == [117,110,105,111,110])=false:=by simp [o1]
 clear o1
 by_cases o2:op.toList=[105,110,116,101,114]
 ·have e2:(op.toList == [105,110,116,101,114])=true:=by simp [o2]
  have HR:=Lib.hid (show isJoin op=true from by unfold isJoin;rw [e1,e2];simp)
  clear o2
  go_enter Tryd.func150,Tryd.ntmps150
  go_wp2_with fail
  go_ret
  exact ⟨by rw [HR.out];rfl,below_box _ _⟩
 have e2:(op.toList == [105,110,116,101,114])=false:=by simp [o2]
 clear o2
 by_cases o3:op.toList=[109,105,110,117,115]
 ·have e3:(op.toList == [109,105,110,117,115])=true:=by simp [o3]
  have HR:=Lib.hid (show isJoin op=true from by unfold isJoin;rw [e1,e2,e3];simp)
  clear o3
  go_enter Tryd.func150,Tryd.ntmps150
  go_wp2_with fail
  go_ret
  exact ⟨by rw [HR.out];rfl,below_box _ _⟩
 have e3:(op.toList == [109,105,110,117,115])=false:=by simp [o3]
 clear o3
 have HR:=Lib.hid (show isJoin op=false from by unfold isJoin;rw [e1,e2,e3];rfl)
 go_enter Tryd.func150,Tryd.ntmps150
 go_wp2_with fail
 go_ret
 exact ⟨by rw [HR.out];rfl,below_box _ _⟩
set_option maxRecDepth 100000 in
set_option maxHeartbeats 32000000 in
theorem term_of (T:Nd) (hkT:Fo.All (TellT Nd.okT) T.kids) (hkV:Fo.All (TellV Nd.okV) T.kids) (hkK:Fo.All (TellK Nd.okN) T.kids):TellT Nd.okT T:=by
 intro w hT hin hsz
 obtain ⟨op,name,n,pos,a,cap,kids⟩:=T
 have hc5:=cellsNode
 have hb0:=below_box w (boxOf op name n pos a kids.len cap)
 have hinW:=hin.below hb0
 have hTW:=hT.below hb0
 show Calls _ _ _ w fun e w'=>e=.returned (.bool (stepT op name n kids.len kids.sorts.t kids.sorts.v kids.sorts.n kids.second))∧_
 by_cases o1:op.toList=[118,97,114]
 ·have e1:(op.toList == [118,97,114])=true:=by simp [o1]
  have HR:=Lib.hid (show stepT op name n kids.len kids.sorts.t kids.sorts.v kids.sorts.n kids.second=fitB true name 0 0 n 0 0 kids.len true from by unfold stepT;rw [e1];rfl)
  have hcall:=fitsNil_any ⟨op,name,n,pos,a,cap,kids⟩ true 0 0 0 _ hTW hinW hsz
  rw [Nd.val_def] at hcall
  have HC:=Lib.hid hcall
  clear hcall hkT hkV hkK hinW hTW hin hT hsz hb0 o1
  rw [Nd.val_def]
  go_enter Tryd.func121,Tryd.ntmps121
  go_wp2_with fail
  refine HC.out.mono ?_
  rintro e w2 ⟨rfl,hb2⟩
  have hb3:=box_then hb2
  clear hb2 HC
  go_wp2_with fail
  go_ret
  exact ⟨by rw [HR.out];rfl,hb3⟩
 have e1:(op.toList == [118,97,114])=false:=by simp [o1]
 clear o1
 by_cases o2:op.toList=[110,117,109]
 ·have e2:(op.toList == [110,117,109])=true:=by simp [o2]
  have HR:=Lib.hid (show stepT op name n kids.len kids.sorts.t kids.sorts.v kids.sorts.n kids.second=fitB false name 0 99 n 0 0 kids.len true from by unfold stepT;rw [e1,e2];rfl)
  have hcall:=fitsNil_any ⟨op,name,n,pos,a,cap,kids⟩ false 0 99 0 _ hTW hinW hsz
  rw [Nd.val_def] at hcall
  have HC:=Lib.hid hcall
  clear hcall hkT hkV hkK hinW hTW hin hT hsz hb0 o2
  rw [Nd.val_def]
  go_enter Tryd.func121,Tryd.ntmps121
  go_wp2_with fail
  refine HC.out.mono ?_
  rintro e w2 ⟨rfl,hb2⟩
  have hb3:=box_then hb2
  clear hb2 HC
  go_wp2_with fail
  go_ret
  exact ⟨by rw [HR.out];rfl,hb3⟩
 have e2:(op.toList == [110,117,109])=false:=by simp [o2]
 clear o2
 by_cases o3:op.toList=[112,108,117,115]
 ·have e3:(op.toList == [112,108,117,115])=true:=by simp [o3]
  have HR:=Lib.hid (show stepT op name n kids.len kids.sorts.t kids.sorts.v kids.sorts.n kids.second=fitB false name 1 99 n 1 1 kids.len kids.sorts.v from by unfold stepT;rw [e1,e2,e3];rfl)
  have hcall:=fitsV_any Nd.okV ⟨op,name,n,pos,a,cap,kids⟩ false 1 99 1 1 _ hTW hinW hsz hkV
  rw [Nd.val_def] at hcall
  rw [show Fo.allB Nd.okV (Nd.mk op name n pos a cap kids).kids=kids.sorts.v from (sorts_v kids).symm] at hcall
  have HC:=Lib.hid hcall
  clear hcall hkT hkV hkK hinW hTW hin hT hsz hb0 o3
  rw [Nd.val_def]
  go_enter Tryd.func121,Tryd.ntmps121
  go_wp2_with fail
  refine HC.out.mono ?_
  rintro e w2 ⟨rfl,hb2⟩
  have hb3:=box_then hb2
  clear hb2 HC
  go_wp2_with fail
  go_ret
  exact ⟨by rw [HR.out];rfl,hb3⟩
 have e3:(op.toList == [112,108,117,115])=false:=by simp [o3]
 clear o3
 by_cases o4:op.toList=[115,101,116]
 ·have e4:(op.toList == [115,101,116])=true:=by simp [o4]
  have HR:=Lib.hid (show stepT op name n kids.len kids.sorts.t kids.sorts.v kids.sorts.n kids.second=fitB false name 0 0 n 0 6 kids.len kids.sorts.n from by unfold stepT;rw [e1,e2,e3,e4];rfl)
  have hcall:=fitsK_any Nd.okN ⟨op,name,n,pos,a,cap,kids⟩ false 0 0 0 6 _ hTW hinW hsz hkK
  rw [Nd.val_def] at hcall
  rw [show Fo.allB Nd.okN (Nd.mk op name n pos a cap kids).kids=kids.sorts.n from (sorts_n kids).symm] at hcall
  have HC:=Lib.hid hcall
  clear hcall hkT hkV hkK hinW hTW hin hT hsz hb0 o4
  rw [Nd.val_def]
  go_enter Tryd.func121,Tryd.ntmps121
  go_wp2_with fail
  refine HC.out.mono ?_
  rintro e w2 ⟨rfl,hb2⟩
  have hb3:=box_then hb2
  clear hb2 HC
  go_wp2_with fail
  go_ret
  exact ⟨by rw [HR.out];rfl,hb3⟩
 have e4:(op.toList == [115,101,116])=false:=by simp [o4]
 clear o4
 have hR:stepT op name n kids.len kids.sorts.t kids.sorts.v kids.sorts.n kids.second=(isJoin op && fitB false name 0 0 n 2 2 kids.len kids.sorts.t && !kids.second):=by unfold stepT;rw [e1,e2,e3,e4];rfl
 have HJ:=Lib.hid (joins_any op name n pos a kids.len cap (w.alloc (boxOf op name n pos a kids.len cap)))
 by_cases hj:isJoin op=true
 ·have hcall:=fun W h1 h2=>fitsT_any Nd.okT ⟨op,name,n,pos,a,cap,kids⟩ false 0 0 2 2 W h1 h2 hsz hkT
  rw [show Fo.allB Nd.okT (Nd.mk op name n pos a cap kids).kids=kids.sorts.t from (sorts_t kids).symm] at hcall
  simp only [Nd.val_def] at hcall
  have HF:=Lib.hid hcall
  have HT:=Lib.hid hT
  have HI:=Lib.hid hin
  have HB:=Lib.hid (new_at w (boxOf op name n pos a kids.len cap))
  have HZ:=Lib.hid (lt_heap HB.out)
  have HJT:=Lib.hid hj
  clear hcall hkT hkV hkK hinW hTW hin hT hsz hb0 hj
  by_cases hf:fitB false name 0 0 n 2 2 kids.len kids.sorts.t=true
  ·have hR2:stepT op name n kids.len kids.sorts.t kids.sorts.v kids.sorts.n kids.second = !kids.second:=by rw [hR,HJT.out,hf];rfl
   have HR:=Lib.hid hR2
   have HFT:=Lib.hid hf
   have hlen:kids.len=2:=by
    unfold fitB at hf
    simp only [Bool.and_eq_true,decide_eq_true_eq] at hf
    omega
   have HL:=Lib.hid hlen
   clear hR hR2 hf hlen
   rw [Nd.val_def]
   obtain ⟨kb,ko,hab,hlim,hpos,hkin⟩:∃ b o,a=some ⟨b,o,none⟩∧kids.len≤140737488351232∧(0 < kids.len∧w.frozen? ⟨b,o,none⟩=false)∧kids.In w b o:=by
    rcases HI.out with h | h
    ·have h':kids=.nil:=h
     have:=HL.out
     rw [h'] at this
     cases this
    ·exact h
   subst hab
   obtain ⟨op1,name1,n1,pos1,a1,cap1,kids1,op2,name2,n2,pos2,a2,cap2,kids2,hkk⟩:∃ op1 name1 n1 pos1 a1 cap1 kids1 op2 name2 n2 pos2 a2 cap2 kids2,kids=.cons op1 name1 n1 pos1 a1 cap1 kids1 (.cons op2 name2 n2 pos2 a2 cap2 kids2 .nil):=by
    have h2:=HL.out
    cases kids with
    | nil=>cases h2
    | cons op1 name1 n1 pos1 a1 cap1 kids1 r =>
     cases r with
     | nil=>cases h2
     | cons op2 name2 n2 pos2 a2 cap2 kids2 r2 =>
      cases r2 with
      | nil=>exact ⟨_,_,_,_,_,_,_,_,_,_,_,_,_,_,rfl⟩
      | cons=>simp [Fo.len] at h2
   have hn2:NodeAt w kb (ko+5) op2 name2 n2 pos2 a2 kids2.len cap2:=by rw [hkk] at hkin;exact hkin.2.2.1
   have HR2:RowKit.Hid (stepT op name n kids.len kids.sorts.t kids.sorts.v kids.sorts.n kids.second = !isJoin op2):=Lib.hid (by rw [HR.out,hkk];rfl)
   have HN2:=Lib.hid hn2
   have HKK:=Lib.hid hkk
   clear hkin hkk hn2 HR
   go_enter Tryd.func121,Tryd.ntmps121
   go_wp2_with fail
   refine HJ.out.mono ?_
   rintro e w2 ⟨rfl,hb2⟩
   rw [HJT.out]
   have hbb:=box_then hb2
   have HB2:=Lib.hid ((hb2.block _ HZ.out).trans HB.out)
   obtain ⟨b0,b1,b2,b3,b4⟩:=box_cells HB2.out
   have HF2:=Lib.hid (HF.out w2 (HT.out.below hbb) (HI.out.below hbb))
   clear hb2 HJ
   go_wp2_with fail
   refine HF2.out.mono ?_
   rintro e w3 ⟨rfl,hb3⟩
   rw [HFT.out]
   clear b0 b1 b2 b3 b4
   obtain ⟨b0,b1,b2,b3,b4⟩:=box_cells (show w3.heap[w.heap.size]? = _ from (hb3.block _ (lt_heap HB2.out)).trans HB2.out)
   have hb4:=hbb.trans (hb3.mono hbb.size)
   obtain ⟨c0,c1,c2,c3,c4⟩:=HN2.out.below hb4
   rw [HL.out] at b4
   have HJ2:=Lib.hid (joins_any op2 name2 n2 pos2 a2 kids2.len cap2 w3)
   clear hb3 HF2
   go_wp2_with fail
   refine HJ2.out.mono ?_
   rintro e w4 ⟨rfl,hb5⟩
   have hb6:=hb4.trans (hb5.mono hb4.size)
   clear hb5 HJ2
   go_wp2_with fail
   go_ret
   exact ⟨by rw [HR2.out];rfl,hb6⟩
  ·have hf2:fitB false name 0 0 n 2 2 kids.len kids.sorts.t=false:=by simpa using hf
   have HR:=Lib.hid (show stepT op name n kids.len kids.sorts.t kids.sorts.v kids.sorts.n kids.second=false from by rw [hR,hf2];simp)
   have HFT:=Lib.hid hf2
   clear hR hf hf2
   rw [Nd.val_def]
   go_enter Tryd.func121,Tryd.ntmps121
   go_wp2_with fail
   refine HJ.out.mono ?_
   rintro e w2 ⟨rfl,hb2⟩
   rw [HJT.out]
   have hbb:=box_then hb2
   obtain ⟨b0,b1,b2,b3,b4⟩:=box_cells (show w2.heap[w.heap.size]? = _ from (hb2.block _ HZ.out).trans HB.out)
   have HF2:=Lib.hid (HF.out w2 (HT.out.below hbb) (HI.out.below hbb))
   clear hb2 HJ
   go_wp2_with fail
   refine HF2.out.mono ?_
   rintro e w3 ⟨rfl,hb3⟩
   rw [HFT.out]
   have hb4:=hbb.trans (hb3.mono hbb.size)
   clear hb3 HF2
   go_wp2_with fail
   go_ret
   exact ⟨by rw [HR.out];rfl,hb4⟩
 ·have hj2:isJoin op=false:=by simpa using hj
  have HR:=Lib.hid (show stepT op name n kids.len kids.sorts.t kids.sorts.v kids.sorts.n kids.second=false from by rw [hR,hj2];rfl)
  have HJT:=Lib.hid hj2
  clear hkT hkV hkK hinW hTW hin hT hsz hb0 hj hj2 hR
  rw [Nd.val_def]
  go_enter Tryd.func121,Tryd.ntmps121
  go_wp2_with fail
  refine HJ.out.mono ?_
  rintro e w2 ⟨rfl,hb2⟩
  rw [HJT.out]
  have hbb:=box_then hb2
  clear hb2 HJ
  go_wp2_with fail
  go_ret
  exact ⟨by rw [HR.out];rfl,hbb⟩
end Go.Proofs.YtmlmjopfbohglaaDoor
namespace Go.Proofs.YtmlmjopfbohglaaDoor
open Go.RowKit
theorem Fo.All.imp {P Q:Nd→Prop} (h:∀ T,P T→Q T):∀ {F:Fo},Fo.All P F→Fo.All Q F:=by
 intro F
 induction F with
 | nil=>intro _;trivial
 | cons op name n pos a cap kids rest ihk ihr=>intro hf;exact ⟨h _ hf.1,ihr hf.2⟩
set_option maxRecDepth 100000 in
set_option maxHeartbeats 8000000 in
theorem variable_of (T:Nd) (h:TellT Nd.okT T):TellV Nd.okV T:=by
 intro w hT hin hsz
 obtain ⟨op,name,n,pos,a,cap,kids⟩:=T
 have hc5:=cellsNode
 have hb0:=below_box w (boxOf op name n pos a kids.len cap)
 have hcall:=h _ (hT.below hb0) (hin.below hb0) hsz
 show Calls _ _ _ w fun e w'=>e=.returned (.bool (op.toList == [118,97,114] && (Nd.mk op name n pos a cap kids).okT))∧_
 generalize (Nd.mk op name n pos a cap kids).okT=b at hcall
 rw [Nd.val_def] at hcall
 have HC:=Lib.hid hcall
 clear hcall h hT hin hsz hb0
 rw [Nd.val_def]
 by_cases o1:op.toList=[118,97,114]
 ·have e1:(op.toList == [118,97,114])=true:=by simp [o1]
  rw [e1]
  clear o1
  go_enter Tryd.func148,Tryd.ntmps148
  go_wp2_with fail
  refine HC.out.mono ?_
  rintro e w2 ⟨rfl,hb2⟩
  have hbb:=box_then hb2
  clear hb2 HC
  go_wp2_with fail
  go_ret
  exact ⟨rfl,hbb⟩
 ·have e1:(op.toList == [118,97,114])=false:=by simp [o1]
  rw [e1]
  clear o1
  go_enter Tryd.func148,Tryd.ntmps148
  go_wp2_with fail
  go_ret
  exact ⟨rfl,below_box _ _⟩
set_option maxRecDepth 100000 in
set_option maxHeartbeats 8000000 in
theorem number_of (T:Nd) (h:TellT Nd.okT T):TellK Nd.okN T:=by
 intro w hT hin hsz
 obtain ⟨op,name,n,pos,a,cap,kids⟩:=T
 have hc5:=cellsNode
 have hb0:=below_box w (boxOf op name n pos a kids.len cap)
 have hcall:∀ W,Below w.heap.size w W→_:=fun W hb=>h W (hT.below hb) (hin.below hb) hsz
 show Calls _ _ _ w fun e w'=>e=.returned (.bool (!(op.toList == [115,101,116]) && !isJoin op && (Nd.mk op name n pos a cap kids).okT))∧_
 generalize (Nd.mk op name n pos a cap kids).okT=b at hcall
 simp only [Nd.val_def] at hcall
 have HC:=Lib.hid hcall
 have HJ:=Lib.hid (joins_any op name n pos a kids.len cap (w.alloc (boxOf op name n pos a kids.len cap)))
 have HB:=Lib.hid (new_at w (boxOf op name n pos a kids.len cap))
 have HZ:=Lib.hid (lt_heap HB.out)
 clear hcall h hT hin hsz hb0
 rw [Nd.val_def]
 by_cases o1:op.toList=[115,101,116]
 ·have e1:(op.toList != [115,101,116])=false:=by simp [o1]
  have e2:(op.toList == [115,101,116])=true:=by simp [o1]
  rw [e2]
  clear o1
  go_enter Tryd.func149,Tryd.ntmps149
  go_wp2_with fail
  go_ret
  exact ⟨rfl,below_box _ _⟩
 ·have e1:(op.toList != [115,101,116])=true:=by simp [o1]
  have e2:(op.toList == [115,101,116])=false:=by simp [o1]
  rw [e2]
  clear o1
  generalize isJoin op=j at HJ
  cases j with
  | true =>
   go_enter Tryd.func149,Tryd.ntmps149
   go_wp2_with fail
   refine HJ.out.mono ?_
   rintro e w2 ⟨rfl,hb2⟩
   have hbb:=box_then hb2
   clear hb2 HJ
   go_wp2_with fail
   go_ret
   exact ⟨rfl,hbb⟩
  | false =>
   go_enter Tryd.func149,Tryd.ntmps149
   go_wp2_with fail
   refine HJ.out.mono ?_
   rintro e w2 ⟨rfl,hb2⟩
   have hbb:=box_then hb2
   obtain ⟨b0,b1,b2,b3,b4⟩:=box_cells (show w2.heap[w.heap.size]? = _ from (hb2.block _ HZ.out).trans HB.out)
   have HC2:=Lib.hid (HC.out w2 hbb)
   clear hb2 HJ HC
   go_wp2_with fail
   refine HC2.out.mono ?_
   rintro e w3 ⟨rfl,hb3⟩
   have hb4:=hbb.trans (hb3.mono hbb.size)
   clear hb3 HC2
   go_wp2_with fail
   go_ret
   exact ⟨rfl,hb4⟩
theorem terms_all (T:Nd):TellT Nd.okT T∧TellV Nd.okV T∧TellK Nd.okN T:=by
 refine Nd.all_of (P:=fun T=>TellT Nd.okT T∧TellV Nd.okV T∧TellK Nd.okN T) (fun T hk=>?_) T
 have h:=term_of T (hk.imp fun _ h=>h.1) (hk.imp fun _ h=>h.2.1) (hk.imp fun _ h=>h.2.2)
 exact ⟨h,variable_of T h,number_of T h⟩
theorem formulas_all (T:Nd):TellF Nd.okF T:=by
 refine Nd.all_of (P:=TellF Nd.okF) (fun T hk=>?_) T
 exact formula_of T hk (Fo.all_of (fun T _=>(terms_all T).1) T.kids)
set_option maxRecDepth 100000 in
set_option maxHeartbeats 4000000 in
theorem tsize_any (T:Nd) (w:World) (hT:T.In w):Calls Tryd.prog 79 #[T.val] w fun e w'=>e=.returned (.int .i64 (min (T.size:Int) 2001))∧Below w.heap.size w w':=by
 obtain ⟨op,name,n,pos,a,cap,kids⟩:=T
 have hc:=sizeUpTo_any ⟨op,name,n,pos,a,cap,kids⟩ 2001 (w.alloc (boxOf op name n pos a kids.len cap)) (by omega) (by omega) (hT.below (below_box _ _))
 have HC:=Lib.hid hc
 have hc5:=cellsNode
 clear hc hT
 rw [Nd.val_def]
 go_enter Tryd.func79,Tryd.ntmps79
 go_wp2_with fail
 refine HC.out.mono ?_
 rintro e w2 ⟨rfl,hb2⟩
 go_wp2
 go_ret
 exact ⟨rfl,box_then hb2⟩
end Go.Proofs.YtmlmjopfbohglaaDoor
