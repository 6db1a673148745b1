/- Parts of the proof: RefA. -/
import Derived.Test.YtmlmjopfbohglaaDoorWd02
namespace Go.Proofs.YtmlmjopfbohglaaDoor
open Go.RowKit
set_option maxHeartbeats 1000000 in
theorem rclass_any (r:Int) (w:World) :
  Calls Tryd.prog 114 #[.int .i32 r] w fun e w'=>e=.returned (.int .i64 (cls r))∧w=w':=by
 go_enter Tryd.func114,Tryd.ntmps114
 go_upto_block 0 with fail
 go_cut [] from 5 (fun wc=>w=wc∧noOther r)
 case first =>
  go_wp2
  all_goals first
   | (go_ret;refine ⟨ret_int ?_,rfl⟩;go_light;(try simp only [beq_iff_eq,beq_eq_false_iff_ne,ne_eq] at *);first | exact cls1 (by unfold isLet;omega) | exact cls2 (by omega) | exact cls3 (by omega))
   | (go_meet;case rel=>(refine ⟨rfl,?_⟩;go_light;(try simp only [beq_eq_false_iff_ne,ne_eq] at *);exact ⟨by unfold isLet;omega,by omega,by omega⟩))
 case rest =>
  obtain ⟨rfl,hno⟩:=hcut
  go_wp2
  go_loop [4] (fun i=>∃ k:Nat,k≤17∧i=.int .i64 k∧noSgn r k) (fun i=>17 - (intOf i).toNat)
  case atStart=>exact ⟨0,by omega,rfl,by simp [noSgn]⟩
  case round =>
   obtain ⟨k,hk,rfl,hs⟩:=hrel
   by_cases hlt:k < 17
   ·have hsg:=all17 k hlt
    by_cases he:r=sgn[k]'hlt
    ·have h1:(r == sgn[k]'hlt)=true:=by simpa using he
     have h4:=Lib.hid (cls4k r k hlt he)
     clear he
     go_wp2
     go_ret
     exact ⟨ret_int h4.out,rfl⟩
    ·have h1:(r == sgn[k]'hlt)=false:=by simpa using he
     have h4:=noSgn_succ r k hlt hs he
     clear he
     go_wp2
     go_round
     case rel=>exact ⟨k+1,by omega,by go_num,h4⟩
     case measure=>simp [intOf];omega
   ·have h0:=Lib.hid (cls0k r k hno (by omega) hs)
    go_wp2
    go_ret
    exact ⟨ret_int h0.out,rfl⟩
end Go.Proofs.YtmlmjopfbohglaaDoor
namespace Go.Proofs.YtmlmjopfbohglaaDoor
open Go.RowKit
theorem go_decode (s:ByteArray) (pos:Nat) (hp:pos < s.size):Lib.decodeGo (s.extract pos s.size)=Utf8.decode s pos:=by
 unfold Lib.decodeGo
 rw [Lib.tail_size,if_neg (by omega),Lib.tail_decode,Nat.add_zero]
set_option maxRecDepth 1000000 in
set_option maxHeartbeats 2000000 in
theorem reach_any (s:ByteArray) (w:World) (hs:s.size≤1000000) (hT:Lib.Utf8Tabs 0 1 w) :
  Calls Tryd.prog 54 #[.string s] w (EachPost s w):=by
 obtain ⟨i0,hi,hz0,hz1,hz2⟩:=info_parts Tryd.infoRune
 go_enter Tryd.func54,Tryd.ntmps54
 go_wp2
 go_loopw [4,5] (fun v i wr=>∃ (pos b:Nat) (acc:List (Int × Int)),i=.int .i64 pos∧pos≤s.size∧wr.ownsRow w.heap.size 128 2 v acc.length (flat acc)∧Below w.heap.size w wr∧Hid (soFar s acc b pos)∧s.size≤pos+b∧acc.length≤pos) (fun _ i wr=>s.size - (intOf i).toNat)
 case atStart=>exact ⟨0,s.size,[],rfl,by omega,World.ownsRow_nil _ _ _ _,Below.refl _ _,soFar_start s,by omega,by simp⟩
 case round =>
  obtain ⟨pos,b,acc,rfl,hps,hown,hbw,HS,hb,hlen⟩:=hrel
  by_cases hp:pos < s.size
  ·have hwd:=width_pos s pos hp
   have hwl:=width_le s pos hp
   have hTr:=Utf8Tabs_below hT hbw
   obtain ⟨b,rfl⟩:∃ f',b=f'+1:=⟨b - 1,by omega⟩
   go_wp2_with fail
   refine (Tryd.utf8_DecodeRuneInString _ _ hTr).mono ?_
   rintro e w1 ⟨rfl,hb1⟩
   rw [go_decode s pos hp]
   have hown1:=own_below hown hb1
   have hbw1:Below w.heap.size w w1:=hbw.trans (hb1.mono hbw.size)
   have hz1':=hbw1.size
   clear hown hb1 hTr
   by_cases hbad:badAt s pos
   ·have hr1:(((Utf8.decode s pos).1:Int) == 65533)=true:=by rw [beq_iff_eq];have:=hbad.1;omega
    have hn:((Utf8.decode s pos).2:Int) < 2:=by have:=hbad.2;omega
    have hX:=soFar_bad s acc b pos hp hbad HS.out
    have H1:=Lib.hid hX.1
    have H2:=Lib.hid hX.2
    clear hX HS hbad
    go_wp2
    go_ret2
    exact ⟨u4,ret_v H2.out,by rw [← H1.out];exact hown1,hbw1⟩
   ·have R:=soFar_one s acc b pos hp hbad HS.out
    have HS':=Lib.hid R
    clear R HS
    by_cases hr:(Utf8.decode s pos).1=65533
    ·have hr1:(((Utf8.decode s pos).1:Int) == 65533)=true:=by rw [beq_iff_eq];omega
     have hn:2≤((Utf8.decode s pos).2:Int):=by unfold badAt at hbad;omega
     clear hr hbad
     go_wp2_with (at_builtin;refine wpList_append_own _ rfl _ _ 104 rfl w.heap.size 128 i0 (.agg #[.int .i32 0,.int .i64 0]) 2 16 Tryd.underlying104 hi hz0 hz1 hz2 rfl (by decide) _ _ _ rfl (hown1.alloc _) ⟨w1.heap.size,0,none⟩ 1 1 [.int .i32 ((Utf8.decode s pos).1:Int),.int .i64 (pos:Int)] rfl rfl (cell_two_new _ _ _ _) (fun x hx=>by simp at hx;rcases hx with rfl | rfl <;> rfl) (by unfold maxLen;omega) (by omega) (by simp;omega) ?_;intro v' w3 hown' hgrow3 hnil3)
     have hbw3:Below w.heap.size w w3:=Below.grown (hbw1.alloc (by omega) _) hgrow3 (by simp;omega) (fun j hj=>(hown1.lt _ hj).1)
     rw [← flat_snoc acc ((((Utf8.decode s pos).1:Int),(pos:Int)))] at hown'
     go_wp2
     go_roundw
     case rel=>exact ⟨pos+(Utf8.decode s pos).2,b,acc ++ [((((Utf8.decode s pos).1:Int),(pos:Int)))],by go_num,hwl,by simpa using hown',hbw3,HS'.out,by omega,by simp;omega⟩
     case measure=>simp [intOf];omega
    ·have hrb:(((Utf8.decode s pos).1:Int) == 65533)=false:=by rw [beq_eq_false_iff_ne];omega
     clear hr hbad
     go_wp2_with (at_builtin;refine wpList_append_own _ rfl _ _ 104 rfl w.heap.size 128 i0 (.agg #[.int .i32 0,.int .i64 0]) 2 16 Tryd.underlying104 hi hz0 hz1 hz2 rfl (by decide) _ _ _ rfl (hown1.alloc _) ⟨w1.heap.size,0,none⟩ 1 1 [.int .i32 ((Utf8.decode s pos).1:Int),.int .i64 (pos:Int)] rfl rfl (cell_two_new _ _ _ _) (fun x hx=>by simp at hx;rcases hx with rfl | rfl <;> rfl) (by unfold maxLen;omega) (by omega) (by simp;omega) ?_;intro v' w3 hown' hgrow3 hnil3)
     have hbw3:Below w.heap.size w w3:=Below.grown (hbw1.alloc (by omega) _) hgrow3 (by simp;omega) (fun j hj=>(hown1.lt _ hj).1)
     rw [← flat_snoc acc ((((Utf8.decode s pos).1:Int),(pos:Int)))] at hown'
     go_wp2
     go_roundw
     case rel=>exact ⟨pos+(Utf8.decode s pos).2,b,acc ++ [((((Utf8.decode s pos).1:Int),(pos:Int)))],by go_num,hwl,by simpa using hown',hbw3,HS'.out,by omega,by simp;omega⟩
     case measure=>simp [intOf];omega
  ·have hX:=soFar_end s acc b pos hp HS.out
   have H1:=Lib.hid hX.1
   have H2:=Lib.hid hX.2
   clear hX HS
   go_wp2
   go_ret2
   exact ⟨u4,ret_v H2.out,by rw [← H1.out];exact hown,hbw⟩
end Go.Proofs.YtmlmjopfbohglaaDoor
namespace Go.Proofs.YtmlmjopfbohglaaDoor
open Go.RowKit
def Rd (w:World) (R:Nat) (s:ByteArray) (lv:Value) (bad i:Int):Prop:=w.heap[R]? = some (.cells #[.string s,lv,.int .i64 bad,.int .i64 i] 106)
structure RS (w:World) (R:Nat) (s:ByteArray) (lv:Value) (L:RL) (bad:Int) (i:Nat):Prop where
 rd:Rd w R s lv bad i
 row:w.ownsRow (R+1) 128 2 lv L.length (flat L)
 le:i≤L.length
 sz:L.length≤1000000
theorem rd_cells {w:World} {R:Nat} {s:ByteArray} {lv:Value} {bad i:Int} (h:Rd w R s lv bad i):(w.cell? ⟨R,0,none⟩=some (.string s)∧w.cell? ⟨R,1,none⟩=some lv∧w.cell? ⟨R,2,none⟩=some (.int .i64 bad)∧w.cell? ⟨R,3,none⟩=some (.int .i64 i))∧(w.frozen? ⟨R,0,none⟩=false∧w.frozen? ⟨R,1,none⟩=false∧w.frozen? ⟨R,2,none⟩=false∧w.frozen? ⟨R,3,none⟩=false):=by
 unfold Rd at h
 refine ⟨⟨?_,?_,?_,?_⟩,⟨?_,?_,?_,?_⟩⟩
 all_goals first | (rw [cell_of_row w R _ _ _ _ h];rfl) | simp [World.frozen?,h]
theorem Rd.lt {w:World} {R:Nat} {s:ByteArray} {lv:Value} {bad i:Int} (h:Rd w R s lv bad i):R < w.heap.size:=(Array.getElem?_eq_some_iff.1 h).1
theorem Rd.below {w w':World} {R:Nat} {s:ByteArray} {lv:Value} {bad i:Int} (h:Rd w R s lv bad i) (hb:Below w.heap.size w w'):Rd w' R s lv bad i:=by
 unfold Rd at *
 rw [hb.block R (Array.getElem?_eq_some_iff.1 h).1];exact h
theorem RS.below {w w':World} {R:Nat} {s:ByteArray} {lv:Value} {L:RL} {bad:Int} {i:Nat} (h:RS w R s lv L bad i) (hb:Below w.heap.size w w'):RS w' R s lv L bad i :=
 ⟨h.rd.below hb,own_below h.row hb,h.le,h.sz⟩
theorem RS.slice {w:World} {R:Nat} {s:ByteArray} {lv:Value} {L:RL} {bad:Int} {i:Nat} (h:RS w R s lv L bad i):∃ a cap,lv=.slice a L.length cap∧(0 < L.length→∃ g,a=some ⟨g,0,none⟩∧R < g∧g < w.heap.size∧∀ j (hj:j < L.length),w.cell? ⟨g,j * 2,none⟩=some (.int .i32 (L[j]'hj).1)∧w.cell? ⟨g,j * 2+1,none⟩=some (.int .i64 (L[j]'hj).2)):=by
 have hr:=h.row
 rcases h.row.2 with ⟨rfl,h0⟩ | ⟨g,cap,cur,rfl,hg,hc⟩
 ·exact ⟨none,0,by rw [h0],fun hn=>by omega⟩
 ·refine ⟨_,cap,rfl,fun _=>⟨g,rfl,by omega,(hr.lt g rfl).2,fun j hj=>?_⟩⟩
  exact ⟨(hr.cellAt (j * 2) (by omega)).trans (flat_get0 L j hj),(hr.cellAt (j * 2+1) (by omega)).trans (flat_get1 L j hj)⟩
def clsAt (L:RL) (j:Nat):Int:=match L[j]? with
 | some q=>cls q.1
 | none=>-1
def isAt (L:RL) (j:Nat) (c:Int):Bool:=match L[j]? with
 | some q=>q.1 == c
 | none=>false
def posAt (s:ByteArray) (L:RL) (j:Nat):Int:=match L[j]? with
 | some q=>q.2
 | none=>s.size
theorem quiet_more {P:Program} {f:FuncId} {args:Array Value} {w:World} {a n:Nat} {v:Value}
  (h:Calls P f args (w.drewN (a+n)) fun e w'=>e=.returned v∧w.drewN (a+n)=w') :
  Calls P f args (w.drewN (a+n)) fun e w''=>e=.returned v∧∃ m,w''=w.drewN (a+m) :=
 h.mono fun _ _ hx=>⟨hx.1,n,hx.2.symm⟩
set_option maxRecDepth 100000 in
set_option maxHeartbeats 2000000 in
theorem rdclass_any (w:World) (R:Nat) (s:ByteArray) (lv:Value) (L:RL) (bad:Int) (i k:Nat) (hS:RS w R s lv L bad i) (hk:k≤1000000) :
  Calls Tryd.prog 85 #[.pointer (some ⟨R,0,none⟩),.int .i64 k] w fun e w'=>e=.returned (.int .i64 (clsAt L (i+k)))∧∃ q,w'=w.drewN q:=by
 obtain ⟨⟨k0,k1,k2,k3⟩,f0,f1,f2,f3⟩:=rd_cells hS.rd
 obtain ⟨a,cap,rfl,hrow⟩:=hS.slice
 have hle:=hS.le
 have hsz:=hS.sz
 have hw1:IntKind.i64.wrap ((i:Int)+(k:Int))=(i:Int)+(k:Int):=by rw [IntKind.wrap_i64];omega
 by_cases h:i+k < L.length
 ·obtain ⟨g,rfl,hg,hgs,hcells⟩:=hrow (by omega)
  have hc0:=(hcells (i+k) h).1
  have hv:clsAt L (i+k)=cls (L[i+k]'h).1:=by unfold clsAt;rw [List.getElem?_eq_getElem h]
  rw [hv]
  generalize (L[i+k]'h)=q at hc0
  have hlt:(i:Int)+(k:Int) < (L.length:Int):=by omega
  have h0:0≤(i:Int)+(k:Int):=by omega
  have hnat:((i:Int)+(k:Int)).toNat=i+k:=by omega
  clear hrow hcells hv hS h
  go_enter Tryd.func85,Tryd.ntmps85
  go_wp2
  go_quiet (fail)
  go_wp2
  go_quiet ((go_at_call 114;exact quiet_more (rclass_any _ _)))
  go_wp2
  go_ret
  exact ⟨rfl,_,by rw [World.drewN_drewN]⟩
 ·have hv:clsAt L (i+k) = -1:=by unfold clsAt;rw [List.getElem?_eq_none (by omega)]
  rw [hv]
  have hge:(L.length:Int)≤(i:Int)+(k:Int):=by omega
  have hge':L.length≤i+k:=by omega
  have hgd:decide ((L.length:Int)≤(i:Int)+(k:Int))=true:=by rw [decide_eq_true_iff];omega
  clear hrow hv hS h
  go_enter Tryd.func85,Tryd.ntmps85
  go_wp2
  go_quiet (fail)
  go_wp2
  go_ret
  exact ⟨rfl,_,rfl⟩
set_option maxRecDepth 100000 in
set_option maxHeartbeats 2000000 in
theorem rdis_any (w:World) (R:Nat) (s:ByteArray) (lv:Value) (L:RL) (bad c:Int) (i k:Nat) (hS:RS w R s lv L bad i) (hk:k≤1000000) :
  Calls Tryd.prog 86 #[.pointer (some ⟨R,0,none⟩),.int .i64 k,.int .i32 c] w fun e w'=>e=.returned (.bool (isAt L (i+k) c))∧∃ q,w'=w.drewN q:=by
 obtain ⟨⟨k0,k1,k2,k3⟩,f0,f1,f2,f3⟩:=rd_cells hS.rd
 obtain ⟨a,cap,rfl,hrow⟩:=hS.slice
 have hle:=hS.le
 have hsz:=hS.sz
 have hw1:IntKind.i64.wrap ((i:Int)+(k:Int))=(i:Int)+(k:Int):=by rw [IntKind.wrap_i64];omega
 by_cases h:i+k < L.length
 ·obtain ⟨g,rfl,hg,hgs,hcells⟩:=hrow (by omega)
  have hc0:=(hcells (i+k) h).1
  have hv:isAt L (i+k) c=((L[i+k]'h).1 == c):=by unfold isAt;rw [List.getElem?_eq_getElem h]
  rw [hv]
  generalize (L[i+k]'h)=q at hc0
  have hlt:(i:Int)+(k:Int) < (L.length:Int):=by omega
  have h0:0≤(i:Int)+(k:Int):=by omega
  have hnat:((i:Int)+(k:Int)).toNat=i+k:=by omega
  clear hrow hcells hv hS h
  go_enter Tryd.func86,Tryd.ntmps86
  go_wp2
  go_quiet (fail)
  go_wp2
  go_ret
  exact ⟨rfl,_,rfl⟩
 ·have hv:isAt L (i+k) c=false:=by unfold isAt;rw [List.getElem?_eq_none (by omega)]
  rw [hv]
  have hge:(L.length:Int)≤(i:Int)+(k:Int):=by omega
  have hge':L.length≤i+k:=by omega
  have hgd:decide ((i:Int)+(k:Int) < (L.length:Int))=false:=by rw [decide_eq_false_iff_not];omega
  clear hrow hv hS h
  go_enter Tryd.func86,Tryd.ntmps86
  go_wp2
  go_quiet (fail)
  go_wp2
  go_ret
  exact ⟨rfl,_,rfl⟩
set_option maxRecDepth 100000 in
set_option maxHeartbeats 2000000 in
theorem rdat_any (w:World) (R:Nat) (s:ByteArray) (lv:Value) (L:RL) (bad:Int) (i k:Nat) (hS:RS w R s lv L bad i) (hk:k≤1000000) :
  Calls Tryd.prog 56 #[.pointer (some ⟨R,0,none⟩),.int .i64 k] w fun e w'=>e=.returned (.int .i64 (posAt s L (i+k)))∧∃ q,w'=w.drewN q:=by
 obtain ⟨⟨k0,k1,k2,k3⟩,f0,f1,f2,f3⟩:=rd_cells hS.rd
 obtain ⟨a,cap,rfl,hrow⟩:=hS.slice
 have hle:=hS.le
 have hsz:=hS.sz
 have hw1:IntKind.i64.wrap ((i:Int)+(k:Int))=(i:Int)+(k:Int):=by rw [IntKind.wrap_i64];omega
 by_cases h:i+k < L.length
 ·obtain ⟨g,rfl,hg,hgs,hcells⟩:=hrow (by omega)
  have hc0:=(hcells (i+k) h).2
  have hv:posAt s L (i+k)=(L[i+k]'h).2:=by unfold posAt;rw [List.getElem?_eq_getElem h]
  rw [hv]
  generalize (L[i+k]'h)=q at hc0
  have hlt:(i:Int)+(k:Int) < (L.length:Int):=by omega
  have h0:0≤(i:Int)+(k:Int):=by omega
  have hnat:((i:Int)+(k:Int)).toNat=i+k:=by omega
  clear hrow hcells hv hS h
  go_enter Tryd.func56,Tryd.ntmps56
  go_wp2
  go_quiet (fail)
  go_wp2
  refine wp_region_quiet_lit (by kernel_rfl) (by kernel_rfl) ?_
  repeat (any_goals (first | go_big_quiet_step (fail) | quiet_step (fail)))
  all_goals (refine wpQuiet_nil ?_;intro _ hw';obtain ⟨nq2,hw''⟩:=hw';subst hw'')
  go_wp2
  go_ret
  exact ⟨rfl,_,by rw [World.drewN_drewN]⟩
 ·have hv:posAt s L (i+k)=s.size:=by unfold posAt;rw [List.getElem?_eq_none (by omega)]
  rw [hv]
  have hge:(L.length:Int)≤(i:Int)+(k:Int):=by omega
  have hge':L.length≤i+k:=by omega
  clear hrow hv hS h
  go_enter Tryd.func56,Tryd.ntmps56
  go_wp2
  go_quiet (fail)
  go_wp2
  go_ret
  exact ⟨rfl,_,rfl⟩
end Go.Proofs.YtmlmjopfbohglaaDoor
namespace Go.Proofs.YtmlmjopfbohglaaDoor
open Go.RowKit
theorem RS.set {w:World} {R:Nat} {s:ByteArray} {lv:Value} {L:RL} {bad:Int} {i:Nat} (h:RS w R s lv L bad i) (j:Nat) (hj:j≤L.length):RS (w.setCell ⟨R,3,none⟩ (.int .i64 j)) R s lv L bad j:=by
 refine ⟨?_,ownsRow_setCell_below h.row (show R < R+1 by omega) _,hj,h.sz⟩
 have h0:=heap_setCell_same w R 3 _ _ (.int .i64 j) h.rd
 exact h0
theorem grown_set (w:World) (R:Nat) (v:Value):w.grownBy (w.setCell ⟨R,3,none⟩ v) (some R) :=
 ⟨rfl,rfl,rfl,by simp,fun k _ hk=>heap_setCell_other w ⟨R,3,none⟩ k v (fun e=>hk (by simp [e]))⟩
theorem grown_refl (w:World) (r:Option Nat):w.grownBy w r:=⟨rfl,rfl,rfl,Nat.le_refl _,fun _ _ _=>rfl⟩
theorem grown_of_below {w w':World} (h:Below w.heap.size w w') (r:Option Nat):w.grownBy w' r:=⟨h.os,h.tape,h.output,h.size,fun k hk _=>h.block k hk⟩
theorem below_dn (w:World) (n:Nat):Below w.heap.size w (w.drewN n):=below_drewN (Below.refl _ _) n
theorem RS.drewN {w:World} {R:Nat} {s:ByteArray} {lv:Value} {L:RL} {bad:Int} {i:Nat} (h:RS w R s lv L bad i) (n:Nat):RS (w.drewN n) R s lv L bad i:=h.below (below_dn w n)
theorem rdclass0 (w:World) (R:Nat) (s:ByteArray) (lv:Value) (L:RL) (bad:Int) (i:Nat) (c:Int) (hS:RS w R s lv L bad i) (hc:clsAt L i=c) :
  Calls Tryd.prog 85 #[.pointer (some ⟨R,0,none⟩),.int .i64 0] w fun e w'=>e=.returned (.int .i64 c)∧∃ q,w'=w.drewN q:=by
 rw [← hc];exact rdclass_any w R s lv L bad i 0 hS (by omega)
theorem rdis0 (w:World) (R:Nat) (s:ByteArray) (lv:Value) (L:RL) (bad:Int) (i:Nat) (c:Int) (b:Bool) (hS:RS w R s lv L bad i) (hb:isAt L i c=b) :
  Calls Tryd.prog 86 #[.pointer (some ⟨R,0,none⟩),.int .i64 0,.int .i32 c] w fun e w'=>e=.returned (.bool b)∧∃ q,w'=w.drewN q:=by
 rw [← hb];exact rdis_any w R s lv L bad c i 0 hS (by omega)
theorem rdat0 (w:World) (R:Nat) (s:ByteArray) (lv:Value) (L:RL) (bad:Int) (i:Nat) (hS:RS w R s lv L bad i) :
  Calls Tryd.prog 56 #[.pointer (some ⟨R,0,none⟩),.int .i64 0] w fun e w'=>e=.returned (.int .i64 (posAt s L i))∧∃ q,w'=w.drewN q :=
 rdat_any w R s lv L bad i 0 hS (by omega)
theorem drop_at (L:RL) (j:Nat) (h:j < L.length):L.drop j=(L[j]'h) :: L.drop (j+1):=List.drop_eq_getElem_cons h
theorem clsAt_in (L:RL) (j:Nat) (h:j < L.length):clsAt L j=cls (L[j]'h).1:=by unfold clsAt;rw [List.getElem?_eq_getElem h]
theorem clsAt_out (L:RL) (j:Nat) (h:¬ j < L.length):clsAt L j = -1:=by unfold clsAt;rw [List.getElem?_eq_none (by omega)]
theorem isAt_in (L:RL) (j:Nat) (c:Int) (h:j < L.length):isAt L j c=((L[j]'h).1 == c):=by unfold isAt;rw [List.getElem?_eq_getElem h]
theorem isAt_out (L:RL) (j:Nat) (c:Int) (h:¬ j < L.length):isAt L j c=false:=by unfold isAt;rw [List.getElem?_eq_none (by omega)]
theorem skp_lf (q:Int × Int) (M:RL) (h:q.1=10):skp true (q :: M)=skp false (q :: M):=by
 have a:skp true (q :: M)=skp false M:=by rw [skp,if_pos h]
 have b:skp false (q :: M)=skp false M:=by rw [skp,if_pos (by rw [h];decide +kernel)]
 rw [a,b]
def SkipPost (w:World) (R:Nat) (s:ByteArray) (lv:Value) (L:RL) (bad:Int) (i:Nat) (e:Ending) (w':World):Prop :=
 e=.returned (.tuple #[])∧∃ i',RS w' R s lv L bad i'∧w.grownBy w' (some R)∧i≤i'∧L.drop i'=skp false (L.drop i)
set_option maxRecDepth 100000 in
set_option maxHeartbeats 4000000 in
theorem skip_any (w:World) (R:Nat) (s:ByteArray) (lv:Value) (L:RL) (bad:Int) (i:Nat) (hS:RS w R s lv L bad i) :
  Calls Tryd.prog 55 #[.pointer (some ⟨R,0,none⟩)] w (SkipPost w R s lv L bad i):=by
 obtain ⟨a,cap,rfl,_⟩:=hS.slice
 go_enter Tryd.func55,Tryd.ntmps55
 go_wp2
 go_loopg [] (L.length+1) (fun gf wx=>∃ j,RS wx R s (.slice a L.length cap) L bad j∧w.grownBy wx (some R)∧i≤j∧Hid (skp false (L.drop j)=skp false (L.drop i))∧L.length+1≤j+gf)
 case atStart=>exact ⟨i,hS,grown_refl _ _,by omega,(rfl:skp false (L.drop i)=_),by omega⟩
 case round =>
  obtain ⟨j,hR,hg,hij,HK,hfu⟩:=hrel
  obtain ⟨g',rfl⟩:∃ g',gk=g'+1:=⟨gk - 1,by have:=hR.le;omega⟩
  have hle:=hR.le
  have hsz:=hR.sz
  clear hS
  by_cases hj:j < L.length
  ·by_cases h3:cls (L[j]'hj).1=3
   ·have hc:clsAt L j=3:=by rw [clsAt_in L j hj];exact h3
    have hne:¬ (L[j]'hj).1=35:=by intro h;rw [h,cls35] at h3;omega
    have hi35:isAt L j 35=false:=by rw [isAt_in L j 35 hj,beq_eq_false_iff_ne];exact hne
    have hsk:skp false (L.drop j)=skp false (L.drop (j+1)):=by
     conv=>lhs;rw [drop_at L j hj]
     rw [skp,if_pos h3]
    have HN:=Lib.hid (hsk.symm.trans HK.out)
    have HC:=Lib.hid hc
    have HI:=Lib.hid hi35
    clear hc hi35 hsk HK h3 hne
    go_wp2_with fail
    refine (rdclass0 _ R s _ L bad j 3 hR HC.out).mono ?_
    rintro e w2 ⟨rfl,q2,rfl⟩
    go_wp2_with fail
    refine (rdis0 _ R s _ L bad j 35 false (hR.drewN _) HI.out).mono ?_
    rintro e w3 ⟨rfl,q3,rfl⟩
    have hR3:RS ((wr.drewN q2).drewN q3) R s (.slice a L.length cap) L bad j:=(hR.drewN _).drewN _
    have hg3:w.grownBy ((wr.drewN q2).drewN q3) (some R):=(hg.trans (grown_of_below (below_dn _ _) _)).trans (grown_of_below (below_dn _ _) _)
    generalize (wr.drewN q2).drewN q3=w3 at hR3 hg3 ⊢
    obtain ⟨⟨k0,k1,k2,k3⟩,f0,f1,f2,f3⟩:=rd_cells hR3.rd
    have hRs:RS (w3.setCell ⟨R,3,none⟩ (.int .i64 ((j:Int)+1))) R s (.slice a L.length cap) L bad (j+1):=hR3.set (j+1) (by omega)
    have hgs:w.grownBy (w3.setCell ⟨R,3,none⟩ (.int .i64 ((j:Int)+1))) (some R):=hg3.trans (grown_set _ _ _)
    clear hR hg
    go_wp2
    go_loopg [] 1 (fun _ wx=>RS wx R s (.slice a L.length cap) L bad (j+1)∧w.grownBy wx (some R))
    case atStart=>exact ⟨hRs,hgs⟩
    case round =>
     obtain ⟨hRx,hgx⟩:=hrel
     clear hR3 hg3 k0 k1 k2 k3 f0 f1 f2 f3 hRs hgs
     go_wp2
     go_quiet (fail)
     go_wp2
     go_roundg g'
     case rel=>exact ⟨j+1,hRx.drewN _,hgx.trans (grown_of_below (below_dn _ _) _),by omega,HN.out,by omega⟩
     case measure=>omega
   ·by_cases h35:(L[j]'hj).1=35
    ·have hc:clsAt L j=4:=by rw [clsAt_in L j hj,h35];exact cls35
     have hi35:isAt L j 35=true:=by rw [isAt_in L j 35 hj,beq_iff_eq];exact h35
     have hsk:skp false (L.drop j)=skp true (L.drop (j+1)):=by
      conv=>lhs;rw [drop_at L j hj]
      rw [skp,if_neg h3,if_pos h35]
     have HN:=Lib.hid (hsk.symm.trans HK.out)
     have HC:=Lib.hid hc
     have HI:=Lib.hid hi35
     clear hc hi35 hsk HK h3 h35
     go_wp2_with fail
     refine (rdclass0 _ R s _ L bad j 4 hR HC.out).mono ?_
     rintro e w2 ⟨rfl,q2,rfl⟩
     go_wp2_with fail
     refine (rdis0 _ R s _ L bad j 35 true (hR.drewN _) HI.out).mono ?_
     rintro e w3 ⟨rfl,q3,rfl⟩
     have hR2:RS ((wr.drewN q2).drewN q3) R s (.slice a L.length cap) L bad j:=(hR.drewN _).drewN _
     have hg2:w.grownBy ((wr.drewN q2).drewN q3) (some R):=(hg.trans (grown_of_below (below_dn _ _) _)).trans (grown_of_below (below_dn _ _) _)
     generalize (wr.drewN q2).drewN q3=w2 at hR2 hg2 ⊢
     clear hR hg
     go_wp2_with fail
     refine (rdis0 _ R s _ L bad j 35 true hR2 HI.out).mono ?_
     rintro e w3 ⟨rfl,q4,rfl⟩
     have hR3:=hR2.drewN q4
     have hg3:w.grownBy (w2.drewN q4) (some R):=hg2.trans (grown_of_below (below_dn _ _) _)
     generalize w2.drewN q4=w3 at hR3 hg3 ⊢
     obtain ⟨⟨k0,k1,k2,k3⟩,f0,f1,f2,f3⟩:=rd_cells hR3.rd
     have hRs:RS (w3.setCell ⟨R,3,none⟩ (.int .i64 ((j:Int)+1))) R s (.slice a L.length cap) L bad (j+1):=hR3.set (j+1) (by omega)
     have hgs:w.grownBy (w3.setCell ⟨R,3,none⟩ (.int .i64 ((j:Int)+1))) (some R):=hg3.trans (grown_set _ _ _)
     clear hR2 hg2
     go_wp2
     go_loopg [] (L.length+1) (fun gf wx=>∃ m,RS wx R s (.slice a L.length cap) L bad m∧w.grownBy wx (some R)∧j < m∧Hid (skp true (L.drop m)=skp false (L.drop i))∧L.length+1≤m+gf)
     case atStart=>exact ⟨j+1,hRs,hgs,by omega,HN.out,by omega⟩
     case round =>
      obtain ⟨m,hRx,hgx,hjm,HM,hfm⟩:=hrel
      obtain ⟨h',rfl⟩:∃ h',gk=h'+1:=⟨gk - 1,by have:=hRx.le;omega⟩
      have hlm:=hRx.le
      clear hR3 hg3 k0 k1 k2 k3 f0 f1 f2 f3 hRs hgs HN HC HI
      obtain ⟨⟨k0,k1,k2,k3⟩,f0,f1,f2,f3⟩:=rd_cells hRx.rd
      by_cases hm:m < L.length
      ·by_cases h10:(L[m]'hm).1=10
       ·have hi10:isAt L m 10=true:=by rw [isAt_in L m 10 hm,beq_iff_eq];exact h10
        have hsk:skp true (L.drop m)=skp false (L.drop m):=by
         rw [drop_at L m hm];exact skp_lf _ _ h10
        have HN:=Lib.hid (hsk.symm.trans HM.out)
        have HI:=Lib.hid hi10
        have hmi:(m:Int) < (L.length:Int):=by omega
        clear hi10 hsk HM h10
        go_wp2
        go_quiet ((go_at_call 86;exact Calls.quiet_of (rdis0 _ R s _ L bad m 10 true (hRx.drewN _) HI.out)))
        go_wp2
        go_roundg g'
        case rel=>exact ⟨m,hRx.drewN _,hgx.trans (grown_of_below (below_dn _ _) _),by omega,HN.out,by omega⟩
        case measure=>omega
       ·have hi10:isAt L m 10=false:=by rw [isAt_in L m 10 hm,beq_eq_false_iff_ne];exact h10
        have hsk:skp true (L.drop m)=skp true (L.drop (m+1)):=by
         conv=>lhs;rw [drop_at L m hm]
         rw [skp,if_neg h10]
        have HN:=Lib.hid (hsk.symm.trans HM.out)
        have HI:=Lib.hid hi10
        have hmi:(m:Int) < (L.length:Int):=by omega
        clear hi10 hsk HM h10
        go_wp2
        go_quiet ((go_at_call 86;exact Calls.quiet_of (rdis0 _ R s _ L bad m 10 false (hRx.drewN _) HI.out)))
        have hR5:RS ((wr.drewN nq).setCell ⟨R,3,none⟩ (.int .i64 ((m:Int)+1))) R s (.slice a L.length cap) L bad (m+1):=(hRx.drewN nq).set (m+1) (by omega)
        have hg5:w.grownBy ((wr.drewN nq).setCell ⟨R,3,none⟩ (.int .i64 ((m:Int)+1))) (some R):=(hgx.trans (grown_of_below (below_dn _ _) _)).trans (grown_set _ _ _)
        go_wp2
        go_roundg h'
        case rel=>exact ⟨m+1,hR5,hg5,by omega,HN.out,by omega⟩
        case measure=>omega
      ·have hsk:skp true (L.drop m)=skp false (L.drop m):=by
        rw [List.drop_of_length_le (by omega)];rfl
       have HN:=Lib.hid (hsk.symm.trans HM.out)
       have hmi:(L.length:Int)≤(m:Int):=by omega
       have hmd:decide ((m:Int) < (L.length:Int))=false:=by rw [decide_eq_false_iff_not];omega
       clear hsk HM
       go_wp2
       go_quiet (fail)
       go_wp2
       go_roundg g'
       case rel=>exact ⟨m,hRx.drewN _,hgx.trans (grown_of_below (below_dn _ _) _),by omega,HN.out,by omega⟩
       case measure=>omega
    ·have hc:clsAt L j=cls (L[j]'hj).1:=clsAt_in L j hj
     have hi35:isAt L j 35=false:=by rw [isAt_in L j 35 hj,beq_eq_false_iff_ne];exact h35
     have hsk:skp false (L.drop j)=L.drop j:=by
      rw [drop_at L j hj,skp,if_neg h3,if_neg h35]
     have HN:=Lib.hid (hsk.symm.trans HK.out)
     have HI:=Lib.hid hi35
     obtain ⟨c,hcc⟩:∃ c,cls (L[j]'hj).1=c:=⟨_,rfl⟩
     rw [hcc] at hc h3
     have HC:=Lib.hid hc
     have hc3:(c == 3)=false:=by rw [beq_eq_false_iff_ne];exact h3
     clear hc hi35 hsk HK h3 h35 hcc
     go_wp2_with fail
     refine (rdclass0 _ R s _ L bad j c hR HC.out).mono ?_
     rintro e w2 ⟨rfl,q2,rfl⟩
     go_wp2_with fail
     refine (rdis0 _ R s _ L bad j 35 false (hR.drewN _) HI.out).mono ?_
     rintro e w3 ⟨rfl,q3,rfl⟩
     go_wp2
     go_end0
     exact ⟨rfl,j,hR.drewN _,hg.trans (grown_of_below (below_dn _ _) _),by omega,HN.out⟩
  ·have hsk:skp false (L.drop j)=L.drop j:=by rw [List.drop_of_length_le (by omega)];rfl
   have HN:=Lib.hid (hsk.symm.trans HK.out)
   have HC:=Lib.hid (clsAt_out L j hj)
   have HI:=Lib.hid (isAt_out L j 35 hj)
   clear hsk HK
   go_wp2_with fail
   refine (rdclass0 _ R s _ L bad j (-1) hR HC.out).mono ?_
   rintro e w2 ⟨rfl,q2,rfl⟩
   go_wp2_with fail
   refine (rdis0 _ R s _ L bad j 35 false (hR.drewN _) HI.out).mono ?_
   rintro e w3 ⟨rfl,q3,rfl⟩
   go_wp2
   go_end0
   exact ⟨rfl,j,hR.drewN _,hg.trans (grown_of_below (below_dn _ _) _),by omega,HN.out⟩
end Go.Proofs.YtmlmjopfbohglaaDoor
namespace Go.Proofs.YtmlmjopfbohglaaDoor
open Go.RowKit
theorem own_grown {w w':World} {B e size n:Nat} {v:Value} {xs:List Value} {R:Nat} (h:w.ownsRow B e size v n xs) (hg:w.grownBy w' (some R)) (hR:R < B):w'.ownsRow B e size v n xs:=by
 obtain ⟨h1,h2⟩:=h
 refine ⟨h1,?_⟩
 rcases h2 with h2 | ⟨g,cap,cur,a,b,c,d⟩
 ·exact .inl h2
 ·exact .inr ⟨g,cap,cur,a,b,by rw [hg.block g (lt_of_block c) (fun e=>by cases e;omega)];exact c,d⟩
theorem RS.grown {w w':World} {R:Nat} {s:ByteArray} {lv:Value} {L:RL} {bad:Int} {i j:Nat} (h:RS w R s lv L bad i) (hg:w.grownBy w' (some R)) (hd:Rd w' R s lv bad j) (hj:j≤L.length):RS w' R s lv L bad j :=
 ⟨hd,own_grown h.row hg (by omega),hj,h.sz⟩
theorem rd_other {w:World} {R:Nat} {s:ByteArray} {lv:Value} {bad i:Int} (h:Rd w R s lv bad i) (a:Addr) (ha:R≠a.block) (v:Value):Rd (w.setCell a v) R s lv bad i:=by
 unfold Rd at *
 rw [heap_setCell_other w a R v ha];exact h
theorem rd_set {w:World} {R:Nat} {s:ByteArray} {lv:Value} {bad i:Int} (h:Rd w R s lv bad i) (j:Int):Rd (w.setCell ⟨R,3,none⟩ (.int .i64 j)) R s lv bad j :=
 heap_setCell_same w R 3 _ _ (.int .i64 j) h
theorem rd_alloc {w:World} {R:Nat} {s:ByteArray} {lv:Value} {bad i:Int} (h:Rd w R s lv bad i) (o:Obj):Rd (w.alloc o) R s lv bad i :=
 h.below ((Below.refl _ _).alloc (Nat.le_refl _) _)
theorem grown_new {w w':World} {r:Option Nat} (h:w.grownBy w' r) (a:Addr) (ha:w.heap.size≤a.block) (v:Value):w.grownBy (w'.setCell a v) r :=
 ⟨h.os,h.tape,h.output,by have:=h.size;simp;exact this,fun k hk hne=>by rw [heap_setCell_other w' a k v (by omega)];exact h.block k hk hne⟩
theorem grown_alloc {w w':World} {r:Option Nat} (h:w.grownBy w' r) (o:Obj):w.grownBy (w'.alloc o) r :=
 h.trans (grown_of_below ((Below.refl _ _).alloc (Nat.le_refl _) _) r)
theorem grown_dn {w w':World} {r:Option Nat} (h:w.grownBy w' r) (n:Nat):w.grownBy (w'.drewN n) r:=h.trans (grown_of_below (below_dn _ _) r)
theorem grown_R {w w':World} {R:Nat} (h:w.grownBy w' (some R)) (o:Nat) (v:Value):w.grownBy (w'.setCell ⟨R,o,none⟩ v) (some R) :=
 ⟨h.os,h.tape,h.output,by have:=h.size;simp;exact this,fun k hk hne=>by rw [heap_setCell_other w' _ k v (fun e=>hne (by simp [e]))];exact h.block k hk hne⟩
theorem refwords_any (w:World) :
  Calls Tryd.prog 135 #[] w fun e w'=>e=.returned (wrdsV w.heap.size)∧w'=w.alloc (.cells wrdsCells 9):=by
 go_enter Tryd.func135,Tryd.ntmps135
 go_wp2
 go_ret
 exact ⟨rfl,rfl⟩
theorem isWrd_at (t:ByteArray) (k:Nat) (hk:k < wrds.length):((wrds.drop k).any fun x=>x.data.toList == t.data.toList)=((wrds[k]'hk).data.toList == t.data.toList || ((wrds.drop (k+1)).any fun x=>x.data.toList == t.data.toList)):=by
 have:wrds.drop k=wrds[k]'hk :: wrds.drop (k+1):=List.drop_eq_getElem_cons hk
 rw [this,List.any_cons]
set_option maxRecDepth 100000 in
set_option maxHeartbeats 2000000 in
theorem refword_any (t:ByteArray) (w:World) :
  Calls Tryd.prog 115 #[.string t] w fun e w'=>e=.returned (.bool (isWrd t))∧Below w.heap.size w w':=by
 go_enter Tryd.func115,Tryd.ntmps115
 go_wp2_with fail
 refine (refwords_any _).mono ?_
 rintro e w1 ⟨rfl,rfl⟩
 have hc:=wrds_cells w
 have HC:=Lib.hid hc
 clear hc
 obtain ⟨W,hW⟩:∃ W,W=w.alloc (.cells wrdsCells 9):=⟨_,rfl⟩
 have hbW:Below w.heap.size w W:=by rw [hW];exact (Below.refl _ _).alloc (Nat.le_refl _) _
 rw [← hW]
 have HW:=Lib.hid hW
 clear hW
 unfold wrdsV
 go_wp2
 go_loop [4] (fun i=>∃ k:Nat,i=.int .i64 k∧k≤17∧Hid (isWrd t=(wrds.drop k).any fun x=>x.data.toList == t.data.toList)) (fun i=>17 - (intOf i).toNat)
 case atStart=>exact ⟨0,rfl,by omega,(rfl:isWrd t=_)⟩
 case round =>
  obtain ⟨k,rfl,hk,HK⟩:=hrel
  by_cases hlt:k < 17
  ·have c0:W.cell? ⟨w.heap.size,k,none⟩=some (.string (wrds.getD k ByteArray.empty)):=by rw [HW.out];exact HC.out k hlt
   rw [show wrds.getD k ByteArray.empty=wrds[k]'hlt by rw [List.getD_eq_getElem?_getD,List.getElem?_eq_getElem hlt];rfl] at c0
   have hk1:=isWrd_at t k hlt
   generalize (wrds[k]'hlt)=x at c0 hk1
   by_cases he:x.data.toList=t.data.toList
   ·have hr:isWrd t=true:=by rw [HK.out,hk1,beq_iff_eq.2 he];rfl
    obtain rfl:x=t:=ByteArray.ext (Array.ext' he)
    have HR:=Lib.hid hr
    clear hk1 HK he hr
    go_wp2
    go_ret
    exact ⟨ret_bool HR.out.symm,hbW⟩
   ·have hr:isWrd t=(wrds.drop (k+1)).any fun x=>x.data.toList == t.data.toList:=by
     rw [HK.out,hk1,beq_eq_false_iff_ne.2 he];rfl
    have HR:=Lib.hid hr
    have he2:¬ x.toList=t.toList:=by rw [Lib.toList_data,Lib.toList_data];exact he
    have he3:(x.toList == t.toList)=false:=by rw [beq_eq_false_iff_ne];exact he2
    clear hk1 HK he hr
    go_wp2
    go_round
    case rel=>exact ⟨k+1,by go_num,by omega,HR.out⟩
    case measure=>simp [intOf];omega
  ·have hr:isWrd t=false:=by rw [HK.out,List.drop_of_length_le (by show wrds.length≤k;exact Nat.not_lt.1 hlt)];rfl
   have HR:=Lib.hid hr
   clear HK hr
   go_wp2
   go_ret
   exact ⟨ret_bool HR.out.symm,hbW⟩
theorem blk_other {w:World} {B:Nat} {a b c d:Value} (h:Blk4 w B a b c d) (x:Addr) (hx:B≠x.block) (v:Value):Blk4 (w.setCell x v) B a b c d:=by
 unfold Blk4 at *
 rw [heap_setCell_other w x B v hx];exact h
theorem blk_set1 {w:World} {B:Nat} {a b c d:Value} (h:Blk4 w B a b c d) (v:Value):Blk4 (w.setCell ⟨B,1,none⟩ v) B a v c d:=heap_setCell_same w B 1 _ _ v h
theorem blk_set2 {w:World} {B:Nat} {a b c d:Value} (h:Blk4 w B a b c d) (v:Value):Blk4 (w.setCell ⟨B,2,none⟩ v) B a b v d:=heap_setCell_same w B 2 _ _ v h
end Go.Proofs.YtmlmjopfbohglaaDoor
