/- Parts of the proof: KWd. -/
import Derived.Test.YtmlmjopfbohglaaDoorWd42
namespace Go.Proofs.YtmlmjopfbohglaaDoor
open Go.RowKit
open Go.Maps
def kwTs:List ByteArray:=[⟨#[118,97,114,49,32,120,59,32,120,32,60,32,51,59]⟩,⟨#[120,32,60,32,51,59]⟩,⟨#[118,97,114,49,32,120,44,32,120,59,32,116,114,117,101,59]⟩,⟨#[118,97,114,48,32,112,59,32,112,59]⟩,⟨#[118,97,114,49,32,112,59,32,112,59]⟩,⟨#[118,97,114,50,32,88,59,32,49,32,105,110,32,88,59]⟩,⟨#[118,97,114,50,32,88,59,32,88,32,105,110,32,88,59]⟩,⟨#[118,97,114,49,32,120,59,32,118,97,114,50,32,88,59,32,120,32,61,32,88,59]⟩,⟨#[118,97,114,48,32,112,44,32,113,59,32,112,32,61,32,113,59]⟩,⟨#[101,120,50,32,88,58,32,101,120,49,32,88,58,32,88,32,60,32,49,59]⟩,⟨#[112,114,101,100,32,112,40,118,97,114,49,32,97,41,32,61,32,97,32,60,32,49,59,32,112,40,50,41,59]⟩,⟨#[112,114,101,100,32,112,40,118,97,114,49,32,97,41,32,61,32,97,32,60,32,49,59,32,112,40,123,125,41,59]⟩,⟨#[112,114,101,100,32,112,40,118,97,114,49,32,97,41,32,61,32,97,32,60,32,49,59,32,112,40,49,44,50,41,59]⟩,⟨#[112,114,101,100,32,112,40,41,32,61,32,113,40,41,59,32,112,114,101,100,32,113,40,41,32,61,32,116,114,117,101,59,32,112,40,41,59]⟩,⟨#[112,114,101,100,32,112,40,41,32,61,32,112,40,41,59,32,112,40,41,59]⟩,⟨#[112,114,101,100,32,112,40,41,32,61,32,116,114,117,101,59,32,112,114,101,100,32,112,40,41,32,61,32,116,114,117,101,59,32,112,40,41,59]⟩,⟨#[118,97,114,49,32,120,59,32,112,114,101,100,32,112,40,41,32,61,32,120,32,60,32,49,59,32,112,40,41,59]⟩,⟨#[112,114,101,100,32,112,40,118,97,114,49,32,97,44,32,118,97,114,50,32,97,41,32,61,32,116,114,117,101,59,32,116,114,117,101,59]⟩,⟨#[118,97,114,50,32,88,59,32,88,32,43,32,49,32,61,32,50,59]⟩]
def kwEs:List Int:=[0,5,6,0,7,0,7,7,7,0,0,7,7,5,5,6,5,6,7]
def kwT (i:Nat):ByteArray:=kwTs.getD i ⟨#[]⟩
def kwE (i:Nat):Int:=kwEs.getD i 0
def kwA (i:Nat):Int:=match progOf (kwT i) with | .ok x _=>(checkR x.1 x.2.1 x.2.2).1 | .bad _ _=>0
theorem kw_chk:((List.range 19).all fun i=>chkK (kwT i) (kwA i) (kwE i))=true:=by decide +kernel
def KwSays (s:ByteArray) (A E:Int) (w0 w:World) (e:Ending) (w':World):Prop:=∃ (ds:List Dc) (da:Option Addr) (dc:Nat) (pa:Option Addr) (pc:Nat) (Ps:List Pd) (T:Nd),e=.returned (.tuple #[.agg (pgCells da ds.length dc pa Ps.length pc T.op T.name T.n T.pos T.a T.kids.len T.cap),.int .i64 s.size,.int .i64 0])∧RowKit.Hid (Below w.heap.size w w')∧RowKit.Hid (Below w0.heap.size w0 w')∧RowKit.Hid (∀ W,Below w'.heap.size w' W→LTabs W→Calls Tryd.prog 12 #[.agg #[.slice da ds.length dc,.slice pa Ps.length pc,.string T.op,.string T.name,.int .i64 T.n,.int .i64 T.pos,.slice T.a T.kids.len T.cap]] W fun e w'=>e=.returned (.tuple #[.int .i64 A,.int .i64 E])∧Below W.heap.size W w')
theorem kw_alloc (i:Nat) (hi:i < 19) (s:ByteArray) (hs:kwT i=s) (E:Int) (hE:kwE i=E) (w:World) (o o2:Obj) (hU:UT w):Calls Tryd.prog 9 #[.string s] ((w.alloc o).alloc o2) (KwSays s (kwA i) E w ((w.alloc o).alloc o2)):=by
 have h:=List.all_eq_true.1 kw_chk i (List.mem_range.2 hi)
 rw [hs,hE] at h
 have hb:Below w.heap.size w ((w.alloc o).alloc o2):=(below_box w o).trans ((below_box _ o2).mono (by simp))
 refine (rparse_chk s (kwA i) E h _ (Utf8Tabs_below hU hb)).mono ?_
 rintro e w1 ⟨hb1,ds,da,dc,pa,pc,Ps,T,rfl,hd,hp,hm,hms,hmd,hmz,hdl,hpl,hck⟩
 refine ⟨ds,da,dc,pa,pc,Ps,T,rfl,Lib.hid hb1,Lib.hid (hb.trans (hb1.mono hb.size)),Lib.hid fun W hW hT=>?_⟩
 have hcall:=kcheck_any ds da dc Ps pa pc T W hT (hd.below hW) ⟨by rcases hp.1 with h | ⟨b,o,h1,h2,h3⟩;exact .inl h;exact .inr ⟨b,o,h1,h2,fun i p hi=>(h3 i p hi).below hW⟩,fun p hi=>(hp.2 p hi).below hW⟩ (hm.below hW) hms hmd hmz hdl hpl
 rw [hck] at hcall
 exact hcall
set_option maxRecDepth 100000 in
set_option maxHeartbeats 16000000 in
theorem kw_walk0 (w:World) (hU:UT w) (hT:LTabs w):Calls Tryd.prog 5 #[.int .i64 0] w fun e w'=>e=.returned (.bool true)∧Below w.heap.size w w':=by
 have hc7:=cellsProg7
 have HU:=Lib.hid hU
 have HT:=Lib.hid hT
 clear hU hT
 go_enter Tryd.func5,Tryd.ntmps5
 go_wp2_with fail
 refine (kw_alloc 0 (by decide) _ (by rfl) 0 (by rfl) w _ _ HU.out).mono ?_
 rintro e w1 ⟨ds,da,dc,pa,pc,Ps,T,rfl,HB1,HW1,HCK⟩
 have hc1:w1.cell? ⟨w.heap.size+1,0,none⟩=some (.int .i64 0):=cell_below HB1.out (by simp only [World.cell?,second_at];rfl)
 have hlt1:w.heap.size+1 < w1.heap.size:=lt_of_cell hc1
 have hbx:=below_box w1 (pgB da ds.length dc pa Ps.length pc T)
 have HC2:=Lib.hid (HCK.out _ hbx (HT.out.below (HW1.out.trans (hbx.mono HW1.out.size))))
 replace hc1:=cell_below hbx hc1
 have HW2:=Lib.hid (HW1.out.trans (hbx.mono HW1.out.size))
 obtain ⟨p0,p1,p2,p3,p4,p5,p6⟩:=pg_cells (new_at w1 (pgB da ds.length dc pa Ps.length pc T))
 clear HCK HB1 HW1 hbx
 go_wp2_with fail
 refine HC2.out.mono ?_
 rintro e w2 ⟨rfl,hb2⟩
 replace hc1:=cell_below hb2 hc1
 have HW3:=Lib.hid (HW2.out.trans (hb2.mono HW2.out.size))
 have HC3:=Lib.hid (kknown_any w2 (Utf8Tabs_below HU.out HW3.out) (HT.out.below HW3.out))
 clear HC2 hb2 HW2 p0 p1 p2 p3 p4 p5 p6
 go_wp2_with fail
 refine HC3.out.mono ?_
 rintro e w3 ⟨rfl,hb3⟩
 have HW4:=Lib.hid (HW3.out.trans (hb3.mono HW3.out.size))
 clear HC3 hb3 HW3 hc1
 go_wp2_with fail
 go_ret
 exact ⟨rfl,HW4.out⟩
set_option maxRecDepth 100000 in
set_option maxHeartbeats 16000000 in
theorem kw_walk1 (w:World) (hU:UT w) (hT:LTabs w):Calls Tryd.prog 5 #[.int .i64 1] w fun e w'=>e=.returned (.bool true)∧Below w.heap.size w w':=by
 have hc7:=cellsProg7
 have HU:=Lib.hid hU
 have HT:=Lib.hid hT
 clear hU hT
 go_enter Tryd.func5,Tryd.ntmps5
 go_wp2_with fail
 refine (kw_alloc 1 (by decide) _ (by rfl) 5 (by rfl) w _ _ HU.out).mono ?_
 rintro e w1 ⟨ds,da,dc,pa,pc,Ps,T,rfl,HB1,HW1,HCK⟩
 have hc1:w1.cell? ⟨w.heap.size+1,1,none⟩=some (.int .i64 5):=cell_below HB1.out (by simp only [World.cell?,second_at];rfl)
 have hlt1:w.heap.size+1 < w1.heap.size:=lt_of_cell hc1
 have hbx:=below_box w1 (pgB da ds.length dc pa Ps.length pc T)
 have HC2:=Lib.hid (HCK.out _ hbx (HT.out.below (HW1.out.trans (hbx.mono HW1.out.size))))
 replace hc1:=cell_below hbx hc1
 have HW2:=Lib.hid (HW1.out.trans (hbx.mono HW1.out.size))
 obtain ⟨p0,p1,p2,p3,p4,p5,p6⟩:=pg_cells (new_at w1 (pgB da ds.length dc pa Ps.length pc T))
 clear HCK HB1 HW1 hbx
 go_wp2_with fail
 refine HC2.out.mono ?_
 rintro e w2 ⟨rfl,hb2⟩
 replace hc1:=cell_below hb2 hc1
 have HW3:=Lib.hid (HW2.out.trans (hb2.mono HW2.out.size))
 have HC3:=Lib.hid (kknown_any w2 (Utf8Tabs_below HU.out HW3.out) (HT.out.below HW3.out))
 clear HC2 hb2 HW2 p0 p1 p2 p3 p4 p5 p6
 go_wp2_with fail
 refine HC3.out.mono ?_
 rintro e w3 ⟨rfl,hb3⟩
 have HW4:=Lib.hid (HW3.out.trans (hb3.mono HW3.out.size))
 clear HC3 hb3 HW3 hc1
 go_wp2_with fail
 go_ret
 exact ⟨rfl,HW4.out⟩
set_option maxRecDepth 100000 in
set_option maxHeartbeats 16000000 in
theorem kw_walk2 (w:World) (hU:UT w) (hT:LTabs w):Calls Tryd.prog 5 #[.int .i64 2] w fun e w'=>e=.returned (.bool true)∧Below w.heap.size w w':=by
 have hc7:=cellsProg7
 have HU:=Lib.hid hU
 have HT:=Lib.hid hT
 clear hU hT
 go_enter Tryd.func5,Tryd.ntmps5
 go_wp2_with fail
 refine (kw_alloc 2 (by decide) _ (by rfl) 6 (by rfl) w _ _ HU.out).mono ?_
 rintro e w1 ⟨ds,da,dc,pa,pc,Ps,T,rfl,HB1,HW1,HCK⟩
 have hc1:w1.cell? ⟨w.heap.size+1,2,none⟩=some (.int .i64 6):=cell_below HB1.out (by simp only [World.cell?,second_at];rfl)
 have hlt1:w.heap.size+1 < w1.heap.size:=lt_of_cell hc1
 have hbx:=below_box w1 (pgB da ds.length dc pa Ps.length pc T)
 have HC2:=Lib.hid (HCK.out _ hbx (HT.out.below (HW1.out.trans (hbx.mono HW1.out.size))))
 replace hc1:=cell_below hbx hc1
 have HW2:=Lib.hid (HW1.out.trans (hbx.mono HW1.out.size))
 obtain ⟨p0,p1,p2,p3,p4,p5,p6⟩:=pg_cells (new_at w1 (pgB da ds.length dc pa Ps.length pc T))
 clear HCK HB1 HW1 hbx
 go_wp2_with fail
 refine HC2.out.mono ?_
 rintro e w2 ⟨rfl,hb2⟩
 replace hc1:=cell_below hb2 hc1
 have HW3:=Lib.hid (HW2.out.trans (hb2.mono HW2.out.size))
 have HC3:=Lib.hid (kknown_any w2 (Utf8Tabs_below HU.out HW3.out) (HT.out.below HW3.out))
 clear HC2 hb2 HW2 p0 p1 p2 p3 p4 p5 p6
 go_wp2_with fail
 refine HC3.out.mono ?_
 rintro e w3 ⟨rfl,hb3⟩
 have HW4:=Lib.hid (HW3.out.trans (hb3.mono HW3.out.size))
 clear HC3 hb3 HW3 hc1
 go_wp2_with fail
 go_ret
 exact ⟨rfl,HW4.out⟩
set_option maxRecDepth 100000 in
set_option maxHeartbeats 16000000 in
theorem kw_walk3 (w:World) (hU:UT w) (hT:LTabs w):Calls Tryd.prog 5 #[.int .i64 3] w fun e w'=>e=.returned (.bool true)∧Below w.heap.size w w':=by
 have hc7:=cellsProg7
 have HU:=Lib.hid hU
 have HT:=Lib.hid hT
 clear hU hT
 go_enter Tryd.func5,Tryd.ntmps5
 go_wp2_with fail
 refine (kw_alloc 3 (by decide) _ (by rfl) 0 (by rfl) w _ _ HU.out).mono ?_
 rintro e w1 ⟨ds,da,dc,pa,pc,Ps,T,rfl,HB1,HW1,HCK⟩
 have hc1:w1.cell? ⟨w.heap.size+1,3,none⟩=some (.int .i64 0):=cell_below HB1.out (by simp only [World.cell?,second_at];rfl)
 have hlt1:w.heap.size+1 < w1.heap.size:=lt_of_cell hc1
 have hbx:=below_box w1 (pgB da ds.length dc pa Ps.length pc T)
 have HC2:=Lib.hid (HCK.out _ hbx (HT.out.below (HW1.out.trans (hbx.mono HW1.out.size))))
 replace hc1:=cell_below hbx hc1
 have HW2:=Lib.hid (HW1.out.trans (hbx.mono HW1.out.size))
 obtain ⟨p0,p1,p2,p3,p4,p5,p6⟩:=pg_cells (new_at w1 (pgB da ds.length dc pa Ps.length pc T))
 clear HCK HB1 HW1 hbx
 go_wp2_with fail
 refine HC2.out.mono ?_
 rintro e w2 ⟨rfl,hb2⟩
 replace hc1:=cell_below hb2 hc1
 have HW3:=Lib.hid (HW2.out.trans (hb2.mono HW2.out.size))
 have HC3:=Lib.hid (kknown_any w2 (Utf8Tabs_below HU.out HW3.out) (HT.out.below HW3.out))
 clear HC2 hb2 HW2 p0 p1 p2 p3 p4 p5 p6
 go_wp2_with fail
 refine HC3.out.mono ?_
 rintro e w3 ⟨rfl,hb3⟩
 have HW4:=Lib.hid (HW3.out.trans (hb3.mono HW3.out.size))
 clear HC3 hb3 HW3 hc1
 go_wp2_with fail
 go_ret
 exact ⟨rfl,HW4.out⟩
set_option maxRecDepth 100000 in
set_option maxHeartbeats 16000000 in
theorem kw_walk4 (w:World) (hU:UT w) (hT:LTabs w):Calls Tryd.prog 5 #[.int .i64 4] w fun e w'=>e=.returned (.bool true)∧Below w.heap.size w w':=by
 have hc7:=cellsProg7
 have HU:=Lib.hid hU
 have HT:=Lib.hid hT
 clear hU hT
 go_enter Tryd.func5,Tryd.ntmps5
 go_wp2_with fail
 refine (kw_alloc 4 (by decide) _ (by rfl) 7 (by rfl) w _ _ HU.out).mono ?_
 rintro e w1 ⟨ds,da,dc,pa,pc,Ps,T,rfl,HB1,HW1,HCK⟩
 have hc1:w1.cell? ⟨w.heap.size+1,4,none⟩=some (.int .i64 7):=cell_below HB1.out (by simp only [World.cell?,second_at];rfl)
 have hlt1:w.heap.size+1 < w1.heap.size:=lt_of_cell hc1
 have hbx:=below_box w1 (pgB da ds.length dc pa Ps.length pc T)
 have HC2:=Lib.hid (HCK.out _ hbx (HT.out.below (HW1.out.trans (hbx.mono HW1.out.size))))
 replace hc1:=cell_below hbx hc1
 have HW2:=Lib.hid (HW1.out.trans (hbx.mono HW1.out.size))
 obtain ⟨p0,p1,p2,p3,p4,p5,p6⟩:=pg_cells (new_at w1 (pgB da ds.length dc pa Ps.length pc T))
 clear HCK HB1 HW1 hbx
 go_wp2_with fail
 refine HC2.out.mono ?_
 rintro e w2 ⟨rfl,hb2⟩
 replace hc1:=cell_below hb2 hc1
 have HW3:=Lib.hid (HW2.out.trans (hb2.mono HW2.out.size))
 have HC3:=Lib.hid (kknown_any w2 (Utf8Tabs_below HU.out HW3.out) (HT.out.below HW3.out))
 clear HC2 hb2 HW2 p0 p1 p2 p3 p4 p5 p6
 go_wp2_with fail
 refine HC3.out.mono ?_
 rintro e w3 ⟨rfl,hb3⟩
 have HW4:=Lib.hid (HW3.out.trans (hb3.mono HW3.out.size))
 clear HC3 hb3 HW3 hc1
 go_wp2_with fail
 go_ret
 exact ⟨rfl,HW4.out⟩
set_option maxRecDepth 100000 in
set_option maxHeartbeats 16000000 in
theorem kw_walk5 (w:World) (hU:UT w) (hT:LTabs w):Calls Tryd.prog 5 #[.int .i64 5] w fun e w'=>e=.returned (.bool true)∧Below w.heap.size w w':=by
 have hc7:=cellsProg7
 have HU:=Lib.hid hU
 have HT:=Lib.hid hT
 clear hU hT
 go_enter Tryd.func5,Tryd.ntmps5
 go_wp2_with fail
 refine (kw_alloc 5 (by decide) _ (by rfl) 0 (by rfl) w _ _ HU.out).mono ?_
 rintro e w1 ⟨ds,da,dc,pa,pc,Ps,T,rfl,HB1,HW1,HCK⟩
 have hc1:w1.cell? ⟨w.heap.size+1,5,none⟩=some (.int .i64 0):=cell_below HB1.out (by simp only [World.cell?,second_at];rfl)
 have hlt1:w.heap.size+1 < w1.heap.size:=lt_of_cell hc1
 have hbx:=below_box w1 (pgB da ds.length dc pa Ps.length pc T)
 have HC2:=Lib.hid (HCK.out _ hbx (HT.out.below (HW1.out.trans (hbx.mono HW1.out.size))))
 replace hc1:=cell_below hbx hc1
 have HW2:=Lib.hid (HW1.out.trans (hbx.mono HW1.out.size))
 obtain ⟨p0,p1,p2,p3,p4,p5,p6⟩:=pg_cells (new_at w1 (pgB da ds.length dc pa Ps.length pc T))
 clear HCK HB1 HW1 hbx
 go_wp2_with fail
 refine HC2.out.mono ?_
 rintro e w2 ⟨rfl,hb2⟩
 replace hc1:=cell_below hb2 hc1
 have HW3:=Lib.hid (HW2.out.trans (hb2.mono HW2.out.size))
 have HC3:=Lib.hid (kknown_any w2 (Utf8Tabs_below HU.out HW3.out) (HT.out.below HW3.out))
 clear HC2 hb2 HW2 p0 p1 p2 p3 p4 p5 p6
 go_wp2_with fail
 refine HC3.out.mono ?_
 rintro e w3 ⟨rfl,hb3⟩
 have HW4:=Lib.hid (HW3.out.trans (hb3.mono HW3.out.size))
 clear HC3 hb3 HW3 hc1
 go_wp2_with fail
 go_ret
 exact ⟨rfl,HW4.out⟩
set_option maxRecDepth 100000 in
set_option maxHeartbeats 16000000 in
theorem kw_walk6 (w:World) (hU:UT w) (hT:LTabs w):Calls Tryd.prog 5 #[.int .i64 6] w fun e w'=>e=.returned (.bool true)∧Below w.heap.size w w':=by
 have hc7:=cellsProg7
 have HU:=Lib.hid hU
 have HT:=Lib.hid hT
 clear hU hT
 go_enter Tryd.func5,Tryd.ntmps5
 go_wp2_with fail
 refine (kw_alloc 6 (by decide) _ (by rfl) 7 (by rfl) w _ _ HU.out).mono ?_
 rintro e w1 ⟨ds,da,dc,pa,pc,Ps,T,rfl,HB1,HW1,HCK⟩
 have hc1:w1.cell? ⟨w.heap.size+1,6,none⟩=some (.int .i64 7):=cell_below HB1.out (by simp only [World.cell?,second_at];rfl)
 have hlt1:w.heap.size+1 < w1.heap.size:=lt_of_cell hc1
 have hbx:=below_box w1 (pgB da ds.length dc pa Ps.length pc T)
 have HC2:=Lib.hid (HCK.out _ hbx (HT.out.below (HW1.out.trans (hbx.mono HW1.out.size))))
 replace hc1:=cell_below hbx hc1
 have HW2:=Lib.hid (HW1.out.trans (hbx.mono HW1.out.size))
 obtain ⟨p0,p1,p2,p3,p4,p5,p6⟩:=pg_cells (new_at w1 (pgB da ds.length dc pa Ps.length pc T))
 clear HCK HB1 HW1 hbx
 go_wp2_with fail
 refine HC2.out.mono ?_
 rintro e w2 ⟨rfl,hb2⟩
 replace hc1:=cell_below hb2 hc1
 have HW3:=Lib.hid (HW2.out.trans (hb2.mono HW2.out.size))
 have HC3:=Lib.hid (kknown_any w2 (Utf8Tabs_below HU.out HW3.out) (HT.out.below HW3.out))
 clear HC2 hb2 HW2 p0 p1 p2 p3 p4 p5 p6
 go_wp2_with fail
 refine HC3.out.mono ?_
 rintro e w3 ⟨rfl,hb3⟩
 have HW4:=Lib.hid (HW3.out.trans (hb3.mono HW3.out.size))
 clear HC3 hb3 HW3 hc1
 go_wp2_with fail
 go_ret
 exact ⟨rfl,HW4.out⟩
set_option maxRecDepth 100000 in
set_option maxHeartbeats 16000000 in
theorem kw_walk7 (w:World) (hU:UT w) (hT:LTabs w):Calls Tryd.prog 5 #[.int .i64 7] w fun e w'=>e=.returned (.bool true)∧Below w.heap.size w w':=by
 have hc7:=cellsProg7
 have HU:=Lib.hid hU
 have HT:=Lib.hid hT
 clear hU hT
 go_enter Tryd.func5,Tryd.ntmps5
 go_wp2_with fail
 refine (kw_alloc 7 (by decide) _ (by rfl) 7 (by rfl) w _ _ HU.out).mono ?_
 rintro e w1 ⟨ds,da,dc,pa,pc,Ps,T,rfl,HB1,HW1,HCK⟩
 have hc1:w1.cell? ⟨w.heap.size+1,7,none⟩=some (.int .i64 7):=cell_below HB1.out (by simp only [World.cell?,second_at];rfl)
 have hlt1:w.heap.size+1 < w1.heap.size:=lt_of_cell hc1
 have hbx:=below_box w1 (pgB da ds.length dc pa Ps.length pc T)
 have HC2:=Lib.hid (HCK.out _ hbx (HT.out.below (HW1.out.trans (hbx.mono HW1.out.size))))
 replace hc1:=cell_below hbx hc1
 have HW2:=Lib.hid (HW1.out.trans (hbx.mono HW1.out.size))
 obtain ⟨p0,p1,p2,p3,p4,p5,p6⟩:=pg_cells (new_at w1 (pgB da ds.length dc pa Ps.length pc T))
 clear HCK HB1 HW1 hbx
 go_wp2_with fail
 refine HC2.out.mono ?_
 rintro e w2 ⟨rfl,hb2⟩
 replace hc1:=cell_below hb2 hc1
 have HW3:=Lib.hid (HW2.out.trans (hb2.mono HW2.out.size))
 have HC3:=Lib.hid (kknown_any w2 (Utf8Tabs_below HU.out HW3.out) (HT.out.below HW3.out))
 clear HC2 hb2 HW2 p0 p1 p2 p3 p4 p5 p6
 go_wp2_with fail
 refine HC3.out.mono ?_
 rintro e w3 ⟨rfl,hb3⟩
 have HW4:=Lib.hid (HW3.out.trans (hb3.mono HW3.out.size))
 clear HC3 hb3 HW3 hc1
 go_wp2_with fail
 go_ret
 exact ⟨rfl,HW4.out⟩
set_option maxRecDepth 100000 in
set_option maxHeartbeats 16000000 in
theorem kw_walk8 (w:World) (hU:UT w) (hT:LTabs w):Calls Tryd.prog 5 #[.int .i64 8] w fun e w'=>e=.returned (.bool true)∧Below w.heap.size w w':=by
 have hc7:=cellsProg7
 have HU:=Lib.hid hU
 have HT:=Lib.hid hT
 clear hU hT
 go_enter Tryd.func5,Tryd.ntmps5
 go_wp2_with fail
 refine (kw_alloc 8 (by decide) _ (by rfl) 7 (by rfl) w _ _ HU.out).mono ?_
 rintro e w1 ⟨ds,da,dc,pa,pc,Ps,T,rfl,HB1,HW1,HCK⟩
 have hc1:w1.cell? ⟨w.heap.size+1,8,none⟩=some (.int .i64 7):=cell_below HB1.out (by simp only [World.cell?,second_at];rfl)
 have hlt1:w.heap.size+1 < w1.heap.size:=lt_of_cell hc1
 have hbx:=below_box w1 (pgB da ds.length dc pa Ps.length pc T)
 have HC2:=Lib.hid (HCK.out _ hbx (HT.out.below (HW1.out.trans (hbx.mono HW1.out.size))))
 replace hc1:=cell_below hbx hc1
 have HW2:=Lib.hid (HW1.out.trans (hbx.mono HW1.out.size))
 obtain ⟨p0,p1,p2,p3,p4,p5,p6⟩:=pg_cells (new_at w1 (pgB da ds.length dc pa Ps.length pc T))
 clear HCK HB1 HW1 hbx
 go_wp2_with fail
 refine HC2.out.mono ?_
 rintro e w2 ⟨rfl,hb2⟩
 replace hc1:=cell_below hb2 hc1
 have HW3:=Lib.hid (HW2.out.trans (hb2.mono HW2.out.size))
 have HC3:=Lib.hid (kknown_any w2 (Utf8Tabs_below HU.out HW3.out) (HT.out.below HW3.out))
 clear HC2 hb2 HW2 p0 p1 p2 p3 p4 p5 p6
 go_wp2_with fail
 refine HC3.out.mono ?_
 rintro e w3 ⟨rfl,hb3⟩
 have HW4:=Lib.hid (HW3.out.trans (hb3.mono HW3.out.size))
 clear HC3 hb3 HW3 hc1
 go_wp2_with fail
 go_ret
 exact ⟨rfl,HW4.out⟩
set_option maxRecDepth 100000 in
set_option maxHeartbeats 16000000 in
theorem kw_walk9 (w:World) (hU:UT w) (hT:LTabs w):Calls Tryd.prog 5 #[.int .i64 9] w fun e w'=>e=.returned (.bool true)∧Below w.heap.size w w':=by
 have hc7:=cellsProg7
 have HU:=Lib.hid hU
 have HT:=Lib.hid hT
 clear hU hT
 go_enter Tryd.func5,Tryd.ntmps5
 go_wp2_with fail
 refine (kw_alloc 9 (by decide) _ (by rfl) 0 (by rfl) w _ _ HU.out).mono ?_
 rintro e w1 ⟨ds,da,dc,pa,pc,Ps,T,rfl,HB1,HW1,HCK⟩
 have hc1:w1.cell? ⟨w.heap.size+1,9,none⟩=some (.int .i64 0):=cell_below HB1.out (by simp only [World.cell?,second_at];rfl)
 have hlt1:w.heap.size+1 < w1.heap.size:=lt_of_cell hc1
 have hbx:=below_box w1 (pgB da ds.length dc pa Ps.length pc T)
 have HC2:=Lib.hid (HCK.out _ hbx (HT.out.below (HW1.out.trans (hbx.mono HW1.out.size))))
 replace hc1:=cell_below hbx hc1
 have HW2:=Lib.hid (HW1.out.trans (hbx.mono HW1.out.size))
 obtain ⟨p0,p1,p2,p3,p4,p5,p6⟩:=pg_cells (new_at w1 (pgB da ds.length dc pa Ps.length pc T))
 clear HCK HB1 HW1 hbx
 go_wp2_with fail
 refine HC2.out.mono ?_
 rintro e w2 ⟨rfl,hb2⟩
 replace hc1:=cell_below hb2 hc1
 have HW3:=Lib.hid (HW2.out.trans (hb2.mono HW2.out.size))
 have HC3:=Lib.hid (kknown_any w2 (Utf8Tabs_below HU.out HW3.out) (HT.out.below HW3.out))
 clear HC2 hb2 HW2 p0 p1 p2 p3 p4 p5 p6
 go_wp2_with fail
 refine HC3.out.mono ?_
 rintro e w3 ⟨rfl,hb3⟩
 have HW4:=Lib.hid (HW3.out.trans (hb3.mono HW3.out.size))
 clear HC3 hb3 HW3 hc1
 go_wp2_with fail
 go_ret
 exact ⟨rfl,HW4.out⟩
set_option maxRecDepth 100000 in
set_option maxHeartbeats 16000000 in
theorem kw_walk10 (w:World) (hU:UT w) (hT:LTabs w):Calls Tryd.prog 5 #[.int .i64 10] w fun e w'=>e=.returned (.bool true)∧Below w.heap.size w w':=by
 have hc7:=cellsProg7
 have HU:=Lib.hid hU
 have HT:=Lib.hid hT
 clear hU hT
 go_enter Tryd.func5,Tryd.ntmps5
 go_wp2_with fail
 refine (kw_alloc 10 (by decide) _ (by rfl) 0 (by rfl) w _ _ HU.out).mono ?_
 rintro e w1 ⟨ds,da,dc,pa,pc,Ps,T,rfl,HB1,HW1,HCK⟩
 have hc1:w1.cell? ⟨w.heap.size+1,10,none⟩=some (.int .i64 0):=cell_below HB1.out (by simp only [World.cell?,second_at];rfl)
 have hlt1:w.heap.size+1 < w1.heap.size:=lt_of_cell hc1
 have hbx:=below_box w1 (pgB da ds.length dc pa Ps.length pc T)
 have HC2:=Lib.hid (HCK.out _ hbx (HT.out.below (HW1.out.trans (hbx.mono HW1.out.size))))
 replace hc1:=cell_below hbx hc1
 have HW2:=Lib.hid (HW1.out.trans (hbx.mono HW1.out.size))
 obtain ⟨p0,p1,p2,p3,p4,p5,p6⟩:=pg_cells (new_at w1 (pgB da ds.length dc pa Ps.length pc T))
 clear HCK HB1 HW1 hbx
 go_wp2_with fail
 refine HC2.out.mono ?_
 rintro e w2 ⟨rfl,hb2⟩
 replace hc1:=cell_below hb2 hc1
 have HW3:=Lib.hid (HW2.out.trans (hb2.mono HW2.out.size))
 have HC3:=Lib.hid (kknown_any w2 (Utf8Tabs_below HU.out HW3.out) (HT.out.below HW3.out))
 clear HC2 hb2 HW2 p0 p1 p2 p3 p4 p5 p6
 go_wp2_with fail
 refine HC3.out.mono ?_
 rintro e w3 ⟨rfl,hb3⟩
 have HW4:=Lib.hid (HW3.out.trans (hb3.mono HW3.out.size))
 clear HC3 hb3 HW3 hc1
 go_wp2_with fail
 go_ret
 exact ⟨rfl,HW4.out⟩
set_option maxRecDepth 100000 in
set_option maxHeartbeats 16000000 in
theorem kw_walk11 (w:World) (hU:UT w) (hT:LTabs w):Calls Tryd.prog 5 #[.int .i64 11] w fun e w'=>e=.returned (.bool true)∧Below w.heap.size w w':=by
 have hc7:=cellsProg7
 have HU:=Lib.hid hU
 have HT:=Lib.hid hT
 clear hU hT
 go_enter Tryd.func5,Tryd.ntmps5
 go_wp2_with fail
 refine (kw_alloc 11 (by decide) _ (by rfl) 7 (by rfl) w _ _ HU.out).mono ?_
 rintro e w1 ⟨ds,da,dc,pa,pc,Ps,T,rfl,HB1,HW1,HCK⟩
 have hc1:w1.cell? ⟨w.heap.size+1,11,none⟩=some (.int .i64 7):=cell_below HB1.out (by simp only [World.cell?,second_at];rfl)
 have hlt1:w.heap.size+1 < w1.heap.size:=lt_of_cell hc1
 have hbx:=below_box w1 (pgB da ds.length dc pa Ps.length pc T)
 have HC2:=Lib.hid (HCK.out _ hbx (HT.out.below (HW1.out.trans (hbx.mono HW1.out.size))))
 replace hc1:=cell_below hbx hc1
 have HW2:=Lib.hid (HW1.out.trans (hbx.mono HW1.out.size))
 obtain ⟨p0,p1,p2,p3,p4,p5,p6⟩:=pg_cells (new_at w1 (pgB da ds.length dc pa Ps.length pc T))
 clear HCK HB1 HW1 hbx
 go_wp2_with fail
 refine HC2.out.mono ?_
 rintro e w2 ⟨rfl,hb2⟩
 replace hc1:=cell_below hb2 hc1
 have HW3:=Lib.hid (HW2.out.trans (hb2.mono HW2.out.size))
 have HC3:=Lib.hid (kknown_any w2 (Utf8Tabs_below HU.out HW3.out) (HT.out.below HW3.out))
 clear HC2 hb2 HW2 p0 p1 p2 p3 p4 p5 p6
 go_wp2_with fail
 refine HC3.out.mono ?_
 rintro e w3 ⟨rfl,hb3⟩
 have HW4:=Lib.hid (HW3.out.trans (hb3.mono HW3.out.size))
 clear HC3 hb3 HW3 hc1
 go_wp2_with fail
 go_ret
 exact ⟨rfl,HW4.out⟩
set_option maxRecDepth 100000 in
set_option maxHeartbeats 16000000 in
theorem kw_walk12 (w:World) (hU:UT w) (hT:LTabs w):Calls Tryd.prog 5 #[.int .i64 12] w fun e w'=>e=.returned (.bool true)∧Below w.heap.size w w':=by
 have hc7:=cellsProg7
 have HU:=Lib.hid hU
 have HT:=Lib.hid hT
 clear hU hT
 go_enter Tryd.func5,Tryd.ntmps5
 go_wp2_with fail
 refine (kw_alloc 12 (by decide) _ (by rfl) 7 (by rfl) w _ _ HU.out).mono ?_
 rintro e w1 ⟨ds,da,dc,pa,pc,Ps,T,rfl,HB1,HW1,HCK⟩
 have hc1:w1.cell? ⟨w.heap.size+1,12,none⟩=some (.int .i64 7):=cell_below HB1.out (by simp only [World.cell?,second_at];rfl)
 have hlt1:w.heap.size+1 < w1.heap.size:=lt_of_cell hc1
 have hbx:=below_box w1 (pgB da ds.length dc pa Ps.length pc T)
 have HC2:=Lib.hid (HCK.out _ hbx (HT.out.below (HW1.out.trans (hbx.mono HW1.out.size))))
 replace hc1:=cell_below hbx hc1
 have HW2:=Lib.hid (HW1.out.trans (hbx.mono HW1.out.size))
 obtain ⟨p0,p1,p2,p3,p4,p5,p6⟩:=pg_cells (new_at w1 (pgB da ds.length dc pa Ps.length pc T))
 clear HCK HB1 HW1 hbx
 go_wp2_with fail
 refine HC2.out.mono ?_
 rintro e w2 ⟨rfl,hb2⟩
 replace hc1:=cell_below hb2 hc1
 have HW3:=Lib.hid (HW2.out.trans (hb2.mono HW2.out.size))
 have HC3:=Lib.hid (kknown_any w2 (Utf8Tabs_below HU.out HW3.out) (HT.out.below HW3.out))
 clear HC2 hb2 HW2 p0 p1 p2 p3 p4 p5 p6
 go_wp2_with fail
 refine HC3.out.mono ?_
 rintro e w3 ⟨rfl,hb3⟩
 have HW4:=Lib.hid (HW3.out.trans (hb3.mono HW3.out.size))
 clear HC3 hb3 HW3 hc1
 go_wp2_with fail
 go_ret
 exact ⟨rfl,HW4.out⟩
set_option maxRecDepth 100000 in
set_option maxHeartbeats 16000000 in
theorem kw_walk13 (w:World) (hU:UT w) (hT:LTabs w):Calls Tryd.prog 5 #[.int .i64 13] w fun e w'=>e=.returned (.bool true)∧Below w.heap.size w w':=by
 have hc7:=cellsProg7
 have HU:=Lib.hid hU
 have HT:=Lib.hid hT
 clear hU hT
 go_enter Tryd.func5,Tryd.ntmps5
 go_wp2_with fail
 refine (kw_alloc 13 (by decide) _ (by rfl) 5 (by rfl) w _ _ HU.out).mono ?_
 rintro e w1 ⟨ds,da,dc,pa,pc,Ps,T,rfl,HB1,HW1,HCK⟩
 have hc1:w1.cell? ⟨w.heap.size+1,13,none⟩=some (.int .i64 5):=cell_below HB1.out (by simp only [World.cell?,second_at];rfl)
 have hlt1:w.heap.size+1 < w1.heap.size:=lt_of_cell hc1
 have hbx:=below_box w1 (pgB da ds.length dc pa Ps.length pc T)
 have HC2:=Lib.hid (HCK.out _ hbx (HT.out.below (HW1.out.trans (hbx.mono HW1.out.size))))
 replace hc1:=cell_below hbx hc1
 have HW2:=Lib.hid (HW1.out.trans (hbx.mono HW1.out.size))
 obtain ⟨p0,p1,p2,p3,p4,p5,p6⟩:=pg_cells (new_at w1 (pgB da ds.length dc pa Ps.length pc T))
 clear HCK HB1 HW1 hbx
 go_wp2_with fail
 refine HC2.out.mono ?_
 rintro e w2 ⟨rfl,hb2⟩
 replace hc1:=cell_below hb2 hc1
 have HW3:=Lib.hid (HW2.out.trans (hb2.mono HW2.out.size))
 have HC3:=Lib.hid (kknown_any w2 (Utf8Tabs_below HU.out HW3.out) (HT.out.below HW3.out))
 clear HC2 hb2 HW2 p0 p1 p2 p3 p4 p5 p6
 go_wp2_with fail
 refine HC3.out.mono ?_
 rintro e w3 ⟨rfl,hb3⟩
 have HW4:=Lib.hid (HW3.out.trans (hb3.mono HW3.out.size))
 clear HC3 hb3 HW3 hc1
 go_wp2_with fail
 go_ret
 exact ⟨rfl,HW4.out⟩
set_option maxRecDepth 100000 in
set_option maxHeartbeats 16000000 in
theorem kw_walk14 (w:World) (hU:UT w) (hT:LTabs w):Calls Tryd.prog 5 #[.int .i64 14] w fun e w'=>e=.returned (.bool true)∧Below w.heap.size w w':=by
 have hc7:=cellsProg7
 have HU:=Lib.hid hU
 have HT:=Lib.hid hT
 clear hU hT
 go_enter Tryd.func5,Tryd.ntmps5
 go_wp2_with fail
 refine (kw_alloc 14 (by decide) _ (by rfl) 5 (by rfl) w _ _ HU.out).mono ?_
 rintro e w1 ⟨ds,da,dc,pa,pc,Ps,T,rfl,HB1,HW1,HCK⟩
 have hc1:w1.cell? ⟨w.heap.size+1,14,none⟩=some (.int .i64 5):=cell_below HB1.out (by simp only [World.cell?,second_at];rfl)
 have hlt1:w.heap.size+1 < w1.heap.size:=lt_of_cell hc1
 have hbx:=below_box w1 (pgB da ds.length dc pa Ps.length pc T)
 have HC2:=Lib.hid (HCK.out _ hbx (HT.out.below (HW1.out.trans (hbx.mono HW1.out.size))))
 replace hc1:=cell_below hbx hc1
 have HW2:=Lib.hid (HW1.out.trans (hbx.mono HW1.out.size))
 obtain ⟨p0,p1,p2,p3,p4,p5,p6⟩:=pg_cells (new_at w1 (pgB da ds.length dc pa Ps.length pc T))
 clear HCK HB1 HW1 hbx
 go_wp2_with fail
 refine HC2.out.mono ?_
 rintro e w2 ⟨rfl,hb2⟩
 replace hc1:=cell_below hb2 hc1
 have HW3:=Lib.hid (HW2.out.trans (hb2.mono HW2.out.size))
 have HC3:=Lib.hid (kknown_any w2 (Utf8Tabs_below HU.out HW3.out) (HT.out.below HW3.out))
 clear HC2 hb2 HW2 p0 p1 p2 p3 p4 p5 p6
 go_wp2_with fail
 refine HC3.out.mono ?_
 rintro e w3 ⟨rfl,hb3⟩
 have HW4:=Lib.hid (HW3.out.trans (hb3.mono HW3.out.size))
 clear HC3 hb3 HW3 hc1
 go_wp2_with fail
 go_ret
 exact ⟨rfl,HW4.out⟩
set_option maxRecDepth 100000 in
set_option maxHeartbeats 16000000 in
theorem kw_walk15 (w:World) (hU:UT w) (hT:LTabs w):Calls Tryd.prog 5 #[.int .i64 15] w fun e w'=>e=.returned (.bool true)∧Below w.heap.size w w':=by
 have hc7:=cellsProg7
 have HU:=Lib.hid hU
 have HT:=Lib.hid hT
 clear hU hT
 go_enter Tryd.func5,Tryd.ntmps5
 go_wp2_with fail
 refine (kw_alloc 15 (by decide) _ (by rfl) 6 (by rfl) w _ _ HU.out).mono ?_
 rintro e w1 ⟨ds,da,dc,pa,pc,Ps,T,rfl,HB1,HW1,HCK⟩
 have hc1:w1.cell? ⟨w.heap.size+1,15,none⟩=some (.int .i64 6):=cell_below HB1.out (by simp only [World.cell?,second_at];rfl)
 have hlt1:w.heap.size+1 < w1.heap.size:=lt_of_cell hc1
 have hbx:=below_box w1 (pgB da ds.length dc pa Ps.length pc T)
 have HC2:=Lib.hid (HCK.out _ hbx (HT.out.below (HW1.out.trans (hbx.mono HW1.out.size))))
 replace hc1:=cell_below hbx hc1
 have HW2:=Lib.hid (HW1.out.trans (hbx.mono HW1.out.size))
 obtain ⟨p0,p1,p2,p3,p4,p5,p6⟩:=pg_cells (new_at w1 (pgB da ds.length dc pa Ps.length pc T))
 clear HCK HB1 HW1 hbx
 go_wp2_with fail
 refine HC2.out.mono ?_
 rintro e w2 ⟨rfl,hb2⟩
 replace hc1:=cell_below hb2 hc1
 have HW3:=Lib.hid (HW2.out.trans (hb2.mono HW2.out.size))
 have HC3:=Lib.hid (kknown_any w2 (Utf8Tabs_below HU.out HW3.out) (HT.out.below HW3.out))
 clear HC2 hb2 HW2 p0 p1 p2 p3 p4 p5 p6
 go_wp2_with fail
 refine HC3.out.mono ?_
 rintro e w3 ⟨rfl,hb3⟩
 have HW4:=Lib.hid (HW3.out.trans (hb3.mono HW3.out.size))
 clear HC3 hb3 HW3 hc1
 go_wp2_with fail
 go_ret
 exact ⟨rfl,HW4.out⟩
set_option maxRecDepth 100000 in
set_option maxHeartbeats 16000000 in
theorem kw_walk16 (w:World) (hU:UT w) (hT:LTabs w):Calls Tryd.prog 5 #[.int .i64 16] w fun e w'=>e=.returned (.bool true)∧Below w.heap.size w w':=by
 have hc7:=cellsProg7
 have HU:=Lib.hid hU
 have HT:=Lib.hid hT
 clear hU hT
 go_enter Tryd.func5,Tryd.ntmps5
 go_wp2_with fail
 refine (kw_alloc 16 (by decide) _ (by rfl) 5 (by rfl) w _ _ HU.out).mono ?_
 rintro e w1 ⟨ds,da,dc,pa,pc,Ps,T,rfl,HB1,HW1,HCK⟩
 have hc1:w1.cell? ⟨w.heap.size+1,16,none⟩=some (.int .i64 5):=cell_below HB1.out (by simp only [World.cell?,second_at];rfl)
 have hlt1:w.heap.size+1 < w1.heap.size:=lt_of_cell hc1
 have hbx:=below_box w1 (pgB da ds.length dc pa Ps.length pc T)
 have HC2:=Lib.hid (HCK.out _ hbx (HT.out.below (HW1.out.trans (hbx.mono HW1.out.size))))
 replace hc1:=cell_below hbx hc1
 have HW2:=Lib.hid (HW1.out.trans (hbx.mono HW1.out.size))
 obtain ⟨p0,p1,p2,p3,p4,p5,p6⟩:=pg_cells (new_at w1 (pgB da ds.length dc pa Ps.length pc T))
 clear HCK HB1 HW1 hbx
 go_wp2_with fail
 refine HC2.out.mono ?_
 rintro e w2 ⟨rfl,hb2⟩
 replace hc1:=cell_below hb2 hc1
 have HW3:=Lib.hid (HW2.out.trans (hb2.mono HW2.out.size))
 have HC3:=Lib.hid (kknown_any w2 (Utf8Tabs_below HU.out HW3.out) (HT.out.below HW3.out))
 clear HC2 hb2 HW2 p0 p1 p2 p3 p4 p5 p6
 go_wp2_with fail
 refine HC3.out.mono ?_
 rintro e w3 ⟨rfl,hb3⟩
 have HW4:=Lib.hid (HW3.out.trans (hb3.mono HW3.out.size))
 clear HC3 hb3 HW3 hc1
 go_wp2_with fail
 go_ret
 exact ⟨rfl,HW4.out⟩
set_option maxRecDepth 100000 in
set_option maxHeartbeats 16000000 in
theorem kw_walk17 (w:World) (hU:UT w) (hT:LTabs w):Calls Tryd.prog 5 #[.int .i64 17] w fun e w'=>e=.returned (.bool true)∧Below w.heap.size w w':=by
 have hc7:=cellsProg7
 have HU:=Lib.hid hU
 have HT:=Lib.hid hT
 clear hU hT
 go_enter Tryd.func5,Tryd.ntmps5
 go_wp2_with fail
 refine (kw_alloc 17 (by decide) _ (by rfl) 6 (by rfl) w _ _ HU.out).mono ?_
 rintro e w1 ⟨ds,da,dc,pa,pc,Ps,T,rfl,HB1,HW1,HCK⟩
 have hc1:w1.cell? ⟨w.heap.size+1,17,none⟩=some (.int .i64 6):=cell_below HB1.out (by simp only [World.cell?,second_at];rfl)
 have hlt1:w.heap.size+1 < w1.heap.size:=lt_of_cell hc1
 have hbx:=below_box w1 (pgB da ds.length dc pa Ps.length pc T)
 have HC2:=Lib.hid (HCK.out _ hbx (HT.out.below (HW1.out.trans (hbx.mono HW1.out.size))))
 replace hc1:=cell_below hbx hc1
 have HW2:=Lib.hid (HW1.out.trans (hbx.mono HW1.out.size))
 obtain ⟨p0,p1,p2,p3,p4,p5,p6⟩:=pg_cells (new_at w1 (pgB da ds.length dc pa Ps.length pc T))
 clear HCK HB1 HW1 hbx
 go_wp2_with fail
 refine HC2.out.mono ?_
 rintro e w2 ⟨rfl,hb2⟩
 replace hc1:=cell_below hb2 hc1
 have HW3:=Lib.hid (HW2.out.trans (hb2.mono HW2.out.size))
 have HC3:=Lib.hid (kknown_any w2 (Utf8Tabs_below HU.out HW3.out) (HT.out.below HW3.out))
 clear HC2 hb2 HW2 p0 p1 p2 p3 p4 p5 p6
 go_wp2_with fail
 refine HC3.out.mono ?_
 rintro e w3 ⟨rfl,hb3⟩
 have HW4:=Lib.hid (HW3.out.trans (hb3.mono HW3.out.size))
 clear HC3 hb3 HW3 hc1
 go_wp2_with fail
 go_ret
 exact ⟨rfl,HW4.out⟩
set_option maxRecDepth 100000 in
set_option maxHeartbeats 16000000 in
theorem kw_walk18 (w:World) (hU:UT w) (hT:LTabs w):Calls Tryd.prog 5 #[.int .i64 18] w fun e w'=>e=.returned (.bool true)∧Below w.heap.size w w':=by
 have hc7:=cellsProg7
 have HU:=Lib.hid hU
 have HT:=Lib.hid hT
 clear hU hT
 go_enter Tryd.func5,Tryd.ntmps5
 go_wp2_with fail
 refine (kw_alloc 18 (by decide) _ (by rfl) 7 (by rfl) w _ _ HU.out).mono ?_
 rintro e w1 ⟨ds,da,dc,pa,pc,Ps,T,rfl,HB1,HW1,HCK⟩
 have hc1:w1.cell? ⟨w.heap.size+1,18,none⟩=some (.int .i64 7):=cell_below HB1.out (by simp only [World.cell?,second_at];rfl)
 have hlt1:w.heap.size+1 < w1.heap.size:=lt_of_cell hc1
 have hbx:=below_box w1 (pgB da ds.length dc pa Ps.length pc T)
 have HC2:=Lib.hid (HCK.out _ hbx (HT.out.below (HW1.out.trans (hbx.mono HW1.out.size))))
 replace hc1:=cell_below hbx hc1
 have HW2:=Lib.hid (HW1.out.trans (hbx.mono HW1.out.size))
 obtain ⟨p0,p1,p2,p3,p4,p5,p6⟩:=pg_cells (new_at w1 (pgB da ds.length dc pa Ps.length pc T))
 clear HCK HB1 HW1 hbx
 go_wp2_with fail
 refine HC2.out.mono ?_
 rintro e w2 ⟨rfl,hb2⟩
 replace hc1:=cell_below hb2 hc1
 have HW3:=Lib.hid (HW2.out.trans (hb2.mono HW2.out.size))
 have HC3:=Lib.hid (kknown_any w2 (Utf8Tabs_below HU.out HW3.out) (HT.out.below HW3.out))
 clear HC2 hb2 HW2 p0 p1 p2 p3 p4 p5 p6
 go_wp2_with fail
 refine HC3.out.mono ?_
 rintro e w3 ⟨rfl,hb3⟩
 have HW4:=Lib.hid (HW3.out.trans (hb3.mono HW3.out.size))
 clear HC3 hb3 HW3 hc1
 go_wp2_with fail
 go_ret
 exact ⟨rfl,HW4.out⟩
set_option maxRecDepth 100000 in
theorem kw_walk (n:Int) (w:World) (hU:UT w) (hT:LTabs w) :
  Calls Tryd.prog 5 #[.int .i64 n] w fun e w'=>e=.returned (.bool true)∧Below w.heap.size w w':=by
 by_cases hr:0≤n∧n≤18
 ·obtain ⟨hn0,hn1⟩:=hr
  rcases (show n=0∨n=1∨n=2∨n=3∨n=4∨n=5∨n=6∨n=7∨n=8∨n=9∨n=10∨n=11∨n=12∨n=13∨n=14∨n=15∨n=16∨n=17∨n=18 by omega) with rfl | rfl | rfl | rfl | rfl | rfl | rfl | rfl | rfl | rfl | rfl | rfl | rfl | rfl | rfl | rfl | rfl | rfl | rfl
  ·exact kw_walk0 w hU hT
  ·exact kw_walk1 w hU hT
  ·exact kw_walk2 w hU hT
  ·exact kw_walk3 w hU hT
  ·exact kw_walk4 w hU hT
  ·exact kw_walk5 w hU hT
  ·exact kw_walk6 w hU hT
  ·exact kw_walk7 w hU hT
  ·exact kw_walk8 w hU hT
  ·exact kw_walk9 w hU hT
  ·exact kw_walk10 w hU hT
  ·exact kw_walk11 w hU hT
  ·exact kw_walk12 w hU hT
  ·exact kw_walk13 w hU hT
  ·exact kw_walk14 w hU hT
  ·exact kw_walk15 w hU hT
  ·exact kw_walk16 w hU hT
  ·exact kw_walk17 w hU hT
  ·exact kw_walk18 w hU hT
 ·rcases (show n < 0∨(0≤n∧19≤n) by omega) with h | ⟨h,h2⟩
  all_goals
   go_enter Tryd.func5,Tryd.ntmps5
   go_wp2
   go_ret
   exact ⟨rfl,(below_box w _).trans ((below_box _ _).mono (by simp))⟩
end Go.Proofs.YtmlmjopfbohglaaDoor
