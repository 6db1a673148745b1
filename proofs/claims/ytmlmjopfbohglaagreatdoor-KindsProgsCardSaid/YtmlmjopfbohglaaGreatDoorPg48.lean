/- Parts of the proof: KPg LexTb Law. -/
import Derived.Test.YtmlmjopfbohglaaGreatDoorPg42
import Derived.Test.YtmlmjopfbohglaaGreatDoorPg47
import Derived.Test.YtmlmjopfbohglaaGreatDoorTie
import Derived.Lib.LaidTab
import Derived.Lib.LaidU8
import Derived.Deep.DeepLaidRun
import Derived.OpenShut
import Derived.Carry
import Derived.ChangeOld
import Derived.Deep.DeepHandedRow
namespace Go.Proofs.YtmlmjopfbohglaaGreatDoor
open Go.RowKit
open Go.Maps
theorem pds_of {w:World} {pa:Option Addr} {ps:List Pd} (h:PdsLie w pa ps) (hf:∀ p ∈ ps,p.params.length≤10∧p.body.size≤100∧p.body.deep≤30):PdsIn w pa ps :=
 ⟨h.1,fun p hp=>⟨(h.2 p hp).params,(h.2 p hp).body,(h.2 p hp).sized,(h.2 p hp).name,(hf p hp).2.2,by have:=(hf p hp).2.1;omega⟩⟩
set_option maxRecDepth 100000 in
set_option maxHeartbeats 16000000 in
theorem kprogs_walk (ds:List Dc) (da:Option Addr) (dc:Nat) (ps:List Pd) (pa:Option Addr) (pc:Nat) (T:Nd) (w:World) (hd:DcsIn w da ds) (hp:PdsLie w pa ps) (hm:T.In w) (hms:T.sized) (hpc:ps.length≤pc) (hU:UT w) (hT:LTabs w) :
  Calls Tryz.prog 6 #[.agg #[.slice da ds.length dc,.slice pa ps.length pc,.string T.op,.string T.name,.int .i64 T.n,.int .i64 T.pos,.slice T.a T.kids.len T.cap]] w fun e w'=>e=.returned (.bool true)∧Below w.heap.size w w':=by
 have hc7:=cellsProg7
 have HW:=Lib.hid (below_box w (pgB da ds.length dc pa ps.length pc T))
 have HB:=Lib.hid (new_at w (pgB da ds.length dc pa ps.length pc T))
 have HC1:=Lib.hid (long_any ds da dc ps pa pc T (w.alloc (pgB da ds.length dc pa ps.length pc T)) (hp.below HW.out) (hm.below HW.out))
 obtain ⟨p0,p1,p2,p3,p4,p5,p6⟩:=pg_cells HB.out
 have HCK:=Lib.hid (fun (h:ds.length≤20∧ps.length≤10∧T.size≤200∧T.deep≤30∧∀ p ∈ ps,p.params.length≤10∧p.body.size≤100∧p.body.deep≤30) W (hW:Below w.heap.size w W)=>kcheck_any ds da dc ps pa pc T W (hT.below hW) (hd.below hW) (pds_of (hp.below hW) h.2.2.2.2) (hm.below hW) hms h.2.2.2.1 (by omega) (by omega) (by omega))
 have HRC:=Lib.hid (fun (h:ds.length≤20∧ps.length≤10∧T.size≤200∧T.deep≤30∧∀ p ∈ ps,p.params.length≤10∧p.body.size≤100∧p.body.deep≤30) W (hW:Below w.heap.size w W)=>rcheck_any ds da dc ps pa pc T W (Utf8Tabs_below hU hW) (hd.below hW) (pds_of (hp.below hW) h.2.2.2.2) (hm.below hW) hms h.2.2.2.1 (by omega) (by omega) (by omega) hpc)
 have HKN:=Lib.hid (fun W (hW:Below w.heap.size w W)=>kknown_any W (Utf8Tabs_below hU hW) (hT.below hW))
 clear hd hp hm hms hU hT hpc
 generalize checkR ds ps T=q at HCK HRC
 obtain ⟨q1,q2⟩:=q
 simp only [] at HCK HRC
 go_enter Tryz.func6,Tryz.ntmps6
 go_wp2_with fail
 refine HC1.out.mono ?_
 rintro e w1 ⟨b,rfl,hb1',hf⟩
 have hb1:=HW.out.trans (hb1'.mono HW.out.size)
 have HB1:=Lib.hid ((hb1'.block _ (lt_heap HB.out)).trans HB.out)
 clear hb1' HB HW p0 p1 p2 p3 p4 p5 p6
 cases b with
 | true =>
  clear HC1 HCK HRC HKN hf HB1
  go_wp2_with fail
  go_ret
  exact ⟨rfl,hb1⟩
 | false =>
  have HF:=Lib.hid (hf rfl)
  have HW1:=Lib.hid hb1
  have HC2:=Lib.hid (HCK.out HF.out w1 hb1)
  clear HC1 HCK hf hb1
  obtain ⟨p0,p1,p2,p3,p4,p5,p6⟩:=pg_cells HB1.out
  go_wp2_with fail
  refine HC2.out.mono ?_
  rintro e w2 ⟨rfl,hb2⟩
  have HW2:=Lib.hid (HW1.out.trans (hb2.mono HW1.out.size))
  have HC3:=Lib.hid (HRC.out HF.out w2 HW2.out)
  have HB2:=Lib.hid ((hb2.block _ (lt_heap HB1.out)).trans HB1.out)
  clear HC2 HRC HF HW1 hb2 HB1 p0 p1 p2 p3 p4 p5 p6
  obtain ⟨p0,p1,p2,p3,p4,p5,p6⟩:=pg_cells HB2.out
  go_wp2_with fail
  refine HC3.out.mono ?_
  rintro e w3 ⟨rfl,hb3⟩
  have HW3:=Lib.hid (HW2.out.trans (hb3.mono HW2.out.size))
  have HC4:=Lib.hid (HKN.out w3 HW3.out)
  clear HC3 HKN HW2 hb3 HB2 p0 p1 p2 p3 p4 p5 p6
  go_wp2_with fail
  refine HC4.out.mono ?_
  rintro e w4 ⟨rfl,hb4⟩
  have HW4:=Lib.hid (HW3.out.trans (hb4.mono HW3.out.size))
  clear HC4 HW3 hb4
  go_wp2_with fail
  go_ret
  exact ⟨rfl,HW4.out⟩
end Go.Proofs.YtmlmjopfbohglaaGreatDoor
namespace Go.Proofs.YtmlmjopfbohglaaGreatDoor
open Go.RowKit
open Go.Lib in
theorem cells_of_strs {H:Type} {enc:TypeId × Value→H} {P:Program} {w:World} {base:Nat} {sp:Nat→Bool} {held:Bool} {fuel:Nat} {t e:TypeId} {n:Nat} {cs:List Value} {zs:List ByteArray} {p:List MemPlace}
  (ht:P.underlying t=some (.array n e)) (he:P.underlying e=some .string) (hce:P.cellsOf e=1) (hct:P.cellsOf t=n)
  (h:DataW.trod enc P w base sp held fuel t cs=some (.agg (zs.map fun z=>.lit (.string z.data.toList)),p)):cs=zs.map Value.string:=by
 cases fuel with
 | zero=>simp [DataW.trod] at h
 | succ fuel =>
  simp only [DataW.trod,ht,hce,hct,Nat.mul_one] at h
  split at h
  ·rename_i hl
   obtain ⟨xs,hm,hx⟩:=Option.map_eq_some_iff.1 h
   have hxs:xs.map (·.1)=zs.map fun z=>(DataW.lit (.string z.data.toList):DataW H):=by
    have:=congrArg Prod.fst hx
    simpa using this
   have hxl:xs.length=n:=by simpa using mapM_length hm
   have hzl:zs.length=n:=by
    have:=congrArg List.length hxs
    simp at this
    omega
   apply List.ext_getElem?
   intro i
   by_cases hi:i < n
   ·obtain ⟨b,hb,hf⟩:=mapM_at hm i i (by simp [hi])
    obtain ⟨z,hc,rfl,_⟩:=DataW.trod_string he hf
    have h1:cs[i]? = some (.string z):=by
     have:=congrArg (·[0]?) hc
     simpa [List.getElem?_take,List.getElem?_drop] using this
    have h2:(xs.map (·.1))[i]? = some (DataW.lit (.string z.data.toList):DataW H):=by simp [hb]
    rw [hxs] at h2
    simp only [List.getElem?_map,Option.map_eq_some_iff,DataW.lit.injEq,Lit.string.injEq] at h2
    obtain ⟨z',hz',hzz⟩:=h2
    obtain rfl:z'=z:=ByteArray.ext (Array.ext' hzz)
    simp [h1,hz']
   ·rw [List.getElem?_eq_none (by omega),List.getElem?_eq_none (by simp;omega)]
  ·cases h
theorem space_eq:(Lib.tabData .u8 Lib.asciiSpaceTab:DataW Unit)=Rows.laid_strings_asciiSpace:=by kernel_rfl
theorem signs_eq:(DataW.agg (sigs.map fun z=>.lit (.string z.data.toList)):DataW Unit)=Rows.laid_sibyl_lex_signs:=by kernel_rfl
theorem first_eq:Lib.firstData=Rows.laid_unicode_utf8_first:=by kernel_rfl
theorem ltabs_of {l : List (String × DataW Unit)} {W : World} (h : laidMet Tryz.prog l W) (h1 : ("strings.asciiSpace", Rows.laid_strings_asciiSpace) ∈ l) (h2 : ("sibyl/lex.signs", Rows.laid_sibyl_lex_signs) ∈ l) : LTabs W := by
 have r1:=Lib.laidMet.reads h h1
 have r2:=Lib.laidMet.reads h h2
 rw [← space_eq] at r1
 rw [← signs_eq] at r2
 constructor
 ·obtain ⟨g,t,cs,fuel,p,hg,hty,hvar,hd⟩:=r1
  obtain rfl := Option.some.inj ((show Tryz.prog.globalNamed "strings.asciiSpace" = some 4 by kernel_rfl).symm.trans hg)
  obtain rfl:=Option.some.inj ((show (Tryz.prog.globals[4]?).map (·.type)=some 181 by kernel_rfl).symm.trans hty)
  unfold Lib.TabIs
  rw [hvar,← Lib.cells_of_tab Tryz.underlying181 Tryz.underlying5 (by kernel_rfl) (by kernel_rfl) hd]
 ·obtain ⟨g,t,cs,fuel,p,hg,hty,hvar,hd⟩:=r2
  obtain rfl := Option.some.inj ((show Tryz.prog.globalNamed "sibyl/lex.signs" = some 0 by kernel_rfl).symm.trans hg)
  obtain rfl:=Option.some.inj ((show (Tryz.prog.globals[0]?).map (·.type)=some 165 by kernel_rfl).symm.trans hty)
  rw [hvar,← cells_of_strs Tryz.underlying165 Tryz.underlying9 (by kernel_rfl) (by kernel_rfl) hd]
def firstCells:Array Value:=(Go.Pinned.utf8FirstZ.map fun (n:Nat)=>Value.int .u8 (n:Int)).toArray
def acceptCells:Array Value:=((List.range 16).flatMap fun i=>[Value.int .u8 (Lib.accLo i:Int),Value.int .u8 (Lib.accHi i:Int)]).toArray
def putIn (h:Array Obj) (g:Nat) (cs:Array Value):Array Obj:=h.modify g fun
 | .cells _ t frozen=>.cells cs t frozen
 | o=>o
noncomputable def laidWorld (os:Os):World :=
 let N:=(World.settled Tryz.prog os).heap.size
 let w0:=World.holding Tryz.prog os ⟨#[.cells (Lib.whiteT.map fun (z:Nat)=>Value.int .u16 (z:Int)).toArray (Tryz.lays199_ren.t 198),.cells #[.slice (some ⟨N,0,none⟩) 7 7,.slice none 0 0,.int .i64 2] (Tryz.lays199_ren.t 196)],#[],[]⟩
 { w0 with heap:=putIn (putIn (putIn (putIn (putIn w0.heap 4 (Lib.asciiSpaceTab.map fun z=>Value.int .u8 z).toArray) 0 (sigs.map Value.string).toArray) 2 firstCells) 3 acceptCells) 5 #[.pointer (some ⟨N+1,0,none⟩)] }
theorem laid_met5 (os : Os) (args : Array Value) : laidMet Tryz.prog [("unicode/utf8.acceptRanges", Rows.laid_unicode_utf8_acceptRanges), ("unicode.White_Space", Rows.laid_unicode_White_Space), ("strings.asciiSpace", Rows.laid_strings_asciiSpace), ("sibyl/lex.signs", Rows.laid_sibyl_lex_signs), ("unicode/utf8.first", Rows.laid_unicode_utf8_first)] ((laidWorld os).forCall (fun _ _ => 0) ⟨#[], args, []⟩).memory :=
 laidMet_of_run3 10 (by kernel_rfl) (by kernel_rfl) (by kernel_rfl)
end Go.Proofs.YtmlmjopfbohglaaGreatDoor
namespace Go.Proofs.YtmlmjopfbohglaaGreatDoor
open Go.RowKit
theorem accept_eq:Lib.acceptData=Rows.laid_unicode_utf8_acceptRanges:=by kernel_rfl
theorem u8tabs_of {l : List (String × DataW Unit)} {W : World} (h : laidMet Tryz.prog l W) (h1 : ("unicode/utf8.first", Rows.laid_unicode_utf8_first) ∈ l) (h2 : ("unicode/utf8.acceptRanges", Rows.laid_unicode_utf8_acceptRanges) ∈ l) : Lib.Utf8Tabs 2 3 W := by
 have r1:=Lib.laidMet.reads h h1
 have r2:=Lib.laidMet.reads h h2
 rw [← first_eq] at r1
 rw [← accept_eq] at r2
 exact utf8Tabs_of_reads (ρ:=Tryz.lays260_ren) { Tryz.lays260 with } ⟨by kernel_rfl,by kernel_rfl,by kernel_rfl,by kernel_rfl,by kernel_rfl,by kernel_rfl,by kernel_rfl⟩ r1 r2
end Go.Proofs.YtmlmjopfbohglaaGreatDoor
namespace Go.Proofs.YtmlmjopfbohglaaGreatDoor
open Go.ChangeShapes Go.WideShapes Go.ChangeAt Go.RowKit
def paramsRowed (P:Program) (ts:List TypeId):Bool:=ts.all fun t=>P.readableRec t && decide (t < P.types.size)
theorem below_trodAll {H:Type} {enc:TypeId × Value→H} {P:Program} (hl:laidOutB P=true) {W W':World} (hb:Below W.heap.size W W') :
  ∀ {ts:List TypeId} {vs:List Value} {ds:List (DataW H)} {ps:List MemPlace},paramsRowed P ts=true→DataW.TrodAll enc P W 0 (fun _=>true) true ts vs ds ps→(∀ x ∈ ps,x.block < W.heap.size) →
   DataW.TrodAll enc P W' 0 (fun b=>decide (b < W.heap.size)) true ts vs ds ps
 | [],[],[],_,_,h,_=>h
 | [],_ :: _,_,_,_,h,_=>h.elim
 | [],[],_ :: _,_,_,h,_=>h.elim
 | _ :: _,[],_,_,_,h,_=>h.elim
 | _ :: _,_ :: _,[],_,_,h,_=>h.elim
 | t :: ts,v :: vs,d :: ds,ps,hr,h,hlt=>by
  obtain ⟨p,q,h1,h2,rfl⟩:=h
  simp only [paramsRowed,List.all_cons,Bool.and_eq_true,decide_eq_true_eq] at hr
  exact ⟨p,q,Below.trod hl hr.1.1 hr.1.2 h1 hb (fun x hx=>hlt x (List.mem_append_left _ hx)),
   below_trodAll hl hb (by simpa [paramsRowed] using hr.2) h2 (fun x hx=>hlt x (List.mem_append_right _ hx)),rfl⟩
theorem law_post {H:Type} {enc:TypeId × Value→H} {P:Program} {f:Func} {s:ChangeSpec} {W W':World} {args:Array Value} {ds gs:List (DataW H)} {before:List MemPlace} {tb:TypeId}
  (hl:laidOutB P=true) (hb:Below W.heap.size W W') (hpr:paramsRowed P f.params.toList=true) (hvars:s.vars=[]) (hres:f.resultTypes=#[tb]) (htb:P.underlying tb=some .bool)
  (hfn:s.fn H ds = { results:=[.lit (.bool true)],args:=ds })
  (hW:DataW.Whole enc P f.params.toList s.vars false W args.toList ds gs before):s.post enc P f false true false false W args (.bool true) W':=by
 have hW':=hW
 obtain ⟨p,q,hA,hV,rfl,_,_⟩:=hW
 rw [hvars] at hV
 obtain ⟨rfl,rfl⟩:=trodVars_none hV
 have hlt:∀ x ∈ p,x.block < W.heap.size:=fun x hx=>hW'.lt x (List.mem_append_left _ hx)
 have e1:s.fn H (ds ++ []) = { results:=[.lit (.bool true)],args:=ds }:=by rw [List.append_nil];exact hfn
 refine ⟨ds,[],p ++ [],[],p,[],hW',?_,?_,?_,hb.frame _,fun h=>by cases h⟩
 ·rw [e1,hres]
  exact trodAll_cons_mk (shut_bool htb true) trodAll_mk0
 ·rw [e1]
  exact below_trodAll hl hb hpr hA hlt
 ·rw [e1,hvars]
  exact rfl
end Go.Proofs.YtmlmjopfbohglaaGreatDoor
