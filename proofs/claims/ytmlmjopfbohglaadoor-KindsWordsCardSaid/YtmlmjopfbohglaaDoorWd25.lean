/- Parts of the proof: RpD PPartR PPart2R PListR. -/
import Derived.Test.YtmlmjopfbohglaaDoorWd24
import Derived.Maps.AppendAt
namespace Go.Proofs.YtmlmjopfbohglaaDoor
open Go.RowKit
abbrev relA:Array Value:=#[.string ⟨#[61]⟩,.string ⟨#[126,61]⟩,.string ⟨#[60]⟩,.string ⟨#[60,61]⟩,.string ⟨#[105,110]⟩,.string ⟨#[110,111,116,105,110]⟩,.string ⟨#[115,117,98]⟩]
abbrev relB:Array Value:=#[.string ⟨#[101,113]⟩,.string ⟨#[110,101]⟩,.string ⟨#[108,116]⟩,.string ⟨#[108,101]⟩,.string ⟨#[105,110]⟩,.string ⟨#[110,111,116,105,110]⟩,.string ⟨#[115,117,98]⟩]
set_option maxRecDepth 100000 in
set_option maxHeartbeats 4000000 in
theorem rrel_g (l:List Tok) (w:World) (B:Nat) (h:PrS w B (.good l)):Calls Tryd.prog 179 #[.pointer (some ⟨B,0,none⟩)] w fun y w'=>y=.returned (.string (psg 4 (wrd l)))∧Below w.heap.size w w':=by
 have HS:=Lib.hid h
 clear h
 obtain ⟨r,hr⟩:∃ r,r=psg 4 (wrd l):=⟨_,rfl⟩
 rw [← hr]
 have HR:Hid (r=psgF 4 (wrd l) (psigs.drop 4)):=Lib.hid hr
 clear hr
 go_enter Tryd.func179,Tryd.ntmps179
 go_wp2
 go_loopw [5] (fun i wr=>∃ k:Nat,i=.int .i64 k∧k≤7∧Hid (r=psgF 4 (wrd l) (psigs.drop (4+k)))∧Hid (wr.heap[w.heap.size]? = some (.cells relA 9))∧Hid (wr.heap[w.heap.size+1]? = some (.cells relB 9))∧Hid (Below w.heap.size w wr)) (fun i _=>7 - (intOf i).toNat)
 case atStart =>
  refine ⟨0,rfl,by omega,HR,Lib.hid ?_,Lib.hid (second_at w _ _),Lib.hid (two_boxes _ _ _)⟩
  rw [Below.heap_alloc _ _ _ (by simp)]
  exact new_at _ _
 case round =>
  obtain ⟨k,rfl,hk,HE,H1,H2,HB⟩:=hrel
  have hcs:k=0∨k=1∨k=2∨k=3∨k=4∨k=5∨k=6∨k=7:=by omega
  clear hk
  rcases hcs with rfl | rfl | rfl | rfl | rfl | rfl | rfl | rfl
  ·have c1:wr.cell? ⟨w.heap.size,0,none⟩=some (.string ⟨#[61]⟩):=by rw [cell_of_row _ _ _ _ _ _ H1.out];rfl
   have c2:wr.cell? ⟨w.heap.size+1,0,none⟩=some (.string ⟨#[101,113]⟩):=by rw [cell_of_row _ _ _ _ _ _ H2.out];rfl
   have he:r=if ((⟨#[61]⟩:ByteArray).toList == (wrd l).toList)=true then ⟨#[101,113]⟩ else psgF 4 (wrd l) (psigs.drop (4+1)):=HE.out
   rw [show ((⟨#[61]⟩:ByteArray).toList == (wrd l).toList)=((wrd l).toList == (⟨#[61]⟩:ByteArray).toList) from BEq.comm] at he
   have HC:=Lib.hid (ris_g l ⟨#[61]⟩ wr B (by decide +kernel) (HS.out.below HB.out))
   generalize ((wrd l).toList == (⟨#[61]⟩:ByteArray).toList)=q at HC he
   cases q with
   | true =>
    rw [if_pos rfl] at he
    subst he
    clear HE
    go_wp2_with fail
    refine HC.out.mono ?_
    rintro e2 w2 ⟨rfl,hb2⟩
    have hbb:=HB.out.trans (hb2.mono HB.out.size)
    have c3:w2.cell? ⟨w.heap.size+1,0,none⟩=some (.string ⟨#[101,113]⟩):=cell_below hb2 c2
    clear hb2 HC HB c1 c2 H1 H2
    go_wp2_with fail
    go_ret
    exact ⟨rfl,hbb⟩
   | false =>
    rw [if_neg (by decide)] at he
    have HE2:=Lib.hid he
    clear HE he
    go_wp2_with fail
    refine HC.out.mono ?_
    rintro e2 w2 ⟨rfl,hb2⟩
    have HB2:=Lib.hid (HB.out.trans (hb2.mono HB.out.size))
    have H12:=Lib.hid ((hb2.block _ (lt_heap H1.out)).trans H1.out)
    have H22:=Lib.hid ((hb2.block _ (lt_heap H2.out)).trans H2.out)
    clear hb2 HC HB c1 c2 H1 H2
    go_wp2_with fail
    go_roundw
    case rel=>exact ⟨1,by go_num,by omega,HE2,H12,H22,HB2⟩
    case measure=>(try simp [intOf]);try omega
  ·have c1:wr.cell? ⟨w.heap.size,1,none⟩=some (.string ⟨#[126,61]⟩):=by rw [cell_of_row _ _ _ _ _ _ H1.out];rfl
   have c2:wr.cell? ⟨w.heap.size+1,1,none⟩=some (.string ⟨#[110,101]⟩):=by rw [cell_of_row _ _ _ _ _ _ H2.out];rfl
   have he:r=if ((⟨#[126,61]⟩:ByteArray).toList == (wrd l).toList)=true then ⟨#[110,101]⟩ else psgF 4 (wrd l) (psigs.drop (4+2)):=HE.out
   rw [show ((⟨#[126,61]⟩:ByteArray).toList == (wrd l).toList)=((wrd l).toList == (⟨#[126,61]⟩:ByteArray).toList) from BEq.comm] at he
   have HC:=Lib.hid (ris_g l ⟨#[126,61]⟩ wr B (by decide +kernel) (HS.out.below HB.out))
   generalize ((wrd l).toList == (⟨#[126,61]⟩:ByteArray).toList)=q at HC he
   cases q with
   | true =>
    rw [if_pos rfl] at he
    subst he
    clear HE
    go_wp2_with fail
    refine HC.out.mono ?_
    rintro e2 w2 ⟨rfl,hb2⟩
    have hbb:=HB.out.trans (hb2.mono HB.out.size)
    have c3:w2.cell? ⟨w.heap.size+1,1,none⟩=some (.string ⟨#[110,101]⟩):=cell_below hb2 c2
    clear hb2 HC HB c1 c2 H1 H2
    go_wp2_with fail
    go_ret
    exact ⟨rfl,hbb⟩
   | false =>
    rw [if_neg (by decide)] at he
    have HE2:=Lib.hid he
    clear HE he
    go_wp2_with fail
    refine HC.out.mono ?_
    rintro e2 w2 ⟨rfl,hb2⟩
    have HB2:=Lib.hid (HB.out.trans (hb2.mono HB.out.size))
    have H12:=Lib.hid ((hb2.block _ (lt_heap H1.out)).trans H1.out)
    have H22:=Lib.hid ((hb2.block _ (lt_heap H2.out)).trans H2.out)
    clear hb2 HC HB c1 c2 H1 H2
    go_wp2_with fail
    go_roundw
    case rel=>exact ⟨2,by go_num,by omega,HE2,H12,H22,HB2⟩
    case measure=>(try simp [intOf]);try omega
  ·have c1:wr.cell? ⟨w.heap.size,2,none⟩=some (.string ⟨#[60]⟩):=by rw [cell_of_row _ _ _ _ _ _ H1.out];rfl
   have c2:wr.cell? ⟨w.heap.size+1,2,none⟩=some (.string ⟨#[108,116]⟩):=by rw [cell_of_row _ _ _ _ _ _ H2.out];rfl
   have he:r=if ((⟨#[60]⟩:ByteArray).toList == (wrd l).toList)=true then ⟨#[108,116]⟩ else psgF 4 (wrd l) (psigs.drop (4+3)):=HE.out
   rw [show ((⟨#[60]⟩:ByteArray).toList == (wrd l).toList)=((wrd l).toList == (⟨#[60]⟩:ByteArray).toList) from BEq.comm] at he
   have HC:=Lib.hid (ris_g l ⟨#[60]⟩ wr B (by decide +kernel) (HS.out.below HB.out))
   generalize ((wrd l).toList == (⟨#[60]⟩:ByteArray).toList)=q at HC he
   cases q with
   | true =>
    rw [if_pos rfl] at he
    subst he
    clear HE
    go_wp2_with fail
    refine HC.out.mono ?_
    rintro e2 w2 ⟨rfl,hb2⟩
    have hbb:=HB.out.trans (hb2.mono HB.out.size)
    have c3:w2.cell? ⟨w.heap.size+1,2,none⟩=some (.string ⟨#[108,116]⟩):=cell_below hb2 c2
    clear hb2 HC HB c1 c2 H1 H2
    go_wp2_with fail
    go_ret
    exact ⟨rfl,hbb⟩
   | false =>
    rw [if_neg (by decide)] at he
    have HE2:=Lib.hid he
    clear HE he
    go_wp2_with fail
    refine HC.out.mono ?_
    rintro e2 w2 ⟨rfl,hb2⟩
    have HB2:=Lib.hid (HB.out.trans (hb2.mono HB.out.size))
    have H12:=Lib.hid ((hb2.block _ (lt_heap H1.out)).trans H1.out)
    have H22:=Lib.hid ((hb2.block _ (lt_heap H2.out)).trans H2.out)
    clear hb2 HC HB c1 c2 H1 H2
    go_wp2_with fail
    go_roundw
    case rel=>exact ⟨3,by go_num,by omega,HE2,H12,H22,HB2⟩
    case measure=>(try simp [intOf]);try omega
  ·have c1:wr.cell? ⟨w.heap.size,3,none⟩=some (.string ⟨#[60,61]⟩):=by rw [cell_of_row _ _ _ _ _ _ H1.out];rfl
   have c2:wr.cell? ⟨w.heap.size+1,3,none⟩=some (.string ⟨#[108,101]⟩):=by rw [cell_of_row _ _ _ _ _ _ H2.out];rfl
   have he:r=if ((⟨#[60,61]⟩:ByteArray).toList == (wrd l).toList)=true then ⟨#[108,101]⟩ else psgF 4 (wrd l) (psigs.drop (4+4)):=HE.out
   rw [show ((⟨#[60,61]⟩:ByteArray).toList == (wrd l).toList)=((wrd l).toList == (⟨#[60,61]⟩:ByteArray).toList) from BEq.comm] at he
   have HC:=Lib.hid (ris_g l ⟨#[60,61]⟩ wr B (by decide +kernel) (HS.out.below HB.out))
   generalize ((wrd l).toList == (⟨#[60,61]⟩:ByteArray).toList)=q at HC he
   cases q with
   | true =>
    rw [if_pos rfl] at he
    subst he
    clear HE
    go_wp2_with fail
    refine HC.out.mono ?_
    rintro e2 w2 ⟨rfl,hb2⟩
    have hbb:=HB.out.trans (hb2.mono HB.out.size)
    have c3:w2.cell? ⟨w.heap.size+1,3,none⟩=some (.string ⟨#[108,101]⟩):=cell_below hb2 c2
    clear hb2 HC HB c1 c2 H1 H2
    go_wp2_with fail
    go_ret
    exact ⟨rfl,hbb⟩
   | false =>
    rw [if_neg (by decide)] at he
    have HE2:=Lib.hid he
    clear HE he
    go_wp2_with fail
    refine HC.out.mono ?_
    rintro e2 w2 ⟨rfl,hb2⟩
    have HB2:=Lib.hid (HB.out.trans (hb2.mono HB.out.size))
    have H12:=Lib.hid ((hb2.block _ (lt_heap H1.out)).trans H1.out)
    have H22:=Lib.hid ((hb2.block _ (lt_heap H2.out)).trans H2.out)
    clear hb2 HC HB c1 c2 H1 H2
    go_wp2_with fail
    go_roundw
    case rel=>exact ⟨4,by go_num,by omega,HE2,H12,H22,HB2⟩
    case measure=>(try simp [intOf]);try omega
  ·have c1:wr.cell? ⟨w.heap.size,4,none⟩=some (.string ⟨#[105,110]⟩):=by rw [cell_of_row _ _ _ _ _ _ H1.out];rfl
   have c2:wr.cell? ⟨w.heap.size+1,4,none⟩=some (.string ⟨#[105,110]⟩):=by rw [cell_of_row _ _ _ _ _ _ H2.out];rfl
   have he:r=if ((⟨#[105,110]⟩:ByteArray).toList == (wrd l).toList)=true then ⟨#[105,110]⟩ else psgF 4 (wrd l) (psigs.drop (4+5)):=HE.out
   rw [show ((⟨#[105,110]⟩:ByteArray).toList == (wrd l).toList)=((wrd l).toList == (⟨#[105,110]⟩:ByteArray).toList) from BEq.comm] at he
   have HC:=Lib.hid (ris_g l ⟨#[105,110]⟩ wr B (by decide +kernel) (HS.out.below HB.out))
   generalize ((wrd l).toList == (⟨#[105,110]⟩:ByteArray).toList)=q at HC he
   cases q with
   | true =>
    rw [if_pos rfl] at he
    subst he
    clear HE
    go_wp2_with fail
    refine HC.out.mono ?_
    rintro e2 w2 ⟨rfl,hb2⟩
    have hbb:=HB.out.trans (hb2.mono HB.out.size)
    have c3:w2.cell? ⟨w.heap.size+1,4,none⟩=some (.string ⟨#[105,110]⟩):=cell_below hb2 c2
    clear hb2 HC HB c1 c2 H1 H2
    go_wp2_with fail
    go_ret
    exact ⟨rfl,hbb⟩
   | false =>
    rw [if_neg (by decide)] at he
    have HE2:=Lib.hid he
    clear HE he
    go_wp2_with fail
    refine HC.out.mono ?_
    rintro e2 w2 ⟨rfl,hb2⟩
    have HB2:=Lib.hid (HB.out.trans (hb2.mono HB.out.size))
    have H12:=Lib.hid ((hb2.block _ (lt_heap H1.out)).trans H1.out)
    have H22:=Lib.hid ((hb2.block _ (lt_heap H2.out)).trans H2.out)
    clear hb2 HC HB c1 c2 H1 H2
    go_wp2_with fail
    go_roundw
    case rel=>exact ⟨5,by go_num,by omega,HE2,H12,H22,HB2⟩
    case measure=>(try simp [intOf]);try omega
  ·have c1:wr.cell? ⟨w.heap.size,5,none⟩=some (.string ⟨#[110,111,116,105,110]⟩):=by rw [cell_of_row _ _ _ _ _ _ H1.out];rfl
   have c2:wr.cell? ⟨w.heap.size+1,5,none⟩=some (.string ⟨#[110,111,116,105,110]⟩):=by rw [cell_of_row _ _ _ _ _ _ H2.out];rfl
   have he:r=if ((⟨#[110,111,116,105,110]⟩:ByteArray).toList == (wrd l).toList)=true then ⟨#[110,111,116,105,110]⟩ else psgF 4 (wrd l) (psigs.drop (4+6)):=HE.out
   rw [show ((⟨#[110,111,116,105,110]⟩:ByteArray).toList == (wrd l).toList)=((wrd l).toList == (⟨#[110,111,116,105,110]⟩:ByteArray).toList) from BEq.comm] at he
   have HC:=Lib.hid (ris_g l ⟨#[110,111,116,105,110]⟩ wr B (by decide +kernel) (HS.out.below HB.out))
   generalize ((wrd l).toList == (⟨#[110,111,116,105,110]⟩:ByteArray).toList)=q at HC he
   cases q with
   | true =>
    rw [if_pos rfl] at he
    subst he
    clear HE
    go_wp2_with fail
    refine HC.out.mono ?_
    rintro e2 w2 ⟨rfl,hb2⟩
    have hbb:=HB.out.trans (hb2.mono HB.out.size)
    have c3:w2.cell? ⟨w.heap.size+1,5,none⟩=some (.string ⟨#[110,111,116,105,110]⟩):=cell_below hb2 c2
    clear hb2 HC HB c1 c2 H1 H2
    go_wp2_with fail
    go_ret
    exact ⟨rfl,hbb⟩
   | false =>
    rw [if_neg (by decide)] at he
    have HE2:=Lib.hid he
    clear HE he
    go_wp2_with fail
    refine HC.out.mono ?_
    rintro e2 w2 ⟨rfl,hb2⟩
    have HB2:=Lib.hid (HB.out.trans (hb2.mono HB.out.size))
    have H12:=Lib.hid ((hb2.block _ (lt_heap H1.out)).trans H1.out)
    have H22:=Lib.hid ((hb2.block _ (lt_heap H2.out)).trans H2.out)
    clear hb2 HC HB c1 c2 H1 H2
    go_wp2_with fail
    go_roundw
    case rel=>exact ⟨6,by go_num,by omega,HE2,H12,H22,HB2⟩
    case measure=>(try simp [intOf]);try omega
  ·have c1:wr.cell? ⟨w.heap.size,6,none⟩=some (.string ⟨#[115,117,98]⟩):=by rw [cell_of_row _ _ _ _ _ _ H1.out];rfl
   have c2:wr.cell? ⟨w.heap.size+1,6,none⟩=some (.string ⟨#[115,117,98]⟩):=by rw [cell_of_row _ _ _ _ _ _ H2.out];rfl
   have he:r=if ((⟨#[115,117,98]⟩:ByteArray).toList == (wrd l).toList)=true then ⟨#[115,117,98]⟩ else psgF 4 (wrd l) (psigs.drop (4+7)):=HE.out
   rw [show ((⟨#[115,117,98]⟩:ByteArray).toList == (wrd l).toList)=((wrd l).toList == (⟨#[115,117,98]⟩:ByteArray).toList) from BEq.comm] at he
   have HC:=Lib.hid (ris_g l ⟨#[115,117,98]⟩ wr B (by decide +kernel) (HS.out.below HB.out))
   generalize ((wrd l).toList == (⟨#[115,117,98]⟩:ByteArray).toList)=q at HC he
   cases q with
   | true =>
    rw [if_pos rfl] at he
    subst he
    clear HE
    go_wp2_with fail
    refine HC.out.mono ?_
    rintro e2 w2 ⟨rfl,hb2⟩
    have hbb:=HB.out.trans (hb2.mono HB.out.size)
    have c3:w2.cell? ⟨w.heap.size+1,6,none⟩=some (.string ⟨#[115,117,98]⟩):=cell_below hb2 c2
    clear hb2 HC HB c1 c2 H1 H2
    go_wp2_with fail
    go_ret
    exact ⟨rfl,hbb⟩
   | false =>
    rw [if_neg (by decide)] at he
    have HE2:=Lib.hid he
    clear HE he
    go_wp2_with fail
    refine HC.out.mono ?_
    rintro e2 w2 ⟨rfl,hb2⟩
    have HB2:=Lib.hid (HB.out.trans (hb2.mono HB.out.size))
    have H12:=Lib.hid ((hb2.block _ (lt_heap H1.out)).trans H1.out)
    have H22:=Lib.hid ((hb2.block _ (lt_heap H2.out)).trans H2.out)
    clear hb2 HC HB c1 c2 H1 H2
    go_wp2_with fail
    go_roundw
    case rel=>exact ⟨7,by go_num,by omega,HE2,H12,H22,HB2⟩
    case measure=>(try simp [intOf]);try omega
  ·have he:r=⟨#[]⟩:=HE.out
   subst he
   clear HE
   go_wp2
   go_ret
   exact ⟨rfl,HB.out⟩
set_option maxRecDepth 100000 in
set_option maxHeartbeats 4000000 in
theorem rrel_b (p e:Int) (w:World) (B:Nat) (h:PrS w B (.bad p e)):Calls Tryd.prog 179 #[.pointer (some ⟨B,0,none⟩)] w fun y w'=>y=.returned (.string (⟨#[]⟩))∧Below w.heap.size w w':=by
 have HS:=Lib.hid h
 clear h
 go_enter Tryd.func179,Tryd.ntmps179
 go_wp2
 go_loopw [5] (fun i wr=>∃ k:Nat,i=.int .i64 k∧k≤7∧Hid (wr.heap[w.heap.size]? = some (.cells relA 9))∧Hid (wr.heap[w.heap.size+1]? = some (.cells relB 9))∧Hid (Below w.heap.size w wr)) (fun i _=>7 - (intOf i).toNat)
 case atStart =>
  refine ⟨0,rfl,by omega,Lib.hid ?_,Lib.hid (second_at w _ _),Lib.hid (two_boxes _ _ _)⟩
  rw [Below.heap_alloc _ _ _ (by simp)]
  exact new_at _ _
 case round =>
  obtain ⟨k,rfl,hk,H1,H2,HB⟩:=hrel
  have hcs:k=0∨k=1∨k=2∨k=3∨k=4∨k=5∨k=6∨k=7:=by omega
  clear hk
  rcases hcs with rfl | rfl | rfl | rfl | rfl | rfl | rfl | rfl
  ·have c1:wr.cell? ⟨w.heap.size,0,none⟩=some (.string ⟨#[61]⟩):=by rw [cell_of_row _ _ _ _ _ _ H1.out];rfl
   have c2:wr.cell? ⟨w.heap.size+1,0,none⟩=some (.string ⟨#[101,113]⟩):=by rw [cell_of_row _ _ _ _ _ _ H2.out];rfl
   have HC:=Lib.hid (ris_b ⟨#[61]⟩ wr B p e (HS.out.below HB.out))
   go_wp2_with fail
   refine HC.out.mono ?_
   rintro e2 w2 ⟨rfl,hb2⟩
   have HB2:=Lib.hid (HB.out.trans (hb2.mono HB.out.size))
   have H12:=Lib.hid ((hb2.block _ (lt_heap H1.out)).trans H1.out)
   have H22:=Lib.hid ((hb2.block _ (lt_heap H2.out)).trans H2.out)
   clear hb2 HC HB c1 c2 H1 H2
   go_wp2_with fail
   go_roundw
   case rel=>exact ⟨1,by go_num,by omega,H12,H22,HB2⟩
   case measure=>(try simp [intOf]);try omega
  ·have c1:wr.cell? ⟨w.heap.size,1,none⟩=some (.string ⟨#[126,61]⟩):=by rw [cell_of_row _ _ _ _ _ _ H1.out];rfl
   have c2:wr.cell? ⟨w.heap.size+1,1,none⟩=some (.string ⟨#[110,101]⟩):=by rw [cell_of_row _ _ _ _ _ _ H2.out];rfl
   have HC:=Lib.hid (ris_b ⟨#[126,61]⟩ wr B p e (HS.out.below HB.out))
   go_wp2_with fail
   refine HC.out.mono ?_
   rintro e2 w2 ⟨rfl,hb2⟩
   have HB2:=Lib.hid (HB.out.trans (hb2.mono HB.out.size))
   have H12:=Lib.hid ((hb2.block _ (lt_heap H1.out)).trans H1.out)
   have H22:=Lib.hid ((hb2.block _ (lt_heap H2.out)).trans H2.out)
   clear hb2 HC HB c1 c2 H1 H2
   go_wp2_with fail
   go_roundw
   case rel=>exact ⟨2,by go_num,by omega,H12,H22,HB2⟩
   case measure=>(try simp [intOf]);try omega
  ·have c1:wr.cell? ⟨w.heap.size,2,none⟩=some (.string ⟨#[60]⟩):=by rw [cell_of_row _ _ _ _ _ _ H1.out];rfl
   have c2:wr.cell? ⟨w.heap.size+1,2,none⟩=some (.string ⟨#[108,116]⟩):=by rw [cell_of_row _ _ _ _ _ _ H2.out];rfl
   have HC:=Lib.hid (ris_b ⟨#[60]⟩ wr B p e (HS.out.below HB.out))
   go_wp2_with fail
   refine HC.out.mono ?_
   rintro e2 w2 ⟨rfl,hb2⟩
   have HB2:=Lib.hid (HB.out.trans (hb2.mono HB.out.size))
   have H12:=Lib.hid ((hb2.block _ (lt_heap H1.out)).trans H1.out)
   have H22:=Lib.hid ((hb2.block _ (lt_heap H2.out)).trans H2.out)
   clear hb2 HC HB c1 c2 H1 H2
   go_wp2_with fail
   go_roundw
   case rel=>exact ⟨3,by go_num,by omega,H12,H22,HB2⟩
   case measure=>(try simp [intOf]);try omega
  ·have c1:wr.cell? ⟨w.heap.size,3,none⟩=some (.string ⟨#[60,61]⟩):=by rw [cell_of_row _ _ _ _ _ _ H1.out];rfl
   have c2:wr.cell? ⟨w.heap.size+1,3,none⟩=some (.string ⟨#[108,101]⟩):=by rw [cell_of_row _ _ _ _ _ _ H2.out];rfl
   have HC:=Lib.hid (ris_b ⟨#[60,61]⟩ wr B p e (HS.out.below HB.out))
   go_wp2_with fail
   refine HC.out.mono ?_
   rintro e2 w2 ⟨rfl,hb2⟩
   have HB2:=Lib.hid (HB.out.trans (hb2.mono HB.out.size))
   have H12:=Lib.hid ((hb2.block _ (lt_heap H1.out)).trans H1.out)
   have H22:=Lib.hid ((hb2.block _ (lt_heap H2.out)).trans H2.out)
   clear hb2 HC HB c1 c2 H1 H2
   go_wp2_with fail
   go_roundw
   case rel=>exact ⟨4,by go_num,by omega,H12,H22,HB2⟩
   case measure=>(try simp [intOf]);try omega
  ·have c1:wr.cell? ⟨w.heap.size,4,none⟩=some (.string ⟨#[105,110]⟩):=by rw [cell_of_row _ _ _ _ _ _ H1.out];rfl
   have c2:wr.cell? ⟨w.heap.size+1,4,none⟩=some (.string ⟨#[105,110]⟩):=by rw [cell_of_row _ _ _ _ _ _ H2.out];rfl
   have HC:=Lib.hid (ris_b ⟨#[105,110]⟩ wr B p e (HS.out.below HB.out))
   go_wp2_with fail
   refine HC.out.mono ?_
   rintro e2 w2 ⟨rfl,hb2⟩
   have HB2:=Lib.hid (HB.out.trans (hb2.mono HB.out.size))
   have H12:=Lib.hid ((hb2.block _ (lt_heap H1.out)).trans H1.out)
   have H22:=Lib.hid ((hb2.block _ (lt_heap H2.out)).trans H2.out)
   clear hb2 HC HB c1 c2 H1 H2
   go_wp2_with fail
   go_roundw
   case rel=>exact ⟨5,by go_num,by omega,H12,H22,HB2⟩
   case measure=>(try simp [intOf]);try omega
  ·have c1:wr.cell? ⟨w.heap.size,5,none⟩=some (.string ⟨#[110,111,116,105,110]⟩):=by rw [cell_of_row _ _ _ _ _ _ H1.out];rfl
   have c2:wr.cell? ⟨w.heap.size+1,5,none⟩=some (.string ⟨#[110,111,116,105,110]⟩):=by rw [cell_of_row _ _ _ _ _ _ H2.out];rfl
   have HC:=Lib.hid (ris_b ⟨#[110,111,116,105,110]⟩ wr B p e (HS.out.below HB.out))
   go_wp2_with fail
   refine HC.out.mono ?_
   rintro e2 w2 ⟨rfl,hb2⟩
   have HB2:=Lib.hid (HB.out.trans (hb2.mono HB.out.size))
   have H12:=Lib.hid ((hb2.block _ (lt_heap H1.out)).trans H1.out)
   have H22:=Lib.hid ((hb2.block _ (lt_heap H2.out)).trans H2.out)
   clear hb2 HC HB c1 c2 H1 H2
   go_wp2_with fail
   go_roundw
   case rel=>exact ⟨6,by go_num,by omega,H12,H22,HB2⟩
   case measure=>(try simp [intOf]);try omega
  ·have c1:wr.cell? ⟨w.heap.size,6,none⟩=some (.string ⟨#[115,117,98]⟩):=by rw [cell_of_row _ _ _ _ _ _ H1.out];rfl
   have c2:wr.cell? ⟨w.heap.size+1,6,none⟩=some (.string ⟨#[115,117,98]⟩):=by rw [cell_of_row _ _ _ _ _ _ H2.out];rfl
   have HC:=Lib.hid (ris_b ⟨#[115,117,98]⟩ wr B p e (HS.out.below HB.out))
   go_wp2_with fail
   refine HC.out.mono ?_
   rintro e2 w2 ⟨rfl,hb2⟩
   have HB2:=Lib.hid (HB.out.trans (hb2.mono HB.out.size))
   have H12:=Lib.hid ((hb2.block _ (lt_heap H1.out)).trans H1.out)
   have H22:=Lib.hid ((hb2.block _ (lt_heap H2.out)).trans H2.out)
   clear hb2 HC HB c1 c2 H1 H2
   go_wp2_with fail
   go_roundw
   case rel=>exact ⟨7,by go_num,by omega,H12,H22,HB2⟩
   case measure=>(try simp [intOf]);try omega
  ·go_wp2
   go_ret
   exact ⟨rfl,HB.out⟩
theorem new_sets (w:World) (ob:Obj) (B:Nat) (a b c d e:Value):((((((w.setCell ⟨B,0,none⟩ a).setCell ⟨B,1,none⟩ b).setCell ⟨B,2,none⟩ c).setCell ⟨B,3,none⟩ d).setCell ⟨B,4,none⟩ e).alloc ob).heap[w.heap.size]? = some ob:=by
 have h:=new_at (((((w.setCell ⟨B,0,none⟩ a).setCell ⟨B,1,none⟩ b).setCell ⟨B,2,none⟩ c).setCell ⟨B,3,none⟩ d).setCell ⟨B,4,none⟩ e) ob
 rw [set5_size] at h
 exact h
theorem set5_from {S:Nat→Prop} (w:World) {B:Nat} (hB:¬ S B) (a b c d e:Value):From S w (((((w.setCell ⟨B,0,none⟩ a).setCell ⟨B,1,none⟩ b).setCell ⟨B,2,none⟩ c).setCell ⟨B,3,none⟩ d).setCell ⟨B,4,none⟩ e) :=
 (((((From.set _ hB _).trans (From.set _ hB _)).trans (From.set _ hB _)).trans (From.set _ hB _)).trans (From.set _ hB _))
def flatF:Fo→List Value
 | .nil=>[]
 | .cons op name n pos a cap kids rest=>.string op :: .string name :: .int .i64 n :: .int .i64 pos :: .slice a kids.len cap :: flatF rest
theorem flatF_len (F:Fo):(flatF F).length=F.len * 5:=by
 induction F with
 | nil=>rfl
 | cons op name n pos a cap kids rest ihk ihr=>show (flatF rest).length+1+1+1+1+1=(rest.len+1) * 5;rw [ihr];omega
def Fo.snoc:Fo→Nd→Fo
 | .nil,T=>.cons T.op T.name T.n T.pos T.a T.cap T.kids .nil
 | .cons op name n pos a cap kids rest,T=>.cons op name n pos a cap kids (rest.snoc T)
theorem snoc_len (F:Fo) (T:Nd):(F.snoc T).len=F.len+1:=by
 induction F with
 | nil=>rfl
 | cons op name n pos a cap kids rest ihk ihr=>show (rest.snoc T).len+1=_;rw [ihr];rfl
theorem flatF_snoc (F:Fo) (T:Nd):flatF (F.snoc T)=flatF F ++ [.string T.op,.string T.name,.int .i64 T.n,.int .i64 T.pos,.slice T.a T.kids.len T.cap]:=by
 induction F with
 | nil=>rfl
 | cons op name n pos a cap kids rest ihk ihr=>show _ :: _ :: _ :: _ :: _ :: flatF (rest.snoc T)=_;rw [ihr];rfl
theorem ofL_snoc (l:List Nd) (T:Nd) (F:Fo) (h:F.strip=Fo.ofL l):(F.snoc T).strip=Fo.ofL (l ++ [T.strip]):=by
 induction F generalizing l with
 | nil =>
  cases l with
  | nil=>rfl
  | cons a r=>cases h
 | cons op name n pos a cap kids rest ihk ihr =>
  cases l with
  | nil=>cases h
  | cons b r =>
   obtain ⟨h1,h2,h3,h4,h5,h6,h7⟩:op=b.op∧name=b.name∧n=b.n∧pos=b.pos∧none=(none:Option Addr)∧kids.strip=b.kids∧rest.strip=Fo.ofL r:=by
    have h':Fo.cons op name n pos none 0 kids.strip rest.strip=Fo.cons b.op b.name b.n b.pos none 0 b.kids (Fo.ofL r):=h
    simp only [Fo.cons.injEq] at h'
    exact ⟨h'.1,h'.2.1,h'.2.2.1,h'.2.2.2.1,rfl,h'.2.2.2.2.2.2.1,h'.2.2.2.2.2.2.2⟩
   show Fo.cons op name n pos none 0 kids.strip (rest.snoc T).strip=Fo.cons b.op b.name b.n b.pos none 0 b.kids (Fo.ofL (r ++ [T.strip]))
   rw [ihr r h7,h1,h2,h3,h4,h6]
theorem ofL_len (l:List Nd):(Fo.ofL l).len=l.length:=by
 induction l with
 | nil=>rfl
 | cons a r ih=>show (Fo.ofL r).len+1=_;rw [ih];rfl
theorem strip_len (F:Fo):F.strip.len=F.len:=by
 induction F with
 | nil=>rfl
 | cons op name n pos a cap kids rest ihk ihr=>show rest.strip.len+1=_;rw [ihr];rfl
def Fo.Kids (S:Nat→Prop) (w:World):Fo→Prop
 | .nil=>True
 | .cons op name n pos a cap kids rest=>Nd.Good S w ⟨op,name,n,pos,a,cap,kids⟩∧rest.Kids S w
theorem Fo.Kids.from {S:Nat→Prop} {w w':World} (hg:From S w w'):∀ {F:Fo},F.Kids S w→F.Kids S w':=by
 intro F
 induction F with
 | nil=>intro _;trivial
 | cons op name n pos a cap kids rest ihk ihr=>exact fun h=>⟨h.1.from hg,ihr h.2⟩
theorem Fo.Kids.lt {S:Nat→Prop} {w:World} : ∀ {F:Fo},F.Kids S w→F.Kids (fun i=>S i∧i < w.heap.size) w:=by
 intro F
 induction F with
 | nil=>intro _;trivial
 | cons op name n pos a cap kids rest ihk ihr=>exact fun h=>⟨h.1.lt,ihr h.2⟩
theorem Fo.Kids.mono {S S':Nat→Prop} {w:World} (hl:∀ b,S b→S' b):∀ {F:Fo},F.Kids S w→F.Kids S' w:=by
 intro F
 induction F with
 | nil=>intro _;trivial
 | cons op name n pos a cap kids rest ihk ihr=>exact fun h=>⟨h.1.mono hl,ihr h.2⟩
theorem Fo.Kids.snoc {S:Nat→Prop} {w:World} {T:Nd} (hT:T.Good S w):∀ {F:Fo},F.Kids S w→(F.snoc T).Kids S w:=by
 intro F
 induction F with
 | nil=>intro _;exact ⟨hT,trivial⟩
 | cons op name n pos a cap kids rest ihk ihr=>exact fun h=>⟨h.1,ihr h.2⟩
theorem Fo.Kids.above {S:Nat→Prop} {w:World} : ∀ {F:Fo},F.Kids S w→F.above S:=by
 intro F
 induction F with
 | nil=>intro _;trivial
 | cons op name n pos a cap kids rest ihk ihr=>exact fun h=>⟨h.1.above.1,h.1.above.2,ihr h.2⟩
theorem Fo.Kids.lies {S:Nat→Prop} {w:World} {g:Nat} : ∀ {F:Fo} {o:Nat},(∀ j v,(flatF F)[j]? = some v→w.cell? ⟨g,o+j,none⟩=some v)→F.Kids S w→F.In w g o:=by
 intro F
 induction F with
 | nil=>intro o _ _;trivial
 | cons op name n pos a cap kids rest ihk ihr =>
  intro o hc hk
  refine ⟨⟨hc 0 _ rfl,hc 1 _ rfl,hc 2 _ rfl,hc 3 _ rfl,hc 4 _ rfl⟩,hk.1.lies,ihr (fun j v hj=>?_) hk.2⟩
  have:=hc (j+5) v hj
  rw [show o+(j+5)=o+5+j by omega] at this
  exact this
theorem row_good {lo:Nat} {w:World} {v:Value} {F:Fo} (h:w.ownsRow lo 26 5 v F.len (flatF F)) (hk:F.Kids (fun b=>lo≤b∧some b≠v.ownBlock) w) (hl:F.len≤140737488351232) :
  ∃ a cap,v=.slice a F.len cap∧∀ op name n pos cap',Nd.Good (fun b=>lo≤b) w ⟨op,name,n,pos,a,cap',F⟩:=by
 rcases h.2 with ⟨rfl,h0⟩ | ⟨g,cap,cur,rfl,hb,hg,hrest⟩
 ·have hF:F=.nil:=by cases F with
   | nil=>rfl
   | cons op name n pos a cap kids rest=>cases h0
  subst hF
  exact ⟨none,0,rfl,fun op name n pos cap'=>Nd.Good.leaf _ _ _ _ _ _ _ _⟩
 ·refine ⟨some ⟨g,0,none⟩,cap,rfl,fun op name n pos cap'=>?_⟩
  have hc:∀ j v,(flatF F)[j]? = some v→w.cell? ⟨g,0+j,none⟩=some v:=by
   intro j v hj
   rw [Nat.zero_add]
   have hjl:j < F.len * 5:=by rw [← flatF_len];exact (List.getElem?_eq_some_iff.1 hj).1
   exact (h.cellAt j hjl).trans hj
  have hin:=Fo.Kids.lies hc hk
  rcases Nat.eq_zero_or_pos F.len with h0 | h0
  ·have hF:F=.nil:=by cases F with
    | nil=>rfl
    | cons op name n pos a cap kids rest=>cases h0
   subst hF
   exact Nd.Good.leaf _ _ _ _ _ _ _ _
  ·refine ⟨.inr ⟨g,0,rfl,hl,⟨h0,?_⟩,hin⟩,.inr ⟨g,0,rfl,hb⟩,(hk.mono (fun b hb=>hb.1)).above⟩
   unfold World.frozen?
   simp only [hg]
   rfl
theorem own_form {w:World} {base e size n:Nat} {v:Value} {xs:List Value} (h:w.ownsRow base e size v n xs):∃ a cap,v=.slice a n cap:=by
 rcases h.2 with ⟨rfl,h0⟩ | ⟨g,cap,cur,rfl,_⟩
 ·exact ⟨none,0,by rw [h0]⟩
 ·exact ⟨_,cap,rfl⟩
theorem clo_t:clo false=(ByteArray.mk #[41]).toList:=by decide +kernel
theorem clo_p:clo true=(ByteArray.mk #[125]).toList:=by decide +kernel
theorem Tryd.infoNode:(Tryd.prog.info? 26).map (fun i=>(i.zero,i.size,i.bytes))=some (some (.agg #[.string ⟨#[]⟩,.string ⟨#[]⟩,.int .i64 0,.int .i64 0,.slice none 0 0]),5,72):=by kernel_rfl
theorem cell_five_new (w:World) (a b c d e:Value) (t:TypeId):∀ j u,[a,b,c,d,e][j]? = some u→(w.alloc (.cells #[a,b,c,d,e] t)).cell? ((⟨w.heap.size,0,none⟩:Addr).add j)=some u:=by
 intro j u hj
 have hx:=new_at w (.cells #[a,b,c,d,e] t)
 rw [show (⟨w.heap.size,0,none⟩:Addr).add j=⟨w.heap.size,0+j,none⟩ from by unfold Addr.add;split <;> simp_all,cell_of_row _ _ _ _ _ _ hx,Nat.zero_add]
 simpa using hj
theorem kids_append {lo:Nat} {w w':World} {v v':Value} {F:Fo} {U:Nd} (hk:F.Kids (fun b=>lo≤b∧some b≠v.ownBlock) w) (hU:U.Good (fun b=>lo≤b∧some b≠v.ownBlock) w) (hg:w.grownBy w' v.ownBlock) (hv:v'.ownBlock=v.ownBlock∨v'.ownBlock=some w.heap.size):(F.snoc U).Kids (fun b=>lo≤b∧some b≠v'.ownBlock) w':=by
 have hf:From (fun i=>(lo≤i∧some i≠v.ownBlock)∧i < w.heap.size) w w':=⟨hg.size,fun b hb hl=>hg.block b hl hb.1.2⟩
 refine Fo.Kids.mono (S:=fun i=>(lo≤i∧some i≠v.ownBlock)∧i < w.heap.size) (fun b hb=>⟨hb.1.1,?_⟩) (Fo.Kids.snoc (hU.lt.from hf) (hk.lt.from hf))
 rcases hv with hv | hv
 ·rw [hv];exact hb.1.2
 ·rw [hv];intro h;have:=Option.some.inj h;omega
theorem kp_append {B:Nat} {a w w':World} {row:Option Nat} (h:Kp B a w) (hg:w.grownBy w' row) (hr:∀ k,row=some k→a.heap.size≤k):Kp B a w' :=
 ⟨hg.os.trans h.os,hg.tape.trans h.tape,hg.output.trans h.output,Nat.le_trans h.size hg.size,fun i hi hne=>(hg.block i (Nat.lt_of_lt_of_le hi h.size) (fun e=>by have:=hr i e.symm;omega)).trans (h.block i hi hne)⟩
end Go.Proofs.YtmlmjopfbohglaaDoor
