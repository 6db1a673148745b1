/- Parts of the proof: RefSig. -/
import Derived.Test.YtmlmjopfbohglaaDoorWd12
import Derived.Deep.RegionWith
namespace Go.Proofs.YtmlmjopfbohglaaDoor
open Go.RowKit
theorem rpre_take:∀ (x:List UInt8) (M:RL) (k:Nat) (hk:k < x.length),rpre (x.take (k+1)) M=(rpre (x.take k) M && isAt M k ((x[k]'hk).toNat:Int)):=by
 intro x
 induction x with
 | nil=>intro M k hk;simp at hk
 | cons c x ih =>
  intro M k hk
  cases M with
  | nil=>cases k <;> simp [rpre,isAt]
  | cons q M =>
   cases k with
   | zero=>simp [rpre,isAt]
   | succ k =>
    have:=ih M k (by simpa using hk)
    simp only [List.take_succ_cons,rpre,List.getElem_cons_succ]
    rw [this,Bool.and_assoc]
    rfl
theorem isAt_drop (L:RL) (i k:Nat) (c:Int):isAt (L.drop i) k c=isAt L (i+k) c:=by
 unfold isAt
 rw [List.getElem?_drop]
def noSigM (M:RL) (k:Nat):Prop:=sigF (sigs.drop k) M=sigL M
theorem noSigM_step (M:RL) (k:Nat) (hk:k < sigs.length) (h:noSigM M k):(rpre (sigs[k]'hk).data.toList M=true→sigL M=some (sigs[k]'hk))∧(rpre (sigs[k]'hk).data.toList M=false→noSigM M (k+1)):=by
 unfold noSigM at h ⊢
 have hd:sigs.drop k=sigs[k]'hk :: sigs.drop (k+1):=List.drop_eq_getElem_cons hk
 rw [hd] at h
 unfold sigF at h
 constructor
 ·intro h1
  rw [if_pos h1] at h
  exact h.symm
 ·intro h1
  rw [if_neg (by rw [h1];decide)] at h
  exact h
theorem noSigM_end (M:RL) (k:Nat) (hk:¬ k < sigs.length) (h:noSigM M k):sigL M=none:=by
 unfold noSigM at h
 rw [List.drop_of_length_le (Nat.not_lt.1 hk)] at h
 exact h.symm
def sigCells:Array Value:=(sigs.map Value.string).toArray
theorem sig_cell {w:World} {B:Nat} (h:w.heap[B]? = some (.cells sigCells 9)) (k:Nat) (hk:k < sigs.length):w.cell? ⟨B,k,none⟩=some (.string (sigs[k]'hk)):=by
 rw [cell_of_row w B k _ _ _ h]
 unfold sigCells
 rw [List.getElem?_toArray,List.getElem?_map,List.getElem?_eq_getElem hk]
 rfl
theorem sig_lit:(#[.string ⟨#[60,61,62]⟩,.string ⟨#[61,62]⟩,.string ⟨#[60,61]⟩,.string ⟨#[126,61]⟩,.string ⟨#[61]⟩,.string ⟨#[126]⟩,.string ⟨#[60]⟩,.string ⟨#[38]⟩,.string ⟨#[124]⟩,.string ⟨#[40]⟩,.string ⟨#[41]⟩,.string ⟨#[123]⟩,.string ⟨#[125]⟩,.string ⟨#[44]⟩,.string ⟨#[59]⟩,.string ⟨#[58]⟩,.string ⟨#[43]⟩,.string ⟨#[92]⟩]:Array Value)=sigCells:=rfl
theorem alloc_at (w:World) (o:Obj):(w.alloc o).heap[w.heap.size]? = some o:=by show (w.heap.push _)[w.heap.size]? = _;simp
theorem alloc_at1 (w:World) (o p:Obj):((w.alloc o).alloc p).heap[w.heap.size+1]? = some p:=by
 have h:=alloc_at (w.alloc o) p
 rw [show (w.alloc o).heap.size=w.heap.size+1 by simp] at h
 exact h
theorem byte_rune (x:ByteArray) (k:Nat) (h:k < x.size) (h2:k < x.data.toList.length):wrap32 ((x[k]'h).toNat:Int)=((x.data.toList[k]'h2).toNat:Int):=by
 have h3:x[k]'h=x.data.toList[k]'h2:=rfl
 have:=(x.data.toList[k]'h2).toNat_lt
 rw [h3]
 unfold wrap32
 omega
def SigPost (w:World) (R:Nat) (s:ByteArray) (lv:Value) (L:RL) (bad:Int) (i:Nat) (po:Int) (e:Ending) (w':World):Prop :=
 w.grownBy w' (some R)∧match sigL (L.drop i) with
 | some x=>e=.returned (.tuple #[.agg #[.int .i64 3,.string x,.int .i64 0,.int .i64 po],.bool true])∧Rd w' R s lv bad ((i:Int)+x.size)
 | none=>e=.returned (.tuple #[.agg #[.int .i64 0,.string ⟨#[]⟩,.int .i64 0,.int .i64 0],.bool false])∧Rd w' R s lv bad i
theorem SigPost.no {w w':World} {R:Nat} {s:ByteArray} {lv:Value} {L:RL} {bad:Int} {i:Nat} {po:Int} (h:sigL (L.drop i)=none) (hg:w.grownBy w' (some R)) (hd:Rd w' R s lv bad i) :
  SigPost w R s lv L bad i po (.returned (.tuple #[.agg #[.int .i64 0,.string ⟨#[]⟩,.int .i64 0,.int .i64 0],.bool false])) w':=by
 unfold SigPost;rw [h];exact ⟨hg,rfl,hd⟩
theorem SigPost.yes {w w':World} {R:Nat} {s:ByteArray} {lv:Value} {L:RL} {bad:Int} {i:Nat} {po:Int} {x:ByteArray} (h:sigL (L.drop i)=some x) (hg:w.grownBy w' (some R)) (hd:Rd w' R s lv bad ((i:Int)+x.size)) :
  SigPost w R s lv L bad i po (.returned (.tuple #[.agg #[.int .i64 3,.string x,.int .i64 0,.int .i64 po],.bool true])) w':=by
 unfold SigPost;rw [h];exact ⟨hg,rfl,hd⟩
set_option maxRecDepth 100000 in
set_option maxHeartbeats 4000000 in
theorem rsign_any (w:World) (R:Nat) (s:ByteArray) (lv:Value) (L:RL) (bad:Int) (i:Nat) (hS:RS w R s lv L bad i) (hi:i < L.length) (po:Int) (hpo:(L[i]'hi).2=po) :
    Calls Tryd.prog 89 #[.pointer (some ⟨R,0,none⟩)] w (SigPost w R s lv L bad i po):=by
  have hRlt:=hS.rd.lt
  have hlsz:=hS.sz
  have HPO:=Lib.hid (show posAt s L i=po by rw [← hpo];unfold posAt;rw [List.getElem?_eq_getElem hi])
  clear hpo
  go_enter Tryd.func89,Tryd.ntmps89
  go_wp2
  obtain ⟨W0,hW0⟩:∃ W0,W0=(w.alloc (.cells #[.int .i64 0,.string ⟨#[]⟩,.int .i64 0,.int .i64 0] 73)).alloc (.cells sigCells 9):=⟨_,rfl⟩
  have hR0:RS W0 R s lv L bad i:=by rw [hW0];exact (hS.below ((Below.refl _ _).alloc (Nat.le_refl _) _)).below ((Below.refl _ _).alloc (Nat.le_refl _) _)
  have hB0:Blk4 W0 w.heap.size (.int .i64 0) (.string ⟨#[]⟩) (.int .i64 0) (.int .i64 0):=by rw [hW0];exact (blk4_new _ _ _ _ _).below ((Below.refl _ _).alloc (Nat.le_refl _) _)
  have hC0:W0.heap[w.heap.size+1]? = some (.cells sigCells 9):=by rw [hW0];exact alloc_at1 _ _ _
  have hg0:w.grownBy W0 (some R):=by rw [hW0];exact grown_alloc (grown_alloc (grown_refl _ _) _) _
  have hs0:W0.heap.size=w.heap.size+2:=by rw [hW0];simp
  rw [sig_lit,← hW0]
  have HC0:=Lib.hid hC0
  clear hW0 hC0 hS
  go_loopw [5] (fun v wr=>∃ j q:Nat,v=.int .i64 j∧j≤18∧wr=W0.drewN q∧Hid (noSigM (L.drop i) j)) (fun v _=>18 - (intOf v).toNat)
  case atStart=>exact ⟨0,0,rfl,by omega,rfl,(rfl:noSigM (L.drop i) 0)⟩
  case round =>
    obtain ⟨j,q,rfl,hj,rfl,HN⟩:=hrel
    by_cases hlt:j < 18
    · have cj:=sig_cell HC0.out j hlt
      have hst:=noSigM_step (L.drop i) j hlt HN.out
      have hxs:=sigs_size (sigs[j]'hlt) (List.getElem_mem _)
      generalize (sigs[j]'hlt)=x at cj hst hxs
      have hxl:x.data.toList.length=x.size:=(Lib.size_eq x).symm
      have HST:=Lib.hid hst
      have HXL:=Lib.hid hxl
      clear hst hxl HN
      have hdj:decide ((j:Int) < 18)=true:=by rw [decide_eq_true_iff];omega
      go_wp2
      go_loopw [6,7] (fun v6 v7 wr=>∃ k q:Nat,v7=.int .i64 k∧k≤x.size∧v6=.bool (rpre (x.data.toList.take k) (L.drop i))∧wr=W0.drewN q) (fun _ v _=>x.size - (intOf v).toNat)
      case atStart=>exact ⟨0,q,rfl,by omega,by simp [rpre],rfl⟩
      case round =>
        obtain ⟨k,q',rfl,hk,rfl,rfl⟩:=hrel
        by_cases hkx:k < x.size
        · have hrt:=rpre_take x.data.toList (L.drop i) k (by rw [HXL.out];exact hkx)
          rw [isAt_drop] at hrt
          obtain ⟨ch,hch⟩:∃ ch,ch=isAt L (i+k) ((x.data.toList[k]'(by rw [HXL.out];exact hkx)).toNat:Int):=⟨_,rfl⟩
          rw [← hch] at hrt
          have HRT:=Lib.hid hrt
          have HCH:=Lib.hid hch
          obtain ⟨okb,hok⟩:∃ okb,rpre (x.data.toList.take k) (L.drop i)=okb:=⟨_,rfl⟩
          have HOK:=Lib.hid hok
          rw [hok]
          clear hrt hch hok
          rcases okb with _ | _
          · go_wp2
            go_roundw
            case rel=>exact ⟨k+1,q',by go_num,by omega,by rw [HRT.out,HOK.out];rfl,rfl⟩
            case measure=>simp [intOf];omega
          · have hbr:=byte_rune x k hkx (by rw [HXL.out];exact hkx)
            have HBR:=Lib.hid hbr
            clear hbr
            go_wp2_with fail
            rw [HBR.out]
            refine (rdisk (W0.drewN q') R s _ L bad i k _ ch (hR0.drewN _) (by omega) HCH.out.symm).mono ?_
            rintro e w2 ⟨rfl,q2,rfl⟩
            go_wp2
            go_roundw
            case rel=>exact ⟨k+1,_,by go_num,by omega,by rw [HRT.out,HOK.out];rfl,rfl⟩
            case measure=>simp [intOf];omega
        · obtain rfl:k=x.size:=by omega
          have htk:x.data.toList.take x.size=x.data.toList:=List.take_of_length_le (by rw [HXL.out];exact Nat.le_refl _)
          rw [htk]
          clear htk
          obtain ⟨okb,hok⟩:∃ okb,rpre x.data.toList (L.drop i)=okb:=⟨_,rfl⟩
          have hst:=HST.out
          rw [hok] at hst ⊢
          clear hok HST
          rcases okb with _ | _
          · have HN:=Lib.hid (hst.2 rfl)
            clear hst
            go_wp2
            go_roundw
            case rel=>exact ⟨j+1,q',by go_num,by omega,rfl,HN.out⟩
            case measure=>simp [intOf];omega
          · have HN:=Lib.hid (hst.1 rfl)
            clear hst
            have hR1:=hR0.drewN q'
            have hB1:=hB0.below (below_dn W0 q')
            have hg1:=grown_dn hg0 q'
            have hC1:(W0.drewN q').heap[w.heap.size+1]? = some (.cells sigCells 9):=HC0.out
            have cj1:(W0.drewN q').cell? ⟨w.heap.size+1,j,none⟩=some (.string x):=cj
            have hs1:(W0.drewN q').heap.size=w.heap.size+2:=hs0
            generalize W0.drewN q'=W1 at hR1 hB1 hg1 hC1 cj1 hs1 ⊢
            clear hR0 hB0 hg0 HC0 cj hs0
            have HC1:=Lib.hid hC1
            clear hC1
            have hcj0:=cj1
            go_upto_region 12 with (fail)
            go_cut [8] from 39 to 60 (fun v8 wc=>v8=.pointer (some ⟨w.heap.size+2,0,none⟩)∧RS wc R s lv L bad i∧Blk4 wc w.heap.size (.int .i64 0) (.string ⟨#[]⟩) (.int .i64 0) (.int .i64 0)∧Blk4 wc (w.heap.size+2) (.int .i64 3) (.string x) (.int .i64 0) (.int .i64 po)∧w.grownBy wc (some R)∧wc.cell? ⟨w.heap.size+1,j,none⟩=some (.string x)∧wc.heap.size=w.heap.size+3)
            case first =>
              clear cj1
              have hcj:∀ W,Below W1.heap.size W1 W→W.cell? ⟨w.heap.size+1,j,none⟩=some (.string x):=fun W hb=>by rw [hb.cell (by simp;omega)];exact hcj0
              have hbl:∀ W,Below W1.heap.size W1 W→W.heap.size=W1.heap.size+1→Blk4 W w.heap.size (.int .i64 0) (.string ⟨#[]⟩) (.int .i64 0) (.int .i64 0)∧RS W R s lv L bad i∧w.grownBy W (some R):=fun W hb _=>⟨hB1.below hb,hR1.below hb,hg1.trans (grown_of_below hb _)⟩
              have hcjx:=hcj0
              go_region_with ((go_at_call 56;refine (rdat0 _ R s _ L bad i (hR1.below (by first | exact Below.refl _ _ | exact below_dn _ _ | exact (Below.refl _ _).alloc (Nat.le_refl _) _ | exact (Below.refl W1.heap.size W1).trans ⟨rfl,rfl,rfl,Nat.le_refl _,fun _ _=>rfl⟩ | exact ((Below.refl W1.heap.size W1).trans ⟨rfl,rfl,rfl,Nat.le_refl _,fun _ _=>rfl⟩:Below W1.heap.size W1 W1.drew).alloc (by simp) _))).mono ?_;rintro e w2 ⟨rfl,q2,rfl⟩;rw [HPO.out]))
              all_goals go_wp2
              all_goals
                go_meet
                case rel =>
                  first
                    | (have hb:=(below_dn W1 (1+q2)).alloc (Nat.le_refl W1.heap.size) (.cells #[.int .i64 3,.string x,.int .i64 0,.int .i64 po] 73)
                       exact ⟨rfl,hR1.below hb,hB1.below hb,(by rw [← hs1];exact blk4_new (W1.drewN (1+q2)) _ _ _ _),hg1.trans (grown_of_below hb _),hcj _ hb,by simp;omega⟩)
                    | (have hz:Blk4 ((W1.alloc (.cells #[.int .i64 0,.string ⟨#[]⟩,.int .i64 0,.int .i64 0] 73)).drewN (1+q2)) (w.heap.size+2) (.int .i64 0) (.string ⟨#[]⟩) (.int .i64 0) (.int .i64 0):=(show Blk4 (W1.alloc _) (w.heap.size+2) _ _ _ _ by rw [← hs1];exact blk4_new W1 _ _ _ _).below (below_dn _ _)
                       have hb:Below W1.heap.size W1 (((((((W1.alloc (.cells #[.int .i64 0,.string ⟨#[]⟩,.int .i64 0,.int .i64 0] 73)).drewN (1+q2)).setCell ⟨w.heap.size+2,0,none⟩ (.int .i64 3)).setCell ⟨w.heap.size+2,1,none⟩ (.string x)).setCell ⟨w.heap.size+2,2,none⟩ (.int .i64 0)).setCell ⟨w.heap.size+2,3,none⟩ (.int .i64 po))):=(((((below_drewN ((Below.refl _ _).alloc (Nat.le_refl _) _) _).setCell (by simp;omega) _).setCell (by simp;omega) _).setCell (by simp;omega) _).setCell (by simp;omega) _)
                       exact ⟨rfl,hR1.below hb,hB1.below hb,hz.set _ _ _ _,hg1.trans (grown_of_below hb _),hcj _ hb,by simp;omega⟩)
            case rest =>
              obtain ⟨rfl,hR2,hB2,hT2,hg2,cj2,hs2⟩:=hcut
              clear hR1 hB1 hg1 cj1 hs1 HC1 hcj0
              obtain ⟨⟨k0,k1,k2,k3⟩,f0,f1,f2,f3⟩:=rd_cells hR2.rd
              have hw1:IntKind.i64.wrap ((i:Int)+(x.size:Int))=(i:Int)+(x.size:Int):=by rw [IntKind.wrap_i64];omega
              have hne1:R≠w.heap.size:=by omega
              have hne2:R≠w.heap.size+2:=by omega
              have hji:(j:Int) < 18:=by omega
              go_wp2_with fail
              go_still_tail 13,(by kernel_rfl)
              change wpList _ _ _ _ _ wc.drew
              have hd4:Below wc.heap.size wc wc.drew:=(Below.refl wc.heap.size wc).trans ⟨rfl,rfl,rfl,Nat.le_refl _,fun _ _=>rfl⟩
              have hR5:=hR2.below hd4
              have hB5:=hB2.below hd4
              have hT5:=hT2.below hd4
              have hg5:=hg2.trans (grown_of_below hd4 _)
              have hs5:wc.drew.heap.size=w.heap.size+3:=hs2
              generalize wc.drew=W5 at hR5 hB5 hT5 hg5 hs5 ⊢
              clear hd4 k0 k1 k2 k3 f0 f1 f2 f3 hR2 hB2 hT2 hg2 cj2 hs2
              obtain ⟨⟨k0,k1,k2,k3⟩,f0,f1,f2,f3⟩:=rd_cells hR5.rd
              obtain ⟨⟨a0,a1,a2,a3⟩,fa0,fa1,fa2,fa3⟩:=blk4 hB5
              obtain ⟨⟨b0,b1,b2,b3⟩,fb0,fb1,fb2,fb3⟩:=blk4 hT5
              go_wp2
              have hB9:=(blk_other hB5 ⟨R,3,none⟩ (fun e=>hne1 e.symm) (.int .i64 ((i:Int)+(x.size:Int)))).set (.int .i64 3) (.string x) (.int .i64 0) (.int .i64 po)
              obtain ⟨⟨j0,j1,j2,j3⟩,g0,g1,g2,g3⟩:=blk4 hB9
              refine bodyPost_ret (v:=.tuple #[.agg #[.int .i64 3,.string x,.int .i64 0,.int .i64 po],.bool true]) (by simp [results,Tryd.results89,go_sem,j0,j1,j2,j3]) rfl (SigPost.yes HN.out ?_ ?_)
              · refine grown_new ?_ _ (by simp) _
                refine grown_new ?_ _ (by simp) _
                refine grown_new ?_ _ (by simp) _
                refine grown_new ?_ _ (by simp) _
                exact grown_R hg5 3 _
              · refine rd_other ?_ _ hne1 _
                refine rd_other ?_ _ hne1 _
                refine rd_other ?_ _ hne1 _
                refine rd_other ?_ _ hne1 _
                exact rd_set hR5.rd _
    · have HE:=Lib.hid (noSigM_end (L.drop i) j hlt HN.out)
      clear HN
      obtain ⟨⟨a0,a1,a2,a3⟩,fa0,fa1,fa2,fa3⟩:=blk4 hB0
      have hne1:R≠w.heap.size:=by omega
      go_wp2
      have hB9:=hB0.below (below_dn W0 q)
      have hB9:=hB9.set (.int .i64 0) (.string ⟨#[]⟩) (.int .i64 0) (.int .i64 0)
      obtain ⟨⟨j0,j1,j2,j3⟩,g0,g1,g2,g3⟩:=blk4 hB9
      refine bodyPost_ret (v:=.tuple #[.agg #[.int .i64 0,.string ⟨#[]⟩,.int .i64 0,.int .i64 0],.bool false]) (by simp [results,Tryd.results89,go_sem,j0,j1,j2,j3]) rfl (SigPost.no HE.out ?_ ?_)
      · refine grown_new ?_ _ (by simp) _
        refine grown_new ?_ _ (by simp) _
        refine grown_new ?_ _ (by simp) _
        refine grown_new ?_ _ (by simp) _
        exact grown_dn hg0 _
      · refine rd_other ?_ _ hne1 _
        refine rd_other ?_ _ hne1 _
        refine rd_other ?_ _ hne1 _
        refine rd_other ?_ _ hne1 _
        exact (hR0.drewN _).rd
end Go.Proofs.YtmlmjopfbohglaaDoor
