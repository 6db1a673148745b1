/- Parts of the proof: KG. -/
import Derived.Test.YtmlmjopfbohglaaDoorWd06
namespace Go.Proofs.YtmlmjopfbohglaaDoor
open Go.RowKit
open Go.Maps
structure Cl (w w':World):Prop where
 cell:∀ p v,w.cell? p=some v→w'.cell? p=some v
 frz:∀ b o v,w.cell? ⟨b,o,none⟩=some v→w'.frozen? ⟨b,o,none⟩=w.frozen? ⟨b,o,none⟩
theorem Cl.trans {a b c:World} (h:Cl a b) (k:Cl b c):Cl a c:=⟨fun p v g=>k.cell p v (h.cell p v g),fun x o v g=>(k.frz x o v (h.cell _ v g)).trans (h.frz x o v g)⟩
theorem Cl.of_below {w w':World} (hb:Below w.heap.size w w'):Cl w w':=⟨fun _ _ h=>cell_below hb h,fun _ _ _ h=>hb.frozen (lt_of_cell h)⟩
theorem Cl.of_kp {w w':World} {M:Nat} {es:Array MapEntry} {c:Nat} (hM:w.heap[M]? = some (.map es c)) (h:Kp M w w'):Cl w w':=by
 have hs:∀ p v,w.cell? p=some v→w'.heap[p.block]? = w.heap[p.block]?:=by
  intro p v hc
  refine h.block p.block (lt_of_cell hc) (fun e=>?_)
  have e1:=Option.some.inj e
  unfold World.cell? at hc
  rw [e1,hM] at hc
  cases hc
 refine ⟨fun p v hc=>?_,fun b o v hc=>?_⟩
 ·have h1:=hs p v hc
  unfold World.cell? at hc ⊢
  rw [h1]
  exact hc
 ·have h1:=hs ⟨b,o,none⟩ v hc
  unfold World.frozen?
  simp only [] at h1
  rw [h1]
theorem NodeAt.cl {w w':World} (hb:Cl w w') {b o:Nat} {op name:ByteArray} {n pos:Int} {a:Option Addr} {k cap:Nat} (h:NodeAt w b o op name n pos a k cap):NodeAt w' b o op name n pos a k cap :=
 ⟨hb.cell _ _ h.1,hb.cell _ _ h.2.1,hb.cell _ _ h.2.2.1,hb.cell _ _ h.2.2.2.1,hb.cell _ _ h.2.2.2.2⟩
theorem Fo.In.frz {w w':World} (hb:Cl w w') {F:Fo} {b o:Nat} (h:F.In w b o) (h0:0 < F.len):w'.frozen? ⟨b,o,none⟩=w.frozen? ⟨b,o,none⟩:=by
 cases F with
 | nil=>cases h0
 | cons op name n pos a cap kids rest=>exact hb.frz b o _ h.1.1
theorem Fo.In.cl {w w':World} (hb:Cl w w'):∀ {F:Fo} {b o:Nat},F.In w b o→F.In w' b o:=by
 intro F
 induction F with
 | nil=>intro b o _;trivial
 | cons op name n pos a cap kids rest ihk ihr =>
  intro b o h
  obtain ⟨h1,h2,h3⟩:=h
  refine ⟨h1.cl hb,?_,ihr h3⟩
  rcases h2 with h2 | ⟨b',o',h2,hl,⟨h0,hf⟩,h4⟩
  ·exact .inl h2
  ·exact .inr ⟨b',o',h2,hl,⟨h0,by rw [h4.frz hb h0];exact hf⟩,ihk h4⟩
theorem Nd.In.cl {w w':World} (hb:Cl w w') {T:Nd} (h:T.In w):T.In w':=by
 rcases h with h | ⟨b,o,h,hl,⟨h0,hf⟩,h2⟩
 ·exact .inl h
 ·exact .inr ⟨b,o,h,hl,⟨h0,by rw [h2.frz hb h0];exact hf⟩,h2.cl hb⟩
theorem Tail.cl {w w':World} (hb:Cl w w') {P:Nd→Prop} {F R:Fo} {b o k:Nat} (h:Tail w P F R b o k):Tail w' P F R b o k:=⟨h.lies.cl hb,h.all,h.len⟩
theorem DcsIn.cl {w w':World} (hb:Cl w w') {a:Option Addr} {l:List Dc} (h:DcsIn w a l):DcsIn w' a l:=by
 rcases h with h | ⟨b,o,h1,h2,h3,h4⟩
 ·exact .inl h
 ·exact .inr ⟨b,o,h1,h2,fun i d hd=>⟨hb.cell _ _ (h3 i d hd).1,hb.cell _ _ (h3 i d hd).2.1,hb.cell _ _ (h3 i d hd).2.2⟩,h4⟩
theorem OrdIs.cl {w w':World} {M n:Nat} {O:ByteArray→Int} (h:OrdIs w M n O) (hk:Kp M w w'):Cl w w':=by
 obtain ⟨f,⟨D,⟨es,clock,hb,_⟩,_⟩,_⟩:=h
 exact Cl.of_kp hb hk
theorem PrdIs.kp {w w':World} {M:Nat} {pv:Value} {Q:ByteArray→Option (List Dc)} (h:PrdIs w M pv Q) (hk:Kp M w w') (hc:Cl w w'):PrdIs w' M pv Q:=by
 obtain ⟨N,m,f,h1,h2,h3,h4⟩:=h
 refine ⟨N,m,f,h1,h2,h3.same (hk.block N h3.lt (fun e=>h2 (Option.some.inj e))),fun s=>?_⟩
 rcases h4 s with h | ⟨a,cap,ds,g1,g2,g3⟩
 ·exact .inl h
 ·exact .inr ⟨a,cap,ds,g1,g2,g3.cl hc⟩
def SayFk (T:Nd):Prop:=∀ (w:World) (M m:Nat) (pv:Value) (O:ByteArray→Int) (Q:ByteArray→Option (List Dc)),OrdIs w M m O→PrdIs w M pv Q→T.In w→T.sized→T.okF=true→m+2 * T.size≤1000000000 →
 Calls Tryd.prog 40 #[scV M pv,T.val] w fun e w'=>e=.returned (.tuple #[.int .i64 (T.fk Q O).1,.int .i64 (T.fk Q O).2])∧Kp M w w'∧∃ m',m'≤m+2 * T.size∧OrdIs w' M m' O
theorem OrdIs.upd {w':World} {M m:Nat} {O:ByteArray→Int} {f:ByteArray→Option Value} (hO:∀ s,(f s=none∧O s = -1)∨f s=some (.int .i64 (O s))) (name:ByteArray) (k:Int) (h:SMap Tryd.prog 9 w' M m (fun u=>if u=name then some (.int .i64 k) else f u)):OrdIs w' M m (updO O name k):=by
 refine ⟨_,h,fun s=>?_⟩
 by_cases hs:s=name
 ·right
  simp [updO,hs]
 ·rcases hO s with ⟨h1,h2⟩ | h1
  ·left
   simp [updO,hs,h1,h2]
  ·right
   simp [updO,hs,h1]
theorem updO_back (O:ByteArray→Int) (name:ByteArray) (k:Int):updO (updO O name k) name (O name)=O:=by
 funext s
 unfold updO
 by_cases hs:s=name
 ·simp [hs]
 ·simp [hs]
set_option maxRecDepth 100000 in
set_option maxHeartbeats 16000000 in
theorem kquant_of (op name:ByteArray) (n pos:Int) (kb ko len cap:Nat) (op1 name1:ByteArray) (n1 pos1:Int) (a1:Option Addr) (l1 cap1:Nat) (w:World) (M m mx:Nat) (pv:Value) (O:ByteArray→Int) (ho:OrdIs w M m O) (hs:name.size≤140737488351232) (hl:0 < len) (hm:m≤1000000000) (hmx:mx≤1000000000) (hn:NodeAt w kb ko op1 name1 n1 pos1 a1 l1 cap1) (q1 q2:Int)
  (hc:∀ W,OrdIs W M (m+1) (updO O name n)→Kp M w W→Cl w W→Calls Tryd.prog 40 #[scV M pv,.agg #[.string op1,.string name1,.int .i64 n1,.int .i64 pos1,.slice a1 l1 cap1]] W fun e w'=>e=.returned (.tuple #[.int .i64 q1,.int .i64 q2])∧Kp M W w'∧∃ m',m'≤mx∧OrdIs w' M m' (updO O name n)) :
  Calls Tryd.prog 67 #[scV M pv,.agg #[.string op,.string name,.int .i64 n,.int .i64 pos,.slice (some ⟨kb,ko,none⟩) len cap]] w fun e w'=>e=.returned (.tuple #[.int .i64 q1,.int .i64 q2])∧Kp M w w'∧∃ m',m'≤mx+1∧OrdIs w' M m' O:=by
 have hc2:=cellsScope
 have hc5:=cellsNode
 have hl2:(0:Int) < len:=by omega
 have hsz:name.size≤maxLen:=by unfold maxLen;omega
 have HW:=Lib.hid (two_boxes w (scBox M pv) (boxOf op name n pos (some ⟨kb,ko,none⟩) len cap))
 have hx:w.heap.size < (w.alloc (scBox M pv)).heap.size:=by simp
 have HS:=Lib.hid ((Below.heap_alloc (w.alloc (scBox M pv)) (boxOf op name n pos (some ⟨kb,ko,none⟩) len cap) _ hx).trans (new_at w (scBox M pv)))
 have HB:=Lib.hid (show ((w.alloc (scBox M pv)).alloc (boxOf op name n pos (some ⟨kb,ko,none⟩) len cap)).heap[w.heap.size+1]? = some (boxOf op name n pos (some ⟨kb,ko,none⟩) len cap) from by have h:=new_at (w.alloc (scBox M pv)) (boxOf op name n pos (some ⟨kb,ko,none⟩) len cap);rw [alloc_size] at h;exact h)
 obtain ⟨k0,k1⟩:=sc_cells HS.out
 obtain ⟨b0,b1,b2,b3,b4⟩:=box_cells HB.out
 obtain ⟨c0,c1,c2,c3,c4⟩:=hn.below HW.out
 have HC:=Lib.hid (korder_any M m pv O name _ (ho.below HW.out) hs)
 have HQ:=Lib.hid hc
 have hMs:=ho.lt
 have HO:=Lib.hid ho
 clear ho hs hc hn HS HB
 go_enter Tryd.func67,Tryd.ntmps67
 go_wp2_with fail
 refine HC.out.mono ?_
 rintro e w2 ⟨rfl,hb2⟩
 have HB2:=Lib.hid (HW.out.trans (hb2.mono HW.out.size))
 have HR:=Lib.hid (fun p v (h:((w.alloc (scBox M pv)).alloc (boxOf op name n pos (some ⟨kb,ko,none⟩) len cap)).cell? p=some v)=>cell_below hb2 h)
 replace k0:=HR.out _ _ k0
 replace k1:=HR.out _ _ k1
 replace b1:=HR.out _ _ b1
 replace b2:=HR.out _ _ b2
 replace b4:=HR.out _ _ b4
 replace c0:=HR.out _ _ c0
 replace c1:=HR.out _ _ c1
 replace c2:=HR.out _ _ c2
 replace c3:=HR.out _ _ c3
 replace c4:=HR.out _ _ c4
 have ho2:=HO.out.below HB2.out
 obtain ⟨f2,hsm2,hf2⟩:=ho2
 have HSM:=Lib.hid hsm2
 have HF2:=Lib.hid hf2
 have hOc:OrdIs w2 M m O:=⟨f2,hsm2,hf2⟩
 have HOC:=Lib.hid hOc
 clear hb2 HC HW HR b0 b3 hsm2 hf2 hOc
 go_wp2_with (at_mapUpdate;refine wpList_update_smap _ rfl _ _ _ 81 rfl 9 3 Tryd.underlying9 Tryd.underlying81 M m f2 rfl HSM.out (by unfold maxLen;omega) name (.int .i64 n) rfl rfl hsz ?_;intro w3 hm3 hg3 hz3)
 have hcl:=HOC.out.cl hg3
 have HKP:=Lib.hid ((Kp.of_below (B:=M) HB2.out).trans hg3)
 have HCL:=Lib.hid ((Cl.of_below HB2.out).trans hcl)
 have HO3:=Lib.hid (OrdIs.upd HF2.out name n hm3)
 replace k0:=hcl.cell _ _ k0
 replace k1:=hcl.cell _ _ k1
 replace b1:=hcl.cell _ _ b1
 replace b4:=hcl.cell _ _ b4
 replace c0:=hcl.cell _ _ c0
 replace c1:=hcl.cell _ _ c1
 replace c2:=hcl.cell _ _ c2
 replace c3:=hcl.cell _ _ c3
 replace c4:=hcl.cell _ _ c4
 clear hm3 hg3 hz3 hcl b2 HSM HF2 HOC HB2
 have HC3:=Lib.hid (HQ.out w3.drew HO3.out.drew HKP.out.drew (HCL.out.trans (Cl.of_below (Below.refl _ _).drew)))
 have HCW:=Lib.hid (fun w4 (h:Kp M w3.drew w4)=>(Cl.of_below (Below.refl w3.heap.size w3).drew).trans (OrdIs.cl HO3.out.drew h))
 have HKW:=Lib.hid (fun w4 (h:Kp M w3.drew w4)=>kp_drew h)
 go_wp2_with fail
 go_region_held3 (fun wz=>wz.cell? ⟨w.heap.size,0,none⟩=some (.map (some M))∧wz.cell? ⟨w.heap.size,1,none⟩=some (pv)∧wz.cell? ⟨w.heap.size+1,1,none⟩=some (.string name)∧wz.cell? ⟨w.heap.size+1,4,none⟩=some (.slice (some ⟨kb,ko,none⟩) len cap)∧wz.cell? ⟨kb,ko,none⟩=some (.string op1)∧wz.cell? ⟨kb,ko+1,none⟩=some (.string name1)∧wz.cell? ⟨kb,ko+2,none⟩=some (.int .i64 n1)∧wz.cell? ⟨kb,ko+3,none⟩=some (.int .i64 pos1)∧wz.cell? ⟨kb,ko+4,none⟩=some (.slice a1 l1 cap1)) (go_keep) (first | (go_at_call 40;refine HC3.out.mono ?_;rintro e w4 ⟨rfl,hk4,m4,hm4,ho4⟩;replace k0:=(HCW.out w4 hk4).cell _ _ k0;replace k1:=(HCW.out w4 hk4).cell _ _ k1;replace b1:=(HCW.out w4 hk4).cell _ _ b1;replace b4:=(HCW.out w4 hk4).cell _ _ b4;replace c0:=(HCW.out w4 hk4).cell _ _ c0;replace c1:=(HCW.out w4 hk4).cell _ _ c1;replace c2:=(HCW.out w4 hk4).cell _ _ c2;replace c3:=(HCW.out w4 hk4).cell _ _ c3;replace c4:=(HCW.out w4 hk4).cell _ _ c4;have HK4:=Lib.hid (HKW.out w4 hk4);have HO4:=Lib.hid ho4;clear hk4 ho4))
 have HKF:=Lib.hid (HKP.out.trans HK4.out)
 clear HC3 HCW HKW HKP HK4 HCL HO3 HQ c0 c1 c2 c3 c4 k1 b4
 obtain ⟨f4,hsm4,hf4⟩:=HO4.out
 have HSM4:=Lib.hid hsm4
 have HF4:=Lib.hid hf4
 clear hsm4 hf4
 go_wp2_with (at_mapUpdate;refine wpList_update_smap _ rfl _ _ _ 81 rfl 9 3 Tryd.underlying9 Tryd.underlying81 M m4 f4 rfl HSM4.out (by unfold maxLen;omega) name (.int .i64 (O name)) rfl rfl hsz ?_;intro w5 hm5 hg5 hz5)
 have HO5:=Lib.hid (OrdIs.upd HF4.out name (O name) hm5)
 have HK5:=Lib.hid (HKF.out.trans hg5)
 clear hm5 hg5 hz5 HSM4 HF4 HO4 HKF
 go_wp2_with fail
 go_ret2
 exact ⟨rfl,HK5.out,m4+1,by omega,by have h:=HO5.out;rw [updO_back] at h;exact h⟩
end Go.Proofs.YtmlmjopfbohglaaDoor
