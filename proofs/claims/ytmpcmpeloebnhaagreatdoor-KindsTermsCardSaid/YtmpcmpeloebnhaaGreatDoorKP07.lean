/- Parts of the proof: LexB LexSign LexLead LexC Node GNames. -/
import Derived.Test.YtmpcmpeloebnhaaGreatDoorKP00
import Derived.Test.YtmpcmpeloebnhaaGreatDoorRows
import Derived.Test.YtmpcmpeloebnhaaGreatDoorKP01
import Derived.Test.YtmpcmpeloebnhaaGreatDoorKP05
import Derived.WalkKit
import Derived.WalkLawsBesides
import Derived.WalkSpells
import Derived.ProofKit
import Derived.Outline
import Derived.Deep.QuietTactic
import Derived.BigQuiet
import Derived.Deep.Light
import Derived.Deep.CutBlock
import Derived.Deep.DeepCutAuto
import Derived.Deep.DeepFit
import Derived.Deep.LoopGhost
import Derived.Lib.Hide
import Derived.Lib.OthersKept
import Derived.IntWalk
import Derived.StillTailTactics
namespace Go.Proofs.YtmpcmpeloebnhaaGreatDoor
open Go.RowKit
set_option maxHeartbeats 1000000 in
theorem class_any (r : Int) (w : World) :
  Calls Tryz.prog 97 #[.int .i32 r] w fun e w' => e = .returned (.int .i64 (cls r)) ∧ w = w' := by
 go_enter Tryz.func97, Tryz.ntmps97
 go_wp2
 all_goals go_ret
 all_goals (refine ⟨ret_int ?_, rfl⟩; go_light)
 all_goals (try simp only [beq_iff_eq, beq_eq_false_iff_ne, ne_eq] at *)
 all_goals first | exact cls1 (by unfold isLet; omega) | exact cls2 (by omega) | exact cls3 (by omega) | exact cls4 (by unfold isSig; omega) | exact cls0 (by unfold isLet; omega) (by omega) (by omega) (by unfold isSig; omega)
set_option maxHeartbeats 400000 in
theorem isSpace_any (r : Int) (w : World) : Calls Tryz.prog 99 #[.int .i32 r] w fun e w' => e = .returned (.bool (spB r)) ∧ w = w' := by
 go_enter Tryz.func99, Tryz.ntmps99
 go_wp2_with (go_at_call 97; refine (class_any _ _).mono ?_; rintro e w' ⟨rfl, rfl⟩)
 go_ret
 exact ⟨rfl, rfl⟩
set_option maxHeartbeats 400000 in
theorem isDigit_any (r : Int) (w : World) : Calls Tryz.prog 102 #[.int .i32 r] w fun e w' => e = .returned (.bool (dgB r)) ∧ w = w' := by
 go_enter Tryz.func102, Tryz.ntmps102
 go_wp2_with (go_at_call 97; refine (class_any _ _).mono ?_; rintro e w' ⟨rfl, rfl⟩)
 go_ret
 exact ⟨rfl, rfl⟩
set_option maxHeartbeats 400000 in
theorem isLinePart_any (r : Int) (w : World) : Calls Tryz.prog 104 #[.int .i32 r] w fun e w' => e = .returned (.bool (lnB r)) ∧ w = w' := by
 go_enter Tryz.func104, Tryz.ntmps104
 go_wp2
 go_ret
 exact ⟨rfl, rfl⟩
set_option maxHeartbeats 400000 in
theorem isNamePart_any (r : Int) (w : World) : Calls Tryz.prog 100 #[.int .i32 r] w fun e w' => e = .returned (.bool (nmB r)) ∧ w = w' := by
 by_cases h1 : (cls r == 1) = true
 · have hn := Lib.hid (show nmB r = true by unfold nmB; rw [h1]; rfl)
  go_enter Tryz.func100, Tryz.ntmps100
  go_wp2_with (go_at_call 97; refine (class_any _ _).mono ?_; rintro e w' ⟨rfl, rfl⟩)
  go_ret
  exact ⟨ret_bool hn.out.symm, rfl⟩
 · simp only [Bool.not_eq_true] at h1
  by_cases h2 : dgB r = true
  · have hn := Lib.hid (show nmB r = true by unfold nmB; unfold dgB at h2; rw [h2]; simp)
   go_enter Tryz.func100, Tryz.ntmps100
   go_wp2_with (first | (go_at_call 97; refine (class_any _ _).mono ?_; rintro e w' ⟨rfl, rfl⟩) | (go_at_call 102; refine (isDigit_any _ _).mono ?_; rintro e w' ⟨rfl, rfl⟩))
   go_ret
   exact ⟨ret_bool hn.out.symm, rfl⟩
  · simp only [Bool.not_eq_true] at h2
   have hn := Lib.hid (show nmB r = (r == 39) by unfold nmB; unfold dgB at h2; rw [h1, h2]; simp)
   go_enter Tryz.func100, Tryz.ntmps100
   go_wp2_with (first | (go_at_call 97; refine (class_any _ _).mono ?_; rintro e w' ⟨rfl, rfl⟩) | (go_at_call 102; refine (isDigit_any _ _).mono ?_; rintro e w' ⟨rfl, rfl⟩))
   go_ret
   exact ⟨ret_bool hn.out.symm, rfl⟩
set_option maxHeartbeats 400000 in
theorem written_any (s : ByteArray) (w : World) (hs : s.size ≤ 1000000) :
  Calls Tryz.prog 130 #[.string s] w fun e w' => e = .returned (.bool (fffd s)) ∧ w = w' := by
 go_enter Tryz.func130, Tryz.ntmps130
 by_cases h3 : 3 ≤ s.size
 · go_wp2
  go_ret
  exact ⟨rfl, rfl⟩
 · have HF := Lib.hid (fffd_short s (by omega))
  go_wp2
  go_ret
  rw [HF.out]
  exact ⟨rfl, rfl⟩

set_option maxRecDepth 1000000 in
set_option maxHeartbeats 2000000 in
theorem each_any (s : ByteArray) (w : World) (hs : s.size ≤ 1000000) :
  Calls Tryz.prog 96 #[.string s] w (EachPost s w) := by
 obtain ⟨i0, hi, hz0, hz1, hz2⟩ := info_parts Tryz.infoRune
 go_enter Tryz.func96, Tryz.ntmps96
 go_wp2
 go_loopw [2] (fun v wr => ∃ (pos b : Nat) (acc : List (Int × Int)), wr.heap[w.heap.size]? = some (.stringIter s pos) ∧ wr.ownsRow (w.heap.size + 1) 131 2 v acc.length (flat acc) ∧ Below w.heap.size w wr ∧ Hid (soFar s acc b pos) ∧ s.size ≤ pos + b ∧ acc.length ≤ pos) (fun _ wr => s.size - wr.iterPos w.heap.size)
 case atStart => exact ⟨0, s.size, [], World.iter_heap w s 0, World.ownsRow_nil _ _ _ _, (Below.refl _ _).alloc (Nat.le_refl _) _, soFar_start s, by omega, by simp⟩
 case round =>
  obtain ⟨pos, b, acc, hit, hown, hbw, HS, hb, hlen⟩ := hrel
  have hpos0 := iterPos_of hit
  by_cases hp : pos < s.size
  · have hnx : ∀ ty, (Instr.next (.pointer (some ⟨w.heap.size, 0, none⟩)) true ty).run Tryz.prog wr = _ := fun ty => Lib.run_next_any_at wr w.heap.size s pos ty hit hp
   have hwd := width_pos s pos hp
   obtain ⟨b, rfl⟩ : ∃ f', b = f' + 1 := ⟨b - 1, by omega⟩
   have hit2 := Lib.iterAt_heap wr w.heap.size s pos (pos + (Utf8.decode s pos).2) hit
   have hbw2 := Lib.below_iterAt hbw (k := w.heap.size) (Nat.le_refl _) s (pos + (Utf8.decode s pos).2)
   have hown2 := ownsRow_iterAt hown (k := w.heap.size) (by omega) s (pos + (Utf8.decode s pos).2)
   obtain ⟨W1, hW1⟩ : ∃ W1, W1 = wr.iterAt w.heap.size s (pos + (Utf8.decode s pos).2) := ⟨_, rfl⟩
   rw [← hW1] at hnx hit2 hbw2 hown2
   have hBlt := lt_of_block hit2
   clear hW1 hit hown hbw
   by_cases hbad : badAt s pos
   · have hr1 : (((Utf8.decode s pos).1 : Int) == 65533) = true := by rw [beq_iff_eq]; have := hbad.1; omega
    have hf : fffd (s.extract pos s.size) = false := fffd_bad s pos hbad
    have hX := soFar_bad s acc b pos hp hbad HS.out
    have H1 := Lib.hid hX.1
    have H2 := Lib.hid hX.2
    clear hX HS hbad
    go_wp2_with (go_at_call 130; refine (written_any _ _ (by simp; omega)).mono ?_; rintro e w' ⟨rfl, rfl⟩)
    go_ret2
    exact ⟨u2, ret_v H2.out, by rw [← H1.out]; exact ownsRow_base hown2 (by omega), hbw2⟩
   · have R := soFar_one s acc b pos hp hbad HS.out
    have HS' := Lib.hid R
    clear R
    by_cases hr : (Utf8.decode s pos).1 = 65533
    · have hr1 : (((Utf8.decode s pos).1 : Int) == 65533) = true := by rw [beq_iff_eq]; omega
     have hf : fffd (s.extract pos s.size) = true := fffd_good s pos hr hbad
     clear hr hbad
     go_wp2_with (first | (go_at_call 130; refine (written_any _ _ (by simp; omega)).mono ?_; rintro e w' ⟨rfl, rfl⟩) | (at_builtin; refine wpList_append_own _ rfl _ _ 99 rfl (w.heap.size + 1) 131 i0 (.agg #[.int .i32 0, .int .i64 0]) 2 16 Tryz.underlying99 hi hz0 hz1 hz2 rfl (by decide) _ _ _ rfl (hown2.alloc _) ⟨W1.heap.size, 0, none⟩ 1 1 [.int .i32 ((Utf8.decode s pos).1 : Int), .int .i64 (pos : Int)] rfl rfl (cell_two_new _ _ _ _) (fun x hx => by simp at hx; rcases hx with rfl | rfl <;> rfl) (by unfold maxLen; omega) (by omega) (by simp; omega) ?_; intro v' w3 hown' hgrow3 hnil3))
     have hit3 : w3.heap[w.heap.size]? = some (.stringIter s (pos + (Utf8.decode s pos).2)) := by
      rw [hgrow3.block w.heap.size (by simp; omega) (fun h => by have := (hown2.lt _ h.symm).1; omega), Below.heap_alloc _ _ _ hBlt]; exact hit2
     have hbw3 : Below w.heap.size w w3 := Below.grown (hbw2.alloc (by omega) _) hgrow3 (by simp; omega) (fun j hj => by have := (hown2.lt _ hj).1; omega)
     rw [← flat_snoc acc ((((Utf8.decode s pos).1 : Int), (pos : Int)))] at hown'
     go_wp2
     go_roundw
     case rel => exact ⟨_, b, acc ++ [((((Utf8.decode s pos).1 : Int), (pos : Int)))], hit3, by simpa using hown', hbw3, HS'.out, by omega, by simp; omega⟩
     case measure => rw [iterPos_of hit3, hpos0]; omega
    · have hrb : (((Utf8.decode s pos).1 : Int) == 65533) = false := by rw [beq_eq_false_iff_ne]; omega
     clear hr hbad
     go_wp2_with (at_builtin; refine wpList_append_own _ rfl _ _ 99 rfl (w.heap.size + 1) 131 i0 (.agg #[.int .i32 0, .int .i64 0]) 2 16 Tryz.underlying99 hi hz0 hz1 hz2 rfl (by decide) _ _ _ rfl (hown2.alloc _) ⟨W1.heap.size, 0, none⟩ 1 1 [.int .i32 ((Utf8.decode s pos).1 : Int), .int .i64 (pos : Int)] rfl rfl (cell_two_new _ _ _ _) (fun x hx => by simp at hx; rcases hx with rfl | rfl <;> rfl) (by unfold maxLen; omega) (by omega) (by simp; omega) ?_; intro v' w3 hown' hgrow3 hnil3)
     have hit3 : w3.heap[w.heap.size]? = some (.stringIter s (pos + (Utf8.decode s pos).2)) := by
      rw [hgrow3.block w.heap.size (by simp; omega) (fun h => by have := (hown2.lt _ h.symm).1; omega), Below.heap_alloc _ _ _ hBlt]; exact hit2
     have hbw3 : Below w.heap.size w w3 := Below.grown (hbw2.alloc (by omega) _) hgrow3 (by simp; omega) (fun j hj => by have := (hown2.lt _ hj).1; omega)
     rw [← flat_snoc acc ((((Utf8.decode s pos).1 : Int), (pos : Int)))] at hown'
     go_wp2
     go_roundw
     case rel => exact ⟨_, b, acc ++ [((((Utf8.decode s pos).1 : Int), (pos : Int)))], hit3, by simpa using hown', hbw3, HS'.out, by omega, by simp; omega⟩
     case measure => rw [iterPos_of hit3, hpos0]; omega
  · have hnx : ∀ ty, (Instr.next (.pointer (some ⟨w.heap.size, 0, none⟩)) true ty).run Tryz.prog wr = _ := fun ty => Lib.run_next_end_at wr w.heap.size s pos ty hit hp
   have hX := soFar_end s acc b pos hp HS.out
   have H1 := Lib.hid hX.1
   have H2 := Lib.hid hX.2
   clear hX HS
   go_wp2
   go_ret2
   exact ⟨u2, ret_v H2.out, by rw [← H1.out]; exact ownsRow_base hown (by omega), hbw⟩
theorem wrds_fields : Lib.fields ({ data := #[116, 114, 117, 101, 32, 102, 97, 108, 115, 101, 32, 101, 120, 48, 32, 101, 120, 49, 32, 101, 120, 50, 32, 97, 108, 108, 48, 32, 97, 108, 108, 49, 32, 97, 108, 108, 50, 32, 118, 97, 114, 48, 32, 118, 97, 114, 49, 32, 118, 97, 114, 50, 32, 112, 114, 101, 100, 32, 105, 110, 32, 110, 111, 116, 105, 110, 32, 115, 117, 98, 32, 117, 110, 105, 111, 110, 32, 105, 110, 116, 101, 114] } : ByteArray).data.toList = wrds.map fun x => x.data.toList := by decide +kernel
theorem tab_below {w w' : World} (h : Lib.TabIs Tryz.prog w "strings.asciiSpace" .u8 Lib.asciiSpaceTab) (hb : Below w.heap.size w w') : Lib.TabIs Tryz.prog w' "strings.asciiSpace" .u8 Lib.asciiSpaceTab := var_below h hb
structure LTabs (w : World) : Prop where
 sp : Lib.TabIs Tryz.prog w "strings.asciiSpace" .u8 Lib.asciiSpaceTab
 sg : w.var? Tryz.prog "sibyl/lex.signs" = some (sigs.map Value.string).toArray
theorem LTabs.below {w w' : World} (h : LTabs w) (hb : Below w.heap.size w w') : LTabs w' := ⟨tab_below h.sp hb, var_below h.sg hb⟩
theorem LTabs.at {w : World} (h : LTabs w) : ∃ t f, w.heap[0]? = some (.cells (sigs.map Value.string).toArray t f) := by
 have hg : Tryz.prog.globalNamed "sibyl/lex.signs" = some 0 := by kernel_rfl
 have := h.sg
 unfold World.var? at this
 rw [hg] at this
 simp only [Option.bind_some] at this
 split at this
 · rename_i cs t f he
  obtain rfl := Option.some.inj this
  exact ⟨t, f, he⟩
 · cases this

set_option maxRecDepth 100000 in
set_option maxHeartbeats 1000000 in
theorem words_any (w : World) (hT : Lib.TabIs Tryz.prog w "strings.asciiSpace" .u8 Lib.asciiSpaceTab) :
  Calls Tryz.prog 133 #[] w fun e w' => e = .returned (wrdsV w.heap.size) ∧ w' = w.alloc (.cells wrdsCells 9) := by
 have hf := wrds_fields
 have c := Tryz.strings_Fields ⟨#[116, 114, 117, 101, 32, 102, 97, 108, 115, 101, 32, 101, 120, 48, 32, 101, 120, 49, 32, 101, 120, 50, 32, 97, 108, 108, 48, 32, 97, 108, 108, 49, 32, 97, 108, 108, 50, 32, 118, 97, 114, 48, 32, 118, 97, 114, 49, 32, 118, 97, 114, 50, 32, 112, 114, 101, 100, 32, 105, 110, 32, 110, 111, 116, 105, 110, 32, 115, 117, 98, 32, 117, 110, 105, 111, 110, 32, 105, 110, 116, 101, 114]⟩ w (by decide) (by
  intro j b hb
  have : ∀ b ∈ (#[116, 114, 117, 101, 32, 102, 97, 108, 115, 101, 32, 101, 120, 48, 32, 101, 120, 49, 32, 101, 120, 50, 32, 97, 108, 108, 48, 32, 97, 108, 108, 49, 32, 97, 108, 108, 50, 32, 118, 97, 114, 48, 32, 118, 97, 114, 49, 32, 118, 97, 114, 50, 32, 112, 114, 101, 100, 32, 105, 110, 32, 110, 111, 116, 105, 110, 32, 115, 117, 98, 32, 117, 110, 105, 111, 110, 32, 105, 110, 116, 101, 114] : Array UInt8).toList, b.toNat < 128 := by decide +kernel
  exact this b (List.mem_of_getElem? hb)) hT
 rw [hf] at c
 have e1 : ((wrds.map fun x => x.data.toList).map fun l => Value.string ⟨l.toArray⟩).toArray = wrdsCells := by
  simp [wrdsCells, Function.comp_def]
 have e2 : (wrds.map fun x => x.data.toList).length = 17 := by rfl
 rw [e1, e2] at c
 clear hf e1 e2
 go_enter Tryz.func133, Tryz.ntmps133
 go_wp2_with fail
 refine c.mono ?_
 rintro e w1 ⟨rfl, rfl⟩
 go_wp2
 go_ret
 exact ⟨rfl, rfl⟩
theorem count_any (s : ByteArray) (n : Nat) (w : World) (hs : s.size ≤ 1000000) (h : (each s).2 = -1) (hn : (each s).1.length = n) :
  Calls Tryz.prog 131 #[.string s] w fun e w' => e = .returned (.int .i64 n) ∧ Below w.heap.size w w' := by
 refine (Tryz.utf8_RuneCountInString s w (by omega)).mono ?_
 rintro e w' ⟨rfl, pos, rfl⟩
 refine ⟨?_, (Below.refl _ _).alloc (Nat.le_refl _) _⟩
 rw [show Lib.runeCount s = n by rw [← hn]; exact runeCount_each s s.size 0 (by omega) h]
set_option maxHeartbeats 400000 in
theorem clone_any (s : ByteArray) (w : World) (hs : s.size ≤ 1000000) :
  Calls Tryz.prog 134 #[.string s] w fun e w' => e = .returned (.string s) ∧ Below w.heap.size w w' := by
 go_enter Tryz.func134, Tryz.ntmps134
 go_wp2_with (go_at_call 148; refine (Tryz.stringslite_Clone _ _ (by omega)).mono ?_; rintro e w' ⟨rfl, hb⟩)
 go_ret
 exact ⟨rfl, by assumption⟩
theorem words_has (t : ByteArray) : Lib.containsS wrds t = isWrd t := by
 rw [Bool.eq_iff_iff, Lib.containsS_iff]
 unfold isWrd
 rw [List.any_eq_true]
 constructor
 · intro h; exact ⟨t, h, by simp⟩
 · rintro ⟨x, hx, he⟩
  rw [beq_iff_eq] at he
  obtain rfl : x = t := ByteArray.ext (Array.ext' he)
  exact hx
theorem has_any (t : ByteArray) (b : Nat) (w : World) (hc : ∀ j, j < 17 → w.cell? ⟨b, j, none⟩ = some (.string (wrds.getD j ByteArray.empty))) :
  Calls Tryz.prog 132 #[wrdsV b, .string t] w fun e w' => e = .returned (.bool (isWrd t)) ∧ w = w' := by
 have c := Tryz.slices_Contains_string b 0 17 17 wrds t w (by decide) (by decide) (fun j hj => by rw [Nat.zero_add]; exact hc j hj)
 rw [show wrds.take 17 = wrds from rfl, words_has] at c
 refine c.mono ?_
 rintro e w' ⟨rfl, rfl⟩
 exact ⟨rfl, rfl⟩
set_option maxHeartbeats 1000000 in
theorem name_big (s : ByteArray) (n : Nat) (w : World) (hs : s.size ≤ 1000000) (h : (each s).2 = -1) (hn : (each s).1.length = n) (h12 : 12 < n) :
  Calls Tryz.prog 101 #[.string s] w fun e w' => e = .returned (.tuple #[.agg #[.int .i64 0, .string ⟨#[]⟩, .int .i64 0, .int .i64 0], .bool false]) ∧ Below w.heap.size w w' := by
 have HE := Lib.hid h
 have HN := Lib.hid hn
 clear h hn
 go_enter Tryz.func101, Tryz.ntmps101
 go_wp2_with fail
 refine (count_any _ n _ hs HE.out HN.out).mono ?_
 rintro e w1 ⟨rfl, hb⟩
 obtain ⟨hc, hf⟩ := bcell hb
 have hz : w.heap.size < w1.heap.size := by have := hb.size; simp at this; omega
 have h12' : (12 : Int) < (n : Int) := by omega
 go_wp2
 exact bodyPost_ret (v := .tuple #[.agg #[.int .i64 0, .string ⟨#[]⟩, .int .i64 0, .int .i64 0], .bool false]) (by simp [results, Tryz.results101, go_sem, hc]) rfl
  ⟨rfl, ((((((Below.refl _ _).alloc (Nat.le_refl _) _).trans (hb.mono (by simp))).setCell (by simp) _).setCell (by simp) _).setCell (by simp) _).setCell (by simp) _⟩

set_option maxHeartbeats 2000000 in
theorem name_ok (s : ByteArray) (n : Nat) (w : World) (hT : LTabs w) (hs : s.size ≤ 1000000) (h : (each s).2 = -1) (hn : (each s).1.length = n) (h12 : n ≤ 12) :
  Calls Tryz.prog 101 #[.string s] w fun e w' => e = .returned (.tuple #[.agg #[.int .i64 (if isWrd s then 3 else 1), .string s, .int .i64 0, .int .i64 0], .bool true]) ∧ Below w.heap.size w w' := by
 have HE := Lib.hid h
 have HN := Lib.hid hn
 clear h hn
 have hq : (isWrd s = true ∧ (if isWrd s then (3 : Int) else 1) = 3) ∨ (isWrd s = false ∧ (if isWrd s then (3 : Int) else 1) = 1) := by cases isWrd s <;> simp
 rcases hq with ⟨hq, hv⟩ | ⟨hq, hv⟩
 all_goals
  rw [hv]
  clear hv
  go_enter Tryz.func101, Tryz.ntmps101
  go_wp2_with fail
  refine (count_any _ n _ hs HE.out HN.out).mono ?_
  rintro e w1 ⟨rfl, hb⟩
  have hb0 : Below w.heap.size w w1 := ((Below.refl _ _).alloc (Nat.le_refl _) _).trans (hb.mono (by simp))
  obtain ⟨hc, hf⟩ := bcell hb
  have hz : w.heap.size < w1.heap.size := by have := hb.size; simp at this; omega
  have h12' : (n : Int) ≤ (12 : Int) := by omega
  have hT1 := hT.below hb0
  go_wp2_with fail
  refine (words_any _ hT1.sp).mono ?_
  rintro e w2 ⟨rfl, rfl⟩
  go_wp2_with fail
  refine (has_any _ _ _ (wrds_cells w1)).mono ?_
  rintro e w' ⟨rfl, rfl⟩
  go_wp2_with fail
  refine (clone_any _ _ hs).mono ?_
  rintro e w3 ⟨rfl, hb3⟩
  obtain ⟨hc3, hf3⟩ := bcell hb3
  have hz3 : w1.heap.size + 1 ≤ w3.heap.size := by have := hb3.size; simp at this; omega
  have hz4 : w.heap.size < w3.heap.size := by omega
  have hz5 : w.heap.size < w1.heap.size + 1 := by omega
  go_wp2
  exact bodyPost_ret (v := .tuple #[.agg #[_, .string s, .int .i64 0, .int .i64 0], .bool true]) (by simp [results, Tryz.results101, go_sem, hc, hz, hc3, hz5]) rfl
   ⟨rfl, (((((hb0.alloc (by omega) _).trans (hb3.mono (by simp; omega))).setCell (by simp) _).setCell (by simp) _).setCell (by simp) _).setCell (by simp) _⟩
set_option maxHeartbeats 2000000 in
theorem number_any (s : ByteArray) (w : World) (hs : s.size ≤ 1000000) (h1 : 1 ≤ s.size) (h : (each s).2 = -1) (hd : ∀ q ∈ (each s).1, dgB q.1 = true) :
  Calls Tryz.prog 103 #[.string s] w (NumPost s w) := by
 have HA := Lib.hid (numAt_start s h hd)
 clear h hd
 by_cases hn : s.get! 0 = 48 ∧ 1 < s.size
 · have HO := Lib.hid (numOut_no hn)
  have h2 : 1 < s.size := hn.2
  have hg : s[0]'h1 = 48 := by
   have : s.data.toList.getD 0 0 = 48 := by rw [Lib.getD_get!']; exact hn.1
   rw [List.getD_eq_getElem?_getD, List.getElem?_eq_getElem (by rw [← Lib.size_eq]; omega)] at this
   exact this
  have hg1 : ((s[0]'h1).toNat : Int) = 48 := by rw [hg]; rfl
  clear hn hg
  go_enter Tryz.func103, Tryz.ntmps103
  go_wp2
  exact bodyPost_ret (by simp [results, Tryz.results103, go_sem]) rfl
   (NumPost.mk HO.out ((Below.refl _ _).alloc (Nat.le_refl _) _))
 · have HNN := Lib.hid hn
  have key : ∀ (b : Bool), (decide (1 < (s.size : Int)) = b) → (b = true → ((s[0]'h1).toNat : Int) ≠ 48) → True := fun _ _ _ => trivial
  have hcase : ¬ (1 : Int) < (s.size : Int) ∨ ((1 : Int) < (s.size : Int) ∧ (((s[0]'h1).toNat : Int) == 48) = false) := by
   by_cases h2 : 1 < s.size
   · right
    refine ⟨by omega, ?_⟩
    rw [beq_eq_false_iff_ne]
    intro h48
    refine hn ⟨?_, h2⟩
    rw [← Lib.getD_get!', List.getD_eq_getElem?_getD, List.getElem?_eq_getElem (by rw [← Lib.size_eq]; omega)]
    exact UInt8.toNat_inj.1 (show (s[0]'h1).toNat = 48 by omega)
   · left; omega
  clear hn key
  rcases hcase with h2 | ⟨h2, h48⟩
  all_goals
   go_enter Tryz.func103, Tryz.ntmps103
   go_wp2
   go_loopw [4] (fun v wr => ∃ (pos b : Nat) (a : Int), v = .int .i64 a ∧ 0 ≤ a ∧ a ≤ 99 ∧ wr.heap[w.heap.size + 1]? = some (.stringIter s pos) ∧ Blk4 wr w.heap.size (.int .i64 0) (.string ⟨#[]⟩) (.int .i64 0) (.int .i64 0) ∧ Below w.heap.size w wr ∧ Hid (numAt s b pos a) ∧ s.size ≤ pos + b) (fun _ wr => s.size - wr.iterPos (w.heap.size + 1))
   case atStart => exact ⟨0, s.size, 0, rfl, by omega, by omega, iter_heap1 w _ s 0, (blk4_new w _ _ _ _).iter s 0, ((Below.refl _ _).alloc (Nat.le_refl _) _).alloc (by simp) _, HA.out, by omega⟩
   case round =>
    obtain ⟨pos, b, a, rfl, ha0, ha9, hit, hcl, hbw, HS, hb⟩ := hrel
    have hpos0 := iterPos_of hit
    clear HA
    by_cases hp : pos < s.size
    · have hnx : ∀ ty, (Instr.next (.pointer (some ⟨w.heap.size + 1, 0, none⟩)) true ty).run Tryz.prog wr = _ := fun ty => Lib.run_next_any_at wr (w.heap.size + 1) s pos ty hit hp
     have hwd := width_pos s pos hp
     have hwl := width_le s pos hp
     obtain ⟨b, rfl⟩ : ∃ f', b = f' + 1 := ⟨b - 1, by omega⟩
     have hit2 := Lib.iterAt_heap wr (w.heap.size + 1) s pos (pos + (Utf8.decode s pos).2) hit
     have hcl2 := hcl.iterAt (w.heap.size + 1) (by omega) s (pos + (Utf8.decode s pos).2)
     have hbw2 := Lib.below_iterAt hbw (k := w.heap.size + 1) (by omega) s (pos + (Utf8.decode s pos).2)
     obtain ⟨W1, hW1⟩ : ∃ W1, W1 = wr.iterAt (w.heap.size + 1) s (pos + (Utf8.decode s pos).2) := ⟨_, rfl⟩
     rw [← hW1] at hnx hit2 hbw2 hcl2
     have hst := numAt_one hp HS.out ha0 ha9
     obtain ⟨hr0, hr9⟩ := hst.1
     have HN := Lib.hid hst.2
     clear hW1 hit hbw HS hst hcl
     obtain ⟨⟨k0, k1, k2, k3⟩, f0, f1, f2, f3⟩ := blk4 hcl2
     have hlt2 := hcl2.lt
     by_cases h99 : 99 < 10 * a + (((Utf8.decode s pos).1 : Int) - 48)
     · have HO := Lib.hid (numOut_big (numAt_big HN.out h99))
      clear HN
      go_wp2
      exact bodyPost_ret (by simp [results, Tryz.results103, go_sem, k0, k1, k2, k3]) rfl
       (NumPost.mk HO.out ((((hbw2.setCell (by simp) _).setCell (by simp) _).setCell (by simp) _).setCell (by simp) _))
     · go_wp2
      go_roundw
      case rel => exact ⟨_, b, _, rfl, by omega, by omega, hit2, hcl2, hbw2, HN.out, by omega⟩
      case measure => rw [iterPos_of hit2, hpos0]; omega
    · have hnx : ∀ ty, (Instr.next (.pointer (some ⟨w.heap.size + 1, 0, none⟩)) true ty).run Tryz.prog wr = _ := fun ty => Lib.run_next_end_at wr (w.heap.size + 1) s pos ty hit hp
     have HO := Lib.hid (numOut_ok (numAt_end hp HS.out) ha9 HNN.out)
     obtain ⟨⟨k0, k1, k2, k3⟩, f0, f1, f2, f3⟩ := blk4 hcl
     have hlt2 := hcl.lt
     clear HS
     go_wp2
     exact bodyPost_ret (by simp [results, Tryz.results103, go_sem, k0, k1, k2, k3]) rfl
      (NumPost.mk HO.out ((((hbw.setCell (by simp) _).setCell (by simp) _).setCell (by simp) _).setCell (by simp) _))
end Go.Proofs.YtmpcmpeloebnhaaGreatDoor
namespace Go.Proofs.YtmpcmpeloebnhaaGreatDoor
open Go.RowKit
def signOf (s : ByteArray) : ByteArray := (sigL (each s).1).getD ⟨#[]⟩
def noSig (s : ByteArray) (k : Nat) : Prop := sigF (sigs.drop k) (each s).1 = sigL (each s).1
theorem noSig_start (s : ByteArray) : noSig s 0 := rfl
theorem noSig_step (s : ByteArray) (k : Nat) (hk : k < 18) (h : noSig s k) : (rpre (sigs[k]'hk).data.toList (each s).1 = true → signOf s = sigs[k]'hk) ∧ (rpre (sigs[k]'hk).data.toList (each s).1 = false → noSig s (k + 1)) := by
 unfold noSig at h ⊢
 have hd : sigs.drop k = sigs[k]'hk :: sigs.drop (k + 1) := List.drop_eq_getElem_cons hk
 rw [hd] at h
 unfold sigF at h
 constructor
 · intro h1
  rw [if_pos h1] at h
  unfold signOf
  rw [← h]; rfl
 · intro h1
  rw [if_neg (by rw [h1]; decide)] at h
  exact h
theorem noSig_end (s : ByteArray) (k : Nat) (hk : ¬ k < 18) (h : noSig s k) : signOf s = ⟨#[]⟩ := by
 unfold noSig at h
 rw [List.drop_of_length_le (by show sigs.length ≤ k; exact Nat.not_lt.1 hk)] at h
 unfold signOf
 rw [← h]; rfl
theorem run_index_sig (w : World) (cs : Array Value) (k : Nat) (v : Value) (hk : k < 18) (h : cs[k]? = some v) : (Instr.index 139 (.agg cs) (.int .i64 k)).run Tryz.prog w = .ok v w := by
 have h1 : (0 : Int) ≤ (k : Int) ∧ (k : Int) < (18 : Int) := by omega
 have h2 : (k : Int).toNat = k := by omega
 simp [Instr.index, asIntOf, run_underlying Tryz.underlying139, Tryz.sizeOf9, Tryz.isAgg9, part, h1, h2, h, go_sem]
 intro h18
 omega
theorem str_is {a b : ByteArray} (h : a = b) : Ending.returned (.string b) = .returned (.string a) := by rw [h]
set_option maxRecDepth 100000 in
set_option maxHeartbeats 1000000 in
theorem sign_any (s : ByteArray) (w : World) (hT : LTabs w) (h : (each s).2 = -1) :
  Calls Tryz.prog 105 #[.string s] w fun e w' => e = .returned (.string (signOf s)) ∧ w = w' := by
 obtain ⟨t, f, hl⟩ := hT.at
 have HP := Lib.hid (fun (k : Nat) (hk : k < 18) => hasPrefix_rpre s (sigs[k]'hk).data.toList (sigs_ascii _ (List.getElem_mem _)) s.size 0 (by omega) h)
 have c0 := (cell_of_row w 0 0 _ t f hl).trans (show _ = some (Value.string ⟨#[60, 61, 62]⟩) from rfl)
 have c1 := (cell_of_row w 0 1 _ t f hl).trans (show _ = some (Value.string ⟨#[61, 62]⟩) from rfl)
 have c2 := (cell_of_row w 0 2 _ t f hl).trans (show _ = some (Value.string ⟨#[60, 61]⟩) from rfl)
 have c3 := (cell_of_row w 0 3 _ t f hl).trans (show _ = some (Value.string ⟨#[126, 61]⟩) from rfl)
 have c4 := (cell_of_row w 0 4 _ t f hl).trans (show _ = some (Value.string ⟨#[61]⟩) from rfl)
 have c5 := (cell_of_row w 0 5 _ t f hl).trans (show _ = some (Value.string ⟨#[126]⟩) from rfl)
 have c6 := (cell_of_row w 0 6 _ t f hl).trans (show _ = some (Value.string ⟨#[60]⟩) from rfl)
 have c7 := (cell_of_row w 0 7 _ t f hl).trans (show _ = some (Value.string ⟨#[38]⟩) from rfl)
 have c8 := (cell_of_row w 0 8 _ t f hl).trans (show _ = some (Value.string ⟨#[124]⟩) from rfl)
 have c9 := (cell_of_row w 0 9 _ t f hl).trans (show _ = some (Value.string ⟨#[40]⟩) from rfl)
 have c10 := (cell_of_row w 0 10 _ t f hl).trans (show _ = some (Value.string ⟨#[41]⟩) from rfl)
 have c11 := (cell_of_row w 0 11 _ t f hl).trans (show _ = some (Value.string ⟨#[123]⟩) from rfl)
 have c12 := (cell_of_row w 0 12 _ t f hl).trans (show _ = some (Value.string ⟨#[125]⟩) from rfl)
 have c13 := (cell_of_row w 0 13 _ t f hl).trans (show _ = some (Value.string ⟨#[44]⟩) from rfl)
 have c14 := (cell_of_row w 0 14 _ t f hl).trans (show _ = some (Value.string ⟨#[59]⟩) from rfl)
 have c15 := (cell_of_row w 0 15 _ t f hl).trans (show _ = some (Value.string ⟨#[58]⟩) from rfl)
 have c16 := (cell_of_row w 0 16 _ t f hl).trans (show _ = some (Value.string ⟨#[43]⟩) from rfl)
 have c17 := (cell_of_row w 0 17 _ t f hl).trans (show _ = some (Value.string ⟨#[92]⟩) from rfl)
 have hat : ∀ k (hk : k < 18), (#[.string ⟨#[60, 61, 62]⟩, .string ⟨#[61, 62]⟩, .string ⟨#[60, 61]⟩, .string ⟨#[126, 61]⟩, .string ⟨#[61]⟩, .string ⟨#[126]⟩, .string ⟨#[60]⟩, .string ⟨#[38]⟩, .string ⟨#[124]⟩, .string ⟨#[40]⟩, .string ⟨#[41]⟩, .string ⟨#[123]⟩, .string ⟨#[125]⟩, .string ⟨#[44]⟩, .string ⟨#[59]⟩, .string ⟨#[58]⟩, .string ⟨#[43]⟩, .string ⟨#[92]⟩] : Array Value)[k]? = some (.string (sigs[k]'hk)) := by
  intro k hk
  have e : (#[.string ⟨#[60, 61, 62]⟩, .string ⟨#[61, 62]⟩, .string ⟨#[60, 61]⟩, .string ⟨#[126, 61]⟩, .string ⟨#[61]⟩, .string ⟨#[126]⟩, .string ⟨#[60]⟩, .string ⟨#[38]⟩, .string ⟨#[124]⟩, .string ⟨#[40]⟩, .string ⟨#[41]⟩, .string ⟨#[123]⟩, .string ⟨#[125]⟩, .string ⟨#[44]⟩, .string ⟨#[59]⟩, .string ⟨#[58]⟩, .string ⟨#[43]⟩, .string ⟨#[92]⟩] : Array Value) = (sigs.map Value.string).toArray := rfl
  rw [e, List.getElem?_toArray, List.getElem?_map, List.getElem?_eq_getElem hk]; rfl
 have HAt := Lib.hid hat
 clear h hT hl hat
 go_enter Tryz.func105, Tryz.ntmps105
 go_wp2
 go_loop [6] (fun i => ∃ k : Nat, i = .int .i64 k ∧ k ≤ 18 ∧ Hid (noSig s k)) (fun i => 18 - (intOf i).toNat)
 case atStart => exact ⟨0, rfl, by omega, noSig_start s⟩
 case round =>
  obtain ⟨k, rfl, hk, HN⟩ := hrel
  clear c0 c1 c2 c3 c4 c5 c6 c7 c8 c9 c10 c11 c12 c13 c14 c15 c16 c17
  by_cases hlt : k < 18
  · have hx : ∀ wr, (Instr.index 139 _ (.int .i64 k)).run Tryz.prog wr = _ := fun wr => run_index_sig wr _ k _ hlt (HAt.out k hlt)
   have hst := noSig_step s k hlt HN.out
   have hpk : Lib.hasPrefix s.data.toList (sigs[k]'hlt).data.toList = rpre (sigs[k]'hlt).data.toList (each s).1 := HP.out k hlt
   clear HN
   generalize (sigs[k]'hlt) = x at hx hst hpk
   by_cases hr : rpre x.data.toList (each s).1 = true
   · rw [hr] at hpk
    have HE := Lib.hid (hst.1 hr)
    clear hst hr
    go_wp2_with (go_at_call 135; refine (Tryz.strings_HasPrefix _ _ _).mono ?_; rintro e w' ⟨rfl, rfl⟩)
    go_ret
    exact ⟨str_is HE.out, rfl⟩
   · simp only [Bool.not_eq_true] at hr
    rw [hr] at hpk
    have HE := Lib.hid (hst.2 hr)
    clear hst hr
    go_wp2_with (go_at_call 135; refine (Tryz.strings_HasPrefix _ _ _).mono ?_; rintro e w' ⟨rfl, rfl⟩)
    go_round
    case rel => exact ⟨k + 1, by go_num, by omega, HE.out⟩
    case measure => simp [intOf]; omega
  · have HE := Lib.hid (noSig_end s k hlt HN.out)
   clear HN
   go_wp2
   go_ret
   exact ⟨str_is HE.out, rfl⟩
end Go.Proofs.YtmpcmpeloebnhaaGreatDoor
namespace Go.Proofs.YtmpcmpeloebnhaaGreatDoor
open Go.RowKit
theorem str_ext {s : ByteArray} {a b : Nat} (h : a = b) : Ending.returned (.string (s.extract 0 a)) = .returned (.string (s.extract 0 b)) := by rw [h]
theorem str_all {s t : ByteArray} (h : s = t) : Ending.returned (.string s) = .returned (.string t) := by rw [h]
def leadN (p : Int → Bool) (s : ByteArray) : Nat := (posOf (s.size : Int) ((each s).1.drop (cnt p (each s).1))).toNat
def leadAt (p : Int → Bool) (s : ByteArray) (b pos : Nat) : Prop := (eachF s b pos).2 = -1 ∧ leadN p s = (posOf (s.size : Int) ((eachF s b pos).1.drop (cnt p (eachF s b pos).1))).toNat
theorem leadAt_start (p : Int → Bool) (s : ByteArray) (h : (each s).2 = -1) : leadAt p s s.size 0 := ⟨h, rfl⟩
theorem leadAt_good {p : Int → Bool} {s : ByteArray} {b pos : Nat} (hp : pos < s.size) (h : leadAt p s b pos) : ¬ badAt s pos ∨ b = 0 := by
 cases b with
 | zero => right; rfl
 | succ b =>
  left
  intro hb
  have := h.1
  rw [eachF_bad _ _ _ hp hb] at this; simp only [] at this; omega
theorem leadAt_one {p : Int → Bool} {s : ByteArray} {b pos : Nat} (hp : pos < s.size) (h : leadAt p s (b + 1) pos) (hq : p (Utf8.decode s pos).1 = true) : leadAt p s b (pos + (Utf8.decode s pos).2) := by
 have hb : ¬ badAt s pos := by rcases leadAt_good hp h with h | h; exact h; omega
 unfold leadAt at h ⊢
 rw [eachF_one _ _ _ hp hb] at h
 refine ⟨h.1, ?_⟩
 rw [h.2, cnt_pos hq]
 rfl
theorem leadAt_stop {p : Int → Bool} {s : ByteArray} {b pos : Nat} (hp : pos < s.size) (h : leadAt p s (b + 1) pos) (hq : p (Utf8.decode s pos).1 = false) : pos = leadN p s := by
 have hb : ¬ badAt s pos := by rcases leadAt_good hp h with h | h; exact h; omega
 unfold leadAt at h
 rw [eachF_one _ _ _ hp hb] at h
 rw [h.2, cnt_zero hq]
 simp [posOf]
theorem leadAt_end {p : Int → Bool} {s : ByteArray} {b pos : Nat} (hp : ¬ pos < s.size) (h : leadAt p s b pos) : s = s.extract 0 (leadN p s) := by
 unfold leadAt at h
 rw [eachF_end _ _ _ hp] at h
 rw [h.2]
 simp [posOf]

set_option maxHeartbeats 1000000 in
theorem lead_sp (s : ByteArray) (w : World) (h : (each s).2 = -1) :
  Calls Tryz.prog 98 #[.string s, .func (.func 99) #[] #[]] w fun e w' => e = .returned (.string (s.extract 0 (leadN spB s))) ∧ Below w.heap.size w w' := by
 have HA := Lib.hid (leadAt_start spB s h)
 clear h
 go_enter Tryz.func98, Tryz.ntmps98
 go_wp2
 go_loopw [] (fun wr => ∃ (pos b : Nat), wr.heap[w.heap.size]? = some (.stringIter s pos) ∧ Below w.heap.size w wr ∧ Hid (leadAt spB s b pos) ∧ s.size ≤ pos + b) (fun wr => s.size - wr.iterPos w.heap.size)
 case atStart => exact ⟨0, s.size, World.iter_heap w s 0, (Below.refl _ _).alloc (Nat.le_refl _) _, HA.out, by omega⟩
 case round =>
  obtain ⟨pos, b, hit, hbw, HS, hb⟩ := hrel
  have hpos0 := iterPos_of hit
  clear HA
  by_cases hp : pos < s.size
  · have hnx : ∀ ty, (Instr.next (.pointer (some ⟨w.heap.size, 0, none⟩)) true ty).run Tryz.prog wr = _ := fun ty => Lib.run_next_any_at wr w.heap.size s pos ty hit hp
   have hwd := width_pos s pos hp
   have hwl := width_le s pos hp
   obtain ⟨b, rfl⟩ : ∃ f', b = f' + 1 := ⟨b - 1, by omega⟩
   have hit2 := Lib.iterAt_heap wr w.heap.size s pos (pos + (Utf8.decode s pos).2) hit
   have hbw2 := Lib.below_iterAt hbw (k := w.heap.size) (Nat.le_refl _) s (pos + (Utf8.decode s pos).2)
   obtain ⟨W1, hW1⟩ : ∃ W1, W1 = wr.iterAt w.heap.size s (pos + (Utf8.decode s pos).2) := ⟨_, rfl⟩
   rw [← hW1] at hnx hit2 hbw2
   clear hW1 hit hbw
   by_cases hq : spB (Utf8.decode s pos).1 = true
   · have HN := Lib.hid (leadAt_one hp HS.out hq)
    clear HS
    go_wp2_with (go_at_call 99; refine (isSpace_any _ _).mono ?_; rintro e w' ⟨rfl, rfl⟩)
    go_roundw
    case rel => exact ⟨_, b, hit2, hbw2, HN.out, by omega⟩
    case measure => rw [iterPos_of hit2, hpos0]; omega
   · simp only [Bool.not_eq_true] at hq
    have HN := Lib.hid (leadAt_stop hp HS.out hq)
    clear HS
    go_wp2_with (go_at_call 99; refine (isSpace_any _ _).mono ?_; rintro e w' ⟨rfl, rfl⟩)
    go_ret
    exact ⟨str_ext HN.out, hbw2⟩
  · have hnx : ∀ ty, (Instr.next (.pointer (some ⟨w.heap.size, 0, none⟩)) true ty).run Tryz.prog wr = _ := fun ty => Lib.run_next_end_at wr w.heap.size s pos ty hit hp
   have HN := Lib.hid (leadAt_end hp HS.out)
   clear HS
   go_wp2
   go_ret
   exact ⟨str_all HN.out, hbw⟩
set_option maxHeartbeats 1000000 in
theorem lead_nm (s : ByteArray) (w : World) (h : (each s).2 = -1) :
  Calls Tryz.prog 98 #[.string s, .func (.func 100) #[] #[]] w fun e w' => e = .returned (.string (s.extract 0 (leadN nmB s))) ∧ Below w.heap.size w w' := by
 have HA := Lib.hid (leadAt_start nmB s h)
 clear h
 go_enter Tryz.func98, Tryz.ntmps98
 go_wp2
 go_loopw [] (fun wr => ∃ (pos b : Nat), wr.heap[w.heap.size]? = some (.stringIter s pos) ∧ Below w.heap.size w wr ∧ Hid (leadAt nmB s b pos) ∧ s.size ≤ pos + b) (fun wr => s.size - wr.iterPos w.heap.size)
 case atStart => exact ⟨0, s.size, World.iter_heap w s 0, (Below.refl _ _).alloc (Nat.le_refl _) _, HA.out, by omega⟩
 case round =>
  obtain ⟨pos, b, hit, hbw, HS, hb⟩ := hrel
  have hpos0 := iterPos_of hit
  clear HA
  by_cases hp : pos < s.size
  · have hnx : ∀ ty, (Instr.next (.pointer (some ⟨w.heap.size, 0, none⟩)) true ty).run Tryz.prog wr = _ := fun ty => Lib.run_next_any_at wr w.heap.size s pos ty hit hp
   have hwd := width_pos s pos hp
   have hwl := width_le s pos hp
   obtain ⟨b, rfl⟩ : ∃ f', b = f' + 1 := ⟨b - 1, by omega⟩
   have hit2 := Lib.iterAt_heap wr w.heap.size s pos (pos + (Utf8.decode s pos).2) hit
   have hbw2 := Lib.below_iterAt hbw (k := w.heap.size) (Nat.le_refl _) s (pos + (Utf8.decode s pos).2)
   obtain ⟨W1, hW1⟩ : ∃ W1, W1 = wr.iterAt w.heap.size s (pos + (Utf8.decode s pos).2) := ⟨_, rfl⟩
   rw [← hW1] at hnx hit2 hbw2
   clear hW1 hit hbw
   by_cases hq : nmB (Utf8.decode s pos).1 = true
   · have HN := Lib.hid (leadAt_one hp HS.out hq)
    clear HS
    go_wp2_with (go_at_call 100; refine (isNamePart_any _ _).mono ?_; rintro e w' ⟨rfl, rfl⟩)
    go_roundw
    case rel => exact ⟨_, b, hit2, hbw2, HN.out, by omega⟩
    case measure => rw [iterPos_of hit2, hpos0]; omega
   · simp only [Bool.not_eq_true] at hq
    have HN := Lib.hid (leadAt_stop hp HS.out hq)
    clear HS
    go_wp2_with (go_at_call 100; refine (isNamePart_any _ _).mono ?_; rintro e w' ⟨rfl, rfl⟩)
    go_ret
    exact ⟨str_ext HN.out, hbw2⟩
  · have hnx : ∀ ty, (Instr.next (.pointer (some ⟨w.heap.size, 0, none⟩)) true ty).run Tryz.prog wr = _ := fun ty => Lib.run_next_end_at wr w.heap.size s pos ty hit hp
   have HN := Lib.hid (leadAt_end hp HS.out)
   clear HS
   go_wp2
   go_ret
   exact ⟨str_all HN.out, hbw⟩
set_option maxHeartbeats 1000000 in
theorem lead_dg (s : ByteArray) (w : World) (h : (each s).2 = -1) :
  Calls Tryz.prog 98 #[.string s, .func (.func 102) #[] #[]] w fun e w' => e = .returned (.string (s.extract 0 (leadN dgB s))) ∧ Below w.heap.size w w' := by
 have HA := Lib.hid (leadAt_start dgB s h)
 clear h
 go_enter Tryz.func98, Tryz.ntmps98
 go_wp2
 go_loopw [] (fun wr => ∃ (pos b : Nat), wr.heap[w.heap.size]? = some (.stringIter s pos) ∧ Below w.heap.size w wr ∧ Hid (leadAt dgB s b pos) ∧ s.size ≤ pos + b) (fun wr => s.size - wr.iterPos w.heap.size)
 case atStart => exact ⟨0, s.size, World.iter_heap w s 0, (Below.refl _ _).alloc (Nat.le_refl _) _, HA.out, by omega⟩
 case round =>
  obtain ⟨pos, b, hit, hbw, HS, hb⟩ := hrel
  have hpos0 := iterPos_of hit
  clear HA
  by_cases hp : pos < s.size
  · have hnx : ∀ ty, (Instr.next (.pointer (some ⟨w.heap.size, 0, none⟩)) true ty).run Tryz.prog wr = _ := fun ty => Lib.run_next_any_at wr w.heap.size s pos ty hit hp
   have hwd := width_pos s pos hp
   have hwl := width_le s pos hp
   obtain ⟨b, rfl⟩ : ∃ f', b = f' + 1 := ⟨b - 1, by omega⟩
   have hit2 := Lib.iterAt_heap wr w.heap.size s pos (pos + (Utf8.decode s pos).2) hit
   have hbw2 := Lib.below_iterAt hbw (k := w.heap.size) (Nat.le_refl _) s (pos + (Utf8.decode s pos).2)
   obtain ⟨W1, hW1⟩ : ∃ W1, W1 = wr.iterAt w.heap.size s (pos + (Utf8.decode s pos).2) := ⟨_, rfl⟩
   rw [← hW1] at hnx hit2 hbw2
   clear hW1 hit hbw
   by_cases hq : dgB (Utf8.decode s pos).1 = true
   · have HN := Lib.hid (leadAt_one hp HS.out hq)
    clear HS
    go_wp2_with (go_at_call 102; refine (isDigit_any _ _).mono ?_; rintro e w' ⟨rfl, rfl⟩)
    go_roundw
    case rel => exact ⟨_, b, hit2, hbw2, HN.out, by omega⟩
    case measure => rw [iterPos_of hit2, hpos0]; omega
   · simp only [Bool.not_eq_true] at hq
    have HN := Lib.hid (leadAt_stop hp HS.out hq)
    clear HS
    go_wp2_with (go_at_call 102; refine (isDigit_any _ _).mono ?_; rintro e w' ⟨rfl, rfl⟩)
    go_ret
    exact ⟨str_ext HN.out, hbw2⟩
  · have hnx : ∀ ty, (Instr.next (.pointer (some ⟨w.heap.size, 0, none⟩)) true ty).run Tryz.prog wr = _ := fun ty => Lib.run_next_end_at wr w.heap.size s pos ty hit hp
   have HN := Lib.hid (leadAt_end hp HS.out)
   clear HS
   go_wp2
   go_ret
   exact ⟨str_all HN.out, hbw⟩
set_option maxHeartbeats 1000000 in
theorem lead_ln (s : ByteArray) (w : World) (h : (each s).2 = -1) :
  Calls Tryz.prog 98 #[.string s, .func (.func 104) #[] #[]] w fun e w' => e = .returned (.string (s.extract 0 (leadN lnB s))) ∧ Below w.heap.size w w' := by
 have HA := Lib.hid (leadAt_start lnB s h)
 clear h
 go_enter Tryz.func98, Tryz.ntmps98
 go_wp2
 go_loopw [] (fun wr => ∃ (pos b : Nat), wr.heap[w.heap.size]? = some (.stringIter s pos) ∧ Below w.heap.size w wr ∧ Hid (leadAt lnB s b pos) ∧ s.size ≤ pos + b) (fun wr => s.size - wr.iterPos w.heap.size)
 case atStart => exact ⟨0, s.size, World.iter_heap w s 0, (Below.refl _ _).alloc (Nat.le_refl _) _, HA.out, by omega⟩
 case round =>
  obtain ⟨pos, b, hit, hbw, HS, hb⟩ := hrel
  have hpos0 := iterPos_of hit
  clear HA
  by_cases hp : pos < s.size
  · have hnx : ∀ ty, (Instr.next (.pointer (some ⟨w.heap.size, 0, none⟩)) true ty).run Tryz.prog wr = _ := fun ty => Lib.run_next_any_at wr w.heap.size s pos ty hit hp
   have hwd := width_pos s pos hp
   have hwl := width_le s pos hp
   obtain ⟨b, rfl⟩ : ∃ f', b = f' + 1 := ⟨b - 1, by omega⟩
   have hit2 := Lib.iterAt_heap wr w.heap.size s pos (pos + (Utf8.decode s pos).2) hit
   have hbw2 := Lib.below_iterAt hbw (k := w.heap.size) (Nat.le_refl _) s (pos + (Utf8.decode s pos).2)
   obtain ⟨W1, hW1⟩ : ∃ W1, W1 = wr.iterAt w.heap.size s (pos + (Utf8.decode s pos).2) := ⟨_, rfl⟩
   rw [← hW1] at hnx hit2 hbw2
   clear hW1 hit hbw
   by_cases hq : lnB (Utf8.decode s pos).1 = true
   · have HN := Lib.hid (leadAt_one hp HS.out hq)
    clear HS
    go_wp2_with (go_at_call 104; refine (isLinePart_any _ _).mono ?_; rintro e w' ⟨rfl, rfl⟩)
    go_roundw
    case rel => exact ⟨_, b, hit2, hbw2, HN.out, by omega⟩
    case measure => rw [iterPos_of hit2, hpos0]; omega
   · simp only [Bool.not_eq_true] at hq
    have HN := Lib.hid (leadAt_stop hp HS.out hq)
    clear HS
    go_wp2_with (go_at_call 104; refine (isLinePart_any _ _).mono ?_; rintro e w' ⟨rfl, rfl⟩)
    go_ret
    exact ⟨str_ext HN.out, hbw2⟩
  · have hnx : ∀ ty, (Instr.next (.pointer (some ⟨w.heap.size, 0, none⟩)) true ty).run Tryz.prog wr = _ := fun ty => Lib.run_next_end_at wr w.heap.size s pos ty hit hp
   have HN := Lib.hid (leadAt_end hp HS.out)
   clear HS
   go_wp2
   go_ret
   exact ⟨str_all HN.out, hbw⟩
end Go.Proofs.YtmpcmpeloebnhaaGreatDoor
namespace Go.Proofs.YtmpcmpeloebnhaaGreatDoor
open Go.RowKit
theorem class_is (r c : Int) (w : World) (h : cls r = c) :
  Calls Tryz.prog 97 #[.int .i32 r] w fun e w' => e = .returned (.int .i64 c) ∧ w = w' := by
 rw [← h]; exact class_any r w

theorem name_k (s : ByteArray) (n : Nat) (K : Int) (w : World) (hT : LTabs w) (hs : s.size ≤ 1000000) (h : (each s).2 = -1) (hn : (each s).1.length = n) (h12 : n ≤ 12) (hK : K = if isWrd s then 3 else 1) :
  Calls Tryz.prog 101 #[.string s] w fun e w' => e = .returned (.tuple #[.agg #[.int .i64 K, .string s, .int .i64 0, .int .i64 0], .bool true]) ∧ Below w.heap.size w w' := by
 rw [hK]; exact name_ok s n w hT hs h hn h12
theorem number_is (s : ByteArray) (v : Value) (b : Bool) (w : World) (hs : s.size ≤ 1000000) (h1 : 1 ≤ s.size) (h : (each s).2 = -1) (hd : ∀ q ∈ (each s).1, dgB q.1 = true) (hN : numOut s = (v, b)) :
  Calls Tryz.prog 103 #[.string s] w fun e w' => e = .returned (.tuple #[v, .bool b]) ∧ Below w.heap.size w w' := by
 refine (number_any s w hs h1 h hd).mono fun e w' h => ?_
 unfold NumPost at h
 rw [hN] at h
 exact h
theorem lead_int (p : Int → Bool) (u : ByteArray) (h : (each u).2 = -1) : ((leadN p u : Nat) : Int) = posOf (u.size : Int) ((each u).1.drop (cnt p (each u).1)) ∧ leadN p u ≤ u.size := by
 have h1 := posOf_ge u u.size 0 (by omega) (cnt p (each u).1)
 have e : eachF u u.size 0 = each u := rfl
 have e2 : endOf u (each u).2 = u.size := by unfold endOf; rw [if_pos h]
 rw [e, e2] at h1
 unfold leadN
 omega
theorem lead_size (p : Int → Bool) (u : ByteArray) (h : (each u).2 = -1) : ((u.extract 0 (leadN p u)).size : Int) = posOf (u.size : Int) ((each u).1.drop (cnt p (each u).1)) := by
 have := lead_int p u h
 rw [ext_size u _ this.2]; exact this.1
theorem lead_min (p : Int → Bool) (u : ByteArray) (h : (each u).2 = -1) : ((min (leadN p u) u.size : Nat) : Int) = posOf (u.size : Int) ((each u).1.drop (cnt p (each u).1)) := by
 have := lead_int p u h
 rw [Nat.min_eq_left this.2]; exact this.1
theorem lead_each (p : Int → Bool) (u : ByteArray) (h : (each u).2 = -1) : each (u.extract 0 (leadN p u)) = ((each u).1.take (cnt p (each u).1), -1) := by
 have h1 := lead_int p u h
 have e2 : endOf u (eachF u u.size 0).2 = u.size := by unfold endOf; exact if_pos h
 have h2 := each_cut u u.size 0 (cnt p (each u).1) (by omega) (cnt_le _ _) (by omega) (leadN p u) (by rw [e2]; exact h1.1)
 rw [each_enough _ _ (by rw [ext_size u _ h1.2]; exact h1.2)] at h2
 exact h2
set_option maxHeartbeats 1000000 in
theorem first_sp (u : ByteArray) (r : Int) (w : World) (h : (each u).2 = -1) (h3 : cls r = 3) (hst : stepL u u.size (each u).1 = some (none, cnt spB (each u).1)) :
  Calls Tryz.prog 58 #[.string u, .int .i32 r] w (FirstPost u w) := by
 have HE := Lib.hid h
 have H3 := Lib.hid h3
 have HS := Lib.hid hst
 have HL := Lib.hid (lead_min spB u h)
 clear h h3 hst
 go_enter Tryz.func58, Tryz.ntmps58
 go_wp2_with fail
 refine (class_is _ _ _ H3.out).mono ?_
 rintro e w' ⟨rfl, rfl⟩
 go_wp2_with fail
 refine (lead_sp _ _ HE.out).mono ?_
 rintro e w1 ⟨rfl, hb⟩
 obtain ⟨hc, hf⟩ := bcell hb
 have hz : w.heap.size < w1.heap.size := by have := hb.size; simp at this; omega
 have hb0 : Below w.heap.size w w1 := ((Below.refl _ _).alloc (Nat.le_refl _) _).trans (hb.mono (by simp))
 go_wp2
 exact bodyPost_ret (v := .tuple #[.agg #[.int .i64 0, .string ⟨#[]⟩, .int .i64 0, .int .i64 0], .int .i64 _, .bool true]) (by simp [results, Tryz.results58, go_sem, hc]) rfl
  ⟨.yes (v := .agg #[.int .i64 0, .string ⟨#[]⟩, .int .i64 0, .int .i64 0]) HS.out rfl HL.out, ((((hb0.setCell (by simp) _).setCell (by simp) _).setCell (by simp) _).setCell (by simp) _)⟩
set_option maxHeartbeats 1000000 in
theorem first_cm (u : ByteArray) (r : Int) (w : World) (h : (each u).2 = -1) (hr : r = 35) (hst : stepL u u.size (each u).1 = some (none, cnt lnB (each u).1)) :
  Calls Tryz.prog 58 #[.string u, .int .i32 r] w (FirstPost u w) := by
 have HE := Lib.hid h
 have H3 := Lib.hid (show cls r = 4 by rw [hr]; exact cls35)
 have HS := Lib.hid hst
 have HL := Lib.hid (lead_min lnB u h)
 have hr1 : (r == 35) = true := by rw [beq_iff_eq]; exact hr
 clear h hst hr
 go_enter Tryz.func58, Tryz.ntmps58
 go_wp2_with fail
 refine (class_is _ _ _ H3.out).mono ?_
 rintro e w' ⟨rfl, rfl⟩
 go_wp2_with fail
 refine (lead_ln _ _ HE.out).mono ?_
 rintro e w1 ⟨rfl, hb⟩
 obtain ⟨hc, hf⟩ := bcell hb
 have hz : w.heap.size < w1.heap.size := by have := hb.size; simp at this; omega
 have hb0 : Below w.heap.size w w1 := ((Below.refl _ _).alloc (Nat.le_refl _) _).trans (hb.mono (by simp))
 go_wp2
 exact bodyPost_ret (v := .tuple #[.agg #[.int .i64 0, .string ⟨#[]⟩, .int .i64 0, .int .i64 0], .int .i64 _, .bool true]) (by simp [results, Tryz.results58, go_sem, hc]) rfl
  ⟨.yes (v := .agg #[.int .i64 0, .string ⟨#[]⟩, .int .i64 0, .int .i64 0]) HS.out rfl HL.out, ((((hb0.setCell (by simp) _).setCell (by simp) _).setCell (by simp) _).setCell (by simp) _)⟩
set_option maxHeartbeats 1000000 in
theorem first_other (u : ByteArray) (r : Int) (w : World) (h3 : cls r = 0) (hst : stepL u u.size (each u).1 = none) :
  Calls Tryz.prog 58 #[.string u, .int .i32 r] w (FirstPost u w) := by
 have H3 := Lib.hid h3
 have HS := Lib.hid hst
 clear h3 hst
 go_enter Tryz.func58, Tryz.ntmps58
 go_wp2_with fail
 refine (class_is _ _ _ H3.out).mono ?_
 rintro e w' ⟨rfl, rfl⟩
 go_wp2
 exact bodyPost_ret (v := .tuple #[.agg #[.int .i64 0, .string ⟨#[]⟩, .int .i64 0, .int .i64 0], .int .i64 0, .bool false]) (by simp [results, Tryz.results58, go_sem]) rfl
  ⟨.no HS.out, (Below.refl _ _).alloc (Nat.le_refl _) _⟩
set_option maxHeartbeats 1000000 in
theorem first_sig (u : ByteArray) (r : Int) (w : World) (hT : LTabs w) (h : (each u).2 = -1) (h3 : cls r = 4) (hr : ¬ r = 35) (x : ByteArray) (hx : signOf u = x) (hx0 : ¬ x.toList = []) (hst : stepL u u.size (each u).1 = some (some ⟨3, x, 0, 0⟩, x.size)) (hl : (x.size : Int) = posOf u.size ((each u).1.drop x.size)) :
  Calls Tryz.prog 58 #[.string u, .int .i32 r] w (FirstPost u w) := by
 have HE := Lib.hid h
 have H3 := Lib.hid h3
 have HS := Lib.hid hst
 have HL := Lib.hid hl
 have HX := Lib.hid hx
 have hr1 : (r == 35) = false := by rw [beq_eq_false_iff_ne]; exact hr
 have hT1 : LTabs (w.alloc (.cells #[.int .i64 0, .string ⟨#[]⟩, .int .i64 0, .int .i64 0] 70)) := hT.below ((Below.refl _ _).alloc (Nat.le_refl _) _)
 clear h h3 hst hr hx hl
 go_enter Tryz.func58, Tryz.ntmps58
 go_wp2_with fail
 refine (class_is _ _ _ H3.out).mono ?_
 rintro e w' ⟨rfl, rfl⟩
 go_wp2_with fail
 refine (sign_any _ _ hT1 HE.out).mono ?_
 rintro e w1 ⟨rfl, rfl⟩
 rw [HX.out]
 go_wp2
 exact bodyPost_ret (v := .tuple #[.agg #[.int .i64 3, .string x, .int .i64 0, .int .i64 0], .int .i64 x.size, .bool true]) (by simp [results, Tryz.results58, go_sem, hx0]) rfl
  ⟨.yes (v := .agg #[.int .i64 3, .string x, .int .i64 0, .int .i64 0]) HS.out rfl HL.out, (Below.refl _ _).alloc (Nat.le_refl _) _⟩
set_option maxHeartbeats 1000000 in
theorem first_nosig (u : ByteArray) (r : Int) (w : World) (hT : LTabs w) (h : (each u).2 = -1) (h3 : cls r = 4) (hr : ¬ r = 35) (hx : signOf u = ⟨#[]⟩) (hst : stepL u u.size (each u).1 = none) :
  Calls Tryz.prog 58 #[.string u, .int .i32 r] w (FirstPost u w) := by
 have HE := Lib.hid h
 have H3 := Lib.hid h3
 have HS := Lib.hid hst
 have HX := Lib.hid hx
 have hr1 : (r == 35) = false := by rw [beq_eq_false_iff_ne]; exact hr
 have hT1 : LTabs (w.alloc (.cells #[.int .i64 0, .string ⟨#[]⟩, .int .i64 0, .int .i64 0] 70)) := hT.below ((Below.refl _ _).alloc (Nat.le_refl _) _)
 clear h h3 hst hr hx
 go_enter Tryz.func58, Tryz.ntmps58
 go_wp2_with fail
 refine (class_is _ _ _ H3.out).mono ?_
 rintro e w' ⟨rfl, rfl⟩
 go_wp2_with fail
 refine (sign_any _ _ hT1 HE.out).mono ?_
 rintro e w1 ⟨rfl, rfl⟩
 rw [HX.out]
 go_wp2
 exact bodyPost_ret (v := .tuple #[.agg #[.int .i64 3, .string ⟨#[]⟩, .int .i64 0, .int .i64 0], .int .i64 0, .bool false]) (by simp [results, Tryz.results58, go_sem]) rfl
  ⟨.no HS.out, (Below.refl _ _).alloc (Nat.le_refl _) _⟩
set_option maxHeartbeats 1000000 in
theorem first_nameok (u : ByteArray) (r : Int) (w : World) (hT : LTabs w) (h : (each u).2 = -1) (hsz : u.size ≤ 1000000) (h3 : cls r = 1) (h12 : cnt nmB (each u).1 ≤ 12) (K : Int) (hK : K = if isWrd (u.extract 0 (leadN nmB u)) then 3 else 1) (hst : stepL u u.size (each u).1 = some (some ⟨K, u.extract 0 (leadN nmB u), 0, 0⟩, cnt nmB (each u).1)) :
  Calls Tryz.prog 58 #[.string u, .int .i32 r] w (FirstPost u w) := by
 have HE := Lib.hid h
 have H3 := Lib.hid h3
 have HS := Lib.hid hst
 have HL := Lib.hid (lead_size nmB u h)
 have HC := Lib.hid (lead_each nmB u h)
 have hxs : (u.extract 0 (leadN nmB u)).size ≤ 1000000 := by rw [ext_size u _ (lead_int nmB u h).2]; have := (lead_int nmB u h).2; omega
 have HN := Lib.hid (show (each (u.extract 0 (leadN nmB u))).1.length = cnt nmB (each u).1 by rw [HC.out]; exact List.length_take_of_le (cnt_le _ _))
 obtain ⟨x, hx⟩ : ∃ x, x = u.extract 0 (leadN nmB u) := ⟨_, rfl⟩
 rw [← hx] at hst hK
 have HS := Lib.hid hst
 have HK := Lib.hid hK
 clear hK
 have HX := Lib.hid hx
 rw [← hx] at hxs
 clear h h3 hst hx
 go_enter Tryz.func58, Tryz.ntmps58
 go_wp2_with fail
 refine (class_is _ _ _ H3.out).mono ?_
 rintro e w' ⟨rfl, rfl⟩
 go_wp2_with fail
 refine (lead_nm _ _ HE.out).mono ?_
 rintro e w1 ⟨rfl, hb⟩
 obtain ⟨hc, hf⟩ := bcell hb
 have hz : w.heap.size < w1.heap.size := by have := hb.size; simp at this; omega
 have hb0 : Below w.heap.size w w1 := ((Below.refl _ _).alloc (Nat.le_refl _) _).trans (hb.mono (by simp))
 have hT1 := hT.below hb0
 rw [← HX.out]
 go_wp2_with fail
 refine (name_k _ _ K _ hT1 hxs (by rw [HX.out, HC.out]) (by rw [HX.out]; exact HN.out) h12 HK.out).mono ?_
 rintro e w2 ⟨rfl, hb2⟩
 have hB := (((blk4_new w (.int .i64 0) (.string ⟨#[]⟩) (.int .i64 0) (.int .i64 0)).below hb)).below hb2
 obtain ⟨⟨k0, k1, k2, k3⟩, f0, f1, f2, f3⟩ := blk4 hB
 have hz2 : w.heap.size < w2.heap.size := by have := hb2.size; omega
 have hb1 : Below w.heap.size w w2 := hb0.trans (hb2.mono (by omega))
 go_wp2
 exact bodyPost_ret (v := .tuple #[.agg #[.int .i64 K, .string x, .int .i64 0, .int .i64 0], .int .i64 x.size, .bool true]) (by have hB9 := (hB.set (.int .i64 K) (.string x) (.int .i64 0) (.int .i64 0)).set (.int .i64 K) (.string x) (.int .i64 0) (.int .i64 0); obtain ⟨⟨j0, j1, j2, j3⟩, g0, g1, g2, g3⟩ := blk4 hB9; simp [results, Tryz.results58, go_sem, j0, j1, j2, j3]) rfl
  ⟨.yes (v := .agg #[.int .i64 K, .string x, .int .i64 0, .int .i64 0]) HS.out rfl (by rw [HX.out]; exact HL.out), ((((((((hb1.setCell (by simp) _).setCell (by simp) _).setCell (by simp) _).setCell (by simp) _).setCell (by simp) _).setCell (by simp) _).setCell (by simp) _).setCell (by simp) _)⟩
set_option maxHeartbeats 1000000 in
theorem first_namebig (u : ByteArray) (r : Int) (w : World) (hT : LTabs w) (h : (each u).2 = -1) (hsz : u.size ≤ 1000000) (h3 : cls r = 1) (h12 : 12 < cnt nmB (each u).1) (hst : stepL u u.size (each u).1 = none) :
  Calls Tryz.prog 58 #[.string u, .int .i32 r] w (FirstPost u w) := by
 have HE := Lib.hid h
 have H3 := Lib.hid h3
 have HS := Lib.hid hst
 have HL := Lib.hid (lead_size nmB u h)
 have HC := Lib.hid (lead_each nmB u h)
 have hxs : (u.extract 0 (leadN nmB u)).size ≤ 1000000 := by rw [ext_size u _ (lead_int nmB u h).2]; have := (lead_int nmB u h).2; omega
 have HN := Lib.hid (show (each (u.extract 0 (leadN nmB u))).1.length = cnt nmB (each u).1 by rw [HC.out]; exact List.length_take_of_le (cnt_le _ _))
 obtain ⟨x, hx⟩ : ∃ x, x = u.extract 0 (leadN nmB u) := ⟨_, rfl⟩
 have HX := Lib.hid hx
 rw [← hx] at hxs
 clear h h3 hst hx
 go_enter Tryz.func58, Tryz.ntmps58
 go_wp2_with fail
 refine (class_is _ _ _ H3.out).mono ?_
 rintro e w' ⟨rfl, rfl⟩
 go_wp2_with fail
 refine (lead_nm _ _ HE.out).mono ?_
 rintro e w1 ⟨rfl, hb⟩
 obtain ⟨hc, hf⟩ := bcell hb
 have hz : w.heap.size < w1.heap.size := by have := hb.size; simp at this; omega
 have hb0 : Below w.heap.size w w1 := ((Below.refl _ _).alloc (Nat.le_refl _) _).trans (hb.mono (by simp))
 have hT1 := hT.below hb0
 rw [← HX.out]
 go_wp2_with fail
 refine (name_big _ _ _ hxs (by rw [HX.out, HC.out]) (by rw [HX.out]; exact HN.out) h12).mono ?_
 rintro e w2 ⟨rfl, hb2⟩
 have hB := (((blk4_new w (.int .i64 0) (.string ⟨#[]⟩) (.int .i64 0) (.int .i64 0)).below hb)).below hb2
 obtain ⟨⟨k0, k1, k2, k3⟩, f0, f1, f2, f3⟩ := blk4 hB
 have hz2 : w.heap.size < w2.heap.size := by have := hb2.size; omega
 have hb1 : Below w.heap.size w w2 := hb0.trans (hb2.mono (by omega))
 go_wp2
 exact bodyPost_ret (v := .tuple #[.agg #[.int .i64 0, .string ⟨#[]⟩, .int .i64 0, .int .i64 0], .int .i64 x.size, .bool false]) (by have hB9 := (hB.set (.int .i64 0) (.string ⟨#[]⟩) (.int .i64 0) (.int .i64 0)).set (.int .i64 0) (.string ⟨#[]⟩) (.int .i64 0) (.int .i64 0); obtain ⟨⟨j0, j1, j2, j3⟩, g0, g1, g2, g3⟩ := blk4 hB9; simp [results, Tryz.results58, go_sem, j0, j1, j2, j3]) rfl
  ⟨.no HS.out, ((((((((hb1.setCell (by simp) _).setCell (by simp) _).setCell (by simp) _).setCell (by simp) _).setCell (by simp) _).setCell (by simp) _).setCell (by simp) _).setCell (by simp) _)⟩
set_option maxHeartbeats 1000000 in
theorem first_numok (u : ByteArray) (r : Int) (w : World) (hT : LTabs w) (h : (each u).2 = -1) (hsz : u.size ≤ 1000000) (h3 : cls r = 2) (h1 : 1 ≤ (u.extract 0 (leadN dgB u)).size) (N : Int) (hN : numOut (u.extract 0 (leadN dgB u)) = (.agg #[.int .i64 2, .string ⟨#[]⟩, .int .i64 N, .int .i64 0], true)) (hst : stepL u u.size (each u).1 = some (some ⟨2, ⟨#[]⟩, N, 0⟩, cnt dgB (each u).1)) :
  Calls Tryz.prog 58 #[.string u, .int .i32 r] w (FirstPost u w) := by
 have HE := Lib.hid h
 have H3 := Lib.hid h3
 have HS := Lib.hid hst
 have HL := Lib.hid (lead_size dgB u h)
 have HC := Lib.hid (lead_each dgB u h)
 have hxs : (u.extract 0 (leadN dgB u)).size ≤ 1000000 := by rw [ext_size u _ (lead_int dgB u h).2]; have := (lead_int dgB u h).2; omega
 have HN := Lib.hid (show (each (u.extract 0 (leadN dgB u))).1.length = cnt dgB (each u).1 by rw [HC.out]; exact List.length_take_of_le (cnt_le _ _))
 obtain ⟨x, hx⟩ : ∃ x, x = u.extract 0 (leadN dgB u) := ⟨_, rfl⟩
 rw [← hx] at hN h1
 have HK := Lib.hid hN
 clear hN
 have HX := Lib.hid hx
 rw [← hx] at hxs
 clear h h3 hst hx
 go_enter Tryz.func58, Tryz.ntmps58
 go_wp2_with fail
 refine (class_is _ _ _ H3.out).mono ?_
 rintro e w' ⟨rfl, rfl⟩
 go_wp2_with fail
 refine (lead_dg _ _ HE.out).mono ?_
 rintro e w1 ⟨rfl, hb⟩
 obtain ⟨hc, hf⟩ := bcell hb
 have hz : w.heap.size < w1.heap.size := by have := hb.size; simp at this; omega
 have hb0 : Below w.heap.size w w1 := ((Below.refl _ _).alloc (Nat.le_refl _) _).trans (hb.mono (by simp))
 have hT1 := hT.below hb0
 rw [← HX.out]
 go_wp2_with fail
 refine (number_is _ _ _ _ hxs h1 (by rw [HX.out, HC.out]) (by rw [HX.out, HC.out]; exact cnt_all dgB _) HK.out).mono ?_
 rintro e w2 ⟨rfl, hb2⟩
 have hB := (((blk4_new w (.int .i64 0) (.string ⟨#[]⟩) (.int .i64 0) (.int .i64 0)).below hb)).below hb2
 obtain ⟨⟨k0, k1, k2, k3⟩, f0, f1, f2, f3⟩ := blk4 hB
 have hz2 : w.heap.size < w2.heap.size := by have := hb2.size; omega
 have hb1 : Below w.heap.size w w2 := hb0.trans (hb2.mono (by omega))
 go_wp2
 exact bodyPost_ret (v := .tuple #[.agg #[.int .i64 2, .string ⟨#[]⟩, .int .i64 N, .int .i64 0], .int .i64 x.size, .bool true]) (by have hB9 := (hB.set (.int .i64 2) (.string ⟨#[]⟩) (.int .i64 N) (.int .i64 0)).set (.int .i64 2) (.string ⟨#[]⟩) (.int .i64 N) (.int .i64 0); obtain ⟨⟨j0, j1, j2, j3⟩, g0, g1, g2, g3⟩ := blk4 hB9; simp [results, Tryz.results58, go_sem, j0, j1, j2, j3]) rfl
  ⟨.yes (v := .agg #[.int .i64 2, .string ⟨#[]⟩, .int .i64 N, .int .i64 0]) HS.out rfl (by rw [HX.out]; exact HL.out), ((((((((hb1.setCell (by simp) _).setCell (by simp) _).setCell (by simp) _).setCell (by simp) _).setCell (by simp) _).setCell (by simp) _).setCell (by simp) _).setCell (by simp) _)⟩
set_option maxHeartbeats 1000000 in
theorem first_numno (u : ByteArray) (r : Int) (w : World) (hT : LTabs w) (h : (each u).2 = -1) (hsz : u.size ≤ 1000000) (h3 : cls r = 2) (h1 : 1 ≤ (u.extract 0 (leadN dgB u)).size) (hN : numOut (u.extract 0 (leadN dgB u)) = (.agg #[.int .i64 0, .string ⟨#[]⟩, .int .i64 0, .int .i64 0], false)) (hst : stepL u u.size (each u).1 = none) :
  Calls Tryz.prog 58 #[.string u, .int .i32 r] w (FirstPost u w) := by
 have HE := Lib.hid h
 have H3 := Lib.hid h3
 have HS := Lib.hid hst
 have HL := Lib.hid (lead_size dgB u h)
 have HC := Lib.hid (lead_each dgB u h)
 have hxs : (u.extract 0 (leadN dgB u)).size ≤ 1000000 := by rw [ext_size u _ (lead_int dgB u h).2]; have := (lead_int dgB u h).2; omega
 have HN := Lib.hid (show (each (u.extract 0 (leadN dgB u))).1.length = cnt dgB (each u).1 by rw [HC.out]; exact List.length_take_of_le (cnt_le _ _))
 obtain ⟨x, hx⟩ : ∃ x, x = u.extract 0 (leadN dgB u) := ⟨_, rfl⟩
 rw [← hx] at hN h1
 have HK := Lib.hid hN
 clear hN
 have HX := Lib.hid hx
 rw [← hx] at hxs
 clear h h3 hst hx
 go_enter Tryz.func58, Tryz.ntmps58
 go_wp2_with fail
 refine (class_is _ _ _ H3.out).mono ?_
 rintro e w' ⟨rfl, rfl⟩
 go_wp2_with fail
 refine (lead_dg _ _ HE.out).mono ?_
 rintro e w1 ⟨rfl, hb⟩
 obtain ⟨hc, hf⟩ := bcell hb
 have hz : w.heap.size < w1.heap.size := by have := hb.size; simp at this; omega
 have hb0 : Below w.heap.size w w1 := ((Below.refl _ _).alloc (Nat.le_refl _) _).trans (hb.mono (by simp))
 have hT1 := hT.below hb0
 rw [← HX.out]
 go_wp2_with fail
 refine (number_is _ _ _ _ hxs h1 (by rw [HX.out, HC.out]) (by rw [HX.out, HC.out]; exact cnt_all dgB _) HK.out).mono ?_
 rintro e w2 ⟨rfl, hb2⟩
 have hB := (((blk4_new w (.int .i64 0) (.string ⟨#[]⟩) (.int .i64 0) (.int .i64 0)).below hb)).below hb2
 obtain ⟨⟨k0, k1, k2, k3⟩, f0, f1, f2, f3⟩ := blk4 hB
 have hz2 : w.heap.size < w2.heap.size := by have := hb2.size; omega
 have hb1 : Below w.heap.size w w2 := hb0.trans (hb2.mono (by omega))
 go_wp2
 exact bodyPost_ret (v := .tuple #[.agg #[.int .i64 0, .string ⟨#[]⟩, .int .i64 0, .int .i64 0], .int .i64 x.size, .bool false]) (by have hB9 := (hB.set (.int .i64 0) (.string ⟨#[]⟩) (.int .i64 0) (.int .i64 0)).set (.int .i64 0) (.string ⟨#[]⟩) (.int .i64 0) (.int .i64 0); obtain ⟨⟨j0, j1, j2, j3⟩, g0, g1, g2, g3⟩ := blk4 hB9; simp [results, Tryz.results58, go_sem, j0, j1, j2, j3]) rfl
  ⟨.no HS.out, ((((((((hb1.setCell (by simp) _).setCell (by simp) _).setCell (by simp) _).setCell (by simp) _).setCell (by simp) _).setCell (by simp) _).setCell (by simp) _).setCell (by simp) _)⟩
theorem num_facts (u : ByteArray) (q : Int × Int) (M : RL) (hL : (each u).1 = q :: M) (h : (each u).2 = -1) (h2 : cls q.1 = 2) :
  1 ≤ (u.extract 0 (leadN dgB u)).size ∧ numOut (u.extract 0 (leadN dgB u)) = if numV 0 (q :: M) ≤ 99 ∧ ¬ (q.1 = 48 ∧ 1 < cnt dgB (q :: M)) then (.agg #[.int .i64 2, .string ⟨#[]⟩, .int .i64 (numV 0 (q :: M)), .int .i64 0], true) else (.agg #[.int .i64 0, .string ⟨#[]⟩, .int .i64 0, .int .i64 0], false) := by
 have hx := lead_each dgB u h
 have hh := head_at hL
 have hq : dgB q.1 = true := by unfold dgB; rw [h2]; rfl
 have hqr := (dgB_iff _).1 hq
 rw [hL] at hx
 have hsz : (u.extract 0 (leadN dgB u)).size = cnt dgB (q :: M) := by
  have h3 := digits_len (u.extract 0 (leadN dgB u)) (u.extract 0 (leadN dgB u)).size 0 (by omega) (by omega) (by have e : eachF (u.extract 0 (leadN dgB u)) (u.extract 0 (leadN dgB u)).size 0 = each (u.extract 0 (leadN dgB u)) := rfl; rw [e, hx]) (by
   have e : eachF (u.extract 0 (leadN dgB u)) (u.extract 0 (leadN dgB u)).size 0 = each (u.extract 0 (leadN dgB u)) := rfl
   rw [e, hx]; exact cnt_all dgB _)
  have e : eachF (u.extract 0 (leadN dgB u)) (u.extract 0 (leadN dgB u)).size 0 = each (u.extract 0 (leadN dgB u)) := rfl
  rw [e, hx] at h3
  simp only [] at h3
  rw [List.length_take_of_le (cnt_le _ _)] at h3
  omega
 have hc := cnt_pos (L := M) hq
 refine ⟨by omega, ?_⟩
 have hli := lead_int dgB u h
 have hl1 : 1 ≤ leadN dgB u := by rw [ext_size u _ hli.2] at hsz; omega
 have h0 := ascii_one u 0 (by have := hh.2.2; omega)
 have hg : (u.extract 0 (leadN dgB u)).get! 0 = 48 ↔ q.1 = 48 := by
  rw [ext_get! u _ 0 (by omega), hh.2.2]
  constructor
  · intro e; have : (u.get! 0).toNat = 48 := by rw [e]; rfl
   omega
  · intro e; exact UInt8.toNat_inj.1 (show (u.get! 0).toNat = 48 by omega)
 have hn : numV 0 (each (u.extract 0 (leadN dgB u))).1 = numV 0 (q :: M) := by rw [hx]; exact num_take _ 0
 unfold numOut
 rw [hn, hsz]
 simp only [hg]

theorem first_any (u : ByteArray) (q : Int × Int) (M : RL) (w : World) (hT : LTabs w) (hsz : u.size ≤ 1000000) (hL : (each u).1 = q :: M) (h : (each u).2 = -1) :
  Calls Tryz.prog 58 #[.string u, .int .i32 q.1] w (FirstPost u w) := by
 have hh := head_at hL
 have hcr := cls_range q.1
 have hlead : ∀ p, leadN p u = (posOf (u.size : Int) ((q :: M).drop (cnt p (q :: M)))).toNat := by intro p; unfold leadN; rw [hL]
 by_cases h3 : cls q.1 = 3
 · exact first_sp u q.1 w h h3 (by rw [hL, stepL, if_pos h3])
 · by_cases h35 : q.1 = 35
  · exact first_cm u q.1 w h h35 (by rw [hL, stepL, if_neg h3, if_pos h35])
  · have hst : stepL u u.size (each u).1 = (tokL u u.size (q :: M)).map fun p => (some p.1, p.2) := by rw [hL, stepL, if_neg h3, if_neg h35]
   by_cases h1 : cls q.1 = 1
   · by_cases h12 : cnt nmB (q :: M) ≤ 12
    · refine first_nameok u q.1 w hT h hsz h1 (by rw [hL]; exact h12) _ rfl ?_
     rw [hst, tokL, if_pos h1, if_pos h12, hlead, hh.1, hL]
     rfl
    · refine first_namebig u q.1 w hT h hsz h1 (by rw [hL]; omega) ?_
     rw [hst, tokL, if_pos h1, if_neg h12]
     rfl
   · by_cases h2 : cls q.1 = 2
    · have hn := num_facts u q M hL h h2
     by_cases ho : numV 0 (q :: M) ≤ 99 ∧ ¬ (q.1 = 48 ∧ 1 < cnt dgB (q :: M))
     · rw [if_pos ho] at hn
      refine first_numok u q.1 w hT h hsz h2 hn.1 _ hn.2 ?_
      rw [hst, tokL, if_neg h1, if_pos h2, if_pos ho, hh.1, hL]
      rfl
     · rw [if_neg ho] at hn
      refine first_numno u q.1 w hT h hsz h2 hn.1 hn.2 ?_
      rw [hst, tokL, if_neg h1, if_pos h2, if_neg ho]
      rfl
    · have htk : tokL u u.size (q :: M) = match sigL (q :: M) with
      | some x => some (⟨3, x, 0, q.2⟩, x.size)
      | none => none := by
      rw [tokL, if_neg h1, if_neg h2]
      cases sigL (q :: M) <;> rfl
     by_cases h4 : cls q.1 = 4
     · rcases hs : sigL (q :: M) with _ | x
      · refine first_nosig u q.1 w hT h h4 h35 (by unfold signOf; rw [hL, hs]; rfl) ?_
       rw [hst, htk, hs]
       rfl
      · have hx := sigF_some _ _ _ hs
       have hxs := sigs_size x hx.1
       refine first_sig u q.1 w hT h h4 h35 x (by unfold signOf; rw [hL, hs]; rfl) ?_ ?_ ?_
       · intro e
        rw [Lib.toList_data] at e
        rw [Lib.size_eq, e] at hxs
        simp at hxs
       · rw [hst, htk, hs, hh.1]
        rfl
       · have hr : rpre x.data.toList (eachF u u.size 0).1 = true := by
         have e : eachF u u.size 0 = each u := rfl
         rw [e, hL]; exact hx.2
        have := sig_end u x.data.toList (sigs_ascii x hx.1) u.size 0 (by omega) (by omega) h hr
        rw [Lib.size_eq x]
        have e : eachF u u.size 0 = each u := rfl
        rw [e] at this
        rw [this]
        omega
     · have h0 : cls q.1 = 0 := by omega
      refine first_other u q.1 w h0 ?_
      rw [hst, htk, sig_none q M h0]
      rfl
set_option maxHeartbeats 1000000 in
theorem sound_any (s : ByteArray) (w : World) (hs : s.size ≤ 1000000) :
  Calls Tryz.prog 57 #[.string s] w fun e w' => e = .returned (.string (sndP s)) ∧ Below w.heap.size w w' := by
 rcases bad_range s with h | ⟨h0, h1⟩
 · have HA := Lib.hid (snd_all s h)
  go_enter Tryz.func57, Tryz.ntmps57
  go_wp2_with fail
  refine (each_any _ _ hs).mono ?_
  rintro e w1 ⟨v, rfl, hown, hb⟩
  rw [h]
  clear hown h
  go_wp2
  go_ret
  exact ⟨str_all HA.out.symm, hb⟩
 · have HA := Lib.hid (snd_bad s (by omega))
  go_enter Tryz.func57, Tryz.ntmps57
  go_wp2_with fail
  refine (each_any _ _ hs).mono ?_
  rintro e w1 ⟨v, rfl, hown, hb⟩
  clear hown
  obtain ⟨bad, hbd⟩ : ∃ bad : Nat, (each s).2 = bad := ⟨(each s).2.toNat, by omega⟩
  have HB := Lib.hid hbd
  rw [hbd] at h0 h1 ⊢
  have hle : bad ≤ s.size := by omega
  clear hbd
  go_wp2
  go_ret
  exact ⟨str_all (by rw [HA.out, HB.out]; rfl), hb⟩
set_option maxRecDepth 1000000 in
set_option maxHeartbeats 4000000 in
theorem tokens_any (s : ByteArray) (w : World) (hT : LTabs w) (hs : s.size ≤ 1000000) :
  Calls Tryz.prog 23 #[.string s] w (TokensPost s w) := by
 by_cases h2000 : s.size ≤ 2000
 · obtain ⟨i0, hi, hz0, hz1, hz2⟩ := info_parts Tryz.infoTok
  have HX := Lib.hid (lexT_snd s)
  have HE := Lib.hid (snd_each s)
  have HZ := Lib.hid (snd_size s)
  go_enter Tryz.func23, Tryz.ntmps23
  go_wp2_with fail
  refine (sound_any _ _ hs).mono ?_
  rintro e w1 ⟨rfl, hb1⟩
  have hsz1 := hb1.size
  obtain ⟨t, ht⟩ : ∃ t, t = sndP s := ⟨_, rfl⟩
  have HTS := Lib.hid ht
  rw [← ht]
  have hts : t.size ≤ s.size := by rw [ht, snd_size]; exact (snd_end s).2
  have HA := Lib.hid (lexAt_start t (by rw [ht, snd_each]))
  clear ht
  go_wp2
  go_loopw [2, 6] (fun v bv wr => ∃ (pos b : Nat) (acc : List Tok) (bh : Int), bv = .int .i64 bh ∧ 0 ≤ bh ∧ bh ≤ t.size ∧ wr.heap[w1.heap.size]? = some (.stringIter t pos) ∧ wr.ownsRow (w1.heap.size + 1) 70 4 v acc.length (flatT acc) ∧ Below w1.heap.size w1 wr ∧ Hid (lexAt t b pos acc bh) ∧ t.size ≤ pos + b ∧ acc.length ≤ pos ∧ pos ≤ t.size) (fun _ _ wr => t.size - wr.iterPos w1.heap.size)
  case atStart => exact ⟨0, t.size, [], 0, rfl, by omega, by omega, World.iter_heap w1 t 0, World.ownsRow_nil _ _ _ _, (Below.refl _ _).alloc (Nat.le_refl _) _, HA.out, by omega, by simp, by omega⟩
  case round =>
   obtain ⟨pos, b, acc, bh, rfl, hbh0, hbh1, hit, hown, hbw, HS, hb, hlen, hpt⟩ := hrel
   have hpos0 := iterPos_of hit
   clear HA
   by_cases hp : pos < t.size
   · have hnx : ∀ ty, (Instr.next (.pointer (some ⟨w1.heap.size, 0, none⟩)) true ty).run Tryz.prog wr = _ := fun ty => Lib.run_next_any_at wr w1.heap.size t pos ty hit hp
    have hwd := width_pos t pos hp
    have hwl := width_le t pos hp
    obtain ⟨b, rfl⟩ : ∃ f', b = f' + 1 := ⟨b - 1, by omega⟩
    have hit2 := Lib.iterAt_heap wr w1.heap.size t pos (pos + (Utf8.decode t pos).2) hit
    have hbw2 := Lib.below_iterAt hbw (k := w1.heap.size) (Nat.le_refl _) t (pos + (Utf8.decode t pos).2)
    have hown2 := ownsRow_iterAt hown (k := w1.heap.size) (by omega) t (pos + (Utf8.decode t pos).2)
    obtain ⟨W1, hW1⟩ : ∃ W1, W1 = wr.iterAt w1.heap.size t (pos + (Utf8.decode t pos).2) := ⟨_, rfl⟩
    rw [← hW1] at hnx hit2 hbw2 hown2
    have hBlt := lt_of_block hit2
    have hTr := hT.below (hb1.trans (hbw2.mono hsz1))
    clear hW1 hit hbw hown
    by_cases hlt : (pos : Int) < bh
    · have HN := Lib.hid (lexAt_pass HS.out hp hlt)
     clear HS
     go_wp2
     go_roundw
     case rel => exact ⟨_, b, acc, bh, rfl, hbh0, hbh1, hit2, hown2, hbw2, HN.out, by omega, by omega, by omega⟩
     case measure => rw [iterPos_of hit2, hpos0]; omega
    · have hrs := rest_step HS.out hp hb
     obtain ⟨hu2, ⟨M, hL⟩, hstep, hpos⟩ := hrs
     obtain ⟨u, hu⟩ : ∃ u, u = t.extract pos t.size := ⟨_, rfl⟩
     have husz : u.size = t.size - pos := by rw [hu]; exact Lib.tail_size t pos
     have HU := Lib.hid hu
     rw [← hu] at hu2 hL hstep hpos
     clear hu
     have HL := Lib.hid hL
     have HU2 := Lib.hid hu2
     have HSt := Lib.hid hstep
     have HPo := Lib.hid hpos
     clear hL hu2 hstep hpos
     go_wp2_with fail
     rw [← HU.out]
     refine (first_any u (((Utf8.decode t pos).1 : Int), 0) M _ hTr (by omega) HL.out HU2.out).mono ?_
     rintro e w2 ⟨hout, hb2⟩
     unfold FirstOut at hout
     have hit3 : w2.heap[w1.heap.size]? = some (.stringIter t (pos + (Utf8.decode t pos).2)) := by rw [hb2.block _ hBlt]; exact hit2
     have hown3 := own_below hown2 hb2
     have hbw3 : Below w1.heap.size w1 w2 := hbw2.trans (hb2.mono hbw2.size)
     have hsz2 := hb2.size
     clear hit2 hown2 hbw2
     rcases hst : stepL u u.size (each u).1 with _ | ⟨x, k⟩
     · rw [hst] at hout
      obtain ⟨a, b', c, d, n, rfl⟩ := hout
      have hno : stepL t t.size (eachF t (b + 1) pos).1 = none := by rw [HSt.out, hst]; rfl
      have HO := Lib.hid (toks_fault h2000 (show (lexT s).2 = some (pos : Int) by rw [HX.out, ← HTS.out]; exact lexAt_none HS.out hp (by omega) hno))
      clear HS hst hno
      go_wp2
      go_ret3
      exact TokensPost.err HO.out (hb1.trans ((hbw3.mono hsz1).trans ((Below.refl _ _).alloc (by omega) _)))
     · rw [hst] at hout
      simp only [] at hout
      have hy : stepL t t.size (eachF t (b + 1) pos).1 = some (x.map (Tok.sh pos), k) := by rw [HSt.out, hst]; rfl
      have hge := posOf_ge t (b + 1) pos (by omega) k
      have hen : endOf t (eachF t (b + 1) pos).2 = t.size := by unfold endOf; exact if_pos HS.out.1
      rw [hen, HPo.out k] at hge
      have HN := Lib.hid (lexAt_some HS.out hp (by omega) hy)
      have hpk := HPo.out k
      obtain ⟨n, hn⟩ : ∃ n, n = posOf (u.size : Int) ((each u).1.drop k) := ⟨_, rfl⟩
      rw [← hn] at hout hge hpk
      have HPK := Lib.hid hpk
      clear hen HPo hy hn hpk HSt HS
      rcases x with _ | ⟨kd, tx, nn, po⟩
      · obtain rfl := hout
       clear hst
       unfold tokV
       go_wp2
       go_roundw
       case rel => exact ⟨_, b, acc, _, rfl, by omega, by omega, (by rw [Below.heap_alloc _ _ _ (by omega)]; exact hit3), hown3.alloc _, hbw3.alloc hbw3.size _, (by have := HN.out; rw [HPK.out] at this; simp only [Option.map_none, Option.toList, List.append_nil] at this; exact this), by omega, by omega, by omega⟩
       case measure => rw [iterPos_of (show (w2.alloc _).heap[w1.heap.size]? = _ by rw [Below.heap_alloc _ _ _ (by omega)]; exact hit3), hpos0]; omega
      · obtain rfl := hout
       rw [HL.out] at hst
       obtain ⟨hpo, hk1, hk3⟩ := stepL_pos hst
       have HPO := Lib.hid hpo
       have hk0 : (kd == 0) = false := by rw [beq_eq_false_iff_ne]; simp only [] at hk1; omega
       have hk0' : (kd != 0) = true := by rw [bne_iff_ne]; simp only [] at hk1; omega
       clear hst hpo hk1 hk3
       unfold tokV
       go_wp2_with (at_builtin; refine wpList_append_own _ rfl _ _ 51 rfl (w1.heap.size + 1) 70 i0 (.agg #[.int .i64 0, .string ⟨#[]⟩, .int .i64 0, .int .i64 0]) 4 40 Tryz.underlying51 hi hz0 hz1 hz2 rfl (by decide) _ _ _ rfl ((hown3.alloc _).alloc _) ⟨w2.heap.size + 1, 0, none⟩ 1 1 [.int .i64 kd, .string tx, .int .i64 nn, .int .i64 pos] rfl rfl (cell_four_new _ _ _ _ _ _ _ (by simp)) (fun x hx => by simp at hx; rcases hx with rfl | rfl | rfl | rfl <;> rfl) (by unfold maxLen; omega) (by omega) (by simp; omega) ?_; intro v' w3 hown' hgrow3 hnil3)
       have hit4 : w3.heap[w1.heap.size]? = some (.stringIter t (pos + (Utf8.decode t pos).2)) := by
        rw [hgrow3.block w1.heap.size (by simp; omega) (fun h => by have := (hown3.lt _ h.symm).1; omega), Below.heap_alloc _ _ _ (by simp; omega), Below.heap_alloc _ _ _ (by omega)]; exact hit3
       have hbw4 : Below w1.heap.size w1 w3 := Below.grown ((hbw3.alloc (by omega) _).alloc (by simp; omega) _) hgrow3 (by simp; omega) (fun j hj => by have := (hown3.lt _ hj).1; omega)
       go_roundw
       case rel => exact ⟨_, b, acc ++ [⟨kd, tx, nn, pos⟩], _, rfl, by omega, by omega, hit4, (by rw [flatT_snoc]; simpa using hown'), hbw4, (by have := HN.out; rw [HPK.out] at this; simp only [Option.map_some, Option.toList, Tok.sh] at this; rw [show po + (pos : Int) = pos by have h0 : po = 0 := HPO.out; omega] at this; exact this), by omega, by simp; omega, by omega⟩
       case measure => rw [iterPos_of hit4, hpos0]; omega
   · have hnx : ∀ ty, (Instr.next (.pointer (some ⟨w1.heap.size, 0, none⟩)) true ty).run Tryz.prog wr = _ := fun ty => Lib.run_next_end_at wr w1.heap.size t pos ty hit hp
    have hend := lexAt_end HS.out hp
    have hno : (lexT s).2 = none := by rw [HX.out, ← HTS.out]; exact hend.2
    have hts2 : (t.size : Int) = endOf s (each s).2 := by rw [HTS.out, snd_size]; exact (snd_end s).1
    have hbsz := hbw.size
    rcases bad_range s with hbad | ⟨hbad0, hbad1⟩
    · have heq : t.size = s.size := by unfold endOf at hts2; rw [if_pos hbad] at hts2; omega
     have HO := Lib.hid (toks_ok h2000 hno hbad (show acc = (lexT s).1 by rw [HX.out, ← HTS.out]; exact hend.1))
     have hge : ¬ (t.size : Int) < (s.size : Int) := by omega
     clear hend hno hts2 hbad HS heq
     go_wp2_with (at_builtin; refine wpList_append_own _ rfl _ _ 51 rfl (w1.heap.size + 1) 70 i0 (.agg #[.int .i64 0, .string ⟨#[]⟩, .int .i64 0, .int .i64 0]) 4 40 Tryz.underlying51 hi hz0 hz1 hz2 rfl (by decide) _ _ _ rfl (hown.alloc _) ⟨wr.heap.size, 0, none⟩ 1 1 [.int .i64 4, .string ⟨#[]⟩, .int .i64 0, .int .i64 s.size] rfl rfl (cell_four_new _ _ _ _ _ _ _ (by simp)) (fun x hx => by simp at hx; rcases hx with rfl | rfl | rfl | rfl <;> rfl) (by unfold maxLen; omega) (by omega) (by simp; omega) ?_; intro v' w3 hown' hgrow3 hnil3)
     have hbw4 : Below w1.heap.size w1 w3 := Below.grown (hbw.alloc (by omega) _) hgrow3 (by simp; omega) (fun j hj => by have := (hown.lt _ hj).1; omega)
     go_ret3
     refine ⟨v', by rw [HO.out]; rfl, ?_, hb1.trans (hbw4.mono hsz1)⟩
     rw [HO.out]
     refine ownsRow_base ?_ (show w.heap.size ≤ w1.heap.size + 1 by omega)
     rw [flatT_snoc]
     simpa using hown'
    · have hbb : ¬ (each s).2 = -1 := by omega
     have HO := Lib.hid (toks_bad h2000 hno hbb)
     have heq : (t.size : Int) = (each s).2 := by unfold endOf at hts2; rw [if_neg hbb] at hts2; exact hts2
     have hlt : (t.size : Int) < (s.size : Int) := by omega
     have HEQ := Lib.hid heq
     clear hend hno hts2 hbb HS hbad0 hbad1 heq
     go_wp2
     go_ret3
     exact TokensPost.err (by rw [HO.out, HEQ.out]) (hb1.trans (hbw.mono hsz1))
 · have HL := Lib.hid (toks_long (s := s) (by omega))
  go_enter Tryz.func23, Tryz.ntmps23
  go_wp2
  go_ret3
  exact TokensPost.err HL.out (Below.refl _ _)
theorem tokens_is (s : ByteArray) (l : List Tok) (at' err : Int) (w : World) (hT : LTabs w) (hs : s.size ≤ 1000000) (h : toks s = (l, at', err)) :
  Calls Tryz.prog 23 #[.string s] w fun e w' => ∃ v, e = .returned (.tuple #[v, .int .i64 at', .int .i64 err]) ∧ w'.ownsRow w.heap.size 70 4 v l.length (flatT l) ∧ Below w.heap.size w w' := by
 refine (tokens_any s w hT hs).mono fun e w' hp => ?_
 obtain ⟨v, h1, h2, h3⟩ := hp
 rw [h] at h1 h2
 exact ⟨v, h1, h2, h3⟩
end Go.Proofs.YtmpcmpeloebnhaaGreatDoor
namespace Go.Proofs.YtmpcmpeloebnhaaGreatDoor
open Go.RowKit
theorem shape_cells {w : World} {B : Nat} {nm : Bool} {ln mn lk mk : Int} {f : Value} (h : w.heap[B]? = some (.cells #[.bool nm, .int .i64 ln, .int .i64 mn, .int .i64 lk, .int .i64 mk, f] 136)) :
  w.cell? ⟨B, 0, none⟩ = some (.bool nm) ∧ w.cell? ⟨B, 1, none⟩ = some (.int .i64 ln) ∧ w.cell? ⟨B, 2, none⟩ = some (.int .i64 mn) ∧ w.cell? ⟨B, 3, none⟩ = some (.int .i64 lk) ∧ w.cell? ⟨B, 4, none⟩ = some (.int .i64 mk) ∧ w.cell? ⟨B, 5, none⟩ = some f := by
 refine ⟨?_, ?_, ?_, ?_, ?_, ?_⟩ <;> (rw [cell_of_row _ _ _ _ _ _ h]; rfl)
end Go.Proofs.YtmpcmpeloebnhaaGreatDoor
namespace Go.Proofs.YtmpcmpeloebnhaaGreatDoor
open Go.RowKit
set_option maxRecDepth 100000 in
set_option maxHeartbeats 4000000 in
theorem tokens_big (s : ByteArray) (w : World) (h : ¬ s.size ≤ 2000) (hs : s.size ≤ 140737488351232) : Calls Tryz.prog 23 #[.string s] w fun e w' => e = .returned (.tuple #[.slice none 0 0, .int .i64 0, .int .i64 3]) ∧ Below w.heap.size w w' := by
 go_enter Tryz.func23, Tryz.ntmps23
 go_wp2
 go_ret3
 exact ⟨rfl, Below.refl _ _⟩
set_option maxRecDepth 100000 in
set_option maxHeartbeats 8000000 in
theorem mayBeName_any (s : ByteArray) (w : World) (hs : s.size ≤ 140737488351232) (hT : LTabs w) : Calls Tryz.prog 79 #[.string s] w fun e w' => e = .returned (.bool (nameB s)) ∧ Below w.heap.size w w' := by
 by_cases h2000 : s.size ≤ 2000
 · obtain ⟨⟨l, at', err⟩, ht⟩ : ∃ r, toks s = r := ⟨_, rfl⟩
  have hnb : nameB s = (decide (err = 0) && oneName s l) := by unfold nameB; rw [ht]
  have hcall := tokens_is s l at' err w hT (by omega) ht
  have HC := Lib.hid hcall
  have hlen := toks_len s
  rw [ht] at hlen
  simp only [] at hlen
  clear hcall ht
  by_cases he : err = 0
  · subst he
   have hnb2 : nameB s = oneName s l := by rw [hnb]; rfl
   clear hnb
   by_cases hl2 : l.length = 2
   · obtain ⟨t, u, rfl⟩ : ∃ t u, l = [t, u] := by
     match l, hl2 with
     | [t, u], _ => exact ⟨t, u, rfl⟩
    have HN := Lib.hid hnb2
    clear hnb2 hl2 hlen
    go_enter Tryz.func79, Tryz.ntmps79
    go_wp2_with fail
    refine HC.out.mono ?_
    rintro e w2 ⟨v2, rfl, hown, hb2⟩
    obtain ⟨g2, p2, rfl⟩ : ∃ g cap, v2 = .slice (some ⟨g, 0, none⟩) 2 cap := by
     obtain ⟨a, cap, rfl, hs⟩ := tok_slice hown
     obtain ⟨g, rfl⟩ := hs (by simp)
     exact ⟨g, cap, rfl⟩
    have e20 := (hown.cellAt 0 (by decide)).trans (show _ = some (Value.int .i64 t.kind) from rfl)
    have e21 := (hown.cellAt 1 (by decide)).trans (show _ = some (Value.string t.text) from rfl)
    clear hown HC
    obtain ⟨kd, tx, nn, po⟩ := t
    by_cases hk : kd = 1
    · subst hk
     have HN2 := Lib.hid (show nameB s = (tx.toList == s.toList) from by rw [HN.out]; rfl)
     clear HN
     go_wp2_with fail
     go_ret
     exact ⟨by rw [HN2.out]; rfl, hb2⟩
    · have hk1 : (kd == 1) = false := by simpa using hk
     have HN2 := Lib.hid (show nameB s = false from by rw [HN.out]; show (decide (kd = 1) && _) = false; rw [decide_eq_false hk]; rfl)
     clear HN
     go_wp2_with fail
     go_ret
     exact ⟨by rw [HN2.out]; rfl, hb2⟩
   · have hnf : nameB s = false := by
     rw [hnb2]
     unfold oneName
     split
     · rename_i t u; exact absurd rfl hl2
     · rfl
    have HN := Lib.hid hnf
    have hl3 : ((l.length : Int) == 2) = false := by simp; omega
    have hl4 : ¬ (l.length : Int) = 2 := by omega
    have HL := Lib.hid hl2
    clear hnb2 hnf hl2
    go_enter Tryz.func79, Tryz.ntmps79
    go_wp2_with fail
    refine HC.out.mono ?_
    rintro e w2 ⟨v2, rfl, hown, hb2⟩
    obtain ⟨a2, p2, rfl, _⟩ := tok_slice hown
    clear hown HC
    go_wp2_with fail
    go_ret
    exact ⟨by rw [HN.out]; rfl, hb2⟩
  · have he1 : (err == 0) = false := by simpa using he
   have HN := Lib.hid (show nameB s = false from by rw [hnb, decide_eq_false he]; rfl)
   clear hnb hlen
   go_enter Tryz.func79, Tryz.ntmps79
   go_wp2_with fail
   refine HC.out.mono ?_
   rintro e w2 ⟨v2, rfl, _, hb2⟩
   clear HC
   go_wp2_with fail
   go_ret
   exact ⟨by rw [HN.out]; rfl, hb2⟩
 · have HN := Lib.hid (nameB_big s h2000)
  have HC := Lib.hid (tokens_big s w h2000 hs)
  clear h2000
  go_enter Tryz.func79, Tryz.ntmps79
  go_wp2_with fail
  refine HC.out.mono ?_
  rintro e w2 ⟨rfl, hb2⟩
  go_wp2_with fail
  go_ret
  exact ⟨by rw [HN.out]; rfl, hb2⟩
end Go.Proofs.YtmpcmpeloebnhaaGreatDoor
