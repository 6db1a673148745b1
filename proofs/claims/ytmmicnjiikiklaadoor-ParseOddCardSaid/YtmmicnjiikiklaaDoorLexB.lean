/- runes.Class, runes.Each, the words, names and numbers of lex. -/
import Derived.Test.YtmmicnjiikiklaaDoorLexA
import Derived.Test.YtmmicnjiikiklaaDoorRows
import Derived.Test.YtmmicnjiikiklaaDoorShelf
import Derived.WalkKit
import Derived.WalkLawsBesides
import Derived.WalkSpells
import Derived.ProofKit
import Derived.Outline
import Derived.Deep.QuietTactic
import Derived.BigQuiet
import Derived.Deep.Light
import Derived.Deep.CutBlock
import Derived.Deep.DeepCutAuto
import Derived.Deep.DeepFit
import Derived.Deep.LoopGhost
import Derived.Lib.Hide
import Derived.Lib.OthersKept
import Derived.IntWalk
namespace Go.Proofs.YtmmicnjiikiklaaDoor
open Go.RowKit
set_option maxHeartbeats 1000000 in
theorem class_any (r : Int) (w : World) :
    Calls Tryd.prog 58 #[.int .i32 r] w fun e w' => e = .returned (.int .i64 (cls r)) ∧ w = w' := by
  go_enter Tryd.func58, Tryd.ntmps58
  go_wp2
  all_goals go_ret
  all_goals (refine ⟨ret_int ?_, rfl⟩; go_light)
  all_goals (try simp only [beq_iff_eq, beq_eq_false_iff_ne, ne_eq] at *)
  all_goals first | exact cls1 (by unfold isLet; omega) | exact cls2 (by omega) | exact cls3 (by omega) | exact cls4 (by unfold isSig; omega) | exact cls0 (by unfold isLet; omega) (by omega) (by omega) (by unfold isSig; omega)
end Go.Proofs.YtmmicnjiikiklaaDoor
namespace Go.Proofs.YtmmicnjiikiklaaDoor
open Go.RowKit
theorem ret_bool {a b : Bool} (h : a = b) : Ending.returned (.bool a) = .returned (.bool b) := by rw [h]
set_option maxHeartbeats 400000 in
theorem isSpace_any (r : Int) (w : World) : Calls Tryd.prog 60 #[.int .i32 r] w fun e w' => e = .returned (.bool (spB r)) ∧ w = w' := by
  go_enter Tryd.func60, Tryd.ntmps60
  go_wp2_with (go_at_call 58; refine (class_any _ _).mono ?_; rintro e w' ⟨rfl, rfl⟩)
  go_ret
  exact ⟨rfl, rfl⟩
set_option maxHeartbeats 400000 in
theorem isDigit_any (r : Int) (w : World) : Calls Tryd.prog 63 #[.int .i32 r] w fun e w' => e = .returned (.bool (dgB r)) ∧ w = w' := by
  go_enter Tryd.func63, Tryd.ntmps63
  go_wp2_with (go_at_call 58; refine (class_any _ _).mono ?_; rintro e w' ⟨rfl, rfl⟩)
  go_ret
  exact ⟨rfl, rfl⟩
set_option maxHeartbeats 400000 in
theorem isLinePart_any (r : Int) (w : World) : Calls Tryd.prog 65 #[.int .i32 r] w fun e w' => e = .returned (.bool (lnB r)) ∧ w = w' := by
  go_enter Tryd.func65, Tryd.ntmps65
  go_wp2
  go_ret
  exact ⟨rfl, rfl⟩
set_option maxHeartbeats 400000 in
theorem isNamePart_any (r : Int) (w : World) : Calls Tryd.prog 61 #[.int .i32 r] w fun e w' => e = .returned (.bool (nmB r)) ∧ w = w' := by
  by_cases h1 : (cls r == 1) = true
  · have hn := Lib.hid (show nmB r = true by unfold nmB; rw [h1]; rfl)
    go_enter Tryd.func61, Tryd.ntmps61
    go_wp2_with (go_at_call 58; refine (class_any _ _).mono ?_; rintro e w' ⟨rfl, rfl⟩)
    go_ret
    exact ⟨ret_bool hn.out.symm, rfl⟩
  · simp only [Bool.not_eq_true] at h1
    by_cases h2 : dgB r = true
    · have hn := Lib.hid (show nmB r = true by unfold nmB; unfold dgB at h2; rw [h2]; simp)
      go_enter Tryd.func61, Tryd.ntmps61
      go_wp2_with (first | (go_at_call 58; refine (class_any _ _).mono ?_; rintro e w' ⟨rfl, rfl⟩) | (go_at_call 63; refine (isDigit_any _ _).mono ?_; rintro e w' ⟨rfl, rfl⟩))
      go_ret
      exact ⟨ret_bool hn.out.symm, rfl⟩
    · simp only [Bool.not_eq_true] at h2
      have hn := Lib.hid (show nmB r = (r == 39) by unfold nmB; unfold dgB at h2; rw [h1, h2]; simp)
      go_enter Tryd.func61, Tryd.ntmps61
      go_wp2_with (first | (go_at_call 58; refine (class_any _ _).mono ?_; rintro e w' ⟨rfl, rfl⟩) | (go_at_call 63; refine (isDigit_any _ _).mono ?_; rintro e w' ⟨rfl, rfl⟩))
      go_ret
      exact ⟨ret_bool hn.out.symm, rfl⟩
end Go.Proofs.YtmmicnjiikiklaaDoor
namespace Go.Proofs.YtmmicnjiikiklaaDoor
open Go.RowKit
theorem Tryd.infoRune : (Tryd.prog.info? 101).map (fun i => (i.zero, i.size, i.bytes)) = some (some (.agg #[.int .i32 0, .int .i64 0]), 2, 16) := by kernel_rfl

def EachPost (s : ByteArray) (w : World) (e : Ending) (w' : World) : Prop :=
  ∃ v, e = .returned (.tuple #[v, .int .i64 (each s).2]) ∧ w'.ownsRow w.heap.size 101 2 v (each s).1.length (flat (each s).1) ∧ Below w.heap.size w w'

theorem ownsRow_iterAt {w : World} {base : Nat} {e : TypeId} {size : Nat} {v : Value} {n : Nat} {xs : List Value} (h : w.ownsRow base e size v n xs) {k : Nat} (hk : k < base) (s : ByteArray) (p : Nat) : (w.iterAt k s p).ownsRow base e size v n xs := by
  obtain ⟨h1, h2⟩ := h
  refine ⟨h1, ?_⟩
  rcases h2 with h2 | ⟨g, cap, cur, a, b, c, d⟩
  · exact .inl h2
  · exact .inr ⟨g, cap, cur, a, b, by rw [Lib.iterAt_other _ _ _ _ _ (by omega)]; exact c, d⟩
theorem ownsRow_base {w : World} {base base' : Nat} {e : TypeId} {size : Nat} {v : Value} {n : Nat} {xs : List Value} (h : w.ownsRow base e size v n xs) (hb : base' ≤ base) : w.ownsRow base' e size v n xs := by
  obtain ⟨h1, h2⟩ := h
  refine ⟨h1, ?_⟩
  rcases h2 with h2 | ⟨g, cap, cur, a, b, c⟩
  · exact .inl h2
  · exact .inr ⟨g, cap, cur, a, Nat.le_trans hb b, c⟩
theorem iterPos_of {w : World} {k : Nat} {s : ByteArray} {p : Nat} (h : w.heap[k]? = some (.stringIter s p)) : w.iterPos k = p := by simp [World.iterPos, h]
theorem cell_two_new (w : World) (a b : Value) (t : TypeId) : ∀ j u, [a, b][j]? = some u → (w.alloc (.cells #[a, b] t)).cell? ((⟨w.heap.size, 0, none⟩ : Addr).add j) = some u := by
  intro j u hj
  match j, hj with
  | 0, hj => simp at hj; subst hj; simp [Addr.add]
  | 1, hj => simp at hj; subst hj; simp [Addr.add]
  | j + 2, hj => simp at hj

set_option maxHeartbeats 400000 in
theorem written_any (s : ByteArray) (w : World) (hs : s.size ≤ 1000000) :
    Calls Tryd.prog 83 #[.string s] w fun e w' => e = .returned (.bool (fffd s)) ∧ w = w' := by
  go_enter Tryd.func83, Tryd.ntmps83
  by_cases h3 : 3 ≤ s.size
  · go_wp2
    go_ret
    exact ⟨rfl, rfl⟩
  · have HF := Lib.hid (fffd_short s (by omega))
    go_wp2
    go_ret
    rw [HF.out]
    exact ⟨rfl, rfl⟩

set_option maxRecDepth 1000000 in
set_option maxHeartbeats 2000000 in
theorem each_any (s : ByteArray) (w : World) (hs : s.size ≤ 1000000) :
    Calls Tryd.prog 57 #[.string s] w (EachPost s w) := by
  obtain ⟨i0, hi, hz0, hz1, hz2⟩ := info_parts Tryd.infoRune
  go_enter Tryd.func57, Tryd.ntmps57
  go_wp2
  go_loopw [2] (fun v wr => ∃ (pos b : Nat) (acc : List (Int × Int)), wr.heap[w.heap.size]? = some (.stringIter s pos) ∧ wr.ownsRow (w.heap.size + 1) 101 2 v acc.length (flat acc) ∧ Below w.heap.size w wr ∧ Hid (soFar s acc b pos) ∧ s.size ≤ pos + b ∧ acc.length ≤ pos) (fun _ wr => s.size - wr.iterPos w.heap.size)
  case atStart => exact ⟨0, s.size, [], World.iter_heap w s 0, World.ownsRow_nil _ _ _ _, (Below.refl _ _).alloc (Nat.le_refl _) _, soFar_start s, by omega, by simp⟩
  case round =>
    obtain ⟨pos, b, acc, hit, hown, hbw, HS, hb, hlen⟩ := hrel
    have hpos0 := iterPos_of hit
    by_cases hp : pos < s.size
    · have hnx : ∀ ty, (Instr.next (.pointer (some ⟨w.heap.size, 0, none⟩)) true ty).run Tryd.prog wr = _ := fun ty => Lib.run_next_any_at wr w.heap.size s pos ty hit hp
      have hwd := width_pos s pos hp
      obtain ⟨b, rfl⟩ : ∃ f', b = f' + 1 := ⟨b - 1, by omega⟩
      have hit2 := Lib.iterAt_heap wr w.heap.size s pos (pos + (Utf8.decode s pos).2) hit
      have hbw2 := Lib.below_iterAt hbw (k := w.heap.size) (Nat.le_refl _) s (pos + (Utf8.decode s pos).2)
      have hown2 := ownsRow_iterAt hown (k := w.heap.size) (by omega) s (pos + (Utf8.decode s pos).2)
      obtain ⟨W1, hW1⟩ : ∃ W1, W1 = wr.iterAt w.heap.size s (pos + (Utf8.decode s pos).2) := ⟨_, rfl⟩
      rw [← hW1] at hnx hit2 hbw2 hown2
      have hBlt := lt_of_block hit2
      clear hW1 hit hown hbw
      by_cases hbad : badAt s pos
      · have hr1 : (((Utf8.decode s pos).1 : Int) == 65533) = true := by rw [beq_iff_eq]; have := hbad.1; omega
        have hf : fffd (s.extract pos s.size) = false := fffd_bad s pos hbad
        have hX := soFar_bad s acc b pos hp hbad HS.out
        have H1 := Lib.hid hX.1
        have H2 := Lib.hid hX.2
        clear hX HS hbad
        go_wp2_with (go_at_call 83; refine (written_any _ _ (by simp; omega)).mono ?_; rintro e w' ⟨rfl, rfl⟩)
        go_ret2
        exact ⟨u2, ret_v H2.out, by rw [← H1.out]; exact ownsRow_base hown2 (by omega), hbw2⟩
      · have R := soFar_one s acc b pos hp hbad HS.out
        have HS' := Lib.hid R
        clear R
        by_cases hr : (Utf8.decode s pos).1 = 65533
        · have hr1 : (((Utf8.decode s pos).1 : Int) == 65533) = true := by rw [beq_iff_eq]; omega
          have hf : fffd (s.extract pos s.size) = true := fffd_good s pos hr hbad
          clear hr hbad
          go_wp2_with (first | (go_at_call 83; refine (written_any _ _ (by simp; omega)).mono ?_; rintro e w' ⟨rfl, rfl⟩) | (at_builtin; refine wpList_append_own _ rfl _ _ 74 rfl (w.heap.size + 1) 101 i0 (.agg #[.int .i32 0, .int .i64 0]) 2 16 Tryd.underlying74 hi hz0 hz1 hz2 rfl (by decide) _ _ _ rfl (hown2.alloc _) ⟨W1.heap.size, 0, none⟩ 1 1 [.int .i32 ((Utf8.decode s pos).1 : Int), .int .i64 (pos : Int)] rfl rfl (cell_two_new _ _ _ _) (fun x hx => by simp at hx; rcases hx with rfl | rfl <;> rfl) (by unfold maxLen; omega) (by omega) (by simp; omega) ?_; intro v' w3 hown' hgrow3 hnil3))
          have hit3 : w3.heap[w.heap.size]? = some (.stringIter s (pos + (Utf8.decode s pos).2)) := by
            rw [hgrow3.block w.heap.size (by simp; omega) (fun h => by have := (hown2.lt _ h.symm).1; omega), Below.heap_alloc _ _ _ hBlt]; exact hit2
          have hbw3 : Below w.heap.size w w3 := Below.grown (hbw2.alloc (by omega) _) hgrow3 (by simp; omega) (fun j hj => by have := (hown2.lt _ hj).1; omega)
          rw [← flat_snoc acc ((((Utf8.decode s pos).1 : Int), (pos : Int)))] at hown'
          go_wp2
          go_roundw
          case rel => exact ⟨_, b, acc ++ [((((Utf8.decode s pos).1 : Int), (pos : Int)))], hit3, by simpa using hown', hbw3, HS'.out, by omega, by simp; omega⟩
          case measure => rw [iterPos_of hit3, hpos0]; omega
        · have hrb : (((Utf8.decode s pos).1 : Int) == 65533) = false := by rw [beq_eq_false_iff_ne]; omega
          clear hr hbad
          go_wp2_with (at_builtin; refine wpList_append_own _ rfl _ _ 74 rfl (w.heap.size + 1) 101 i0 (.agg #[.int .i32 0, .int .i64 0]) 2 16 Tryd.underlying74 hi hz0 hz1 hz2 rfl (by decide) _ _ _ rfl (hown2.alloc _) ⟨W1.heap.size, 0, none⟩ 1 1 [.int .i32 ((Utf8.decode s pos).1 : Int), .int .i64 (pos : Int)] rfl rfl (cell_two_new _ _ _ _) (fun x hx => by simp at hx; rcases hx with rfl | rfl <;> rfl) (by unfold maxLen; omega) (by omega) (by simp; omega) ?_; intro v' w3 hown' hgrow3 hnil3)
          have hit3 : w3.heap[w.heap.size]? = some (.stringIter s (pos + (Utf8.decode s pos).2)) := by
            rw [hgrow3.block w.heap.size (by simp; omega) (fun h => by have := (hown2.lt _ h.symm).1; omega), Below.heap_alloc _ _ _ hBlt]; exact hit2
          have hbw3 : Below w.heap.size w w3 := Below.grown (hbw2.alloc (by omega) _) hgrow3 (by simp; omega) (fun j hj => by have := (hown2.lt _ hj).1; omega)
          rw [← flat_snoc acc ((((Utf8.decode s pos).1 : Int), (pos : Int)))] at hown'
          go_wp2
          go_roundw
          case rel => exact ⟨_, b, acc ++ [((((Utf8.decode s pos).1 : Int), (pos : Int)))], hit3, by simpa using hown', hbw3, HS'.out, by omega, by simp; omega⟩
          case measure => rw [iterPos_of hit3, hpos0]; omega
    · have hnx : ∀ ty, (Instr.next (.pointer (some ⟨w.heap.size, 0, none⟩)) true ty).run Tryd.prog wr = _ := fun ty => Lib.run_next_end_at wr w.heap.size s pos ty hit hp
      have hX := soFar_end s acc b pos hp HS.out
      have H1 := Lib.hid hX.1
      have H2 := Lib.hid hX.2
      clear hX HS
      go_wp2
      go_ret2
      exact ⟨u2, ret_v H2.out, by rw [← H1.out]; exact ownsRow_base hown (by omega), hbw⟩
theorem own_below {w w' : World} {B e size n : Nat} {v : Value} {xs : List Value} (h : w.ownsRow B e size v n xs) (hb : Below w.heap.size w w') : w'.ownsRow B e size v n xs := by
  obtain ⟨h1, h2⟩ := h
  refine ⟨h1, ?_⟩
  rcases h2 with h2 | ⟨g, cap, cur, a, b, c, d⟩
  · exact .inl h2
  · exact .inr ⟨g, cap, cur, a, b, by rw [hb.block g (lt_of_block c)]; exact c, d⟩

end Go.Proofs.YtmmicnjiikiklaaDoor
namespace Go.Proofs.YtmmicnjiikiklaaDoor
open Go.RowKit
theorem wrds_fields : Lib.fields ({ data := #[116, 114, 117, 101, 32, 102, 97, 108, 115, 101, 32, 101, 120, 48, 32, 101, 120, 49, 32, 101, 120, 50, 32, 97, 108, 108, 48, 32, 97, 108, 108, 49, 32, 97, 108, 108, 50, 32, 118, 97, 114, 48, 32, 118, 97, 114, 49, 32, 118, 97, 114, 50, 32, 112, 114, 101, 100, 32, 105, 110, 32, 110, 111, 116, 105, 110, 32, 115, 117, 98, 32, 117, 110, 105, 111, 110, 32, 105, 110, 116, 101, 114] } : ByteArray).data.toList = wrds.map fun x => x.data.toList := by decide +kernel
/-- The slice of the words. -/
def wrdsV (b : Nat) : Value := .slice (some ⟨b, 0, none⟩) 17 17
def wrdsCells : Array Value := (wrds.map Value.string).toArray
theorem var_below {w w' : World} {name : String} {cs : Array Value} (h : w.var? Tryd.prog name = some cs) (hb : Below w.heap.size w w') : w'.var? Tryd.prog name = some cs := by
  unfold World.var? at h ⊢
  rcases hg : Tryd.prog.globalNamed name with _ | g
  · rw [hg] at h; cases h
  · rw [hg] at h
    simp only [Option.bind_some] at h ⊢
    rcases ho : w.heap[g]? with _ | o
    · rw [ho] at h; cases h
    · have hlt : g < w.heap.size := (Array.getElem?_eq_some_iff.1 ho).1
      rw [hb.block g hlt]
      exact h
theorem tab_below {w w' : World} (h : Lib.TabIs Tryd.prog w "strings.asciiSpace" .u8 Lib.asciiSpaceTab) (hb : Below w.heap.size w w') : Lib.TabIs Tryd.prog w' "strings.asciiSpace" .u8 Lib.asciiSpaceTab := var_below h hb
/-- The two tables that lex leans on. -/
structure LTabs (w : World) : Prop where
  sp : Lib.TabIs Tryd.prog w "strings.asciiSpace" .u8 Lib.asciiSpaceTab
  sg : w.var? Tryd.prog "sibyl/lex.signs" = some (sigs.map Value.string).toArray
theorem LTabs.below {w w' : World} (h : LTabs w) (hb : Below w.heap.size w w') : LTabs w' := ⟨tab_below h.sp hb, var_below h.sg hb⟩
theorem LTabs.at {w : World} (h : LTabs w) : ∃ t f, w.heap[0]? = some (.cells (sigs.map Value.string).toArray t f) := by
  have hg : Tryd.prog.globalNamed "sibyl/lex.signs" = some 0 := by kernel_rfl
  have := h.sg
  unfold World.var? at this
  rw [hg] at this
  simp only [Option.bind_some] at this
  split at this
  · rename_i cs t f he
    obtain rfl := Option.some.inj this
    exact ⟨t, f, he⟩
  · cases this

set_option maxRecDepth 100000 in
set_option maxHeartbeats 1000000 in
theorem words_any (w : World) (hT : Lib.TabIs Tryd.prog w "strings.asciiSpace" .u8 Lib.asciiSpaceTab) :
    Calls Tryd.prog 86 #[] w fun e w' => e = .returned (wrdsV w.heap.size) ∧ w' = w.alloc (.cells wrdsCells 9) := by
  have hf := wrds_fields
  have c := Tryd.strings_Fields ⟨#[116, 114, 117, 101, 32, 102, 97, 108, 115, 101, 32, 101, 120, 48, 32, 101, 120, 49, 32, 101, 120, 50, 32, 97, 108, 108, 48, 32, 97, 108, 108, 49, 32, 97, 108, 108, 50, 32, 118, 97, 114, 48, 32, 118, 97, 114, 49, 32, 118, 97, 114, 50, 32, 112, 114, 101, 100, 32, 105, 110, 32, 110, 111, 116, 105, 110, 32, 115, 117, 98, 32, 117, 110, 105, 111, 110, 32, 105, 110, 116, 101, 114]⟩ w (by decide) (by
    intro j b hb
    have : ∀ b ∈ (#[116, 114, 117, 101, 32, 102, 97, 108, 115, 101, 32, 101, 120, 48, 32, 101, 120, 49, 32, 101, 120, 50, 32, 97, 108, 108, 48, 32, 97, 108, 108, 49, 32, 97, 108, 108, 50, 32, 118, 97, 114, 48, 32, 118, 97, 114, 49, 32, 118, 97, 114, 50, 32, 112, 114, 101, 100, 32, 105, 110, 32, 110, 111, 116, 105, 110, 32, 115, 117, 98, 32, 117, 110, 105, 111, 110, 32, 105, 110, 116, 101, 114] : Array UInt8).toList, b.toNat < 128 := by decide +kernel
    exact this b (List.mem_of_getElem? hb)) hT
  rw [hf] at c
  have e1 : ((wrds.map fun x => x.data.toList).map fun l => Value.string ⟨l.toArray⟩).toArray = wrdsCells := by
    simp [wrdsCells, Function.comp_def]
  have e2 : (wrds.map fun x => x.data.toList).length = 17 := by rfl
  rw [e1, e2] at c
  clear hf e1 e2
  go_enter Tryd.func86, Tryd.ntmps86
  go_wp2_with fail
  refine c.mono ?_
  rintro e w1 ⟨rfl, rfl⟩
  go_wp2
  go_ret
  exact ⟨rfl, rfl⟩
end Go.Proofs.YtmmicnjiikiklaaDoor
namespace Go.Proofs.YtmmicnjiikiklaaDoor
open Go.RowKit
theorem bcell {W w1 : World} (hb : Below W.heap.size W w1) : (∀ b o, b < W.heap.size → w1.cell? ⟨b, o, none⟩ = W.cell? ⟨b, o, none⟩) ∧ (∀ b o, b < W.heap.size → w1.frozen? ⟨b, o, none⟩ = W.frozen? ⟨b, o, none⟩) :=
  ⟨fun b o h => hb.cell (p := ⟨b, o, none⟩) h, fun b o h => hb.frozen (p := ⟨b, o, none⟩) h⟩
theorem count_any (s : ByteArray) (n : Nat) (w : World) (hs : s.size ≤ 1000000) (h : (each s).2 = -1) (hn : (each s).1.length = n) :
    Calls Tryd.prog 84 #[.string s] w fun e w' => e = .returned (.int .i64 n) ∧ Below w.heap.size w w' := by
  refine (Tryd.utf8_RuneCountInString s w (by omega)).mono ?_
  rintro e w' ⟨rfl, pos, rfl⟩
  refine ⟨?_, (Below.refl _ _).alloc (Nat.le_refl _) _⟩
  rw [show Lib.runeCount s = n by rw [← hn]; exact runeCount_each s s.size 0 (by omega) h]
set_option maxHeartbeats 400000 in
theorem clone_any (s : ByteArray) (w : World) (hs : s.size ≤ 1000000) :
    Calls Tryd.prog 87 #[.string s] w fun e w' => e = .returned (.string s) ∧ Below w.heap.size w w' := by
  go_enter Tryd.func87, Tryd.ntmps87
  go_wp2_with (go_at_call 99; refine (Tryd.stringslite_Clone _ _ (by omega)).mono ?_; rintro e w' ⟨rfl, hb⟩)
  go_ret
  exact ⟨rfl, by assumption⟩
/-- Whether the words have a text, as the program asks it. -/
theorem words_has (t : ByteArray) : Lib.containsS wrds t = isWrd t := by
  rw [Bool.eq_iff_iff, Lib.containsS_iff]
  unfold isWrd
  rw [List.any_eq_true]
  constructor
  · intro h; exact ⟨t, h, by simp⟩
  · rintro ⟨x, hx, he⟩
    rw [beq_iff_eq] at he
    obtain rfl : x = t := ByteArray.ext (Array.ext' he)
    exact hx
theorem has_any (t : ByteArray) (b : Nat) (w : World) (hc : ∀ j, j < 17 → w.cell? ⟨b, j, none⟩ = some (.string (wrds.getD j ByteArray.empty))) :
    Calls Tryd.prog 85 #[wrdsV b, .string t] w fun e w' => e = .returned (.bool (isWrd t)) ∧ w = w' := by
  have c := Tryd.slices_Contains_string b 0 17 17 wrds t w (by decide) (by decide) (fun j hj => by rw [Nat.zero_add]; exact hc j hj)
  rw [show wrds.take 17 = wrds from rfl, words_has] at c
  refine c.mono ?_
  rintro e w' ⟨rfl, rfl⟩
  exact ⟨rfl, rfl⟩
theorem wrds_cells (w : World) : ∀ j, j < 17 → (w.alloc (.cells wrdsCells 9)).cell? ⟨w.heap.size, j, none⟩ = some (.string (wrds.getD j ByteArray.empty)) := by
  intro j hj
  rw [cell_of_row (w.alloc (.cells wrdsCells 9)) w.heap.size j wrdsCells 9 (0, 0) (by show (w.heap.push _)[w.heap.size]? = _; simp)]
  unfold wrdsCells
  simp only [List.getElem?_toArray, List.getElem?_map]
  rw [List.getElem?_eq_getElem (show j < wrds.length from hj), List.getD_eq_getElem?_getD, List.getElem?_eq_getElem (show j < wrds.length from hj)]
  rfl
set_option maxHeartbeats 1000000 in
theorem name_big (s : ByteArray) (n : Nat) (w : World) (hs : s.size ≤ 1000000) (h : (each s).2 = -1) (hn : (each s).1.length = n) (h12 : 12 < n) :
    Calls Tryd.prog 62 #[.string s] w fun e w' => e = .returned (.tuple #[.agg #[.int .i64 0, .string ⟨#[]⟩, .int .i64 0, .int .i64 0], .bool false]) ∧ Below w.heap.size w w' := by
  have HE := Lib.hid h
  have HN := Lib.hid hn
  clear h hn
  go_enter Tryd.func62, Tryd.ntmps62
  go_wp2_with fail
  refine (count_any _ n _ hs HE.out HN.out).mono ?_
  rintro e w1 ⟨rfl, hb⟩
  obtain ⟨hc, hf⟩ := bcell hb
  have hz : w.heap.size < w1.heap.size := by have := hb.size; simp at this; omega
  have h12' : (12 : Int) < (n : Int) := by omega
  go_wp2
  exact bodyPost_ret (v := .tuple #[.agg #[.int .i64 0, .string ⟨#[]⟩, .int .i64 0, .int .i64 0], .bool false]) (by simp [results, Tryd.results62, go_sem, hc]) rfl
    ⟨rfl, ((((((Below.refl _ _).alloc (Nat.le_refl _) _).trans (hb.mono (by simp))).setCell (by simp) _).setCell (by simp) _).setCell (by simp) _).setCell (by simp) _⟩

set_option maxHeartbeats 2000000 in
theorem name_ok (s : ByteArray) (n : Nat) (w : World) (hT : LTabs w) (hs : s.size ≤ 1000000) (h : (each s).2 = -1) (hn : (each s).1.length = n) (h12 : n ≤ 12) :
    Calls Tryd.prog 62 #[.string s] w fun e w' => e = .returned (.tuple #[.agg #[.int .i64 (if isWrd s then 3 else 1), .string s, .int .i64 0, .int .i64 0], .bool true]) ∧ Below w.heap.size w w' := by
  have HE := Lib.hid h
  have HN := Lib.hid hn
  clear h hn
  have hq : (isWrd s = true ∧ (if isWrd s then (3 : Int) else 1) = 3) ∨ (isWrd s = false ∧ (if isWrd s then (3 : Int) else 1) = 1) := by cases isWrd s <;> simp
  rcases hq with ⟨hq, hv⟩ | ⟨hq, hv⟩
  all_goals
    rw [hv]
    clear hv
    go_enter Tryd.func62, Tryd.ntmps62
    go_wp2_with fail
    refine (count_any _ n _ hs HE.out HN.out).mono ?_
    rintro e w1 ⟨rfl, hb⟩
    have hb0 : Below w.heap.size w w1 := ((Below.refl _ _).alloc (Nat.le_refl _) _).trans (hb.mono (by simp))
    obtain ⟨hc, hf⟩ := bcell hb
    have hz : w.heap.size < w1.heap.size := by have := hb.size; simp at this; omega
    have h12' : (n : Int) ≤ (12 : Int) := by omega
    have hT1 := hT.below hb0
    go_wp2_with fail
    refine (words_any _ hT1.sp).mono ?_
    rintro e w2 ⟨rfl, rfl⟩
    go_wp2_with fail
    refine (has_any _ _ _ (wrds_cells w1)).mono ?_
    rintro e w' ⟨rfl, rfl⟩
    go_wp2_with fail
    refine (clone_any _ _ hs).mono ?_
    rintro e w3 ⟨rfl, hb3⟩
    obtain ⟨hc3, hf3⟩ := bcell hb3
    have hz3 : w1.heap.size + 1 ≤ w3.heap.size := by have := hb3.size; simp at this; omega
    have hz4 : w.heap.size < w3.heap.size := by omega
    have hz5 : w.heap.size < w1.heap.size + 1 := by omega
    go_wp2
    exact bodyPost_ret (v := .tuple #[.agg #[_, .string s, .int .i64 0, .int .i64 0], .bool true]) (by simp [results, Tryd.results62, go_sem, hc, hz, hc3, hz5]) rfl
      ⟨rfl, (((((hb0.alloc (by omega) _).trans (hb3.mono (by simp; omega))).setCell (by simp) _).setCell (by simp) _).setCell (by simp) _).setCell (by simp) _⟩
end Go.Proofs.YtmmicnjiikiklaaDoor
namespace Go.Proofs.YtmmicnjiikiklaaDoor
open Go.RowKit
/-- A block of four cells, known whole. -/
def Blk4 (w : World) (B : Nat) (a b c d : Value) : Prop := w.heap[B]? = some (.cells #[a, b, c, d] 53)
theorem blk4 {w : World} {B : Nat} {a b c d : Value} (h : Blk4 w B a b c d) : (w.cell? ⟨B, 0, none⟩ = some a ∧ w.cell? ⟨B, 1, none⟩ = some b ∧ w.cell? ⟨B, 2, none⟩ = some c ∧ w.cell? ⟨B, 3, none⟩ = some d) ∧ (w.frozen? ⟨B, 0, none⟩ = false ∧ w.frozen? ⟨B, 1, none⟩ = false ∧ w.frozen? ⟨B, 2, none⟩ = false ∧ w.frozen? ⟨B, 3, none⟩ = false) := by
  unfold Blk4 at h
  refine ⟨⟨?_, ?_, ?_, ?_⟩, ⟨?_, ?_, ?_, ?_⟩⟩
  all_goals first | (rw [cell_of_row w B _ _ _ _ h]; rfl) | simp [World.frozen?, h]
theorem blk4_new (w : World) (a b c d : Value) : Blk4 (w.alloc (.cells #[a, b, c, d] 53)) w.heap.size a b c d := by
  unfold Blk4; show (w.heap.push _)[w.heap.size]? = _; simp
theorem iter_heap1 (w : World) (o : Obj) (s : ByteArray) (p : Nat) : ((w.alloc o).iter s p).heap[w.heap.size + 1]? = some (.stringIter s p) := by
  have h := World.iter_heap (w.alloc o) s p
  rw [show (w.alloc o).heap.size = w.heap.size + 1 by simp] at h
  exact h
theorem Blk4.iter {w : World} {B : Nat} {a b c d : Value} (h : Blk4 w B a b c d) (s : ByteArray) (p : Nat) : Blk4 (w.iter s p) B a b c d := by
  unfold Blk4 at *
  have hlt : B < w.heap.size := (Array.getElem?_eq_some_iff.1 h).1
  show (w.heap.push _)[B]? = _
  rw [Array.getElem?_push_lt hlt, ← h, Array.getElem?_eq_getElem hlt]
theorem Blk4.iterAt {w : World} {B : Nat} {a b c d : Value} (h : Blk4 w B a b c d) (k : Nat) (hk : B ≠ k) (s : ByteArray) (p : Nat) : Blk4 (w.iterAt k s p) B a b c d := by
  unfold Blk4 at *
  rw [Lib.iterAt_other _ _ _ _ _ hk]; exact h
theorem Blk4.lt {w : World} {B : Nat} {a b c d : Value} (h : Blk4 w B a b c d) : B < w.heap.size := (Array.getElem?_eq_some_iff.1 h).1
theorem Blk4.below {w w' : World} {B : Nat} {a b c d : Value} (h : Blk4 w B a b c d) (hb : Below w.heap.size w w') : Blk4 w' B a b c d := by
  unfold Blk4 at *
  rw [hb.block B (Array.getElem?_eq_some_iff.1 h).1]; exact h
/-- A number's reading: what has been gathered, and what comes yet. -/
def numAt (s : ByteArray) (b pos : Nat) (a : Int) : Prop := (eachF s b pos).2 = -1 ∧ (∀ q ∈ (eachF s b pos).1, dgB q.1 = true) ∧ numV a (eachF s b pos).1 = numV 0 (each s).1
theorem numAt_start (s : ByteArray) (h : (each s).2 = -1) (hd : ∀ q ∈ (each s).1, dgB q.1 = true) : numAt s s.size 0 0 := ⟨h, hd, rfl⟩
theorem numAt_one {s : ByteArray} {b pos : Nat} {a : Int} (hp : pos < s.size) (h : numAt s (b + 1) pos a) (h0 : 0 ≤ a) (h9 : a ≤ 99) :
    (48 ≤ ((Utf8.decode s pos).1 : Int) ∧ ((Utf8.decode s pos).1 : Int) ≤ 57) ∧ numAt s b (pos + (Utf8.decode s pos).2) (10 * a + (((Utf8.decode s pos).1 : Int) - 48)) := by
  have hb : ¬ badAt s pos := by
    intro hb
    have := h.1
    rw [eachF_bad _ _ _ hp hb] at this; simp only [] at this; omega
  unfold numAt at h ⊢
  rw [eachF_one _ _ _ hp hb] at h
  have hq := h.2.1 _ (List.mem_cons_self ..)
  refine ⟨(dgB_iff _).1 hq, h.1, fun q hq => h.2.1 q (List.mem_cons_of_mem _ hq), ?_⟩
  rw [← h.2.2]
  exact (numV_one _ _ a h0 h9 hq).symm
theorem numAt_big {s : ByteArray} {b pos : Nat} {a : Int} (h : numAt s b pos a) (h9 : 99 < a) : 99 < numV 0 (each s).1 := by
  rw [← h.2.2]; exact numV_big _ _ h9
theorem numAt_end {s : ByteArray} {b pos : Nat} {a : Int} (hp : ¬ pos < s.size) (h : numAt s b pos a) : a = numV 0 (each s).1 := by
  have := h.2.2
  rw [eachF_end _ _ _ hp] at this
  exact this
/-- What is answered of digits. -/
def numOut (s : ByteArray) : Value × Bool :=
  if numV 0 (each s).1 ≤ 99 ∧ ¬ (s.get! 0 = 48 ∧ 1 < s.size) then (.agg #[.int .i64 2, .string ⟨#[]⟩, .int .i64 (numV 0 (each s).1), .int .i64 0], true)
  else (.agg #[.int .i64 0, .string ⟨#[]⟩, .int .i64 0, .int .i64 0], false)
def NumPost (s : ByteArray) (w : World) (e : Ending) (w' : World) : Prop := e = .returned (.tuple #[(numOut s).1, .bool (numOut s).2]) ∧ Below w.heap.size w w'
theorem numOut_no {s : ByteArray} (h : s.get! 0 = 48 ∧ 1 < s.size) : numOut s = (.agg #[.int .i64 0, .string ⟨#[]⟩, .int .i64 0, .int .i64 0], false) := by
  unfold numOut; rw [if_neg (fun x => x.2 h)]
theorem numOut_big {s : ByteArray} (h : 99 < numV 0 (each s).1) : numOut s = (.agg #[.int .i64 0, .string ⟨#[]⟩, .int .i64 0, .int .i64 0], false) := by
  unfold numOut; rw [if_neg (fun x => by omega)]
theorem numOut_ok {s : ByteArray} {a : Int} (h : a = numV 0 (each s).1) (h9 : a ≤ 99) (hn : ¬ (s.get! 0 = 48 ∧ 1 < s.size)) : numOut s = (.agg #[.int .i64 2, .string ⟨#[]⟩, .int .i64 a, .int .i64 0], true) := by
  unfold numOut; rw [if_pos ⟨by omega, hn⟩, ← h]
theorem NumPost.mk {s : ByteArray} {w w' : World} {v : Value} {b : Bool} (h : numOut s = (v, b)) (hb : Below w.heap.size w w') : NumPost s w (.returned (.tuple #[v, .bool b])) w' := by
  unfold NumPost; rw [h]; exact ⟨rfl, hb⟩
set_option maxHeartbeats 2000000 in
theorem number_any (s : ByteArray) (w : World) (hs : s.size ≤ 1000000) (h1 : 1 ≤ s.size) (h : (each s).2 = -1) (hd : ∀ q ∈ (each s).1, dgB q.1 = true) :
    Calls Tryd.prog 64 #[.string s] w (NumPost s w) := by
  have HA := Lib.hid (numAt_start s h hd)
  clear h hd
  by_cases hn : s.get! 0 = 48 ∧ 1 < s.size
  · have HO := Lib.hid (numOut_no hn)
    have h2 : 1 < s.size := hn.2
    have hg : s[0]'h1 = 48 := by
      have : s.data.toList.getD 0 0 = 48 := by rw [Lib.getD_get!']; exact hn.1
      rw [List.getD_eq_getElem?_getD, List.getElem?_eq_getElem (by rw [← Lib.size_eq]; omega)] at this
      exact this
    have hg1 : ((s[0]'h1).toNat : Int) = 48 := by rw [hg]; rfl
    clear hn hg
    go_enter Tryd.func64, Tryd.ntmps64
    go_wp2
    exact bodyPost_ret (by simp [results, Tryd.results64, go_sem]) rfl
      (NumPost.mk HO.out ((Below.refl _ _).alloc (Nat.le_refl _) _))
  · have HNN := Lib.hid hn
    have key : ∀ (b : Bool), (decide (1 < (s.size : Int)) = b) → (b = true → ((s[0]'h1).toNat : Int) ≠ 48) → True := fun _ _ _ => trivial
    have hcase : ¬ (1 : Int) < (s.size : Int) ∨ ((1 : Int) < (s.size : Int) ∧ (((s[0]'h1).toNat : Int) == 48) = false) := by
      by_cases h2 : 1 < s.size
      · right
        refine ⟨by omega, ?_⟩
        rw [beq_eq_false_iff_ne]
        intro h48
        refine hn ⟨?_, h2⟩
        rw [← Lib.getD_get!', List.getD_eq_getElem?_getD, List.getElem?_eq_getElem (by rw [← Lib.size_eq]; omega)]
        exact UInt8.toNat_inj.1 (show (s[0]'h1).toNat = 48 by omega)
      · left; omega
    clear hn key
    rcases hcase with h2 | ⟨h2, h48⟩
    all_goals
      go_enter Tryd.func64, Tryd.ntmps64
      go_wp2
      go_loopw [4] (fun v wr => ∃ (pos b : Nat) (a : Int), v = .int .i64 a ∧ 0 ≤ a ∧ a ≤ 99 ∧ wr.heap[w.heap.size + 1]? = some (.stringIter s pos) ∧ Blk4 wr w.heap.size (.int .i64 0) (.string ⟨#[]⟩) (.int .i64 0) (.int .i64 0) ∧ Below w.heap.size w wr ∧ Hid (numAt s b pos a) ∧ s.size ≤ pos + b) (fun _ wr => s.size - wr.iterPos (w.heap.size + 1))
      case atStart => exact ⟨0, s.size, 0, rfl, by omega, by omega, iter_heap1 w _ s 0, (blk4_new w _ _ _ _).iter s 0, ((Below.refl _ _).alloc (Nat.le_refl _) _).alloc (by simp) _, HA.out, by omega⟩
      case round =>
        obtain ⟨pos, b, a, rfl, ha0, ha9, hit, hcl, hbw, HS, hb⟩ := hrel
        have hpos0 := iterPos_of hit
        clear HA
        by_cases hp : pos < s.size
        · have hnx : ∀ ty, (Instr.next (.pointer (some ⟨w.heap.size + 1, 0, none⟩)) true ty).run Tryd.prog wr = _ := fun ty => Lib.run_next_any_at wr (w.heap.size + 1) s pos ty hit hp
          have hwd := width_pos s pos hp
          have hwl := width_le s pos hp
          obtain ⟨b, rfl⟩ : ∃ f', b = f' + 1 := ⟨b - 1, by omega⟩
          have hit2 := Lib.iterAt_heap wr (w.heap.size + 1) s pos (pos + (Utf8.decode s pos).2) hit
          have hcl2 := hcl.iterAt (w.heap.size + 1) (by omega) s (pos + (Utf8.decode s pos).2)
          have hbw2 := Lib.below_iterAt hbw (k := w.heap.size + 1) (by omega) s (pos + (Utf8.decode s pos).2)
          obtain ⟨W1, hW1⟩ : ∃ W1, W1 = wr.iterAt (w.heap.size + 1) s (pos + (Utf8.decode s pos).2) := ⟨_, rfl⟩
          rw [← hW1] at hnx hit2 hbw2 hcl2
          have hst := numAt_one hp HS.out ha0 ha9
          obtain ⟨hr0, hr9⟩ := hst.1
          have HN := Lib.hid hst.2
          clear hW1 hit hbw HS hst hcl
          obtain ⟨⟨k0, k1, k2, k3⟩, f0, f1, f2, f3⟩ := blk4 hcl2
          have hlt2 := hcl2.lt
          by_cases h99 : 99 < 10 * a + (((Utf8.decode s pos).1 : Int) - 48)
          · have HO := Lib.hid (numOut_big (numAt_big HN.out h99))
            clear HN
            go_wp2
            exact bodyPost_ret (by simp [results, Tryd.results64, go_sem, k0, k1, k2, k3]) rfl
              (NumPost.mk HO.out ((((hbw2.setCell (by simp) _).setCell (by simp) _).setCell (by simp) _).setCell (by simp) _))
          · go_wp2
            go_roundw
            case rel => exact ⟨_, b, _, rfl, by omega, by omega, hit2, hcl2, hbw2, HN.out, by omega⟩
            case measure => rw [iterPos_of hit2, hpos0]; omega
        · have hnx : ∀ ty, (Instr.next (.pointer (some ⟨w.heap.size + 1, 0, none⟩)) true ty).run Tryd.prog wr = _ := fun ty => Lib.run_next_end_at wr (w.heap.size + 1) s pos ty hit hp
          have HO := Lib.hid (numOut_ok (numAt_end hp HS.out) ha9 HNN.out)
          obtain ⟨⟨k0, k1, k2, k3⟩, f0, f1, f2, f3⟩ := blk4 hcl
          have hlt2 := hcl.lt
          clear HS
          go_wp2
          exact bodyPost_ret (by simp [results, Tryd.results64, go_sem, k0, k1, k2, k3]) rfl
            (NumPost.mk HO.out ((((hbw.setCell (by simp) _).setCell (by simp) _).setCell (by simp) _).setCell (by simp) _))
end Go.Proofs.YtmmicnjiikiklaaDoor
