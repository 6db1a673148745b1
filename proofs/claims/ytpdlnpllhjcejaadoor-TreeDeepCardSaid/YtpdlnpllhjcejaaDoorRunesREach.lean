/- What sibylref1.Each answers: the runes ahead of the first byte that begins none, with their places, as a slice of the call s own, and that byte s place or -1; while the two tables of the decoder stand as laid. -/
import Derived.Test.YtpdlnpllhjcejaaDoorRunesPure
import Derived.Test.YtpdlnpllhjcejaaDoorRunesEach
import Derived.Test.YtpdlnpllhjcejaaDoorShelf
import Derived.Test.YtpdlnpllhjcejaaDoorRows
import Derived.WalkKit
import Derived.WalkLawsBesides
import Derived.WalkSpells
import Derived.ProofKit
import Derived.Outline
import Derived.Deep.QuietTactic
import Derived.BigQuiet
import Derived.Deep.Light
import Derived.Deep.CutBlock
import Derived.Deep.DeepCutAuto
import Derived.Deep.DeepFit
import Derived.Deep.LoopGhost
import Derived.Lib.Hide
import Derived.Lib.OthersKept
import Derived.IntWalk
namespace Go.Proofs.YtpdlnpllhjcejaaDoor
open Go.RowKit
theorem go_decode (s : ByteArray) (pos : Nat) (hp : pos < s.size) : Lib.decodeGo (s.extract pos s.size) = Utf8.decode s pos := by
  unfold Lib.decodeGo
  rw [Lib.tail_size, if_neg (by omega), Lib.tail_decode, Nat.add_zero]

theorem own_below {w w' : World} {B e size n : Nat} {v : Value} {xs : List Value} (h : w.ownsRow B e size v n xs) (hb : Below w.heap.size w w') : w'.ownsRow B e size v n xs := by
  obtain ⟨h1, h2⟩ := h
  refine ⟨h1, ?_⟩
  rcases h2 with h2 | ⟨g, cap, cur, a, b, c, d⟩
  · exact .inl h2
  · exact .inr ⟨g, cap, cur, a, b, by rw [hb.block g (lt_of_block c)]; exact c, d⟩

set_option maxRecDepth 1000000 in
set_option maxHeartbeats 2000000 in
theorem reach_any (s : ByteArray) (w : World) (hs : s.size ≤ 1000000) (hT : Lib.Utf8Tabs 1 2 w) :
    Calls Tryd.prog 30 #[.string s] w (EachPost s w) := by
  obtain ⟨i0, hi, hz0, hz1, hz2⟩ := info_parts Tryd.infoRune
  go_enter Tryd.func30, Tryd.ntmps30
  go_wp2
  go_loopw [4, 5] (fun v i wr => ∃ (pos b : Nat) (acc : List (Int × Int)), i = .int .i64 pos ∧ pos ≤ s.size ∧ wr.ownsRow w.heap.size 84 2 v acc.length (flat acc) ∧ Below w.heap.size w wr ∧ Hid (soFar s acc b pos) ∧ s.size ≤ pos + b ∧ acc.length ≤ pos) (fun _ i wr => s.size - (intOf i).toNat)
  case atStart => exact ⟨0, s.size, [], rfl, by omega, World.ownsRow_nil _ _ _ _, Below.refl _ _, soFar_start s, by omega, by simp⟩
  case round =>
    obtain ⟨pos, b, acc, rfl, hps, hown, hbw, HS, hb, hlen⟩ := hrel
    by_cases hp : pos < s.size
    · have hwd := width_pos s pos hp
      have hwl := width_le s pos hp
      have hTr := Utf8Tabs_below hT hbw
      obtain ⟨b, rfl⟩ : ∃ f', b = f' + 1 := ⟨b - 1, by omega⟩
      go_wp2_with fail
      refine (Tryd.utf8_DecodeRuneInString _ _ hTr).mono ?_
      rintro e w1 ⟨rfl, hb1⟩
      rw [go_decode s pos hp]
      have hown1 := own_below hown hb1
      have hbw1 : Below w.heap.size w w1 := hbw.trans (hb1.mono hbw.size)
      have hz1' := hbw1.size
      clear hown hb1 hTr
      by_cases hbad : badAt s pos
      · have hr1 : (((Utf8.decode s pos).1 : Int) == 65533) = true := by rw [beq_iff_eq]; have := hbad.1; omega
        have hn : ((Utf8.decode s pos).2 : Int) < 2 := by have := hbad.2; omega
        have hX := soFar_bad s acc b pos hp hbad HS.out
        have H1 := Lib.hid hX.1
        have H2 := Lib.hid hX.2
        clear hX HS hbad
        go_wp2
        go_ret2
        exact ⟨u4, ret_v H2.out, by rw [← H1.out]; exact hown1, hbw1⟩
      · have R := soFar_one s acc b pos hp hbad HS.out
        have HS' := Lib.hid R
        clear R HS
        by_cases hr : (Utf8.decode s pos).1 = 65533
        · have hr1 : (((Utf8.decode s pos).1 : Int) == 65533) = true := by rw [beq_iff_eq]; omega
          have hn : 2 ≤ ((Utf8.decode s pos).2 : Int) := by unfold badAt at hbad; omega
          clear hr hbad
          go_wp2_with (at_builtin; refine wpList_append_own _ rfl _ _ 53 rfl w.heap.size 84 i0 (.agg #[.int .i32 0, .int .i64 0]) 2 16 Tryd.underlying53 hi hz0 hz1 hz2 rfl (by decide) _ _ _ rfl (hown1.alloc _) ⟨w1.heap.size, 0, none⟩ 1 1 [.int .i32 ((Utf8.decode s pos).1 : Int), .int .i64 (pos : Int)] rfl rfl (cell_two_new _ _ _ _) (fun x hx => by simp at hx; rcases hx with rfl | rfl <;> rfl) (by unfold maxLen; omega) (by omega) (by simp; omega) ?_; intro v' w3 hown' hgrow3 hnil3)
          have hbw3 : Below w.heap.size w w3 := Below.grown (hbw1.alloc (by omega) _) hgrow3 (by simp; omega) (fun j hj => (hown1.lt _ hj).1)
          rw [← flat_snoc acc ((((Utf8.decode s pos).1 : Int), (pos : Int)))] at hown'
          go_wp2
          go_roundw
          case rel => exact ⟨pos + (Utf8.decode s pos).2, b, acc ++ [((((Utf8.decode s pos).1 : Int), (pos : Int)))], by go_num, hwl, by simpa using hown', hbw3, HS'.out, by omega, by simp; omega⟩
          case measure => simp [intOf]; omega
        · have hrb : (((Utf8.decode s pos).1 : Int) == 65533) = false := by rw [beq_eq_false_iff_ne]; omega
          clear hr hbad
          go_wp2_with (at_builtin; refine wpList_append_own _ rfl _ _ 53 rfl w.heap.size 84 i0 (.agg #[.int .i32 0, .int .i64 0]) 2 16 Tryd.underlying53 hi hz0 hz1 hz2 rfl (by decide) _ _ _ rfl (hown1.alloc _) ⟨w1.heap.size, 0, none⟩ 1 1 [.int .i32 ((Utf8.decode s pos).1 : Int), .int .i64 (pos : Int)] rfl rfl (cell_two_new _ _ _ _) (fun x hx => by simp at hx; rcases hx with rfl | rfl <;> rfl) (by unfold maxLen; omega) (by omega) (by simp; omega) ?_; intro v' w3 hown' hgrow3 hnil3)
          have hbw3 : Below w.heap.size w w3 := Below.grown (hbw1.alloc (by omega) _) hgrow3 (by simp; omega) (fun j hj => (hown1.lt _ hj).1)
          rw [← flat_snoc acc ((((Utf8.decode s pos).1 : Int), (pos : Int)))] at hown'
          go_wp2
          go_roundw
          case rel => exact ⟨pos + (Utf8.decode s pos).2, b, acc ++ [((((Utf8.decode s pos).1 : Int), (pos : Int)))], by go_num, hwl, by simpa using hown', hbw3, HS'.out, by omega, by simp; omega⟩
          case measure => simp [intOf]; omega
    · have hX := soFar_end s acc b pos hp HS.out
      have H1 := Lib.hid hX.1
      have H2 := Lib.hid hX.2
      clear hX HS
      go_wp2
      go_ret2
      exact ⟨u4, ret_v H2.out, by rw [← H1.out]; exact hown, hbw⟩
end Go.Proofs.YtpdlnpllhjcejaaDoor
