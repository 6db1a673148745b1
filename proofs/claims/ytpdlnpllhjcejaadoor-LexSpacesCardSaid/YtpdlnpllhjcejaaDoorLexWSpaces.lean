/- The walk of LexSpaces. -/
import Derived.Test.YtpdlnpllhjcejaaDoorLexSpc
import Derived.Test.YtpdlnpllhjcejaaDoorLexLens
import Derived.Test.YtpdlnpllhjcejaaDoorLexKnown
import Derived.Test.YtpdlnpllhjcejaaDoorLexPure2
import Derived.Test.YtpdlnpllhjcejaaDoorRows
import Derived.WalkKit
import Derived.WalkLawsBesides
import Derived.WalkSpells
import Derived.ProofKit
import Derived.Outline
import Derived.Deep.QuietTactic
import Derived.BigQuiet
import Derived.Deep.Light
import Derived.Deep.CutBlock
import Derived.Deep.DeepCutAuto
import Derived.Deep.DeepFit
import Derived.Deep.LoopGhost
import Derived.Lib.Hide
import Derived.Lib.OthersKept
import Derived.IntWalk
import Derived.StillTailTactics
namespace Go.Proofs.YtpdlnpllhjcejaaDoor
open Go.RowKit
def gapsCells : Array Value := (gaps.map Value.string).toArray
theorem gaps_cell {w : World} {B : Nat} (h : w.heap[B]? = some (.cells gapsCells 9)) (k : Nat) (hk : k < gaps.length) : w.cell? ⟨B, k, none⟩ = some (.string (gaps[k]'hk)) := by
  rw [cell_of_row w B k _ _ _ h]
  unfold gapsCells
  rw [List.getElem?_toArray, List.getElem?_map, List.getElem?_eq_getElem hk]
  rfl
theorem gaps_lit : (#[.string ⟨#[32]⟩, .string ⟨#[9, 10]⟩, .string ⟨#[35, 32, 120, 32, 60, 32, 51, 32, 206, 177, 10]⟩, .string ⟨#[13, 35, 32, 10]⟩] : Array Value) = gapsCells := rfl
theorem tok_at {w : World} {B : Nat} {v : Value} {T : List Tok} {e : Tok} (h : w.ownsRow B 30 4 v (T ++ [e]).length (flatT (T ++ [e]))) : ∃ g cap, v = .slice (some ⟨g, 0, none⟩) ((T.length + 1 : Nat)) cap := by
  obtain ⟨a, cap, rfl, hs⟩ := tok_slice h
  obtain ⟨g, rfl⟩ := hs (by simp)
  exact ⟨g, cap, by simp⟩
theorem tok_cells' {w : World} {B : Nat} {g cap : Nat} {T : List Tok} {e : Tok} (h : w.ownsRow B 30 4 (.slice (some ⟨g, 0, none⟩) (T.length + 1 : Nat) cap) (T ++ [e]).length (flatT (T ++ [e]))) :
    ∀ k (hk : k < T.length), w.cell? ⟨g, k * 4, none⟩ = some (.int .i64 T[k].kind) ∧ w.cell? ⟨g, k * 4 + 1, none⟩ = some (.string T[k].text) ∧ w.cell? ⟨g, k * 4 + 2, none⟩ = some (.int .i64 T[k].n) ∧ w.cell? ⟨g, k * 4 + 3, none⟩ = some (.int .i64 T[k].pos) := by
  intro k hk
  have hg := flatT_get (T ++ [e]) k (by simp; omega)
  rw [List.getElem_append_left hk] at hg
  rw [show (T ++ [e]).length = T.length + 1 by simp] at h
  exact ⟨(h.cellAt (k * 4) (by omega)).trans hg.1, (h.cellAt (k * 4 + 1) (by omega)).trans hg.2.1, (h.cellAt (k * 4 + 2) (by omega)).trans hg.2.2.1, (h.cellAt (k * 4 + 3) (by omega)).trans hg.2.2.2⟩
set_option maxRecDepth 100000 in
set_option maxHeartbeats 4000000 in
theorem spaces_walk (s : ByteArray) (way : Int) (w : World) (hm : s.size ≤ 140737488351232) (hTT : LTabs w ∧ Lib.Utf8Tabs 1 2 w) :
    Calls Tryd.prog 3 #[.string s, .int .i64 way] w fun e w' => e = .returned (.bool true) ∧ Below w.heap.size w w' := by
  obtain ⟨hT, hU⟩ := hTT
  by_cases h400 : s.size ≤ 400
  · by_cases hw0 : way < 0
    · go_enter Tryd.func3, Tryd.ntmps3
      go_wp2
      go_ret
      exact ⟨rfl, Below.refl _ _⟩
    by_cases hw3 : 3 < way
    · go_enter Tryd.func3, Tryd.ntmps3
      go_wp2
      go_ret
      exact ⟨rfl, Below.refl _ _⟩
    obtain ⟨k, rfl⟩ : ∃ k : Nat, way = k := ⟨way.toNat, by omega⟩
    have hk : k < gaps.length := by show k < 4; omega
    have hlen := toks_len s
    obtain ⟨⟨l, at', err⟩, ht⟩ : ∃ r, toks s = r := ⟨_, rfl⟩
    rw [ht] at hlen
    simp only [] at hlen
    have HT := Lib.hid ht
    clear ht
    have hms : s.size ≤ 1000000 := by omega
    by_cases herr : err = 0
    · subst herr
      have hk4 : (k : Int) < 4 := by omega
      have mG : (gaps[k]'hk) ∈ gaps := List.getElem_mem _
      have hgap := toks_gap (gaps[k]'hk) s l at' mG h400 HT.out
      have hgsz := (gap_gone (gaps[k]'hk) mG).2.2.1
      go_enter Tryd.func3, Tryd.ntmps3
      have HG := Lib.hid hgap
      have HM := Lib.hid mG
      clear hgap mG
      go_wp2_with fail
      refine (rtokens_is s l at' 0 _ hU hms HT.out).mono ?_
      rintro e w1 ⟨v1, rfl, hown1, hb1⟩
      have hsz1 := hb1.size
      have hcell := gaps_cell (w := w1.alloc (.cells gapsCells 9)) (B := w1.heap.size) (alloc_at _ _) k hk
      rw [← gaps_lit] at hcell
      generalize (gaps[k]'hk) = g at hcell HG HM hgsz
      obtain ⟨T, rfl, hpos, hgt⟩ := HG.out
      have hxz : (g ++ s ++ ⟨#[10]⟩ ++ g).size ≤ 1000000 := by rw [cat_size, cat_size, cat_size]; show g.size + s.size + 1 + g.size ≤ 1000000; omega
      have hba : Below w.heap.size w (w1.alloc (.cells gapsCells 9)) := hb1.alloc hsz1 _
      have hcall := tokens_is (g ++ s ++ ⟨#[10]⟩ ++ g) _ _ _ (w1.alloc (.cells gapsCells 9)) (hT.below hba) hxz hgt
      have HC := Lib.hid hcall
      clear hcall hgt HG HM
      have HP := Lib.hid hpos
      clear hpos
      go_wp2_with fail
      rw [gaps_lit]
      refine HC.out.mono ?_
      rintro e w2 ⟨v2, rfl, hown2, hb2⟩
      have hbb2 : Below w.heap.size w w2 := hba.trans (hb2.mono hba.size)
      have hown1' := own_below (own_below hown1 ((Below.refl _ _).alloc (Nat.le_refl _) (.cells gapsCells 9))) hb2
      have hsz2 := hbb2.size
      obtain ⟨g1, c1, rfl⟩ := tok_at hown1'
      obtain ⟨g2, c2, rfl⟩ := tok_at hown2
      have HT2 : T.length ≤ 100000 := by simp at hlen; omega
      clear hlen hcell hown1 hba hb2 HC
      have H1 := Lib.hid hown1'
      have H2 := Lib.hid hown2
      clear hown1' hown2
      have k1 : (((T.map (moved (g.size : Int))).length : Int)) = T.length := by rw [List.length_map]
      rw [List.length_map]
      go_wp2_with fail
      go_loopw [12] (fun i wr => ∃ j : Nat, i = .int .i64 j ∧ j ≤ T.length ∧ Below w2.heap.size w2 wr) (fun i _ => T.length - (intOf i).toNat)
      case atStart => exact ⟨0, rfl, by omega, Below.refl _ _⟩
      case round =>
        obtain ⟨j, rfl, hj, hbx⟩ := hrel
        by_cases hjl : j < T.length
        · have hd1 := (tok_cells' (own_below H1.out hbx)) j hjl
          have hd2 := (tok_cells' (own_below H2.out hbx)) j (by rw [List.length_map]; exact hjl)
          rw [List.getElem_map] at hd2
          have hp := HP.out T[j] (List.getElem_mem _)
          generalize T[j] = p at hd1 hd2 hp
          obtain ⟨kd, tx, nn, po⟩ := p
          simp only [moved] at hd1 hd2 hp
          obtain ⟨c10, c11, c12, c13⟩ := hd1
          obtain ⟨c20, c21, c22, c23⟩ := hd2
          obtain ⟨hp0, hp1⟩ := hp
          have q0 : (kd != kd) = false := by simp
          have q1 : (tx.toList != tx.toList) = false := by simp
          have q2 : (nn != nn) = false := by simp
          have q3 : ((po + (g.size : Int)) != (po + (g.size : Int))) = false := by simp
          have q4 : IntKind.i64.wrap (po + (g.size : Int)) = po + (g.size : Int) := IntWalk.i64_in _ (by omega)
          go_wp2
          go_quiet (fail)
          go_wp2
          go_roundw
          case rel => exact ⟨j + 1, by go_num, by omega, below_drewN hbx _⟩
          case measure => (try simp [intOf]); omega
        · have hbb3 := hbb2.trans (hbx.mono hbb2.size)
          go_wp2_with fail
          refine (known_any _ (hT.below hbb3)).mono ?_
          rintro e w7 ⟨rfl, hb7⟩
          go_wp2
          go_ret
          exact ⟨rfl, hbb3.trans (hb7.mono hbb3.size)⟩
    · have herr1 : (err == 0) = false := by simpa using herr
      have herr2 : decide (err = 0) = false := by simpa using herr
      go_enter Tryd.func3, Tryd.ntmps3
      go_wp2_with fail
      refine (rtokens_is s l at' err _ hU hms HT.out).mono ?_
      rintro e w1 ⟨v1, rfl, hown1, hb1⟩
      go_wp2
      go_ret
      exact ⟨rfl, hb1⟩
  · go_enter Tryd.func3, Tryd.ntmps3
    go_wp2
    go_ret
    exact ⟨rfl, Below.refl _ _⟩
end Go.Proofs.YtpdlnpllhjcejaaDoor
