/- Parts of the proof: RpB RpC RpD PPartR PPart2R PListR. -/
import Derived.Test.YtmpcmpeloebnhaaGreatDoorKP02
import Derived.Test.YtmpcmpeloebnhaaGreatDoorKP00
import Derived.Test.YtmpcmpeloebnhaaGreatDoorRows
import Derived.WalkKit
import Derived.WalkLawsBesides
import Derived.WalkSpells
import Derived.ProofKit
import Derived.Outline
import Derived.Deep.QuietTactic
import Derived.BigQuiet
import Derived.Deep.Light
import Derived.Deep.CutBlock
import Derived.Deep.DeepCutAuto
import Derived.Deep.DeepFit
import Derived.Deep.LoopGhost
import Derived.Lib.Hide
import Derived.Lib.OthersKept
import Derived.IntWalk
import Derived.StillTailTactics
import Derived.Deep.RegionHeld3
import Derived.Maps.AppendAt
namespace Go.Proofs.YtmpcmpeloebnhaaGreatDoor
open Go.RowKit
theorem ris_g (l : List Tok) (x : ByteArray) (w : World) (B : Nat) (hx : (x.toList == []) = false) (h : PrS w B (.good l)) : Calls Tryz.prog 26 #[.pointer (some ⟨B, 0, none⟩), .string x] w fun e w' => e = .returned (.bool ((wrd l).toList == x.toList)) ∧ Below w.heap.size w w' := by
 rcases bool_two ((wrd l).toList == x.toList) with hb | hb
 ·rw [hb]; exact ris_yes l x w B hx hb h
 ·rw [hb]; exact ris_no l x w B hb h
theorem word_kind {l : List Tok} {x : ByteArray} (h : ((wrd l).toList == x.toList) = true) (hx : (x.toList == []) = false) : ((hd l).kind == 4) = false := by
 have := (wrd_yes h hx).1
 have h3 : (hd l).kind = 3 := by simpa using this
 rw [h3]; rfl
set_option maxRecDepth 100000 in
set_option maxHeartbeats 4000000 in
theorem rtake_yes (l : List Tok) (x : ByteArray) (w : World) (B : Nat) (hx : (x.toList == []) = false) (hw : ((wrd l).toList == x.toList) = true) (h : PrS w B (.good l)) : Calls Tryz.prog 72 #[.pointer (some ⟨B, 0, none⟩), .string x] w fun e w' => e = .returned (.bool true) ∧ Kp B w w' ∧ PrS w' B (.good l.tail) := by
 have hk := word_kind hw hx
 have HC := Lib.hid (ris_yes l x w B hx hw h)
 have HS := Lib.hid h
 clear h hw hx
 go_enter Tryz.func72, Tryz.ntmps72
 go_wp2_with fail
 refine HC.out.mono ?_
 rintro e w2 ⟨rfl, hb2⟩
 have HN := Lib.hid (rnext_g l w2 B hk (HS.out.below hb2))
 have HK := Lib.hid (Kp.of_below (B := B) hb2)
 clear hb2 HC
 go_wp2_with fail
 refine HN.out.mono ?_
 rintro e w3 ⟨rfl, hk3, hs3⟩
 have HZ := Lib.hid (And.intro (HK.out.trans hk3) hs3)
 clear hk3 hs3 HN HK
 go_wp2_with fail
 go_ret
 exact ⟨rfl, HZ.out⟩
set_option maxRecDepth 100000 in
set_option maxHeartbeats 4000000 in
theorem rtake_no (l : List Tok) (x : ByteArray) (w : World) (B : Nat) (hw : ((wrd l).toList == x.toList) = false) (h : PrS w B (.good l)) : Calls Tryz.prog 72 #[.pointer (some ⟨B, 0, none⟩), .string x] w fun e w' => e = .returned (.bool false) ∧ Kp B w w' ∧ PrS w' B (.good l) := by
 have HC := Lib.hid (ris_no l x w B hw h)
 have HS := Lib.hid h
 clear h hw
 go_enter Tryz.func72, Tryz.ntmps72
 go_wp2_with fail
 refine HC.out.mono ?_
 rintro e w2 ⟨rfl, hb2⟩
 have HZ := Lib.hid (And.intro (Kp.of_below (B := B) hb2) (HS.out.below hb2))
 clear hb2 HC
 go_wp2_with fail
 go_ret
 exact ⟨rfl, HZ.out⟩
set_option maxRecDepth 100000 in
set_option maxHeartbeats 4000000 in
theorem rtake_b (x : ByteArray) (w : World) (B : Nat) (p e : Int) (h : PrS w B (.bad p e)) : Calls Tryz.prog 72 #[.pointer (some ⟨B, 0, none⟩), .string x] w fun y w' => y = .returned (.bool false) ∧ Kp B w w' ∧ PrS w' B (.bad p e) := by
 have HC := Lib.hid (ris_b x w B p e h)
 have HS := Lib.hid h
 clear h
 go_enter Tryz.func72, Tryz.ntmps72
 go_wp2_with fail
 refine HC.out.mono ?_
 rintro e1 w2 ⟨rfl, hb2⟩
 have HZ := Lib.hid (And.intro (Kp.of_below (B := B) hb2) (HS.out.below hb2))
 clear hb2 HC
 go_wp2_with fail
 go_ret
 exact ⟨rfl, HZ.out⟩
set_option maxRecDepth 100000 in
set_option maxHeartbeats 4000000 in
theorem rmust_yes (l : List Tok) (x : ByteArray) (w : World) (B : Nat) (hx : (x.toList == []) = false) (hw : ((wrd l).toList == x.toList) = true) (h : PrS w B (.good l)) : Calls Tryz.prog 31 #[.pointer (some ⟨B, 0, none⟩), .string x] w fun e w' => e = .returned (.tuple #[]) ∧ Kp B w w' ∧ PrS w' B (.good l.tail) := by
 have HC := Lib.hid (rtake_yes l x w B hx hw h)
 clear h hw hx
 go_enter Tryz.func31, Tryz.ntmps31
 go_wp2_with fail
 refine HC.out.mono ?_
 rintro e w2 ⟨rfl, hk2, hs2⟩
 have HZ := Lib.hid (And.intro hk2 hs2)
 clear hk2 hs2 HC
 go_wp2_with fail
 go_end0
 exact ⟨rfl, HZ.out⟩
set_option maxRecDepth 100000 in
set_option maxHeartbeats 4000000 in
theorem rmust_no (l : List Tok) (x : ByteArray) (w : World) (B : Nat) (hw : ((wrd l).toList == x.toList) = false) (h : PrS w B (.good l)) : Calls Tryz.prog 31 #[.pointer (some ⟨B, 0, none⟩), .string x] w fun e w' => e = .returned (.tuple #[]) ∧ Kp B w w' ∧ PrS w' B (.bad (hd l).pos 2) := by
 have HC := Lib.hid (rtake_no l x w B hw h)
 have f3 := tok_f3
 clear h hw
 go_enter Tryz.func31, Tryz.ntmps31
 go_wp2_with fail
 refine HC.out.mono ?_
 rintro e w2 ⟨rfl, hk2, hs2⟩
 have HN := Lib.hid (rnow_g l w2 B hs2)
 have HK := Lib.hid hk2
 have HS := Lib.hid hs2
 clear hk2 hs2 HC
 go_wp2_with fail
 refine HN.out.mono ?_
 rintro e w3 ⟨rfl, hb3⟩
 have HF := Lib.hid (rfail_g l (hd l).pos 2 w3 B rfl (HS.out.below hb3))
 have HK3 := Lib.hid (HK.out.below hb3)
 clear hb3 HN HK HS
 go_wp2_with fail
 refine HF.out.mono ?_
 rintro e w4 ⟨rfl, hk4, hs4⟩
 have HZ := Lib.hid (And.intro (HK3.out.trans hk4) hs4)
 clear hk4 hs4 HF HK3
 go_wp2_with fail
 go_end0
 exact ⟨rfl, HZ.out⟩
set_option maxRecDepth 100000 in
set_option maxHeartbeats 4000000 in
theorem rmust_b (x : ByteArray) (w : World) (B : Nat) (p e : Int) (h : PrS w B (.bad p e)) : Calls Tryz.prog 31 #[.pointer (some ⟨B, 0, none⟩), .string x] w fun y w' => y = .returned (.tuple #[]) ∧ Kp B w w' ∧ PrS w' B (.bad p e) := by
 have HC := Lib.hid (rtake_b x w B p e h)
 have f3 := tok_f3
 clear h
 go_enter Tryz.func31, Tryz.ntmps31
 go_wp2_with fail
 refine HC.out.mono ?_
 rintro e1 w2 ⟨rfl, hk2, hs2⟩
 have HN := Lib.hid (rnow_b w2 B p e hs2)
 have HK := Lib.hid hk2
 have HS := Lib.hid hs2
 clear hk2 hs2 HC
 go_wp2_with fail
 refine HN.out.mono ?_
 rintro e1 w3 ⟨rfl, hb3⟩
 have HF := Lib.hid (rfail_b 0 2 p e w3 B (HS.out.below hb3))
 have HK3 := Lib.hid (HK.out.below hb3)
 clear hb3 HN HK HS
 go_wp2_with fail
 refine HF.out.mono ?_
 rintro e1 w4 ⟨rfl, hk4, hs4⟩
 have HZ := Lib.hid (And.intro (HK3.out.trans hk4) hs4)
 clear hk4 hs4 HF HK3
 go_wp2_with fail
 go_end0
 exact ⟨rfl, HZ.out⟩
set_option maxRecDepth 100000 in
set_option maxHeartbeats 4000000 in
theorem rname_yes (l : List Tok) (w : World) (B : Nat) (hk : ((hd l).kind == 1) = true) (h : PrS w B (.good l)) : Calls Tryz.prog 70 #[.pointer (some ⟨B, 0, none⟩)] w fun e w' => e = .returned (tokVal (hd l)) ∧ Kp B w w' ∧ PrS w' B (.good l.tail) := by
  have hc4 := cellsTok
  have f0 := tok_f0
  have hB := h.lt
  have hk4 : ((hd l).kind == 4) = false := by have : (hd l).kind = 1 := by simpa using hk
                                              rw [this]; rfl
  have HC := Lib.hid (rnow_g l (w.alloc (tokBox 0 ⟨#[]⟩ 0 0)) B (h.alloc _))
  have HS := Lib.hid (h.alloc (tokBox 0 ⟨#[]⟩ 0 0))
  have HN := Lib.hid (new_at w (tokBox 0 ⟨#[]⟩ 0 0))
  have HK4 := Lib.hid hk4
  clear h hk4
  go_enter Tryz.func70, Tryz.ntmps70
  go_wp2_with fail
  refine HC.out.mono ?_
  rintro e w2 ⟨rfl, hb2⟩
  have HX := Lib.hid (rnext_g l w2 B HK4.out (HS.out.below hb2))
  have HN2 : Hid (w2.heap[w.heap.size]? = some (tokBox 0 ⟨#[]⟩ 0 0)) := Lib.hid ((hb2.block _ (by simp)).trans HN.out)
  have HK := Lib.hid (Kp.of_below (B := B) (box_then hb2))
  clear hb2 HC HS
  go_wp2_with fail
  refine HX.out.mono ?_
  rintro e w3 ⟨rfl, hk3, hs3⟩
  have HN3 := Lib.hid ((hk3.block _ (lt_heap HN2.out) (by simp; omega)).trans HN2.out)
  obtain ⟨⟨r0, r1, r2, r3⟩, s0, s1, s2, s3⟩ := tok_cells HN3.out
  have HK3 := Lib.hid (HK.out.trans hk3)
  have HS3 := Lib.hid hs3
  clear hk3 hs3 HX HK
  go_wp2_with fail
  have hT := tok_set HN3.out (hd l).kind (hd l).n (hd l).pos (hd l).text
  refine ret_tok Tryz.results70 rfl rfl hT ⟨rfl, ((((HK3.out.set (Nat.le_refl _) _).set (Nat.le_refl _) _).set (Nat.le_refl _) _).set (Nat.le_refl _) _), ?_⟩
  exact HS3.out.same fun g hg => set4_other (by omega) _ _ _ _
set_option maxRecDepth 100000 in
set_option maxHeartbeats 4000000 in
theorem rname_no (l : List Tok) (w : World) (B : Nat) (hk : ((hd l).kind == 1) = false) (h : PrS w B (.good l)) : Calls Tryz.prog 70 #[.pointer (some ⟨B, 0, none⟩)] w fun e w' => e = .returned (tokVal ⟨0, ⟨#[]⟩, 0, 0⟩) ∧ Kp B w w' ∧ PrS w' B (.bad (hd l).pos 2) := by
 have hc4 := cellsTok
 have f0 := tok_f0
 have f3 := tok_f3
 have hB := h.lt
 have HC := Lib.hid (rnow_g l (w.alloc (tokBox 0 ⟨#[]⟩ 0 0)) B (h.alloc _))
 have HS := Lib.hid (h.alloc (tokBox 0 ⟨#[]⟩ 0 0))
 have HN := Lib.hid (new_at w (tokBox 0 ⟨#[]⟩ 0 0))
 clear h
 go_enter Tryz.func70, Tryz.ntmps70
 go_wp2_with fail
 refine HC.out.mono ?_
 rintro e w2 ⟨rfl, hb2⟩
 have HX := Lib.hid (rnow_g l w2 B (HS.out.below hb2))
 have HN2 : Hid (w2.heap[w.heap.size]? = some (tokBox 0 ⟨#[]⟩ 0 0)) := Lib.hid ((hb2.block _ (by simp)).trans HN.out)
 have HK := Lib.hid (Kp.of_below (B := B) (box_then hb2))
 have HS2 := Lib.hid (HS.out.below hb2)
 clear hb2 HC HS
 go_wp2_with fail
 refine HX.out.mono ?_
 rintro e w3 ⟨rfl, hb3⟩
 have HF := Lib.hid (rfail_g l (hd l).pos 2 w3 B rfl (HS2.out.below hb3))
 have HN3 := Lib.hid ((hb3.block _ (lt_heap HN2.out)).trans HN2.out)
 have HK3 := Lib.hid (HK.out.below hb3)
 clear hb3 HX HK HS2
 go_wp2_with fail
 refine HF.out.mono ?_
 rintro e w4 ⟨rfl, hk4, hs4⟩
 have HN4 := Lib.hid ((hk4.block _ (lt_heap HN3.out) (by simp; omega)).trans HN3.out)
 obtain ⟨⟨r0, r1, r2, r3⟩, s0, s1, s2, s3⟩ := tok_cells HN4.out
 have HK4 := Lib.hid (HK3.out.trans hk4)
 have HS4 := Lib.hid hs4
 clear hk4 hs4 HF HK3
 go_wp2_with fail
 have hT := tok_set HN4.out 0 0 0 ⟨#[]⟩
 refine ret_tok Tryz.results70 rfl rfl hT ⟨rfl, ((((HK4.out.set (Nat.le_refl _) _).set (Nat.le_refl _) _).set (Nat.le_refl _) _).set (Nat.le_refl _) _), ?_⟩
 exact HS4.out.same fun g hg => set4_other (by omega) _ _ _ _
set_option maxRecDepth 100000 in
set_option maxHeartbeats 4000000 in
theorem rname_b (w : World) (B : Nat) (p q : Int) (h : PrS w B (.bad p q)) : Calls Tryz.prog 70 #[.pointer (some ⟨B, 0, none⟩)] w fun e w' => e = .returned (tokVal ⟨0, ⟨#[]⟩, 0, 0⟩) ∧ Kp B w w' ∧ PrS w' B (.bad p q) := by
 have hc4 := cellsTok
 have f0 := tok_f0
 have f3 := tok_f3
 have hB := h.lt
 have HC := Lib.hid (rnow_b (w.alloc (tokBox 0 ⟨#[]⟩ 0 0)) B p q (h.alloc _))
 have HS := Lib.hid (h.alloc (tokBox 0 ⟨#[]⟩ 0 0))
 have HN := Lib.hid (new_at w (tokBox 0 ⟨#[]⟩ 0 0))
 clear h
 go_enter Tryz.func70, Tryz.ntmps70
 go_wp2_with fail
 refine HC.out.mono ?_
 rintro e w2 ⟨rfl, hb2⟩
 have HX := Lib.hid (rnow_b w2 B p q (HS.out.below hb2))
 have HN2 : Hid (w2.heap[w.heap.size]? = some (tokBox 0 ⟨#[]⟩ 0 0)) := Lib.hid ((hb2.block _ (by simp)).trans HN.out)
 have HK := Lib.hid (Kp.of_below (B := B) (box_then hb2))
 have HS2 := Lib.hid (HS.out.below hb2)
 clear hb2 HC HS
 go_wp2_with fail
 refine HX.out.mono ?_
 rintro e w3 ⟨rfl, hb3⟩
 have HF := Lib.hid (rfail_b 0 2 p q w3 B (HS2.out.below hb3))
 have HN3 := Lib.hid ((hb3.block _ (lt_heap HN2.out)).trans HN2.out)
 have HK3 := Lib.hid (HK.out.below hb3)
 clear hb3 HX HK HS2
 go_wp2_with fail
 refine HF.out.mono ?_
 rintro e w4 ⟨rfl, hk4, hs4⟩
 have HN4 := Lib.hid ((hk4.block _ (lt_heap HN3.out) (by simp; omega)).trans HN3.out)
 obtain ⟨⟨r0, r1, r2, r3⟩, s0, s1, s2, s3⟩ := tok_cells HN4.out
 have HK4 := Lib.hid (HK3.out.trans hk4)
 have HS4 := Lib.hid hs4
 clear hk4 hs4 HF HK3
 go_wp2_with fail
 have hT := tok_set HN4.out 0 0 0 ⟨#[]⟩
 refine ret_tok Tryz.results70 rfl rfl hT ⟨rfl, ((((HK4.out.set (Nat.le_refl _) _).set (Nat.le_refl _) _).set (Nat.le_refl _) _).set (Nat.le_refl _) _), ?_⟩
 exact HS4.out.same fun g hg => set4_other (by omega) _ _ _ _
set_option maxRecDepth 100000 in
set_option maxHeartbeats 4000000 in
theorem renter_ok (l : List Tok) (d : Nat) (w : World) (B : Nat) (hd' : (d : Int) < 30) (h : PrS w B (.good l)) : Calls Tryz.prog 73 #[.pointer (some ⟨B, 0, none⟩), .int .i64 d] w fun e w' => e = .returned (.bool true) ∧ Kp B w w' ∧ PrS w' B (.good l) := by
 have hB := h.lt
 have HS := Lib.hid h
 obtain ⟨a, L, cap, i, h1, _⟩ := h
 obtain ⟨⟨k0, k1, k2, k3⟩, _⟩ := h1.cells
 have hd2 : ¬ (30 : Int) ≤ (d : Int) := by omega
 clear h1
 go_enter Tryz.func73, Tryz.ntmps73
 go_wp2_with fail
 go_ret
 exact ⟨rfl, Kp.refl _ _, HS.out⟩
set_option maxRecDepth 100000 in
set_option maxHeartbeats 4000000 in
theorem renter_deep (l : List Tok) (d : Nat) (w : World) (B : Nat) (hd' : ¬ (d : Int) < 30) (h : PrS w B (.good l)) : Calls Tryz.prog 73 #[.pointer (some ⟨B, 0, none⟩), .int .i64 d] w fun e w' => e = .returned (.bool false) ∧ Kp B w w' ∧ PrS w' B (.bad (hd l).pos 4) := by
 have hB := h.lt
 have f3 := tok_f3
 have HS := Lib.hid h
 have HN := Lib.hid (rnow_g l w B h)
 have hd2 : (30 : Int) ≤ (d : Int) := by omega
 clear h
 go_enter Tryz.func73, Tryz.ntmps73
 go_wp2_with fail
 refine HN.out.mono ?_
 rintro e w2 ⟨rfl, hb2⟩
 have HF := Lib.hid (rfail_g l (hd l).pos 4 w2 B rfl (HS.out.below hb2))
 have HK := Lib.hid (Kp.of_below (B := B) hb2)
 clear hb2 HN HS
 go_wp2_with fail
 refine HF.out.mono ?_
 rintro e w3 ⟨rfl, hk3, hs3⟩
 have HS3 := Lib.hid hs3
 obtain ⟨a, len, cap, i, h1, he⟩ := hs3
 obtain ⟨⟨k0, k1, k2, k3⟩, _⟩ := h1.cells
 have HK3 := Lib.hid (HK.out.trans hk3)
 clear hk3 HF HK h1
 go_wp2_with fail
 go_ret
 exact ⟨rfl, HK3.out, HS3.out⟩
set_option maxRecDepth 100000 in
set_option maxHeartbeats 4000000 in
theorem renter_b (d : Nat) (w : World) (B : Nat) (p q : Int) (h : PrS w B (.bad p q)) : Calls Tryz.prog 73 #[.pointer (some ⟨B, 0, none⟩), .int .i64 d] w fun e w' => e = .returned (.bool false) ∧ Kp B w w' ∧ PrS w' B (.bad p q) := by
 have hB := h.lt
 have f3 := tok_f3
 have HS := Lib.hid h
 by_cases hd2 : (30 : Int) ≤ (d : Int)
 ·have HN := Lib.hid (rnow_b w B p q h)
  clear h
  go_enter Tryz.func73, Tryz.ntmps73
  go_wp2_with fail
  refine HN.out.mono ?_
  rintro e w2 ⟨rfl, hb2⟩
  have HF := Lib.hid (rfail_b 0 4 p q w2 B (HS.out.below hb2))
  have HK := Lib.hid (Kp.of_below (B := B) hb2)
  clear hb2 HN HS
  go_wp2_with fail
  refine HF.out.mono ?_
  rintro e w3 ⟨rfl, hk3, hs3⟩
  have HS3 := Lib.hid hs3
  obtain ⟨a, len, cap, i, h1, he⟩ := hs3
  obtain ⟨⟨k0, k1, k2, k3⟩, _⟩ := h1.cells
  have HK3 := Lib.hid (HK.out.trans hk3)
  clear hk3 HF HK h1
  go_wp2_with fail
  go_ret
  exact ⟨rfl, HK3.out, HS3.out⟩
 ·obtain ⟨a, len, cap, i, h1, he⟩ := h
  obtain ⟨⟨k0, k1, k2, k3⟩, _⟩ := h1.cells
  clear h1
  go_enter Tryz.func73, Tryz.ntmps73
  go_wp2_with fail
  go_ret
  exact ⟨rfl, Kp.refl _ _, HS.out⟩
end Go.Proofs.YtmpcmpeloebnhaaGreatDoor
namespace Go.Proofs.YtmpcmpeloebnhaaGreatDoor
open Go.RowKit
def ordOf (pre : List UInt8) (l : List Tok) : Int := if (wrd l).toList == pre ++ [48] then 0 else if (wrd l).toList == pre ++ [49] then 1 else if (wrd l).toList == pre ++ [50] then 2 else -1
theorem conv_k (w : World) (c : UInt8) : (convert 107 9 (.slice (some ⟨w.heap.size, 0, none⟩) 1 1)).run Tryz.prog (w.alloc (.cells #[.int .u8 (c.toNat : Int)] 5)) = .ok (.string ⟨#[c]⟩) (w.alloc (.cells #[.int .u8 (c.toNat : Int)] 5)) :=
 run_convert_bytes_back _ 107 9 5 ⟨w.heap.size, 0, none⟩ 1 [c] Tryz.underlying107 Tryz.underlying5 Tryz.underlying9 (fun j hj => by
  obtain rfl : j = 0 := by simpa using hj
  simp [Addr.add])
set_option maxRecDepth 100000 in
set_option maxHeartbeats 4000000 in
theorem rord_ex_g (l : List Tok) (w : World) (B : Nat) (h : PrS w B (.good l)) : Calls Tryz.prog 27 #[.pointer (some ⟨B, 0, none⟩), .string ⟨#[101, 120]⟩] w fun y w' => y = .returned (.int .i64 (ordOf [101, 120] l)) ∧ Below w.heap.size w w' := by
 have HS := Lib.hid h
 clear h
 obtain ⟨r, hr⟩ : ∃ r, r = ordOf [101, 120] l := ⟨_, rfl⟩
 rw [← hr]
 have HR := Lib.hid hr
 clear hr
 go_enter Tryz.func27, Tryz.ntmps27
 go_wp2
 go_loopw [5] (fun i wr => ∃ k : Int, i = .int .i64 k ∧ (0 ≤ k ∧ k ≤ 3) ∧ Hid (r = (if (wrd l).toList == [101, 120] ++ [48] && decide (k ≤ 0) then 0 else if (wrd l).toList == [101, 120] ++ [49] && decide (k ≤ 1) then 1 else if (wrd l).toList == [101, 120] ++ [50] && decide (k ≤ 2) then 2 else -1)) ∧ Hid (Below w.heap.size w wr)) (fun i _ => 3 - (intOf i).toNat)
 case atStart => exact ⟨0, rfl, ⟨by omega, by omega⟩, Lib.hid (by rw [HR.out]; unfold ordOf; simp), Lib.hid (Below.refl _ _)⟩
 case round =>
  obtain ⟨k, rfl, ⟨hk0, hk⟩, HE, HB⟩ := hrel
  have hcs : k = 0 ∨ k = 1 ∨ k = 2 ∨ k = 3 := by omega
  clear hk hk0
  rcases hcs with rfl | rfl | rfl | rfl
  ·have hcv : (convert 107 9 (.slice (some ⟨wr.heap.size, 0, none⟩) 1 1)).run Tryz.prog (wr.alloc (.cells #[.int .u8 48] 5)) = .ok (.string ⟨#[48]⟩) (wr.alloc (.cells #[.int .u8 48] 5)) := conv_k wr 48
   have hx : ((⟨#[101, 120]⟩ ++ ⟨#[48]⟩ : ByteArray).toList == []) = false := by decide +kernel
   have hw2 : (⟨#[101, 120]⟩ ++ ⟨#[48]⟩ : ByteArray).toList = [101, 120] ++ [48] := by decide +kernel
   have HC := Lib.hid (ris_g l (⟨#[101, 120]⟩ ++ ⟨#[48]⟩ : ByteArray) (wr.alloc (.cells #[.int .u8 48] 5)) B hx ((HS.out.below HB.out).alloc _))
   rw [hw2] at HC
   have he := HE.out
   generalize hq : ((wrd l).toList == [101, 120] ++ [48]) = q at HC he
   cases q with
   | true =>
    have hr : r = 0 := by rw [he]; simp
    subst hr
    clear HE he hq hx hw2
    go_wp2_with fail
    refine HC.out.mono ?_
    rintro e2 w2 ⟨rfl, hb2⟩
    have hbb := HB.out.trans ((box_then hb2).mono HB.out.size)
    clear hb2 HC HB
    go_wp2_with fail
    go_ret
    exact ⟨rfl, hbb⟩
   | false =>
    have HE2 := Lib.hid (show r = _ from he)
    clear HE he hx hw2
    go_wp2_with fail
    refine HC.out.mono ?_
    rintro e2 w2 ⟨rfl, hb2⟩
    have HB2 := Lib.hid (HB.out.trans ((box_then hb2).mono HB.out.size))
    clear hb2 HC HB
    go_wp2_with fail
    go_roundw
    case rel => exact ⟨1, rfl, ⟨by omega, by omega⟩, Lib.hid (by rw [HE2.out]; simp), HB2⟩
    case measure => (try simp [intOf]); try omega
  ·have hcv : (convert 107 9 (.slice (some ⟨wr.heap.size, 0, none⟩) 1 1)).run Tryz.prog (wr.alloc (.cells #[.int .u8 49] 5)) = .ok (.string ⟨#[49]⟩) (wr.alloc (.cells #[.int .u8 49] 5)) := conv_k wr 49
   have hx : ((⟨#[101, 120]⟩ ++ ⟨#[49]⟩ : ByteArray).toList == []) = false := by decide +kernel
   have hw2 : (⟨#[101, 120]⟩ ++ ⟨#[49]⟩ : ByteArray).toList = [101, 120] ++ [49] := by decide +kernel
   have HC := Lib.hid (ris_g l (⟨#[101, 120]⟩ ++ ⟨#[49]⟩ : ByteArray) (wr.alloc (.cells #[.int .u8 49] 5)) B hx ((HS.out.below HB.out).alloc _))
   rw [hw2] at HC
   have he := HE.out
   generalize hq : ((wrd l).toList == [101, 120] ++ [49]) = q at HC he
   cases q with
   | true =>
    have hr : r = 1 := by rw [he]; simp
    subst hr
    clear HE he hq hx hw2
    go_wp2_with fail
    refine HC.out.mono ?_
    rintro e2 w2 ⟨rfl, hb2⟩
    have hbb := HB.out.trans ((box_then hb2).mono HB.out.size)
    clear hb2 HC HB
    go_wp2_with fail
    go_ret
    exact ⟨rfl, hbb⟩
   | false =>
    have HE2 := Lib.hid (show r = _ from he)
    clear HE he hx hw2
    go_wp2_with fail
    refine HC.out.mono ?_
    rintro e2 w2 ⟨rfl, hb2⟩
    have HB2 := Lib.hid (HB.out.trans ((box_then hb2).mono HB.out.size))
    clear hb2 HC HB
    go_wp2_with fail
    go_roundw
    case rel => exact ⟨2, rfl, ⟨by omega, by omega⟩, Lib.hid (by rw [HE2.out]; simp), HB2⟩
    case measure => (try simp [intOf]); try omega
  ·have hcv : (convert 107 9 (.slice (some ⟨wr.heap.size, 0, none⟩) 1 1)).run Tryz.prog (wr.alloc (.cells #[.int .u8 50] 5)) = .ok (.string ⟨#[50]⟩) (wr.alloc (.cells #[.int .u8 50] 5)) := conv_k wr 50
   have hx : ((⟨#[101, 120]⟩ ++ ⟨#[50]⟩ : ByteArray).toList == []) = false := by decide +kernel
   have hw2 : (⟨#[101, 120]⟩ ++ ⟨#[50]⟩ : ByteArray).toList = [101, 120] ++ [50] := by decide +kernel
   have HC := Lib.hid (ris_g l (⟨#[101, 120]⟩ ++ ⟨#[50]⟩ : ByteArray) (wr.alloc (.cells #[.int .u8 50] 5)) B hx ((HS.out.below HB.out).alloc _))
   rw [hw2] at HC
   have he := HE.out
   generalize hq : ((wrd l).toList == [101, 120] ++ [50]) = q at HC he
   cases q with
   | true =>
    have hr : r = 2 := by rw [he]; simp
    subst hr
    clear HE he hq hx hw2
    go_wp2_with fail
    refine HC.out.mono ?_
    rintro e2 w2 ⟨rfl, hb2⟩
    have hbb := HB.out.trans ((box_then hb2).mono HB.out.size)
    clear hb2 HC HB
    go_wp2_with fail
    go_ret
    exact ⟨rfl, hbb⟩
   | false =>
    have HE2 := Lib.hid (show r = _ from he)
    clear HE he hx hw2
    go_wp2_with fail
    refine HC.out.mono ?_
    rintro e2 w2 ⟨rfl, hb2⟩
    have HB2 := Lib.hid (HB.out.trans ((box_then hb2).mono HB.out.size))
    clear hb2 HC HB
    go_wp2_with fail
    go_roundw
    case rel => exact ⟨3, rfl, ⟨by omega, by omega⟩, Lib.hid (by rw [HE2.out]; simp), HB2⟩
    case measure => (try simp [intOf]); try omega
  ·have hr : r = -1 := by rw [HE.out]; simp
   subst hr
   clear HE
   go_wp2
   go_ret
   exact ⟨rfl, HB.out⟩
set_option maxRecDepth 100000 in
set_option maxHeartbeats 4000000 in
theorem rord_all_g (l : List Tok) (w : World) (B : Nat) (h : PrS w B (.good l)) : Calls Tryz.prog 27 #[.pointer (some ⟨B, 0, none⟩), .string ⟨#[97, 108, 108]⟩] w fun y w' => y = .returned (.int .i64 (ordOf [97, 108, 108] l)) ∧ Below w.heap.size w w' := by
 have HS := Lib.hid h
 clear h
 obtain ⟨r, hr⟩ : ∃ r, r = ordOf [97, 108, 108] l := ⟨_, rfl⟩
 rw [← hr]
 have HR := Lib.hid hr
 clear hr
 go_enter Tryz.func27, Tryz.ntmps27
 go_wp2
 go_loopw [5] (fun i wr => ∃ k : Int, i = .int .i64 k ∧ (0 ≤ k ∧ k ≤ 3) ∧ Hid (r = (if (wrd l).toList == [97, 108, 108] ++ [48] && decide (k ≤ 0) then 0 else if (wrd l).toList == [97, 108, 108] ++ [49] && decide (k ≤ 1) then 1 else if (wrd l).toList == [97, 108, 108] ++ [50] && decide (k ≤ 2) then 2 else -1)) ∧ Hid (Below w.heap.size w wr)) (fun i _ => 3 - (intOf i).toNat)
 case atStart => exact ⟨0, rfl, ⟨by omega, by omega⟩, Lib.hid (by rw [HR.out]; unfold ordOf; simp), Lib.hid (Below.refl _ _)⟩
 case round =>
  obtain ⟨k, rfl, ⟨hk0, hk⟩, HE, HB⟩ := hrel
  have hcs : k = 0 ∨ k = 1 ∨ k = 2 ∨ k = 3 := by omega
  clear hk hk0
  rcases hcs with rfl | rfl | rfl | rfl
  ·have hcv : (convert 107 9 (.slice (some ⟨wr.heap.size, 0, none⟩) 1 1)).run Tryz.prog (wr.alloc (.cells #[.int .u8 48] 5)) = .ok (.string ⟨#[48]⟩) (wr.alloc (.cells #[.int .u8 48] 5)) := conv_k wr 48
   have hx : ((⟨#[97, 108, 108]⟩ ++ ⟨#[48]⟩ : ByteArray).toList == []) = false := by decide +kernel
   have hw2 : (⟨#[97, 108, 108]⟩ ++ ⟨#[48]⟩ : ByteArray).toList = [97, 108, 108] ++ [48] := by decide +kernel
   have HC := Lib.hid (ris_g l (⟨#[97, 108, 108]⟩ ++ ⟨#[48]⟩ : ByteArray) (wr.alloc (.cells #[.int .u8 48] 5)) B hx ((HS.out.below HB.out).alloc _))
   rw [hw2] at HC
   have he := HE.out
   generalize hq : ((wrd l).toList == [97, 108, 108] ++ [48]) = q at HC he
   cases q with
   | true =>
    have hr : r = 0 := by rw [he]; simp
    subst hr
    clear HE he hq hx hw2
    go_wp2_with fail
    refine HC.out.mono ?_
    rintro e2 w2 ⟨rfl, hb2⟩
    have hbb := HB.out.trans ((box_then hb2).mono HB.out.size)
    clear hb2 HC HB
    go_wp2_with fail
    go_ret
    exact ⟨rfl, hbb⟩
   | false =>
    have HE2 := Lib.hid (show r = _ from he)
    clear HE he hx hw2
    go_wp2_with fail
    refine HC.out.mono ?_
    rintro e2 w2 ⟨rfl, hb2⟩
    have HB2 := Lib.hid (HB.out.trans ((box_then hb2).mono HB.out.size))
    clear hb2 HC HB
    go_wp2_with fail
    go_roundw
    case rel => exact ⟨1, rfl, ⟨by omega, by omega⟩, Lib.hid (by rw [HE2.out]; simp), HB2⟩
    case measure => (try simp [intOf]); try omega
  ·have hcv : (convert 107 9 (.slice (some ⟨wr.heap.size, 0, none⟩) 1 1)).run Tryz.prog (wr.alloc (.cells #[.int .u8 49] 5)) = .ok (.string ⟨#[49]⟩) (wr.alloc (.cells #[.int .u8 49] 5)) := conv_k wr 49
   have hx : ((⟨#[97, 108, 108]⟩ ++ ⟨#[49]⟩ : ByteArray).toList == []) = false := by decide +kernel
   have hw2 : (⟨#[97, 108, 108]⟩ ++ ⟨#[49]⟩ : ByteArray).toList = [97, 108, 108] ++ [49] := by decide +kernel
   have HC := Lib.hid (ris_g l (⟨#[97, 108, 108]⟩ ++ ⟨#[49]⟩ : ByteArray) (wr.alloc (.cells #[.int .u8 49] 5)) B hx ((HS.out.below HB.out).alloc _))
   rw [hw2] at HC
   have he := HE.out
   generalize hq : ((wrd l).toList == [97, 108, 108] ++ [49]) = q at HC he
   cases q with
   | true =>
    have hr : r = 1 := by rw [he]; simp
    subst hr
    clear HE he hq hx hw2
    go_wp2_with fail
    refine HC.out.mono ?_
    rintro e2 w2 ⟨rfl, hb2⟩
    have hbb := HB.out.trans ((box_then hb2).mono HB.out.size)
    clear hb2 HC HB
    go_wp2_with fail
    go_ret
    exact ⟨rfl, hbb⟩
   | false =>
    have HE2 := Lib.hid (show r = _ from he)
    clear HE he hx hw2
    go_wp2_with fail
    refine HC.out.mono ?_
    rintro e2 w2 ⟨rfl, hb2⟩
    have HB2 := Lib.hid (HB.out.trans ((box_then hb2).mono HB.out.size))
    clear hb2 HC HB
    go_wp2_with fail
    go_roundw
    case rel => exact ⟨2, rfl, ⟨by omega, by omega⟩, Lib.hid (by rw [HE2.out]; simp), HB2⟩
    case measure => (try simp [intOf]); try omega
  ·have hcv : (convert 107 9 (.slice (some ⟨wr.heap.size, 0, none⟩) 1 1)).run Tryz.prog (wr.alloc (.cells #[.int .u8 50] 5)) = .ok (.string ⟨#[50]⟩) (wr.alloc (.cells #[.int .u8 50] 5)) := conv_k wr 50
   have hx : ((⟨#[97, 108, 108]⟩ ++ ⟨#[50]⟩ : ByteArray).toList == []) = false := by decide +kernel
   have hw2 : (⟨#[97, 108, 108]⟩ ++ ⟨#[50]⟩ : ByteArray).toList = [97, 108, 108] ++ [50] := by decide +kernel
   have HC := Lib.hid (ris_g l (⟨#[97, 108, 108]⟩ ++ ⟨#[50]⟩ : ByteArray) (wr.alloc (.cells #[.int .u8 50] 5)) B hx ((HS.out.below HB.out).alloc _))
   rw [hw2] at HC
   have he := HE.out
   generalize hq : ((wrd l).toList == [97, 108, 108] ++ [50]) = q at HC he
   cases q with
   | true =>
    have hr : r = 2 := by rw [he]; simp
    subst hr
    clear HE he hq hx hw2
    go_wp2_with fail
    refine HC.out.mono ?_
    rintro e2 w2 ⟨rfl, hb2⟩
    have hbb := HB.out.trans ((box_then hb2).mono HB.out.size)
    clear hb2 HC HB
    go_wp2_with fail
    go_ret
    exact ⟨rfl, hbb⟩
   | false =>
    have HE2 := Lib.hid (show r = _ from he)
    clear HE he hx hw2
    go_wp2_with fail
    refine HC.out.mono ?_
    rintro e2 w2 ⟨rfl, hb2⟩
    have HB2 := Lib.hid (HB.out.trans ((box_then hb2).mono HB.out.size))
    clear hb2 HC HB
    go_wp2_with fail
    go_roundw
    case rel => exact ⟨3, rfl, ⟨by omega, by omega⟩, Lib.hid (by rw [HE2.out]; simp), HB2⟩
    case measure => (try simp [intOf]); try omega
  ·have hr : r = -1 := by rw [HE.out]; simp
   subst hr
   clear HE
   go_wp2
   go_ret
   exact ⟨rfl, HB.out⟩
set_option maxRecDepth 100000 in
set_option maxHeartbeats 4000000 in
theorem rord_var_g (l : List Tok) (w : World) (B : Nat) (h : PrS w B (.good l)) : Calls Tryz.prog 27 #[.pointer (some ⟨B, 0, none⟩), .string ⟨#[118, 97, 114]⟩] w fun y w' => y = .returned (.int .i64 (ordOf [118, 97, 114] l)) ∧ Below w.heap.size w w' := by
 have HS := Lib.hid h
 clear h
 obtain ⟨r, hr⟩ : ∃ r, r = ordOf [118, 97, 114] l := ⟨_, rfl⟩
 rw [← hr]
 have HR := Lib.hid hr
 clear hr
 go_enter Tryz.func27, Tryz.ntmps27
 go_wp2
 go_loopw [5] (fun i wr => ∃ k : Int, i = .int .i64 k ∧ (0 ≤ k ∧ k ≤ 3) ∧ Hid (r = (if (wrd l).toList == [118, 97, 114] ++ [48] && decide (k ≤ 0) then 0 else if (wrd l).toList == [118, 97, 114] ++ [49] && decide (k ≤ 1) then 1 else if (wrd l).toList == [118, 97, 114] ++ [50] && decide (k ≤ 2) then 2 else -1)) ∧ Hid (Below w.heap.size w wr)) (fun i _ => 3 - (intOf i).toNat)
 case atStart => exact ⟨0, rfl, ⟨by omega, by omega⟩, Lib.hid (by rw [HR.out]; unfold ordOf; simp), Lib.hid (Below.refl _ _)⟩
 case round =>
  obtain ⟨k, rfl, ⟨hk0, hk⟩, HE, HB⟩ := hrel
  have hcs : k = 0 ∨ k = 1 ∨ k = 2 ∨ k = 3 := by omega
  clear hk hk0
  rcases hcs with rfl | rfl | rfl | rfl
  ·have hcv : (convert 107 9 (.slice (some ⟨wr.heap.size, 0, none⟩) 1 1)).run Tryz.prog (wr.alloc (.cells #[.int .u8 48] 5)) = .ok (.string ⟨#[48]⟩) (wr.alloc (.cells #[.int .u8 48] 5)) := conv_k wr 48
   have hx : ((⟨#[118, 97, 114]⟩ ++ ⟨#[48]⟩ : ByteArray).toList == []) = false := by decide +kernel
   have hw2 : (⟨#[118, 97, 114]⟩ ++ ⟨#[48]⟩ : ByteArray).toList = [118, 97, 114] ++ [48] := by decide +kernel
   have HC := Lib.hid (ris_g l (⟨#[118, 97, 114]⟩ ++ ⟨#[48]⟩ : ByteArray) (wr.alloc (.cells #[.int .u8 48] 5)) B hx ((HS.out.below HB.out).alloc _))
   rw [hw2] at HC
   have he := HE.out
   generalize hq : ((wrd l).toList == [118, 97, 114] ++ [48]) = q at HC he
   cases q with
   | true =>
    have hr : r = 0 := by rw [he]; simp
    subst hr
    clear HE he hq hx hw2
    go_wp2_with fail
    refine HC.out.mono ?_
    rintro e2 w2 ⟨rfl, hb2⟩
    have hbb := HB.out.trans ((box_then hb2).mono HB.out.size)
    clear hb2 HC HB
    go_wp2_with fail
    go_ret
    exact ⟨rfl, hbb⟩
   | false =>
    have HE2 := Lib.hid (show r = _ from he)
    clear HE he hx hw2
    go_wp2_with fail
    refine HC.out.mono ?_
    rintro e2 w2 ⟨rfl, hb2⟩
    have HB2 := Lib.hid (HB.out.trans ((box_then hb2).mono HB.out.size))
    clear hb2 HC HB
    go_wp2_with fail
    go_roundw
    case rel => exact ⟨1, rfl, ⟨by omega, by omega⟩, Lib.hid (by rw [HE2.out]; simp), HB2⟩
    case measure => (try simp [intOf]); try omega
  ·have hcv : (convert 107 9 (.slice (some ⟨wr.heap.size, 0, none⟩) 1 1)).run Tryz.prog (wr.alloc (.cells #[.int .u8 49] 5)) = .ok (.string ⟨#[49]⟩) (wr.alloc (.cells #[.int .u8 49] 5)) := conv_k wr 49
   have hx : ((⟨#[118, 97, 114]⟩ ++ ⟨#[49]⟩ : ByteArray).toList == []) = false := by decide +kernel
   have hw2 : (⟨#[118, 97, 114]⟩ ++ ⟨#[49]⟩ : ByteArray).toList = [118, 97, 114] ++ [49] := by decide +kernel
   have HC := Lib.hid (ris_g l (⟨#[118, 97, 114]⟩ ++ ⟨#[49]⟩ : ByteArray) (wr.alloc (.cells #[.int .u8 49] 5)) B hx ((HS.out.below HB.out).alloc _))
   rw [hw2] at HC
   have he := HE.out
   generalize hq : ((wrd l).toList == [118, 97, 114] ++ [49]) = q at HC he
   cases q with
   | true =>
    have hr : r = 1 := by rw [he]; simp
    subst hr
    clear HE he hq hx hw2
    go_wp2_with fail
    refine HC.out.mono ?_
    rintro e2 w2 ⟨rfl, hb2⟩
    have hbb := HB.out.trans ((box_then hb2).mono HB.out.size)
    clear hb2 HC HB
    go_wp2_with fail
    go_ret
    exact ⟨rfl, hbb⟩
   | false =>
    have HE2 := Lib.hid (show r = _ from he)
    clear HE he hx hw2
    go_wp2_with fail
    refine HC.out.mono ?_
    rintro e2 w2 ⟨rfl, hb2⟩
    have HB2 := Lib.hid (HB.out.trans ((box_then hb2).mono HB.out.size))
    clear hb2 HC HB
    go_wp2_with fail
    go_roundw
    case rel => exact ⟨2, rfl, ⟨by omega, by omega⟩, Lib.hid (by rw [HE2.out]; simp), HB2⟩
    case measure => (try simp [intOf]); try omega
  ·have hcv : (convert 107 9 (.slice (some ⟨wr.heap.size, 0, none⟩) 1 1)).run Tryz.prog (wr.alloc (.cells #[.int .u8 50] 5)) = .ok (.string ⟨#[50]⟩) (wr.alloc (.cells #[.int .u8 50] 5)) := conv_k wr 50
   have hx : ((⟨#[118, 97, 114]⟩ ++ ⟨#[50]⟩ : ByteArray).toList == []) = false := by decide +kernel
   have hw2 : (⟨#[118, 97, 114]⟩ ++ ⟨#[50]⟩ : ByteArray).toList = [118, 97, 114] ++ [50] := by decide +kernel
   have HC := Lib.hid (ris_g l (⟨#[118, 97, 114]⟩ ++ ⟨#[50]⟩ : ByteArray) (wr.alloc (.cells #[.int .u8 50] 5)) B hx ((HS.out.below HB.out).alloc _))
   rw [hw2] at HC
   have he := HE.out
   generalize hq : ((wrd l).toList == [118, 97, 114] ++ [50]) = q at HC he
   cases q with
   | true =>
    have hr : r = 2 := by rw [he]; simp
    subst hr
    clear HE he hq hx hw2
    go_wp2_with fail
    refine HC.out.mono ?_
    rintro e2 w2 ⟨rfl, hb2⟩
    have hbb := HB.out.trans ((box_then hb2).mono HB.out.size)
    clear hb2 HC HB
    go_wp2_with fail
    go_ret
    exact ⟨rfl, hbb⟩
   | false =>
    have HE2 := Lib.hid (show r = _ from he)
    clear HE he hx hw2
    go_wp2_with fail
    refine HC.out.mono ?_
    rintro e2 w2 ⟨rfl, hb2⟩
    have HB2 := Lib.hid (HB.out.trans ((box_then hb2).mono HB.out.size))
    clear hb2 HC HB
    go_wp2_with fail
    go_roundw
    case rel => exact ⟨3, rfl, ⟨by omega, by omega⟩, Lib.hid (by rw [HE2.out]; simp), HB2⟩
    case measure => (try simp [intOf]); try omega
  ·have hr : r = -1 := by rw [HE.out]; simp
   subst hr
   clear HE
   go_wp2
   go_ret
   exact ⟨rfl, HB.out⟩
end Go.Proofs.YtmpcmpeloebnhaaGreatDoor
namespace Go.Proofs.YtmpcmpeloebnhaaGreatDoor
open Go.RowKit
abbrev relA : Array Value := #[.string ⟨#[61]⟩, .string ⟨#[126, 61]⟩, .string ⟨#[60]⟩, .string ⟨#[60, 61]⟩, .string ⟨#[105, 110]⟩, .string ⟨#[110, 111, 116, 105, 110]⟩, .string ⟨#[115, 117, 98]⟩]
abbrev relB : Array Value := #[.string ⟨#[101, 113]⟩, .string ⟨#[110, 101]⟩, .string ⟨#[108, 116]⟩, .string ⟨#[108, 101]⟩, .string ⟨#[105, 110]⟩, .string ⟨#[110, 111, 116, 105, 110]⟩, .string ⟨#[115, 117, 98]⟩]
set_option maxRecDepth 100000 in
set_option maxHeartbeats 4000000 in
theorem rrel_g (l : List Tok) (w : World) (B : Nat) (h : PrS w B (.good l)) : Calls Tryz.prog 164 #[.pointer (some ⟨B, 0, none⟩)] w fun y w' => y = .returned (.string (psg 4 (wrd l))) ∧ Below w.heap.size w w' := by
 have HS := Lib.hid h
 clear h
 obtain ⟨r, hr⟩ : ∃ r, r = psg 4 (wrd l) := ⟨_, rfl⟩
 rw [← hr]
 have HR : Hid (r = psgF 4 (wrd l) (psigs.drop 4)) := Lib.hid hr
 clear hr
 go_enter Tryz.func164, Tryz.ntmps164
 go_wp2
 go_loopw [5] (fun i wr => ∃ k : Nat, i = .int .i64 k ∧ k ≤ 7 ∧ Hid (r = psgF 4 (wrd l) (psigs.drop (4 + k))) ∧ Hid (wr.heap[w.heap.size]? = some (.cells relA 9)) ∧ Hid (wr.heap[w.heap.size + 1]? = some (.cells relB 9)) ∧ Hid (Below w.heap.size w wr)) (fun i _ => 7 - (intOf i).toNat)
 case atStart =>
  refine ⟨0, rfl, by omega, HR, Lib.hid ?_, Lib.hid (second_at w _ _), Lib.hid (two_boxes _ _ _)⟩
  rw [Below.heap_alloc _ _ _ (by simp)]
  exact new_at _ _
 case round =>
  obtain ⟨k, rfl, hk, HE, H1, H2, HB⟩ := hrel
  have hcs : k = 0 ∨ k = 1 ∨ k = 2 ∨ k = 3 ∨ k = 4 ∨ k = 5 ∨ k = 6 ∨ k = 7 := by omega
  clear hk
  rcases hcs with rfl | rfl | rfl | rfl | rfl | rfl | rfl | rfl
  ·have c1 : wr.cell? ⟨w.heap.size, 0, none⟩ = some (.string ⟨#[61]⟩) := by rw [cell_of_row _ _ _ _ _ _ H1.out]; rfl
   have c2 : wr.cell? ⟨w.heap.size + 1, 0, none⟩ = some (.string ⟨#[101, 113]⟩) := by rw [cell_of_row _ _ _ _ _ _ H2.out]; rfl
   have he : r = if ((⟨#[61]⟩ : ByteArray).toList == (wrd l).toList) = true then ⟨#[101, 113]⟩ else psgF 4 (wrd l) (psigs.drop (4 + 1)) := HE.out
   rw [show ((⟨#[61]⟩ : ByteArray).toList == (wrd l).toList) = ((wrd l).toList == (⟨#[61]⟩ : ByteArray).toList) from BEq.comm] at he
   have HC := Lib.hid (ris_g l ⟨#[61]⟩ wr B (by decide +kernel) (HS.out.below HB.out))
   generalize ((wrd l).toList == (⟨#[61]⟩ : ByteArray).toList) = q at HC he
   cases q with
   | true =>
    rw [if_pos rfl] at he
    subst he
    clear HE
    go_wp2_with fail
    refine HC.out.mono ?_
    rintro e2 w2 ⟨rfl, hb2⟩
    have hbb := HB.out.trans (hb2.mono HB.out.size)
    have c3 : w2.cell? ⟨w.heap.size + 1, 0, none⟩ = some (.string ⟨#[101, 113]⟩) := cell_below hb2 c2
    clear hb2 HC HB c1 c2 H1 H2
    go_wp2_with fail
    go_ret
    exact ⟨rfl, hbb⟩
   | false =>
    rw [if_neg (by decide)] at he
    have HE2 := Lib.hid he
    clear HE he
    go_wp2_with fail
    refine HC.out.mono ?_
    rintro e2 w2 ⟨rfl, hb2⟩
    have HB2 := Lib.hid (HB.out.trans (hb2.mono HB.out.size))
    have H12 := Lib.hid ((hb2.block _ (lt_heap H1.out)).trans H1.out)
    have H22 := Lib.hid ((hb2.block _ (lt_heap H2.out)).trans H2.out)
    clear hb2 HC HB c1 c2 H1 H2
    go_wp2_with fail
    go_roundw
    case rel => exact ⟨1, by go_num, by omega, HE2, H12, H22, HB2⟩
    case measure => (try simp [intOf]); try omega
  ·have c1 : wr.cell? ⟨w.heap.size, 1, none⟩ = some (.string ⟨#[126, 61]⟩) := by rw [cell_of_row _ _ _ _ _ _ H1.out]; rfl
   have c2 : wr.cell? ⟨w.heap.size + 1, 1, none⟩ = some (.string ⟨#[110, 101]⟩) := by rw [cell_of_row _ _ _ _ _ _ H2.out]; rfl
   have he : r = if ((⟨#[126, 61]⟩ : ByteArray).toList == (wrd l).toList) = true then ⟨#[110, 101]⟩ else psgF 4 (wrd l) (psigs.drop (4 + 2)) := HE.out
   rw [show ((⟨#[126, 61]⟩ : ByteArray).toList == (wrd l).toList) = ((wrd l).toList == (⟨#[126, 61]⟩ : ByteArray).toList) from BEq.comm] at he
   have HC := Lib.hid (ris_g l ⟨#[126, 61]⟩ wr B (by decide +kernel) (HS.out.below HB.out))
   generalize ((wrd l).toList == (⟨#[126, 61]⟩ : ByteArray).toList) = q at HC he
   cases q with
   | true =>
    rw [if_pos rfl] at he
    subst he
    clear HE
    go_wp2_with fail
    refine HC.out.mono ?_
    rintro e2 w2 ⟨rfl, hb2⟩
    have hbb := HB.out.trans (hb2.mono HB.out.size)
    have c3 : w2.cell? ⟨w.heap.size + 1, 1, none⟩ = some (.string ⟨#[110, 101]⟩) := cell_below hb2 c2
    clear hb2 HC HB c1 c2 H1 H2
    go_wp2_with fail
    go_ret
    exact ⟨rfl, hbb⟩
   | false =>
    rw [if_neg (by decide)] at he
    have HE2 := Lib.hid he
    clear HE he
    go_wp2_with fail
    refine HC.out.mono ?_
    rintro e2 w2 ⟨rfl, hb2⟩
    have HB2 := Lib.hid (HB.out.trans (hb2.mono HB.out.size))
    have H12 := Lib.hid ((hb2.block _ (lt_heap H1.out)).trans H1.out)
    have H22 := Lib.hid ((hb2.block _ (lt_heap H2.out)).trans H2.out)
    clear hb2 HC HB c1 c2 H1 H2
    go_wp2_with fail
    go_roundw
    case rel => exact ⟨2, by go_num, by omega, HE2, H12, H22, HB2⟩
    case measure => (try simp [intOf]); try omega
  ·have c1 : wr.cell? ⟨w.heap.size, 2, none⟩ = some (.string ⟨#[60]⟩) := by rw [cell_of_row _ _ _ _ _ _ H1.out]; rfl
   have c2 : wr.cell? ⟨w.heap.size + 1, 2, none⟩ = some (.string ⟨#[108, 116]⟩) := by rw [cell_of_row _ _ _ _ _ _ H2.out]; rfl
   have he : r = if ((⟨#[60]⟩ : ByteArray).toList == (wrd l).toList) = true then ⟨#[108, 116]⟩ else psgF 4 (wrd l) (psigs.drop (4 + 3)) := HE.out
   rw [show ((⟨#[60]⟩ : ByteArray).toList == (wrd l).toList) = ((wrd l).toList == (⟨#[60]⟩ : ByteArray).toList) from BEq.comm] at he
   have HC := Lib.hid (ris_g l ⟨#[60]⟩ wr B (by decide +kernel) (HS.out.below HB.out))
   generalize ((wrd l).toList == (⟨#[60]⟩ : ByteArray).toList) = q at HC he
   cases q with
   | true =>
    rw [if_pos rfl] at he
    subst he
    clear HE
    go_wp2_with fail
    refine HC.out.mono ?_
    rintro e2 w2 ⟨rfl, hb2⟩
    have hbb := HB.out.trans (hb2.mono HB.out.size)
    have c3 : w2.cell? ⟨w.heap.size + 1, 2, none⟩ = some (.string ⟨#[108, 116]⟩) := cell_below hb2 c2
    clear hb2 HC HB c1 c2 H1 H2
    go_wp2_with fail
    go_ret
    exact ⟨rfl, hbb⟩
   | false =>
    rw [if_neg (by decide)] at he
    have HE2 := Lib.hid he
    clear HE he
    go_wp2_with fail
    refine HC.out.mono ?_
    rintro e2 w2 ⟨rfl, hb2⟩
    have HB2 := Lib.hid (HB.out.trans (hb2.mono HB.out.size))
    have H12 := Lib.hid ((hb2.block _ (lt_heap H1.out)).trans H1.out)
    have H22 := Lib.hid ((hb2.block _ (lt_heap H2.out)).trans H2.out)
    clear hb2 HC HB c1 c2 H1 H2
    go_wp2_with fail
    go_roundw
    case rel => exact ⟨3, by go_num, by omega, HE2, H12, H22, HB2⟩
    case measure => (try simp [intOf]); try omega
  ·have c1 : wr.cell? ⟨w.heap.size, 3, none⟩ = some (.string ⟨#[60, 61]⟩) := by rw [cell_of_row _ _ _ _ _ _ H1.out]; rfl
   have c2 : wr.cell? ⟨w.heap.size + 1, 3, none⟩ = some (.string ⟨#[108, 101]⟩) := by rw [cell_of_row _ _ _ _ _ _ H2.out]; rfl
   have he : r = if ((⟨#[60, 61]⟩ : ByteArray).toList == (wrd l).toList) = true then ⟨#[108, 101]⟩ else psgF 4 (wrd l) (psigs.drop (4 + 4)) := HE.out
   rw [show ((⟨#[60, 61]⟩ : ByteArray).toList == (wrd l).toList) = ((wrd l).toList == (⟨#[60, 61]⟩ : ByteArray).toList) from BEq.comm] at he
   have HC := Lib.hid (ris_g l ⟨#[60, 61]⟩ wr B (by decide +kernel) (HS.out.below HB.out))
   generalize ((wrd l).toList == (⟨#[60, 61]⟩ : ByteArray).toList) = q at HC he
   cases q with
   | true =>
    rw [if_pos rfl] at he
    subst he
    clear HE
    go_wp2_with fail
    refine HC.out.mono ?_
    rintro e2 w2 ⟨rfl, hb2⟩
    have hbb := HB.out.trans (hb2.mono HB.out.size)
    have c3 : w2.cell? ⟨w.heap.size + 1, 3, none⟩ = some (.string ⟨#[108, 101]⟩) := cell_below hb2 c2
    clear hb2 HC HB c1 c2 H1 H2
    go_wp2_with fail
    go_ret
    exact ⟨rfl, hbb⟩
   | false =>
    rw [if_neg (by decide)] at he
    have HE2 := Lib.hid he
    clear HE he
    go_wp2_with fail
    refine HC.out.mono ?_
    rintro e2 w2 ⟨rfl, hb2⟩
    have HB2 := Lib.hid (HB.out.trans (hb2.mono HB.out.size))
    have H12 := Lib.hid ((hb2.block _ (lt_heap H1.out)).trans H1.out)
    have H22 := Lib.hid ((hb2.block _ (lt_heap H2.out)).trans H2.out)
    clear hb2 HC HB c1 c2 H1 H2
    go_wp2_with fail
    go_roundw
    case rel => exact ⟨4, by go_num, by omega, HE2, H12, H22, HB2⟩
    case measure => (try simp [intOf]); try omega
  ·have c1 : wr.cell? ⟨w.heap.size, 4, none⟩ = some (.string ⟨#[105, 110]⟩) := by rw [cell_of_row _ _ _ _ _ _ H1.out]; rfl
   have c2 : wr.cell? ⟨w.heap.size + 1, 4, none⟩ = some (.string ⟨#[105, 110]⟩) := by rw [cell_of_row _ _ _ _ _ _ H2.out]; rfl
   have he : r = if ((⟨#[105, 110]⟩ : ByteArray).toList == (wrd l).toList) = true then ⟨#[105, 110]⟩ else psgF 4 (wrd l) (psigs.drop (4 + 5)) := HE.out
   rw [show ((⟨#[105, 110]⟩ : ByteArray).toList == (wrd l).toList) = ((wrd l).toList == (⟨#[105, 110]⟩ : ByteArray).toList) from BEq.comm] at he
   have HC := Lib.hid (ris_g l ⟨#[105, 110]⟩ wr B (by decide +kernel) (HS.out.below HB.out))
   generalize ((wrd l).toList == (⟨#[105, 110]⟩ : ByteArray).toList) = q at HC he
   cases q with
   | true =>
    rw [if_pos rfl] at he
    subst he
    clear HE
    go_wp2_with fail
    refine HC.out.mono ?_
    rintro e2 w2 ⟨rfl, hb2⟩
    have hbb := HB.out.trans (hb2.mono HB.out.size)
    have c3 : w2.cell? ⟨w.heap.size + 1, 4, none⟩ = some (.string ⟨#[105, 110]⟩) := cell_below hb2 c2
    clear hb2 HC HB c1 c2 H1 H2
    go_wp2_with fail
    go_ret
    exact ⟨rfl, hbb⟩
   | false =>
    rw [if_neg (by decide)] at he
    have HE2 := Lib.hid he
    clear HE he
    go_wp2_with fail
    refine HC.out.mono ?_
    rintro e2 w2 ⟨rfl, hb2⟩
    have HB2 := Lib.hid (HB.out.trans (hb2.mono HB.out.size))
    have H12 := Lib.hid ((hb2.block _ (lt_heap H1.out)).trans H1.out)
    have H22 := Lib.hid ((hb2.block _ (lt_heap H2.out)).trans H2.out)
    clear hb2 HC HB c1 c2 H1 H2
    go_wp2_with fail
    go_roundw
    case rel => exact ⟨5, by go_num, by omega, HE2, H12, H22, HB2⟩
    case measure => (try simp [intOf]); try omega
  ·have c1 : wr.cell? ⟨w.heap.size, 5, none⟩ = some (.string ⟨#[110, 111, 116, 105, 110]⟩) := by rw [cell_of_row _ _ _ _ _ _ H1.out]; rfl
   have c2 : wr.cell? ⟨w.heap.size + 1, 5, none⟩ = some (.string ⟨#[110, 111, 116, 105, 110]⟩) := by rw [cell_of_row _ _ _ _ _ _ H2.out]; rfl
   have he : r = if ((⟨#[110, 111, 116, 105, 110]⟩ : ByteArray).toList == (wrd l).toList) = true then ⟨#[110, 111, 116, 105, 110]⟩ else psgF 4 (wrd l) (psigs.drop (4 + 6)) := HE.out
   rw [show ((⟨#[110, 111, 116, 105, 110]⟩ : ByteArray).toList == (wrd l).toList) = ((wrd l).toList == (⟨#[110, 111, 116, 105, 110]⟩ : ByteArray).toList) from BEq.comm] at he
   have HC := Lib.hid (ris_g l ⟨#[110, 111, 116, 105, 110]⟩ wr B (by decide +kernel) (HS.out.below HB.out))
   generalize ((wrd l).toList == (⟨#[110, 111, 116, 105, 110]⟩ : ByteArray).toList) = q at HC he
   cases q with
   | true =>
    rw [if_pos rfl] at he
    subst he
    clear HE
    go_wp2_with fail
    refine HC.out.mono ?_
    rintro e2 w2 ⟨rfl, hb2⟩
    have hbb := HB.out.trans (hb2.mono HB.out.size)
    have c3 : w2.cell? ⟨w.heap.size + 1, 5, none⟩ = some (.string ⟨#[110, 111, 116, 105, 110]⟩) := cell_below hb2 c2
    clear hb2 HC HB c1 c2 H1 H2
    go_wp2_with fail
    go_ret
    exact ⟨rfl, hbb⟩
   | false =>
    rw [if_neg (by decide)] at he
    have HE2 := Lib.hid he
    clear HE he
    go_wp2_with fail
    refine HC.out.mono ?_
    rintro e2 w2 ⟨rfl, hb2⟩
    have HB2 := Lib.hid (HB.out.trans (hb2.mono HB.out.size))
    have H12 := Lib.hid ((hb2.block _ (lt_heap H1.out)).trans H1.out)
    have H22 := Lib.hid ((hb2.block _ (lt_heap H2.out)).trans H2.out)
    clear hb2 HC HB c1 c2 H1 H2
    go_wp2_with fail
    go_roundw
    case rel => exact ⟨6, by go_num, by omega, HE2, H12, H22, HB2⟩
    case measure => (try simp [intOf]); try omega
  ·have c1 : wr.cell? ⟨w.heap.size, 6, none⟩ = some (.string ⟨#[115, 117, 98]⟩) := by rw [cell_of_row _ _ _ _ _ _ H1.out]; rfl
   have c2 : wr.cell? ⟨w.heap.size + 1, 6, none⟩ = some (.string ⟨#[115, 117, 98]⟩) := by rw [cell_of_row _ _ _ _ _ _ H2.out]; rfl
   have he : r = if ((⟨#[115, 117, 98]⟩ : ByteArray).toList == (wrd l).toList) = true then ⟨#[115, 117, 98]⟩ else psgF 4 (wrd l) (psigs.drop (4 + 7)) := HE.out
   rw [show ((⟨#[115, 117, 98]⟩ : ByteArray).toList == (wrd l).toList) = ((wrd l).toList == (⟨#[115, 117, 98]⟩ : ByteArray).toList) from BEq.comm] at he
   have HC := Lib.hid (ris_g l ⟨#[115, 117, 98]⟩ wr B (by decide +kernel) (HS.out.below HB.out))
   generalize ((wrd l).toList == (⟨#[115, 117, 98]⟩ : ByteArray).toList) = q at HC he
   cases q with
   | true =>
    rw [if_pos rfl] at he
    subst he
    clear HE
    go_wp2_with fail
    refine HC.out.mono ?_
    rintro e2 w2 ⟨rfl, hb2⟩
    have hbb := HB.out.trans (hb2.mono HB.out.size)
    have c3 : w2.cell? ⟨w.heap.size + 1, 6, none⟩ = some (.string ⟨#[115, 117, 98]⟩) := cell_below hb2 c2
    clear hb2 HC HB c1 c2 H1 H2
    go_wp2_with fail
    go_ret
    exact ⟨rfl, hbb⟩
   | false =>
    rw [if_neg (by decide)] at he
    have HE2 := Lib.hid he
    clear HE he
    go_wp2_with fail
    refine HC.out.mono ?_
    rintro e2 w2 ⟨rfl, hb2⟩
    have HB2 := Lib.hid (HB.out.trans (hb2.mono HB.out.size))
    have H12 := Lib.hid ((hb2.block _ (lt_heap H1.out)).trans H1.out)
    have H22 := Lib.hid ((hb2.block _ (lt_heap H2.out)).trans H2.out)
    clear hb2 HC HB c1 c2 H1 H2
    go_wp2_with fail
    go_roundw
    case rel => exact ⟨7, by go_num, by omega, HE2, H12, H22, HB2⟩
    case measure => (try simp [intOf]); try omega
  ·have he : r = ⟨#[]⟩ := HE.out
   subst he
   clear HE
   go_wp2
   go_ret
   exact ⟨rfl, HB.out⟩
set_option maxRecDepth 100000 in
set_option maxHeartbeats 4000000 in
theorem rrel_b (p e : Int) (w : World) (B : Nat) (h : PrS w B (.bad p e)) : Calls Tryz.prog 164 #[.pointer (some ⟨B, 0, none⟩)] w fun y w' => y = .returned (.string (⟨#[]⟩)) ∧ Below w.heap.size w w' := by
 have HS := Lib.hid h
 clear h
 go_enter Tryz.func164, Tryz.ntmps164
 go_wp2
 go_loopw [5] (fun i wr => ∃ k : Nat, i = .int .i64 k ∧ k ≤ 7 ∧ Hid (wr.heap[w.heap.size]? = some (.cells relA 9)) ∧ Hid (wr.heap[w.heap.size + 1]? = some (.cells relB 9)) ∧ Hid (Below w.heap.size w wr)) (fun i _ => 7 - (intOf i).toNat)
 case atStart =>
  refine ⟨0, rfl, by omega, Lib.hid ?_, Lib.hid (second_at w _ _), Lib.hid (two_boxes _ _ _)⟩
  rw [Below.heap_alloc _ _ _ (by simp)]
  exact new_at _ _
 case round =>
  obtain ⟨k, rfl, hk, H1, H2, HB⟩ := hrel
  have hcs : k = 0 ∨ k = 1 ∨ k = 2 ∨ k = 3 ∨ k = 4 ∨ k = 5 ∨ k = 6 ∨ k = 7 := by omega
  clear hk
  rcases hcs with rfl | rfl | rfl | rfl | rfl | rfl | rfl | rfl
  ·have c1 : wr.cell? ⟨w.heap.size, 0, none⟩ = some (.string ⟨#[61]⟩) := by rw [cell_of_row _ _ _ _ _ _ H1.out]; rfl
   have c2 : wr.cell? ⟨w.heap.size + 1, 0, none⟩ = some (.string ⟨#[101, 113]⟩) := by rw [cell_of_row _ _ _ _ _ _ H2.out]; rfl
   have HC := Lib.hid (ris_b ⟨#[61]⟩ wr B p e (HS.out.below HB.out))
   go_wp2_with fail
   refine HC.out.mono ?_
   rintro e2 w2 ⟨rfl, hb2⟩
   have HB2 := Lib.hid (HB.out.trans (hb2.mono HB.out.size))
   have H12 := Lib.hid ((hb2.block _ (lt_heap H1.out)).trans H1.out)
   have H22 := Lib.hid ((hb2.block _ (lt_heap H2.out)).trans H2.out)
   clear hb2 HC HB c1 c2 H1 H2
   go_wp2_with fail
   go_roundw
   case rel => exact ⟨1, by go_num, by omega, H12, H22, HB2⟩
   case measure => (try simp [intOf]); try omega
  ·have c1 : wr.cell? ⟨w.heap.size, 1, none⟩ = some (.string ⟨#[126, 61]⟩) := by rw [cell_of_row _ _ _ _ _ _ H1.out]; rfl
   have c2 : wr.cell? ⟨w.heap.size + 1, 1, none⟩ = some (.string ⟨#[110, 101]⟩) := by rw [cell_of_row _ _ _ _ _ _ H2.out]; rfl
   have HC := Lib.hid (ris_b ⟨#[126, 61]⟩ wr B p e (HS.out.below HB.out))
   go_wp2_with fail
   refine HC.out.mono ?_
   rintro e2 w2 ⟨rfl, hb2⟩
   have HB2 := Lib.hid (HB.out.trans (hb2.mono HB.out.size))
   have H12 := Lib.hid ((hb2.block _ (lt_heap H1.out)).trans H1.out)
   have H22 := Lib.hid ((hb2.block _ (lt_heap H2.out)).trans H2.out)
   clear hb2 HC HB c1 c2 H1 H2
   go_wp2_with fail
   go_roundw
   case rel => exact ⟨2, by go_num, by omega, H12, H22, HB2⟩
   case measure => (try simp [intOf]); try omega
  ·have c1 : wr.cell? ⟨w.heap.size, 2, none⟩ = some (.string ⟨#[60]⟩) := by rw [cell_of_row _ _ _ _ _ _ H1.out]; rfl
   have c2 : wr.cell? ⟨w.heap.size + 1, 2, none⟩ = some (.string ⟨#[108, 116]⟩) := by rw [cell_of_row _ _ _ _ _ _ H2.out]; rfl
   have HC := Lib.hid (ris_b ⟨#[60]⟩ wr B p e (HS.out.below HB.out))
   go_wp2_with fail
   refine HC.out.mono ?_
   rintro e2 w2 ⟨rfl, hb2⟩
   have HB2 := Lib.hid (HB.out.trans (hb2.mono HB.out.size))
   have H12 := Lib.hid ((hb2.block _ (lt_heap H1.out)).trans H1.out)
   have H22 := Lib.hid ((hb2.block _ (lt_heap H2.out)).trans H2.out)
   clear hb2 HC HB c1 c2 H1 H2
   go_wp2_with fail
   go_roundw
   case rel => exact ⟨3, by go_num, by omega, H12, H22, HB2⟩
   case measure => (try simp [intOf]); try omega
  ·have c1 : wr.cell? ⟨w.heap.size, 3, none⟩ = some (.string ⟨#[60, 61]⟩) := by rw [cell_of_row _ _ _ _ _ _ H1.out]; rfl
   have c2 : wr.cell? ⟨w.heap.size + 1, 3, none⟩ = some (.string ⟨#[108, 101]⟩) := by rw [cell_of_row _ _ _ _ _ _ H2.out]; rfl
   have HC := Lib.hid (ris_b ⟨#[60, 61]⟩ wr B p e (HS.out.below HB.out))
   go_wp2_with fail
   refine HC.out.mono ?_
   rintro e2 w2 ⟨rfl, hb2⟩
   have HB2 := Lib.hid (HB.out.trans (hb2.mono HB.out.size))
   have H12 := Lib.hid ((hb2.block _ (lt_heap H1.out)).trans H1.out)
   have H22 := Lib.hid ((hb2.block _ (lt_heap H2.out)).trans H2.out)
   clear hb2 HC HB c1 c2 H1 H2
   go_wp2_with fail
   go_roundw
   case rel => exact ⟨4, by go_num, by omega, H12, H22, HB2⟩
   case measure => (try simp [intOf]); try omega
  ·have c1 : wr.cell? ⟨w.heap.size, 4, none⟩ = some (.string ⟨#[105, 110]⟩) := by rw [cell_of_row _ _ _ _ _ _ H1.out]; rfl
   have c2 : wr.cell? ⟨w.heap.size + 1, 4, none⟩ = some (.string ⟨#[105, 110]⟩) := by rw [cell_of_row _ _ _ _ _ _ H2.out]; rfl
   have HC := Lib.hid (ris_b ⟨#[105, 110]⟩ wr B p e (HS.out.below HB.out))
   go_wp2_with fail
   refine HC.out.mono ?_
   rintro e2 w2 ⟨rfl, hb2⟩
   have HB2 := Lib.hid (HB.out.trans (hb2.mono HB.out.size))
   have H12 := Lib.hid ((hb2.block _ (lt_heap H1.out)).trans H1.out)
   have H22 := Lib.hid ((hb2.block _ (lt_heap H2.out)).trans H2.out)
   clear hb2 HC HB c1 c2 H1 H2
   go_wp2_with fail
   go_roundw
   case rel => exact ⟨5, by go_num, by omega, H12, H22, HB2⟩
   case measure => (try simp [intOf]); try omega
  ·have c1 : wr.cell? ⟨w.heap.size, 5, none⟩ = some (.string ⟨#[110, 111, 116, 105, 110]⟩) := by rw [cell_of_row _ _ _ _ _ _ H1.out]; rfl
   have c2 : wr.cell? ⟨w.heap.size + 1, 5, none⟩ = some (.string ⟨#[110, 111, 116, 105, 110]⟩) := by rw [cell_of_row _ _ _ _ _ _ H2.out]; rfl
   have HC := Lib.hid (ris_b ⟨#[110, 111, 116, 105, 110]⟩ wr B p e (HS.out.below HB.out))
   go_wp2_with fail
   refine HC.out.mono ?_
   rintro e2 w2 ⟨rfl, hb2⟩
   have HB2 := Lib.hid (HB.out.trans (hb2.mono HB.out.size))
   have H12 := Lib.hid ((hb2.block _ (lt_heap H1.out)).trans H1.out)
   have H22 := Lib.hid ((hb2.block _ (lt_heap H2.out)).trans H2.out)
   clear hb2 HC HB c1 c2 H1 H2
   go_wp2_with fail
   go_roundw
   case rel => exact ⟨6, by go_num, by omega, H12, H22, HB2⟩
   case measure => (try simp [intOf]); try omega
  ·have c1 : wr.cell? ⟨w.heap.size, 6, none⟩ = some (.string ⟨#[115, 117, 98]⟩) := by rw [cell_of_row _ _ _ _ _ _ H1.out]; rfl
   have c2 : wr.cell? ⟨w.heap.size + 1, 6, none⟩ = some (.string ⟨#[115, 117, 98]⟩) := by rw [cell_of_row _ _ _ _ _ _ H2.out]; rfl
   have HC := Lib.hid (ris_b ⟨#[115, 117, 98]⟩ wr B p e (HS.out.below HB.out))
   go_wp2_with fail
   refine HC.out.mono ?_
   rintro e2 w2 ⟨rfl, hb2⟩
   have HB2 := Lib.hid (HB.out.trans (hb2.mono HB.out.size))
   have H12 := Lib.hid ((hb2.block _ (lt_heap H1.out)).trans H1.out)
   have H22 := Lib.hid ((hb2.block _ (lt_heap H2.out)).trans H2.out)
   clear hb2 HC HB c1 c2 H1 H2
   go_wp2_with fail
   go_roundw
   case rel => exact ⟨7, by go_num, by omega, H12, H22, HB2⟩
   case measure => (try simp [intOf]); try omega
  ·go_wp2
   go_ret
   exact ⟨rfl, HB.out⟩
end Go.Proofs.YtmpcmpeloebnhaaGreatDoor
namespace Go.Proofs.YtmpcmpeloebnhaaGreatDoor
open Go.RowKit
theorem new_sets (w : World) (ob : Obj) (B : Nat) (a b c d e : Value) : ((((((w.setCell ⟨B, 0, none⟩ a).setCell ⟨B, 1, none⟩ b).setCell ⟨B, 2, none⟩ c).setCell ⟨B, 3, none⟩ d).setCell ⟨B, 4, none⟩ e).alloc ob).heap[w.heap.size]? = some ob := by
 have h := new_at (((((w.setCell ⟨B, 0, none⟩ a).setCell ⟨B, 1, none⟩ b).setCell ⟨B, 2, none⟩ c).setCell ⟨B, 3, none⟩ d).setCell ⟨B, 4, none⟩ e) ob
 rw [set5_size] at h
 exact h
end Go.Proofs.YtmpcmpeloebnhaaGreatDoor
namespace Go.Proofs.YtmpcmpeloebnhaaGreatDoor
open Go.RowKit
theorem set5_from {S : Nat → Prop} (w : World) {B : Nat} (hB : ¬ S B) (a b c d e : Value) : From S w (((((w.setCell ⟨B, 0, none⟩ a).setCell ⟨B, 1, none⟩ b).setCell ⟨B, 2, none⟩ c).setCell ⟨B, 3, none⟩ d).setCell ⟨B, 4, none⟩ e) :=
 (((((From.set _ hB _).trans (From.set _ hB _)).trans (From.set _ hB _)).trans (From.set _ hB _)).trans (From.set _ hB _))
end Go.Proofs.YtmpcmpeloebnhaaGreatDoor
namespace Go.Proofs.YtmpcmpeloebnhaaGreatDoor
open Go.RowKit
def flatF : Fo → List Value
 | .nil => []
 | .cons op name n pos a cap kids rest => .string op :: .string name :: .int .i64 n :: .int .i64 pos :: .slice a kids.len cap :: flatF rest
theorem flatF_len (F : Fo) : (flatF F).length = F.len * 5 := by
 induction F with
 | nil => rfl
 | cons op name n pos a cap kids rest ihk ihr => show (flatF rest).length + 1 + 1 + 1 + 1 + 1 = (rest.len + 1) * 5; rw [ihr]; omega
def Fo.snoc : Fo → Nd → Fo
 | .nil, T => .cons T.op T.name T.n T.pos T.a T.cap T.kids .nil
 | .cons op name n pos a cap kids rest, T => .cons op name n pos a cap kids (rest.snoc T)
theorem snoc_len (F : Fo) (T : Nd) : (F.snoc T).len = F.len + 1 := by
 induction F with
 | nil => rfl
 | cons op name n pos a cap kids rest ihk ihr => show (rest.snoc T).len + 1 = _; rw [ihr]; rfl
theorem flatF_snoc (F : Fo) (T : Nd) : flatF (F.snoc T) = flatF F ++ [.string T.op, .string T.name, .int .i64 T.n, .int .i64 T.pos, .slice T.a T.kids.len T.cap] := by
 induction F with
 | nil => rfl
 | cons op name n pos a cap kids rest ihk ihr => show _ :: _ :: _ :: _ :: _ :: flatF (rest.snoc T) = _; rw [ihr]; rfl
theorem ofL_snoc (l : List Nd) (T : Nd) (F : Fo) (h : F.strip = Fo.ofL l) : (F.snoc T).strip = Fo.ofL (l ++ [T.strip]) := by
 induction F generalizing l with
 | nil =>
  cases l with
  | nil => rfl
  | cons a r => cases h
 | cons op name n pos a cap kids rest ihk ihr =>
  cases l with
  | nil => cases h
  | cons b r =>
   obtain ⟨h1, h2, h3, h4, h5, h6, h7⟩ : op = b.op ∧ name = b.name ∧ n = b.n ∧ pos = b.pos ∧ none = (none : Option Addr) ∧ kids.strip = b.kids ∧ rest.strip = Fo.ofL r := by
    have h' : Fo.cons op name n pos none 0 kids.strip rest.strip = Fo.cons b.op b.name b.n b.pos none 0 b.kids (Fo.ofL r) := h
    simp only [Fo.cons.injEq] at h'
    exact ⟨h'.1, h'.2.1, h'.2.2.1, h'.2.2.2.1, rfl, h'.2.2.2.2.2.2.1, h'.2.2.2.2.2.2.2⟩
   show Fo.cons op name n pos none 0 kids.strip (rest.snoc T).strip = Fo.cons b.op b.name b.n b.pos none 0 b.kids (Fo.ofL (r ++ [T.strip]))
   rw [ihr r h7, h1, h2, h3, h4, h6]
theorem ofL_len (l : List Nd) : (Fo.ofL l).len = l.length := by
 induction l with
 | nil => rfl
 | cons a r ih => show (Fo.ofL r).len + 1 = _; rw [ih]; rfl
theorem strip_len (F : Fo) : F.strip.len = F.len := by
 induction F with
 | nil => rfl
 | cons op name n pos a cap kids rest ihk ihr => show rest.strip.len + 1 = _; rw [ihr]; rfl
def Fo.Kids (S : Nat → Prop) (w : World) : Fo → Prop
 | .nil => True
 | .cons op name n pos a cap kids rest => Nd.Good S w ⟨op, name, n, pos, a, cap, kids⟩ ∧ rest.Kids S w
theorem Fo.Kids.from {S : Nat → Prop} {w w' : World} (hg : From S w w') : ∀ {F : Fo}, F.Kids S w → F.Kids S w' := by
 intro F
 induction F with
 | nil => intro _; trivial
 | cons op name n pos a cap kids rest ihk ihr => exact fun h => ⟨h.1.from hg, ihr h.2⟩
theorem Fo.Kids.lt {S : Nat → Prop} {w : World} : ∀ {F : Fo}, F.Kids S w → F.Kids (fun i => S i ∧ i < w.heap.size) w := by
 intro F
 induction F with
 | nil => intro _; trivial
 | cons op name n pos a cap kids rest ihk ihr => exact fun h => ⟨h.1.lt, ihr h.2⟩
theorem Fo.Kids.mono {S S' : Nat → Prop} {w : World} (hl : ∀ b, S b → S' b) : ∀ {F : Fo}, F.Kids S w → F.Kids S' w := by
 intro F
 induction F with
 | nil => intro _; trivial
 | cons op name n pos a cap kids rest ihk ihr => exact fun h => ⟨h.1.mono hl, ihr h.2⟩
theorem Fo.Kids.snoc {S : Nat → Prop} {w : World} {T : Nd} (hT : T.Good S w) : ∀ {F : Fo}, F.Kids S w → (F.snoc T).Kids S w := by
 intro F
 induction F with
 | nil => intro _; exact ⟨hT, trivial⟩
 | cons op name n pos a cap kids rest ihk ihr => exact fun h => ⟨h.1, ihr h.2⟩
theorem Fo.Kids.above {S : Nat → Prop} {w : World} : ∀ {F : Fo}, F.Kids S w → F.above S := by
 intro F
 induction F with
 | nil => intro _; trivial
 | cons op name n pos a cap kids rest ihk ihr => exact fun h => ⟨h.1.above.1, h.1.above.2, ihr h.2⟩
theorem Fo.Kids.lies {S : Nat → Prop} {w : World} {g : Nat} : ∀ {F : Fo} {o : Nat}, (∀ j v, (flatF F)[j]? = some v → w.cell? ⟨g, o + j, none⟩ = some v) → F.Kids S w → F.In w g o := by
 intro F
 induction F with
 | nil => intro o _ _; trivial
 | cons op name n pos a cap kids rest ihk ihr =>
  intro o hc hk
  refine ⟨⟨hc 0 _ rfl, hc 1 _ rfl, hc 2 _ rfl, hc 3 _ rfl, hc 4 _ rfl⟩, hk.1.lies, ihr (fun j v hj => ?_) hk.2⟩
  have := hc (j + 5) v hj
  rw [show o + (j + 5) = o + 5 + j by omega] at this
  exact this
theorem row_good {lo : Nat} {w : World} {v : Value} {F : Fo} (h : w.ownsRow lo 26 5 v F.len (flatF F)) (hk : F.Kids (fun b => lo ≤ b ∧ some b ≠ v.ownBlock) w) (hl : F.len ≤ 140737488351232) :
  ∃ a cap, v = .slice a F.len cap ∧ ∀ op name n pos cap', Nd.Good (fun b => lo ≤ b) w ⟨op, name, n, pos, a, cap', F⟩ := by
 rcases h.2 with ⟨rfl, h0⟩ | ⟨g, cap, cur, rfl, hb, hg, hrest⟩
 ·have hF : F = .nil := by cases F with
   | nil => rfl
   | cons op name n pos a cap kids rest => cases h0
  subst hF
  exact ⟨none, 0, rfl, fun op name n pos cap' => Nd.Good.leaf _ _ _ _ _ _ _ _⟩
 ·refine ⟨some ⟨g, 0, none⟩, cap, rfl, fun op name n pos cap' => ?_⟩
  have hc : ∀ j v, (flatF F)[j]? = some v → w.cell? ⟨g, 0 + j, none⟩ = some v := by
   intro j v hj
   rw [Nat.zero_add]
   have hjl : j < F.len * 5 := by rw [← flatF_len]; exact (List.getElem?_eq_some_iff.1 hj).1
   exact (h.cellAt j hjl).trans hj
  have hin := Fo.Kids.lies hc hk
  rcases Nat.eq_zero_or_pos F.len with h0 | h0
  ·have hF : F = .nil := by cases F with
    | nil => rfl
    | cons op name n pos a cap kids rest => cases h0
   subst hF
   exact Nd.Good.leaf _ _ _ _ _ _ _ _
  ·refine ⟨.inr ⟨g, 0, rfl, hl, ⟨h0, ?_⟩, hin⟩, .inr ⟨g, 0, rfl, hb⟩, (hk.mono (fun b hb => hb.1)).above⟩
   unfold World.frozen?
   simp only [hg]
   rfl
theorem own_form {w : World} {base e size n : Nat} {v : Value} {xs : List Value} (h : w.ownsRow base e size v n xs) : ∃ a cap, v = .slice a n cap := by
 rcases h.2 with ⟨rfl, h0⟩ | ⟨g, cap, cur, rfl, _⟩
 ·exact ⟨none, 0, by rw [h0]⟩
 ·exact ⟨_, cap, rfl⟩
theorem clo_t : clo false = (ByteArray.mk #[41]).toList := by decide +kernel
theorem clo_p : clo true = (ByteArray.mk #[125]).toList := by decide +kernel
theorem Tryz.infoNode : (Tryz.prog.info? 26).map (fun i => (i.zero, i.size, i.bytes)) = some (some (.agg #[.string ⟨#[]⟩, .string ⟨#[]⟩, .int .i64 0, .int .i64 0, .slice none 0 0]), 5, 72) := by kernel_rfl
theorem cell_five_new (w : World) (a b c d e : Value) (t : TypeId) : ∀ j u, [a, b, c, d, e][j]? = some u → (w.alloc (.cells #[a, b, c, d, e] t)).cell? ((⟨w.heap.size, 0, none⟩ : Addr).add j) = some u := by
 intro j u hj
 have hx := new_at w (.cells #[a, b, c, d, e] t)
 rw [show (⟨w.heap.size, 0, none⟩ : Addr).add j = ⟨w.heap.size, 0 + j, none⟩ from by unfold Addr.add; split <;> simp_all, cell_of_row _ _ _ _ _ _ hx, Nat.zero_add]
 simpa using hj
theorem kids_append {lo : Nat} {w w' : World} {v v' : Value} {F : Fo} {U : Nd} (hk : F.Kids (fun b => lo ≤ b ∧ some b ≠ v.ownBlock) w) (hU : U.Good (fun b => lo ≤ b ∧ some b ≠ v.ownBlock) w) (hg : w.grownBy w' v.ownBlock) (hv : v'.ownBlock = v.ownBlock ∨ v'.ownBlock = some w.heap.size) : (F.snoc U).Kids (fun b => lo ≤ b ∧ some b ≠ v'.ownBlock) w' := by
 have hf : From (fun i => (lo ≤ i ∧ some i ≠ v.ownBlock) ∧ i < w.heap.size) w w' := ⟨hg.size, fun b hb hl => hg.block b hl hb.1.2⟩
 refine Fo.Kids.mono (S := fun i => (lo ≤ i ∧ some i ≠ v.ownBlock) ∧ i < w.heap.size) (fun b hb => ⟨hb.1.1, ?_⟩) (Fo.Kids.snoc (hU.lt.from hf) (hk.lt.from hf))
 rcases hv with hv | hv
 ·rw [hv]; exact hb.1.2
 ·rw [hv]; intro h; have := Option.some.inj h; omega
theorem kp_append {B : Nat} {a w w' : World} {row : Option Nat} (h : Kp B a w) (hg : w.grownBy w' row) (hr : ∀ k, row = some k → a.heap.size ≤ k) : Kp B a w' :=
 ⟨hg.os.trans h.os, hg.tape.trans h.tape, hg.output.trans h.output, Nat.le_trans h.size hg.size, fun i hi hne => (hg.block i (Nat.lt_of_lt_of_le hi h.size) (fun e => by have := hr i e.symm; omega)).trans (h.block i hi hne)⟩
end Go.Proofs.YtmpcmpeloebnhaaGreatDoor
