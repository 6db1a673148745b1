/- The writer of package show: terms, with commas between them. -/
import Derived.Test.YtamihfgkpilfiaaDoorShT
import Derived.Test.YtamihfgkpilfiaaDoorLexA
import Derived.Test.YtamihfgkpilfiaaDoorRows
import Derived.WalkKit
import Derived.WalkLawsBesides
import Derived.WalkSpells
import Derived.ProofKit
import Derived.Outline
import Derived.Deep.QuietTactic
import Derived.BigQuiet
import Derived.Deep.Light
import Derived.Deep.CutBlock
import Derived.Deep.DeepCutAuto
import Derived.Deep.DeepFit
import Derived.Deep.LoopGhost
import Derived.Lib.Hide
import Derived.Lib.OthersKept
import Derived.IntWalk
import Derived.StillTailTactics
namespace Go.Proofs.YtamihfgkpilfiaaDoor
open Go.RowKit
theorem rowT_cons (f : Bool) (x : L8 × L8) (r : List (L8 × L8)) : rowT f (x :: r) = ((if f then [] else [44, 32]) ++ x.2) ++ rowT false r := rfl
set_option maxRecDepth 100000 in
set_option maxHeartbeats 4000000 in
theorem wterms_any (T : Nd) (hT : Fo.All TmC T.kids) (hk : T.kids.allB Nd.okT = true) (B b : Nat) (l t : L8) (w : World) (hI : TIn B T w) (h : WB B b l w) (ht : t = rowT true T.kids.tx) (hlen : l.length + t.length ≤ 140737488351232) :
    Calls Tryd.prog 56 #[wAt b, .slice T.a T.kids.len T.cap] w (WPost B b (l ++ t) w) := by
  obtain ⟨op, name, n, pos, a, cap, kids⟩ := T
  simp only at hT hk ht
  show Calls Tryd.prog 56 #[wAt b, .slice a kids.len cap] w (WPost B b (l ++ t) w)
  have hBw := hI.size
  have hc5 := cellsNode
  obtain ⟨w0, rfl, hin, hb0⟩ := hI
  rcases hin with hnil | ⟨bk, o, hab, hlim, _, hin⟩
  · obtain rfl : kids = .nil := hnil
    have htn : t = [] := ht
    subst htn
    show Calls Tryd.prog 56 #[wAt b, .slice a 0 cap] w (WPost w0.heap.size b (l ++ []) w)
    rw [List.append_nil]
    clear ht hT hk
    have H0 := Lib.hid h
    clear h
    go_enter Tryd.func56, Tryd.ntmps56
    go_wp2
    go_loopw [8] (fun i wr => i = .int .i64 0 ∧ wr = w) (fun _ _ => 0)
    case atStart => exact ⟨rfl, rfl⟩
    case round =>
      obtain ⟨rfl, rfl⟩ := hrel
      go_wp2
      go_end0
      exact ⟨rfl, H0.out, Below.refl _ _, Lib.OthersKept.refl _ _ _⟩
  obtain rfl : a = some ⟨bk, o, none⟩ := hab
  have hlim : kids.len ≤ 140737488351232 := hlim
  have HS := Lib.hid (Tail.start hin hT)
  have HL := Lib.hid hlen
  have H0 := Lib.hid h
  have HB0 := Lib.hid hb0
  have HTT := Lib.hid ht
  have HOK := Lib.hid hk
  clear hin hT hlen h hb0 ht hk
  go_enter Tryd.func56, Tryd.ntmps56
  go_wp2
  go_loopw [8] (fun i wr => ∃ (j : Nat) (R : Fo) (acc : L8), i = .int .i64 j ∧ j ≤ kids.len ∧ Hid (Tail w0 TmC kids R bk o j) ∧ Hid (R.allB Nd.okT = true) ∧ Hid (acc ++ rowT (j == 0) R.tx = t) ∧ Hid (WB w0.heap.size b (l ++ acc) wr) ∧ Hid (Below w0.heap.size w wr) ∧ Hid (KeptW b w wr)) (fun i _ => kids.len - (intOf i).toNat)
  case atStart => exact ⟨0, kids, [], rfl, Nat.zero_le _, HS, HOK, Lib.hid HTT.out.symm, Lib.hid (by rw [List.append_nil]; exact H0.out), Lib.hid (Below.refl _ _), Lib.hid (Lib.OthersKept.refl _ _ _)⟩
  case round =>
    obtain ⟨j, R, acc, rfl, hj, HT, HK, HE, HW, HB, HQ⟩ := hrel
    cases R with
    | nil =>
      have hkl : j = kids.len := by have := HT.out.len; simpa [Fo.len] using this
      subst hkl
      have hacc : acc = t := by have := HE.out; simpa [Fo.tx, rowT] using this
      subst hacc
      clear HT HK HE HS HOK HTT HL
      go_wp2
      go_end0
      exact ⟨rfl, HW.out, HB.out, HQ.out⟩
    | cons op1 name1 n1 pos1 a1 cap1 kids1 rest =>
      have hbr : Below w0.heap.size w0 wr := HB0.out.trans HB.out
      obtain ⟨hnode0, hin1, hP, hkl, hnext⟩ := HT.out.next
      obtain ⟨c0, c1, c2, c3, c4⟩ := hnode0.below hbr
      have hkl' : (j : Int) < kids.len := by omega
      have hxw : TIn w0.heap.size ⟨op1, name1, n1, pos1, a1, cap1, kids1⟩ wr := ⟨w0, rfl, hin1, hbr⟩
      have hok1 := HK.out
      simp only [Fo.allB, Bool.and_eq_true] at hok1
      obtain ⟨hok1, hok2⟩ := hok1
      have he := HE.out
      have hcm : Calls Tryd.prog 60 #[wAt b, .int .i64 j] (wr.alloc (boxOf op1 name1 n1 pos1 a1 kids1.len cap1)) (WPost w0.heap.size b (l ++ acc ++ (if (j == 0) = true then [] else [44, 32])) (wr.alloc (boxOf op1 name1 n1 pos1 a1 kids1.len cap1))) := by
        have he2 := congrArg List.length he
        rw [show (Fo.cons op1 name1 n1 pos1 a1 cap1 kids1 rest).tx = (fTxt op1 name1 n1 kids1.tx, tTxt op1 name1 n1 kids1.tx) :: rest.tx from rfl, rowT_cons] at he2
        have hl := HL.out
        simp only [List.length_append] at he2
        cases j with
        | zero => simpa using comma_first w0.heap.size b _ _ (HW.out.alloc (boxOf op1 name1 n1 pos1 a1 kids1.len cap1))
        | succ j => 
          have := comma_more w0.heap.size b _ j _ (HW.out.alloc (boxOf op1 name1 n1 pos1 a1 kids1.len cap1)) (by simp at he2 ⊢; omega)
          simpa using this
      have hl2 : (l ++ acc ++ (if (j == 0) = true then [] else [44, 32])).length + (Nd.tx ⟨op1, name1, n1, pos1, a1, cap1, kids1⟩).length ≤ 140737488351232 := by
        have he2 := congrArg List.length he
        rw [show (Fo.cons op1 name1 n1 pos1 a1 cap1 kids1 rest).tx = (fTxt op1 name1 n1 kids1.tx, tTxt op1 name1 n1 kids1.tx) :: rest.tx from rfl, rowT_cons] at he2
        have hl := HL.out
        simp only [List.length_append] at he2 ⊢
        show _ + (tTxt op1 name1 n1 kids1.tx).length ≤ _
        omega
      have he3 : (acc ++ (if (j == 0) = true then [] else [44, 32]) ++ Nd.tx ⟨op1, name1, n1, pos1, a1, cap1, kids1⟩) ++ rowT (j + 1 == 0) rest.tx = t := by
        rw [← he]
        rw [show (Fo.cons op1 name1 n1 pos1 a1 cap1 kids1 rest).tx = (fTxt op1 name1 n1 kids1.tx, tTxt op1 name1 n1 kids1.tx) :: rest.tx from rfl, rowT_cons]
        have hj0 : (j + 1 == 0) = false := by simp
        rw [hj0]
        simp only [List.append_assoc]
        rfl
      have hbx := below_box wr (boxOf op1 name1 n1 pos1 a1 kids1.len cap1)
      have hwlt := HW.out.lt
      have HNB := Lib.hid (new_at wr (boxOf op1 name1 n1 pos1 a1 kids1.len cap1))
      have HCM := Lib.hid hcm
      have HL2 := Lib.hid hl2
      have HE3 := Lib.hid he3
      have HX := Lib.hid (hxw.next (hbx.mono hxw.size))
      have HBx := Lib.hid (HB.out.trans (hbx.mono hxw.size))
      have HQx := Lib.hid (HQ.out.trans (kept_below hbx))
      have HP := Lib.hid (hP hok1)
      have HN := Lib.hid hnext
      have HK2 := Lib.hid hok2
      clear hnode0 hin1 hP hnext hbr hxw hok1 hok2 he hcm hl2 he3 HT HK HE HW HB HQ hbx
      go_wp2_with fail
      refine HCM.out.mono ?_
      rintro e w2 ⟨rfl, hW2, hb2, hk2⟩
      have HC := Lib.hid (HP.out w0.heap.size b _ w2 (HX.out.next hb2) hW2 HL2.out)
      have HB2 := Lib.hid (HBx.out.trans hb2)
      have HQ2 := Lib.hid (HQx.out.trans hk2)
      obtain ⟨d0, d1, d2, d3, d4⟩ := box_cells (box_kept HNB.out (by omega) hk2)
      clear hW2 hb2 hk2 HCM HP HX c0 c1 c2 c3 c4 HBx HQx HNB
      go_wp2_with fail
      refine HC.out.mono ?_
      rintro e w3 ⟨rfl, hW3, hb3, hk3⟩
      have HB3 := Lib.hid (HB2.out.trans hb3)
      have HQ3 := Lib.hid (HQ2.out.trans hk3)
      have hW3' : WB w0.heap.size b (l ++ (acc ++ (if (j == 0) = true then [] else [44, 32]) ++ Nd.tx ⟨op1, name1, n1, pos1, a1, cap1, kids1⟩)) w3 := by
        rw [← List.append_assoc, ← List.append_assoc]; exact hW3
      have HW3 := Lib.hid hW3'
      clear hW3 hW3' hb3 hk3 HC HB2 HQ2
      go_wp2
      go_roundw
      case rel => exact ⟨j + 1, rest, _, by go_num, by omega, HN, HK2, HE3, HW3, HB3, HQ3⟩
      case measure => (try simp [intOf]); omega
end Go.Proofs.YtamihfgkpilfiaaDoor
