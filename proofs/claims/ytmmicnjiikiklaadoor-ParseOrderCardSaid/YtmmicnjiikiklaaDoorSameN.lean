/- Same: two nodes are one, places aside. -/
import Derived.Test.YtmmicnjiikiklaaDoorPPure
import Derived.Test.YtmmicnjiikiklaaDoorLexA
import Derived.Test.YtmmicnjiikiklaaDoorRows
import Derived.WalkKit
import Derived.WalkLawsBesides
import Derived.WalkSpells
import Derived.ProofKit
import Derived.Outline
import Derived.Deep.QuietTactic
import Derived.BigQuiet
import Derived.Deep.Light
import Derived.Deep.CutBlock
import Derived.Deep.DeepCutAuto
import Derived.Deep.DeepFit
import Derived.Deep.LoopGhost
import Derived.Lib.Hide
import Derived.Lib.OthersKept
import Derived.IntWalk
import Derived.StillTailTactics
import Derived.Deep.RegionHeld3
namespace Go.Proofs.YtmmicnjiikiklaaDoor
open Go.RowKit
/-! Two nodes are one, places aside. -/
def Fo.same : Fo → Fo → Bool
  | .nil, .nil => true
  | .cons op name n _ _ _ kids rest, .cons op' name' n' _ _ _ kids' rest' => (op.toList == op'.toList && (name.toList == name'.toList && (n == n' && (kids.len == kids'.len && kids.same kids')))) && rest.same rest'
  | _, _ => false
def Nd.same (T U : Nd) : Bool := T.op.toList == U.op.toList && (T.name.toList == U.name.toList && (T.n == U.n && (T.kids.len == U.kids.len && T.kids.same U.kids)))
theorem strip_len (F : Fo) : F.strip.len = F.len := by
  induction F with
  | nil => rfl
  | cons op name n pos a cap kids rest _ ih => show rest.strip.len + 1 = rest.len + 1; rw [ih]
theorem strip_same : ∀ F G : Fo, F.strip.same G.strip = F.same G
  | .nil, .nil => rfl
  | .nil, .cons .. => rfl
  | .cons .., .nil => rfl
  | .cons op name n _ _ _ kids rest, .cons op' name' n' _ _ _ kids' rest' => by
    show ((op.toList == op'.toList && (name.toList == name'.toList && (n == n' && (kids.strip.len == kids'.strip.len && kids.strip.same kids'.strip)))) && rest.strip.same rest'.strip) = _
    rw [strip_len, strip_len, strip_same kids kids', strip_same rest rest']
    rfl
theorem Nd.strip_same (T U : Nd) : T.strip.same U.strip = T.same U := by
  show (T.op.toList == U.op.toList && (T.name.toList == U.name.toList && (T.n == U.n && (T.kids.strip.len == U.kids.strip.len && T.kids.strip.same U.kids.strip)))) = _
  rw [strip_len, strip_len, Go.Proofs.YtmmicnjiikiklaaDoor.strip_same]
  rfl
theorem Fo.all_any (F : Fo) : Fo.All (fun _ => True) F := by
  induction F with
  | nil => trivial
  | cons op name n pos a cap kids rest _ ih => exact ⟨trivial, ih⟩
def SameC (T : Nd) : Prop := ∀ (U : Nd) (w : World), T.In w → U.In w → Calls Tryd.prog 12 #[T.val, U.val] w fun e w' => e = .returned (.bool (T.same U)) ∧ Below w.heap.size w w'
set_option maxRecDepth 100000 in
set_option maxHeartbeats 4000000 in
theorem same_any (T : Nd) : SameC T := by
  refine Nd.all_of (P := SameC) ?_ T
  rintro ⟨op, name, n, pos, a, cap, kids⟩ hk ⟨op', name', n', pos', a', cap', kids'⟩ w hin hin'
  rw [Nd.val_def, Nd.val_def]
  have hc5 := cellsNode
  show Calls _ _ #[.agg #[.string op, .string name, .int .i64 n, .int .i64 pos, .slice a kids.len cap], .agg #[.string op', .string name', .int .i64 n', .int .i64 pos', .slice a' kids'.len cap']] w fun e w' => e = .returned (.bool (op.toList == op'.toList && (name.toList == name'.toList && (n == n' && (kids.len == kids'.len && kids.same kids'))))) ∧ Below w.heap.size w w'
  cases h0 : (op.toList == op'.toList) with
  | false =>
    clear hin hin' hk
    go_enter Tryd.func12, Tryd.ntmps12
    go_wp2
    go_ret
    exact ⟨rfl, two_boxes _ _ _⟩
  | true =>
    cases h1 : (name.toList == name'.toList) with
    | false =>
      clear hin hin' hk
      go_enter Tryd.func12, Tryd.ntmps12
      go_wp2
      go_ret
      exact ⟨rfl, two_boxes _ _ _⟩
    | true =>
      cases h2 : (n == n') with
      | false =>
        have h2n : (n != n') = true := by rw [bne, h2]; rfl
        clear hin hin' hk
        go_enter Tryd.func12, Tryd.ntmps12
        go_wp2
        go_ret
        exact ⟨rfl, two_boxes _ _ _⟩
      | true =>
        have h2n : (n != n') = false := by rw [bne, h2]; rfl
        cases h3 : (kids.len == kids'.len) with
        | false =>
          have h3' : ((kids.len : Int) != (kids'.len : Int)) = true := by
            have : kids.len ≠ kids'.len := by simpa using h3
            rw [bne_iff_ne]; omega
          clear hin hin' hk
          go_enter Tryd.func12, Tryd.ntmps12
          go_wp2
          go_ret
          exact ⟨rfl, two_boxes _ _ _⟩
        | true =>
          have hl : kids'.len = kids.len := (beq_iff_eq.1 h3).symm
          have h3' : ((kids.len : Int) != (kids.len : Int)) = false := by simp
          clear h3
          rw [hl]
          simp only [Bool.true_and]
          have c1 : ∀ x, ((w.alloc (boxOf op name n pos a kids.len cap)).alloc x).cell? ⟨w.heap.size, 4, none⟩ = some (.slice a kids.len cap) := fun x => ((Below.refl _ _).alloc (Nat.le_refl _) x |> fun hb => cell_below hb (box_cell w op name n pos a kids.len cap))
          have c2 : ∀ y, ((w.alloc y).alloc (boxOf op' name' n' pos' a' kids.len cap')).cell? ⟨w.heap.size + 1, 4, none⟩ = some (.slice a' kids.len cap') := fun y => by have := box_cell (w.alloc y) op' name' n' pos' a' kids.len cap'; rw [alloc_size] at this; exact this
          rcases hin with hnil | ⟨b, o, hab, hlim, hgt, hin⟩
          · obtain rfl : kids = .nil := hnil
            obtain rfl : kids' = .nil := by cases kids' with
              | nil => rfl
              | cons => cases hl
            clear hk hin'
            go_enter Tryd.func12, Tryd.ntmps12
            go_wp2
            go_loopw [5] (fun i wr => i = .int .i64 0 ∧ wr.cell? ⟨w.heap.size, 4, none⟩ = some (.slice a 0 cap) ∧ Below w.heap.size w wr) (fun _ _ => 0)
            case atStart => exact ⟨rfl, c1 _, two_boxes _ _ _⟩
            case round =>
              obtain ⟨rfl, hc, hbx⟩ := hrel
              clear c1 c2
              go_wp2
              go_ret
              exact ⟨rfl, hbx⟩
          · obtain rfl : a = some ⟨b, o, none⟩ := hab
            rcases hin' with hnil' | ⟨b', o', hab', hlim', hgt', hin'⟩
            · obtain rfl : kids' = .nil := hnil'
              exact absurd hgt.1 (by rw [← hl]; decide)
            · obtain rfl : a' = some ⟨b', o', none⟩ := hab'
              have hst := Tail.start hin hk
              have hst' := Tail.start (P := fun _ => True) hin' (Fo.all_any _)
              have hb2 := two_boxes w (boxOf op name n pos (some ⟨b, o, none⟩) kids.len cap) (boxOf op' name' n' pos' (some ⟨b', o', none⟩) kids.len cap')
              have HS := Lib.hid (hst.below hb2)
              have HS' := Lib.hid (hst'.below hb2)
              have d1 := c1 (boxOf op' name' n' pos' (some ⟨b', o', none⟩) kids.len cap')
              have d2 := c2 (boxOf op name n pos (some ⟨b, o, none⟩) kids.len cap)
              have hlim : kids.len ≤ 140737488351232 := hlim
              clear c1 c2 hst hst' hin hin' hk hgt' hlim'
              go_enter Tryd.func12, Tryd.ntmps12
              go_wp2
              go_loopw [5] (fun i wr => ∃ (k : Nat) (R R' : Fo), i = .int .i64 k ∧ RowKit.Hid (kids.same kids' = R.same R') ∧ RowKit.Hid (Tail wr SameC kids R b o k) ∧ RowKit.Hid (Tail wr (fun _ => True) kids' R' b' o' k) ∧ wr.cell? ⟨w.heap.size, 4, none⟩ = some (.slice (some ⟨b, o, none⟩) kids.len cap) ∧ wr.cell? ⟨w.heap.size + 1, 4, none⟩ = some (.slice (some ⟨b', o', none⟩) kids.len cap') ∧ Below w.heap.size w wr) (fun i _ => kids.len - (intOf i).toNat)
              case atStart => exact ⟨0, kids, kids', rfl, Lib.hid rfl, HS, HS', d1, d2, hb2⟩
              case round =>
                obtain ⟨k, R, R', rfl, HM, HT, HT', e1, e2, hbx⟩ := hrel
                clear HS HS' d1 d2 hb2
                cases R with
                | nil =>
                  have hkl : k = kids.len := by have := HT.out.len; simpa [Fo.len] using this
                  cases R' with
                  | cons => exact absurd HT'.out.len (by rw [hl, hkl]; simp [Fo.len])
                  | nil =>
                    subst hkl
                    have HR := Lib.hid HM.out
                    clear HM HT HT'
                    go_wp2
                    go_ret
                    exact ⟨by rw [HR.out]; rfl, hbx⟩
                | cons op1 name1 n1 pos1 a1 cap1 kids1 rest =>
                  cases R' with
                  | nil => exact absurd HT.out.len (by have := HT'.out.len; simp [Fo.len] at this ⊢; omega)
                  | cons op2 name2 n2 pos2 a2 cap2 kids2 rest2 =>
                    obtain ⟨⟨p0, p1, p2, p3, p4⟩, hin1, hP, hkl, hnext⟩ := HT.out.next
                    obtain ⟨⟨q0, q1, q2, q3, q4⟩, hin2, _, hkl2, hnext2⟩ := HT'.out.next
                    have hkl' : (k : Int) < kids.len := by omega
                    have HN := Lib.hid hnext
                    have HN2 := Lib.hid hnext2
                    have hbd : Below wr.heap.size wr wr.drew := (Below.refl _ wr).drew
                    have hcall := hP ⟨op2, name2, n2, pos2, a2, cap2, kids2⟩ wr.drew (hin1.below hbd) (hin2.below hbd)
                    rw [Nd.val_def, Nd.val_def] at hcall
                    have HC := Lib.hid hcall
                    have HBD := Lib.hid hbd
                    clear hnext hnext2 hin1 hin2 hP HT HT' hkl hkl2 hbd hcall
                    go_wp2_with fail
                    go_region_held3 (fun wz => wz.cell? ⟨w.heap.size, 4, none⟩ = some (.slice (some ⟨b, o, none⟩) kids.len cap) ∧ wz.cell? ⟨w.heap.size + 1, 4, none⟩ = some (.slice (some ⟨b', o', none⟩) kids.len cap') ∧ wz.cell? ⟨b, o + k * 5, none⟩ = some (.string op1) ∧ wz.cell? ⟨b, o + k * 5 + 1, none⟩ = some (.string name1) ∧ wz.cell? ⟨b, o + k * 5 + 2, none⟩ = some (.int .i64 n1) ∧ wz.cell? ⟨b, o + k * 5 + 3, none⟩ = some (.int .i64 pos1) ∧ wz.cell? ⟨b, o + k * 5 + 4, none⟩ = some (.slice a1 kids1.len cap1) ∧ wz.cell? ⟨b', o' + k * 5, none⟩ = some (.string op2) ∧ wz.cell? ⟨b', o' + k * 5 + 1, none⟩ = some (.string name2) ∧ wz.cell? ⟨b', o' + k * 5 + 2, none⟩ = some (.int .i64 n2) ∧ wz.cell? ⟨b', o' + k * 5 + 3, none⟩ = some (.int .i64 pos2) ∧ wz.cell? ⟨b', o' + k * 5 + 4, none⟩ = some (.slice a2 kids2.len cap2)) (go_keep) (first | (go_at_call 12; refine HC.out.mono ?_; rintro e w2 ⟨rfl, hb2⟩; replace e1 := cell_below (HBD.out.trans (hb2.mono HBD.out.size)) e1; replace e2 := cell_below (HBD.out.trans (hb2.mono HBD.out.size)) e2; replace p0 := cell_below (HBD.out.trans (hb2.mono HBD.out.size)) p0; replace p1 := cell_below (HBD.out.trans (hb2.mono HBD.out.size)) p1; replace p2 := cell_below (HBD.out.trans (hb2.mono HBD.out.size)) p2; replace p3 := cell_below (HBD.out.trans (hb2.mono HBD.out.size)) p3; replace p4 := cell_below (HBD.out.trans (hb2.mono HBD.out.size)) p4; replace q0 := cell_below (HBD.out.trans (hb2.mono HBD.out.size)) q0; replace q1 := cell_below (HBD.out.trans (hb2.mono HBD.out.size)) q1; replace q2 := cell_below (HBD.out.trans (hb2.mono HBD.out.size)) q2; replace q3 := cell_below (HBD.out.trans (hb2.mono HBD.out.size)) q3; replace q4 := cell_below (HBD.out.trans (hb2.mono HBD.out.size)) q4; have HB2 := Lib.hid (HBD.out.trans (hb2.mono HBD.out.size)); clear hb2))
                    have hM2 : kids.same kids' = (Nd.same ⟨op1, name1, n1, pos1, a1, cap1, kids1⟩ ⟨op2, name2, n2, pos2, a2, cap2, kids2⟩ && rest.same rest2) := HM.out
                    have hbx2 := hbx.trans (HB2.out.mono hbx.size)
                    have HT2 := Lib.hid (HN.out.below HB2.out)
                    have HT3 := Lib.hid (HN2.out.below HB2.out)
                    cases hz : Nd.same ⟨op1, name1, n1, pos1, a1, cap1, kids1⟩ ⟨op2, name2, n2, pos2, a2, cap2, kids2⟩ with
                    | false =>
                      rw [hz] at hM2
                      have HM2 := Lib.hid hM2
                      clear HM HC hM2 HN HN2 p0 p1 p2 p3 p4 q0 q1 q2 q3 q4 HB2 HBD HT2 HT3
                      go_wp2
                      go_ret
                      exact ⟨by rw [HM2.out]; rfl, hbx2⟩
                    | true =>
                      rw [hz, Bool.true_and] at hM2
                      have HM2 := Lib.hid hM2
                      clear HM HC hM2 HN HN2 p0 p1 p2 p3 p4 q0 q1 q2 q3 q4 HB2 HBD
                      go_wp2
                      go_roundw
                      case rel => exact ⟨k + 1, rest, rest2, by go_num, HM2, HT2, HT3, e1, e2, hbx2⟩
                      case measure => (try simp [intOf]); omega
end Go.Proofs.YtmmicnjiikiklaaDoor
