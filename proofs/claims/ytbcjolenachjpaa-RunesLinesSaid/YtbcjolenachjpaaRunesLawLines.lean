/- RunesLines: behind each line feed a line begins, of every two texts, and the call answers true. No condition. -/
import Derived.Test.YtbcjolenachjpaaRunesKnown
import Derived.Test.YtbcjolenachjpaaRunesPlc
import Derived.Test.YtbcjolenachjpaaRunesPureLines
import Derived.Test.YtbcjolenachjpaaLaw
import Derived.WalkKit
import Derived.WalkLawsBesides
import Derived.WalkSpells
import Derived.ProofKit
import Derived.Outline
import Derived.Deep.QuietTactic
import Derived.BigQuiet
import Derived.Deep.Light
import Derived.Deep.CutBlock
import Derived.Deep.DeepCutAuto
import Derived.Deep.DeepFit
import Derived.Deep.LoopGhost
import Derived.Lib.Hide
import Derived.Lib.OthersKept
import Derived.IntWalk
namespace Go.Proofs.Ytbcjolenachjpaa.lawRunesLines
open Go.ChangeShapes Go.WideShapes Go.ChangeAt Go.RowKit
open Go.ChangeMaps (open_string)
theorem own : ownKnob Try.prog.godebug = none := by kernel_rfl
theorem laidOut : laidOutB Try.prog = true := by kernel_rfl
theorem fed_cat (s t : ByteArray) : Fed s (s ++ { data := #[10] } ++ t) := by
  have hsz : (s ++ { data := #[10] } ++ t).size = s.size + 1 + t.size := by simp [ByteArray.size_append]; rfl
  have hl : (s ++ { data := #[10] } ++ t).data.toList = s.data.toList ++ 10 :: t.data.toList := by simp
  refine ⟨by omega, fun k hk => ?_, ?_⟩
  · rw [← Lib.getD_get!', ← Lib.getD_get!', hl]
    rw [Lib.size_eq] at hk
    simp [List.getElem?_append_left hk]
  · rw [← Lib.getD_get!', hl, Lib.size_eq]
    simp

set_option maxHeartbeats 2000000 in
theorem walk (s t : ByteArray) (w : World) (hm : s.size ≤ 140737488351232) (ht : t.size ≤ 140737488351232) :
    Calls Try.prog 5 #[.string s, .string t] w fun e w' => e = .returned (.bool true) ∧ Below w.heap.size w w' := by
  by_cases hs : s.size + t.size ≤ 300
  · obtain ⟨X, hX⟩ : ∃ X, X = s ++ { data := #[10] } ++ t := ⟨_, rfl⟩
    have hF : Fed s X := by rw [hX]; exact fed_cat s t
    have hXs : X.size ≤ 1000000 := by rw [hX]; simp [ByteArray.size_append]; show s.size + 1 + t.size ≤ 1000000; omega
    have E1 := (fed_pl hF).1
    have E2 := (fed_pl hF).2
    have H1 := Lib.hid E1
    have H2 := Lib.hid E2
    have hXh := Lib.hid hX
    clear E1 E2 hX
    have hge := plF_ge s s.size s.size 0 1 1 (by omega) (by omega)
    have hle := plF_le s s.size s.size 0 1 1
    have h1 : 1 ≤ (pl s s.size).1 := hge.1
    have h2 : (pl s s.size).1 ≤ 1 + (s.size : Int) := hle
    clear hge hle
    go_enter Try.func5, Try.ntmps5
    go_wp2_with fail
    refine (place_any _ _ _ (by omega)).mono ?_
    rintro e w1 ⟨rfl, hb1⟩
    go_wp2_with fail
    rw [← hXh.out]
    refine (place_any _ _ _ hXs).mono ?_
    rintro e w2 ⟨rfl, hb2⟩
    rw [H2.out]
    go_wp2_with fail
    rw [← hXh.out]
    refine (place_any _ _ _ hXs).mono ?_
    rintro e w3 ⟨rfl, hb3⟩
    rw [H1.out]
    go_wp2_with fail
    refine (place_any _ _ _ (by omega)).mono ?_
    rintro e w4 ⟨rfl, hb4⟩
    go_wp2_with fail
    refine (known_any _).mono ?_
    rintro e w5 ⟨rfl, hb5⟩
    go_wp2
    go_ret
    have q1 := hb1.size
    have q2 := hb2.size
    have q3 := hb3.size
    have q4 := hb4.size
    exact ⟨rfl, hb1.trans ((hb2.mono (by omega)).trans ((hb3.mono (by omega)).trans ((hb4.mono (by omega)).trans (hb5.mono (by omega)))))⟩
  · go_enter Try.func5, Try.ntmps5
    go_wp2
    go_ret
    exact ⟨rfl, Below.refl _ _⟩

/-! ### the row -/
set_option maxRecDepth 100000 in
theorem lifted (os : Os) (started : os.Started) (H : Type) (enc : TypeId × Value → H) :
    ReturnsInHanded {} Try.checked os 5 .any (Rows.runesLinesSpec.pre6 enc Try.prog Try.f5 Rows.runesLinesRow.domain false) (Rows.runesLinesSpec.post enc Try.prog Try.f5 false true false false) := by
  refine returnsInHanded_of_change_sized (C := Try.checked) own started (by kernel_rfl) Try.func5
    (ChangeSpec.witness6 (enc := enc) (C := Try.checked) false ⟨#[], #[.string ⟨#[]⟩, .string ⟨#[]⟩], []⟩ 8 (by kernel_rfl) (by kernel_rfl) (by kernel_rfl) (by kernel_rfl)) ?_
  intro W base args ds gs before hval0 hW hcnd hsz0 _
  have hval : ∀ (j : Nat) t v, Try.f5.params[j]? = some t → args[j]? = some v → Value.okWide Try.prog W .any base t v := hval0
  have hW' := hW
  obtain ⟨p, q, hA0, hV, rfl, hfz, hnd⟩ := hW
  have hA : DataW.TrodAll enc Try.prog W 0 (fun _ => true) true Try.f5.params.toList args.toList ds p := hA0
  rw [Try.params5] at hA hval
  obtain ⟨v0, vs0, d0, ds0, p0, q0, hargs, rfl, rfl, h0, r0⟩ := trodAll_cons hA
  obtain ⟨v1, vs1, d1, ds1, p1, q1, rfl, rfl, rfl, h1, r1⟩ := trodAll_cons r0
  obtain ⟨rfl, rfl, rfl⟩ := trodAll_nil r1
  obtain rfl : args = #[v0, v1] := by cases args; simp_all
  obtain ⟨s, rfl, rfl, rfl, ws⟩ := open_string Try.underlying9 (hval 0 9 v0 rfl rfl) h0
  obtain ⟨t, rfl, rfl, rfl, wt⟩ := open_string Try.underlying9 (hval 1 9 v1 rfl rfl) h1
  have hsz : (DataW.weightsEach Try.prog ([9, 9] ++ _) _).all (· ≤ reachBytes) = true := hsz0
  have zs : s.data.toList.length ≤ 140737488351232 := sized_string hsz (j := 0) (t := 9) rfl rfl
  have zt : t.data.toList.length ≤ 140737488351232 := sized_string hsz (j := 1) (t := 9) rfl rfl
  rw [← Lib.size_eq] at zs zt
  clear hA0 hval0
  refine (walk s t W zs zt).mono fun e W' ⟨he, hb⟩ => ?_
  subst he
  exact ⟨_, rfl, law_post laidOut hb (by kernel_rfl) rfl (by kernel_rfl) Try.underlying4 rfl hW'⟩

/-- THE STATEMENT. -/
theorem proved : Rows.RunesLinesSaid :=
  OpenClaim.holds_of_wide 5 Try.f5 rfl rfl rfl rfl rfl rfl rfl ⟨rfl, rfl, rfl, rfl, rfl⟩ rfl rfl rfl rfl rfl (by kernel_rfl) Try.func5 (by kernel_rfl)
    (of_decide_eq_true (by kernel_rfl)) (by unfold Func.isWrapper; first | (rw [if_pos (by decide +kernel)]; kernel_rfl) | (rw [if_neg (by decide +kernel)]; exact ⟨rfl, rfl⟩))
    (fun os started H enc _ => lifted os started H enc)
end Go.Proofs.Ytbcjolenachjpaa.lawRunesLines
