/- RunesCut: a text that is cut within a rune is read up to there; the call answers true. Condition: the two tables of unicode/utf8 stand as laid; the card ties them to the program s text. -/
import Derived.Test.YtbcjolenachjpaaDoorRunesKnown
import Derived.Test.YtbcjolenachjpaaDoorRunesREach
import Derived.Test.YtbcjolenachjpaaDoorRunesPureCut
import Derived.Test.YtbcjolenachjpaaDoorCards
import Derived.Test.YtbcjolenachjpaaDoorTie
import Derived.Lib.LaidTab
import Derived.Lib.LaidU8
import Derived.Test.YtbcjolenachjpaaDoorLaw
import Derived.WalkKit
import Derived.WalkLawsBesides
import Derived.WalkSpells
import Derived.ProofKit
import Derived.Outline
import Derived.Deep.QuietTactic
import Derived.BigQuiet
import Derived.Deep.Light
import Derived.Deep.CutBlock
import Derived.Deep.DeepCutAuto
import Derived.Deep.DeepFit
import Derived.Deep.LoopGhost
import Derived.Lib.Hide
import Derived.Lib.OthersKept
import Derived.IntWalk
namespace Go.Proofs.YtbcjolenachjpaaDoor.lawRunesCut
open Go.ChangeShapes Go.WideShapes Go.ChangeAt Go.RowKit
open Go.ChangeMaps (open_string)
theorem own : ownKnob Tryd.prog.godebug = none := by kernel_rfl
theorem laidOut : laidOutB Tryd.prog = true := by kernel_rfl
theorem below_drewN {B : Nat} {a w : World} (h : Below B a w) (n : Nat) : Below B a (w.drewN n) := h.trans ⟨rfl, rfl, rfl, Nat.le_refl _, fun _ _ => rfl⟩
theorem cellsRune : Tryd.prog.cellsOf 26 = 2 := by kernel_rfl

set_option maxRecDepth 100000 in
set_option maxHeartbeats 2000000 in
theorem walk (s : ByteArray) (cut : Int) (w : World) (hm : s.size ≤ 140737488351232) (hT : Lib.Utf8Tabs 0 1 w) :
    Calls Tryd.prog 4 #[.string s, .int .i64 cut] w fun e w' => e = .returned (.bool true) ∧ Below w.heap.size w w' := by
  by_cases h1 : 1 ≤ s.size
  · by_cases h300 : s.size ≤ 300
    · have c26 := cellsRune
      go_enter Tryd.func4, Tryd.ntmps4
      go_wp2_with fail
      refine (reach_any _ _ (by omega) hT).mono ?_
      rintro e w1 ⟨v1, rfl, hown1, hb1⟩
      have hsz1 := hb1.size
      clear hown1
      obtain ⟨bad, hbd⟩ : ∃ bad, (each s).2 = bad := ⟨_, rfl⟩
      rw [hbd]
      clear hbd
      by_cases hb0 : 0 ≤ bad
      · go_wp2
        go_ret
        exact ⟨rfl, hb1⟩
      · have hand := i64_and65535 cut
        obtain ⟨K, hK, hKs⟩ : ∃ K : Nat, cut % 65536 % (s.size : Int) = (K : Int) ∧ K < s.size := by
          have e0 : 0 ≤ cut % 65536 % (s.size : Int) := Int.emod_nonneg _ (by omega)
          have e1 : cut % 65536 % (s.size : Int) < s.size := Int.emod_lt_of_pos _ (by omega)
          exact ⟨(cut % 65536 % (s.size : Int)).toNat, by omega, by omega⟩
        have hus : (s.extract 0 K).size = K := by rw [Lib.size_eq, Lib.extract_data]; simp; omega
        have hen := each_ends (s.extract 0 K)
        have hat := each_at (s.extract 0 K)
        have hel := each_len (s.extract 0 K)
        rw [hus] at hen hel
        go_wp2_with fail
        (try simp only [hK])
        refine (each_any _ _ (by omega)).mono ?_
        rintro e w2 ⟨v2, rfl, hown2, hb2⟩
        have hbb : Below w.heap.size w w2 := hb1.trans (hb2.mono hsz1)
        have hsz2 := hbb.size
        obtain ⟨l, odd, hlo⟩ : ∃ l odd, each (s.extract 0 K) = (l, odd) := ⟨_, _, rfl⟩
        rw [hlo] at hown2 hen hat hel ⊢
        have hKh := Lib.hid hK
        clear hlo hb2 hus hK
        simp only [] at hen hat hown2 hel ⊢
        rcases l.eq_nil_or_concat with rfl | ⟨il, q, rfl⟩
        · simp only [ends] at hen
          obtain ⟨a2, cp2, rfl⟩ : ∃ a cap, v2 = .slice a 0 cap := by
            rcases hown2.2 with ⟨rfl, h0⟩ | ⟨g, cap, cur, rfl, _⟩
            · exact ⟨none, 0, rfl⟩
            · exact ⟨_, cap, rfl⟩
          rcases hen with ⟨rfl, e2⟩ | ⟨rfl, e2⟩
          · have hk0 : ((0 : Int) == (K : Int)) = true := by rw [beq_iff_eq]; exact e2
            clear e2
            go_wp2_with fail
            refine (known_any _).mono ?_
            rintro e w5 ⟨rfl, hb5⟩
            go_wp2
            go_ret
            exact ⟨rfl, hbb.trans (hb5.mono (by omega))⟩
          · go_wp2_with fail
            refine (known_any _).mono ?_
            rintro e w5 ⟨rfl, hb5⟩
            go_wp2
            go_ret
            exact ⟨rfl, hbb.trans (hb5.mono (by omega))⟩
        · simp only [List.concat_eq_append] at hown2 hen hat
          rw [ends_snoc] at hen
          have hq := hat q (by simp)
          obtain ⟨m, hm'⟩ : ∃ m, m = il.length := ⟨_, rfl⟩
          have c0 := (flat_get0 (il ++ [q]) m (by simp; omega))
          have c1 := (flat_get1 (il ++ [q]) m (by simp; omega))
          have hqm : (il ++ [q])[m]'(by simp; omega) = q := by subst hm'; simp
          rw [hqm] at c0 c1
          have hlen : (il ++ [q]).length = m + 1 := by simp; omega
          rw [hlen] at hown2
          simp only [List.concat_eq_append] at hel
          rw [hlen] at hel
          clear hqm hlen hm' hat
          obtain ⟨g, cp2, rfl⟩ : ∃ g cap, v2 = .slice (some ⟨g, 0, none⟩) (m + 1) cap := by
            rcases hown2.2 with ⟨_, h0⟩ | ⟨g, cap, cur, hv, _⟩
            · omega
            · exact ⟨g, cap, hv⟩
          have d0 := (hown2.cellAt (m * 2) (by omega)).trans c0
          have d1 := (hown2.cellAt (m * 2 + 1) (by omega)).trans c1
          clear c0 c1 hown2
          unfold encLen at hen
          have hsum : IntKind.i64.wrap (q.2 + ((Utf8.encode q.1).size : Int)) = q.2 + ((Utf8.encode q.1).size : Int) := by rw [IntKind.wrap_i64]; omega
          have hwr : IntKind.i64.wrap (m : Int) = (m : Int) := by rw [IntKind.wrap_i64]; omega
          have hix1 : (m : Int) < (m : Int) + 1 := by omega
          have hix3 : m < m + 1 := by omega
          have hix0 : (0 : Int) ≤ (m : Int) := by omega
          rcases hen with ⟨rfl, e2⟩ | ⟨e1, e2⟩
          · have f1 : (q.2 + ((Utf8.encode q.1).size : Int) == (K : Int)) = true := by rw [beq_iff_eq]; exact e2
            clear e2
            go_wp2
            go_quiet (fail)
            go_wp2_with fail
            refine (known_any _).mono ?_
            rintro e w5 ⟨rfl, hb5⟩
            go_wp2
            go_ret
            exact ⟨rfl, hbb.trans ((below_drewN (Below.refl _ _) _).trans (hb5.mono (by simpa using hsz2)))⟩
          · have f0 : (odd == (-1 : Int)) = false := by rw [beq_eq_false_iff_ne]; omega
            have f1 : (odd == q.2 + ((Utf8.encode q.1).size : Int)) = true := by rw [beq_iff_eq]; exact e1
            have f2 : q.2 + ((Utf8.encode q.1).size : Int) < (K : Int) := e2
            clear e1
            go_wp2
            go_quiet (fail)
            go_wp2_with fail
            refine (known_any _).mono ?_
            rintro e w5 ⟨rfl, hb5⟩
            go_wp2
            go_ret
            exact ⟨rfl, hbb.trans ((below_drewN (Below.refl _ _) _).trans (hb5.mono (by simpa using hsz2)))⟩
    · go_enter Tryd.func4, Tryd.ntmps4
      go_wp2
      go_ret
      exact ⟨rfl, Below.refl _ _⟩
  · go_enter Tryd.func4, Tryd.ntmps4
    go_wp2
    go_ret
    exact ⟨rfl, Below.refl _ _⟩

/-! ### the row -/
theorem first_eq : Lib.firstData = Rows.laid_unicode_utf8_first := by kernel_rfl
theorem accept_eq : Lib.acceptData = Rows.laid_unicode_utf8_acceptRanges := by kernel_rfl
theorem reads_first {W : World} (h : laidMetH Tryd.prog Rows.runesCutRow.laid W) : Lib.VarReads Tryd.prog W "unicode/utf8.first" Lib.firstData := by
  rw [first_eq]
  exact Lib.laidMet.reads h (.tail _ (.head _))
theorem reads_accept {W : World} (h : laidMetH Tryd.prog Rows.runesCutRow.laid W) : Lib.VarReads Tryd.prog W "unicode/utf8.acceptRanges" Lib.acceptData := by
  rw [accept_eq]
  exact Lib.laidMet.reads h (.head _)
theorem tabs {W : World} (h : laidMetH Tryd.prog Rows.runesCutRow.laid W) : Lib.Utf8Tabs 0 1 W :=
  utf8Tabs_of_reads (ρ := Tryd.lays260_ren) { Tryd.lays260 with } ⟨by kernel_rfl, by kernel_rfl, by kernel_rfl, by kernel_rfl, by kernel_rfl, by kernel_rfl, by kernel_rfl⟩ (reads_first h) (reads_accept h)

/-- From the reading of the arguments, in every world that holds the tables, to the row's post: for both forms. -/
theorem contract (H : Type) (enc : TypeId × Value → H) (W : World) (base : Nat) (args : Array Value) (ds gs : List (DataW H)) (before : List MemPlace)
    (hval : ∀ (j : Nat) t v, Tryd.f4.params[j]? = some t → args[j]? = some v → Value.okWide Tryd.prog W .any base t v)
    (hW : DataW.Whole enc Tryd.prog Tryd.f4.params.toList Rows.runesCutSpec.vars false W args.toList ds gs before)
    (hsz0 : (DataW.weightsEach Tryd.prog (Tryd.f4.params.toList ++ (OpenSpec.ofChange Rows.runesCutSpec).bare.plain.varTypes Tryd.prog) (ds ++ gs)).all (· ≤ reachBytes) = true) (hT : Lib.Utf8Tabs 0 1 W) :
    Calls Tryd.prog 4 args W fun e W' => ∃ v, e = .returned v ∧ Rows.runesCutSpec.post enc Tryd.prog Tryd.f4 false true false false W args v W' := by
  have hW' := hW
  obtain ⟨p, q, hA0, hV, rfl, hfz, hnd⟩ := hW
  have hA : DataW.TrodAll enc Tryd.prog W 0 (fun _ => true) true Tryd.f4.params.toList args.toList ds p := hA0
  rw [Tryd.params4] at hA hval
  obtain ⟨v0, vs0, d0, ds0, p0, q0, hargs, rfl, rfl, h0, r0⟩ := trodAll_cons hA
  obtain ⟨v1, vs1, d1, ds1, p1, q1, rfl, rfl, rfl, h1, r1⟩ := trodAll_cons r0
  obtain ⟨rfl, rfl, rfl⟩ := trodAll_nil r1
  obtain rfl : args = #[v0, v1] := by cases args; simp_all
  obtain ⟨s, rfl, rfl, rfl, ws⟩ := open_string Tryd.underlying9 (hval 0 9 v0 rfl rfl) h0
  obtain ⟨a1, rfl, rfl, rfl, w1⟩ := open_int Tryd.underlying3 (hval 1 3 v1 rfl rfl) h1
  have hsz : (DataW.weightsEach Tryd.prog ([9, 3] ++ _) _).all (· ≤ reachBytes) = true := hsz0
  have zs : s.data.toList.length ≤ 140737488351232 := sized_string hsz (j := 0) (t := 9) rfl rfl
  rw [← Lib.size_eq] at zs
  clear hA0
  refine (walk s a1 W zs hT).mono fun e W' ⟨he, hb⟩ => ?_
  subst he
  exact ⟨_, rfl, law_post laidOut hb (by kernel_rfl) rfl (by kernel_rfl) Tryd.underlying4 rfl hW'⟩

/-- A world for the witness: the settled one, the two tables as their initialisers lay them. -/
def firstCells : Array Value := (Go.Pinned.utf8FirstZ.map fun (n : Nat) => Value.int .u8 (n : Int)).toArray
def acceptCells : Array Value := ((List.range 16).flatMap fun i => [Value.int .u8 (Lib.accLo i : Int), Value.int .u8 (Lib.accHi i : Int)]).toArray
def put (cs : Array Value) : Obj → Obj
  | .cells _ t frozen => .cells cs t frozen
  | o => o
noncomputable def laidWorld (os : Os) : World :=
  { World.holding Tryd.prog os ⟨#[], #[], []⟩ with heap := ((World.holding Tryd.prog os ⟨#[], #[], []⟩).heap.modify 0 (put firstCells)).modify 1 (put acceptCells) }
theorem laid_met (os : Os) : laidMet Tryd.prog Rows.runesCutRow.laid ((laidWorld os).forCall (fun _ _ => 0) ⟨#[], #[.string ⟨#[]⟩, .int .i64 0], []⟩).memory :=
  laidMet_of_run' 8 (by kernel_rfl) (by kernel_rfl)
theorem reads (os : Os) {H : Type} (enc : TypeId × Value → H) : ∃ places, DataW.whole enc Tryd.prog ((laidWorld os).forCall (fun _ _ => 0) ⟨#[], #[.string ⟨#[]⟩, .int .i64 0], []⟩).memory Tryd.f4.params.toList Rows.runesCutSpec.vars false #[Value.string ⟨#[]⟩, Value.int .i64 0].toList 8 = some ([.lit (.string []), .lit (.int .i64 0)], [], places) :=
  ⟨[], by kernel_rfl⟩
set_option maxRecDepth 100000 in
theorem lifted (os : Os) (started : os.Started) (H : Type) (enc : TypeId × Value → H) (F : Stop.Interp) :
    ReturnsInHanded {} Tryd.checked os 4 .any ((OpenSpec.ofChange Rows.runesCutSpec).preRow enc Tryd.prog Tryd.f4 Rows.runesCutRow.domain false Rows.runesCutRow.laid) (((OpenSpec.ofChange Rows.runesCutSpec).at F).post enc Tryd.prog Tryd.f4 false true false false) := by
  obtain ⟨places, hx⟩ := reads os enc
  refine returnsInHanded_of_row (C := Tryd.checked) (s := OpenSpec.ofChange Rows.runesCutSpec) own started (by kernel_rfl) Tryd.func4
    (witness_row_at (enc := enc) (C := Tryd.checked) false (laidWorld os) #[.string ⟨#[]⟩, .int .i64 0] rfl (by kernel_rfl) (by kernel_rfl) (by kernel_rfl)
      (OpenSpec.preRow_of_cond 8 hx (by kernel_rfl) (fun k hk => by cases hk) (by kernel_rfl) (laid_met os))) ?_
  intro W base args ds gs before hval hW _ _ hsz hL _ _
  exact contract H enc W base args ds gs before hval hW hsz (tabs hL)
theorem said : Rows.RunesCutSaid :=
  OpenClaim.holds_of_cond 4 Tryd.f4 rfl rfl rfl rfl rfl rfl rfl ⟨rfl, rfl, rfl, rfl, rfl⟩ rfl rfl rfl rfl rfl (by kernel_rfl) Tryd.func4 (by kernel_rfl)
    (of_decide_eq_true (by kernel_rfl)) (by unfold Func.isWrapper; first | (rw [if_pos (by decide +kernel)]; kernel_rfl) | (rw [if_neg (by decide +kernel)]; exact ⟨rfl, rfl⟩))
    (fun os started H enc _ F => by rw [OpenClaim.pre_eq_preRow]; exact lifted os started H enc F)
/-- No parameter wants a stand-in; the program's own looks are off. -/
theorem plain (f : FuncId) (fn : Func) (hf : Tryd.pinned.checked.prog.funcNamed "sibyl/sibyllaw1.RunesCut" = some f) (hfn : Tryd.pinned.checked.prog.funcs[f]? = some fn) :
    false = Tryd.pinned.checked.prog.looks [] ∧ ∀ (j : Nat) t, fn.params[j]? = some t → Tryd.pinned.checked.prog.wantsStandIn t = false := by
  obtain rfl : f = 4 := Option.some.inj ((show Tryd.prog.funcNamed "sibyl/sibyllaw1.RunesCut" = some 4 by kernel_rfl).symm.trans hf) |>.symm
  obtain rfl : fn = Tryd.f4 := (Option.some.inj (Tryd.func4.symm.trans hfn)).symm
  refine ⟨by kernel_rfl, fun j t ht => ?_⟩
  rw [Tryd.params4] at ht
  rcases (show t = 9 ∨ t = 3 by simpa using Array.mem_of_getElem? ht) with rfl | rfl
  · exact (show Tryd.prog.wantsStandIn 9 = false by kernel_rfl)
  · exact (show Tryd.prog.wantsStandIn 3 = false by kernel_rfl)
/-- THE CARD. -/
theorem proved : Rows.RunesCutCardSaid :=
  Claim7.holds_tied_plain_at .later [] _ _ _ _ said (fun _ h => by cases h) (by kernel_rfl) (fun _ h => by cases h) runesCut_row_tie rfl ⟨rfl, rfl⟩ (by kernel_rfl) rfl plain (by kernel_rfl)
end Go.Proofs.YtbcjolenachjpaaDoor.lawRunesCut
