/- KindsProgs: any program has the first error of kinds that the document says; the call answers true. Condition: the listed tables stand as laid; the card ties them to the text of the program. -/
import Derived.Test.YtmlmjopfbohglaaGreatDoorPg48
import Derived.Test.YtmlmjopfbohglaaGreatDoorCards
import Derived.Test.YtmlmjopfbohglaaGreatDoorTie
import Derived.Deep.DeepWitnessRowRef
import Derived.Test.YtmlmjopfbohglaaGreatDoorPg00
import Derived.Test.YtmlmjopfbohglaaGreatDoorRows
import Derived.WalkKit
import Derived.WalkLawsBesides
import Derived.WalkSpells
import Derived.ProofKit
import Derived.Outline
import Derived.Deep.QuietTactic
import Derived.BigQuiet
import Derived.Deep.Light
import Derived.Deep.CutBlock
import Derived.Deep.DeepCutAuto
import Derived.Deep.DeepFit
import Derived.Deep.LoopGhost
import Derived.Lib.Hide
import Derived.Lib.OthersKept
import Derived.IntWalk
import Derived.StillTailTactics
namespace Go.Proofs.YtmlmjopfbohglaaGreatDoor.lawKindsProgs
open Go.ChangeShapes Go.WideShapes Go.ChangeAt Go.RowKit
open Go.ChangeMaps (open_string)
/-! ### the row -/
theorem own : ownKnob Tryz.prog.godebug = none := by kernel_rfl
theorem laidOut : laidOutB Tryz.prog = true := by kernel_rfl
theorem progCells : Tryz.prog.cellTypes Tryz.prog.depth 28 = some [22, 23, 9, 9, 3, 3, 24] := by kernel_rfl
set_option maxRecDepth 100000 in
theorem prog_cap {W : World} {base : Nat} {cs0 : Array Value} {pa : Option Addr} {m pc : Nat} (hi : cs0[1]? = some (.slice pa m pc)) (hv : Value.okWide Tryz.prog W .any base 28 (.agg cs0)) : m ≤ pc := by
  simp only [Value.okWide, Tryz.underlying28] at hv
  obtain ⟨cs, hcs, _, ts, hts, _, hall⟩ := hv
  cases hcs
  rw [progCells] at hts
  cases hts
  obtain ⟨u, hu, hc⟩ := hall 1 _ hi
  obtain rfl : u = 23 := by simpa using hu.symm
  simp only [Cell.okWide, Tryz.underlying23] at hc
  cases pa with
  | none =>
    simp only [Cell.ok, Tryz.underlying23] at hc
    split at hc
    all_goals simp_all
  | some q =>
    simp only [Cell.ok, Tryz.underlying23] at hc
    exact hc.1
set_option maxRecDepth 100000 in
theorem contract (H : Type) (enc : TypeId × Value → H) (W : World) (base : Nat) (args : Array Value) (ds gs : List (DataW H)) (before : List MemPlace)
    (hval : ∀ (j : Nat) t v, Tryz.f6.params[j]? = some t → args[j]? = some v → Value.okWide Tryz.prog W .any base t v)
    (hW : DataW.Whole enc Tryz.prog Tryz.f6.params.toList Rows.kindsProgsSpec.vars false W args.toList ds gs before)
    (hsz0 : (DataW.weightsEach Tryz.prog (Tryz.f6.params.toList ++ (OpenSpec.ofChange Rows.kindsProgsSpec).bare.plain.varTypes Tryz.prog) (ds ++ gs)).all (· ≤ reachBytes) = true) (h : laidMetH Tryz.prog Rows.kindsProgsRow.laid W) :
    Calls Tryz.prog 6 args W fun e W' => ∃ v, e = .returned v ∧ Rows.kindsProgsSpec.post enc Tryz.prog Tryz.f6 false true false false W args v W' := by
  have hW' := hW
  obtain ⟨p, q, hA0, hV, rfl, hfz, hnd⟩ := hW
  have hA : DataW.TrodAll enc Tryz.prog W 0 (fun _ => true) true Tryz.f6.params.toList args.toList ds p := hA0
  rw [Tryz.params6] at hA hval
  obtain ⟨v0, vs0, d0, ds0, p0, q0, hargs, rfl, rfl, h0, r0⟩ := trodAll_cons hA
  obtain ⟨rfl, rfl, rfl⟩ := trodAll_nil r0
  obtain rfl : args = #[v0] := by cases args; simp_all
  have hsz : (DataW.weightsEach Tryz.prog ([28] ++ _) _).all (· ≤ reachBytes) = true := hsz0
  obtain ⟨fuel0, hf0⟩ := h0
  obtain ⟨cs0, rfl, _⟩ := okWide_struct Tryz.underlying28 (hval 0 28 v0 rfl rfl)
  obtain ⟨da0, dl0, dc0, pa0, pl0, pc0, T0, hcs0, hd0, hp0, hm0, hms0⟩ := open_prog progT hf0 (fun n hn => by have := List.all_eq_true.1 hsz _ (DataW.weights_mem_each (j := 0) (t := 28) rfl rfl n hn); simpa using this) (fun b off hp => hfz b off (by simp [hp]))
  obtain rfl : cs0 = #[.slice da0 dl0.length dc0, .slice pa0 pl0.length pc0, .string T0.op, .string T0.name, .int .i64 T0.n, .int .i64 T0.pos, .slice T0.a T0.kids.len T0.cap] := by apply Array.ext'; simpa [Value.cells] using hcs0
  clear hA0
  refine (kprogs_walk dl0 da0 dc0 pl0 pa0 pc0 T0 W hd0 hp0 hm0 hms0 (prog_cap rfl (hval 0 28 _ rfl rfl)) (u8tabs_of h (by simp [Rows.kindsProgsRow]) (by simp [Rows.kindsProgsRow])) (ltabs_of h (by simp [Rows.kindsProgsRow]) (by simp [Rows.kindsProgsRow]))).mono fun e W' ⟨he, hb⟩ => ?_
  subst he
  exact ⟨_, rfl, law_post laidOut hb (by kernel_rfl) rfl (by kernel_rfl) Tryz.underlying4 rfl hW'⟩
theorem reads (os : Os) {H : Type} (enc : TypeId × Value → H) : ∃ places, DataW.whole enc Tryz.prog ((laidWorld os).forCall (fun _ _ => 0) ⟨#[], #[.agg #[.slice none 0 0, .slice none 0 0, .string ⟨#[]⟩, .string ⟨#[]⟩, .int .i64 0, .int .i64 0, .slice none 0 0]], []⟩).memory Tryz.f6.params.toList Rows.kindsProgsSpec.vars false #[Value.agg #[.slice none 0 0, .slice none 0 0, .string ⟨#[]⟩, .string ⟨#[]⟩, .int .i64 0, .int .i64 0, .slice none 0 0]].toList 8 = some ([.agg [.nil, .nil, .agg [.lit (.string []), .lit (.string []), .lit (.int .i64 0), .lit (.int .i64 0), .nil]]], [], places) :=
  ⟨[], by kernel_rfl⟩
set_option maxRecDepth 100000 in
theorem lifted (os : Os) (started : os.Started) (H : Type) (enc : TypeId × Value → H) (F : Stop.Interp) :
    ReturnsInHanded {} Tryz.checked os 6 .any ((OpenSpec.ofChange Rows.kindsProgsSpec).preRow enc Tryz.prog Tryz.f6 Rows.kindsProgsRow.domain false Rows.kindsProgsRow.laid) (((OpenSpec.ofChange Rows.kindsProgsSpec).at F).post enc Tryz.prog Tryz.f6 false true false false) := by
  obtain ⟨places, hx⟩ := reads os enc
  refine returnsInHanded_of_row (C := Tryz.checked) (s := OpenSpec.ofChange Rows.kindsProgsSpec) own started (by kernel_rfl) Tryz.func6
    (witness_row_atRef (enc := enc) (C := Tryz.checked) false (laidWorld os) #[.agg #[.slice none 0 0, .slice none 0 0, .string ⟨#[]⟩, .string ⟨#[]⟩, .int .i64 0, .int .i64 0, .slice none 0 0]] rfl (by kernel_rfl) (by kernel_rfl) (by kernel_rfl)
      (OpenSpec.preRow_of_cond 8 hx (by kernel_rfl) (fun k hk => by cases hk) (by kernel_rfl) (laid_met5 os _))) ?_
  intro W base args ds gs before hval hW _ _ hsz hL _ _
  exact contract H enc W base args ds gs before hval hW hsz hL
theorem said : Rows.KindsProgsSaid :=
  OpenClaim.holds_of_cond 6 Tryz.f6 rfl rfl rfl rfl rfl rfl rfl ⟨rfl, rfl, rfl, rfl, rfl⟩ rfl rfl rfl rfl rfl (by kernel_rfl) Tryz.func6 (by kernel_rfl)
    (of_decide_eq_true (by kernel_rfl)) (by unfold Func.isWrapper; first | (rw [if_pos (by decide +kernel)]; kernel_rfl) | (rw [if_neg (by decide +kernel)]; exact ⟨rfl, rfl⟩))
    (fun os started H enc _ F => by rw [OpenClaim.pre_eq_preRow]; exact lifted os started H enc F)
/-- No parameter wants a stand-in; the program's own looks are on. -/
theorem plain (f : FuncId) (fn : Func) (hf : Tryz.pinned.checked.prog.funcNamed "sibyl/sibyllaw6.KindsProgs" = some f) (hfn : Tryz.pinned.checked.prog.funcs[f]? = some fn) :
    true = Tryz.pinned.checked.prog.looks [] ∧ ∀ (j : Nat) t, fn.params[j]? = some t → Tryz.pinned.checked.prog.wantsStandIn t = false := by
  obtain rfl : f = 6 := Option.some.inj ((show Tryz.prog.funcNamed "sibyl/sibyllaw6.KindsProgs" = some 6 by kernel_rfl).symm.trans hf) |>.symm
  obtain rfl : fn = Tryz.f6 := (Option.some.inj (Tryz.func6.symm.trans hfn)).symm
  refine ⟨by kernel_rfl, fun j t ht => ?_⟩
  rw [Tryz.params6] at ht
  obtain rfl : t = 28 := by simpa using Array.mem_of_getElem? ht
  exact (show Tryz.prog.wantsStandIn 28 = false by kernel_rfl)
/-- THE CARD. -/
theorem proved : Rows.KindsProgsCardSaid :=
  Claim7.holds_tied_plain_at .later [] _ _ _ _ said (fun _ h => by cases h) (by kernel_rfl) (fun _ h => by cases h) kindsProgs_row_tie rfl ⟨rfl, rfl⟩ (by kernel_rfl) rfl plain (by kernel_rfl)
end Go.Proofs.YtmlmjopfbohglaaGreatDoor.lawKindsProgs
