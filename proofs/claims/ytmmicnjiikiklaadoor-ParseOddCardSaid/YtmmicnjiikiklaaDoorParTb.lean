/- Parse's table, read; a world that holds it. -/
import Derived.Test.YtmmicnjiikiklaaDoorLexTb
import Derived.Test.YtmmicnjiikiklaaDoorPSign
import Derived.Test.YtmmicnjiikiklaaDoorLexA
import Derived.Test.YtmmicnjiikiklaaDoorRows
import Derived.WalkKit
import Derived.WalkLawsBesides
import Derived.WalkSpells
import Derived.ProofKit
import Derived.Outline
import Derived.Deep.QuietTactic
import Derived.BigQuiet
import Derived.Deep.Light
import Derived.Deep.CutBlock
import Derived.Deep.DeepCutAuto
import Derived.Deep.DeepFit
import Derived.Deep.LoopGhost
import Derived.Lib.Hide
import Derived.Lib.OthersKept
import Derived.IntWalk
import Derived.StillTailTactics
import Derived.Deep.Strs
namespace Go.Proofs.YtmmicnjiikiklaaDoor
open Go.RowKit
/-! The law functions' tables, parse's among them. -/
theorem chunk3 {α β : Type} (g : β → List α) : ∀ (zs : List β) (l : List α), l.length = zs.length * 3 → (∀ i z, zs[i]? = some z → (l.drop (i * 3)).take 3 = g z) → l = zs.flatMap g
  | [], l, hl, _ => by
    have : l.length = 0 := by simpa using hl
    rw [List.eq_nil_of_length_eq_zero this]; rfl
  | z :: zs, l, hl, h => by
    have h0 := h 0 z rfl
    simp only [Nat.zero_mul, List.drop_zero] at h0
    have ih := chunk3 g zs (l.drop 3) (by simp only [List.length_cons] at hl; rw [List.length_drop]; omega) (fun i y hy => by
      have := h (i + 1) y (by simpa using hy)
      rw [List.drop_drop]
      rw [← this]
      congr 2
      omega)
    rw [List.flatMap_cons, ← h0, ← ih, List.take_append_drop]
theorem psigs_eq : (DataW.agg (psigs.map fun z => .agg [.lit (.int .i64 z.1), .lit (.string z.2.1.data.toList), .lit (.string z.2.2.data.toList)]) : DataW Unit) = Rows.laid_sibyl_parse_signs := by kernel_rfl
set_option maxRecDepth 100000 in
theorem cells_of_sg3 {H : Type} {enc : TypeId × Value → H} {w : World} {base : Nat} {sp : Nat → Bool} {held : Bool} {fuel : Nat} {cs : List Value} {p : List MemPlace}
    (h : DataW.trod enc Tryd.prog w base sp held fuel 113 cs = some (.agg (psigs.map fun z => .agg [.lit (.int .i64 z.1), .lit (.string z.2.1.data.toList), .lit (.string z.2.2.data.toList)]), p)) : cs = psigs.flatMap fun s => [Value.int .i64 s.1, .string s.2.1, .string s.2.2] := by
  have hl : cs.length = 42 := by
    cases fuel with
    | zero => simp [DataW.trod] at h
    | succ fuel =>
      simp only [DataW.trod, Tryd.underlying113] at h
      split at h
      · rename_i hl; rw [hl]; kernel_rfl
      · cases h
  refine chunk3 _ psigs cs (by rw [hl]; rfl) fun i z hz => ?_
  obtain ⟨hi, rfl⟩ := List.getElem?_eq_some_iff.1 hz
  obtain ⟨f2, d, q, hd, hx⟩ := Lib.array_elem Tryd.underlying113 h i hi
  rw [List.getElem?_map, hz] at hd
  obtain rfl := Option.some.inj hd
  rw [show Tryd.prog.cellsOf 112 = 3 by kernel_rfl] at hx
  obtain ⟨y0, y1, y2, n, hx0, hl3, g0, g1, g2⟩ := Deep.trod_struct3 Tryd.underlying112 hx
  obtain ⟨n0, e0, rfl, _⟩ := DataW.trod_int Tryd.underlying3 g0
  obtain ⟨s1, e1, rfl, _⟩ := DataW.trod_string Tryd.underlying9 g1
  obtain ⟨s2, e2, rfl, _⟩ := DataW.trod_string Tryd.underlying9 g2
  simp only [Prod.mk.injEq, DataW.agg.injEq, List.cons.injEq, DataW.lit.injEq, Lit.int.injEq, Lit.string.injEq, true_and, and_true] at hx0
  obtain ⟨⟨k0, k1, k2⟩, _⟩ := hx0
  have k1' : psigs[i].2.1 = s1 := ByteArray.ext (Array.ext' k1)
  have k2' : psigs[i].2.2 = s2 := ByteArray.ext (Array.ext' k2)
  rw [show Tryd.prog.cellsOf 3 = 1 by kernel_rfl] at e0
  rw [show Tryd.prog.cellsOf 9 = 1 by kernel_rfl] at e1 e2
  generalize hL : List.take 3 (List.drop (i * 3) cs) = L at *
  have hL3 : L.length = 3 := by rw [← hL, List.length_take, List.length_drop, hl]; have : i < 14 := hi; omega
  match L, hL3, e0, e1, e2 with
  | [a, b, c], _, e0, e1, e2 =>
    simp at e0 e1 e2
    rw [e0, e1, e2, k0, k1', k2']
set_option maxRecDepth 100000 in
theorem ptab_of {l : List (String × DataW Unit)} {W : World} (h : laidMet Tryd.prog l W) (h1 : ("sibyl/parse.signs", Rows.laid_sibyl_parse_signs) ∈ l) : PTab W := by
  have r1 := Lib.laidMet.reads h h1
  rw [← psigs_eq] at r1
  obtain ⟨g, t, cs, fuel, p, hg, hty, hvar, hd⟩ := r1
  obtain rfl := Option.some.inj ((show Tryd.prog.globalNamed "sibyl/parse.signs" = some 1 by kernel_rfl).symm.trans hg)
  obtain rfl := Option.some.inj ((show (Tryd.prog.globals[1]?).map (·.type) = some 113 by kernel_rfl).symm.trans hty)
  have hcs := cells_of_sg3 hd
  have hcs' : cs = psgCells := Array.ext' hcs
  subst hcs'
  unfold World.var? at hvar
  rw [hg] at hvar
  simp only [Option.bind_some] at hvar
  split at hvar
  · rename_i c t f hh
    obtain rfl := Option.some.inj hvar
    exact ⟨t, f, hh⟩
  · cases hvar
noncomputable def laidWorldP (os : Os) : World := { laidWorld os with heap := putIn (laidWorld os).heap 1 psgCells }
theorem laid_met4 (os : Os) (args : Array Value) : laidMet Tryd.prog [("unicode.White_Space", Rows.laid_unicode_White_Space), ("strings.asciiSpace", Rows.laid_strings_asciiSpace), ("sibyl/lex.signs", Rows.laid_sibyl_lex_signs), ("sibyl/parse.signs", Rows.laid_sibyl_parse_signs)] ((laidWorldP os).forCall (fun _ _ => 0) ⟨#[], args, []⟩).memory :=
  laidMet_of_run3 10 (by kernel_rfl) (by kernel_rfl) (by kernel_rfl)
end Go.Proofs.YtmmicnjiikiklaaDoor
