/-
  NARROWER THAN 'FOR EVERY INPUT', by the rows' own cells (each row's printed sentence says how): TreeProgs: loops, laid · ParseOrder: laid · ParseDeep: laid · ParseOdd: laid.
  DERIVED. THE GIVEN ROWS OF THIS SEAT. 4 by the template 'for every input the law returns true; each argument reads behind the call as it read before'; 0 by the template 'total and deterministic' (their statements: YtmmicnjiikiklaaDoorTotals.lean).
  GIVEN WITH THE SEED: the statements are not yours to turn. If you find one false, say at which input.
  Laid BY PROGRAM, IN A SANDBOX (cutbox-rows.mjs): the forced cells as the released guide's own fill.sh prints them over the translation 0f9f889d84f1833c… (all of the seat's roots in one cut). By AI agents, Wed Nov 11 2026. No macro, syntax, notation, axiom, sorry.
-/
import Derived.Test.YtmmicnjiikiklaaDoorChecked
import GoSem.PinnedTables
import GoSem.Claim
import GoSem.ClaimJoined
import GoSem.ClaimMapViews
import Derived.JoinedTies
import Derived.KernelRfl
namespace Go.Proofs.YtmmicnjiikiklaaDoor
/- THE CELL 'sum', in the pinned program and in every row, IS THE sha256 OF THE DUMP (.gsa) THAT YtmmicnjiikiklaaDoorProg.lean LOADS. Nothing in Lean hashes anything: it is a label: what it is worth is what the hold of that sum in a sandbox is worth. -/
noncomputable def Tryd.pinned : Pinned := { name := "ytmmicnjiikiklaadoor", sum := "0f9f889d84f1833c04689db448648b196ef62eb99864e145cdb71e22de9655ad", checked := Tryd.checked }
namespace Rows
def none {H : Type} : Left H := { results := [], args := [] }

/- WHAT THE LISTED PACKAGE-LEVEL VARIABLES READ AS WHEN THE CALL BEGINS. Each datum BY PROGRAM (the guide's laid-datum.mjs) off the statement by which the dump's own 'gosem.cut.vars' lays the variable. In a bare row this is a premise. The card (YtmmicnjiikiklaaDoorCards.lean) ties it to the program's text. -/
def laid_unicode_utf8_acceptRanges {H : Type} : DataW H := .agg [.agg [.lit (.int .u8 128), .lit (.int .u8 191)], .agg [.lit (.int .u8 160), .lit (.int .u8 191)], .agg [.lit (.int .u8 128), .lit (.int .u8 159)], .agg [.lit (.int .u8 144), .lit (.int .u8 191)], .agg [.lit (.int .u8 128), .lit (.int .u8 143)], .agg [.lit (.int .u8 0), .lit (.int .u8 0)], .agg [.lit (.int .u8 0), .lit (.int .u8 0)], .agg [.lit (.int .u8 0), .lit (.int .u8 0)], .agg [.lit (.int .u8 0), .lit (.int .u8 0)], .agg [.lit (.int .u8 0), .lit (.int .u8 0)], .agg [.lit (.int .u8 0), .lit (.int .u8 0)], .agg [.lit (.int .u8 0), .lit (.int .u8 0)], .agg [.lit (.int .u8 0), .lit (.int .u8 0)], .agg [.lit (.int .u8 0), .lit (.int .u8 0)], .agg [.lit (.int .u8 0), .lit (.int .u8 0)], .agg [.lit (.int .u8 0), .lit (.int .u8 0)]]
def laid_unicode_White_Space {H : Type} : DataW H := .ptr (.agg [.slice [.agg [.lit (.int .u16 9), .lit (.int .u16 13), .lit (.int .u16 1)], .agg [.lit (.int .u16 32), .lit (.int .u16 133), .lit (.int .u16 101)], .agg [.lit (.int .u16 160), .lit (.int .u16 5760), .lit (.int .u16 5600)], .agg [.lit (.int .u16 8192), .lit (.int .u16 8202), .lit (.int .u16 1)], .agg [.lit (.int .u16 8232), .lit (.int .u16 8233), .lit (.int .u16 1)], .agg [.lit (.int .u16 8239), .lit (.int .u16 8287), .lit (.int .u16 48)], .agg [.lit (.int .u16 12288), .lit (.int .u16 12288), .lit (.int .u16 1)]] [], .nil, .lit (.int .i64 2)])
def laid_strings_asciiSpace {H : Type} : DataW H := .agg [.lit (.int .u8 0), .lit (.int .u8 0), .lit (.int .u8 0), .lit (.int .u8 0), .lit (.int .u8 0), .lit (.int .u8 0), .lit (.int .u8 0), .lit (.int .u8 0), .lit (.int .u8 0), .lit (.int .u8 1), .lit (.int .u8 1), .lit (.int .u8 1), .lit (.int .u8 1), .lit (.int .u8 1), .lit (.int .u8 0), .lit (.int .u8 0), .lit (.int .u8 0), .lit (.int .u8 0), .lit (.int .u8 0), .lit (.int .u8 0), .lit (.int .u8 0), .lit (.int .u8 0), .lit (.int .u8 0), .lit (.int .u8 0), .lit (.int .u8 0), .lit (.int .u8 0), .lit (.int .u8 0), .lit (.int .u8 0), .lit (.int .u8 0), .lit (.int .u8 0), .lit (.int .u8 0), .lit (.int .u8 0), .lit (.int .u8 1), .lit (.int .u8 0), .lit (.int .u8 0), .lit (.int .u8 0), .lit (.int .u8 0), .lit (.int .u8 0), .lit (.int .u8 0), .lit (.int .u8 0), .lit (.int .u8 0), .lit (.int .u8 0), .lit (.int .u8 0), .lit (.int .u8 0), .lit (.int .u8 0), .lit (.int .u8 0), .lit (.int .u8 0), .lit (.int .u8 0), .lit (.int .u8 0), .lit (.int .u8 0), .lit (.int .u8 0), .lit (.int .u8 0), .lit (.int .u8 0), .lit (.int .u8 0), .lit (.int .u8 0), .lit (.int .u8 0), .lit (.int .u8 0), .lit (.int .u8 0), .lit (.int .u8 0), .lit (.int .u8 0), .lit (.int .u8 0), .lit (.int .u8 0), .lit (.int .u8 0), .lit (.int .u8 0), .lit (.int .u8 0), .lit (.int .u8 0), .lit (.int .u8 0), .lit (.int .u8 0), .lit (.int .u8 0), .lit (.int .u8 0), .lit (.int .u8 0), .lit (.int .u8 0), .lit (.int .u8 0), .lit (.int .u8 0), .lit (.int .u8 0), .lit (.int .u8 0), .lit (.int .u8 0), .lit (.int .u8 0), .lit (.int .u8 0), .lit (.int .u8 0), .lit (.int .u8 0), .lit (.int .u8 0), .lit (.int .u8 0), .lit (.int .u8 0), .lit (.int .u8 0), .lit (.int .u8 0), .lit (.int .u8 0), .lit (.int .u8 0), .lit (.int .u8 0), .lit (.int .u8 0), .lit (.int .u8 0), .lit (.int .u8 0), .lit (.int .u8 0), .lit (.int .u8 0), .lit (.int .u8 0), .lit (.int .u8 0), .lit (.int .u8 0), .lit (.int .u8 0), .lit (.int .u8 0), .lit (.int .u8 0), .lit (.int .u8 0), .lit (.int .u8 0), .lit (.int .u8 0), .lit (.int .u8 0), .lit (.int .u8 0), .lit (.int .u8 0), .lit (.int .u8 0), .lit (.int .u8 0), .lit (.int .u8 0), .lit (.int .u8 0), .lit (.int .u8 0), .lit (.int .u8 0), .lit (.int .u8 0), .lit (.int .u8 0), .lit (.int .u8 0), .lit (.int .u8 0), .lit (.int .u8 0), .lit (.int .u8 0), .lit (.int .u8 0), .lit (.int .u8 0), .lit (.int .u8 0), .lit (.int .u8 0), .lit (.int .u8 0), .lit (.int .u8 0), .lit (.int .u8 0), .lit (.int .u8 0), .lit (.int .u8 0), .lit (.int .u8 0), .lit (.int .u8 0), .lit (.int .u8 0), .lit (.int .u8 0), .lit (.int .u8 0), .lit (.int .u8 0), .lit (.int .u8 0), .lit (.int .u8 0), .lit (.int .u8 0), .lit (.int .u8 0), .lit (.int .u8 0), .lit (.int .u8 0), .lit (.int .u8 0), .lit (.int .u8 0), .lit (.int .u8 0), .lit (.int .u8 0), .lit (.int .u8 0), .lit (.int .u8 0), .lit (.int .u8 0), .lit (.int .u8 0), .lit (.int .u8 0), .lit (.int .u8 0), .lit (.int .u8 0), .lit (.int .u8 0), .lit (.int .u8 0), .lit (.int .u8 0), .lit (.int .u8 0), .lit (.int .u8 0), .lit (.int .u8 0), .lit (.int .u8 0), .lit (.int .u8 0), .lit (.int .u8 0), .lit (.int .u8 0), .lit (.int .u8 0), .lit (.int .u8 0), .lit (.int .u8 0), .lit (.int .u8 0), .lit (.int .u8 0), .lit (.int .u8 0), .lit (.int .u8 0), .lit (.int .u8 0), .lit (.int .u8 0), .lit (.int .u8 0), .lit (.int .u8 0), .lit (.int .u8 0), .lit (.int .u8 0), .lit (.int .u8 0), .lit (.int .u8 0), .lit (.int .u8 0), .lit (.int .u8 0), .lit (.int .u8 0), .lit (.int .u8 0), .lit (.int .u8 0), .lit (.int .u8 0), .lit (.int .u8 0), .lit (.int .u8 0), .lit (.int .u8 0), .lit (.int .u8 0), .lit (.int .u8 0), .lit (.int .u8 0), .lit (.int .u8 0), .lit (.int .u8 0), .lit (.int .u8 0), .lit (.int .u8 0), .lit (.int .u8 0), .lit (.int .u8 0), .lit (.int .u8 0), .lit (.int .u8 0), .lit (.int .u8 0), .lit (.int .u8 0), .lit (.int .u8 0), .lit (.int .u8 0), .lit (.int .u8 0), .lit (.int .u8 0), .lit (.int .u8 0), .lit (.int .u8 0), .lit (.int .u8 0), .lit (.int .u8 0), .lit (.int .u8 0), .lit (.int .u8 0), .lit (.int .u8 0), .lit (.int .u8 0), .lit (.int .u8 0), .lit (.int .u8 0), .lit (.int .u8 0), .lit (.int .u8 0), .lit (.int .u8 0), .lit (.int .u8 0), .lit (.int .u8 0), .lit (.int .u8 0), .lit (.int .u8 0), .lit (.int .u8 0), .lit (.int .u8 0), .lit (.int .u8 0), .lit (.int .u8 0), .lit (.int .u8 0), .lit (.int .u8 0), .lit (.int .u8 0), .lit (.int .u8 0), .lit (.int .u8 0), .lit (.int .u8 0), .lit (.int .u8 0), .lit (.int .u8 0), .lit (.int .u8 0), .lit (.int .u8 0), .lit (.int .u8 0), .lit (.int .u8 0), .lit (.int .u8 0), .lit (.int .u8 0), .lit (.int .u8 0), .lit (.int .u8 0), .lit (.int .u8 0), .lit (.int .u8 0), .lit (.int .u8 0), .lit (.int .u8 0), .lit (.int .u8 0), .lit (.int .u8 0), .lit (.int .u8 0), .lit (.int .u8 0), .lit (.int .u8 0), .lit (.int .u8 0), .lit (.int .u8 0), .lit (.int .u8 0), .lit (.int .u8 0), .lit (.int .u8 0), .lit (.int .u8 0), .lit (.int .u8 0), .lit (.int .u8 0), .lit (.int .u8 0)]
def laid_sibyl_lex_signs {H : Type} : DataW H := .agg [.lit (.string [60, 61, 62]), .lit (.string [61, 62]), .lit (.string [60, 61]), .lit (.string [126, 61]), .lit (.string [61]), .lit (.string [126]), .lit (.string [60]), .lit (.string [38]), .lit (.string [124]), .lit (.string [40]), .lit (.string [41]), .lit (.string [123]), .lit (.string [125]), .lit (.string [44]), .lit (.string [59]), .lit (.string [58]), .lit (.string [43]), .lit (.string [92])]
/-- One of Go's own tables, pinned by name: the form's constant. -/
def laid_unicode_utf8_first : DataW Unit := Go.Pinned.utf8First
def laid_sibyl_parse_signs {H : Type} : DataW H := .agg [.agg [.lit (.int .i64 0), .lit (.string [60, 61, 62]), .lit (.string [105, 102, 102])], .agg [.lit (.int .i64 1), .lit (.string [61, 62]), .lit (.string [105, 109, 112])], .agg [.lit (.int .i64 2), .lit (.string [124]), .lit (.string [111, 114])], .agg [.lit (.int .i64 3), .lit (.string [38]), .lit (.string [97, 110, 100])], .agg [.lit (.int .i64 4), .lit (.string [61]), .lit (.string [101, 113])], .agg [.lit (.int .i64 4), .lit (.string [126, 61]), .lit (.string [110, 101])], .agg [.lit (.int .i64 4), .lit (.string [60]), .lit (.string [108, 116])], .agg [.lit (.int .i64 4), .lit (.string [60, 61]), .lit (.string [108, 101])], .agg [.lit (.int .i64 4), .lit (.string [105, 110]), .lit (.string [105, 110])], .agg [.lit (.int .i64 4), .lit (.string [110, 111, 116, 105, 110]), .lit (.string [110, 111, 116, 105, 110])], .agg [.lit (.int .i64 4), .lit (.string [115, 117, 98]), .lit (.string [115, 117, 98])], .agg [.lit (.int .i64 5), .lit (.string [117, 110, 105, 111, 110]), .lit (.string [117, 110, 105, 111, 110])], .agg [.lit (.int .i64 5), .lit (.string [105, 110, 116, 101, 114]), .lit (.string [105, 110, 116, 101, 114])], .agg [.lit (.int .i64 5), .lit (.string [92]), .lit (.string [109, 105, 110, 117, 115])]]

/-- 'sibyllaw3.TreeProgs': WHATEVER THE INPUT: true; the input reads as it did. -/
def treeProgsSpec : ChangeSpec := { name := "treeProgs", fn := fun _ => fun
  | [d] => { results := [.lit (.bool true)], args := [d] }
  | _ => none }
def treeProgsRow : OpenClaim := { program := "ytmmicnjiikiklaadoor", sum := "0f9f889d84f1833c04689db448648b196ef62eb99864e145cdb71e22de9655ad", func := "sibyl/sibyllaw3.TreeProgs", spec := "treeProgs", unfollowed := true, recurses := true, named := ["strings.asciiSpace", "unicode.White_Space", "sibyl/lex.signs", "unicode/utf8.first", "unicode/utf8.acceptRanges"], loops := true, plainKeys := false, apart := false, laid := [("unicode/utf8.acceptRanges", laid_unicode_utf8_acceptRanges), ("unicode.White_Space", laid_unicode_White_Space), ("strings.asciiSpace", laid_strings_asciiSpace), ("sibyl/lex.signs", laid_sibyl_lex_signs), ("unicode/utf8.first", laid_unicode_utf8_first)] }
def TreeProgsSaid : Prop := treeProgsRow.holds Tryd.pinned (OpenSpec.ofChange treeProgsSpec)

/-- ITS FALSE NEIGHBOUR: 'it returns false'. Refute it at one input. -/
def treeProgsWrong : ChangeSpec := { name := "treeProgs", fn := fun _ => fun
  | [d] => { results := [.lit (.bool false)], args := [d] }
  | _ => none }
def TreeProgsWrongFalsely : Prop := treeProgsRow.holds Tryd.pinned (OpenSpec.ofChange treeProgsWrong)

/-- 'sibyllaw4.ParseOrder': WHATEVER THE INPUT: true; the input reads as it did. -/
def parseOrderSpec : ChangeSpec := { name := "parseOrder", fn := fun _ => fun
  | [d] => { results := [.lit (.bool true)], args := [d] }
  | _ => none }
def parseOrderRow : OpenClaim := { program := "ytmmicnjiikiklaadoor", sum := "0f9f889d84f1833c04689db448648b196ef62eb99864e145cdb71e22de9655ad", func := "sibyl/sibyllaw4.ParseOrder", spec := "parseOrder", unfollowed := true, recurses := true, named := ["strings.asciiSpace", "unicode.White_Space", "sibyl/lex.signs", "sibyl/parse.signs"], plainKeys := false, apart := false, laid := [("unicode.White_Space", laid_unicode_White_Space), ("strings.asciiSpace", laid_strings_asciiSpace), ("sibyl/lex.signs", laid_sibyl_lex_signs), ("sibyl/parse.signs", laid_sibyl_parse_signs)] }
def ParseOrderSaid : Prop := parseOrderRow.holds Tryd.pinned (OpenSpec.ofChange parseOrderSpec)

/-- ITS FALSE NEIGHBOUR: 'it returns false'. Refute it at one input. -/
def parseOrderWrong : ChangeSpec := { name := "parseOrder", fn := fun _ => fun
  | [d] => { results := [.lit (.bool false)], args := [d] }
  | _ => none }
def ParseOrderWrongFalsely : Prop := parseOrderRow.holds Tryd.pinned (OpenSpec.ofChange parseOrderWrong)

/-- 'sibyllaw4.ParseDeep': WHATEVER THE INPUT: true; the input reads as it did. -/
def parseDeepSpec : ChangeSpec := { name := "parseDeep", fn := fun _ => fun
  | [d1, d2] => { results := [.lit (.bool true)], args := [d1, d2] }
  | _ => none }
def parseDeepRow : OpenClaim := { program := "ytmmicnjiikiklaadoor", sum := "0f9f889d84f1833c04689db448648b196ef62eb99864e145cdb71e22de9655ad", func := "sibyl/sibyllaw4.ParseDeep", spec := "parseDeep", unfollowed := true, recurses := true, named := ["strings.asciiSpace", "unicode.White_Space", "sibyl/lex.signs", "sibyl/parse.signs"], plainKeys := false, apart := false, laid := [("unicode.White_Space", laid_unicode_White_Space), ("strings.asciiSpace", laid_strings_asciiSpace), ("sibyl/lex.signs", laid_sibyl_lex_signs), ("sibyl/parse.signs", laid_sibyl_parse_signs)] }
def ParseDeepSaid : Prop := parseDeepRow.holds Tryd.pinned (OpenSpec.ofChange parseDeepSpec)

/-- ITS FALSE NEIGHBOUR: 'it returns false'. Refute it at one input. -/
def parseDeepWrong : ChangeSpec := { name := "parseDeep", fn := fun _ => fun
  | [d1, d2] => { results := [.lit (.bool false)], args := [d1, d2] }
  | _ => none }
def ParseDeepWrongFalsely : Prop := parseDeepRow.holds Tryd.pinned (OpenSpec.ofChange parseDeepWrong)

/-- 'sibyllaw4.ParseOdd': WHATEVER THE INPUT: true; the input reads as it did. -/
def parseOddSpec : ChangeSpec := { name := "parseOdd", fn := fun _ => fun
  | [d] => { results := [.lit (.bool true)], args := [d] }
  | _ => none }
def parseOddRow : OpenClaim := { program := "ytmmicnjiikiklaadoor", sum := "0f9f889d84f1833c04689db448648b196ef62eb99864e145cdb71e22de9655ad", func := "sibyl/sibyllaw4.ParseOdd", spec := "parseOdd", unfollowed := true, recurses := true, named := ["strings.asciiSpace", "unicode.White_Space", "sibyl/lex.signs", "sibyl/parse.signs"], plainKeys := false, apart := false, laid := [("unicode.White_Space", laid_unicode_White_Space), ("strings.asciiSpace", laid_strings_asciiSpace), ("sibyl/lex.signs", laid_sibyl_lex_signs), ("sibyl/parse.signs", laid_sibyl_parse_signs)] }
def ParseOddSaid : Prop := parseOddRow.holds Tryd.pinned (OpenSpec.ofChange parseOddSpec)

/-- ITS FALSE NEIGHBOUR: 'it returns false'. Refute it at one input. -/
def parseOddWrong : ChangeSpec := { name := "parseOdd", fn := fun _ => fun
  | [d] => { results := [.lit (.bool false)], args := [d] }
  | _ => none }
def ParseOddWrongFalsely : Prop := parseOddRow.holds Tryd.pinned (OpenSpec.ofChange parseOddWrong)

/- THE SECOND FORM. 'bulk': how many values and letters a reading holds, each counted each time it is reached (what is shared counts as often as it is met; a slice's spare places count too). A statement '..UptoSaid' is the law's where the arguments, and the package variables that the reading takes, are together of bulk at most 1048576: NARROWER than '..Said'. Prove '..Said' where nothing that the law and all that it calls make is longer than what came in: it says more and counts as full. Else prove '..UptoSaid'. A law counts once. -/
mutual
def uptoBulk {H : Type} : DataW H → Nat
  | .lit (.string bytes) => bytes.length + 1
  | .lit _ => 1
  | .nil => 1
  | .ptr d => uptoBulk d + 1
  | .slice elems spare => uptoBulkAll elems + uptoBulkAll spare + 1
  | .agg parts => uptoBulkAll parts + 1
  | .iface _ d => uptoBulk d + 1
  | .map entries => uptoBulkEntries entries + 1
  | .held _ => 1
def uptoBulkAll {H : Type} : List (DataW H) → Nat
  | [] => 0
  | d :: r => uptoBulk d + uptoBulkAll r
def uptoBulkEntries {H : Type} : List (Lit × DataW H) → Nat
  | [] => 0
  | x :: r => uptoBulkEntry x + uptoBulkEntries r
def uptoBulkEntry {H : Type} : Lit × DataW H → Nat
  | (.string bytes, d) => bytes.length + uptoBulk d + 1
  | (_, d) => uptoBulk d + 1
 end
def uptoSmall : (H : Type) → List (DataW H) → Bool := fun _ ds => decide (uptoBulkAll ds ≤ 1048576)
def OpenSpec.upto (s : _root_.Go.ChangeSpec) : _root_.Go.OpenSpec := { _root_.Go.OpenSpec.ofChange s with cond := some uptoSmall }

/-- 'sibyllaw3.TreeProgs', WHERE WHAT IT READS IS OF BULK AT MOST 1048576: true; the input reads as it did. -/
def treeProgsUptoRow : OpenClaim := { program := "ytmmicnjiikiklaadoor", sum := "0f9f889d84f1833c04689db448648b196ef62eb99864e145cdb71e22de9655ad", func := "sibyl/sibyllaw3.TreeProgs", spec := "treeProgs", unfollowed := true, recurses := true, named := ["strings.asciiSpace", "unicode.White_Space", "sibyl/lex.signs", "unicode/utf8.first", "unicode/utf8.acceptRanges"], loops := true, plainKeys := false, apart := false, laid := [("unicode/utf8.acceptRanges", laid_unicode_utf8_acceptRanges), ("unicode.White_Space", laid_unicode_White_Space), ("strings.asciiSpace", laid_strings_asciiSpace), ("sibyl/lex.signs", laid_sibyl_lex_signs), ("unicode/utf8.first", laid_unicode_utf8_first)], narrowed := true }
def TreeProgsUptoSaid : Prop := treeProgsUptoRow.holds Tryd.pinned (OpenSpec.upto treeProgsSpec)

/-- 'sibyllaw4.ParseOrder', WHERE WHAT IT READS IS OF BULK AT MOST 1048576: true; the input reads as it did. -/
def parseOrderUptoRow : OpenClaim := { program := "ytmmicnjiikiklaadoor", sum := "0f9f889d84f1833c04689db448648b196ef62eb99864e145cdb71e22de9655ad", func := "sibyl/sibyllaw4.ParseOrder", spec := "parseOrder", unfollowed := true, recurses := true, named := ["strings.asciiSpace", "unicode.White_Space", "sibyl/lex.signs", "sibyl/parse.signs"], plainKeys := false, apart := false, laid := [("unicode.White_Space", laid_unicode_White_Space), ("strings.asciiSpace", laid_strings_asciiSpace), ("sibyl/lex.signs", laid_sibyl_lex_signs), ("sibyl/parse.signs", laid_sibyl_parse_signs)], narrowed := true }
def ParseOrderUptoSaid : Prop := parseOrderUptoRow.holds Tryd.pinned (OpenSpec.upto parseOrderSpec)

/-- 'sibyllaw4.ParseDeep', WHERE WHAT IT READS IS OF BULK AT MOST 1048576: true; the input reads as it did. -/
def parseDeepUptoRow : OpenClaim := { program := "ytmmicnjiikiklaadoor", sum := "0f9f889d84f1833c04689db448648b196ef62eb99864e145cdb71e22de9655ad", func := "sibyl/sibyllaw4.ParseDeep", spec := "parseDeep", unfollowed := true, recurses := true, named := ["strings.asciiSpace", "unicode.White_Space", "sibyl/lex.signs", "sibyl/parse.signs"], plainKeys := false, apart := false, laid := [("unicode.White_Space", laid_unicode_White_Space), ("strings.asciiSpace", laid_strings_asciiSpace), ("sibyl/lex.signs", laid_sibyl_lex_signs), ("sibyl/parse.signs", laid_sibyl_parse_signs)], narrowed := true }
def ParseDeepUptoSaid : Prop := parseDeepUptoRow.holds Tryd.pinned (OpenSpec.upto parseDeepSpec)

/-- 'sibyllaw4.ParseOdd', WHERE WHAT IT READS IS OF BULK AT MOST 1048576: true; the input reads as it did. -/
def parseOddUptoRow : OpenClaim := { program := "ytmmicnjiikiklaadoor", sum := "0f9f889d84f1833c04689db448648b196ef62eb99864e145cdb71e22de9655ad", func := "sibyl/sibyllaw4.ParseOdd", spec := "parseOdd", unfollowed := true, recurses := true, named := ["strings.asciiSpace", "unicode.White_Space", "sibyl/lex.signs", "sibyl/parse.signs"], plainKeys := false, apart := false, laid := [("unicode.White_Space", laid_unicode_White_Space), ("strings.asciiSpace", laid_strings_asciiSpace), ("sibyl/lex.signs", laid_sibyl_lex_signs), ("sibyl/parse.signs", laid_sibyl_parse_signs)], narrowed := true }
def ParseOddUptoSaid : Prop := parseOddUptoRow.holds Tryd.pinned (OpenSpec.upto parseOddSpec)

end Rows
end Go.Proofs.YtmmicnjiikiklaaDoor
