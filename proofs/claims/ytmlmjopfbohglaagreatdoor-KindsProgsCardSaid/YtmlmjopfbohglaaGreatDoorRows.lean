/-
  NARROWER THAN 'FOR EVERY INPUT', by the rows' own cells (each row's printed sentence says how): ParseTexts: laid · ParseShown: loops, laid · KindsTexts: laid · KindsProgs: loops, laid · FreeNames: loops, laid · FreePuts: loops, laid · FreeLeaves: loops, laid · FreeSelf: loops, laid.
  DERIVED. THE GIVEN ROWS OF THIS SEAT. 8 by the template 'for every input the law returns true; each argument reads behind the call as it read before'; 0 by the template 'total and deterministic' (their statements: YtmlmjopfbohglaaGreatDoorTotals.lean).
  GIVEN WITH THE SEED: the statements are not yours to turn. If you find one false, say at which input.
  Laid BY PROGRAM, IN A SANDBOX (cutbox-rows.mjs): the forced cells as the released guide's own fill.sh prints them over the translation b8fb68d9181acdd8… (all of the seat's roots in one cut). By AI agents, Wed Nov 11 2026. No macro, syntax, notation, axiom, sorry.
-/
import Derived.Test.YtmlmjopfbohglaaGreatDoorChecked
import GoSem.PinnedTables
import GoSem.Claim
import GoSem.ClaimJoined
import GoSem.ClaimMapViews
import Derived.JoinedTies
import Derived.KernelRfl
namespace Go.Proofs.YtmlmjopfbohglaaGreatDoor
/- THE CELL 'sum', in the pinned program and in every row, IS THE sha256 OF THE DUMP (.gsa) THAT YtmlmjopfbohglaaGreatDoorProg.lean LOADS. Nothing in Lean hashes anything: it is a label: what it is worth is what the hold of that sum in a sandbox is worth. -/
noncomputable def Tryz.pinned : Pinned := { name := "ytmlmjopfbohglaagreatdoor", sum := "b8fb68d9181acdd879cd9fc7ccfdd5055bde5457b7adbd735f5b86d659eca78b", checked := Tryz.checked }
namespace Rows
def none {H : Type} : Left H := { results := [], args := [] }

/- WHAT THE LISTED PACKAGE-LEVEL VARIABLES READ AS WHEN THE CALL BEGINS. Each datum BY PROGRAM (the guide's laid-datum.mjs) off the statement by which the dump's own 'gosem.cut.vars' lays the variable. In a bare row this is a premise. The card (YtmlmjopfbohglaaGreatDoorCards.lean) ties it to the program's text. -/
def laid_unicode_utf8_acceptRanges {H : Type} : DataW H := .agg [.agg [.lit (.int .u8 128), .lit (.int .u8 191)], .agg [.lit (.int .u8 160), .lit (.int .u8 191)], .agg [.lit (.int .u8 128), .lit (.int .u8 159)], .agg [.lit (.int .u8 144), .lit (.int .u8 191)], .agg [.lit (.int .u8 128), .lit (.int .u8 143)], .agg [.lit (.int .u8 0), .lit (.int .u8 0)], .agg [.lit (.int .u8 0), .lit (.int .u8 0)], .agg [.lit (.int .u8 0), .lit (.int .u8 0)], .agg [.lit (.int .u8 0), .lit (.int .u8 0)], .agg [.lit (.int .u8 0), .lit (.int .u8 0)], .agg [.lit (.int .u8 0), .lit (.int .u8 0)], .agg [.lit (.int .u8 0), .lit (.int .u8 0)], .agg [.lit (.int .u8 0), .lit (.int .u8 0)], .agg [.lit (.int .u8 0), .lit (.int .u8 0)], .agg [.lit (.int .u8 0), .lit (.int .u8 0)], .agg [.lit (.int .u8 0), .lit (.int .u8 0)]]
def laid_unicode_White_Space {H : Type} : DataW H := .ptr (.agg [.slice [.agg [.lit (.int .u16 9), .lit (.int .u16 13), .lit (.int .u16 1)], .agg [.lit (.int .u16 32), .lit (.int .u16 133), .lit (.int .u16 101)], .agg [.lit (.int .u16 160), .lit (.int .u16 5760), .lit (.int .u16 5600)], .agg [.lit (.int .u16 8192), .lit (.int .u16 8202), .lit (.int .u16 1)], .agg [.lit (.int .u16 8232), .lit (.int .u16 8233), .lit (.int .u16 1)], .agg [.lit (.int .u16 8239), .lit (.int .u16 8287), .lit (.int .u16 48)], .agg [.lit (.int .u16 12288), .lit (.int .u16 12288), .lit (.int .u16 1)]] [], .nil, .lit (.int .i64 2)])
def laid_strings_asciiSpace {H : Type} : DataW H := .agg [.lit (.int .u8 0), .lit (.int .u8 0), .lit (.int .u8 0), .lit (.int .u8 0), .lit (.int .u8 0), .lit (.int .u8 0), .lit (.int .u8 0), .lit (.int .u8 0), .lit (.int .u8 0), .lit (.int .u8 1), .lit (.int .u8 1), .lit (.int .u8 1), .lit (.int .u8 1), .lit (.int .u8 1), .lit (.int .u8 0), .lit (.int .u8 0), .lit (.int .u8 0), .lit (.int .u8 0), .lit (.int .u8 0), .lit (.int .u8 0), .lit (.int .u8 0), .lit (.int .u8 0), .lit (.int .u8 0), .lit (.int .u8 0), .lit (.int .u8 0), .lit (.int .u8 0), .lit (.int .u8 0), .lit (.int .u8 0), .lit (.int .u8 0), .lit (.int .u8 0), .lit (.int .u8 0), .lit (.int .u8 0), .lit (.int .u8 1), .lit (.int .u8 0), .lit (.int .u8 0), .lit (.int .u8 0), .lit (.int .u8 0), .lit (.int .u8 0), .lit (.int .u8 0), .lit (.int .u8 0), .lit (.int .u8 0), .lit (.int .u8 0), .lit (.int .u8 0), .lit (.int .u8 0), .lit (.int .u8 0), .lit (.int .u8 0), .lit (.int .u8 0), .lit (.int .u8 0), .lit (.int .u8 0), .lit (.int .u8 0), .lit (.int .u8 0), .lit (.int .u8 0), .lit (.int .u8 0), .lit (.int .u8 0), .lit (.int .u8 0), .lit (.int .u8 0), .lit (.int .u8 0), .lit (.int .u8 0), .lit (.int .u8 0), .lit (.int .u8 0), .lit (.int .u8 0), .lit (.int .u8 0), .lit (.int .u8 0), .lit (.int .u8 0), .lit (.int .u8 0), .lit (.int .u8 0), .lit (.int .u8 0), .lit (.int .u8 0), .lit (.int .u8 0), .lit (.int .u8 0), .lit (.int .u8 0), .lit (.int .u8 0), .lit (.int .u8 0), .lit (.int .u8 0), .lit (.int .u8 0), .lit (.int .u8 0), .lit (.int .u8 0), .lit (.int .u8 0), .lit (.int .u8 0), .lit (.int .u8 0), .lit (.int .u8 0), .lit (.int .u8 0), .lit (.int .u8 0), .lit (.int .u8 0), .lit (.int .u8 0), .lit (.int .u8 0), .lit (.int .u8 0), .lit (.int .u8 0), .lit (.int .u8 0), .lit (.int .u8 0), .lit (.int .u8 0), .lit (.int .u8 0), .lit (.int .u8 0), .lit (.int .u8 0), .lit (.int .u8 0), .lit (.int .u8 0), .lit (.int .u8 0), .lit (.int .u8 0), .lit (.int .u8 0), .lit (.int .u8 0), .lit (.int .u8 0), .lit (.int .u8 0), .lit (.int .u8 0), .lit (.int .u8 0), .lit (.int .u8 0), .lit (.int .u8 0), .lit (.int .u8 0), .lit (.int .u8 0), .lit (.int .u8 0), .lit (.int .u8 0), .lit (.int .u8 0), .lit (.int .u8 0), .lit (.int .u8 0), .lit (.int .u8 0), .lit (.int .u8 0), .lit (.int .u8 0), .lit (.int .u8 0), .lit (.int .u8 0), .lit (.int .u8 0), .lit (.int .u8 0), .lit (.int .u8 0), .lit (.int .u8 0), .lit (.int .u8 0), .lit (.int .u8 0), .lit (.int .u8 0), .lit (.int .u8 0), .lit (.int .u8 0), .lit (.int .u8 0), .lit (.int .u8 0), .lit (.int .u8 0), .lit (.int .u8 0), .lit (.int .u8 0), .lit (.int .u8 0), .lit (.int .u8 0), .lit (.int .u8 0), .lit (.int .u8 0), .lit (.int .u8 0), .lit (.int .u8 0), .lit (.int .u8 0), .lit (.int .u8 0), .lit (.int .u8 0), .lit (.int .u8 0), .lit (.int .u8 0), .lit (.int .u8 0), .lit (.int .u8 0), .lit (.int .u8 0), .lit (.int .u8 0), .lit (.int .u8 0), .lit (.int .u8 0), .lit (.int .u8 0), .lit (.int .u8 0), .lit (.int .u8 0), .lit (.int .u8 0), .lit (.int .u8 0), .lit (.int .u8 0), .lit (.int .u8 0), .lit (.int .u8 0), .lit (.int .u8 0), .lit (.int .u8 0), .lit (.int .u8 0), .lit (.int .u8 0), .lit (.int .u8 0), .lit (.int .u8 0), .lit (.int .u8 0), .lit (.int .u8 0), .lit (.int .u8 0), .lit (.int .u8 0), .lit (.int .u8 0), .lit (.int .u8 0), .lit (.int .u8 0), .lit (.int .u8 0), .lit (.int .u8 0), .lit (.int .u8 0), .lit (.int .u8 0), .lit (.int .u8 0), .lit (.int .u8 0), .lit (.int .u8 0), .lit (.int .u8 0), .lit (.int .u8 0), .lit (.int .u8 0), .lit (.int .u8 0), .lit (.int .u8 0), .lit (.int .u8 0), .lit (.int .u8 0), .lit (.int .u8 0), .lit (.int .u8 0), .lit (.int .u8 0), .lit (.int .u8 0), .lit (.int .u8 0), .lit (.int .u8 0), .lit (.int .u8 0), .lit (.int .u8 0), .lit (.int .u8 0), .lit (.int .u8 0), .lit (.int .u8 0), .lit (.int .u8 0), .lit (.int .u8 0), .lit (.int .u8 0), .lit (.int .u8 0), .lit (.int .u8 0), .lit (.int .u8 0), .lit (.int .u8 0), .lit (.int .u8 0), .lit (.int .u8 0), .lit (.int .u8 0), .lit (.int .u8 0), .lit (.int .u8 0), .lit (.int .u8 0), .lit (.int .u8 0), .lit (.int .u8 0), .lit (.int .u8 0), .lit (.int .u8 0), .lit (.int .u8 0), .lit (.int .u8 0), .lit (.int .u8 0), .lit (.int .u8 0), .lit (.int .u8 0), .lit (.int .u8 0), .lit (.int .u8 0), .lit (.int .u8 0), .lit (.int .u8 0), .lit (.int .u8 0), .lit (.int .u8 0), .lit (.int .u8 0), .lit (.int .u8 0), .lit (.int .u8 0), .lit (.int .u8 0), .lit (.int .u8 0), .lit (.int .u8 0), .lit (.int .u8 0), .lit (.int .u8 0), .lit (.int .u8 0), .lit (.int .u8 0), .lit (.int .u8 0), .lit (.int .u8 0), .lit (.int .u8 0), .lit (.int .u8 0), .lit (.int .u8 0), .lit (.int .u8 0), .lit (.int .u8 0), .lit (.int .u8 0), .lit (.int .u8 0), .lit (.int .u8 0), .lit (.int .u8 0), .lit (.int .u8 0), .lit (.int .u8 0), .lit (.int .u8 0), .lit (.int .u8 0), .lit (.int .u8 0), .lit (.int .u8 0), .lit (.int .u8 0), .lit (.int .u8 0), .lit (.int .u8 0), .lit (.int .u8 0), .lit (.int .u8 0), .lit (.int .u8 0)]
def laid_sibyl_lex_signs {H : Type} : DataW H := .agg [.lit (.string [60, 61, 62]), .lit (.string [61, 62]), .lit (.string [60, 61]), .lit (.string [126, 61]), .lit (.string [61]), .lit (.string [126]), .lit (.string [60]), .lit (.string [38]), .lit (.string [124]), .lit (.string [40]), .lit (.string [41]), .lit (.string [123]), .lit (.string [125]), .lit (.string [44]), .lit (.string [59]), .lit (.string [58]), .lit (.string [43]), .lit (.string [92])]
def laid_sibyl_parse_signs {H : Type} : DataW H := .agg [.agg [.lit (.int .i64 0), .lit (.string [60, 61, 62]), .lit (.string [105, 102, 102])], .agg [.lit (.int .i64 1), .lit (.string [61, 62]), .lit (.string [105, 109, 112])], .agg [.lit (.int .i64 2), .lit (.string [124]), .lit (.string [111, 114])], .agg [.lit (.int .i64 3), .lit (.string [38]), .lit (.string [97, 110, 100])], .agg [.lit (.int .i64 4), .lit (.string [61]), .lit (.string [101, 113])], .agg [.lit (.int .i64 4), .lit (.string [126, 61]), .lit (.string [110, 101])], .agg [.lit (.int .i64 4), .lit (.string [60]), .lit (.string [108, 116])], .agg [.lit (.int .i64 4), .lit (.string [60, 61]), .lit (.string [108, 101])], .agg [.lit (.int .i64 4), .lit (.string [105, 110]), .lit (.string [105, 110])], .agg [.lit (.int .i64 4), .lit (.string [110, 111, 116, 105, 110]), .lit (.string [110, 111, 116, 105, 110])], .agg [.lit (.int .i64 4), .lit (.string [115, 117, 98]), .lit (.string [115, 117, 98])], .agg [.lit (.int .i64 5), .lit (.string [117, 110, 105, 111, 110]), .lit (.string [117, 110, 105, 111, 110])], .agg [.lit (.int .i64 5), .lit (.string [105, 110, 116, 101, 114]), .lit (.string [105, 110, 116, 101, 114])], .agg [.lit (.int .i64 5), .lit (.string [92]), .lit (.string [109, 105, 110, 117, 115])]]
/-- One of Go's own tables, pinned by name: the form's constant. -/
def laid_unicode_utf8_first : DataW Unit := Go.Pinned.utf8First

/-- 'sibyllaw4.ParseTexts': WHATEVER THE INPUT: true; the input reads as it did. -/
def parseTextsSpec : ChangeSpec := { name := "parseTexts", fn := fun _ => fun
  | [d] => { results := [.lit (.bool true)], args := [d] }
  | _ => none }
def parseTextsRow : OpenClaim := { program := "ytmlmjopfbohglaagreatdoor", sum := "b8fb68d9181acdd879cd9fc7ccfdd5055bde5457b7adbd735f5b86d659eca78b", func := "sibyl/sibyllaw4.ParseTexts", spec := "parseTexts", unfollowed := true, recurses := true, named := ["strings.asciiSpace", "unicode.White_Space", "sibyl/lex.signs", "sibyl/parse.signs", "unicode/utf8.first", "unicode/utf8.acceptRanges"], plainKeys := false, apart := false, laid := [("unicode/utf8.acceptRanges", laid_unicode_utf8_acceptRanges), ("unicode.White_Space", laid_unicode_White_Space), ("strings.asciiSpace", laid_strings_asciiSpace), ("sibyl/lex.signs", laid_sibyl_lex_signs), ("sibyl/parse.signs", laid_sibyl_parse_signs), ("unicode/utf8.first", laid_unicode_utf8_first)] }
def ParseTextsSaid : Prop := parseTextsRow.holds Tryz.pinned (OpenSpec.ofChange parseTextsSpec)

/-- ITS FALSE NEIGHBOUR: 'it returns false'. Refute it at one input. -/
def parseTextsWrong : ChangeSpec := { name := "parseTexts", fn := fun _ => fun
  | [d] => { results := [.lit (.bool false)], args := [d] }
  | _ => none }
def ParseTextsWrongFalsely : Prop := parseTextsRow.holds Tryz.pinned (OpenSpec.ofChange parseTextsWrong)

/-- 'sibyllaw4.ParseShown': WHATEVER THE INPUT: true; the input reads as it did. -/
def parseShownSpec : ChangeSpec := { name := "parseShown", fn := fun _ => fun
  | [d] => { results := [.lit (.bool true)], args := [d] }
  | _ => none }
def parseShownRow : OpenClaim := { program := "ytmlmjopfbohglaagreatdoor", sum := "b8fb68d9181acdd879cd9fc7ccfdd5055bde5457b7adbd735f5b86d659eca78b", func := "sibyl/sibyllaw4.ParseShown", spec := "parseShown", unfollowed := true, recurses := true, named := ["unicode/utf8.first", "unicode/utf8.acceptRanges", "strings.asciiSpace", "unicode.White_Space", "sibyl/lex.signs", "sibyl/parse.signs"], loops := true, plainKeys := false, apart := false, laid := [("unicode/utf8.acceptRanges", laid_unicode_utf8_acceptRanges), ("unicode.White_Space", laid_unicode_White_Space), ("strings.asciiSpace", laid_strings_asciiSpace), ("sibyl/lex.signs", laid_sibyl_lex_signs), ("sibyl/parse.signs", laid_sibyl_parse_signs), ("unicode/utf8.first", laid_unicode_utf8_first)] }
def ParseShownSaid : Prop := parseShownRow.holds Tryz.pinned (OpenSpec.ofChange parseShownSpec)

/-- ITS FALSE NEIGHBOUR: 'it returns false'. Refute it at one input. -/
def parseShownWrong : ChangeSpec := { name := "parseShown", fn := fun _ => fun
  | [d] => { results := [.lit (.bool false)], args := [d] }
  | _ => none }
def ParseShownWrongFalsely : Prop := parseShownRow.holds Tryz.pinned (OpenSpec.ofChange parseShownWrong)

/-- 'sibyllaw6.KindsTexts': WHATEVER THE INPUT: true; the input reads as it did. -/
def kindsTextsSpec : ChangeSpec := { name := "kindsTexts", fn := fun _ => fun
  | [d] => { results := [.lit (.bool true)], args := [d] }
  | _ => none }
def kindsTextsRow : OpenClaim := { program := "ytmlmjopfbohglaagreatdoor", sum := "b8fb68d9181acdd879cd9fc7ccfdd5055bde5457b7adbd735f5b86d659eca78b", func := "sibyl/sibyllaw6.KindsTexts", spec := "kindsTexts", unfollowed := true, recurses := true, named := ["unicode/utf8.first", "unicode/utf8.acceptRanges", "strings.asciiSpace", "unicode.White_Space", "sibyl/lex.signs"], plainKeys := false, apart := false, laid := [("unicode/utf8.acceptRanges", laid_unicode_utf8_acceptRanges), ("unicode.White_Space", laid_unicode_White_Space), ("strings.asciiSpace", laid_strings_asciiSpace), ("sibyl/lex.signs", laid_sibyl_lex_signs), ("unicode/utf8.first", laid_unicode_utf8_first)] }
def KindsTextsSaid : Prop := kindsTextsRow.holds Tryz.pinned (OpenSpec.ofChange kindsTextsSpec)

/-- ITS FALSE NEIGHBOUR: 'it returns false'. Refute it at one input. -/
def kindsTextsWrong : ChangeSpec := { name := "kindsTexts", fn := fun _ => fun
  | [d] => { results := [.lit (.bool false)], args := [d] }
  | _ => none }
def KindsTextsWrongFalsely : Prop := kindsTextsRow.holds Tryz.pinned (OpenSpec.ofChange kindsTextsWrong)

/-- 'sibyllaw6.KindsProgs': WHATEVER THE INPUT: true; the input reads as it did. -/
def kindsProgsSpec : ChangeSpec := { name := "kindsProgs", fn := fun _ => fun
  | [d] => { results := [.lit (.bool true)], args := [d] }
  | _ => none }
def kindsProgsRow : OpenClaim := { program := "ytmlmjopfbohglaagreatdoor", sum := "b8fb68d9181acdd879cd9fc7ccfdd5055bde5457b7adbd735f5b86d659eca78b", func := "sibyl/sibyllaw6.KindsProgs", spec := "kindsProgs", unfollowed := true, recurses := true, named := ["strings.asciiSpace", "unicode.White_Space", "sibyl/lex.signs", "unicode/utf8.first", "unicode/utf8.acceptRanges"], loops := true, plainKeys := false, apart := false, laid := [("unicode/utf8.acceptRanges", laid_unicode_utf8_acceptRanges), ("unicode.White_Space", laid_unicode_White_Space), ("strings.asciiSpace", laid_strings_asciiSpace), ("sibyl/lex.signs", laid_sibyl_lex_signs), ("unicode/utf8.first", laid_unicode_utf8_first)] }
def KindsProgsSaid : Prop := kindsProgsRow.holds Tryz.pinned (OpenSpec.ofChange kindsProgsSpec)

/-- ITS FALSE NEIGHBOUR: 'it returns false'. Refute it at one input. -/
def kindsProgsWrong : ChangeSpec := { name := "kindsProgs", fn := fun _ => fun
  | [d] => { results := [.lit (.bool false)], args := [d] }
  | _ => none }
def KindsProgsWrongFalsely : Prop := kindsProgsRow.holds Tryz.pinned (OpenSpec.ofChange kindsProgsWrong)

/-- 'sibyllaw7.FreeNames': WHATEVER THE INPUT: true; the input reads as it did. -/
def freeNamesSpec : ChangeSpec := { name := "freeNames", fn := fun _ => fun
  | [d] => { results := [.lit (.bool true)], args := [d] }
  | _ => none }
def freeNamesRow : OpenClaim := { program := "ytmlmjopfbohglaagreatdoor", sum := "b8fb68d9181acdd879cd9fc7ccfdd5055bde5457b7adbd735f5b86d659eca78b", func := "sibyl/sibyllaw7.FreeNames", spec := "freeNames", inPlace := ["maps.clone"], unfollowed := true, recurses := true, named := ["unicode/utf8.first", "unicode/utf8.acceptRanges"], loops := true, plainKeys := false, apart := false, laid := [("unicode/utf8.acceptRanges", laid_unicode_utf8_acceptRanges), ("unicode/utf8.first", laid_unicode_utf8_first)] }
def FreeNamesSaid : Prop := freeNamesRow.holds Tryz.pinned (OpenSpec.ofChange freeNamesSpec)

/-- ITS FALSE NEIGHBOUR: 'it returns false'. Refute it at one input. -/
def freeNamesWrong : ChangeSpec := { name := "freeNames", fn := fun _ => fun
  | [d] => { results := [.lit (.bool false)], args := [d] }
  | _ => none }
def FreeNamesWrongFalsely : Prop := freeNamesRow.holds Tryz.pinned (OpenSpec.ofChange freeNamesWrong)

/-- 'sibyllaw7.FreePuts': WHATEVER THE INPUT: true; the input reads as it did. -/
def freePutsSpec : ChangeSpec := { name := "freePuts", fn := fun _ => fun
  | [d1, d2, d3] => { results := [.lit (.bool true)], args := [d1, d2, d3] }
  | _ => none }
def freePutsRow : OpenClaim := { program := "ytmlmjopfbohglaagreatdoor", sum := "b8fb68d9181acdd879cd9fc7ccfdd5055bde5457b7adbd735f5b86d659eca78b", func := "sibyl/sibyllaw7.FreePuts", spec := "freePuts", inPlace := ["maps.clone"], unfollowed := true, recurses := true, named := ["unicode/utf8.first", "unicode/utf8.acceptRanges"], loops := true, plainKeys := false, apart := false, laid := [("unicode/utf8.acceptRanges", laid_unicode_utf8_acceptRanges), ("unicode/utf8.first", laid_unicode_utf8_first)] }
def FreePutsSaid : Prop := freePutsRow.holds Tryz.pinned (OpenSpec.ofChange freePutsSpec)

/-- ITS FALSE NEIGHBOUR: 'it returns false'. Refute it at one input. -/
def freePutsWrong : ChangeSpec := { name := "freePuts", fn := fun _ => fun
  | [d1, d2, d3] => { results := [.lit (.bool false)], args := [d1, d2, d3] }
  | _ => none }
def FreePutsWrongFalsely : Prop := freePutsRow.holds Tryz.pinned (OpenSpec.ofChange freePutsWrong)

/-- 'sibyllaw7.FreeLeaves': WHATEVER THE INPUT: true; the input reads as it did. -/
def freeLeavesSpec : ChangeSpec := { name := "freeLeaves", fn := fun _ => fun
  | [d1, d2, d3] => { results := [.lit (.bool true)], args := [d1, d2, d3] }
  | _ => none }
def freeLeavesRow : OpenClaim := { program := "ytmlmjopfbohglaagreatdoor", sum := "b8fb68d9181acdd879cd9fc7ccfdd5055bde5457b7adbd735f5b86d659eca78b", func := "sibyl/sibyllaw7.FreeLeaves", spec := "freeLeaves", inPlace := ["maps.clone"], unfollowed := true, recurses := true, named := ["unicode/utf8.first", "unicode/utf8.acceptRanges"], loops := true, plainKeys := false, apart := false, laid := [("unicode/utf8.acceptRanges", laid_unicode_utf8_acceptRanges), ("unicode/utf8.first", laid_unicode_utf8_first)] }
def FreeLeavesSaid : Prop := freeLeavesRow.holds Tryz.pinned (OpenSpec.ofChange freeLeavesSpec)

/-- ITS FALSE NEIGHBOUR: 'it returns false'. Refute it at one input. -/
def freeLeavesWrong : ChangeSpec := { name := "freeLeaves", fn := fun _ => fun
  | [d1, d2, d3] => { results := [.lit (.bool false)], args := [d1, d2, d3] }
  | _ => none }
def FreeLeavesWrongFalsely : Prop := freeLeavesRow.holds Tryz.pinned (OpenSpec.ofChange freeLeavesWrong)

/-- 'sibyllaw7.FreeSelf': WHATEVER THE INPUT: true; the input reads as it did. -/
def freeSelfSpec : ChangeSpec := { name := "freeSelf", fn := fun _ => fun
  | [d1, d2] => { results := [.lit (.bool true)], args := [d1, d2] }
  | _ => none }
def freeSelfRow : OpenClaim := { program := "ytmlmjopfbohglaagreatdoor", sum := "b8fb68d9181acdd879cd9fc7ccfdd5055bde5457b7adbd735f5b86d659eca78b", func := "sibyl/sibyllaw7.FreeSelf", spec := "freeSelf", inPlace := ["maps.clone"], unfollowed := true, recurses := true, named := ["unicode/utf8.first", "unicode/utf8.acceptRanges"], loops := true, plainKeys := false, apart := false, laid := [("unicode/utf8.acceptRanges", laid_unicode_utf8_acceptRanges), ("unicode/utf8.first", laid_unicode_utf8_first)] }
def FreeSelfSaid : Prop := freeSelfRow.holds Tryz.pinned (OpenSpec.ofChange freeSelfSpec)

/-- ITS FALSE NEIGHBOUR: 'it returns false'. Refute it at one input. -/
def freeSelfWrong : ChangeSpec := { name := "freeSelf", fn := fun _ => fun
  | [d1, d2] => { results := [.lit (.bool false)], args := [d1, d2] }
  | _ => none }
def FreeSelfWrongFalsely : Prop := freeSelfRow.holds Tryz.pinned (OpenSpec.ofChange freeSelfWrong)

/- THE SECOND FORM. 'bulk': how many values and letters a reading holds, each counted each time it is reached (what is shared counts as often as it is met; a slice's spare places count too). A statement '..UptoSaid' is the law's where the arguments, and the package variables that the reading takes, are together of bulk at most 1048576: NARROWER than '..Said'. Prove '..Said' where nothing that the law and all that it calls make is longer than what came in: it says more and counts as full. Else prove '..UptoSaid'. A law counts once. -/
mutual
def uptoBulk {H : Type} : DataW H → Nat
  | .lit (.string bytes) => bytes.length + 1
  | .lit _ => 1
  | .nil => 1
  | .ptr d => uptoBulk d + 1
  | .slice elems spare => uptoBulkAll elems + uptoBulkAll spare + 1
  | .agg parts => uptoBulkAll parts + 1
  | .iface _ d => uptoBulk d + 1
  | .map entries => uptoBulkEntries entries + 1
  | .held _ => 1
def uptoBulkAll {H : Type} : List (DataW H) → Nat
  | [] => 0
  | d :: r => uptoBulk d + uptoBulkAll r
def uptoBulkEntries {H : Type} : List (Lit × DataW H) → Nat
  | [] => 0
  | x :: r => uptoBulkEntry x + uptoBulkEntries r
def uptoBulkEntry {H : Type} : Lit × DataW H → Nat
  | (.string bytes, d) => bytes.length + uptoBulk d + 1
  | (_, d) => uptoBulk d + 1
 end
def uptoSmall : (H : Type) → List (DataW H) → Bool := fun _ ds => decide (uptoBulkAll ds ≤ 1048576)
def OpenSpec.upto (s : _root_.Go.ChangeSpec) : _root_.Go.OpenSpec := { _root_.Go.OpenSpec.ofChange s with cond := some uptoSmall }

/-- 'sibyllaw4.ParseTexts', WHERE WHAT IT READS IS OF BULK AT MOST 1048576: true; the input reads as it did. -/
def parseTextsUptoRow : OpenClaim := { program := "ytmlmjopfbohglaagreatdoor", sum := "b8fb68d9181acdd879cd9fc7ccfdd5055bde5457b7adbd735f5b86d659eca78b", func := "sibyl/sibyllaw4.ParseTexts", spec := "parseTexts", unfollowed := true, recurses := true, named := ["strings.asciiSpace", "unicode.White_Space", "sibyl/lex.signs", "sibyl/parse.signs", "unicode/utf8.first", "unicode/utf8.acceptRanges"], plainKeys := false, apart := false, laid := [("unicode/utf8.acceptRanges", laid_unicode_utf8_acceptRanges), ("unicode.White_Space", laid_unicode_White_Space), ("strings.asciiSpace", laid_strings_asciiSpace), ("sibyl/lex.signs", laid_sibyl_lex_signs), ("sibyl/parse.signs", laid_sibyl_parse_signs), ("unicode/utf8.first", laid_unicode_utf8_first)], narrowed := true }
def ParseTextsUptoSaid : Prop := parseTextsUptoRow.holds Tryz.pinned (OpenSpec.upto parseTextsSpec)

/-- 'sibyllaw4.ParseShown', WHERE WHAT IT READS IS OF BULK AT MOST 1048576: true; the input reads as it did. -/
def parseShownUptoRow : OpenClaim := { program := "ytmlmjopfbohglaagreatdoor", sum := "b8fb68d9181acdd879cd9fc7ccfdd5055bde5457b7adbd735f5b86d659eca78b", func := "sibyl/sibyllaw4.ParseShown", spec := "parseShown", unfollowed := true, recurses := true, named := ["unicode/utf8.first", "unicode/utf8.acceptRanges", "strings.asciiSpace", "unicode.White_Space", "sibyl/lex.signs", "sibyl/parse.signs"], loops := true, plainKeys := false, apart := false, laid := [("unicode/utf8.acceptRanges", laid_unicode_utf8_acceptRanges), ("unicode.White_Space", laid_unicode_White_Space), ("strings.asciiSpace", laid_strings_asciiSpace), ("sibyl/lex.signs", laid_sibyl_lex_signs), ("sibyl/parse.signs", laid_sibyl_parse_signs), ("unicode/utf8.first", laid_unicode_utf8_first)], narrowed := true }
def ParseShownUptoSaid : Prop := parseShownUptoRow.holds Tryz.pinned (OpenSpec.upto parseShownSpec)

/-- 'sibyllaw6.KindsTexts', WHERE WHAT IT READS IS OF BULK AT MOST 1048576: true; the input reads as it did. -/
def kindsTextsUptoRow : OpenClaim := { program := "ytmlmjopfbohglaagreatdoor", sum := "b8fb68d9181acdd879cd9fc7ccfdd5055bde5457b7adbd735f5b86d659eca78b", func := "sibyl/sibyllaw6.KindsTexts", spec := "kindsTexts", unfollowed := true, recurses := true, named := ["unicode/utf8.first", "unicode/utf8.acceptRanges", "strings.asciiSpace", "unicode.White_Space", "sibyl/lex.signs"], plainKeys := false, apart := false, laid := [("unicode/utf8.acceptRanges", laid_unicode_utf8_acceptRanges), ("unicode.White_Space", laid_unicode_White_Space), ("strings.asciiSpace", laid_strings_asciiSpace), ("sibyl/lex.signs", laid_sibyl_lex_signs), ("unicode/utf8.first", laid_unicode_utf8_first)], narrowed := true }
def KindsTextsUptoSaid : Prop := kindsTextsUptoRow.holds Tryz.pinned (OpenSpec.upto kindsTextsSpec)

/-- 'sibyllaw6.KindsProgs', WHERE WHAT IT READS IS OF BULK AT MOST 1048576: true; the input reads as it did. -/
def kindsProgsUptoRow : OpenClaim := { program := "ytmlmjopfbohglaagreatdoor", sum := "b8fb68d9181acdd879cd9fc7ccfdd5055bde5457b7adbd735f5b86d659eca78b", func := "sibyl/sibyllaw6.KindsProgs", spec := "kindsProgs", unfollowed := true, recurses := true, named := ["strings.asciiSpace", "unicode.White_Space", "sibyl/lex.signs", "unicode/utf8.first", "unicode/utf8.acceptRanges"], loops := true, plainKeys := false, apart := false, laid := [("unicode/utf8.acceptRanges", laid_unicode_utf8_acceptRanges), ("unicode.White_Space", laid_unicode_White_Space), ("strings.asciiSpace", laid_strings_asciiSpace), ("sibyl/lex.signs", laid_sibyl_lex_signs), ("unicode/utf8.first", laid_unicode_utf8_first)], narrowed := true }
def KindsProgsUptoSaid : Prop := kindsProgsUptoRow.holds Tryz.pinned (OpenSpec.upto kindsProgsSpec)

/-- 'sibyllaw7.FreeNames', WHERE WHAT IT READS IS OF BULK AT MOST 1048576: true; the input reads as it did. -/
def freeNamesUptoRow : OpenClaim := { program := "ytmlmjopfbohglaagreatdoor", sum := "b8fb68d9181acdd879cd9fc7ccfdd5055bde5457b7adbd735f5b86d659eca78b", func := "sibyl/sibyllaw7.FreeNames", spec := "freeNames", inPlace := ["maps.clone"], unfollowed := true, recurses := true, named := ["unicode/utf8.first", "unicode/utf8.acceptRanges"], loops := true, plainKeys := false, apart := false, laid := [("unicode/utf8.acceptRanges", laid_unicode_utf8_acceptRanges), ("unicode/utf8.first", laid_unicode_utf8_first)], narrowed := true }
def FreeNamesUptoSaid : Prop := freeNamesUptoRow.holds Tryz.pinned (OpenSpec.upto freeNamesSpec)

/-- 'sibyllaw7.FreePuts', WHERE WHAT IT READS IS OF BULK AT MOST 1048576: true; the input reads as it did. -/
def freePutsUptoRow : OpenClaim := { program := "ytmlmjopfbohglaagreatdoor", sum := "b8fb68d9181acdd879cd9fc7ccfdd5055bde5457b7adbd735f5b86d659eca78b", func := "sibyl/sibyllaw7.FreePuts", spec := "freePuts", inPlace := ["maps.clone"], unfollowed := true, recurses := true, named := ["unicode/utf8.first", "unicode/utf8.acceptRanges"], loops := true, plainKeys := false, apart := false, laid := [("unicode/utf8.acceptRanges", laid_unicode_utf8_acceptRanges), ("unicode/utf8.first", laid_unicode_utf8_first)], narrowed := true }
def FreePutsUptoSaid : Prop := freePutsUptoRow.holds Tryz.pinned (OpenSpec.upto freePutsSpec)

/-- 'sibyllaw7.FreeLeaves', WHERE WHAT IT READS IS OF BULK AT MOST 1048576: true; the input reads as it did. -/
def freeLeavesUptoRow : OpenClaim := { program := "ytmlmjopfbohglaagreatdoor", sum := "b8fb68d9181acdd879cd9fc7ccfdd5055bde5457b7adbd735f5b86d659eca78b", func := "sibyl/sibyllaw7.FreeLeaves", spec := "freeLeaves", inPlace := ["maps.clone"], unfollowed := true, recurses := true, named := ["unicode/utf8.first", "unicode/utf8.acceptRanges"], loops := true, plainKeys := false, apart := false, laid := [("unicode/utf8.acceptRanges", laid_unicode_utf8_acceptRanges), ("unicode/utf8.first", laid_unicode_utf8_first)], narrowed := true }
def FreeLeavesUptoSaid : Prop := freeLeavesUptoRow.holds Tryz.pinned (OpenSpec.upto freeLeavesSpec)

/-- 'sibyllaw7.FreeSelf', WHERE WHAT IT READS IS OF BULK AT MOST 1048576: true; the input reads as it did. -/
def freeSelfUptoRow : OpenClaim := { program := "ytmlmjopfbohglaagreatdoor", sum := "b8fb68d9181acdd879cd9fc7ccfdd5055bde5457b7adbd735f5b86d659eca78b", func := "sibyl/sibyllaw7.FreeSelf", spec := "freeSelf", inPlace := ["maps.clone"], unfollowed := true, recurses := true, named := ["unicode/utf8.first", "unicode/utf8.acceptRanges"], loops := true, plainKeys := false, apart := false, laid := [("unicode/utf8.acceptRanges", laid_unicode_utf8_acceptRanges), ("unicode/utf8.first", laid_unicode_utf8_first)], narrowed := true }
def FreeSelfUptoSaid : Prop := freeSelfUptoRow.holds Tryz.pinned (OpenSpec.upto freeSelfSpec)

end Rows
end Go.Proofs.YtmlmjopfbohglaaGreatDoor
