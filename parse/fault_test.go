package parse_test

import (
	"slices"
	"strings"
	"testing"

	"sibyl/api"
	"sibyl/parse"
	"sibyl/tree"
)

// wantFault: s is no program, but errs at that place.
func wantFault(t *testing.T, s string, wantAt int, want api.Errno) {
	t.Helper()
	p, at, err := parse.Parse(s)
	if at != wantAt || err != want {
		t.Errorf("Parse(%.200q) errs at %d, %d, not at %d, %d", s, at, err, wantAt, want)
	}
	if !tree.SameProg(p, api.Prog{}) || p.Main.At != 0 {
		t.Errorf("Parse(%.200q) is no empty program, but %.200v", s, p)
	}
}

// wantMarked: the same, the place marked in s.
func wantMarked(t *testing.T, s string, want api.Errno) {
	t.Helper()
	s, l := marks(s)
	if len(l) != 1 {
		t.Fatalf("%q has %d marks", s, len(l))
	}
	wantFault(t, s, l[0], want)
}

// P4.1: the lexer's errors

func TestFaultsOfTheLexer(t *testing.T) {
	for _, s := range []string{
		// a rune that begins no token, a byte that begins no rune
		"§!", "a §! b;", "true; §'", "§>", "a & §>;", "a = §-1;", "§\uFFFD", "a;§\x00", "§\xff", "a & §\x80b;", "a; # §\xff", "a;§\xce",
		// a name that is too long, a number that is too great or begins with 0
		"§abcdefghijklm;", "ex1 §αβγδεζηθικλμν: a;", "x = §100;", "x = §00;", "x + §01 = y;", "x = §999999999999999999999999;",
		// ahead of what does not fit or is too deep, wherever that is
		") ; §!", "a b c §>;", "§100 x", "x = §07", "x + 0 = §100;", "{{}} = A & §$;", "p(1,2,3,4,5,6,7,§100);", "3; §!", ")§\xff",
		strings.Repeat("(", 100) + "§!", strings.Repeat("~", 1900) + "§100", strings.Repeat("ex1 x:", 40) + " a; # §\xff",
		strings.Repeat("a ", 999) + "§-",
	} {
		wantMarked(t, s, api.ErrForm)
	}
	for _, s := range []string{"true;", ") ;", "!", "\xff", "~", "(", "ex1 x: ", "a & "} {
		wantFault(t, strings.Repeat(s, (api.MaxText+len(s))/len(s)), 0, api.ErrLong)
		wantFault(t, s+strings.Repeat(" ", api.MaxText+1-len(s)), 0, api.ErrLong)
	}
	wantFault(t, strings.Repeat(" ", api.MaxText-4)+"true;", 0, api.ErrLong)
	wantProg(t, strings.Repeat(" ", api.MaxText-5)+"true;", api.Prog{Main: yes})
	wantProg(t, "true;#"+strings.Repeat(";", api.MaxText-6), api.Prog{Main: yes})
	for _, s := range []string{"(", "~", " ", "x", "{", "a=>"} {
		wantFault(t, strings.Repeat(s, 1<<20), 0, api.ErrLong)
	}
}

// P4.1: what does not fit

// allWords is each Word, a name, and numbers that do and do not fit behind `+`.
const allWords = "true false ex0 ex1 ex2 all0 all1 all2 var0 var1 var2 pred in notin sub union inter " +
	`<=> => <= ~= = ~ < & | ( ) { } , ; : + \ name 7 0`

// What fits at a place.
const (
	orders   = " var0 var1 var2 "
	partFits = " name 7 0 { "
	unFits   = " true false ex0 ex1 ex2 all0 all1 all2 ~ ( " + partFits
	joinFits = ` union inter \ `
	relFits  = " = ~= < <= in notin sub "
	formFits = " & | => <=> "
)

var placesOfRules = []struct{ ahead, fit string }{
	// program
	{"", orders + "pred" + unFits}, {"var1 x;", orders + "pred" + unFits}, {"pred p() = a;", orders + "pred" + unFits},
	{"a;", "END"}, {"var1 x; pred p() = a; b;", "END"}, {"p();", "END"}, {"(a);", "END"}, {"x = 1;", "END"}, {"true;", "END"},
	// decl
	{"var0", "name"}, {"var1", "name"}, {"var2", "name"}, {"var1 x", ", ;"}, {"var1 x,", "name"}, {"var1 x, y", ", ;"}, {"var0 x; var2 y, z,", "name"},
	// pred
	{"pred", "name"}, {"pred p", "("}, {"pred p(", orders + ")"}, {"pred p(var0", "name"}, {"pred p(var1", "name"}, {"pred p(var2", "name"},
	{"pred p(var1 x", ", )"}, {"pred p(var1 x,", orders}, {"pred p(var1 x, var2", "name"}, {"pred p(var1 x, var2 X", ", )"},
	{"pred p()", "="}, {"pred p(var1 x)", "="}, {"pred p() =", unFits}, {"pred p() = a", formFits + joinFits + relFits + "+ ( ;"},
	{"pred p() = true", formFits + ";"}, {"pred p() = (a", formFits + joinFits + relFits + "+ ( )"},
	// formula, imp, or, and
	{"true", formFits + ";"}, {"false", formFits + ";"},
	{"true <=>", unFits}, {"true =>", unFits}, {"true |", unFits}, {"true &", unFits},
	{"true <=> true", formFits + ";"}, {"true => true", formFits + ";"}, {"true | true", formFits + ";"}, {"true & true", formFits + ";"},
	{"true & true => true | true <=>", unFits}, {"(true & (true => (true | (true <=>", unFits},
	// un, quant
	{"~", unFits}, {"~~", unFits}, {"~true", formFits + ";"}, {"true & ~", unFits},
	{"ex0", "name"}, {"ex1", "name"}, {"ex2", "name"}, {"all0", "name"}, {"all1", "name"}, {"all2", "name"}, {"~ex1", "name"},
	{"ex0 x", ":"}, {"all2 x", ":"}, {"ex1 x:", unFits}, {"all0 x:", unFits}, {"ex1 x: true", formFits + ";"}, {"ex1 x: all2 y", ":"},
	{"(", unFits}, {"((", unFits}, {"(true", formFits + ")"}, {"(true & true", formFits + ")"}, {"(ex1 x: true", formFits + ")"}, {"(~true", formFits + ")"},
	{"(true)", formFits + ";"}, {"((true)", formFits + ")"}, {"((true))", formFits + ";"}, {"~(true)", formFits + ";"},
	// atom
	{"a", formFits + joinFits + relFits + "+ ( ;"}, {"(a", formFits + joinFits + relFits + "+ ( )"}, {"~a", formFits + joinFits + relFits + "+ ( ;"},
	{"p(", partFits + ")"}, {"p(a", joinFits + "+ , )"}, {"p(1", joinFits + ", )"}, {"p({}", joinFits + ", )"}, {"p(x+1", joinFits + ", )"},
	{"p(a,", partFits}, {"p(1,2,3,4,5,", partFits}, {"p(1,2,3,4,5,6", joinFits + ", )"}, {"p(A union B", joinFits + "+ , )"},
	{"p()", formFits + ";"}, {"p(a)", formFits + ";"}, {"(p(a)", formFits + ")"}, {"p(1,2,3,4,5,6)", formFits + ";"},
	{"x =", partFits}, {"x ~=", partFits}, {"x <", partFits}, {"x <=", partFits}, {"x in", partFits}, {"x notin", partFits}, {"x sub", partFits},
	{"x = 1", formFits + joinFits + ";"}, {"x = y", formFits + joinFits + "+ ;"}, {"x = {}", formFits + joinFits + ";"}, {"x in {1}", formFits + joinFits + ";"},
	{"x = y + 1", formFits + joinFits + ";"}, {"(x = 1", formFits + joinFits + ")"}, {"~x < 1", formFits + joinFits + ";"}, {"1 = x", formFits + joinFits + "+ ;"},
	// term
	{"A union", partFits}, {"A inter", partFits}, {`A \`, partFits}, {"A = B union", partFits}, {"A = B inter {} \\", partFits}, {"{} union", partFits}, {"1 inter", partFits},
	{"A = B union C", formFits + joinFits + "+ ;"}, {"A = B union 1", formFits + joinFits + ";"}, {"A union B = C", formFits + joinFits + "+ ;"},
	// part
	{"x +", "7"}, {"x = y +", "7"}, {"p(x +", "7"}, {"x = {y +", "7"}, {"A = B union x +", "7"},
	{"x = {", "name 7 0 }"}, {"{", "name 7 0 }"}, {"x = {1", ", }"}, {"x = {y", "+ , }"}, {"x = {y + 1", ", }"}, {"{x", "+ , }"},
	{"x = {1,", "name 7 0"}, {"x = {1, y,", "name 7 0"}, {"x = {1,2,3,4,5,", "name 7 0"}, {"x = {1,2,3,4,5,6", ", }"}, {"p({", "name 7 0 }"}, {"p({1,", "name 7 0"},
	// more than there may be
	{"pred p(var0 a, var0 b, var0 c, var0 d, var0 e, var0 f, var0", ""}, {"pred p(var0 a, var0 b, var0 c, var0 d, var0 e, var0 f,", orders},
	{"p(1,2,3,4,5,6,", ""}, {"x = {1,2,3,4,5,6,", ""}, {"p({}, {1,2,3,4,5,6,", ""}, {"p(1,2,3,4,5,{6},", ""},
}

// TestEachTokenAtEachPlace: each token that does not fit is told where it
// stands, whatever is behind it; each that fits is not, but for those that may
// begin an atom which is no plain name (the next test).
func TestEachTokenAtEachPlace(t *testing.T) {
	for _, x := range placesOfRules {
		ahead := x.ahead + " # ;\n "
		fit := strings.Fields(x.fit)
		for _, word := range strings.Fields(allWords) {
			for _, behind := range []string{"", " ", ";", " a;", " true; true", ") = {", " + 0"} {
				s := ahead + word + behind
				if !slices.Contains(fit, word) {
					wantFault(t, s, len(ahead), api.ErrForm)
				} else if _, at, err := parse.Parse(s); at == len(ahead) && err != api.OK && word != "7" && word != "0" && word != "{" {
					t.Errorf("%q: %d at %d, which fits", s, err, at)
				}
			}
		}
		if _, at, err := parse.Parse(ahead); slices.Contains(fit, "END") != (err == api.OK) || at != len(ahead) {
			t.Errorf("%q: %d at %d", ahead, err, at)
		}
		if !slices.Contains(fit, "END") {
			wantFault(t, ahead, len(ahead), api.ErrForm)
		}
	}
}

// TestAtomsThatAreNoName: at their first token, whatever is behind them.
func TestAtomsThatAreNoName(t *testing.T) {
	contexts := []string{
		"", "~", "(", "((", "true &", "true |", "true =>", "true <=>", "ex1 x:", "all2 x: ~", "pred p() =", "pred p() = true; var1 x;", "x = 1 &", "p(1) =>", "(true) <=> (",
	}
	for _, x := range []struct{ atom, goes string }{
		{"3", ""}, {"0", ""}, {"99", ""}, {"{}", ""}, {"{1}", ""}, {"{x, y + 2, 3}", ""}, {"x + 1", ""}, {"x+99", ""},
		{"A union B", "+"}, {"A inter 1", ""}, {`A \ {}`, ""}, {"1 union x + 1", ""}, {"{1} union A", "+"}, {`A \ B \ C`, "+"}, {"x + 1 inter A", "+"}, {"3 inter 3", ""},
	} {
		goesOn := strings.Fields(relFits + joinFits + x.goes)
		for _, context := range contexts {
			ahead := context + " \n"
			wantFault(t, ahead+x.atom, len(ahead), api.ErrForm)
			for _, word := range strings.Fields(allWords) {
				if slices.Contains(goesOn, word) {
					continue
				}
				for _, behind := range []string{"", " a;", " = x;", " 1 = x;"} {
					wantFault(t, ahead+x.atom+" "+word+behind, len(ahead), api.ErrForm)
				}
			}
		}
	}
	for _, s := range []string{
		"§3 + 1 = x;", "a & §3 + 1 = x;", "§x + 1 + 1 = y;", "§{1} + 1 = x;", "§{} {} = A;", "§3 x;", "§x + 1;", "a = b | (§5);", "~§5;", "§0;",
		"pred p() = §{}; a;", "§A union B(1);", "§1", "(§{1, x})", "p() => §{1} \\ A;",
	} {
		wantMarked(t, s, api.ErrForm)
	}
}

func TestFaults(t *testing.T) {
	for _, s := range []string{
		// program
		"§", " \t\r\n§", "# true;§", "true§", "true §", "true # ;§", "§;", "a; §b;", "true; §;", "true;§;", "true; §true;", "a; §var1 x;",
		"a; §pred p() = a;", "var1 x;§", "pred p() = a;§", "§: a;", "§) ; (", "§in A;", "§= x;",
		// decl
		"var1 §; a;", "var1 x §y; a;", "var1 x, §; a;", "var1 §var1 y; a;", "var1 x, §var2 y; a;", "var1 x §: a;", "var1 x§", "var1 §1; a;", "var1 §in; a;",
		// pred
		"pred p §= a; b;", "pred p(§x) = a; b;", "pred p(var1 x, §y) = a; b;", "pred p(var1 x §y) = a; b;", "pred p(var1 x§; var1 y) = a; b;",
		"pred p(var1 x,§) = a; b;", "pred p(§, var1 x) = a; b;", "pred p() §a; b;", "pred p() §<=> a; b;", "pred §(var1 x) = a; b;",
		"pred p() = a §b;", "pred p() = a§", "pred p() = §;", "pred p() = §pred q() = a; b;", "pred §pred() = a; b;", "pred p(§ex1 x) = a; b;",
		// formulas
		"a §~ b;", "~§& a;", "(§);", "(a§;", "(a§};", "a§);", "(x §, y);", "a & §;", "a | §;", "a => §;", "a <=> §;", "§& a;", "a & §& b;", "a => §<= b;",
		"ex1 x§, y: a;", "ex1 §5: a;", "ex1 §(x): a;", "ex1 §in: a;", "ex1 x §= y: a;", "ex1 §: a;", "ex1 x §a;", "ex1 x: §;", "all2 §ex1 x: a;", "a §ex1 x: b;",
		// atoms
		"x < y §< z;", "x = y §= z;", "a = b §in c;", "(x) §= y;", "x = §(y);", "x = §true;", "true §= true;", "x = y§};", "x §notinn y;",
		"p(x) §= y;", "p(1)§(2);", "x = p§(1);", "p(q§());", "p(§~a);", "p(a §= b);", "p(§true);", "p(§(x));", "p(1§};", "p(1 §2);", "p(§, 1);", "p(1, §);", "p(1§;",
		// parts
		"x + §y = z;", "x + §{} = z;", "x + §+ 1 = z;", "x = y + 1 §+ 2;", "x = 1 §+ 1;", "x = {} §+ 1;", "x = §+ 1;",
		"x = {A §union B};", `x = {A §\ B};`, "x = {1 §2};", "x = {1,§, 2};", "x = {§, 1};", "x = {1,§};", "x = {§(1)};", "x = {1§;", "x = {1§)", "x = {§true};",
		"x in A union §;", "x in A §B;", "x in A union §union B;", "x in A union §(B);",
		// 0 behind +
		"x + §0 = y;", "y = x + §0;", "x = {y + §0};", "p(x + §0);", "A = B union x + §0;", "x = {1, y + §0, 2};",
		// a set within a set
		"x = {§{}};", "x = {1, §{2}};", "{§{1}} = x;", "p({§{}});", "x = {1,2,3,4,5,§{}};", "A = B \\ {§{{{",
		// more than there may be
		"x = {1,2,3,4,5,6,§7};", "{1,2,3,4,5,6,§7} = x;", "x = {1,2,3,4,5,6,§}", "x = {1,2,3,4,5,6,§y+1,8};", "A = B union {1,2,3,4,5,6,§7};",
		"p(1,2,3,4,5,6,§7);", "p(a,a,a,a,a,a,§A union B);", "p(1,2,3,4,5,6,§x, y, z);", "p({1,2,3,4,5,6},{1,2,3,4,5,6,§7});", "p(x, x, x, x, x, {}, §{});",
		"pred p(var1 a, var1 b, var1 c, var1 d, var1 e, var1 f, var1 §g) = a; b;",
		"pred p(var0 a, var1 b, var2 c, var0 d, var1 e, var2 f, var0 # x\n §a, var1 h) = a; b;",
	} {
		wantMarked(t, s, api.ErrForm)
	}
}

// TestFirstOfTwoFaults: what is met first, reading on from the beginning.
func TestFirstOfTwoFaults(t *testing.T) {
	deep := strings.Repeat("(", api.MaxDepth)
	for _, s := range []string{
		"a & §& b | | c;", "x + §0 = {{1}};", "x = {§{1}, y + 0};", "x = {1, y + §0, {2}};", "x = y + §0 b;", "a §b + 0;", "p(x + §0, {1,2,3,4,5,6,7});",
		"p({1,2,3,4,5,6,§7}, x + 0);", "p(1,2,3,4,5,6,§{{}});", "p(1,2,3,4,5,6,§x + 0);", "x = {1,2,3,4,5,6,§{}, y + 0};", "pred p(var1 a, var1 b, var1 c, var1 d, var1 e, var1 f, var1 §g, x) = {{;",
		"§3 & {};", "§3 & x + 0 = 1;", "pred p() = §3; x + 0 = y;", "var1 x §y z; 3;", "§3 + 0 = x;", "§x + 1 & 4;", "(§5 & " + deep, "x = {§{}} & " + deep, "x §y " + deep,
		"pred p() = §5; " + deep, "true; §" + deep,
	} {
		wantMarked(t, s, api.ErrForm)
	}
	for _, s := range []string{
		deep + "§3;", deep + "§x + 0 = y;", deep + "§{{}} = x;", deep + "§a b;", deep + "§a" + strings.Repeat(")", api.MaxDepth) + " & 3; 4", deep + "§", "pred p() = " + deep + "§a; 3",
	} {
		wantMarked(t, s, api.ErrDeep)
	}
}

// P4.1: how deep

var openers = []struct{ open, shut string }{
	{"(", ")"}, {"~", ""}, {"ex0 x: ", ""}, {"ex1 x: ", ""}, {"ex2 x: ", ""}, {"all0 x: ", ""}, {"all1 x: ", ""}, {"all2 x: ", ""},
}

// within is so many openers, those of a list again and again, and what shuts them.
func within(cycle []int, count int) (open, shut string) {
	for i := range count {
		x := openers[cycle[i%len(cycle)]]
		open, shut = open+x.open, x.shut+shut
	}
	return open, shut
}

// eachCycle calls f with each list of one to three openers.
func eachCycle(f func(cycle []int)) {
	for i := range openers {
		f([]int{i})
		for j := range openers {
			f([]int{i, j})
			for k := range openers {
				f([]int{i, j, k})
			}
		}
	}
}

const most = api.MaxDepth - 1 // within how many others a formula or un may be

func wantSound(t *testing.T, s string) {
	t.Helper()
	if _, at, err := parse.Parse(s); at != len(s) || err != api.OK {
		t.Errorf("Parse(%.300q) errs at %d, %d", s, at, err)
	}
}

func TestDepth(t *testing.T) {
	eachCycle(func(cycle []int) {
		for _, x := range []string{"a", "true", "x = {1} union B", "p(x, {})"} {
			open, shut := within(cycle, most)
			wantSound(t, open+x+shut+";")
			wantSound(t, "pred p() = "+open+x+shut+"; a;")
			wantSound(t, "a => "+open+x+shut+";")
			for _, more := range []int{1, 2, 10} {
				open, shut := within(cycle, most+more)
				deep, _ := within(cycle, most+1)
				wantFault(t, open+x+shut+";", len(deep), api.ErrDeep)
				wantFault(t, "pred p() = "+open+x+shut+"; a;", len("pred p() = "+deep), api.ErrDeep)
				wantFault(t, "a => "+open+x+shut+";", len("a => "+deep), api.ErrDeep)
			}
		}
	})
}

// TestDepthOfWhatIsBuilt: the deepest that is allowed is what it should be.
func TestDepthOfWhatIsBuilt(t *testing.T) {
	want := a
	for range most {
		want = op("not", want)
	}
	wantMain(t, strings.Repeat("~", most)+"a", want)
	want = a
	for range most {
		want = quant("all", 2, "x", want)
	}
	wantMain(t, strings.Repeat("all2 x: ", most)+"a", want)
	wantMain(t, strings.Repeat("(", most)+"a"+strings.Repeat(")", most), a)
}

// TestDepthOfSeveral: each begins anew where the one ahead of it ends, and what
// stands between formulas is none deeper.
func TestDepthOfSeveral(t *testing.T) {
	open, shut := within([]int{0}, most)
	one := open + "a" + shut
	nots, _ := within([]int{1}, most)
	wantSound(t, "pred p() = "+one+"; pred q() = "+nots+"a;"+one+";")
	for _, x := range between {
		wantSound(t, strings.Repeat(one+x.sign, 5)+nots+"a;")
		wantSound(t, strings.Repeat(nots+"a"+x.sign, 5)+one+";")
		wantSound(t, open+strings.Repeat("a"+x.sign, 100)+"a"+shut+";")
		wantSound(t, strings.Repeat("a"+x.sign, 490)+"a;")
		wantFault(t, open+"a"+x.sign+"~a"+shut+";", len(open+"a"+x.sign+"~"), api.ErrDeep)
		wantFault(t, open+"a"+x.sign+"(a)"+shut+";", len(open+"a"+x.sign+"("), api.ErrDeep)
		wantFault(t, open+"a"+x.sign+"ex1 x: a"+shut+";", len(open+"a"+x.sign+"ex1 x: "), api.ErrDeep)
		// `~` and quantifiers that are ahead are not around what is behind.
		wantSound(t, "("+nots[1:]+"a"+x.sign+nots[1:]+"a);")
		// A quantifier is: what is behind it is its own.
		wantFault(t, "ex1 x: a"+x.sign+nots+"a;", len("ex1 x: a"+x.sign+nots), api.ErrDeep)
	}
	wantSound(t, "("+strings.Repeat("(", most-1)+"x = {1, y + 2} union {3}"+strings.Repeat(")", most-1)+" & p({1}));")
}

// TestDepthIsAskedFirst: whatever token it is, the text's end too.
func TestDepthIsAskedFirst(t *testing.T) {
	for i := range openers {
		open, _ := within([]int{i}, most+1)
		free, _ := within([]int{i}, most)
		wantFault(t, open+" \n", len(open)+2, api.ErrDeep)
		wantFault(t, free+" \n", len(free)+2, api.ErrForm)
		for _, word := range strings.Fields(allWords) {
			for _, behind := range []string{"", " a", ";", ") = 0"} {
				wantFault(t, open+" \n"+word+behind, len(open)+2, api.ErrDeep)
				if !slices.Contains(strings.Fields(unFits), word) {
					wantFault(t, free+" \n"+word+behind, len(free)+2, api.ErrForm)
				}
			}
		}
	}
	// Only where a formula or un is to begin.
	free, _ := within([]int{0}, most)
	for _, s := range []string{"ex1 §;", "ex1 §(x: a;", "ex1 x §;", "ex1 x §ex1 y: a;", "a §;", "a §~a;", "p(§(x));", "x = §(y);", "x = {§(1)};", "true §(", "§"} {
		wantMarked(t, free+s, api.ErrForm)
	}
	for _, s := range []string{"ex1 x: §;", "(§a;", "(§)", "~§;", "~§&", "~§", "ex1 x:§", "all0 x: §: a"} {
		wantMarked(t, free+s, api.ErrDeep)
	}
}

func TestFarTooDeep(t *testing.T) {
	eachCycle(func(cycle []int) {
		open, _ := within(cycle, 240)
		deep, _ := within(cycle, most+1)
		if len(open) > api.MaxText {
			t.Fatal(len(open))
		}
		wantFault(t, open, len(deep), api.ErrDeep)
	})
	for _, s := range []string{"(", "~"} {
		wantFault(t, strings.Repeat(s, api.MaxText), most+1, api.ErrDeep)
		wantFault(t, strings.Repeat(s, api.MaxText+1), 0, api.ErrLong)
	}
	// No formula begins here.
	wantFault(t, strings.Repeat("{", api.MaxText), 1, api.ErrForm)
	wantFault(t, strings.Repeat("p(", api.MaxText/2), 3, api.ErrForm)
}
