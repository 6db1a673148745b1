package free_test

import (
	"slices"
	"strings"
	"testing"

	"sibyl/api"
	"sibyl/free"
	"sibyl/show"
	"sibyl/tree"
)

// A sample is a formula, names with blanks between them, their terms with
// semicolons between them, and the formula that Put then answers.
type sample struct{ s, names, terms, want string }

func (x sample) put(t *testing.T) (n api.Node, names []string, terms []api.Node) {
	t.Helper()
	for _, s := range strings.Split(x.terms, ";") {
		if s != "" {
			terms = append(terms, term(t, s))
		}
	}
	return formula(t, x.s), strings.Fields(x.names), terms
}

func wantPut(t *testing.T, l ...sample) {
	t.Helper()
	for _, x := range l {
		n, names, terms := x.put(t)
		wantNode(t, n, names, terms, formula(t, x.want))
	}
}

func wantNode(t *testing.T, n api.Node, names []string, terms []api.Node, want api.Node) {
	t.Helper()
	if got := asked(t, n, names, terms); !tree.Same(got, want) {
		t.Errorf("%s, %q, %v: %s, not %s", show.Formula(n), names, terms, show.Formula(got), show.Formula(want))
	}
}

// words are the quantifiers' words.
var words = strings.Fields("ex0 ex1 ex2 all0 all1 all2")

// wantPutOfAll is wantPut with each word for Q.
func wantPutOfAll(t *testing.T, l ...sample) {
	t.Helper()
	for _, word := range words {
		for _, x := range l {
			x.s, x.want = strings.ReplaceAll(x.s, "Q", word), strings.ReplaceAll(x.want, "Q", word)
			wantPut(t, x)
		}
	}
}

// P7.2: names and terms

func TestPutOfNames(t *testing.T) {
	wantPut(t, []sample{
		{"x < y", "x", "3", "3 < y"}, {"x < y", "y", "3", "x < 3"}, {"x < x", "x", "3", "3 < 3"}, {"x < y", "z", "3", "x < y"}, {"x < x'", "x'", "3", "x < 3"},
		{"x < y", "x y", "3;4", "3 < 4"}, {"x < y", "y x", "3;4", "4 < 3"}, {"p(a, b, c, d)", "d b c", "1;2;3", "p(a, 2, 3, 1)"},
		{"x < y", "", "", "x < y"}, {"q & x in {y, z + 1} union A", "", "", "q & x in {y, z + 1} union A"}, {"true", "x", "3", "true"}, {"~false", "x q", "3;4", "~false"},
		// The first of one name counts.
		{"x < y", "x x", "1;2", "1 < y"}, {"x < y", "x y x", "1;2;3", "1 < 2"}, {"x < y", "y x x y", "1;2;3;4", "2 < 1"}, {"x < y", "x x x y", "x;1;2;3", "x < 3"},
		// More names than terms, and more terms than names.
		{"x < y", "x", "", "x < y"}, {"x < y", "x y", "3", "3 < y"}, {"x < y", "z y x", "3;4", "x < 4"}, {"x < y", "x x y", "3;4", "3 < y"}, {"x < y", "z x", "3", "x < y"},
		{"x < y", "x", "3;4", "3 < y"}, {"x < y", "", "3", "x < y"}, {"x < y", "y x", "3;4;5;6", "4 < 3"}, {"ex1 y: x < y", "x y", "y", "ex1 y': y < y'"},
	}...)
	// Names that are none, and that no formula has.
	n := formula(t, "x < y")
	for _, names := range [][]string{{""}, {"", "x"}, {"\xff", "x"}, {"true", "x", "x"}, {"1", "x"}, {strings.Repeat("x", 5000), "x"}} {
		want := op("lt", v("x"), v("y"))
		if len(names) > 1 {
			want.Kids[0] = num(7)
		}
		wantNode(t, n, names, []api.Node{num(6), num(7), num(8)}, want)
	}
	many, l := strings.Fields(strings.Repeat("a b c ", 1000)+"x"), make([]api.Node, 3001)
	for i := range l {
		l[i] = num(i % 100)
	}
	l[3000] = v("y")
	wantNode(t, formula(t, "x < a & b < c"), many, l, op("and", op("lt", v("y"), num(0)), op("lt", num(1), num(2))))
}

func TestPutAtOnce(t *testing.T) {
	wantPut(t, []sample{
		{"x < y", "x y", "y;x", "y < x"}, {"x < y & y < z", "x y z", "y;z;x", "y < z & z < x"}, {"x < y", "x", "x", "x < y"}, {"x < y", "x y", "y;y", "y < y"},
		{"x in {x, y}", "x y", "y + 1;x + 2", "y + 1 in {y + 1, x + 2}"}, {"X sub Y", "X Y", "Y union X;{x}", "Y union X sub {x}"}, {"x < y", "x y", "y;3", "y < 3"}, {"x < y", "y x", "3;y", "y < 3"},
		{"x = x", "x", "x + 1", "x + 1 = x + 1"}, {"x = x + 1", "x", "x + 1", "x + 1 = x + 2"}, {"a & b", "a b", "b;a", "b & a"}, {"p(a, b, c)", "a b c", "{b};{c};{a}", "p({b}, {c}, {a})"},
	}...)
}

// sorts is terms of all sorts; x is in some, and joined are how they are with 2 more.
var sorts = []struct{ s, joined string }{
	{"y", "y + 2"}, {"x", "x + 2"}, {"0", "2"}, {"97", "99"}, {"y + 1", "y + 3"}, {"x + 97", "x + 99"}, {"{}", ""}, {"{1}", ""}, {"{x, y + 1, 2}", ""},
	{"A union B", ""}, {"x inter {x}", ""}, {`A \ {} union x`, ""}, {"{1, 2, 3, 4, 5, 6} inter {}", ""},
}

// places is formulas with an @ in each place that a term may have.
var places = []string{
	"@ = a", "a = @", "@ ~= a", "a ~= @", "@ < a", "a < @", "@ <= a", "a <= @", "@ in a", "a in @", "@ notin a", "a notin @", "@ sub a", "a sub @",
	"p(@)", "p(a, @)", "p(@, a)", "p(a, b, c, d, e, @)", "@ union a = b", "@ inter a = b", `@ \ a = b`, "@ union a inter b = c", "a in @ union b inter c", "p(@, @ union a)",
	"~@ = a", "@ = a & b", "b & @ = a", "@ = a | b", "b | @ = a", "@ = a => b", "b => @ = a", "@ = a <=> b", "b <=> @ = a", "~~(b & (true | ~@ < a))",
	"ex0 b: @ = a", "ex1 b: @ = a", "ex2 b: @ = a", "all0 b: @ = a", "all1 b: @ = a", "all2 b: @ = a", "ex1 b: all2 c: ~@ = a & p(@)",
}

// tight is those within braces, and behind union, inter and minus, where not each term may stand.
var tight = []string{"{@} = a", "a in {@}", "{a, @, b} = c", "{a, b, c, d, e, @} = c", "p({@, a, @})", "a union @ = b", "a inter @ = b", `a \ @ = b`, "a union {@} inter b = c"}

// withX is a text's formula with an x for each @.
func withX(t *testing.T, s string) api.Node {
	t.Helper()
	return formula(t, strings.ReplaceAll(s, "@", "x"))
}

func TestPutOfEachSortInEachPlace(t *testing.T) {
	for _, sort := range sorts {
		for _, place := range places {
			wantPut(t, sample{strings.ReplaceAll(place, "@", "x"), "x", sort.s, strings.ReplaceAll(place, "@", sort.s)})
		}
		// What can't be written is there all the same.
		for _, place := range tight {
			n := withX(t, place)
			wantNode(t, n, []string{"x"}, []api.Node{term(t, sort.s)}, within(n, term(t, sort.s)))
		}
	}
}

// within is a node with a term for each var x.
func within(n, term api.Node) api.Node {
	if n.Op == "var" && n.Name == "x" {
		return term
	}
	kids := make([]api.Node, len(n.Kids))
	for i, k := range n.Kids {
		kids[i] = within(k, term)
	}
	n.Kids = kids
	return n
}

func TestPutOfAnIs(t *testing.T) {
	wantPut(t, []sample{
		{"q", "q", "r", "r"}, {"~q", "q", "r", "~r"}, {"q & q", "q", "r", "r & r"}, {"q | r", "q r", "r;q", "r | q"}, {"q", "q", "q", "q"}, {"q => s", "q", "s", "s => s"},
		{"q", "q", "1", "q"}, {"q", "q", "r + 1", "q"}, {"q", "q", "{}", "q"}, {"q", "q", "{r}", "q"}, {"q", "q", "R union S", "q"}, {"q", "q", "R inter S", "q"}, {"q", "q", `R \ S`, "q"}, {"q", "q", "", "q"}, {"q", "r", "s", "q"},
		// An is stays where a var of its name does not.
		{"q & q = 3", "q", "r + 1", "q & r + 1 = 3"}, {"q & q = 3", "q", "r", "r & r = 3"}, {"q & r & s", "q r s", "1;t;{}", "q & t & s"}, {"q", "q q", "1;r", "q"}, {"q", "q q", "r;1", "r"},
	}...)
	wantPutOfAll(t, []sample{
		{"Q q: q", "q", "r", "Q q: q"}, {"(Q q: q) & q", "q", "r", "(Q q: q) & r"}, {"Q r: q", "q", "r", "Q r': r"}, {"Q r: q & r", "q", "r", "Q r': r & r'"}, {"Q s: q & r", "q", "r", "Q s: r & r"},
		// Free it is, though it stays, and so the name is a new one.
		{"Q r: q & r", "q", "r + 1", "Q r': q & r'"}, {"Q r: q", "q", "{r}", "Q r': q"}, {"Q r: q", "q", "{s}", "Q r: q"}, {"Q r: q", "q", "1", "Q r: q"},
	}...)
}

func TestPutInCalls(t *testing.T) {
	wantPut(t, []sample{
		{"p()", "p", "q", "p()"}, {"p(p)", "p", "q", "p(q)"}, {"p(x, {x, p}, x + 1, A union B)", "x p A", "5;6;x", "p(5, {5, 6}, 6, x union B)"}, {"p(q) & q(p)", "p q", "q;p", "p(p) & q(q)"},
		{"p(x)", "x", "p", "p(p)"}, {"p(a, a, a, a, a, a)", "a", "{a}", "p({a}, {a}, {a}, {a}, {a}, {a})"}, {"ex1 p: p(x, p)", "x", "p", "ex1 p': p(p, p')"},
	}...)
}

// P7.2: quantifiers

func TestPutLeavesWhatIsBound(t *testing.T) {
	wantPutOfAll(t, []sample{
		{"Q x: x", "x", "y", "Q x: x"}, {"Q x: x < y", "x", "3", "Q x: x < y"}, {"Q x: x < y", "x", "y", "Q x: x < y"}, {"Q x: x < y", "x y", "3;4", "Q x: x < 4"}, {"Q x: x < y", "x y", "y;z", "Q x: x < z"},
		{"x = 0 & (Q x: x = 1)", "x", "7", "7 = 0 & (Q x: x = 1)"}, {"(Q x: x = 1) & x = 0", "x", "7", "(Q x: x = 1) & 7 = 0"}, {"(Q x: x = 1) & x = 0 & (Q x: x = 2)", "x", "7", "(Q x: x = 1) & 7 = 0 & (Q x: x = 2)"},
		{"Q x: Q y: x < y & z < x", "x y z", "1;2;3", "Q x: Q y: x < y & 3 < x"}, {"Q x: (Q y: x < y) & y < x", "x y", "1;2", "Q x: (Q y: x < y) & 2 < x"}, {"Q x: (Q x: x = y) & x = y", "x y", "1;2", "Q x: (Q x: x = 2) & x = 2"},
		{"Q z: (Q x: x < z) & x < z", "x z", "1;2", "Q z: (Q x: x < z) & 1 < z"},
	}...)
}

func TestNewNames(t *testing.T) {
	wantPutOfAll(t, []sample{
		{"Q y: x < y", "x", "y", "Q y': y < y'"}, {"Q y: x < 3", "x", "y", "Q y': y < 3"}, {"Q y: x = 0 & y", "x", "y", "Q y': y = 0 & y'"}, {"Q y: p(x, y, {y, y + 1})", "x", "y", "Q y': p(y, y', {y', y' + 1})"},
		// A term of each sort that has the name.
		{"Q y: x = y", "x", "y + 1", "Q y': y + 1 = y'"}, {"Q y: x = y", "x", "{y}", "Q y': {y} = y'"}, {"Q y: x = y", "x", "{z, 1, y + 3}", "Q y': {z, 1, y + 3} = y'"},
		{"Q y: x = y", "x", "y union A", "Q y': y union A = y'"}, {"Q y: x = y", "x", "A inter y", "Q y': A inter y = y'"}, {"Q y: x = y", "x", `A \ {y}`, `Q y': A \ {y} = y'`},
		// By all names of the kid, those that are put, too, and of all those terms.
		{"Q y: x < y & y' = 3", "x", "y", "Q y'': y < y'' & y' = 3"}, {"Q y: x < y & y'", "x", "y", "Q y'': y < y'' & y'"}, {"Q y: y' < y", "y'", "y", "Q y'': y < y''"}, {"Q y: x < y & y' < y", "x y'", "y;4", "Q y'': y < y'' & 4 < y''"},
		{"Q y: x < y", "x", "{y, y'}", "Q y'': {y, y'} < y''"}, {"Q y: x < y", "x", "{y, y''}", "Q y': {y, y''} < y'"}, {"Q y: x < y & y'' = 1", "x", "{y, y'}", "Q y''': {y, y'} < y''' & y'' = 1"},
		{"Q y: u < y & x < y", "x u", "y;y'", "Q y'': y' < y'' & y < y''"}, {"Q y: u < y & x < y", "u x", "y';y", "Q y'': y' < y'' & y < y''"}, {"Q y: u < y & x < y", "x u", "y;y + 1", "Q y': y + 1 < y' & y < y'"},
		{"Q y: u & x < y", "x u", "y;{y'}", "Q y'': u & y < y''"},
		// Names that are bound in the kid, or stand outside, do not matter.
		{"Q y: x < y & (Q y': y' = 1)", "x", "y", "Q y': y < y' & (Q y': y' = 1)"}, {"(Q y: x < y) & y' = 2", "x", "y", "(Q y': y < y') & y' = 2"}, {"Q y: x < y & (Q y: y = 0)", "x", "y", "Q y': y < y' & (Q y: y = 0)"},
		// Nor do names of calls.
		{"Q y: p(x) & y'(y)", "x", "y", "Q y': p(y) & y'(y')"},
	}...)
}

func TestTermsThatDoNotMatterForNewNames(t *testing.T) {
	wantPutOfAll(t, []sample{
		// A name that is not free in the kid.
		{"Q y: z < y", "x", "y", "Q y: z < y"}, {"Q y: z < y", "x z", "y;4", "Q y: 4 < y"}, {"Q y: (Q x: x < y)", "x", "y", "Q y: (Q x: x < y)"}, {"Q y: x(y)", "x", "y", "Q y: x(y)"}, {"(Q y: z < y) & x = 1", "x", "y", "(Q y: z < y) & y = 1"},
		{"Q y: x < y", "x u", "y;y'", "Q y': y < y'"}, {"Q y: x < y", "u x", "{y', y''};y", "Q y': y < y'"}, {"Q y: x < y & (Q u: u)", "x u", "y;y'", "Q y': y < y' & (Q u: u)"},
		// A term without the bound name.
		{"Q y: x < y", "x", "z", "Q y: z < y"}, {"Q y: x < y", "x", "y'", "Q y: y' < y"}, {"Q y: x < y", "x", "3", "Q y: 3 < y"}, {"Q y: x < y", "x", "{}", "Q y: {} < y"}, {"Q y: x < y", "x", "Y", "Q y: Y < y"}, {"Q y: x < y & y'", "x", "y'", "Q y: y' < y & y'"},
		// A term of the bound name itself, and one that does not count.
		{"Q y: x < y", "y", "y", "Q y: x < y"}, {"Q y: x < y", "y x", "{y, x};z", "Q y: z < y"}, {"Q y: x < y", "y x", "y';y", "Q y': y < y'"}, {"Q y: x < y", "x x", "z;y", "Q y: z < y"}, {"Q y: x < y", "x x", "y;y'", "Q y': y < y'"},
		{"Q y: x < y", "x y", "z", "Q y: z < y"}, {"Q y: x < y", "z x", "y", "Q y: x < y"},
		// Put for itself it is put still.
		{"Q y: x < y", "x", "x", "Q y: x < y"}, {"Q x: x < y", "y x", "x;y", "Q x': x' < x"}, {"Q x: x < y & x' = 0", "y", "x", "Q x'': x'' < x & x' = 0"},
	}...)
}

func TestQuantifiersWithinOthers(t *testing.T) {
	wantPutOfAll(t, []sample{
		{"Q y: Q y': x < y & y < y'", "x", "y", "Q y': Q y'': y < y' & y' < y''"}, {"Q y: Q y': x < y'", "x", "y", "Q y': Q y': y < y'"}, {"Q y: Q y': y < y' & (Q y'': x < y'' & y < y')", "x", "y", "Q y': Q y'': y' < y'' & (Q y''': y < y''' & y' < y'')"},
		{"Q y: (Q x: x < y) & w = x", "x", "y", "Q y': (Q x: x < y') & w = y"}, {"Q y: (Q y: x < y) & y < x", "x", "y", "Q y': (Q y': y < y') & y' < y"}, {"Q y: Q y: x < y", "x", "y", "Q y': Q y': y < y'"}, {"Q y: Q y: Q y: x < y", "x", "y", "Q y': Q y': Q y': y < y'"},
		{"Q y: (Q z: x < y) & (Q y: z < y)", "x", "{y, z}", "Q y': (Q z': {y, z} < y') & (Q y: z < y)"}, {"Q y: Q z: x < y & x < z", "x", "y + 1", "Q y': Q z: y + 1 < y' & y + 1 < z"}, {"Q z: Q y: x < y & x < z", "x", "y + 1", "Q z: Q y': y + 1 < y' & y + 1 < z"},
		{"Q y: (Q x: x = y & (Q y: x = y)) & x = y", "x", "y", "Q y': (Q x: x = y' & (Q y: x = y)) & y = y'"},
		// The new name is put in the kid; where it meets a name that is bound there, that has a new one, too.
		{"Q y: (Q y': y = y') & x = y", "x", "y", "Q y': (Q y'': y' = y'') & y = y'"}, {"Q y: (Q y': y' = 1) & x = y", "x", "y", "Q y': (Q y': y' = 1) & y = y'"},
		{"Q y: Q y': Q y'': x < y & y' < y''", "x", "y", "Q y': Q y'': Q y''': y < y' & y'' < y'''"}, {"(Q y: x < y) & (Q y': x < y') & (Q x: x < y)", "x", "{y, y'}", "(Q y'': {y, y'} < y'') & (Q y'': {y, y'} < y'') & (Q x: x < y)"},
		{"Q a: Q b: p(x, y, a, b)", "x y", "b;a", "Q a': Q b': p(b, a, a', b')"}, {"Q a: (Q b: p(x, b)) & p(y, a)", "x y", "b;a", "Q a': (Q b': p(b, b')) & p(a, a')"},
	}...)
	wantPut(t, []sample{
		{"ex1 y: all2 y: ex0 y: x < y & y", "x", "y", "ex1 y': all2 y': ex0 y': y < y' & y'"}, {"all0 y: ex2 z: y | x sub z", "x", "{y, z}", "all0 y': ex2 z': y' | {y, z} sub z'"}, {"ex0 y: y & (all1 y': y' = x & y)", "x", "y", "ex0 y': y' & (all1 y'': y'' = y & y')"},
	}...)
}

func TestNewNamesOfLongOnes(t *testing.T) {
	const ten, eleven, twelve = "abcdefghij", "abcdefghijk", "abcdefghijkl"
	for _, x := range []struct{ name, also, want string }{
		{ten, "z", ten + "'"}, {ten, ten + "'", ten + "''"}, {eleven, "z", eleven + "'"}, {eleven, eleven + "'", "v"}, {twelve, "z", "v"}, {twelve, "v", "v'"}, {twelve, "v'", "v"}, {"v", "z", "v'"},
		{ten + "'", "z", ten + "''"}, {ten + "''", "z", "v"}, {ten + "''", "v", "v'"}, {"αβγδεζηθικλ", "z", "αβγδεζηθικλ'"}, {"αβγδεζηθικλμ", "z", "v"}, {"αβγδεζηθικλμ", "v", "v'"}, {"y'", "y", "y''"}, {"y", "y''", "y'"},
	} {
		wantPutOfAll(t, []sample{
			{"Q " + x.name + ": x < " + x.name + " & " + x.also + " = 1", "x", x.name, "Q " + x.want + ": " + x.name + " < " + x.want + " & " + x.also + " = 1"},
			{"Q " + x.name + ": x < " + x.name + " & " + x.also + " = 1", "x " + x.also, x.name + ";5", "Q " + x.want + ": " + x.name + " < " + x.want + " & 5 = 1"},
			{"Q " + x.name + ": x < " + x.name, "x", "{" + x.name + "," + x.also + "}", "Q " + x.want + ": {" + x.name + ", " + x.also + "} < " + x.want},
			{"Q " + x.name + ": x = u & " + x.name, "x u", x.name + ";" + x.also, "Q " + x.want + ": " + x.name + " = " + x.also + " & " + x.want},
		}...)
	}
	wantPutOfAll(t, []sample{
		{"Q abcdefghijkl: Q v: x < abcdefghijkl & v < 3", "x", "abcdefghijkl", "Q v: Q v': abcdefghijkl < v & v' < 3"},
		{"Q abcdefghijkl: Q v: x < v", "x", "abcdefghijkl", "Q v: Q v: abcdefghijkl < v"},
	}...)
	// A name that is longer than names may be, as there are of v with strokes.
	long, used := "v"+strings.Repeat("'", api.MaxName), []api.Node{}
	for strokes := range api.MaxName {
		used = append(used, v("v"+strings.Repeat("'", strokes)))
	}
	n := quant("ex", 1, twelve, op("and", op("eq", v("x"), v(twelve)), call("p", used...)))
	got := asked(t, n, []string{"x"}, []api.Node{v(twelve)})
	if got.Name != long || got.Kids[0].Kids[0].Kids[1].Name != long || got.Kids[0].Kids[0].Kids[0].Name != twelve {
		t.Error(got)
	}
	got = asked(t, quant("all", 2, long, op("lt", v("x"), v(long))), []string{"x"}, []api.Node{v(long)})
	if !tree.Same(got, quant("all", 2, "v", op("lt", v(long), v("v")))) {
		t.Error(got)
	}
}

// P7.2, P7.3: plus

func TestPutInPlus(t *testing.T) {
	for _, sort := range sorts {
		for _, place := range slices.Concat(places, tight) {
			n := withX(t, place)
			want := plus(2, term(t, sort.s))
			if sort.joined != "" {
				want = term(t, sort.joined)
			}
			wantNode(t, within(n, plus(2, v("x"))), []string{"x"}, []api.Node{term(t, sort.s)}, within(n, want))
		}
	}
	wantPut(t, []sample{
		{"x + 2 = y + 3", "x y", "5;6", "7 = 9"}, {"x + 2 = y + 3", "x y", "y + 1;x", "y + 3 = x + 3"}, {"x + 1 = x + 2", "x", "x + 3", "x + 4 = x + 5"}, {"x + 2 = y + 3", "x", "0", "2 = y + 3"}, {"x + 2 = y + 3", "z", "0", "x + 2 = y + 3"}, {"x + 2 = y + 3", "x", "x", "x + 2 = y + 3"},
		{"p({x + 1, x}, x + 4)", "x", "95", "p({96, 95}, 99)"}, {"ex1 x: x + 1 = y + 1", "x y", "3;4", "ex1 x: x + 1 = 5"}, {"ex1 x: x + 1 = y + 1", "y", "x", "ex1 x': x' + 1 = x + 1"}, {"ex1 x: x + 1 = y + 1", "y", "x + 7", "ex1 x': x' + 1 = x + 8"},
	}...)
	// Beyond MaxNum.
	n := op("lt", plus(99, v("x")), plus(1, v("x")))
	wantNode(t, n, []string{"x"}, []api.Node{num(99)}, op("lt", num(198), num(100)))
	wantNode(t, n, []string{"x"}, []api.Node{plus(99, v("x"))}, op("lt", plus(198, v("x")), plus(100, v("x"))))
	wantNode(t, op("lt", plus(198, v("x")), plus(100, v("x"))), []string{"x"}, []api.Node{plus(99, v("y"))}, op("lt", plus(297, v("y")), plus(199, v("y"))))
	wantNode(t, op("lt", plus(198, v("x")), v("x")), []string{"x"}, []api.Node{num(150)}, op("lt", num(348), num(150)))
	wantNode(t, n, []string{"x"}, []api.Node{op("set", num(99))}, op("lt", plus(99, op("set", num(99))), plus(1, op("set", num(99)))))
}

// P7.2: At

func TestPlaces(t *testing.T) {
	y := at(71, v("y"))
	more := at(70, plus(3, y))
	set := at(60, op("set", at(61, num(4)), more))
	union := at(50, op("union", at(51, v("A")), set))
	in := func(place, kid api.Node) api.Node {
		return at(10, op("and", at(11, op("in", place, kid)), at(12, is("q"))))
	}
	x, plain := at(20, v("x")), at(33, v("z"))
	sum := at(30, plus(2, at(31, v("x"))))
	kept := at(30, plus(2, at(31, v("y"))))
	for i, c := range []struct{ n, term, want api.Node }{
		{in(x, plain), at(70, v("y")), in(at(20, v("y")), plain)}, {in(x, plain), at(70, num(9)), in(at(20, num(9)), plain)}, {in(x, plain), more, in(at(20, more), plain)},
		{in(plain, x), set, in(plain, at(20, set))}, {in(x, x), union, in(at(20, union), at(20, union))}, {in(plain, plain), more, in(plain, plain)},
		{in(at(40, op("set", x, plain)), x), more, in(at(40, op("set", at(20, more), plain)), at(20, more))},
		// A plus stays where it was, if it is joined, too.
		{in(sum, plain), at(70, num(9)), in(at(30, num(11)), plain)}, {in(sum, plain), more, in(at(30, plus(5, y)), plain)}, {in(sum, plain), at(70, v("y")), in(kept, plain)},
		{in(sum, plain), set, in(at(30, plus(2, at(31, set))), plain)},
		{at(1, call("p", x, sum, plain)), more, at(1, call("p", at(20, more), at(30, plus(5, y)), plain))}, {at(1, is("x")), more, at(1, is("x"))}, {at(1, is("x")), y, at(1, is("y"))},
		// A quantifier does so, with a new name, too.
		{at(1, quant("ex", 1, "z", in(x, plain))), more, at(1, quant("ex", 1, "z", in(at(20, more), plain)))},
		{at(1, quant("ex", 1, "z", in(x, plain))), at(80, v("z")), at(1, quant("ex", 1, "z'", in(at(20, v("z")), at(33, v("z'")))))},
		{at(1, quant("all", 0, "q", in(x, plain))), at(80, v("q")), at(1, quant("all", 0, "q'", at(10, op("and", at(11, op("in", at(20, v("q")), plain)), at(12, is("q'"))))))},
		{at(1, quant("ex", 1, "x", in(x, sum))), more, at(1, quant("ex", 1, "x", in(x, sum)))},
		{at(1, quant("ex", 2, "y", at(2, op("lt", at(3, plus(1, at(4, v("y")))), x)))), more, at(1, quant("ex", 2, "y'", at(2, op("lt", at(3, plus(1, at(4, v("y'")))), at(20, more)))))},
	} {
		if got := asked(t, c.n, []string{"x"}, []api.Node{c.term}); !alike(got, c.want) {
			t.Errorf("%d: %v, not %v", i, got, c.want)
		}
	}
	// Where text is, places are those in it.
	n := free.Put(formula(t, "a &  x + 1 < x"), []string{"x"}, []api.Node{more})
	if want := at(2, op("and", at(0, is("a")), at(11, op("lt", at(5, plus(4, y)), at(13, more))))); !alike(n, want) {
		t.Error(n)
	}
}
