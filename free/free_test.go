package free_test

import (
	"math"
	"slices"
	"strings"
	"testing"

	"sibyl/api"
	"sibyl/free"
	"sibyl/parse"
	"sibyl/tree"
)

func v(name string) api.Node                   { return api.Node{Op: "var", Name: name} }
func num(n int) api.Node                       { return api.Node{Op: "num", N: n} }
func plus(n int, kids ...api.Node) api.Node    { return api.Node{Op: "plus", N: n, Kids: kids} }
func op(s string, kids ...api.Node) api.Node   { return api.Node{Op: s, Kids: kids} }
func is(name string) api.Node                  { return api.Node{Op: "is", Name: name} }
func call(name string, l ...api.Node) api.Node { return api.Node{Op: "call", Name: name, Kids: l} }

func quant(s string, order int, name string, kid api.Node) api.Node {
	return api.Node{Op: s, Name: name, N: order, Kids: []api.Node{kid}}
}

// at is a node at another place.
func at(place int, n api.Node) api.Node {
	n.At = place
	return n
}

// formula is a text's formula.
func formula(t *testing.T, s string) api.Node {
	t.Helper()
	p, place, err := parse.Parse(s + ";")
	if err != api.OK || !tree.IsFormula(p.Main) {
		t.Fatalf("%q is no formula: %d, %d", s, place, err)
	}
	return p.Main
}

// term is a text's term.
func term(t *testing.T, s string) api.Node {
	t.Helper()
	n := formula(t, s+" = 0").Kids[0]
	if !tree.IsTerm(n) {
		t.Fatalf("%q is no term", s)
	}
	return n
}

// P7.1: Names

func wantNames(t *testing.T, n api.Node, want string) {
	t.Helper()
	for range 2 {
		if l := free.Names(n); !slices.Equal(l, strings.Fields(want)) {
			t.Errorf("%v: %q, not %q", n, l, want)
		}
	}
}

func TestNamesOfTerms(t *testing.T) {
	for _, x := range []struct{ s, want string }{
		{"x", "x"}, {"X'", "X'"}, {"0", ""}, {"99", ""}, {"x + 1", "x"}, {"{}", ""}, {"{1}", ""}, {"{x}", "x"},
		{"{b, 1, a + 2, c, b}", "a b c"}, {"{f, e, d, c, b, a}", "a b c d e f"},
		{"A union B", "A B"}, {"B inter A", "A B"}, {`B \ A`, "A B"}, {"A union A", "A"}, {"{} union {1}", ""},
		{`D union {c, b + 9} \ A inter D`, "A D b c"},
	} {
		wantNames(t, term(t, x.s), x.want)
	}
}

func TestNamesOfFormulas(t *testing.T) {
	for _, x := range []struct{ s, want string }{
		{"true", ""}, {"false", ""}, {"q", "q"}, {"~true", ""}, {"~q", "q"}, {"~~q", "q"},
		{"p()", ""}, {"p(x)", "x"}, {"p(p)", "p"}, {"p(c, {b}, A union p, 3, a + 1, c)", "A a b c p"}, {"p(f, e, d, c, b, a)", "a b c d e f"},
		{"ex1 x: p(x)", ""}, {"ex1 p: p(p, x)", "x"}, {"ex1 p: p()", ""}, {"ex1 x: p(y) & p(x)", "y"},
	} {
		wantNames(t, formula(t, x.s), x.want)
	}
	for _, sign := range []string{"&", "|", "=>", "<=>"} {
		wantNames(t, formula(t, "true "+sign+" false"), "")
		wantNames(t, formula(t, "b "+sign+" a"), "a b")
		wantNames(t, formula(t, "a "+sign+" a"), "a")
		wantNames(t, formula(t, "true "+sign+" a"), "a")
		wantNames(t, formula(t, "a "+sign+" true"), "a")
		wantNames(t, formula(t, "(c "+sign+" a) "+sign+" (b "+sign+" ~d)"), "a b c d")
	}
	for _, rel := range []string{"=", "~=", "<", "<=", "in", "notin", "sub"} {
		wantNames(t, formula(t, "1 "+rel+" 2"), "")
		wantNames(t, formula(t, "y "+rel+" x"), "x y")
		wantNames(t, formula(t, "x "+rel+" x"), "x")
		wantNames(t, formula(t, "1 "+rel+" {x, z}"), "x z")
		wantNames(t, formula(t, "z + 1 "+rel+" X union {y}"), "X y z")
	}
}

func TestNamesThatAreBound(t *testing.T) {
	for _, word := range []string{"ex0", "ex1", "ex2", "all0", "all1", "all2"} {
		for _, x := range []struct{ s, want string }{
			{"Q x: true", ""}, {"Q x: x", ""}, {"Q x: y", "y"}, {"Q x: x = 0", ""}, {"Q x: x & x = x + 1", ""}, {"Q x: x < y", "y"},
			{"Q x: {x, z} sub A union {x + 1}", "A z"}, {"Q x: p(x, y, {x, z})", "y z"}, {"Q x: x' = X", "X x'"},
			// Bound twice.
			{"Q x: Q x: x < y", "y"}, {"Q x: (Q x: x) & x", ""}, {"Q x: x = 1 | (Q x: x = 2)", ""}, {"Q x: Q y: Q x: x < y", ""}, {"Q x: (Q x: Q x: x) | x = 1 | z", "z"},
			{"Q x: Q y: x < y", ""}, {"(Q x: x) & (Q x: x)", ""}, {"~(Q x: ~x)", ""},
			// Free ahead of and behind a quantifier of that name, and beside it.
			{"x & (Q x: x)", "x"}, {"(Q x: x) & x", "x"}, {"x = 0 & (Q x: x = 0)", "x"}, {"(Q x: x = 0) => x = 0", "x"}, {"(Q x: x) & x & (Q x: x)", "x"},
			{"Q x: x & (Q y: x & y) & y", "y"}, {"(Q x: Q x: true) & x", "x"}, {"(Q x: y) | (Q y: x)", "x y"}, {"(Q x: x < y) & (Q y: y < x)", "x y"},
			{"Q x: ~(x & (Q y: x < y & z) & y = 3)", "y z"},
		} {
			wantNames(t, formula(t, strings.ReplaceAll(x.s, "Q", word)), x.want)
		}
	}
	// A quantifier binds both, whatever its order, as does each other one.
	wantNames(t, formula(t, "ex0 x: x = 1 & x & all2 x: x in {x}"), "")
	wantNames(t, formula(t, "(ex1 x: x = y) & (all0 y: y) & (ex2 z: z = x)"), "x y")
}

func TestOrderOfNames(t *testing.T) {
	const want = "A B Z _ a a' a'' a'1 a1 a_ aa ab b z αβ β ω"
	l := strings.Fields(want)
	for range len(l) {
		l = append(l[1:], l[0])
		n := op("true")
		for i, name := range l {
			n = op("and", op("or", is(name), n), op("eq", v(l[len(l)-1-i]), num(1)))
		}
		wantNames(t, n, want)
		wantNames(t, op("not", n), want)
	}
	// Byte by byte, of no rune, too.
	wantNames(t, op("eq", v("\xff"), op("set", v("\x80"), v("ω"), v("\U0001F600"), v("a"))), "a \x80 ω \U0001F600 \xff")
}

func TestManyNames(t *testing.T) {
	var kids []api.Node
	var want []string
	n := op("true")
	for i := range 600 {
		name := "n" + strings.Repeat("'", i%3) + string(rune('a'+i/3%26)) + string(rune('a'+i/78))
		want = append(want, name)
		kids = append(kids, is(name))
		if i%2 == 0 {
			kids[i] = op("eq", v(name), num(1))
		}
	}
	for len(kids) > 1 {
		n = op("or", kids[0], kids[1])
		kids = append(kids[2:], n)
	}
	slices.Sort(want)
	if !slices.Equal(free.Names(n), want) {
		t.Error(free.Names(n))
	}
}

// P7.1: Fresh

func wantFresh(t *testing.T, name, used, want string) {
	t.Helper()
	l := strings.Fields(used)
	for range len(l) + 1 {
		if s := free.Fresh(name, l); s != want {
			t.Errorf("%q by %q: %q, not %q", name, l, s, want)
		}
		if len(l) > 0 {
			l = append(l[1:], l[0])
		}
	}
	slices.Reverse(l)
	for _, l := range [][]string{l, slices.Repeat(l, 3), append(slices.Repeat(l, 2), "zz", "")} {
		if s := free.Fresh(name, l); s != want {
			t.Errorf("%q by %q: %q, not %q", name, l, s, want)
		}
	}
}

func TestFresh(t *testing.T) {
	for _, x := range []struct{ name, used, want string }{
		{"x", "", "x"}, {"x", "y", "x"}, {"x", "X xx x1 x_ 'x y'", "x"}, {"x", "x' x''", "x"},
		{"x", "x", "x'"}, {"x", "x y z", "x'"}, {"x", "x x'", "x''"}, {"x", "x' x", "x''"}, {"x", "x x' x''", "x'''"}, {"x", "x x' x'' x'''", "x''''"},
		{"x", "x x''", "x'"}, {"x", "x x'''", "x'"}, {"x", "x x' x'''", "x''"}, {"x", "x'' x x''''", "x'"}, {"x", "x x' x'' x''''", "x'''"},
		{"x'", "x", "x'"}, {"x'", "x'", "x''"}, {"x'", "x' x", "x''"}, {"x''", "x'' x''''", "x'''"}, {"x'", "x x' x'' x'''", "x''''"},
		{"β", "β", "β'"}, {"β", "α", "β"}, {"v", "v", "v'"}, {"v", "", "v"}, {"v'", "v v'", "v''"}, {"true", "true", "true'"},
	} {
		wantFresh(t, x.name, x.used, x.want)
	}
	wantFresh(t, "x", "x x' x'' x''' x'''' x''''' x'''''' x''''''' x'''''''' x''''''''' x''''''''''", "x'''''''''''")
	if s := free.Fresh("", nil); s != "" {
		t.Errorf("%q", s)
	}
	if s := free.Fresh("", []string{"", "'"}); s != "''" {
		t.Errorf("%q", s)
	}
}

func TestFreshOfLongNames(t *testing.T) {
	for _, base := range []string{
		"a", "abcd", "abcdefghijk", "abcdefghijkl", "β", "αβγδεζ", "αβγδεζηθικλ", "αβγδεζηθικλμ", "aβ", "ω'ω", "\U0001F600\U0001F600",
		// A byte of no rune counts for one.
		"\xff", "\xff\xfe\xfd", "a\x80\xbf\xc3", "\xe2\x82", "ω'\xff'ω", strings.Repeat("\xff", api.MaxName-1), strings.Repeat("\xff", api.MaxName),
	} {
		used := ""
		for strokes := range api.MaxName + 1 - len([]rune(base)) {
			name := base + strings.Repeat("'", strokes)
			wantFresh(t, base, used, name)
			wantFresh(t, name, "", name)
			wantFresh(t, name, used+" v v'", name)
			used += " " + name
		}
		tooLong := base + strings.Repeat("'", api.MaxName+1-len([]rune(base)))
		for range 3 { // names that may be longer do not matter
			wantFresh(t, base, used, "v")
			wantFresh(t, base, used+" v' v''", "v")
			wantFresh(t, base, used+" v", "v'")
			wantFresh(t, base, used+" v''' v v' w", "v''")
			used += " " + tooLong
			tooLong += "'"
		}
	}
}

func TestFreshOfNamesThatAreTooLong(t *testing.T) {
	for _, name := range []string{
		"abcdefghijklm", "αβγδεζηθικλμν", "abcdefghijkl'", "v''''''''''''", strings.Repeat("x", 5000), strings.Repeat("\xff", api.MaxName+1), strings.Repeat("\xff", 5000),
	} {
		wantFresh(t, name, "", "v")
		wantFresh(t, name, name, "v")
		wantFresh(t, name, "v' w", "v")
		wantFresh(t, name, "v v''", "v'")
		wantFresh(t, name, "v "+name+" v'", "v''")
	}
	// However long: some of these have more than MaxName runes.
	used := "v"
	for strokes := range 2 * api.MaxName {
		next := "v" + strings.Repeat("'", strokes+1)
		wantFresh(t, "abcdefghijklm", used, next)
		wantFresh(t, "abcdefghijkl", used+" abcdefghijkl", next)
		wantFresh(t, "v", used, next)
		used += " " + next
	}
	wantFresh(t, "v'", strings.Replace(used, " v''' ", " ", 1), "v'''")
	wantFresh(t, "v''", strings.Replace(used, " v' ", " ", 1), "v'")
	wantFresh(t, "v''''''''''''", strings.Replace(used, "v ", "", 1), "v")
}

// P7.3

func wantJoin(t *testing.T, n, want api.Node) {
	t.Helper()
	for _, place := range []int{0, 1, 70, math.MaxInt, math.MinInt} {
		n.At, want.At = place, place
		for range 2 {
			if got := free.Join(n); !alike(got, want) {
				t.Errorf("%v: %v, not %v", n, got, want)
			}
		}
	}
}

func TestJoin(t *testing.T) {
	x := at(9, v("x"))
	for _, a := range []int{1, 2, 50, api.MaxNum} {
		for _, b := range []int{0, 1, 2, 50, api.MaxNum, api.MaxNum + 1, 1000} {
			wantJoin(t, plus(a, at(7, num(b))), num(a+b))
			wantJoin(t, plus(b, at(7, num(a))), num(a+b))
			wantJoin(t, plus(a, at(7, plus(b, x))), plus(a+b, x))
			wantJoin(t, plus(b, at(7, plus(a, x))), plus(a+b, x))
		}
		wantJoin(t, plus(a, x), plus(a, x))
		// The kid's kid is just that, be it a num, a plus or whatever.
		wantJoin(t, plus(a, plus(3, num(4))), plus(a+3, num(4)))
		wantJoin(t, plus(a, plus(3, plus(4, x))), plus(a+3, plus(4, x)))
		wantJoin(t, plus(a, plus(3, op("set", x))), plus(a+3, op("set", x)))
	}
	// Nothing wraps.
	wantJoin(t, plus(1, num(math.MaxInt)), num(math.MaxInt))
	wantJoin(t, plus(math.MaxInt, plus(math.MaxInt, x)), plus(math.MaxInt, x))
	wantJoin(t, plus(math.MaxInt, num(-1)), num(math.MaxInt-1))
	wantJoin(t, plus(math.MinInt, num(-1)), num(math.MinInt))
	wantJoin(t, plus(-1, num(math.MinInt+1)), num(math.MinInt))
	wantJoin(t, plus(math.MinInt, num(math.MaxInt)), num(-1))
}

func TestJoinOfOthers(t *testing.T) {
	inner := plus(4, at(8, num(3))) // only what stands at the top is joined
	for _, n := range []api.Node{
		v("x"), num(0), num(99), op("set"), op("set", inner, v("y")), op("union", v("A"), op("set", inner)), op("inter", v("A"), v("B")), op("minus", v("A"), v("B")),
		plus(4, v("x")), plus(4, op("set", inner)), plus(4, op("union", v("A"), v("B"))), plus(4, is("x")), plus(4, op("true")), plus(4),
		op("true"), op("false"), op("not", op("eq", inner, v("x"))), op("and", is("a"), is("b")), op("or", is("a"), is("b")), op("imp", is("a"), is("b")), op("iff", is("a"), is("b")),
		quant("ex", 2, "x", is("x")), quant("all", 1, "x", op("lt", inner, inner)), is("x"), op("eq", inner, num(1)), op("ne", v("x"), num(1)), op("lt", v("x"), plus(2, v("x"))),
		op("le", num(1), num(2)), op("in", inner, v("X")), op("notin", num(1), v("X")), op("sub", v("X"), v("Y")), call("p"), call("p", inner, at(4, v("x"))),
	} {
		wantJoin(t, n, n)
	}
}
