package macro_test

import (
	"fmt"
	"slices"
	"strings"
	"testing"

	"sibyl/api"
	"sibyl/macro"
	"sibyl/parse"
	"sibyl/show"
	"sibyl/tree"
)

func v(name string) api.Node                   { return api.Node{Op: "var", Name: name} }
func num(n int) api.Node                       { return api.Node{Op: "num", N: n} }
func plus(n int, kids ...api.Node) api.Node    { return api.Node{Op: "plus", N: n, Kids: kids} }
func op(s string, kids ...api.Node) api.Node   { return api.Node{Op: s, Kids: kids} }
func is(name string) api.Node                  { return api.Node{Op: "is", Name: name} }
func call(name string, l ...api.Node) api.Node { return api.Node{Op: "call", Name: name, Kids: l} }

func quant(s string, order int, name string, kid api.Node) api.Node {
	return api.Node{Op: s, Name: name, N: order, Kids: []api.Node{kid}}
}

// pred is a Pred whose Params have an order.
func pred(name string, order int, params string, body api.Node) api.Pred {
	x := api.Pred{Name: name, Body: body}
	for _, s := range strings.Fields(params) {
		x.Params = append(x.Params, api.Decl{Name: s, Order: order})
	}
	return x
}

// at is a node at another place.
func at(place int, n api.Node) api.Node {
	n.At = place
	return n
}

// words are the quantifiers' words.
var words = strings.Fields("ex0 ex1 ex2 all0 all1 all2")

func prog(t *testing.T, s string) api.Prog {
	t.Helper()
	p, place, err := parse.Parse(s)
	if err != api.OK || !tree.Is(p) {
		t.Fatalf("%q is no program: %d, %d", s, place, err)
	}
	return p
}

func formula(t *testing.T, s string) api.Node {
	t.Helper()
	return prog(t, s+";").Main
}

// wantExpand: of a program's text that formula, but for places.
func wantExpand(t *testing.T, s, want string) {
	t.Helper()
	wantNode(t, prog(t, s), formula(t, want))
}

func wantNode(t *testing.T, p api.Prog, want api.Node) {
	t.Helper()
	n, err := asked(t, p)
	if err != api.OK || !tree.Same(n, want) {
		t.Errorf("%s: %s, %d, not %s", show.Prog(p), show.Formula(n), err, show.Formula(want))
	}
	if l := macro.Calls(n); len(l) > 0 {
		t.Errorf("%s: calls %q", show.Prog(p), l)
	}
}

// P8.1: Calls

func wantCalls(t *testing.T, n api.Node, want string) {
	t.Helper()
	for range 2 {
		if l := macro.Calls(n); !slices.Equal(l, strings.Fields(want)) {
			t.Errorf("%v: %q, not %q", n, l, want)
		}
	}
}

func TestCallsOfNone(t *testing.T) {
	for _, s := range []string{
		"true", "false", "q", "~q", "p & q", "p | q => r <=> s", "x = y", "x + 1 in {a, b + 2} union A", "ex1 p: p", "all2 p: ex0 q: q & p = {} & ~r", "3 = 4",
	} {
		wantCalls(t, formula(t, s), "")
	}
	for _, n := range []api.Node{v("p"), num(3), plus(1, v("p")), op("set"), op("set", v("p"), num(1)), op("union", v("p"), op("set", v("q"))), {}} {
		wantCalls(t, n, "")
	}
}

func TestCalls(t *testing.T) {
	for _, x := range []struct{ s, want string }{
		{"p()", "p"}, {"p(x)", "p"}, {"p(p)", "p"}, {"p(q, {r}, A union s, t + 1, 3, u)", "p"}, {"~p()", "p"}, {"~~~p(1)", "p"}, {"p'() & P()", "P p'"},
		// Beside all that is none.
		{"q & p()", "p"}, {"p & p()", "p"}, {"a = 1 & (b() | c)", "b"}, {"(ex1 a: a = 0) & a()", "a"}, {"ex1 q: q = 1 & p(q)", "p"}, {"ex1 p: p(p)", "p"},
		// One name more than once.
		{"p() & p()", "p"}, {"p() | q() | p()", "p q"}, {"q(1) & p(2) & q(3, 4) & p()", "p q"}, {"p() => ~p() <=> (ex1 x: p(x))", "p"},
		{"d() & c() & b() & a()", "a b c d"}, {"a() & (b() & (c() & d()))", "a b c d"}, {"((d() & a()) & c()) & (b() & a())", "a b c d"},
	} {
		wantCalls(t, formula(t, x.s), x.want)
	}
	for _, sign := range []string{"&", "|", "=>", "<=>"} {
		wantCalls(t, formula(t, "a() "+sign+" true"), "a")
		wantCalls(t, formula(t, "true "+sign+" a()"), "a")
		wantCalls(t, formula(t, "b() "+sign+" a()"), "a b")
		wantCalls(t, formula(t, "(d() "+sign+" a()) "+sign+" (b() "+sign+" ~c())"), "a b c d")
	}
	for _, word := range words {
		for _, x := range []struct{ s, want string }{
			{"Q x: p()", "p"}, {"Q p: p()", "p"}, {"Q x: Q y: q(x) & p(y)", "p q"}, {"(Q x: b(x)) & (Q x: ~a(x))", "a b"}, {"Q x: b() | (Q y: c() => (Q z: a()))", "a b c"},
		} {
			wantCalls(t, formula(t, strings.ReplaceAll(x.s, "Q", word)), x.want)
		}
	}
}

// TestCallsWithinCalls: no formula has them, but they are nodes of it.
func TestCallsWithinCalls(t *testing.T) {
	wantCalls(t, call("b", call("a")), "a b")
	wantCalls(t, call("a", call("a", call("a"))), "a")
	wantCalls(t, call("b", v("x"), call("d", op("set", call("a"))), call("c")), "a b c d")
	wantCalls(t, op("eq", plus(1, call("b")), op("union", v("A"), call("a", v("z")))), "a b")
	wantCalls(t, api.Node{Op: "num", Name: "p", N: -3, Kids: []api.Node{{Op: "xor", Kids: []api.Node{call("")}}, call("\xff")}}.Kids[1], "\xff")
	if l := macro.Calls(op("not", call(""))); !slices.Equal(l, []string{""}) {
		t.Errorf("%q", l)
	}
}

func TestOrderOfCalls(t *testing.T) {
	const want = "A B Z _ a a' a'' a'1 a1 a_ aa ab b z αβ β ω"
	l := strings.Fields(want)
	for range len(l) {
		l = append(l[1:], l[0])
		n := op("true")
		for i, name := range l {
			n = op("and", op("or", call(name, v("0")), n), op("not", call(l[len(l)-1-i])))
		}
		wantCalls(t, n, want)
	}
	// Byte by byte, of no rune, too.
	wantCalls(t, op("and", op("iff", call("\xff"), call("\x80")), op("or", call("ω"), op("imp", call("\U0001F600"), call("a")))), "a \x80 ω \U0001F600 \xff")
}

func TestManyCalls(t *testing.T) {
	var kids []api.Node
	var want []string
	for i := range 600 {
		name := fmt.Sprintf("p%d", i*7919%600)
		want = append(want, name)
		kids = append(kids, call(name), call(want[i/2]))
	}
	for len(kids) > 1 {
		kids = append(kids[2:], op("or", kids[0], kids[1]))
	}
	slices.Sort(want)
	if l := macro.Calls(kids[0]); !slices.Equal(l, want) {
		t.Error(l)
	}
}

// P8.1: Expand

func TestExpandOfNoCalls(t *testing.T) {
	for _, s := range []string{
		"true", "false", "3 = 4", "~(1 < 2 & 2 <= 3)", "ex1 x: x = 0 | x + 1 in {x, 2}", "all2 X: X sub X union {1} => (ex0 q: q <=> ~q)", "ex1 x: ex1 x: x = x", "ex1 p: p = 0",
	} {
		for _, preds := range []string{
			"", "pred p() = true; ", "pred p(var1 a, var2 A, var0 q) = a in A & q; pred q(var1 q) = ex0 x: p(q, {}, x) | false; ", "pred p(var1 a) = a < 3; pred r(var1 a) = p(a) & p(a + 1); pred x() = ~(ex1 x: r(x)); ",
		} {
			wantExpand(t, preds+s+";", s)
		}
	}
	wantExpand(t, "var1 x, y; var2 A; var0 q; x + 1 = y & (q | A = {x, y + 1, 3} inter A);", "x + 1 = y & (q | A = {x, y + 1, 3} inter A)")
	// A name may be a Pred's and a variable's.
	wantExpand(t, "pred p(var1 p) = p < 3; var1 p; var0 q; p = 0 & q;", "p = 0 & q")
}

func TestExpandOfCalls(t *testing.T) {
	for _, x := range []struct{ s, want string }{
		{"pred p(var1 a) = a < 3; ex1 x: p(x);", "ex1 x: x < 3"}, {"pred p() = false; p();", "false"}, {"pred p() = false; ~p();", "~false"}, {"pred p() = 1 < 2 | 3 = 4; p() & p();", "(1 < 2 | 3 = 4) & (1 < 2 | 3 = 4)"},
		{"pred p(var1 a) = a + 1 < 3; p(5) | p(5);", "6 < 3 | 6 < 3"}, {"pred p(var1 a) = a < 3; p(1) & ~p(2) => (p(3) <=> p(4));", "1 < 3 & ~2 < 3 => (3 < 3 <=> 4 < 3)"},
		{"pred p(var1 p) = p < 3; var1 p; p(p);", "p < 3"}, {"pred p(var1 x) = x < 3; ex1 p: p(p);", "ex1 p: p < 3"}, {"pred x(var1 y) = y = 0; var1 x, y; x(x) & x(y);", "x = 0 & y = 0"},
		// Within each sort of formula.
		{"pred p() = true; ex0 x: ex1 x: ex2 x: all0 x: all1 x: all2 x: p();", "ex0 x: ex1 x: ex2 x: all0 x: all1 x: all2 x: true"},
		{"pred p() = true; (p() & 1 = 2) | (1 = 3 & p()) => (p() | 1 = 4 <=> 1 = 5 | p());", "(true & 1 = 2) | (1 = 3 & true) => (true | 1 = 4 <=> 1 = 5 | true)"},
		{"pred p() = true; (p() => 1 = 2) & (1 = 3 => p()) & (p() <=> 1 = 4) & (1 = 5 <=> p());", "(true => 1 = 2) & (1 = 3 => true) & (true <=> 1 = 4) & (1 = 5 <=> true)"},
		// Of Preds, by two of them, and through a row.
		{"pred p(var1 a) = a < 3; pred q(var1 b) = p(b); q(1);", "1 < 3"}, {"pred p(var1 a) = a < 3; pred q(var1 a) = ~p(a) & p(a + 1); q(1) | p(2);", "~1 < 3 & 2 < 3 | 2 < 3"},
		{"pred p(var1 a) = a < 3; pred q(var1 a) = p(a + 1); pred r(var1 a) = p(a + 2); ex1 a: q(a) & r(a) & p(a);", "ex1 a: a + 1 < 3 & a + 2 < 3 & a < 3"},
		{"pred p(var1 a) = a < 3; pred q(var1 a) = p(a + 1); pred r(var1 a) = q(a + 1) & p(a + 5); pred s(var1 a) = r(a + 1); pred t(var1 a) = s(a + 1); var1 x; t(x + 1);", "x + 5 < 3 & x + 8 < 3"},
		{"pred p() = 1 = 2; pred q() = p() & p(); pred r() = q() | q(); pred s() = ~r(); s();", "~(1 = 2 & 1 = 2 | 1 = 2 & 1 = 2)"}, {"pred p(var1 a) = a < 3; pred q() = p(4); pred r(var1 b) = q(); r(5);", "4 < 3"},
		// A Pred that is not called, ahead, between and behind.
		{"pred n() = 1 = 1; pred p() = true; pred o() = n() & p(); pred q() = ~p(); pred r() = o() | q(); q();", "~true"},
		// What is bound in Bodies alone, beside names of Main.
		{"pred p() = ex1 x: x = 0; var1 x; p() & x = 1;", "(ex1 x: x = 0) & x = 1"}, {"pred p(var1 y) = ex1 x: x = y; var1 x; p(3) & x = 1;", "(ex1 x: x = 3) & x = 1"}, {"pred p() = ex1 x: x = 0; ex2 x: p() & x = {};", "ex2 x: (ex1 x: x = 0) & x = {}"},
	} {
		wantExpand(t, x.s, x.want)
	}
}

func TestParams(t *testing.T) {
	for _, x := range []struct{ s, want string }{
		// One to six, of each order.
		{"pred p(var0 a) = ~a; var0 x; p(x);", "~x"}, {"pred p(var1 a) = a = 3; var1 x; p(x);", "x = 3"}, {"pred p(var2 a) = a = {}; var2 x; p(x);", "x = {}"},
		{"pred p(var1 a, var1 b) = a < b; p(1, 2) & p(2, 1);", "1 < 2 & 2 < 1"}, {"pred p(var0 q, var2 A, var1 a) = q & a in A; var0 x; p(x, {1}, 2);", "x & 2 in {1}"},
		{"pred p(var1 a, var1 b, var1 c, var1 d) = {d, c} sub {b, a}; p(1, 2, 3, 4);", "{4, 3} sub {2, 1}"}, {"pred p(var2 a, var2 b, var2 c, var2 d, var2 e) = a union b sub c inter d \\ e; p({1}, {2}, {3}, {4}, {5});", "{1} union {2} sub {3} inter {4} \\ {5}"},
		{"pred p(var1 a, var1 b, var1 c, var1 d, var1 e, var1 f) = {a, b, c, d, e, f} = {f, e, d, c, b, a}; p(1, 2, 3, 4, 5, 6);", "{1, 2, 3, 4, 5, 6} = {6, 5, 4, 3, 2, 1}"},
		{"pred p(var0 a, var0 b, var1 c, var1 d, var2 e, var2 f) = a & b & c < d & e sub f; var0 q, r; p(r, q, 2, 1, {}, {3});", "r & q & 2 < 1 & {} sub {3}"},
		// Not at all, once, more than once.
		{"pred p(var1 a) = true; p(3);", "true"}, {"pred p(var0 a, var1 b, var2 c) = 1 = 2; var0 q; p(q, 1, {}) | p(q, 3, {4});", "1 = 2 | 1 = 2"}, {"pred p(var1 a, var1 b) = b = 0; p(1, 2);", "2 = 0"}, {"pred p(var1 a, var1 b) = a = 0; p(1, 2);", "1 = 0"},
		{"pred p(var1 a) = a = a & a + 1 in {a, a + 2}; p(3);", "3 = 3 & 4 in {3, 5}"}, {"pred p(var0 a) = a <=> ~a & (a => a); var0 q; p(q);", "q <=> ~q & (q => q)"}, {"pred p(var2 A) = A = A union A inter A \\ A; p({});", "{} = {} union {} inter {} \\ {}"},
		// An is, and a var of order 0 as a call's term.
		{"pred p(var0 a) = a; var0 a, b; p(b) & p(a);", "b & a"}, {"pred p(var0 a) = a; pred q(var0 b) = ~p(b); pred r(var0 a) = q(a) & p(a); var0 c; r(c);", "~c & c"}, {"pred p(var0 a, var0 b) = a & ~b; var0 a, b; p(b, a) | p(a, a) | p(b, b);", "b & ~a | a & ~a | b & ~b"},
		{"pred p(var0 a) = ex0 b: a <=> b; ex0 q: p(q);", "ex0 q: ex0 b: q <=> b"},
		// At once: terms that name Params of the Pred.
		{"pred p(var1 a, var1 b) = a < b; var1 a, b; p(b, a);", "b < a"}, {"pred p(var1 a, var1 b) = a < b; var1 a, b; p(b + 1, a + 2);", "b + 1 < a + 2"}, {"pred p(var1 a, var1 b) = a < b; var1 b; p(b, 3) & p(3, b);", "b < 3 & 3 < b"}, {"pred p(var0 a, var0 b) = a & ~b; var0 a, b; p(b, a);", "b & ~a"},
		{"pred p(var1 a, var1 b, var1 c) = a < b & b < c; var1 a, b, c; p(b, c, a);", "b < c & c < a"}, {"pred p(var2 A, var2 B) = A sub B; var2 A, B; p(A union B, B union A);", "A union B sub B union A"}, {"pred p(var1 a, var2 A) = a in A; var1 a; var2 A; p(a, {a});", "a in {a}"},
		{"pred p(var1 a, var1 b) = a < b; pred q(var1 a, var1 b) = p(b, a) & p(a, b); pred r(var1 b, var1 a) = q(b, a); var1 a, b; r(a, b) | q(a, b);", "b < a & a < b | b < a & a < b"},
		{"pred p(var1 a) = a < 3; var1 a; p(a + 1);", "a + 1 < 3"}, {"pred p(var1 a) = a + 1 < 3; pred q(var1 a) = p(a + 1); var1 a; q(a + 1);", "a + 3 < 3"},
	} {
		wantExpand(t, x.s, x.want)
	}
}

// TestTermsOfCalls: each sort of term, of each kind, in each place.
func TestTermsOfCalls(t *testing.T) {
	const decls = "; var0 q; var1 x, y; var2 X, Y; "
	for _, place := range []string{"@ = 3", "4 ~= @", "@ < @", "1 <= @", "@ in {}", "@ notin {1}", "{@, 2, @} sub {}", "ex1 z: z = @", "~@ = 0", "all2 Z: 1 = 2 | @ in Z"} {
		for _, s := range []string{"x", "y", "0", "99", "x + 1", "y + 99"} {
			wantExpand(t, "pred p(var1 a) = "+strings.ReplaceAll(place, "@", "a")+decls+"p("+s+");", strings.ReplaceAll(place, "@", s))
		}
	}
	for _, x := range []struct{ s, joined string }{{"x", "x + 97"}, {"0", "97"}, {"2", "99"}, {"x + 1", "x + 98"}, {"y + 2", "y + 99"}} {
		wantExpand(t, "pred p(var1 a) = a = 1 & a + 97 = 2"+decls+"p("+x.s+");", x.s+" = 1 & "+x.joined+" = 2")
	}
	for _, place := range []string{"@ = {}", "{1} ~= @", "3 in @", "4 notin @", "@ sub {}", "{} sub @", "@ sub @", "@ union {1} = {2}", "@ inter {1} \\ {3} = {2}", "ex2 Z: Z = @", "~(all1 z: z in @)"} {
		for _, s := range []string{"X", "Y", "{}", "{1}", "{x, y + 1, 3, 4, 5, 6}", "X union Y", "X inter {x}", "{} \\ Y", "X union {1} inter Y \\ {x + 1}"} {
			wantExpand(t, "pred p(var2 A) = "+strings.ReplaceAll(place, "@", "A")+decls+"p("+s+");", strings.ReplaceAll(place, "@", s))
		}
	}
	for _, place := range []string{"@", "~@", "@ & @", "1 = 2 | @", "@ => 1 = 2", "1 = 2 <=> @", "ex0 z: z & @", "all1 z: z = 1 & @"} {
		wantExpand(t, "pred p(var0 a) = "+strings.ReplaceAll(place, "@", "a")+decls+"p(q);", strings.ReplaceAll(place, "@", "q"))
	}
}

// TestWhatCantBeWritten: sums above MaxNum, and unions within unions.
func TestWhatCantBeWritten(t *testing.T) {
	p := prog(t, "pred p(var1 a) = a + 99 < a; pred q(var1 a) = p(a + 99); var1 x; p(99) & q(99) & q(x);")
	wantNode(t, p, op("and", op("and", op("lt", num(198), num(99)), op("lt", num(297), num(198))), op("lt", plus(198, v("x")), plus(99, v("x")))))
	p = prog(t, "pred p(var2 A) = A union A sub {1} inter A; var2 X; p(X \\ {});")
	minus := op("minus", v("X"), op("set"))
	wantNode(t, p, op("sub", op("union", minus, minus), op("inter", op("set", num(1)), minus)))
	p = prog(t, "pred p(var2 A) = {} = A; pred q(var2 A) = p({1} union A); pred r(var2 A) = q({2} union A); r({3} union {4});")
	set := func(n int) api.Node { return op("set", num(n)) }
	wantNode(t, p, op("eq", op("set"), op("union", set(1), op("union", set(2), op("union", set(3), set(4))))))
}

// TestDeepRows: what is expanded may be deeper than a formula may be.
func TestDeepRows(t *testing.T) {
	const most = 600
	var p api.Prog
	for k := range most {
		body := op("lt", plus(1, v("a")), v("b"))
		if k > 0 {
			body = quant("all", 1, "c", op("not", call(fmt.Sprintf("p%d", k-1), v("a"), plus(1, v("b")))))
		}
		p.Preds = append(p.Preds, pred(fmt.Sprintf("p%d", k), 1, "a b", body))
	}
	p.Main = call(fmt.Sprintf("p%d", most-1), num(7), num(2))
	want := op("lt", num(8), num(2+most-1))
	for range most - 1 {
		want = quant("all", 1, "c", op("not", want))
	}
	wantNode(t, p, want)
}

// P8.1: what is caught

func TestWhatIsCaught(t *testing.T) {
	for _, x := range []struct{ s, want string }{
		{"pred p(var1 a) = ex1 b: a < b; ex1 b: p(b);", "ex1 b: ex1 b': b < b'"}, {"pred p(var1 a) = ex1 b: a < b; var1 b; p(b) & p(b + 1) & p(3);", "(ex1 b': b < b') & (ex1 b': b + 1 < b') & (ex1 b: 3 < b)"},
		{"pred p(var1 a, var1 b) = a < b; pred q(var1 b) = p(b, 9) & ex1 a: p(a, b); var1 a; q(a);", "a < 9 & (ex1 a': a' < a)"}, {"pred p(var2 A) = ex1 b: b in A; var1 b; p({b, b + 1});", "ex1 b': b' in {b, b + 1}"},
		// A Body that binds the name of its own Param.
		{"pred p(var1 a) = ex1 a: a < 3; p(5);", "ex1 a: a < 3"}, {"pred p(var1 a) = a = 1 & (ex1 a: a < 3) & a = 2; var1 x; p(x);", "x = 1 & (ex1 a: a < 3) & x = 2"}, {"pred p(var1 a) = ex2 a: a = {} & (all1 a: a = a); var1 a; p(a);", "ex2 a: a = {} & (all1 a: a = a)"},
		{"pred p(var1 a, var1 b) = a < b & (ex1 a: a < b); var1 a; p(3, a);", "3 < a & (ex1 a': a' < a)"}, {"pred p(var1 a, var1 b) = ex1 a: a < b; var1 b; p(b, 4);", "ex1 a: a < 4"},
		// In several.
		{"pred p(var1 a) = ex1 b: all1 c: a < b & a < c; var1 b, c; p(b) & p(c);", "(ex1 b': all1 c: b < b' & b < c) & (ex1 b: all1 c': c < b & c < c')"}, {"pred p(var2 A) = ex1 b: all1 c: {b, c} = A; var1 b, c; p({b, c});", "ex1 b': all1 c': {b', c'} = {b, c}"},
		{"pred p(var1 a) = ex1 b: ex1 b': a < b & b < b'; var1 b; p(b);", "ex1 b': ex1 b'': b < b' & b' < b''"}, {"pred p(var1 a) = (ex1 b: a < b) & (ex1 b: b < a); ex1 b: p(b);", "ex1 b: (ex1 b': b < b') & (ex1 b': b' < b)"}, {"pred p(var1 a) = ex1 b: a < b & (ex1 b: a = b); var1 b; p(b);", "ex1 b': b < b' & (ex1 b': b = b')"},
		{"pred p(var1 a, var1 b) = ex1 c: ex1 d: {a, b} = {c, d}; var1 c, d; p(c, d) & p(d, c);", "(ex1 c': ex1 d': {c, d} = {c', d'}) & (ex1 c': ex1 d': {d, c} = {c', d'})"},
		// Within quantifiers, rename by rename, through Bodies.
		{"pred p(var1 a) = ex1 b: a < b; pred q(var1 b) = p(b); var1 b; q(b);", "ex1 b': b < b'"}, {"pred p(var1 a) = ex1 b: a < b; pred q(var1 a) = ex1 b: p(b) & a = 0; var1 b, b'; q(b) & q(b');", "(ex1 b': (ex1 b'': b' < b'') & b = 0) & (ex1 b: (ex1 b': b < b') & b' = 0)"},
		{"pred p(var1 a) = ex1 a': a < a'; pred q(var1 a) = ex1 a': p(a') & p(a); var1 a'; q(a');", "ex1 a'': (ex1 a''': a'' < a''') & (ex1 a'': a' < a'')"},
		{"pred p(var1 a) = ex1 abcdefghijkl: a < abcdefghijkl; var1 abcdefghijkl, v; p(abcdefghijkl) & p(v);", "(ex1 v: abcdefghijkl < v) & (ex1 abcdefghijkl: v < abcdefghijkl)"},
		// Where Main binds it, and where it does not.
		{"pred p(var1 a) = ex1 b: a < b; ex1 b: ex1 b': p(b) & p(b');", "ex1 b: ex1 b': (ex1 b': b < b') & (ex1 b: b' < b)"}, {"pred p(var1 a) = all0 q: q | a = 0; ex1 q: p(q);", "ex1 q: all0 q': q' | q = 0"},
		// Params that do not stand: nothing is caught.
		{"pred p(var1 a) = ex1 b: b = 0; var1 b; p(b);", "ex1 b: b = 0"}, {"pred p(var1 a, var1 c) = ex1 b: b = c; var1 b; p(b, 3) & p(3, b);", "(ex1 b: b = 3) & (ex1 b': b' = b)"},
	} {
		wantExpand(t, x.s, x.want)
	}
}

// TestWhatIsCaughtByAll: each order, of ex and all.
func TestWhatIsCaughtByAll(t *testing.T) {
	uses := []string{"@ & ~@", "@ = @ + 1", "@ = {1}"}
	for i, word := range words {
		use := func(name string) string { return strings.ReplaceAll(uses[i%3], "@", name) }
		for _, x := range []struct{ s, want string }{
			{"pred p(var1 a) = Q b: a = 0 & (B); var1 b; p(b);", "Q b': b = 0 & (B')"}, {"pred p(var1 a) = Q b: a = 0 & (B); ex1 b: p(b + 2);", "ex1 b: Q b': b + 2 = 0 & (B')"}, {"pred p(var2 a) = Q b: 1 in a & (B); var2 b; p({} union b);", "Q b': 1 in {} union b & (B')"},
			{"pred p(var0 a) = Q b: a & (B); var0 b; p(b);", "Q b': b & (B')"}, {"pred p(var0 a) = Q b: a & (B); all0 b: p(b);", "all0 b: Q b': b & (B')"}, {"pred p(var1 b) = b = 1 & (Q b: B); var1 b; p(b);", "b = 1 & (Q b: B)"},
			{"pred p(var1 a) = Q b: a = 0 & (B); pred q(var1 a) = ex1 b: p(b) & p(a); var1 c; q(c);", "ex1 b: (Q b': b = 0 & (B')) & (Q b: c = 0 & (B))"}, {"pred p(var1 a) = Q b: Q b: a = 0 & (B); var1 b; p(b);", "Q b': Q b': b = 0 & (B')"},
		} {
			replace := strings.NewReplacer("Q", word, "B'", use("b'"), "B", use("b"))
			wantExpand(t, replace.Replace(x.s), replace.Replace(x.want))
		}
	}
}

// P8.1: places

func TestPlaces(t *testing.T) {
	// A Body's nodes keep theirs, as Main's do; a term has its var's, what is within it its own.
	lt := at(20, op("lt", at(18, v("a")), at(22, plus(3, at(21, v("a"))))))
	p := api.Prog{Preds: []api.Pred{pred("p", 1, "a", lt), pred("q", 1, "b", at(40, quant("ex", 1, "c", at(41, op("and", at(42, call("p", at(43, v("b")))), at(44, call("p", at(45, plus(2, at(46, v("c"))))))))))), pred("r", 0, "t", at(70, is("t"))), pred("s", 2, "S", at(80, op("sub", at(81, v("S")), at(82, op("set")))))}}
	p.Preds[2].At, p.Preds[0].Params[0].At = 3, 4
	p.Decls = []api.Decl{{Name: "c", Order: 1, At: 1}, {Name: "u", Order: 0, At: 2}, {Name: "X", Order: 2, At: 3}}
	for i, x := range []struct{ n, want api.Node }{
		{at(90, call("p", at(91, num(5)))), at(20, op("lt", at(18, num(5)), at(22, num(8))))},
		{at(90, call("p", at(91, v("c")))), at(20, op("lt", at(18, v("c")), at(22, plus(3, at(21, v("c"))))))},
		{at(90, call("p", at(91, plus(1, at(92, v("c")))))), at(20, op("lt", at(18, plus(1, at(92, v("c")))), at(22, plus(4, at(92, v("c"))))))},
		{at(90, op("not", at(93, call("p", at(91, num(5)))))), at(90, op("not", at(20, op("lt", at(18, num(5)), at(22, num(8))))))},
		{at(90, call("r", at(91, v("u")))), at(70, is("u"))}, {at(95, op("or", at(90, call("r", at(91, v("u")))), at(94, is("u")))), at(95, op("or", at(70, is("u")), at(94, is("u"))))},
		{at(90, call("s", at(91, op("union", at(92, v("X")), at(93, op("set", at(94, plus(1, at(95, v("c")))))))))), at(80, op("sub", at(81, op("union", at(92, v("X")), at(93, op("set", at(94, plus(1, at(95, v("c")))))))), at(82, op("set"))))},
		{at(90, call("q", at(91, num(7)))), at(40, quant("ex", 1, "c", at(41, op("and", at(20, op("lt", at(18, num(7)), at(22, num(10)))), at(20, op("lt", at(18, plus(2, at(46, v("c")))), at(22, plus(5, at(46, v("c"))))))))))},
		{at(90, call("q", at(91, v("c")))), at(40, quant("ex", 1, "c'", at(41, op("and", at(20, op("lt", at(18, v("c")), at(22, plus(3, at(21, v("c")))))), at(20, op("lt", at(18, plus(2, at(46, v("c'")))), at(22, plus(5, at(46, v("c'"))))))))))},
		{at(-7, op("lt", at(-8, v("c")), at(-9, num(1)))), at(-7, op("lt", at(-8, v("c")), at(-9, num(1))))},
	} {
		p.Main = x.n
		if n, err := asked(t, p); err != api.OK || !alike(n, x.want) {
			t.Errorf("%d: %v, %d, not %v", i, n, err, x.want)
		}
	}
	// In a text.
	p = prog(t, "pred p(var1 a) =  a < 3; true &  p(5);")
	if n, _ := asked(t, p); !alike(n, at(30, op("and", at(25, op("true")), at(20, op("lt", at(18, num(5)), at(22, num(3))))))) {
		t.Error(n)
	}
}
