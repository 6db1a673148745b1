package show_test

import (
	"math"
	"reflect"
	"slices"
	"strconv"
	"strings"
	"testing"

	"sibyl/api"
	"sibyl/parse"
	"sibyl/runes"
	"sibyl/show"
	"sibyl/tree"
)

// A pair is a node, and the text that it is shown as.
type pair struct {
	n api.Node
	s string
}

func nodesOf(l []pair) []api.Node {
	var nodes []api.Node
	for _, x := range l {
		nodes = append(nodes, x.n)
	}
	return nodes
}

func textsOf(l []pair) string {
	var texts []string
	for _, x := range l {
		texts = append(texts, x.s)
	}
	return strings.Join(texts, ", ")
}

func op(s string, kids ...pair) api.Node { return api.Node{Op: s, Kids: nodesOf(kids)} }

func v(name string) pair { return pair{api.Node{Op: "var", Name: name}, name} }
func num(n int) pair     { return pair{api.Node{Op: "num", N: n}, strconv.Itoa(n)} }
func set(l ...pair) pair { return pair{op("set", l...), "{" + textsOf(l) + "}"} }

func plus(name string, n int) pair {
	return pair{api.Node{Op: "plus", N: n, Kids: []api.Node{v(name).n}}, name + " + " + strconv.Itoa(n)}
}

// A between is an Op that has two kids, and the sign that stands between them.
type between struct{ op, sign string }

var (
	joins     = []between{{"union", "union"}, {"inter", "inter"}, {"minus", `\`}}
	relations = []between{{"eq", "="}, {"ne", "~="}, {"lt", "<"}, {"le", "<="}, {"in", "in"}, {"notin", "notin"}, {"sub", "sub"}}
	signs     = []between{{"and", "&"}, {"or", "|"}, {"imp", "=>"}, {"iff", "<=>"}}
)

// of is a union, inter, minus, or one of eq to sub.
func (o between) of(a, b pair) pair { return pair{op(o.op, a, b), a.s + " " + o.sign + " " + b.s} }

// within is one of and to iff.
func (o between) within(a, b pair) pair {
	return pair{op(o.op, a, b), "(" + a.s + " " + o.sign + " " + b.s + ")"}
}

func truth(s string) pair { return pair{op(s), s} }
func is(name string) pair { return pair{api.Node{Op: "is", Name: name}, name} }
func not(k pair) pair     { return pair{op("not", k), "~" + k.s} }

func quant(s string, order int, name string, k pair) pair {
	n := api.Node{Op: s, N: order, Name: name, Kids: []api.Node{k.n}}
	return pair{n, "(" + s + strconv.Itoa(order) + " " + name + ": " + k.s + ")"}
}

func call(name string, l ...pair) pair {
	return pair{api.Node{Op: "call", Name: name, Kids: nodesOf(l)}, name + "(" + textsOf(l) + ")"}
}

var (
	x, y, A, B, C    = v("x"), v("y"), v("A"), v("B"), v("C")
	a, b, c, d       = is("a"), is("b"), is("c"), is("d")
	yes, no          = truth("true"), truth("false")
	union, cut, less = joins[0], joins[1], joins[2]
)

// wantFormula: it is shown as that, twice, and is parsed as it was.
func wantFormula(t *testing.T, want pair) {
	t.Helper()
	if !tree.IsFormula(want.n) {
		t.Fatalf("no formula: %q", want.s)
	}
	for range 2 {
		if s := show.Formula(want.n); s != want.s {
			t.Errorf("shown as %q, not %q", s, want.s)
		}
	}
	if p, _, err := parse.Parse(want.s + ";"); err != api.OK || !tree.Same(p.Main, want.n) {
		t.Errorf("%q is parsed as another one, %d", want.s, err)
	}
}

// wantTerm: likewise, on either side of a sign.
func wantTerm(t *testing.T, want pair) {
	t.Helper()
	if !tree.IsTerm(want.n) {
		t.Fatalf("no term: %q", want.s)
	}
	for range 2 {
		if s := show.Term(want.n); s != want.s {
			t.Errorf("shown as %q, not %q", s, want.s)
		}
	}
	wantFormula(t, between{"eq", "="}.of(want, want))
}

// P5.1: terms

func TestTerms(t *testing.T) {
	for _, want := range []pair{
		{x.n, "x"}, {A.n, "A"},
		{num(0).n, "0"}, {num(7).n, "7"}, {num(9).n, "9"}, {num(10).n, "10"}, {num(42).n, "42"}, {num(99).n, "99"},
		{plus("x", 1).n, "x + 1"}, {plus("y", 9).n, "y + 9"}, {plus("x", 10).n, "x + 10"}, {plus("long", 99).n, "long + 99"},
		{set().n, "{}"}, {set(x).n, "{x}"}, {set(num(0)).n, "{0}"}, {set(plus("x", 3)).n, "{x + 3}"},
		{set(x, num(12)).n, "{x, 12}"}, {set(plus("x", 3), y, plus("y", 1)).n, "{x + 3, y, y + 1}"},
		{set(num(1), num(2), num(3), num(4), num(5), num(6)).n, "{1, 2, 3, 4, 5, 6}"}, {set(num(2), num(1), num(2)).n, "{2, 1, 2}"},
		{union.of(A, B).n, "A union B"}, {cut.of(A, B).n, "A inter B"}, {less.of(A, B).n, `A \ B`},
		{union.of(less.of(A, B), C).n, `A \ B union C`}, {less.of(union.of(A, B), C).n, `A union B \ C`},
		{cut.of(less.of(union.of(A, set(num(0), plus("x", 3), v("z"))), B), set()).n, `A union {0, x + 3, z} \ B inter {}`},
		{union.of(num(1), plus("x", 2)).n, "1 union x + 2"}, {less.of(plus("x", 2), x).n, `x + 2 \ x`},
		{union.of(union.of(union.of(A, A), A), A).n, "A union A union A union A"},
	} {
		wantTerm(t, want)
	}
}

func TestAllNumbers(t *testing.T) {
	for n := range api.MaxNum + 1 {
		wantTerm(t, num(n))
		wantTerm(t, set(num(n)))
		if n > 0 {
			wantTerm(t, plus("x", n))
		}
	}
}

// terms is terms of all sorts: those that may be in a set, then sets, then
// those that may be no second one.
func terms() (parts, sets, joined []pair) {
	parts = []pair{x, num(0), num(31), plus("x", 1), plus("y", 20)}
	sets = []pair{set(), set(x), set(parts...)}
	for _, o := range joins {
		joined = append(joined, o.of(A, B), o.of(set(), num(3)), o.of(plus("x", 4), set(x, y)))
	}
	return parts, sets, joined
}

func allTerms() []pair {
	parts, sets, joined := terms()
	return slices.Concat(parts, sets, joined)
}

func TestTermsWithinTerms(t *testing.T) {
	parts, sets, joined := terms()
	for _, one := range parts {
		for count := range api.MaxParams + 1 {
			wantTerm(t, set(slices.Repeat([]pair{one}, count)...))
		}
		for _, other := range parts {
			wantTerm(t, set(one, other))
			wantTerm(t, set(other, other, one))
		}
	}
	seconds := slices.Concat(parts, sets)
	for _, o := range joins {
		for _, first := range slices.Concat(seconds, joined) {
			for _, second := range seconds {
				wantTerm(t, o.of(first, second))
				for _, above := range joins {
					wantTerm(t, above.of(o.of(first, second), C))
				}
			}
		}
	}
}

// P5.1: formulas

func TestFormulas(t *testing.T) {
	and, or, imp, iff := signs[0], signs[1], signs[2], signs[3]
	lt, in, sub := relations[2], relations[4], relations[6]
	for _, want := range []pair{
		{yes.n, "true"}, {no.n, "false"}, {a.n, "a"},
		{not(yes).n, "~true"}, {not(not(a)).n, "~~a"}, {not(not(not(no))).n, "~~~false"}, {not(lt.of(x, plus("y", 12))).n, "~x < y + 12"},
		{and.within(a, b).n, "(a & b)"}, {or.within(a, b).n, "(a | b)"}, {imp.within(a, b).n, "(a => b)"}, {iff.within(a, b).n, "(a <=> b)"},
		{or.within(yes, not(no)).n, "(true | ~false)"}, {not(and.within(a, b)).n, "~(a & b)"}, {not(not(or.within(not(a), b))).n, "~~(~a | b)"},
		{and.within(and.within(a, b), c).n, "((a & b) & c)"}, {and.within(a, and.within(b, c)).n, "(a & (b & c))"},
		{imp.within(imp.within(a, b), c).n, "((a => b) => c)"}, {imp.within(a, imp.within(b, c)).n, "(a => (b => c))"},
		{iff.within(imp.within(a, b), and.within(c, d)).n, "((a => b) <=> (c & d))"},
		{quant("ex", 0, "p", is("p")).n, "(ex0 p: p)"}, {quant("ex", 1, "x", a).n, "(ex1 x: a)"}, {quant("ex", 2, "X", a).n, "(ex2 X: a)"},
		{quant("all", 0, "p", is("p")).n, "(all0 p: p)"}, {quant("all", 1, "x", a).n, "(all1 x: a)"}, {quant("all", 2, "X", a).n, "(all2 X: a)"},
		{quant("ex", 0, "p", quant("all", 2, "X", is("p"))).n, "(ex0 p: (all2 X: p))"}, {not(quant("ex", 1, "x", not(a))).n, "~(ex1 x: ~a)"},
		{quant("ex", 1, "x", and.within(a, b)).n, "(ex1 x: (a & b))"}, {and.within(quant("ex", 1, "x", a), b).n, "((ex1 x: a) & b)"},
		{relations[0].of(num(1), num(2)).n, "1 = 2"}, {relations[1].of(num(1), num(2)).n, "1 ~= 2"}, {lt.of(num(1), num(2)).n, "1 < 2"},
		{relations[3].of(num(1), num(2)).n, "1 <= 2"}, {in.of(num(1), A).n, "1 in A"}, {relations[5].of(num(1), A).n, "1 notin A"}, {sub.of(A, B).n, "A sub B"},
		{sub.of(less.of(union.of(A, set(num(0), plus("x", 3), v("z"))), B), cut.of(set(), C)).n, `A union {0, x + 3, z} \ B sub {} inter C`},
		{call("p").n, "p()"}, {call("p", x).n, "p(x)"}, {call("p", x, set(num(3))).n, "p(x, {3})"}, {not(call("q", plus("x", 2))).n, "~q(x + 2)"},
		{call("p", num(1), plus("x", 2), A, set(), union.of(A, B), less.of(set(x, y), A)).n, `p(1, x + 2, A, {}, A union B, {x, y} \ A)`},
	} {
		wantFormula(t, want)
	}
}

// formulas is formulas of all sorts.
func formulas() []pair {
	l := []pair{yes, no, a, not(a), not(not(yes)), call("p"), call("p", x, num(3), union.of(A, set(x, plus("y", 2))))}
	for _, o := range signs {
		l = append(l, o.within(a, b), not(o.within(no, call("q"))))
	}
	for order := range 3 {
		l = append(l, quant("ex", order, "x", a), quant("all", order, "y", not(b)))
	}
	for _, o := range relations {
		l = append(l, o.of(x, A), o.of(less.of(A, B), plus("x", 5)))
	}
	return l
}

func TestFormulasWithinFormulas(t *testing.T) {
	l := formulas()
	for _, k := range l {
		wantFormula(t, k)
		wantFormula(t, not(k))
		wantFormula(t, not(not(k)))
		for order := range 3 {
			for _, s := range []string{"ex", "all"} {
				wantFormula(t, quant(s, order, "n", k))
				wantFormula(t, not(quant(s, order, "n", not(k))))
				wantFormula(t, quant("ex", 1, "m", quant(s, order, "n", k)))
				wantFormula(t, quant(s, order, "n", quant("all", 2, "n", k)))
			}
		}
	}
	for _, o := range signs {
		for _, first := range l {
			for _, second := range l {
				k := o.within(first, second)
				wantFormula(t, k)
				for _, above := range signs {
					wantFormula(t, above.within(k, a))
					wantFormula(t, above.within(a, k))
				}
			}
		}
	}
}

func TestRelations(t *testing.T) {
	l := allTerms()
	for _, o := range relations {
		for _, first := range l {
			for _, second := range l {
				wantFormula(t, o.of(first, second))
			}
		}
	}
}

func TestCalls(t *testing.T) {
	l := allTerms()
	for _, one := range l {
		for count := range api.MaxParams + 1 {
			wantFormula(t, call("p", slices.Repeat([]pair{one}, count)...))
		}
		for _, other := range l {
			wantFormula(t, call("q", one, other))
			wantFormula(t, call("r", other, other, one))
		}
	}
}

// names is names with each rune that a name may begin with, and each that it
// may have behind it, and long ones.
func names() []string {
	l := []string{"x", "X1", "_", "a_b", "x'", "x''", "_'0", "α", "ω9'", "aβ_Z'5", "in'", "true1", "var", "ex", "ex3", "union_", "q0", "abcdefghijkl", strings.Repeat("ω", api.MaxName), "λ'''''''''''"}
	for r := range rune(0x500) {
		switch class := runes.Class(r); {
		case class == api.Letter:
			l = append(l, string(r), "z"+string(r))
		case class == api.Digit, r == '\'':
			l = append(l, "z"+string(r), "z"+string(r)+"β")
		}
	}
	return l
}

func TestNames(t *testing.T) {
	for _, name := range names() {
		wantTerm(t, v(name))
		wantTerm(t, plus(name, 5))
		wantTerm(t, set(v(name), plus(name, 5)))
		wantFormula(t, is(name))
		wantFormula(t, not(is(name)))
		wantFormula(t, quant("ex", 1, name, is(name)))
		wantFormula(t, quant("all", 2, name, is(name)))
		wantFormula(t, call(name))
		wantFormula(t, call(name, v(name)))
		wantProg(t, "var1 "+name+";\npred "+name+"(var2 "+name+") = "+name+";\n"+name+";\n", api.Prog{
			Decls: []api.Decl{decl(name, 1)}, Preds: []api.Pred{{Name: name, Params: []api.Decl{decl(name, 2)}, Body: is(name).n}}, Main: is(name).n,
		})
	}
}

// P5.2: programs

func decl(name string, order int) api.Decl { return api.Decl{Name: name, Order: order} }

// wantProg: it is shown as that, twice, and is parsed as it was.
func wantProg(t *testing.T, want string, p api.Prog) {
	t.Helper()
	if !tree.Is(p) {
		t.Fatalf("no program: %q", want)
	}
	for range 2 {
		if s := show.Prog(p); s != want {
			t.Errorf("shown as %q, not %q", s, want)
		}
	}
	q, _, err := parse.Parse(want)
	if err != api.OK || !tree.SameProg(q, p) {
		t.Errorf("%q is parsed as another one, %d", want, err)
	}
	if s := show.Prog(q); s != want {
		t.Errorf("%q is shown as %q then", want, s)
	}
}

func TestDecls(t *testing.T) {
	one := func(l ...api.Decl) api.Prog { return api.Prog{Decls: l, Main: a.n} }
	wantProg(t, "a;\n", one())
	wantProg(t, "var0 x;\na;\n", one(decl("x", 0)))
	wantProg(t, "var1 x;\na;\n", one(decl("x", 1)))
	wantProg(t, "var2 X;\na;\n", one(decl("X", 2)))
	wantProg(t, "var1 x;\nvar1 y;\nvar1 x;\na;\n", one(decl("x", 1), decl("y", 1), decl("x", 1)))
	for i := range 3 {
		for j := range 3 {
			for k := range 3 {
				want := "var" + strconv.Itoa(i) + " x;\nvar" + strconv.Itoa(j) + " yy;\nvar" + strconv.Itoa(k) + " z;\na;\n"
				wantProg(t, want, one(decl("x", i), decl("yy", j), decl("z", k)))
			}
		}
	}
}

func TestPreds(t *testing.T) {
	one := func(l ...api.Decl) api.Prog {
		return api.Prog{Preds: []api.Pred{{Name: "p", Params: l, Body: yes.n}}, Main: no.n}
	}
	wantProg(t, "pred p() = true;\nfalse;\n", one())
	wantProg(t, "pred p(var0 x) = true;\nfalse;\n", one(decl("x", 0)))
	wantProg(t, "pred p(var1 x) = true;\nfalse;\n", one(decl("x", 1)))
	wantProg(t, "pred p(var2 x) = true;\nfalse;\n", one(decl("x", 2)))
	for i := range 3 {
		for j := range 3 {
			want := "pred p(var" + strconv.Itoa(i) + " x, var" + strconv.Itoa(j) + " y) = true;\nfalse;\n"
			wantProg(t, want, one(decl("x", i), decl("y", j)))
		}
	}
	wantProg(t, "pred p(var0 a, var1 b, var2 c, var2 d, var1 e, var0 f) = true;\nfalse;\n",
		one(decl("a", 0), decl("b", 1), decl("c", 2), decl("d", 2), decl("e", 1), decl("f", 0)))
	// Each its own, in order.
	wantProg(t, "pred p() = a;\npred q(var1 x) = b;\npred p() = ~c;\n~~d;\n", api.Prog{
		Preds: []api.Pred{{Name: "p", Body: a.n}, {Name: "q", Params: []api.Decl{decl("x", 1)}, Body: b.n}, {Name: "p", Body: not(c).n}}, Main: not(not(d)).n,
	})
}

func TestDeclsPredsAndMain(t *testing.T) {
	wantProg(t, "var0 q;\nvar1 x;\npred p(var2 A, var1 b) = b in A;\npred r() = z;\n~q;\n", api.Prog{
		Decls: []api.Decl{decl("q", 0), decl("x", 1)},
		Preds: []api.Pred{{Name: "p", Params: []api.Decl{decl("A", 2), decl("b", 1)}, Body: relations[4].of(v("b"), A).n}, {Name: "r", Body: is("z").n}},
		Main:  not(is("q")).n,
	})
	for _, k := range formulas() {
		p := api.Prog{Decls: []api.Decl{decl("x", 1)}, Preds: []api.Pred{{Name: "p", Body: k.n}, {Name: "q", Body: no.n}}, Main: k.n}
		wantProg(t, "var1 x;\npred p() = "+k.s+";\npred q() = false;\n"+k.s+";\n", p)
	}
	// The Decls stand first, wherever they were.
	p, _, err := parse.Parse("pred p() = true; var1 x, y; pred q() = p(); var2 X; x in X;")
	if s := show.Prog(p); err != api.OK || s != "var1 x;\nvar1 y;\nvar2 X;\npred p() = true;\npred q() = p();\nx in X;\n" {
		t.Errorf("%q, %d", s, err)
	}
}

// TestManyDeclsAndPreds: no bound is told of how many they are.
func TestManyDeclsAndPreds(t *testing.T) {
	const count = 20000
	p := api.Prog{Decls: slices.Repeat([]api.Decl{decl("x", 1)}, count), Preds: slices.Repeat([]api.Pred{{Name: "p", Body: a.n}}, count), Main: b.n}
	if show.Prog(p) != strings.Repeat("var1 x;\n", count)+strings.Repeat("pred p() = a;\n", count)+"b;\n" {
		t.Error("many")
	}
}

// W1: what is none

// node is any node, of a formula or not.
func node(o, name string, n int, kids ...api.Node) api.Node {
	return api.Node{Op: o, Name: name, N: n, Kids: kids}
}

// wantEnd: all calls end, and answer the same again.
func wantEnd(t *testing.T, n api.Node) {
	t.Helper()
	p := api.Prog{Decls: []api.Decl{{}, decl("\xff;", -3)}, Preds: []api.Pred{{Params: []api.Decl{{}}, Body: n}}, Main: n}
	if show.Term(n) != show.Term(n) || show.Formula(n) != show.Formula(n) || show.Prog(p) != show.Prog(p) {
		t.Error("another answer")
	}
}

func TestWhatIsNone(t *testing.T) {
	ops := strings.Fields("true false not and or imp iff ex all is eq ne lt le in notin sub call var num plus set union inter minus xor Not")
	kids := []api.Node{{}, yes.n, a.n, x.n, num(1).n, plus("x", 1).n, set(x).n, union.of(A, B).n, node("not", "", 0), node("plus", "", 0)}
	for _, o := range append(ops, "") {
		for _, name := range []string{"", "x", "in", "\xff\x00;", strings.Repeat("x", 5000)} {
			for _, n := range []int{0, 3, -1, math.MinInt, math.MaxInt} {
				wantEnd(t, node(o, name, n))
				for _, k := range kids {
					wantEnd(t, node(o, name, n, k))
					wantEnd(t, node("not", "", 0, node(o, name, n, a.n, k)))
					wantEnd(t, node(o, name, n, k, k, k))
				}
				wantEnd(t, node(o, name, n, kids...))
			}
		}
	}
	if s := show.Prog(api.Prog{}); s != show.Prog(api.Prog{Decls: []api.Decl{}, Preds: []api.Pred{}}) {
		t.Errorf("%q", s)
	}
}

func TestGreatTrees(t *testing.T) {
	for _, o := range []string{"not", "and", "ex", "call", "set", "union", "eq"} {
		deep, doubled := yes.n, x.n
		for range 1 << 15 {
			deep = node(o, "x", 1, deep)
		}
		for range 5000 {
			l := []api.Node{doubled}
			doubled = node(o, "x", 1, l[0], l[0])
		}
		own := make([]api.Node, 2)
		own[0], own[1] = node(o, "x", 1, own...), node(o, "x", 1, own...)
		for _, n := range []api.Node{deep, doubled, node(o, "x", 1, own...), node(o, "x", 1, slices.Repeat([]api.Node{x.n}, 100000)...)} {
			wantEnd(t, n)
		}
	}
}

// W6, W7

// sample has nodes of many sorts.
func sample() pair {
	term := less.of(union.of(A, set(num(1), plus("x", 3))), B)
	return quant("ex", 1, "x", signs[0].within(relations[4].of(plus("x", 3), term), signs[2].within(not(a), call("p", x, term))))
}

// roomy is the node with spare room behind each list of kids, all of it filled.
func roomy(n api.Node) api.Node {
	l := make([]api.Node, 0, len(n.Kids)+2)
	for _, k := range n.Kids {
		l = append(l, roomy(k))
	}
	n.Kids = append(l, is("spare").n, is("room").n)[:len(l)]
	return n
}

// whole is a node with its lists' spare room as kids.
func whole(n api.Node) api.Node {
	var l []api.Node
	for _, k := range n.Kids[:cap(n.Kids)] {
		l = append(l, whole(k))
	}
	n.Kids = l
	return n
}

func TestNothingIsChanged(t *testing.T) {
	for _, k := range append(formulas(), sample(), union.of(less.of(A, set(x, y)), B)) {
		n := roomy(k.n)
		p := api.Prog{Decls: []api.Decl{decl("x", 1), decl("spare", 0)}[:1], Preds: []api.Pred{
			{Name: "p", Params: []api.Decl{decl("y", 2), decl("room", 0)}[:1], Body: n}, {Name: "spare"},
		}[:1], Main: n}
		show.Term(n)
		show.Formula(n)
		show.Prog(p)
		if !reflect.DeepEqual(whole(n), whole(roomy(k.n))) {
			t.Errorf("%q is changed", k.s)
		}
		decls, preds := p.Decls[:2], p.Preds[:2]
		if !slices.Equal(decls, []api.Decl{decl("x", 1), decl("spare", 0)}) || preds[0].Name != "p" || len(preds[0].Params) != 1 || !reflect.DeepEqual(preds[1], api.Pred{Name: "spare"}) {
			t.Errorf("the program of %q is changed", k.s)
		}
		if !slices.Equal(preds[0].Params[:2], []api.Decl{decl("y", 2), decl("room", 0)}) {
			t.Errorf("the Params of %q are changed", k.s)
		}
	}
}

// TestAnswersStay: what is shown stays when what was handed in changes, and when another is shown.
func TestAnswersStay(t *testing.T) {
	k := sample()
	n := roomy(k.n)
	p := api.Prog{Decls: []api.Decl{decl("x", 1)}, Main: n}
	first, whole := show.Formula(n), show.Prog(p)
	n.Kids[0], p.Decls[0].Name = yes.n, "other"
	show.Formula(n)
	show.Prog(p)
	if first != k.s || whole != "var1 x;\n"+k.s+";\n" {
		t.Errorf("%q, %q", first, whole)
	}
}

// moved is a node with other places.
func moved(n api.Node, at int) api.Node {
	n.At = at
	l := slices.Clone(n.Kids)
	for i, k := range l {
		l[i] = moved(k, 7*at+i)
	}
	n.Kids = l
	return n
}

func TestPlacesDoNotMatter(t *testing.T) {
	for _, at := range []int{-5, 1, 1000000} {
		k := sample()
		n := moved(k.n, at)
		p := api.Prog{Decls: []api.Decl{{Name: "x", Order: 1, At: at}}, Preds: []api.Pred{{Name: "p", Params: []api.Decl{{Name: "X", Order: 2, At: at}}, Body: n, At: at}}, Main: n}
		if s := show.Formula(n); s != k.s {
			t.Errorf("%q, not %q", s, k.s)
		}
		if s, want := show.Prog(p), "var1 x;\npred p(var2 X) = "+k.s+";\n"+k.s+";\n"; s != want {
			t.Errorf("%q, not %q", s, want)
		}
	}
}
