package tree_test

import (
	"math"
	"reflect"
	"slices"
	"strings"
	"testing"

	"sibyl/api"
	"sibyl/tree"
)

func v(name string) api.Node                   { return api.Node{Op: "var", Name: name} }
func num(n int) api.Node                       { return api.Node{Op: "num", N: n} }
func plus(n int, kids ...api.Node) api.Node    { return api.Node{Op: "plus", N: n, Kids: kids} }
func op(s string, kids ...api.Node) api.Node   { return api.Node{Op: s, Kids: kids} }
func is(name string) api.Node                  { return api.Node{Op: "is", Name: name} }
func call(name string, l ...api.Node) api.Node { return api.Node{Op: "call", Name: name, Kids: l} }

func quant(s string, order int, name string, kids ...api.Node) api.Node {
	return api.Node{Op: s, Name: name, N: order, Kids: kids}
}

var (
	yes   = op("true")
	x     = v("x")
	union = op("union", v("A"), v("B"))
	inter = op("inter", v("A"), v("B"))
	minus = op("minus", v("A"), v("B"))
	set   = op("set", num(1), x)
)

// times is a node so many times.
func times(n api.Node, count int) []api.Node { return slices.Repeat([]api.Node{n}, count) }

// nots is true within so many nots.
func nots(count int) api.Node {
	n := yes
	for range count {
		n = op("not", n)
	}
	return n
}

// unions is a var as the left one of so many unions.
func unions(count int) api.Node {
	n := x
	for range count {
		n = op("union", n, set)
	}
	return n
}

// ands is so many trues, in ands as level as can be.
func ands(leaves int) api.Node {
	if leaves == 1 {
		return yes
	}
	return op("and", ands(leaves/2), ands(leaves-leaves/2))
}

// shared is ands of so many levels, both kids of each of them in one memory.
func shared(leaf api.Node, levels int) api.Node {
	for range levels {
		leaf = op("and", leaf, leaf)
	}
	return leaf
}

// wantFormula, wantTerm, wantNone: what the node is, asked of a program too.

func wantFormula(t *testing.T, n api.Node) {
	t.Helper()
	inPred := api.Prog{Preds: []api.Pred{{Name: "p", Body: n}}, Main: yes}
	if !tree.IsFormula(n) || tree.IsTerm(n) || !tree.Is(api.Prog{Main: n}) || !tree.Is(inPred) {
		t.Errorf("no formula, or a term: %+v", n)
	}
}

func wantTerm(t *testing.T, n api.Node) {
	t.Helper()
	if !tree.IsTerm(n) {
		t.Errorf("no term: %+v", n)
	}
	wantNoFormula(t, n)
}

func wantNoFormula(t *testing.T, n api.Node) {
	t.Helper()
	inPred := api.Prog{Preds: []api.Pred{{Name: "p", Body: n}}, Main: yes}
	if tree.IsFormula(n) || tree.Is(api.Prog{Main: n}) || tree.Is(inPred) {
		t.Errorf("a formula: %+v", n)
	}
}

func wantNone(t *testing.T, n api.Node) {
	t.Helper()
	if tree.IsTerm(n) {
		t.Errorf("a term: %+v", n)
	}
	wantNoFormula(t, n)
}

// P3.1: formulas

func TestFormulas(t *testing.T) {
	for _, n := range []api.Node{
		yes, op("false"), op("not", yes), op("not", is("a")),
		op("and", yes, is("a")), op("or", yes, yes), op("imp", is("a"), is("b")), op("iff", op("not", yes), yes),
		quant("ex", 0, "x", yes), quant("ex", 1, "x", yes), quant("ex", 2, "x", yes),
		quant("all", 0, "x", is("x")), quant("all", 1, "x", yes), quant("all", 2, "x", yes),
		is("x"), op("eq", x, x), op("ne", num(0), x), op("lt", plus(1, x), num(99)), op("le", x, x),
		op("in", x, union), op("notin", x, set), op("sub", minus, inter),
		call("p"), call("p", x), call("p", times(union, api.MaxParams)...),
		// What is a set, a number or true is of no weight here.
		op("in", set, num(0)), op("lt", union, set),
	} {
		wantFormula(t, n)
	}
}

func TestFormulasWithKidsTheyDoNotHave(t *testing.T) {
	for _, n := range []api.Node{
		op("true", yes), op("true", x), op("false", yes), op("not"), op("not", yes, yes),
		op("and"), op("and", yes), op("and", yes, yes, yes), op("or", yes), op("or", yes, yes, yes),
		op("imp", yes), op("imp", yes, yes, yes), op("iff", yes), op("iff", yes, yes, yes),
		quant("ex", 1, "x"), quant("ex", 1, "x", yes, yes), quant("all", 1, "x"), quant("all", 1, "x", yes, yes),
		{Op: "is", Name: "x", Kids: []api.Node{x}}, {Op: "is", Name: "x", Kids: []api.Node{yes}},
		call("p", times(x, api.MaxParams+1)...),
		// A term where a formula stands.
		op("not", x), op("and", x, yes), op("and", yes, x), op("or", yes, num(1)), op("imp", set, yes),
		op("iff", yes, union), quant("ex", 1, "x", x), quant("all", 2, "x", set),
		call("p", yes), call("p", x, is("a")), call("p", x, call("q")),
		// What is neither.
		op("not", api.Node{}), op("and", yes, op("nor", yes, yes)), call("p", api.Node{}),
	} {
		wantNone(t, n)
	}
	for _, rel := range []string{"eq", "ne", "lt", "le", "in", "notin", "sub"} {
		wantFormula(t, op(rel, x, set))
		for _, kids := range [][]api.Node{nil, {x}, {x, x, x}, {yes, x}, {x, yes}, {x, is("x")}, {x, {}}} {
			wantNone(t, op(rel, kids...))
		}
	}
}

func TestFormulasWithWhatTheyDoNotHave(t *testing.T) {
	for _, good := range []api.Node{
		yes, op("false"), op("not", yes), op("and", yes, yes), op("or", yes, yes), op("imp", yes, yes), op("iff", yes, yes),
		op("eq", x, x), op("ne", x, x), op("lt", x, x), op("le", x, x), op("in", x, x), op("notin", x, x), op("sub", x, x),
	} {
		wantFormula(t, good)
		for _, n := range []int{-1, 1, 2, math.MaxInt, math.MinInt} {
			bad := good
			bad.N = n
			wantNone(t, bad)
		}
		for _, name := range []string{"x", "true", " ", "\x00", "\xff"} {
			bad := good
			bad.Name = name
			wantNone(t, bad)
		}
	}
	for _, good := range []api.Node{is("x"), call("p"), call("p", x)} {
		for _, n := range []int{-1, 1, 2} {
			bad := good
			bad.N = n
			wantNone(t, bad)
		}
	}
}

func TestOrdersOfQuantifiers(t *testing.T) {
	for _, s := range []string{"ex", "all"} {
		for order := -2; order <= 5; order++ {
			if n := quant(s, order, "x", yes); 0 <= order && order <= 2 {
				wantFormula(t, n)
			} else {
				wantNone(t, n)
			}
		}
		wantNone(t, quant(s, math.MaxInt, "x", yes))
		wantNone(t, quant(s, math.MinInt, "x", yes))
	}
}

func TestOpsThatThereAreNot(t *testing.T) {
	for _, s := range []string{"", "xor", "True", " true", "true ", "~", "ex1", "pred", "set ", "VAR", "number", "\xff", "τ", strings.Repeat("not", 1000)} {
		for _, kids := range [][]api.Node{nil, {yes}, {yes, yes}, {x}, {x, x}} {
			wantNone(t, op(s, kids...))
			wantNone(t, api.Node{Op: s, Name: "x", Kids: kids})
			wantNone(t, api.Node{Op: s, N: 1, Kids: kids})
		}
	}
}

// P3.1: terms

func TestTerms(t *testing.T) {
	for _, n := range []api.Node{
		x, num(0), num(1), num(api.MaxNum), plus(1, x), plus(api.MaxNum, x),
		op("set"), op("set", num(0)), op("set", x, num(1), plus(2, x)), op("set", times(num(7), api.MaxParams)...),
		union, inter, minus, op("union", union, x), op("inter", minus, set), op("minus", set, set),
		op("union", op("inter", op("minus", x, num(1)), plus(1, x)), set),
	} {
		wantTerm(t, n)
	}
}

func TestNumbersOfTerms(t *testing.T) {
	for n := -3; n <= api.MaxNum+3; n++ {
		if 0 <= n && n <= api.MaxNum {
			wantTerm(t, num(n))
		} else {
			wantNone(t, num(n))
		}
		if 1 <= n && n <= api.MaxNum {
			wantTerm(t, plus(n, x))
		} else {
			wantNone(t, plus(n, x))
		}
	}
	for _, n := range []int{math.MaxInt, math.MinInt, 1 << 32} {
		wantNone(t, num(n))
		wantNone(t, plus(n, x))
		wantNone(t, api.Node{Op: "var", Name: "x", N: n})
	}
}

func TestTermsWithWhatTheyDoNotHave(t *testing.T) {
	for _, n := range []api.Node{
		op("var"), {Op: "var", Name: "x", N: 1}, {Op: "var", Name: "x", N: -1},
		{Op: "var", Name: "x", Kids: []api.Node{x}},
		{Op: "num", N: 1, Name: "x"}, {Op: "num", N: 1, Kids: []api.Node{x}}, {Op: "num", Kids: []api.Node{num(0)}},
		{Op: "plus", Name: "x", N: 1}, {Op: "plus", Name: "x", N: 1, Kids: []api.Node{x}},
		{Op: "set", Name: "x"}, {Op: "set", N: 1}, {Op: "set", N: -1, Kids: []api.Node{num(1)}},
	} {
		wantNone(t, n)
	}
	for _, s := range []string{"union", "inter", "minus"} {
		wantTerm(t, op(s, x, x))
		for _, bad := range []api.Node{
			op(s), op(s, x), op(s, x, x, x), op(s, x, yes), op(s, yes, x), op(s, x, api.Node{}), op(s, is("x"), x),
			{Op: s, Name: "x", Kids: []api.Node{x, x}}, {Op: s, N: 1, Kids: []api.Node{x, x}}, {Op: s, N: -1, Kids: []api.Node{x, x}},
		} {
			wantNone(t, bad)
		}
	}
}

func TestPlusIsOfAVar(t *testing.T) {
	for _, kid := range []api.Node{num(1), plus(1, x), set, op("set"), union, inter, minus, yes, is("x"), {}, v(""), v("in"), {Op: "var", Name: "x", N: 1}} {
		wantNone(t, plus(1, kid))
		wantNone(t, plus(1, x, kid))
		wantNone(t, plus(1, kid, x))
	}
	wantNone(t, plus(1))
	wantNone(t, plus(1, x, x))
}

func TestWhatIsInASet(t *testing.T) {
	for _, kid := range []api.Node{op("set"), set, union, inter, minus, yes, is("x"), {}, num(-1), num(100), v(""), plus(0, x), plus(1, num(1))} {
		wantNone(t, op("set", kid))
		wantNone(t, op("set", x, kid))
		wantNone(t, op("set", kid, x))
	}
	for count := range api.MaxParams + 4 {
		if n := op("set", times(x, count)...); count <= api.MaxParams {
			wantTerm(t, n)
		} else {
			wantNone(t, n)
		}
		if n := call("p", times(x, count)...); count <= api.MaxParams {
			wantFormula(t, n)
		} else {
			wantNone(t, n)
		}
	}
}

func TestSecondOfTwoSets(t *testing.T) {
	for _, s := range []string{"union", "inter", "minus"} {
		for _, join := range []api.Node{union, inter, minus} {
			wantTerm(t, op(s, join, x))
			wantNone(t, op(s, x, join))
			wantNone(t, op(s, join, join))
		}
		for _, n := range []api.Node{x, num(3), plus(3, x), set, op("set")} {
			wantTerm(t, op(s, n, n))
		}
	}
}

// P3.1: names

var goodNames = []string{
	"x", "X", "_", "x'", "a1", "x''9", "true1", "ex", "ex3", "var", "var3", "True", "IN", "minus", "not", "αβ", "λ9", "_1",
	"abcdefghijkl", "αβγδεζηθικλμ", "_'''''''''''",
}

var badNames = []string{
	"", " ", "9", "9a", "'", "'x", "a b", "x y", " x", "x ", "x\n", "\tx", "x#", "x#y", "x #y", "#x", "#\nx", "#y\nx", "x\n#",
	"true", "false", "ex0", "ex1", "ex2", "all0", "all1", "all2", "var0", "var1", "var2", "pred", "in", "notin", "sub", "union", "inter",
	"abcdefghijklm", "αβγδεζηθικλμν", "x+", "+", "x+1", "(x)", "x,y", "x;", "x~", "x=x", "x.y", "x-y", "ñ", "ж", "世", "x\x00", "\x00",
	"\xff", "x\xff", "\xffx", "\xce", "α\xce", "x\xed\xa0\x80", "\ufeffx", "x\ufffd",
}

// named is every sort of node that has a name, with that name.
func named(name string) (formulas, terms []api.Node) {
	formulas = []api.Node{is(name), call(name), call(name, x), quant("ex", 0, name, yes), quant("all", 2, name, yes)}
	return append(formulas, op("eq", v(name), x), op("not", is(name))), []api.Node{v(name), plus(1, v(name)), op("set", v(name)), op("union", v(name), x), op("union", x, v(name))}
}

func TestNames(t *testing.T) {
	for _, name := range goodNames {
		formulas, terms := named(name)
		for _, n := range formulas {
			wantFormula(t, n)
		}
		for _, n := range terms {
			wantTerm(t, n)
		}
	}
	long := []string{strings.Repeat("x", api.MaxText), strings.Repeat("x", api.MaxText+1), strings.Repeat(" ", api.MaxText) + "x", strings.Repeat("\xff", 1<<20)}
	for _, name := range slices.Concat(badNames, long) {
		formulas, terms := named(name)
		for _, n := range slices.Concat(formulas, terms) {
			wantNone(t, n)
		}
	}
}

// P3.1: At is anything

func TestAtOfAnyValue(t *testing.T) {
	for _, at := range []int{-1, 0, 1, math.MaxInt, math.MinInt} {
		for _, s := range []string{"true", "false"} {
			wantFormula(t, api.Node{Op: s, At: at})
		}
		kid := api.Node{Op: "var", Name: "x", At: at}
		wantFormula(t, api.Node{Op: "eq", At: at, Kids: []api.Node{kid, {Op: "plus", N: 1, At: at, Kids: []api.Node{kid}}}})
		wantTerm(t, api.Node{Op: "union", At: at, Kids: []api.Node{{Op: "num", At: at}, {Op: "set", At: at, Kids: []api.Node{kid}}}})
		d := []api.Decl{{Name: "a", At: at}}
		if !tree.Is(api.Prog{Decls: d, Preds: []api.Pred{{Name: "p", Params: d, Body: yes, At: at}}, Main: yes}) {
			t.Error("no program at", at)
		}
	}
}

// P3.1: Depth and Size

func TestDepthOfFormulasAndTerms(t *testing.T) {
	wantFormula(t, nots(api.MaxDepth-1))
	wantNone(t, nots(api.MaxDepth))
	wantTerm(t, unions(api.MaxDepth-2)) // the sets' numbers are one further down
	wantNone(t, op("union", unions(api.MaxDepth-1), x))
	wantNone(t, unions(api.MaxDepth))
	// A formula's terms are of its depth.
	lift := func(n api.Node, count int) api.Node {
		for range count {
			n = quant("ex", 1, "x", n)
		}
		return n
	}
	wantFormula(t, lift(op("eq", x, plus(1, x)), api.MaxDepth-3))
	wantNone(t, lift(op("eq", x, plus(1, x)), api.MaxDepth-2))
	wantFormula(t, lift(op("eq", x, x), api.MaxDepth-2))
	wantNone(t, lift(op("eq", x, x), api.MaxDepth-1))
	// The deepest way may be any.
	wantFormula(t, op("or", yes, nots(api.MaxDepth-2)))
	wantNone(t, op("or", yes, nots(api.MaxDepth-1)))
	wantNone(t, op("or", nots(api.MaxDepth-1), yes))
}

func TestSizeOfFormulasAndTerms(t *testing.T) {
	wantFormula(t, ands(api.MaxSize/2))
	wantFormula(t, op("not", ands(api.MaxSize/2)))
	wantNone(t, ands(api.MaxSize/2+1))
	wantNone(t, op("not", op("not", ands(api.MaxSize/2))))
	// Terms count: 199 calls of 9 nodes, the ands between them, and what is missing.
	calls := ands(199)
	var fill func(n api.Node) api.Node
	fill = func(n api.Node) api.Node {
		if n.Op == "true" {
			return call("p", set, set, x, x)
		}
		return op("and", fill(n.Kids[0]), fill(n.Kids[1]))
	}
	calls = fill(calls) // 199 * 9 + 198
	for tree.Size(calls) < api.MaxSize {
		wantFormula(t, calls)
		calls = op("not", calls)
	}
	wantFormula(t, calls)
	wantNone(t, op("not", calls))
	// As terms have no more than six parts, a term of so many nodes is too deep as well.
	wantNone(t, unions(api.MaxSize))
}

// P3.1: every Op with every name, number and kids, against the document's list

// has is what an Op has: its sort (f, t), a name, N from and to, kids from and to, their sort.
type has struct {
	ops   string
	sort  byte
	named bool
	n     [2]int
	kids  [2]int
	of    byte
}

var list = []has{
	{"true false", 'f', false, [2]int{0, 0}, [2]int{0, 0}, ' '},
	{"not", 'f', false, [2]int{0, 0}, [2]int{1, 1}, 'f'},
	{"and or imp iff", 'f', false, [2]int{0, 0}, [2]int{2, 2}, 'f'},
	{"ex all", 'f', true, [2]int{0, 2}, [2]int{1, 1}, 'f'},
	{"is", 'f', true, [2]int{0, 0}, [2]int{0, 0}, ' '},
	{"eq ne lt le in notin sub", 'f', false, [2]int{0, 0}, [2]int{2, 2}, 't'},
	{"call", 'f', true, [2]int{0, 0}, [2]int{0, 6}, 't'},
	{"var", 't', true, [2]int{0, 0}, [2]int{0, 0}, ' '},
	{"num", 't', false, [2]int{0, 99}, [2]int{0, 0}, ' '},
	{"plus", 't', false, [2]int{1, 99}, [2]int{1, 1}, 'v'},
	{"set", 't', false, [2]int{0, 0}, [2]int{0, 6}, 'n'},
	{"union inter minus", 't', false, [2]int{0, 0}, [2]int{2, 2}, '2'},
}

// palette is kids, and of which sorts they are: of formulas, of terms, of vars, of what may be in a set.
var palette = []struct {
	n     api.Node
	sorts string
}{
	{yes, "f"}, {is("a"), "f"}, {x, "tvn"}, {num(1), "tn"}, {plus(1, x), "tn"}, {set, "t"},
	{union, "t"}, {inter, "t"}, {minus, "t"}, {api.Node{}, ""},
}

// kidsOf is the palette's kids of these numbers, and whether they are of a sort.
func kidsOf(l []int) (kids []api.Node, are func(sort byte) bool) {
	for _, i := range l {
		kids = append(kids, palette[i].n)
	}
	return kids, func(sort byte) bool {
		for place, i := range l {
			s := palette[i].sorts
			switch {
			case sort == '2' && (!strings.Contains(s, "t") || place == 1 && 6 <= i && i <= 8):
				return false
			case sort != '2' && !strings.Contains(s, string(sort)):
				return false
			}
		}
		return true
	}
}

func TestAllOpsWithAllOfIt(t *testing.T) {
	kids := [][]int{nil}
	for i := range palette {
		kids = append(kids, []int{i})
		for j := range palette {
			kids = append(kids, []int{i, j})
		}
		for _, count := range []int{3, 6, 7} {
			kids = append(kids, slices.Repeat([]int{i}, count))
		}
	}
	check := func(o string, h has, l []int) {
		nodes, are := kidsOf(l)
		for _, name := range []string{"", "x", "in"} {
			for _, n := range []int{-1, 0, 1, 2, 3, 99, 100} {
				may := (name == "x") == h.named && name != "in" && h.n[0] <= n && n <= h.n[1] && h.kids[0] <= len(l) && len(l) <= h.kids[1] && are(h.of)
				node := api.Node{Op: o, Name: name, N: n, Kids: nodes}
				if tree.IsFormula(node) != (may && h.sort == 'f') || tree.IsTerm(node) != (may && h.sort == 't') {
					t.Errorf("formula %v, term %v, may be %v: %+v", tree.IsFormula(node), tree.IsTerm(node), may, node)
				}
			}
		}
	}
	for _, h := range list {
		for _, o := range strings.Fields(h.ops) {
			for _, l := range kids {
				check(o, h, l)
			}
		}
	}
}

// P3.1: programs

func decl(name string, order int) api.Decl { return api.Decl{Name: name, Order: order} }

func prog() api.Prog {
	return api.Prog{
		Decls: []api.Decl{decl("a", 0), decl("x", 1), decl("X", 2)},
		Preds: []api.Pred{
			{Name: "p", Params: []api.Decl{decl("b", 0), decl("y", 1)}, Body: op("and", is("b"), op("eq", v("y"), num(1)))},
			{Name: "q", Body: is("a")},
		},
		Main: op("or", call("p", v("a"), x), call("q")),
	}
}

func TestPrograms(t *testing.T) {
	if !tree.Is(prog()) || !tree.Is(api.Prog{Main: yes}) || !tree.Is(api.Prog{Decls: []api.Decl{}, Preds: []api.Pred{}, Main: yes}) {
		t.Error("no program")
	}
	if tree.Is(api.Prog{}) || tree.Is(api.Prog{Decls: []api.Decl{decl("x", 1)}}) {
		t.Error("a program without a formula")
	}
	// The same names twice, and names that are not there.
	twice := api.Prog{
		Decls: []api.Decl{decl("x", 1), decl("x", 1), decl("x", 2)},
		Preds: []api.Pred{{Name: "x", Params: []api.Decl{decl("x", 1), decl("x", 1)}, Body: call("x")}, {Name: "x", Body: call("none", x)}},
		Main:  is("none"),
	}
	if !tree.Is(twice) {
		t.Error("names twice")
	}
	if !tree.Is(api.Prog{Decls: slices.Repeat([]api.Decl{decl("x", 1)}, 5000), Preds: slices.Repeat([]api.Pred{{Name: "p", Body: yes}}, 5000), Main: yes}) {
		t.Error("many Decls and Preds")
	}
}

// places is the program's Decls and Params.
func places(p *api.Prog) []*api.Decl {
	return []*api.Decl{&p.Decls[0], &p.Decls[1], &p.Decls[2], &p.Preds[0].Params[0], &p.Preds[0].Params[1]}
}

func TestNamesAndOrdersOfPrograms(t *testing.T) {
	for i := range 5 {
		for _, name := range slices.Concat(goodNames, badNames) {
			p := prog()
			places(&p)[i].Name = name
			if tree.Is(p) != slices.Contains(goodNames, name) {
				t.Errorf("%d, %q: %v", i, name, tree.Is(p))
			}
		}
		for _, order := range []int{-1, 0, 1, 2, 3, math.MaxInt, math.MinInt} {
			p := prog()
			places(&p)[i].Order = order
			if tree.Is(p) != (0 <= order && order <= 2) {
				t.Errorf("%d, order %d: %v", i, order, tree.Is(p))
			}
		}
	}
	for i := range 2 {
		for _, name := range slices.Concat(goodNames, badNames) {
			p := prog()
			p.Preds[i].Name = name
			if tree.Is(p) != slices.Contains(goodNames, name) {
				t.Errorf("pred %d, %q: %v", i, name, tree.Is(p))
			}
		}
	}
}

func TestParamsOfPrograms(t *testing.T) {
	for count := range api.MaxParams + 4 {
		for i := range 2 {
			p := prog()
			p.Preds[i].Params = slices.Repeat([]api.Decl{decl("x", 1)}, count)
			if tree.Is(p) != (count <= api.MaxParams) {
				t.Error(i, count)
			}
		}
	}
}

func TestFormulasOfPrograms(t *testing.T) {
	for _, n := range []api.Node{{}, x, num(1), set, union, op("not", x), op("xor", yes, yes), nots(api.MaxDepth), ands(api.MaxSize/2 + 1)} {
		for i := range 3 {
			p := prog()
			*[]*api.Node{&p.Preds[0].Body, &p.Preds[1].Body, &p.Main}[i] = n
			if tree.Is(p) {
				t.Error(i, tree.Size(n))
			}
		}
	}
	// The bounds are those of each formula, not of all of them.
	p := prog()
	p.Preds[0].Body, p.Preds[1].Body, p.Main = ands(api.MaxSize/2), nots(api.MaxDepth-1), ands(api.MaxSize/2)
	if !tree.Is(p) {
		t.Error("three great formulas")
	}
}

// P3.2: Same

// sample has nodes of many sorts, and kids at several depths.
func sample() api.Node {
	return quant("ex", 1, "x", op("and",
		op("in", plus(3, v("x")), op("minus", v("A"), op("set", num(1), v("x")))),
		op("or", op("not", is("a")), call("p", v("x"), num(2)))))
}

// nodes is a tree's nodes, itself first; what is said of one is said of the tree.
func nodes(n *api.Node) []*api.Node {
	l := []*api.Node{n}
	for i := range n.Kids {
		l = append(l, nodes(&n.Kids[i])...)
	}
	return l
}

var changes = []struct {
	name   string
	change func(n *api.Node)
}{
	{"Op", func(n *api.Node) { n.Op += "'" }},
	{"Name", func(n *api.Node) { n.Name += "y" }},
	{"N up", func(n *api.Node) { n.N++ }},
	{"N down", func(n *api.Node) { n.N -= 1 << 32 }},
	{"a kid more", func(n *api.Node) { n.Kids = append(n.Kids, yes) }},
	{"an empty kid more", func(n *api.Node) { n.Kids = append(n.Kids, api.Node{}) }},
	{"a kid less", func(n *api.Node) { n.Kids = n.Kids[:max(len(n.Kids)-1, 0)] }},
	{"kids turned", func(n *api.Node) { slices.Reverse(n.Kids) }},
}

func TestSameButOneField(t *testing.T) {
	count := len(nodes(ptr(sample())))
	for i := range count {
		for _, c := range changes {
			a, b := sample(), sample()
			c.change(nodes(&b)[i])
			if want := reflect.DeepEqual(a, b); tree.Same(a, b) != want || tree.Same(b, a) != want || !tree.Same(b, b) {
				t.Errorf("node %d, %s: %v, %v, not %v", i, c.name, tree.Same(a, b), tree.Same(b, a), want)
			}
		}
		a, b := sample(), sample()
		nodes(&b)[i].At = 7
		if !tree.Same(a, b) || !tree.Same(b, a) {
			t.Errorf("node %d: At", i)
		}
		if empty := nodes(&b)[i]; len(empty.Kids) == 0 {
			empty.Kids = []api.Node{}
		}
		if !tree.Same(a, b) || !tree.Same(b, a) {
			t.Errorf("node %d: no kids", i)
		}
	}
}

func ptr(n api.Node) *api.Node { return &n }

func TestSameOfSmallNodes(t *testing.T) {
	l := []api.Node{
		{}, yes, op("false"), op("not", yes), op("not", op("not", yes)), op("and", yes, yes), op("and", yes, op("false")), op("and", op("false"), yes),
		op("and", yes, yes, yes), op("or", yes, yes), is("a"), is("b"), v("a"), num(0), num(1), plus(1, x), plus(2, x), op("set"), op("set", x), op("set", x, x),
		op("and", op("not", yes), yes), op("and", yes, op("not", yes)), op("", yes, op("")), op("", op("", yes)),
	}
	for i, a := range l {
		for j, b := range l {
			if tree.Same(a, b) != (i == j) {
				t.Error(i, j)
			}
		}
	}
}

// TestSameOfParts: lists of kids that begin at one place, but are not one.
func TestSameOfParts(t *testing.T) {
	kids := []api.Node{yes, op("not", yes), op("false")}
	a := op("or", op("and", kids[:2]...), op("and", kids[:1]...), op("and", kids...))
	b := op("or", op("and", kids[:2]...), op("and", kids[:2]...), op("and", kids...))
	if tree.Same(a, b) || tree.Same(b, a) || !tree.Same(a, a) || !tree.Same(b, b) {
		t.Error("parts of a list")
	}
	one, other := []api.Node{yes}, []api.Node{op("false")}
	c, d := op("and", op("not", one...), op("not", one...)), op("and", op("not", one...), op("not", other...))
	if tree.Same(c, d) || tree.Same(d, c) {
		t.Error("a list that was seen beside another one")
	}
}

func TestSameOfDeepAndGreatTrees(t *testing.T) {
	const deep = 1 << 15
	if a, b := nots(deep), nots(deep); !tree.Same(a, b) || tree.Same(a, nots(deep+1)) || tree.Same(nots(deep-1), a) {
		t.Error("deep")
	}
	wide := func(last string) api.Node { return op("and", append(times(yes, 100000), op(last))...) }
	if !tree.Same(wide("a"), wide("a")) || tree.Same(wide("a"), wide("b")) {
		t.Error("wide")
	}
	if a := shared(yes, 90); !tree.Same(a, shared(yes, 90)) || tree.Same(a, shared(op("false"), 90)) || tree.Same(a, shared(yes, 89)) {
		t.Error("shared")
	}
}

// P3.2: SameProg

func TestSameProgButOneField(t *testing.T) {
	apart := []func(p *api.Prog){
		func(p *api.Prog) { p.Decls = nil },
		func(p *api.Prog) { p.Decls = p.Decls[:2] },
		func(p *api.Prog) { p.Decls = append(p.Decls, api.Decl{}) },
		func(p *api.Prog) { slices.Reverse(p.Decls) },
		func(p *api.Prog) { p.Preds = nil },
		func(p *api.Prog) { p.Preds = p.Preds[:1] },
		func(p *api.Prog) { p.Preds = append(p.Preds, api.Pred{}) },
		func(p *api.Prog) { slices.Reverse(p.Preds) },
		func(p *api.Prog) { p.Preds[0].Params = nil },
		func(p *api.Prog) { p.Preds[0].Params = p.Preds[0].Params[:1] },
		func(p *api.Prog) { p.Preds[1].Params = []api.Decl{{}} },
		func(p *api.Prog) { slices.Reverse(p.Preds[0].Params) },
	}
	for i := range 5 {
		apart = append(apart, func(p *api.Prog) { places(p)[i].Name += "z" }, func(p *api.Prog) { places(p)[i].Order += 7 })
	}
	for i := range 2 {
		apart = append(apart, func(p *api.Prog) { p.Preds[i].Name += "z" })
		for _, c := range changes[:6] {
			apart = append(apart, func(p *api.Prog) { c.change(&p.Preds[i].Body) })
		}
	}
	for _, c := range changes {
		apart = append(apart, func(p *api.Prog) { c.change(&p.Main) })
	}
	apart = append(apart, func(p *api.Prog) { p.Main.Kids[0].Kids[1].Name = "z" }, func(p *api.Prog) { p.Preds[0].Body.Kids[1].Kids[1].N = 2 })
	for i, change := range apart {
		p := prog()
		change(&p)
		if tree.SameProg(p, prog()) || tree.SameProg(prog(), p) || !tree.SameProg(p, p) {
			t.Error(i)
		}
	}
}

func TestSameProgButPlaces(t *testing.T) {
	for i := range 5 {
		p := prog()
		places(&p)[i].At = 7
		if !tree.SameProg(p, prog()) || !tree.SameProg(prog(), p) {
			t.Error("decl", i)
		}
	}
	for i := range 2 {
		p := prog()
		p.Preds[i].At, p.Preds[i].Body.At, p.Main.At, p.Main.Kids[i].At = 7, -1, 9, 3
		if !tree.SameProg(p, prog()) || !tree.SameProg(prog(), p) {
			t.Error("pred", i)
		}
	}
	empty := api.Prog{Decls: []api.Decl{}, Preds: []api.Pred{}}
	if !tree.SameProg(api.Prog{}, empty) || !tree.SameProg(empty, api.Prog{}) {
		t.Error("no Decls, no Preds")
	}
	p := prog()
	p.Preds[1].Params = []api.Decl{}
	if !tree.SameProg(p, prog()) || !tree.SameProg(prog(), p) {
		t.Error("no Params")
	}
}

// P3.2: Size and Depth

func TestSizeAndDepth(t *testing.T) {
	for i, c := range []struct {
		n           api.Node
		size, depth int
	}{
		{api.Node{}, 1, 1}, {yes, 1, 1}, {op("true", []api.Node{}...), 1, 1}, {op("not", yes), 2, 2}, {num(7), 1, 1},
		{op("and", yes, yes), 3, 2}, {op("and", op("not", yes), yes), 4, 3}, {op("and", yes, op("not", yes)), 4, 3},
		{op("set", times(x, 6)...), 7, 2}, {sample(), 16, 6}, {unions(3), 13, 5}, {plus(1, x), 2, 2},
		// Not what a formula or term is, but nodes all the same.
		{op("", api.Node{}, api.Node{}), 3, 2}, {op("var", x, set, set), 8, 3},
		{nots(28), 29, 29}, {nots(29), 30, 30}, {nots(30), 31, 31}, {nots(31), 32, 31}, {nots(1998), 1999, 31}, {nots(1999), 2000, 31},
		{nots(2000), 2001, 31}, {nots(2001), 2001, 31}, {nots(1 << 15), 2001, 31},
		{unions(28), 113, 30}, {unions(29), 117, 31}, {unions(500), 2001, 31}, {op("union", unions(499), num(1)), 1999, 31},
		{op("and", times(yes, 1998)...), 1999, 2}, {op("and", times(yes, 1999)...), 2000, 2}, {op("and", times(yes, 2000)...), 2001, 2},
		{op("and", times(yes, 2001)...), 2001, 2}, {op("and", times(yes, 100000)...), 2001, 2},
		{op("and", times(set, 666)...), 1999, 3}, {op("and", append(times(set, 666), yes)...), 2000, 3}, {op("and", append(times(set, 666), x, x)...), 2001, 3},
		{op("and", append(times(x, 5), nots(29))...), 36, 31}, {op("and", append(times(x, 5), nots(28))...), 35, 30},
		{op("union", unions(20), num(1)), 83, 23},
		{ands(1000), 1999, 11}, {ands(1001), 2001, 11}, {ands(1 << 17), 2001, 18},
		{shared(yes, 28), 2001, 29}, {shared(yes, 29), 2001, 30}, {shared(yes, 30), 2001, 31}, {shared(yes, 5000), 2001, 31},
	} {
		if tree.Size(c.n) != c.size || tree.Depth(c.n) != c.depth {
			t.Errorf("%d: %d, %d, not %d, %d", i, tree.Size(c.n), tree.Depth(c.n), c.size, c.depth)
		}
	}
}

// TestDepthOfParts: lists that begin at one place are not of one depth.
func TestDepthOfParts(t *testing.T) {
	kids := []api.Node{yes, op("not", op("not", yes))}
	short, long := op("and", kids[:1]...), op("and", kids...)
	for _, n := range []api.Node{op("or", short, long), op("or", long, short), op("or", short, short, long)} {
		if tree.Depth(n) != 5 {
			t.Error(tree.Depth(n))
		}
	}
}

// P3.3

// roomy is the node with spare room behind each list of kids, all of it filled.
func roomy(n api.Node) api.Node {
	l := make([]api.Node, 0, len(n.Kids)+2)
	for _, k := range n.Kids {
		l = append(l, roomy(k))
	}
	n.Kids = append(l, is("spare"), is("room"))[:len(l)]
	return n
}

// all is a node with its lists' spare room as kids.
func all(n api.Node) api.Node {
	var l []api.Node
	for _, k := range n.Kids[:cap(n.Kids)] {
		l = append(l, all(k))
	}
	n.Kids = l
	return n
}

func TestNothingIsChanged(t *testing.T) {
	for _, n := range []api.Node{sample(), unions(5), op("and", is(""), op("not")), nots(40), yes} {
		a, b, want := roomy(n), roomy(n), all(roomy(n))
		p, q := prog(), prog()
		p.Main, p.Preds[1].Body, p.Decls = a, b, append(p.Decls, decl("spare", 2))[:3]
		keep := slices.Clone(p.Decls[:4])
		tree.IsFormula(a)
		tree.IsTerm(a)
		tree.Size(a)
		tree.Depth(a)
		tree.Same(a, b)
		tree.Same(b, sample())
		tree.Is(p)
		tree.SameProg(p, q)
		tree.SameProg(p, p)
		if !reflect.DeepEqual(all(a), want) || !reflect.DeepEqual(all(b), want) || !slices.Equal(p.Decls[:4], keep) || !reflect.DeepEqual(q, prog()) {
			t.Error("changed")
		}
	}
}

// TestAskedTwice: W2, W7.
func TestAskedTwice(t *testing.T) {
	for range 3 {
		wantFormula(t, sample())
		wantNone(t, op("and", yes, x))
		if tree.Size(sample()) != 16 || tree.Depth(sample()) != 6 || !tree.Same(sample(), sample()) || !tree.Is(prog()) {
			t.Error("another answer")
		}
	}
}
