package kinds_test

import (
	"math"
	"reflect"
	"slices"
	"strings"
	"testing"

	"sibyl/api"
	"sibyl/kinds"
	"sibyl/parse"
	"sibyl/tree"
)

// The texts of these tests are those of chapter 4, but for an @ ahead of the
// token at whose place an error is to be told.

// unmarked is a text without its mark, and where that stood; 0, if nowhere.
func unmarked(s string) (text string, place int) {
	return strings.Replace(s, "@", "", 1), max(strings.Index(s, "@"), 0)
}

func parsed(t *testing.T, text string) api.Prog {
	t.Helper()
	p, at, err := parse.Parse(text)
	if err != api.OK || !tree.Is(p) {
		t.Fatalf("%q is no program: %d, %d", text, at, err)
	}
	return p
}

// A term is parsed on the left of a relation, so that places are those in its text.
func parsedTerm(t *testing.T, text string) api.Node {
	t.Helper()
	n := parsed(t, text+" = 0;").Main.Kids[0]
	if !tree.IsTerm(n) {
		t.Fatalf("%q is no term", text)
	}
	return n
}

// Places are anything, and tell no order: what is told of them is asked where
// they are moved, too.
var moves = []func(at int) int{
	func(at int) int { return at },
	func(at int) int { return -1 - at },
	func(at int) int { return math.MaxInt - at },
	func(at int) int { return math.MinInt + at },
}

// roomy is a copy of a list with spare room behind it, which is filled.
func roomy[T any](l []T, copied func(x T) T, spare T) []T {
	made := make([]T, 0, len(l)+1)
	for _, x := range l {
		made = append(made, copied(x))
	}
	return append(made, spare)[:len(l)]
}

func roomyNode(n api.Node, move func(at int) int) api.Node {
	n.At = move(n.At)
	n.Kids = roomy(n.Kids, func(k api.Node) api.Node { return roomyNode(k, move) }, api.Node{Op: "is", Name: "spare"})
	return n
}

func roomyDecls(l []api.Decl, move func(at int) int) []api.Decl {
	return roomy(l, func(d api.Decl) api.Decl {
		d.At = move(d.At)
		return d
	}, api.Decl{Name: "spare", Order: 1})
}

func roomyProg(p api.Prog, move func(at int) int) api.Prog {
	preds := roomy(p.Preds, func(x api.Pred) api.Pred {
		return api.Pred{Name: x.Name, Params: roomyDecls(x.Params, move), Body: roomyNode(x.Body, move), At: move(x.At)}
	}, api.Pred{Name: "spare"})
	return api.Prog{Decls: roomyDecls(p.Decls, move), Preds: preds, Main: roomyNode(p.Main, move)}
}

// allOf is a node and all below it, what is in spare room, too.
func allOf(n api.Node) []api.Node {
	l := []api.Node{n}
	for _, k := range n.Kids[:cap(n.Kids)] {
		l = append(l, allOf(k)...)
	}
	return l
}

// partsOf is all that a program has, what is in spare room, too.
func partsOf(p api.Prog) []any {
	l := []any{p.Decls[:cap(p.Decls)], p.Preds[:cap(p.Preds)], allOf(p.Main)}
	for _, x := range p.Preds {
		l = append(l, x.Params[:cap(x.Params)], allOf(x.Body))
	}
	return l
}

// wantCheck: the program's first error is that one, wherever all places are
// moved, and when it is asked again; and the program stays what it was.
func wantCheck(t *testing.T, name string, p api.Prog, place int, want api.Errno) {
	t.Helper()
	for i, move := range moves {
		given, as := roomyProg(p, move), roomyProg(p, move)
		wantAt := 0
		if want != api.OK && want != api.ErrArg {
			wantAt = move(place)
		}
		for range 2 {
			if at, err := kinds.Check(given); at != wantAt || err != want {
				t.Errorf("%s: %d, %d, not %d, %d, moved by %d", name, at, err, wantAt, want, i)
			}
		}
		if !reflect.DeepEqual(partsOf(given), partsOf(as)) {
			t.Errorf("%s is changed", name)
		}
	}
}

// want: the program's first error is that one, at its mark.
func want(t *testing.T, s string, err api.Errno) {
	t.Helper()
	text, place := unmarked(s)
	if marked := strings.Contains(s, "@"); marked != (err != api.OK) {
		t.Fatalf("%q: an error without a mark, or a mark without an error", s)
	}
	wantCheck(t, s, parsed(t, text), place, err)
}

// wantKind: a term's kind, or its error at its mark, likewise.
func wantKind(t *testing.T, scope []api.Decl, s string, kind int, want api.Errno) {
	t.Helper()
	text, place := unmarked(s)
	n := parsedTerm(t, text)
	for i, move := range moves {
		decls, given := roomyDecls(scope, move), roomyNode(n, move)
		wantAt := 0
		if want != api.OK {
			kind, wantAt = 0, move(place)
		}
		for range 2 {
			got, at, err := kinds.Kind(decls, given)
			if got != kind || at != wantAt || err != want {
				t.Errorf("%s in %v: %d, %d, %d, not %d, %d, %d, moved by %d", s, scope, got, at, err, kind, wantAt, want, i)
			}
		}
		if as := roomyDecls(scope, move); !slices.Equal(decls[:cap(decls)], as[:cap(as)]) || !reflect.DeepEqual(allOf(given), allOf(roomyNode(n, move))) {
			t.Errorf("%s or its scope is changed", s)
		}
	}
}

func decl(name string, order int) api.Decl { return api.Decl{Name: name, Order: order, At: 5} }

// P6.1: variables

func TestVariables(t *testing.T) {
	one := []api.Decl{decl("q", 0), decl("x", 1), decl("X", 2)}
	several := []api.Decl{decl("x", 2), decl("q", 1), decl("X", 0), decl("q", 2), decl("x", 0), decl("q", 0), decl("X", 2), decl("x", 1)}
	for _, scope := range [][]api.Decl{one, several} {
		wantKind(t, scope, "q", 0, api.OK)
		wantKind(t, scope, "x", 1, api.OK)
		wantKind(t, scope, "X", 2, api.OK)
		for _, s := range []string{"@y", "@Q", "@x'", "@xx", "@spare", "@x1", "@χ"} {
			wantKind(t, scope, s, 0, api.ErrName)
		}
	}
	for _, scope := range [][]api.Decl{nil, {}} {
		for _, s := range []string{"@x", "@q", "@X", "@spare"} {
			wantKind(t, scope, s, 0, api.ErrName)
		}
		wantKind(t, scope, "3", 1, api.OK)
		wantKind(t, scope, "{}", 2, api.OK)
	}
}

// TestTheLastOneCounts: each two and three variables of one name, with another one at each place among them.
func TestTheLastOneCounts(t *testing.T) {
	expect := func(scope []api.Decl, last int) {
		for i := range len(scope) + 1 {
			scope := slices.Insert(slices.Clone(scope), i, decl("y", 2))
			if last < 0 {
				wantKind(t, scope, "@v", 0, api.ErrName)
			} else {
				wantKind(t, scope, "v", last, api.OK)
			}
			wantKind(t, scope, "y", 2, api.OK)
		}
	}
	for first := -1; first <= 2; first++ {
		expect([]api.Decl{decl("v", first)}, first)
		for second := -1; second <= 2; second++ {
			expect([]api.Decl{decl("v", first), decl("v", second)}, second)
			for third := -1; third <= 2; third++ {
				expect([]api.Decl{decl("v", first), decl("v", second), decl("v", third)}, third)
			}
		}
	}
}

func TestOrdersBelow0(t *testing.T) {
	for _, order := range []int{-1, -2, -1000, math.MinInt32, math.MinInt} {
		scope := []api.Decl{decl("x", 1), decl("y", order), decl("x", order), decl("X", 2)}
		wantKind(t, scope, "@x", 0, api.ErrName)
		wantKind(t, scope, "@y", 0, api.ErrName)
		wantKind(t, scope, "@y + 3", 0, api.ErrName)
		wantKind(t, scope, "{1, @x}", 0, api.ErrName)
		wantKind(t, scope, "X union @y", 0, api.ErrName)
		wantKind(t, append(scope, decl("y", 1)), "y", 1, api.OK)
	}
}

// TestOrdersAbove2: a variable's kind is its order, be it what it may.
func TestOrdersAbove2(t *testing.T) {
	for _, order := range []int{3, 4, 1000, math.MaxInt} {
		scope := []api.Decl{decl("v", order), decl("x", 1), decl("X", 2)}
		wantKind(t, scope, "v", order, api.OK)
		wantKind(t, scope, "@v + 1", 0, api.ErrKind)
		wantKind(t, scope, "{x, @v}", 0, api.ErrKind)
		wantKind(t, scope, "X inter @v", 0, api.ErrKind)
	}
}

// P6.1: all other terms

// A sample is a term of the scope of all these tests, and its kind or error.
type sample struct {
	s    string
	kind int
	err  api.Errno
}

func scope() []api.Decl {
	return []api.Decl{decl("q", 0), decl("x", 1), decl("y", 1), decl("X", 2), decl("Y", 2)}
}

// parts is what may be in a set, of each kind, and with each error.
var parts = []sample{
	{"x", 1, api.OK}, {"y", 1, api.OK}, {"X", 2, api.OK}, {"q", 0, api.OK}, {"@z", 0, api.ErrName},
	{"0", 1, api.OK}, {"3", 1, api.OK}, {"99", 1, api.OK},
	{"x + 1", 1, api.OK}, {"y + 99", 1, api.OK}, {"@X + 1", 0, api.ErrKind}, {"@q + 2", 0, api.ErrKind}, {"@z + 3", 0, api.ErrName},
}

func TestParts(t *testing.T) {
	for _, x := range parts {
		wantKind(t, scope(), x.s, x.kind, x.err)
	}
	// A plus and its var have one place where they are parsed.
	for _, x := range []struct {
		name string
		at   int
		err  api.Errno
	}{{"x", 0, api.OK}, {"X", 7, api.ErrKind}, {"q", 7, api.ErrKind}, {"z", 9, api.ErrName}} {
		n := api.Node{Op: "plus", N: 1, At: 7, Kids: []api.Node{{Op: "var", Name: x.name, At: 9}}}
		kind, at, err := kinds.Kind(scope(), n)
		if (kind == 1) != (err == api.OK) || at != x.at || err != x.err {
			t.Errorf("%s + 1: %d, %d, %d", x.name, kind, at, err)
		}
	}
}

// inPlace is a sample's text and error where a kind is wanted of it.
func inPlace(x sample, kind int) (s string, err api.Errno) {
	if x.err == api.OK && x.kind != kind {
		return "@" + x.s, api.ErrKind
	}
	return x.s, x.err
}

// joined is texts with what is between them, and the first error of all: marks
// that stand behind it are none.
func joined(l []sample, kind int, between string) (s string, err api.Errno) {
	var texts []string
	for _, x := range l {
		text, fault := inPlace(x, kind)
		if err == api.OK {
			err = fault
		} else {
			text = strings.ReplaceAll(text, "@", "")
		}
		texts = append(texts, text)
	}
	return strings.Join(texts, between), err
}

func wantSet(t *testing.T, l ...sample) {
	t.Helper()
	s, err := joined(l, 1, ", ")
	wantKind(t, scope(), "{"+s+"}", 2, err)
}

func TestSets(t *testing.T) {
	wantSet(t)
	good := parts[0]
	for _, a := range parts {
		wantSet(t, a)
		for count := range api.MaxParams {
			wantSet(t, append(slices.Repeat([]sample{good}, count), a)...)
		}
		for _, b := range parts {
			wantSet(t, a, b)
			wantSet(t, good, a, good, b)
			wantSet(t, a, good, good, good, b, good)
		}
	}
	for _, x := range []sample{
		{"{}", 2, api.OK}, {"{x}", 2, api.OK}, {"{1, x, y + 2}", 2, api.OK}, {"{0, 0, 0, 0, 0, 0}", 2, api.OK},
		{"{@X}", 0, api.ErrKind}, {"{x, @q, z}", 0, api.ErrKind}, {"{x, @z, q}", 0, api.ErrName}, {"{1, 2, 3, 4, 5, @X}", 0, api.ErrKind}, {"{x, @X + 1, z}", 0, api.ErrKind},
	} {
		wantKind(t, scope(), x.s, x.kind, x.err)
	}
}

// A kid of another kind in a set is told at that kid, a plus with such a kid at the plus.
func TestPlacesInSets(t *testing.T) {
	n := func(op, name string, at int, kids ...api.Node) api.Node {
		return api.Node{Op: op, Name: name, At: at, Kids: kids}
	}
	plus := n("plus", "", 4, n("var", "X", 3))
	plus.N = 1
	for i, x := range []struct {
		n  api.Node
		at int
	}{
		{n("set", "", 9, n("var", "x", 8), n("var", "X", 7)), 7}, {n("set", "", 9, n("var", "q", 8), n("var", "X", 7)), 8}, {n("set", "", 9, plus), 4},
		{n("union", "", 9, n("var", "X", 8), n("var", "x", 7)), 7}, {n("inter", "", 9, n("num", "", 8), n("var", "X", 7)), 8}, {n("minus", "", 9, plus, n("var", "x", 7)), 4},
		{n("union", "", 9, n("minus", "", 8, n("var", "X", 7), n("var", "q", 6)), n("var", "z", 5)), 6},
	} {
		if kind, at, err := kinds.Kind(scope(), x.n); kind != 0 || at != x.at || err != api.ErrKind {
			t.Error(i, kind, at, err)
		}
	}
}

var joins = []string{"union", "inter", `\`}

// terms is terms of all sorts, of each kind, and with each error.
func terms() []sample {
	return slices.Concat(parts, []sample{
		{"{}", 2, api.OK}, {"{x, 3}", 2, api.OK}, {"{@Y}", 0, api.ErrKind}, {"{1, @z, X}", 0, api.ErrName},
		{"X union Y", 2, api.OK}, {`X \ {}`, 2, api.OK}, {"{1} inter X", 2, api.OK}, {`X union Y \ {x} inter X`, 2, api.OK},
		{"X union @x", 0, api.ErrKind}, {"@3 inter Y", 0, api.ErrKind}, {`@z \ x`, 0, api.ErrName}, {`X \ @z union q`, 0, api.ErrName}, {"{1} inter {@q}", 0, api.ErrKind},
	})
}

func isJoin(x sample) bool {
	return slices.ContainsFunc(joins, func(sign string) bool { return strings.Contains(x.s, " "+sign+" ") })
}

func TestUnions(t *testing.T) {
	all := terms()
	seconds := slices.DeleteFunc(terms(), isJoin)
	for _, sign := range joins {
		for _, a := range all {
			for _, b := range seconds {
				s, err := joined([]sample{a, b}, 2, " "+sign+" ")
				wantKind(t, scope(), s, 2, err)
			}
		}
	}
	for _, a := range []string{"X", "{1}", `{} \ X`} {
		for _, b := range []string{"Y", "{}", "{x + 1}"} {
			for _, sign := range joins {
				wantKind(t, scope(), a+" "+sign+" "+b, 2, api.OK)
				wantKind(t, scope(), a+" "+sign+" "+b+" union X", 2, api.OK)
				wantKind(t, scope(), a+" "+sign+" "+b+" union @x", 2, api.ErrKind)
				wantKind(t, scope(), a+" "+sign+" @z inter x union "+b, 2, api.ErrName)
			}
		}
	}
}

// TestDeepTerms: a union within another, as deep as a term may be.
func TestDeepTerms(t *testing.T) {
	const count = api.MaxDepth - 2 // as the relation is one more
	wantKind(t, scope(), "X"+strings.Repeat(" union Y", count), 2, api.OK)
	wantKind(t, scope(), "@x"+strings.Repeat(" union q", count), 2, api.ErrKind)
	wantKind(t, scope(), "X"+strings.Repeat(` \ Y`, count-1)+" inter @z", 2, api.ErrName)
	for _, name := range []string{"X", "z"} {
		n := api.Node{Op: "minus", Kids: []api.Node{parsedTerm(t, name+strings.Repeat(" union Y", count)), {Op: "set"}}}
		kind, _, err := kinds.Kind(scope(), n)
		if tree.Depth(n) != api.MaxDepth || (kind == 2 && err == api.OK) != (name == "X") || (kind == 0 && err == api.ErrName) != (name == "z") {
			t.Error(name, kind, err)
		}
	}
}

// Of what is no term nothing is said, but that a call ends (W1), answers the same again (W2), and no kind beside an error (W3).
func TestWhatIsNoTerm(t *testing.T) {
	kids := []api.Node{{}, {Op: "var", Name: "x"}, {Op: "num", N: -1}, {Op: "set"}, {Op: "true"}, {Op: "plus"}}
	for i, n := range append(strange(), kids...) {
		for _, l := range [][]api.Decl{nil, scope(), {decl("", 1), decl("\xff", 2), decl("x", -1), decl("true", 7)}} {
			kind, at, err := kinds.Kind(l, n)
			if k, a, e := kinds.Kind(l, n); k != kind || a != at || e != err || err != api.OK && kind != 0 || err == api.OK && at != 0 {
				t.Errorf("%d: %d, %d, %d", i, kind, at, err)
			}
		}
	}
}

// strange is nodes that are neither terms nor formulas.
func strange() []api.Node {
	ops := strings.Fields("true not and ex all is eq in sub call var num plus set union minus xor")
	var l []api.Node
	for _, op := range append(ops, "", "\xff", strings.Repeat("x", 5000)) {
		for _, kids := range [][]api.Node{nil, {{}}, {{Op: "true"}, {Op: "var", Name: "in"}}, {{Op: "plus"}, {Op: "num", N: 3}, {Op: "call"}}} {
			l = append(l, api.Node{Op: op, Name: "in", N: -1, Kids: kids}, api.Node{Op: op, Name: "\xff\x00", N: math.MaxInt, At: math.MinInt, Kids: kids})
		}
		deep, doubled := api.Node{Op: "true"}, api.Node{Op: "var", Name: "x"}
		for range 1 << 15 {
			deep = api.Node{Op: op, Name: "x", N: 1, Kids: []api.Node{deep}}
		}
		for range 5000 {
			doubled = api.Node{Op: op, Name: "x", N: 1, Kids: []api.Node{doubled, doubled}}
		}
		own := make([]api.Node, 2)
		own[0] = api.Node{Op: op, Name: "x", Kids: own}
		own[1] = own[0]
		l = append(l, deep, doubled, own[0], api.Node{Op: op, N: 1, Kids: slices.Repeat([]api.Node{{Op: "var", Name: "x"}}, 100000)})
	}
	return l
}
