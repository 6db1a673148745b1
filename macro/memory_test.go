package macro_test

import (
	"fmt"
	"math"
	"reflect"
	"slices"
	"strings"
	"testing"

	"sibyl/api"
	"sibyl/macro"
)

// alike tells whether two nodes are one, their places too; a list of no kids
// may be nil or empty.
func alike(a, b api.Node) bool {
	return a.Op == b.Op && a.Name == b.Name && a.N == b.N && a.At == b.At && slices.EqualFunc(a.Kids, b.Kids, alike)
}

// short is what a node or a program is, or how it begins.
func short(x any) string {
	s := fmt.Sprint(x)
	return s[:min(len(s), 500)]
}

// withRoom is a list in new memory with spare room behind it, filled.
func withRoom[T any](l []T, spare T) []T { return append(slices.Clip(l), spare, spare)[:len(l)] }

// roomy is a node with spare room behind each list of kids.
func roomy(n api.Node) api.Node {
	var l []api.Node
	for _, k := range n.Kids {
		l = append(l, roomy(k))
	}
	n.Kids = withRoom(l, at(5, call("spare", v("room"))))
	return n
}

// roomyProg is a program with spare room behind each list.
func roomyProg(p api.Prog) api.Prog {
	spare := api.Decl{Name: "spare", Order: 1, At: 6}
	var l []api.Pred
	for _, x := range p.Preds {
		l = append(l, api.Pred{Name: x.Name, Params: withRoom(x.Params, spare), Body: roomy(x.Body), At: x.At})
	}
	return api.Prog{Decls: withRoom(p.Decls, spare), Preds: withRoom(l, api.Pred{Name: "spare", Body: is("room")}), Main: roomy(p.Main)}
}

// whole is a node with its lists' spare room as kids.
func whole(n api.Node) api.Node {
	var l []api.Node
	for _, k := range n.Kids[:cap(n.Kids)] {
		l = append(l, whole(k))
	}
	n.Kids = l
	return n
}

// wholeProg is a program in memory of its own with its lists' spare room in them.
func wholeProg(p api.Prog) api.Prog {
	made := api.Prog{Decls: slices.Clone(p.Decls[:cap(p.Decls)]), Main: whole(p.Main)}
	for _, x := range p.Preds[:cap(p.Preds)] {
		x.Params = slices.Clone(x.Params[:cap(x.Params)])
		x.Body = whole(x.Body)
		made.Preds = append(made.Preds, x)
	}
	return made
}

// nodesOf is all formulas of a program.
func nodesOf(p api.Prog) []api.Node {
	l := []api.Node{p.Main}
	for _, x := range p.Preds {
		l = append(l, x.Body)
	}
	return l
}

// placesOf is where the items of all lists of a node lie, spare room too.
func placesOf(n api.Node) []*api.Node {
	var l []*api.Node
	for i := range n.Kids[:cap(n.Kids)] {
		l = append(l, &n.Kids[:cap(n.Kids)][i])
		l = append(l, placesOf(n.Kids[:cap(n.Kids)][i])...)
	}
	return l
}

// wantOwn: no two lists of what is answered share memory, nor any with what is
// handed in.
func wantOwn(t *testing.T, given []api.Node, answers ...api.Node) {
	t.Helper()
	seen := map[*api.Node]struct{}{}
	for _, n := range given {
		for _, place := range placesOf(n) {
			seen[place] = struct{}{}
		}
	}
	for i, n := range answers {
		for _, place := range placesOf(n) {
			if _, is := seen[place]; is {
				t.Errorf("%d: %s shares memory", i, short(n))
				return
			}
			seen[place] = struct{}{}
		}
	}
}

// spoil changes all that nodes have in memory of their own, spare room too.
func spoil(l ...api.Node) {
	for _, n := range l {
		for _, place := range placesOf(n) {
			*place = api.Node{Op: "spoilt", Name: "spoilt", N: -1}
		}
	}
}

// asked is what Expand answers: asked twice, of lists with spare room, which
// must stay as they are, and of which the answers must be no part.
func asked(t *testing.T, p api.Prog) (api.Node, api.Errno) {
	t.Helper()
	given := roomyProg(p)
	as := wholeProg(given)
	first, err := macro.Expand(given)
	second, again := macro.Expand(given)
	if !alike(first, second) || err != again {
		t.Errorf("%s, %d, then %s, %d", short(first), err, short(second), again)
	}
	if err != api.OK && !alike(first, api.Node{}) {
		t.Errorf("%s beside %d", short(first), err)
	}
	if !reflect.DeepEqual(wholeProg(given), as) {
		t.Errorf("%s is changed", short(p))
	}
	wantOwn(t, nodesOf(given), first, second)
	kept := whole(first)
	spoil(second)
	spoil(nodesOf(given)...)
	if !alike(whole(first), kept) {
		t.Errorf("%s is changed later", short(kept))
	}
	return first, err
}

func TestExpandIsNewMemory(t *testing.T) {
	// One list as the kids of many nodes, in Bodies, in Main and in terms.
	two := []api.Node{v("a"), plus(1, v("a"))}
	part := []api.Node{v("x"), v("x")}
	set := api.Node{Op: "set", Kids: part}
	p := api.Prog{
		Decls: []api.Decl{{Name: "x", Order: 1}, {Name: "a", Order: 1}},
		Preds: []api.Pred{
			pred("p", 1, "a", op("and", api.Node{Op: "lt", Kids: two}, api.Node{Op: "eq", Kids: two})), pred("q", 2, "A B", op("sub", v("A"), v("B"))), pred("r", 1, "a", api.Node{Op: "lt", Kids: two}), pred("none", 0, "", op("not", op("true"))),
		},
	}
	for _, main := range []api.Node{
		call("p", v("x")), op("and", call("p", part[:1]...), call("p", part[1:]...)), call("q", set, set), op("or", call("q", set, set), op("sub", set, set)), op("iff", api.Node{Op: "lt", Kids: two}, call("r", two[1])),
		op("or", call("none"), call("none")), op("true"), op("not", op("lt", part...)), call("r", num(3)), call("p", plus(2, part[0])), op("imp", api.Node{Op: "lt", Kids: part}, api.Node{Op: "lt", Kids: part}),
	} {
		p.Main = main
		as := wholeProg(p)
		first, err := macro.Expand(p)
		second, again := macro.Expand(p)
		if err != api.OK || again != api.OK || len(first.Kids) == 0 && main.Op != "true" {
			t.Error(main, err, again)
		}
		wantOwn(t, nodesOf(p), first, second)
		kept := whole(second)
		spoil(first)
		if third, _ := macro.Expand(p); !reflect.DeepEqual(wholeProg(p), as) || !alike(whole(second), kept) || !alike(third, second) {
			t.Error(main, "is changed")
		}
	}
}

func TestCallsIsNewMemory(t *testing.T) {
	n := roomy(formula(t, "c() & (ex1 x: b(x) | ~a(x, {x})) => c()"))
	as := whole(n)
	first, second := macro.Calls(n), macro.Calls(n)
	for i := range first[:cap(first)] {
		first[:cap(first)][i] = "spoilt"
	}
	if !slices.Equal(second, strings.Fields("a b c")) || !slices.Equal(macro.Calls(n), second) {
		t.Error(second)
	}
	if !reflect.DeepEqual(whole(n), as) {
		t.Error("is changed")
	}
}

// Of what is no formula and no term Calls ends, too (W1).
func TestCallsOfWhatIsNoFormula(t *testing.T) {
	names := strings.Fields("true not and ex all is eq call var num plus set union xor")
	for _, s := range append(names, "", "\xff") {
		want := []string{"in"}
		if s == "call" {
			want = []string{"\xff\x00", "in"}
			slices.Sort(want)
		}
		n := api.Node{Op: s, Name: "\xff\x00", N: math.MaxInt, At: math.MinInt, Kids: []api.Node{{}, {Op: "var", Name: "x"}, call("in", api.Node{Name: "call"})}}
		if l := macro.Calls(n); !slices.Equal(l, want) {
			t.Errorf("%v: %q", n, l)
		}
	}
	for _, levels := range []int{100, 10000, 1 << 16} {
		n := call("deep")
		for i := range levels {
			n = op("not", n)
			if i == levels/2 {
				n = op("and", n, call("half"))
			}
		}
		wantCallsOnly(t, n, "deep half")
	}
	wantCallsOnly(t, op("and", slices.Repeat([]api.Node{call("b"), v("x"), call("a")}, 100000)...), "a b")
}

// wantCallsOnly is wantCalls of what is too great to be told.
func wantCallsOnly(t *testing.T, n api.Node, want string) {
	t.Helper()
	if l := macro.Calls(n); !slices.Equal(l, strings.Fields(want)) {
		t.Errorf("%q, not %q", l, want)
	}
}

// TestCallsOfTreesWithoutEnd: few lists in memory, each the kids of many nodes,
// or of its own ones.
func TestCallsOfTreesWithoutEnd(t *testing.T) {
	doubled := call("x")
	for range 1000 {
		doubled = op("or", doubled, doubled)
	}
	wantCallsOnly(t, doubled, "x")
	one, two := make([]api.Node, 1), make([]api.Node, 3)
	one[0] = api.Node{Op: "call", Name: "p", Kids: one}
	wantCallsOnly(t, one[0], "p")
	wantCallsOnly(t, op("and", call("q"), one[0]), "p q")
	two[0] = api.Node{Op: "not", Kids: two}
	two[1] = api.Node{Op: "call", Name: "b", Kids: two[:1]}
	two[2] = api.Node{Op: "call", Name: "a", Kids: two[1:]}
	wantCallsOnly(t, two[0], "a b")
	wantCallsOnly(t, api.Node{Op: "not", Kids: two[:1]}, "a b")
	// A list that begins where another does, and has more.
	long := []api.Node{v("x"), call("p")}
	wantCallsOnly(t, op("and", api.Node{Op: "not", Kids: long[:1]}, api.Node{Op: "not", Kids: long}), "p")
	wantCallsOnly(t, op("and", api.Node{Op: "not", Kids: long}, api.Node{Op: "not", Kids: long[:1]}), "p")
}
