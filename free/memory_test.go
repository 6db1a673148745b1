package free_test

import (
	"math"
	"reflect"
	"slices"
	"strings"
	"testing"

	"sibyl/api"
	"sibyl/free"
)

// alike tells whether two nodes are one, their places too; a list of no kids
// may be nil or empty.
func alike(a, b api.Node) bool {
	return a.Op == b.Op && a.Name == b.Name && a.N == b.N && a.At == b.At && slices.EqualFunc(a.Kids, b.Kids, alike)
}

// roomy is the node with spare room behind each list of kids, all of it filled.
func roomy(n api.Node) api.Node {
	l := make([]api.Node, 0, len(n.Kids)+2)
	for _, k := range n.Kids {
		l = append(l, roomy(k))
	}
	n.Kids = append(l, at(5, v("spare")), plus(1, v("room")))[:len(l)]
	return n
}

// whole is a node with its lists' spare room as kids.
func whole(n api.Node) api.Node {
	var l []api.Node
	for _, k := range n.Kids[:cap(n.Kids)] {
		l = append(l, whole(k))
	}
	n.Kids = l
	return n
}

// placesOf is where the items of all lists of a node lie, spare room too.
func placesOf(n api.Node) []*api.Node {
	var l []*api.Node
	for i := range n.Kids[:cap(n.Kids)] {
		l = append(l, &n.Kids[:cap(n.Kids)][i])
		l = append(l, placesOf(n.Kids[:cap(n.Kids)][i])...)
	}
	return l
}

// wantOwn: no two lists of all these nodes share memory.
func wantOwn(t *testing.T, l ...api.Node) {
	t.Helper()
	seen := map[*api.Node]struct{}{}
	for i, n := range l {
		for _, place := range placesOf(n) {
			if _, is := seen[place]; is {
				t.Errorf("%d: %v shares memory", i, n)
				return
			}
			seen[place] = struct{}{}
		}
	}
}

// spoil changes all that a node has in memory of its own, spare room too.
func spoil(n api.Node) {
	for _, place := range placesOf(n) {
		*place = api.Node{Op: "spoilt", Name: "spoilt", N: -1}
	}
}

// asked is what Put answers: asked twice, of lists with spare room, which must
// stay as they are, and of which the answers must be no part.
func asked(t *testing.T, n api.Node, names []string, terms []api.Node) api.Node {
	t.Helper()
	given, as := roomy(n), roomy(n)
	givenNames := append(slices.Clone(names), "spare", "x")[:len(names)]
	asNames := slices.Clone(givenNames[:len(names)+2])
	list := roomy(op("terms", terms...))
	asList := roomy(op("terms", terms...))
	first := free.Put(given, givenNames, list.Kids)
	second := free.Put(given, givenNames, list.Kids)
	if !alike(first, second) {
		t.Errorf("%v, then %v", first, second)
	}
	if !reflect.DeepEqual(whole(given), whole(as)) || !slices.Equal(givenNames[:len(names)+2], asNames) || !reflect.DeepEqual(whole(list), whole(asList)) {
		t.Errorf("%v, %q or %v is changed", n, names, terms)
	}
	wantOwn(t, given, list, first, second)
	kept := whole(first)
	spoil(second)
	spoil(given)
	spoil(list)
	if !alike(whole(first), kept) {
		t.Errorf("%v is changed later", kept)
	}
	return first
}

func TestPutIsNewMemory(t *testing.T) {
	n := formula(t, "x + 1 < y & p(x, {x, y}, A union {x}) & (ex1 y: y = x & q | A = {y} union A) & ~(all0 x: x) & q")
	deep := op("union", op("inter", v("y"), op("set", plus(3, v("y")), num(2))), op("set", v("z")))
	terms := []api.Node{v("y"), num(3), plus(2, v("y")), op("set"), op("set", v("y"), plus(4, v("y"))), deep, plus(1, deep)}
	for _, a := range terms {
		for _, b := range terms {
			asked(t, n, []string{"x", "A"}, []api.Node{a, b})
			asked(t, n, []string{"x", "x", "q", "y"}, []api.Node{a, b, a, b})
		}
		asked(t, n, nil, nil)
		asked(t, n, []string{"x", "y"}, []api.Node{a})
		asked(t, n, []string{"x"}, []api.Node{a, a})
	}
	// One list as the kids of many nodes, and one term many times.
	one := []api.Node{v("x"), plus(1, v("x"))}
	shared := op("and", api.Node{Op: "eq", Kids: one}, api.Node{Op: "lt", Kids: one[:2:2]})
	kids := []api.Node{v("y")}
	term := api.Node{Op: "set", Kids: kids}
	plain := api.Node{Op: "plus", N: 3, Kids: kids}
	for _, x := range []api.Node{term, plain} {
		l := []api.Node{free.Put(shared, []string{"x"}, []api.Node{x}), free.Put(shared, []string{"x"}, []api.Node{x}), free.Put(shared, nil, nil), free.Put(shared, []string{"y"}, []api.Node{x})}
		wantOwn(t, append(l, x)...)
		wantOwn(t, append(l, api.Node{Kids: one})...)
	}
	l := free.Put(op("sub", v("x"), v("z")), []string{"x", "z"}, []api.Node{term, term})
	wantOwn(t, l, term)
}

func TestJoinIsNewMemory(t *testing.T) {
	for _, n := range []api.Node{
		plus(1, v("x")), plus(1, num(2)), plus(1, plus(2, v("x"))), plus(1, plus(2, op("set", v("x"), plus(1, v("y"))))), plus(1, op("set", v("x"))),
		op("set", v("x"), num(1)), op("union", v("A"), op("set", v("x"))), op("not", op("eq", v("x"), v("y"))), op("set"),
	} {
		given, as := roomy(n), roomy(n)
		first, second := free.Join(given), free.Join(given)
		if !reflect.DeepEqual(whole(given), whole(as)) {
			t.Errorf("%v is changed", n)
		}
		wantOwn(t, given, first, second)
		kept := whole(first)
		spoil(second)
		spoil(given)
		if !alike(whole(first), kept) {
			t.Errorf("%v is changed later", kept)
		}
	}
	kids := []api.Node{v("y")}
	wantOwn(t, free.Join(op("set", plus(1, kids...), plus(2, kids...))), api.Node{Kids: kids})
}

func TestNamesIsNewMemory(t *testing.T) {
	n := formula(t, "c < b & (ex1 x: x in A union {x, a} & q)")
	given, as := roomy(n), roomy(n)
	first, second := free.Names(given), free.Names(given)
	for i := range first[:cap(first)] {
		first[:cap(first)][i] = "spoilt"
	}
	if !slices.Equal(second, strings.Fields("A a b c q")) || !slices.Equal(free.Names(given), second) {
		t.Error(second)
	}
	if !reflect.DeepEqual(whole(given), whole(as)) {
		t.Error("is changed")
	}
}

func TestFreshChangesNothing(t *testing.T) {
	used := strings.Fields("x' b x a x spare x'' room")[:6]
	for range 2 {
		if s := free.Fresh("x", used); s != "x''" {
			t.Error(s)
		}
		if strings.Join(used[:cap(used)], " ") != "x' b x a x spare x'' room" {
			t.Error(used[:cap(used)])
		}
	}
}

// Of what is no formula and no term nothing is said, but that a call ends (W1)
// and answers the same again (W2).
func TestWhatIsNoFormula(t *testing.T) {
	l := strange()
	some := []api.Node{v("x"), plus(1, num(2)), op("set", v("in"), v("x"))}
	for i, n := range l {
		if !slices.Equal(free.Names(n), free.Names(n)) {
			t.Error("Names", i)
		}
		if a, b := free.Join(n), free.Join(n); !alike(a, b) {
			t.Error("Join", i)
		}
		for _, term := range some {
			a, b := free.Put(n, []string{"x", "in"}, []api.Node{term, some[0]}), free.Put(n, []string{"x", "in"}, []api.Node{term, some[0]})
			if !alike(a, b) {
				t.Error("Put in", i)
			}
		}
		good := op("eq", v("x"), plus(1, v("x")))
		if a, b := free.Put(good, []string{"x"}, []api.Node{n}), free.Put(good, []string{"x"}, []api.Node{n}); !alike(a, b) {
			t.Error("Put of", i)
		}
	}
	if !alike(free.Put(api.Node{}, nil, nil), api.Node{}) || !alike(free.Join(api.Node{}), api.Node{}) || len(free.Names(api.Node{})) > 0 {
		t.Error("nothing")
	}
}

// strange is nodes that are neither terms nor formulas.
func strange() []api.Node {
	var l []api.Node
	for _, op := range append(strings.Fields("true not and ex all is eq call var num plus set union xor"), "", "\xff") {
		for _, kids := range [][]api.Node{nil, {{}}, {{Op: "true"}, {Op: "var", Name: "in"}}, {{Op: "plus"}, {Op: "num", N: 3}, {Op: "call"}}} {
			l = append(l, api.Node{Op: op, Name: "in", N: -1, Kids: kids}, api.Node{Op: op, Name: "\xff\x00", N: math.MaxInt, At: math.MinInt, Kids: kids})
		}
		deep := api.Node{Op: "var", Name: "x"}
		for range 3000 {
			deep = api.Node{Op: op, Name: "y", N: 1, Kids: []api.Node{deep}}
		}
		l = append(l, deep, api.Node{Op: op, N: 1, Kids: slices.Repeat([]api.Node{{Op: "var", Name: "x"}}, 10000)})
	}
	return append(l, endless()...)
}

// endless is nodes of few lists that are trees without an end, or as good as.
func endless() []api.Node {
	var l []api.Node
	for _, op := range strings.Fields("and ex plus var") {
		doubled := api.Node{Op: "var", Name: "x"}
		for range 1000 {
			doubled = api.Node{Op: op, Name: "y", N: 1, Kids: []api.Node{doubled, doubled}}
		}
		one, two := make([]api.Node, 1), make([]api.Node, 2)
		one[0] = api.Node{Op: op, Name: "y", Kids: one}
		two[0] = api.Node{Op: op, Name: "y", Kids: two}
		two[1] = api.Node{Op: op, Name: "y", Kids: two[:1]}
		l = append(l, doubled, one[0], two[0])
	}
	return l
}

// TestDeepOnes: beyond what a formula may be, all holds still.
func TestDeepOnes(t *testing.T) {
	for _, levels := range []int{api.MaxDepth + 1, 1000, 1 << 15} {
		n, want := op("lt", v("x"), v("y")), op("lt", num(3), v("y"))
		for range levels {
			n, want = op("not", n), op("not", want)
		}
		if !slices.Equal(free.Names(n), []string{"x", "y"}) {
			t.Error("Names", levels)
		}
		if !alike(free.Put(n, []string{"x"}, []api.Node{num(3)}), want) {
			t.Error("Put", levels)
		}
		if !alike(free.Join(n), n) {
			t.Error("Join", levels)
		}
	}
}
