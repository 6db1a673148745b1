package free_test

import (
	"slices"
	"sort"
	"testing"

	"sibyl/api"
	"sibyl/free"
	"sibyl/tree"
)

// Here made formulas are put into, and what is answered is held against the
// rules of chapter 7 in two ways: word by word, and without any names of what
// is bound, so that a name that is caught by a quantifier shows.

// dice is numbers in no plain order, the same ones each time.
type dice uint32

func (r *dice) upTo(most int) int {
	*r = *r*1664525 + 1013904223
	return int(*r>>16) % most
}

func pick[T any](r *dice, l ...T) T { return l[r.upTo(len(l))] }

// name is one of few, so that they meet; some have a fresh one of their own
// sort, some are too long for one.
func (r *dice) name() string {
	return pick(r, "x", "x", "y", "y", "z", "x'", "y'", "y''", "v", "v'", "abcdefghijk", "abcdefghijk'", "αβγδεζηθικλμ")
}

func (r *dice) at(n api.Node) api.Node { return at(r.upTo(2000), n) }

func (r *dice) several(most int, kid func() api.Node) (l []api.Node) {
	for range r.upTo(most + 1) {
		l = append(l, kid())
	}
	return l
}

func (r *dice) part() api.Node {
	switch r.upTo(5) {
	case 0:
		return r.at(num(r.upTo(api.MaxNum + 1)))
	case 1:
		return r.at(plus(1+r.upTo(api.MaxNum), r.at(v(r.name()))))
	}
	return r.at(v(r.name()))
}

func (r *dice) one() api.Node {
	if r.upTo(4) == 0 {
		return r.at(op("set", r.several(3, r.part)...))
	}
	return r.part()
}

func (r *dice) term() api.Node {
	n := r.one()
	for r.upTo(5) == 0 {
		n = r.at(op(pick(r, "union", "inter", "minus"), n, r.one()))
	}
	return n
}

func (r *dice) atom() api.Node {
	switch r.upTo(8) {
	case 0:
		return r.at(op(pick(r, "true", "false")))
	case 1, 2:
		return r.at(is(r.name()))
	case 3:
		return r.at(call(r.name(), r.several(3, r.term)...))
	}
	return r.at(op(pick(r, "eq", "ne", "lt", "le", "in", "notin", "sub"), r.term(), r.term()))
}

func (r *dice) formula(levels int) api.Node {
	if levels == 0 {
		return r.atom()
	}
	switch r.upTo(9) {
	case 0:
		return r.at(op("not", r.formula(levels-1)))
	case 1:
		return r.atom()
	case 2, 3, 4, 5:
		return r.at(quant(pick(r, "ex", "all"), r.upTo(3), r.name(), r.formula(levels-1)))
	}
	return r.at(op(pick(r, "and", "or", "imp", "iff"), r.formula(levels-1), r.formula(levels-1)))
}

// names is names, one of them twice now and then.
func (r *dice) names() (l []string) {
	for range r.upTo(5) {
		l = append(l, r.name())
	}
	return l
}

// namesOf is a node's free names, each once, kid by kid up.
func namesOf(n api.Node) []string {
	l := []string{}
	if n.Op == "var" || n.Op == "is" {
		l = append(l, n.Name)
	}
	for _, k := range n.Kids {
		l = append(l, namesOf(k)...)
	}
	sort.Strings(l)
	l = slices.Compact(l)
	if n.Op == "ex" || n.Op == "all" {
		l = slices.DeleteFunc(l, func(name string) bool { return name == n.Name })
	}
	return l
}

// freshOf is Fresh by its words.
func freshOf(name string, used []string) string {
	for slices.Contains(used, name) {
		name += "'"
	}
	if len([]rune(name)) <= api.MaxName {
		return name
	}
	for name = "v"; slices.Contains(used, name); {
		name += "'"
	}
	return name
}

// A pair is a name and its term. Of a list of them the first of a name counts.
type pair struct {
	name string
	term api.Node
}

func pairsOf(names []string, terms []api.Node) (l []pair) {
	for i, name := range names {
		if i < len(terms) {
			l = append(l, pair{name, terms[i]})
		}
	}
	return l
}

func termOf(l []pair, name string) (term api.Node, is bool) {
	i := slices.IndexFunc(l, func(x pair) bool { return x.name == name })
	if i < 0 {
		return api.Node{}, false
	}
	return l[i].term, true
}

// A tally is how often what happened.
type tally struct{ renamed, twice, other, joined, stays int }

// putBy is Put by its words.
func putBy(n api.Node, l []pair, count *tally, within int) api.Node {
	switch term, is := termOf(l, n.Name); {
	case n.Op == "var" && is:
		return at(n.At, term)
	case n.Op == "is" && is && term.Op == "var":
		return at(n.At, api.Node{Op: "is", Name: term.Name})
	case n.Op == "is" && is:
		count.stays++
	case n.Op == "ex" || n.Op == "all":
		name, inner := quantifierBy(n, l)
		if name != n.Name {
			count.renamed++
			within++
			if within > 1 {
				count.twice++
			}
			if name[0] != n.Name[0] {
				count.other++
			}
		}
		return api.Node{Op: n.Op, Name: name, N: n.N, At: n.At, Kids: []api.Node{putBy(n.Kids[0], inner, count, within)}}
	}
	var kids []api.Node
	for _, k := range n.Kids {
		kids = append(kids, putBy(k, l, count, within))
	}
	n.Kids = kids
	if n.Op == "plus" && kids[0].Op != "var" {
		count.joined++
	}
	return joinBy(n)
}

// quantifierBy is a quantifier's name, and what is put in its kid.
func quantifierBy(n api.Node, l []pair) (name string, inner []pair) {
	inKid := namesOf(n.Kids[0])
	used, caught := slices.Clone(inKid), false
	for _, x := range l {
		if x.name == n.Name {
			continue
		}
		if _, is := termOf(inner, x.name); is {
			continue
		}
		inner = append(inner, x)
		if slices.Contains(inKid, x.name) {
			used = append(used, namesOf(x.term)...)
			caught = caught || slices.Contains(namesOf(x.term), n.Name)
		}
	}
	if !caught {
		return n.Name, inner
	}
	name = freshOf(n.Name, used)
	return name, append(inner, pair{n.Name, v(name)})
}

func joinBy(n api.Node) api.Node {
	if n.Op == "plus" && n.Kids[0].Op == "num" {
		return api.Node{Op: "num", N: n.N + n.Kids[0].N, At: n.At}
	}
	if n.Op == "plus" && n.Kids[0].Op == "plus" {
		return api.Node{Op: "plus", N: n.N + n.Kids[0].N, At: n.At, Kids: n.Kids[0].Kids}
	}
	return n
}

// nameless is a node in which each name that is bound is how many quantifiers
// are between it and its own; above is what binds names, the outermost first.
func nameless(n api.Node, above []string) api.Node {
	n.At = 0
	inner := above
	switch n.Op {
	case "ex", "all":
		inner = append(slices.Clip(above), n.Name)
		n.Name = ""
	case "var", "is":
		for i := range above {
			if above[len(above)-1-i] == n.Name {
				return api.Node{Op: n.Op + " bound", N: i}
			}
		}
	}
	var kids []api.Node
	for _, k := range n.Kids {
		kids = append(kids, nameless(k, inner))
	}
	n.Kids = kids
	return n
}

// putNameless puts terms in what is nameless, where no name can be caught.
func putNameless(n api.Node, l []pair) api.Node {
	term, is := termOf(l, n.Name)
	switch {
	case n.Op == "var" && is:
		return nameless(term, nil)
	case n.Op == "is" && is && term.Op == "var":
		n.Name = term.Name
	}
	var kids []api.Node
	for _, k := range n.Kids {
		kids = append(kids, putNameless(k, l))
	}
	n.Kids = kids
	return joinBy(n)
}

// P7.4: namesPut is what the names of what is put are to be.
func namesPut(n api.Node, l []pair) (names []string) {
	term, is := termOf(l, n.Name)
	switch {
	case n.Op == "var" && is, n.Op == "is" && is && term.Op == "var":
		names = append(names, namesOf(term)...)
	case n.Op == "var", n.Op == "is":
		names = append(names, n.Name)
	}
	for _, k := range n.Kids {
		names = append(names, namesPut(k, l)...)
	}
	slices.Sort(names)
	return slices.Compact(names)
}

func TestAsTheRulesTell(t *testing.T) {
	r := dice(1)
	var count tally
	for i := range 30000 {
		n := r.formula(i % 7)
		names, terms := r.names(), r.several(4, r.term)
		if !tree.IsFormula(n) {
			t.Fatalf("no formula: %v", n)
		}
		if l := free.Names(n); !slices.Equal(l, namesOf(n)) {
			t.Fatalf("%v: %q", n, l)
		}
		l := pairsOf(names, terms)
		got := asked(t, n, names, terms)
		if want := putBy(n, l, &count, 0); !alike(got, want) {
			t.Fatalf("%v, %q, %v: %v, not %v", n, names, terms, got, want)
		}
		bare := nameless(n, nil)
		if !alike(nameless(got, nil), putNameless(bare, l)) {
			t.Fatalf("%v, %q, %v: %v means another thing", n, names, terms, got)
		}
		if have, want := free.Names(got), namesPut(bare, l); !slices.Equal(have, want) {
			t.Fatalf("%v, %q, %v: names %q, not %q", n, names, terms, have, want)
		}
	}
	if count.renamed < 1000 || count.twice < 100 || count.other < 100 || count.joined < 1000 || count.stays < 300 {
		t.Error("too few of a sort:", count)
	}
}

// TestPutAgain: into what was put it is put again, however far beyond what a
// formula may be it is by then.
func TestPutAgain(t *testing.T) {
	r := dice(7)
	most := 0
	for range 100 {
		n := r.formula(5)
		for range 5 {
			names := free.Names(n)
			terms := r.several(len(names), func() api.Node { return op("union", r.term(), op("set", r.part(), r.part())) })
			l := pairsOf(names, terms)
			bare := nameless(n, nil)
			got := free.Put(n, names, terms)
			if !alike(got, putBy(n, l, &tally{}, 0)) || !alike(nameless(got, nil), putNameless(bare, l)) || !slices.Equal(free.Names(got), namesPut(bare, l)) {
				t.Fatalf("%v, %q, %v: %v", n, names, terms, got)
			}
			n = got
		}
		most = max(most, tree.Size(n))
	}
	if most <= api.MaxSize {
		t.Error("too small:", most)
	}
}

// TestGreatOnes: a formula as great as may be, with a great term for each name.
func TestGreatOnes(t *testing.T) {
	n := op("lt", v("x"), v("y"))
	for range api.MaxDepth - 2 {
		n = quant("ex", 1, "y", n)
	}
	wide := call("p", slices.Repeat([]api.Node{v("x")}, api.MaxParams)...)
	for tree.Size(wide) <= api.MaxSize/2-8 {
		wide = op("and", wide, call("p", slices.Repeat([]api.Node{v("x")}, api.MaxParams)...))
	}
	big := op("set", slices.Repeat([]api.Node{plus(1, v("y"))}, api.MaxParams)...)
	for range api.MaxDepth - 3 {
		big = op("union", big, op("set", slices.Repeat([]api.Node{plus(1, v("y"))}, api.MaxParams)...))
	}
	if !tree.IsFormula(n) || !tree.IsTerm(big) {
		t.Fatal("none")
	}
	got := asked(t, n, []string{"x"}, []api.Node{big})
	for range api.MaxDepth - 2 {
		if got.Op != "ex" || got.Name != "y'" {
			t.Fatal(got.Op, got.Name)
		}
		got = got.Kids[0]
	}
	if !tree.Same(got, op("lt", big, v("y'"))) {
		t.Error(got)
	}
	all := free.Put(wide, []string{"x"}, []api.Node{big})
	if !alike(all, putBy(wide, []pair{{"x", big}}, &tally{}, 0)) || !slices.Equal(free.Names(all), []string{"y"}) {
		t.Error("wide")
	}
}
