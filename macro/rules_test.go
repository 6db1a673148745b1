package macro_test

import (
	"fmt"
	"slices"
	"testing"

	"sibyl/api"
	"sibyl/free"
	"sibyl/kinds"
	"sibyl/macro"
	"sibyl/tree"
)

// Here made programs are expanded, and what is answered is held against the
// rules of chapter 8 in two ways: word by word, and with a name of its own for
// all that is bound, so that a name that is caught by a quantifier shows.

// A maker makes programs in which nothing is wrong: what it draws are numbers
// in no plain order, the same ones each time. Steep ones call the last of their
// Preds, so that they grow soon.
type maker struct {
	state uint32
	scope []api.Decl
	preds []api.Pred
	steep bool
}

func (m *maker) upTo(most int) int {
	m.state = m.state*1664525 + 1013904223
	return int(m.state>>16) % most
}

func pick[T any](m *maker, l ...T) T { return l[m.upTo(len(l))] }

// name is one of few, so that they meet; one is too long for a fresh one.
func (m *maker) name() string {
	return pick(m, "x", "x", "y", "y", "z", "x'", "y'", "v", "abcdefghijkl")
}

// known is a variable of an order, if there is one.
func (m *maker) known(order int) (name string, is bool) {
	var l []string
	for i, d := range m.scope {
		hidden := slices.ContainsFunc(m.scope[i+1:], func(x api.Decl) bool { return x.Name == d.Name })
		if d.Order == order && !hidden {
			l = append(l, d.Name)
		}
	}
	if len(l) == 0 {
		return "", false
	}
	return l[m.upTo(len(l))], true
}

func (m *maker) node(s string, kids ...api.Node) api.Node { return at(m.upTo(2000), op(s, kids...)) }

func (m *maker) part() api.Node {
	name, is := m.known(1)
	switch sort := m.upTo(5); {
	case !is || sort == 0:
		return at(m.upTo(2000), num(m.upTo(api.MaxNum+1)))
	case sort == 1:
		return at(m.upTo(2000), plus(1+m.upTo(api.MaxNum), at(m.upTo(2000), v(name))))
	}
	return at(m.upTo(2000), v(name))
}

func (m *maker) one() api.Node {
	if name, is := m.known(2); is && m.upTo(4) > 0 {
		return at(m.upTo(2000), v(name))
	}
	n := m.node("set")
	for range m.upTo(3) {
		n.Kids = append(n.Kids, m.part())
	}
	return n
}

// term is one of an order, if there is one.
func (m *maker) term(order int) (n api.Node, is bool) {
	switch order {
	case 0:
		name, is := m.known(0)
		return at(m.upTo(2000), v(name)), is
	case 1:
		return m.part(), true
	}
	n = m.one()
	for m.upTo(4) == 0 {
		n = m.node(pick(m, "union", "inter", "minus"), n, m.one())
	}
	return n, true
}

func (m *maker) atom() api.Node {
	if name, is := m.known(0); is && m.upTo(4) == 0 {
		return at(m.upTo(2000), api.Node{Op: "is", Name: name})
	}
	switch m.upTo(4) {
	case 0:
		return m.node(pick(m, "eq", "ne", "lt", "le"), m.part(), m.part())
	case 1:
		set, _ := m.term(2)
		return m.node(pick(m, "in", "notin"), m.part(), set)
	}
	a, _ := m.term(2)
	b, _ := m.term(2)
	return m.node(pick(m, "eq", "ne", "sub"), a, b)
}

// call is a call, or an atom where there is none to be made.
func (m *maker) call() api.Node {
	if len(m.preds) == 0 {
		return m.atom()
	}
	x := m.preds[m.upTo(len(m.preds))]
	if m.steep {
		x = m.preds[len(m.preds)-1]
	}
	n := at(m.upTo(2000), call(x.Name))
	for _, d := range x.Params {
		kid, is := m.term(d.Order)
		if !is {
			return m.atom()
		}
		n.Kids = append(n.Kids, kid)
	}
	return n
}

func (m *maker) formula(levels int) api.Node {
	if levels == 0 {
		return pick(m, m.atom, m.call, m.call)()
	}
	switch m.upTo(9) {
	case 0:
		return m.node("not", m.formula(levels-1))
	case 1:
		return m.call()
	case 2, 3, 4, 5:
		n := at(m.upTo(2000), quant(pick(m, "ex", "all"), m.upTo(3), m.name(), api.Node{}))
		outer := m.scope
		m.scope = append(slices.Clip(outer), api.Decl{Name: n.Name, Order: n.N})
		n.Kids[0] = m.formula(levels - 1)
		m.scope = outer
		return n
	}
	return m.node(pick(m, "and", "or", "imp", "iff"), m.formula(levels-1), m.formula(levels-1))
}

// decls is variables, each of a name of its own.
func (m *maker) decls(most int) (l []api.Decl) {
	for range m.upTo(most + 1) {
		d := api.Decl{Name: m.name(), Order: m.upTo(3), At: m.upTo(2000)}
		if !slices.ContainsFunc(l, func(x api.Decl) bool { return x.Name == d.Name }) {
			l = append(l, d)
		}
	}
	return l
}

func (m *maker) prog(many, levels int) (p api.Prog) {
	m.preds = nil
	for i := range many {
		x := api.Pred{Name: pick(m, "p", "q", "r", "x", "y") + fmt.Sprint(i), Params: m.decls(7), At: m.upTo(2000)}
		x.Params = x.Params[:min(len(x.Params), api.MaxParams)]
		if i < 2 {
			x.Name = []string{"x", "y"}[i]
		}
		m.scope = x.Params
		if m.steep {
			x.Body = m.formula(levels)
		} else {
			x.Body = m.formula(m.upTo(levels + 1))
		}
		m.preds = append(m.preds, x)
	}
	p.Decls, p.Preds = m.decls(6), m.preds
	m.scope = p.Decls
	p.Main = m.formula(levels)
	return p
}

// sizeOf is how many nodes there are, all of them.
func sizeOf(n api.Node) int {
	size := 1
	for _, k := range n.Kids {
		size += sizeOf(k)
	}
	return size
}

// expandedBy is Main with what put answers for each call, and each Pred's Body
// likewise, if none of them has too many nodes.
func expandedBy(p api.Prog, put func(x api.Pred, terms []api.Node) api.Node) (n api.Node, preds []api.Pred, is bool) {
	var in func(n api.Node) api.Node
	in = func(n api.Node) api.Node {
		if n.Op == "call" {
			i := slices.IndexFunc(preds, func(x api.Pred) bool { return x.Name == n.Name })
			return put(preds[i], n.Kids)
		}
		var kids []api.Node
		for _, k := range n.Kids {
			kids = append(kids, in(k))
		}
		n.Kids = kids
		return n
	}
	for _, x := range p.Preds {
		x.Body = in(x.Body)
		if sizeOf(x.Body) > api.MaxSize {
			return n, nil, false
		}
		preds = append(preds, x)
	}
	n = in(p.Main)
	return n, preds, sizeOf(n) <= api.MaxSize
}

// putByWords is a Body with terms for its Params as chapter 7 tells.
func putByWords(x api.Pred, terms []api.Node) api.Node {
	var names []string
	for _, d := range x.Params {
		names = append(names, d.Name)
	}
	return free.Put(x.Body, names, terms)
}

// putPlainly is a Body with terms for its Params, whatever it binds.
func putPlainly(x api.Pred, terms []api.Node) api.Node {
	var in func(n api.Node) api.Node
	in = func(n api.Node) api.Node {
		i := slices.IndexFunc(x.Params, func(d api.Decl) bool { return d.Name == n.Name })
		if i >= 0 && n.Op == "var" {
			return at(n.At, terms[i])
		}
		if i >= 0 && n.Op == "is" {
			n.Name = terms[i].Name
		}
		var kids []api.Node
		for _, k := range n.Kids {
			kids = append(kids, in(k))
		}
		n.Kids = kids
		if n.Op == "plus" && kids[0].Op != "var" {
			return api.Node{Op: kids[0].Op, N: n.N + kids[0].N, At: n.At, Kids: kids[0].Kids}
		}
		return n
	}
	return in(x.Body)
}

// ownNames is a program in which each quantifier has a name of its own, that
// can't be caught as nothing else has it.
func ownNames(p api.Prog) api.Prog {
	count := 0
	var in func(n api.Node, old, own []string) api.Node
	in = func(n api.Node, old, own []string) api.Node {
		switch n.Op {
		case "ex", "all":
			count++
			old, own = append(slices.Clip(old), n.Name), append(slices.Clip(own), fmt.Sprint("#", count))
			n.Name = own[len(own)-1]
		case "var", "is":
			for i, name := range slices.Backward(old) {
				if name == n.Name {
					n.Name = own[i]
					break
				}
			}
		}
		var kids []api.Node
		for _, k := range n.Kids {
			kids = append(kids, in(k, old, own))
		}
		n.Kids = kids
		return n
	}
	q := api.Prog{Decls: p.Decls, Main: in(p.Main, nil, nil)}
	for _, x := range p.Preds {
		x.Body = in(x.Body, nil, nil)
		q.Preds = append(q.Preds, x)
	}
	return q
}

// nameless is a node in which each name that is bound is how many quantifiers
// are between it and its own; above is what binds names, the outermost first.
func nameless(n api.Node, above []string) api.Node {
	inner := above
	switch n.Op {
	case "ex", "all":
		inner = append(slices.Clip(above), n.Name)
		n.Name = ""
	case "var", "is":
		for i := range above {
			if above[len(above)-1-i] == n.Name {
				return api.Node{Op: n.Op + " bound", N: i, At: n.At}
			}
		}
	}
	var kids []api.Node
	for _, k := range n.Kids {
		kids = append(kids, nameless(k, inner))
	}
	n.Kids = kids
	return n
}

// P8.2: namesLeft is the free names of a formula, but for those of terms whose
// Params do not stand in the Bodies of expanded Preds.
func namesLeft(n api.Node, preds []api.Pred) (l []string) {
	switch n.Op {
	case "var", "is":
		l = append(l, n.Name)
	case "call":
		x := preds[slices.IndexFunc(preds, func(x api.Pred) bool { return x.Name == n.Name })]
		for i, k := range n.Kids {
			if slices.Contains(namesLeft(x.Body, nil), x.Params[i].Name) {
				l = append(l, namesLeft(k, preds)...)
			}
		}
	default:
		for _, k := range n.Kids {
			l = append(l, namesLeft(k, preds)...)
		}
	}
	if n.Op == "ex" || n.Op == "all" {
		l = slices.DeleteFunc(l, func(name string) bool { return name == n.Name })
	}
	slices.Sort(l)
	return slices.Compact(l)
}

// callsOf is the names of all calls, one by one.
func callsOf(n api.Node) (l []string) {
	if n.Op == "call" {
		l = append(l, n.Name)
	}
	for _, k := range n.Kids {
		l = append(l, callsOf(k)...)
	}
	slices.Sort(l)
	return slices.Compact(l)
}

// A tally is how many programs there were of a sort.
type tally struct{ called, limits, renamed, fewer, formulas, others int }

func TestAsTheRulesTell(t *testing.T) {
	m := &maker{state: 1}
	var count tally
	for i := range 3000 {
		many, levels := i%9, i%6
		if m.steep = i%8 == 0; m.steep {
			many, levels = 12, 5
		}
		p := m.prog(many, levels)
		if at, err := kinds.Check(p); err != api.OK {
			t.Fatalf("no program: %s, %d, %d", short(p), at, err)
		}
		if l := macro.Calls(p.Main); !slices.Equal(l, callsOf(p.Main)) {
			t.Fatalf("%s: calls %q", short(p.Main), l)
		}
		got, err := asked(t, p)
		want, preds, is := expandedBy(p, putByWords)
		if !is {
			count.limits++
			if err != api.ErrLimit || !alike(got, api.Node{}) {
				t.Fatalf("%s: %s, %d and no limit", short(p), short(got), err)
			}
			continue
		}
		if err != api.OK || !alike(got, want) {
			t.Fatalf("%s: %s, %d, not %s", short(p), short(got), err, short(want))
		}
		wantMeaning(t, p, got)
		wantFollowing(t, p, preds, got, &count)
	}
	if count.called < 1000 || count.limits < 100 || count.renamed < 500 || count.fewer < 500 || count.formulas < 1000 || count.others < 100 {
		t.Error("too few of a sort:", count)
	}
}

// wantMeaning: what is bound is bound by its own quantifier still.
func wantMeaning(t *testing.T, p api.Prog, got api.Node) {
	t.Helper()
	plain, _, _ := expandedBy(ownNames(p), putPlainly)
	if !alike(nameless(got, nil), nameless(plain, nil)) {
		t.Fatalf("%s: %s means another thing", short(p), short(got))
	}
}

// wantFollowing is P8.2, and that what is expanded is expanded as it is.
func wantFollowing(t *testing.T, p api.Prog, preds []api.Pred, got api.Node, count *tally) {
	t.Helper()
	if len(macro.Calls(p.Main)) > 0 {
		count.called++
	}
	if same, _, _ := expandedBy(p, putPlainly); !alike(same, got) {
		count.renamed++
	}
	if l := macro.Calls(got); len(l) > 0 {
		t.Fatalf("%s: calls %q", short(p), l)
	}
	names, left := free.Names(got), namesLeft(p.Main, preds)
	if !slices.Equal(names, left) {
		t.Fatalf("%s: names %q, not %q", short(p), names, left)
	}
	if all := free.Names(p.Main); len(all) > len(left) {
		count.fewer++
	}
	if !tree.IsFormula(got) {
		count.others++
		return
	}
	count.formulas++
	again := api.Prog{Decls: p.Decls, Main: got}
	if n, err := macro.Expand(again); err != api.OK || !alike(n, got) {
		t.Fatalf("%s: %s, %d of what is expanded", short(p), short(n), err)
	}
	again.Preds = p.Preds
	if n, err := macro.Expand(again); err != api.OK || !alike(n, got) {
		t.Fatalf("%s: %s, %d of what is expanded, beside its Preds", short(p), short(n), err)
	}
}
