package kinds_test

import (
	"slices"
	"testing"

	"sibyl/api"
	"sibyl/kinds"
	"sibyl/tree"
)

// Here all that is wrong with a program is listed, in the order that P6.2
// tells; the first of it is what Check is to tell.

type fault struct {
	at  int
	err api.Errno
}

// orderIn is a name's order, the last one of it, or -1.
func orderIn(scope []api.Decl, name string) int {
	for _, d := range slices.Backward(scope) {
		if d.Name == name {
			return max(d.Order, -1)
		}
	}
	return -1
}

// kindOf is a term's kind, if nothing is wrong, and what is wrong.
func kindOf(scope []api.Decl, n api.Node) (kind int, l []fault) {
	switch n.Op {
	case "num":
		return 1, nil
	case "var":
		if kind = orderIn(scope, n.Name); kind < 0 {
			return 0, []fault{{n.At, api.ErrName}}
		}
		return kind, nil
	case "plus":
		return 1, wrongKind(scope, n.Kids[0], 1, n.At)
	case "set":
		for _, k := range n.Kids {
			l = append(l, wrongKind(scope, k, 1, k.At)...)
		}
		return 2, l
	}
	return 2, append(wrongKind(scope, n.Kids[0], 2, n.Kids[0].At), wrongKind(scope, n.Kids[1], 2, n.Kids[1].At)...)
}

func wrongKind(scope []api.Decl, n api.Node, kind, at int) []fault {
	got, l := kindOf(scope, n)
	if got != kind {
		l = append(l, fault{at, api.ErrKind})
	}
	return l
}

// wrong is what is wrong with a formula.
func wrong(scope []api.Decl, preds []api.Pred, n api.Node) (l []fault) {
	switch n.Op {
	case "ex", "all":
		return wrong(append(slices.Clip(scope), api.Decl{Name: n.Name, Order: n.N}), preds, n.Kids[0])
	case "is":
		if order := orderIn(scope, n.Name); order < 0 {
			return []fault{{n.At, api.ErrName}}
		} else if order > 0 {
			return []fault{{n.At, api.ErrKind}}
		}
		return nil
	case "true", "false", "not", "and", "or", "imp", "iff":
		for _, k := range n.Kids {
			l = append(l, wrong(scope, preds, k)...)
		}
		return l
	case "call":
		return wrongCall(scope, preds, n)
	}
	a, l := kindOf(scope, n.Kids[0])
	b, more := kindOf(scope, n.Kids[1])
	l = append(l, more...)
	for _, relation := range relations {
		if opOf[relation.sign] == n.Op && !slices.Contains(relation.may, [2]int{a, b}) {
			l = append(l, fault{n.At, api.ErrKind})
		}
	}
	return l
}

var opOf = map[string]string{"=": "eq", "~=": "ne", "<": "lt", "<=": "le", "in": "in", "notin": "notin", "sub": "sub"}

func wrongCall(scope []api.Decl, preds []api.Pred, n api.Node) (l []fault) {
	i := slices.IndexFunc(preds, func(x api.Pred) bool { return x.Name == n.Name })
	if i < 0 {
		return []fault{{n.At, api.ErrName}}
	}
	if len(preds[i].Params) != len(n.Kids) {
		return []fault{{n.At, api.ErrKind}}
	}
	for j, k := range n.Kids {
		l = append(l, wrongKind(scope, k, preds[i].Params[j].Order, n.At)...)
	}
	return l
}

func twice(decls []api.Decl) (l []fault) {
	for i, d := range decls {
		if orderIn(decls[:i], d.Name) >= 0 {
			l = append(l, fault{d.At, api.ErrTwice})
		}
	}
	return l
}

// wrongProg is what is wrong with a program.
func wrongProg(p api.Prog) []fault {
	l := twice(p.Decls)
	for i, x := range p.Preds {
		if slices.ContainsFunc(p.Preds[:i], func(y api.Pred) bool { return x.Name == y.Name }) {
			l = append(l, fault{x.At, api.ErrTwice})
		}
		l = append(l, twice(x.Params)...)
		l = append(l, wrong(x.Params, p.Preds[:i], x.Body)...)
	}
	return append(l, wrong(p.Decls, p.Preds, p.Main)...)
}

// A maker makes programs that are mostly right: what it draws are numbers in
// no plain order, the same ones each time.
type maker struct {
	state uint32
	scope []api.Decl
	preds []api.Pred
}

func (m *maker) upTo(most int) int {
	m.state = m.state*1664525 + 1013904223
	return int(m.state>>16) % most
}

func (m *maker) place() int { return m.upTo(4000) - 2000 }

func (m *maker) name() string { return string(rune('a' + m.upTo(6))) }

// known is a variable of an order, now and then any.
func (m *maker) known(order int) string {
	if i := m.upTo(len(m.scope) + 1); i < len(m.scope) && m.upTo(60) > 0 {
		for range m.scope {
			if name := m.scope[i].Name; orderIn(m.scope, name) == order {
				return name
			}
			i = (i + 1) % len(m.scope)
		}
	}
	return m.name()
}

func (m *maker) node(op string, kids ...api.Node) api.Node {
	return api.Node{Op: op, At: m.place(), Kids: kids}
}

func (m *maker) named(op, name string, kids ...api.Node) api.Node {
	n := m.node(op, kids...)
	n.Name = name
	return n
}

// part is mostly a number.
func (m *maker) part() api.Node {
	n := m.named("var", m.known(1))
	switch m.upTo(3) {
	case 0:
		return m.node("num")
	case 1:
		n = m.node("plus", n)
		n.N = 1 + m.upTo(5)
	}
	return n
}

// one is a set that is none of two.
func (m *maker) one() api.Node {
	if m.upTo(2) == 0 {
		return m.named("var", m.known(2))
	}
	n := m.node("set")
	for range m.upTo(4) {
		n.Kids = append(n.Kids, m.part())
	}
	return n
}

// term is mostly of a kind.
func (m *maker) term(kind int) api.Node {
	if m.upTo(60) == 0 {
		kind = m.upTo(3)
	}
	switch kind {
	case 0:
		return m.named("var", m.known(0))
	case 1:
		return m.part()
	}
	n := m.one()
	for m.upTo(3) == 0 {
		n = m.node([]string{"union", "inter", "minus"}[m.upTo(3)], n, m.one())
	}
	return n
}

func (m *maker) atom() api.Node {
	switch m.upTo(8) {
	case 0:
		return m.node("true")
	case 1, 2:
		return m.named("is", m.known(0))
	case 3, 4:
		if len(m.preds) == 0 || m.upTo(60) == 0 {
			return m.named("call", m.name())
		}
		x := m.preds[m.upTo(len(m.preds))]
		n := m.named("call", x.Name)
		for _, d := range x.Params {
			n.Kids = append(n.Kids, m.term(d.Order))
		}
		if len(n.Kids) > 0 && m.upTo(60) == 0 {
			n.Kids = n.Kids[1:]
		}
		return n
	}
	relation := relations[m.upTo(len(relations))]
	may := relation.may[m.upTo(len(relation.may))]
	return m.node(opOf[relation.sign], m.term(may[0]), m.term(may[1]))
}

func (m *maker) formula(levels int) api.Node {
	if levels == 0 {
		return m.atom()
	}
	switch m.upTo(5) {
	case 0:
		return m.node("not", m.formula(levels-1))
	case 1, 2:
		n := m.named([]string{"ex", "all"}[m.upTo(2)], m.name())
		n.N = m.upTo(3)
		outer := m.scope
		m.scope = append(slices.Clip(outer), api.Decl{Name: n.Name, Order: n.N})
		n.Kids = []api.Node{m.formula(levels - 1)}
		m.scope = outer
		return n
	}
	return m.node([]string{"and", "or", "imp", "iff"}[m.upTo(4)], m.formula(levels-1), m.formula(levels-1))
}

// decls is variables of unlike names, now and then of like ones.
func (m *maker) decls(most int) (l []api.Decl) {
	for range m.upTo(most + 1) {
		d := api.Decl{Name: m.name(), Order: m.upTo(3), At: m.place()}
		if orderIn(l, d.Name) < 0 || m.upTo(30) == 0 {
			l = append(l, d)
		}
	}
	return l
}

func (m *maker) prog(levels int) (p api.Prog) {
	m.preds = nil
	for range m.upTo(4) {
		x := api.Pred{Name: m.name(), Params: m.decls(3), At: m.place()}
		if m.upTo(30) > 0 && slices.ContainsFunc(m.preds, func(y api.Pred) bool { return x.Name == y.Name }) {
			continue
		}
		m.scope = x.Params
		x.Body = m.formula(m.upTo(levels + 1))
		m.preds = append(m.preds, x)
	}
	p.Decls, p.Preds = m.decls(6), m.preds
	m.scope = p.Decls
	p.Main = m.formula(levels)
	return p
}

func TestAsTheRulesTell(t *testing.T) {
	m := &maker{state: 1}
	count := map[api.Errno]int{}
	for i := range 40000 {
		p := m.prog(i % 5)
		if !tree.Is(p) {
			t.Fatalf("no program: %v", p)
		}
		var first fault
		if l := wrongProg(p); len(l) > 0 {
			first = l[0]
		}
		if at, err := kinds.Check(p); at != first.at || err != first.err {
			t.Errorf("%v: %d, %d, not %v", p, at, err, first)
		}
		count[first.err]++
		n := m.term(m.upTo(3))
		kind, l := kindOf(m.scope, n)
		want := fault{}
		if len(l) > 0 {
			kind, want = 0, l[0]
		}
		if got, at, err := kinds.Kind(m.scope, n); got != kind || at != want.at || err != want.err {
			t.Errorf("%v in %v: %d, %d, %d, not %d, %v", n, m.scope, got, at, err, kind, want)
		}
	}
	for _, err := range []api.Errno{api.OK, api.ErrName, api.ErrTwice, api.ErrKind} {
		if count[err] < 1000 {
			t.Error("too few of a sort:", count)
		}
	}
}
