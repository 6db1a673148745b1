package parse_test

import (
	"slices"
	"strconv"
	"strings"
	"testing"

	"sibyl/api"
)

// Here programs are made and written in many ways, each node's place noted as
// it is written: what is parsed is to be what was written.

// dice is numbers in no plain order, the same ones each time.
type dice uint32

func (x *dice) upTo(most int) int {
	*x = *x*1664525 + 1013904223
	return int(*x>>16) % most
}

func pick(x *dice, words string) string {
	l := strings.Fields(words)
	return l[x.upTo(len(l))]
}

func name(x *dice) string { return pick(x, "x y A B α p q' _1") }

func madeNumberPart(x *dice) api.Node {
	switch x.upTo(3) {
	case 0:
		return num(x.upTo(api.MaxNum + 1))
	case 1:
		return plus(name(x), 1+x.upTo(api.MaxNum))
	}
	return v(name(x))
}

func madePart(x *dice) api.Node {
	if x.upTo(3) > 0 {
		return madeNumberPart(x)
	}
	n := op("set")
	for range x.upTo(api.MaxParams + 1) {
		n.Kids = append(n.Kids, madeNumberPart(x))
	}
	return n
}

func madeTerm(x *dice) api.Node {
	n := madePart(x)
	for x.upTo(3) == 0 {
		n = op(pick(x, "union inter minus"), n, madePart(x))
	}
	return n
}

func madeFormula(x *dice, depth int) api.Node {
	sort := x.upTo(8)
	if depth == 0 {
		sort += 5
	}
	switch sort {
	case 0, 1, 2:
		return op(pick(x, "and or imp iff"), madeFormula(x, depth-1), madeFormula(x, depth-1))
	case 3:
		return op("not", madeFormula(x, depth-1))
	case 4:
		return quant(pick(x, "ex all"), x.upTo(3), name(x), madeFormula(x, depth-1))
	case 5, 6:
		return op(pick(x, "eq ne lt le in notin sub"), madeTerm(x), madeTerm(x))
	case 7:
		n := call(name(x))
		for range x.upTo(api.MaxParams + 1) {
			n.Kids = append(n.Kids, madeTerm(x))
		}
		return n
	case 8:
		return op(pick(x, "true false"))
	}
	return is(name(x))
}

func madeDecls(x *dice, most int) []api.Decl {
	var l []api.Decl
	for range x.upTo(most + 1) {
		l = append(l, decl(name(x), x.upTo(3)))
	}
	return l
}

func madeProg(x *dice) api.Prog {
	p := api.Prog{Decls: madeDecls(x, 4), Main: madeFormula(x, 4)}
	for range x.upTo(3) {
		p.Preds = append(p.Preds, api.Pred{Name: name(x), Params: madeDecls(x, api.MaxParams), Body: madeFormula(x, 2)})
	}
	return p
}

// A writer has a text so far, and chooses what is left out of it.
type writer struct {
	s string
	*dice
}

// token writes one, and tells its place.
func (w *writer) token(s string) int {
	gaps := []string{" ", "  ", "\n", "\t\r\n", "#\n", " # a & (\n "}
	isSign := func(c byte) bool { return strings.IndexByte(`=~<>&|(){},;:+\`, c) >= 0 }
	// Beside a sign nothing need stand: no two signs that follow each other in
	// a program are one without it.
	if len(w.s) > 0 && !isSign(w.s[len(w.s)-1]) && !isSign(s[0]) || w.upTo(4) == 0 {
		w.s += gaps[w.upTo(len(gaps))]
	}
	at := len(w.s)
	w.s += s
	return at
}

func signOf(o string) string {
	for _, x := range slices.Concat(between, relations) {
		if x.op == o {
			return x.sign
		}
	}
	if o == "minus" {
		return `\`
	}
	return o
}

// list writes terms within two signs, and tells the first one's place.
func (w *writer) list(open, shut string, kids []api.Node) int {
	at := w.token(open)
	for i := range kids {
		if i > 0 {
			w.token(",")
		}
		w.term(&kids[i])
	}
	w.token(shut)
	return at
}

func (w *writer) term(n *api.Node) {
	switch n.Op {
	case "var":
		n.At = w.token(n.Name)
	case "num":
		n.At = w.token(strconv.Itoa(n.N))
	case "plus":
		w.term(&n.Kids[0])
		n.At = n.Kids[0].At
		w.token("+")
		w.token(strconv.Itoa(n.N))
	case "set":
		n.At = w.list("{", "}", n.Kids)
	default: // union, inter, minus and the relations
		w.term(&n.Kids[0])
		n.At = w.token(signOf(n.Op))
		w.term(&n.Kids[1])
	}
}

// What a formula may be at a place without parentheses: the loosest sign that
// it may have.
const (
	anySign = iota
	fromImp
	fromOr
	fromAnd
	noSign
)

// formula writes one at a place where no looser sign than that may stand, and
// where it is the last one or not: what is behind a quantifier's formula would
// be taken for a part of it.
func (w *writer) formula(n *api.Node, loosest int, last bool) {
	level := slices.Index([]string{"iff", "imp", "or", "and"}, n.Op)
	quantified := n.Op == "ex" || n.Op == "all"
	if w.upTo(8) == 0 || level >= 0 && level < loosest || quantified && !last {
		w.token("(")
		w.formula(n, anySign, true)
		w.token(")")
		return
	}
	switch {
	case level >= 0:
		left, right := level, level+1
		if n.Op == "imp" {
			left, right = right, left
		}
		w.formula(&n.Kids[0], left, false)
		n.At = w.token(signOf(n.Op))
		w.formula(&n.Kids[1], right, last)
	case quantified:
		n.At = w.token(n.Op + strconv.Itoa(n.N))
		w.token(n.Name)
		w.token(":")
		w.formula(&n.Kids[0], anySign, true)
	case n.Op == "not":
		n.At = w.token("~")
		w.formula(&n.Kids[0], noSign, last)
	case n.Op == "call":
		n.At = w.token(n.Name)
		w.list("(", ")", n.Kids)
	case n.Op == "is":
		n.At = w.token(n.Name)
	case n.Op == "true", n.Op == "false":
		n.At = w.token(n.Op)
	default:
		w.term(n)
	}
}

// decls writes them one by one, or those of one order together.
func (w *writer) decls(l []api.Decl) {
	for i := range l {
		if i > 0 && l[i-1].Order == l[i].Order && w.upTo(3) > 0 {
			w.token(",")
		} else {
			if i > 0 {
				w.token(";")
			}
			w.token("var" + strconv.Itoa(l[i].Order))
		}
		l[i].At = w.token(l[i].Name)
	}
	if len(l) > 0 {
		w.token(";")
	}
}

func (w *writer) pred(x *api.Pred) {
	w.token("pred")
	x.At = w.token(x.Name)
	w.token("(")
	for i := range x.Params {
		if i > 0 {
			w.token(",")
		}
		w.token("var" + strconv.Itoa(x.Params[i].Order))
		x.Params[i].At = w.token(x.Params[i].Name)
	}
	w.token(")")
	w.token("=")
	w.formula(&x.Body, anySign, true)
	w.token(";")
}

func (w *writer) prog(p *api.Prog) {
	cut := w.upTo(len(p.Decls) + 1) // some of the decls behind some of the preds
	w.decls(p.Decls[:cut])
	for i := range p.Preds {
		if i == 1 {
			w.decls(p.Decls[cut:])
		}
		w.pred(&p.Preds[i])
	}
	if len(p.Preds) < 2 {
		w.decls(p.Decls[cut:])
	}
	w.formula(&p.Main, anySign, true)
	w.token(";")
}

func TestWhatWasWritten(t *testing.T) {
	next := dice(1)
	written := 0
	for range 4000 {
		p := madeProg(&next)
		w := writer{dice: &next}
		w.prog(&p)
		if len(w.s) > api.MaxText {
			continue
		}
		written++
		got := wantProg(t, w.s, p)
		if !slices.Equal(allPlaces(got), allPlaces(p)) {
			t.Errorf("%q: %v, not %v", w.s, allPlaces(got), allPlaces(p))
		}
	}
	if written < 3000 {
		t.Error("only so many were short enough:", written)
	}
}

// allPlaces is all places of a program, in its own order.
func allPlaces(p api.Prog) []int {
	var l []int
	for _, d := range p.Decls {
		l = append(l, d.At)
	}
	for _, x := range p.Preds {
		l = append(l, x.At)
		for _, d := range x.Params {
			l = append(l, d.At)
		}
		l = append(l, places(x.Body)...)
	}
	return append(l, places(p.Main)...)
}
