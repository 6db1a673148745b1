package show_test

import (
	"strconv"
	"strings"
	"testing"

	"sibyl/api"
	"sibyl/parse"
	"sibyl/show"
	"sibyl/tree"
)

// P5.3: there and back

// dice is numbers in no plain order, the same ones each time.
type dice uint32

func (r *dice) upTo(most int) int {
	*r = *r*1664525 + 1013904223
	return int(*r>>16) % most
}

func pick[T any](r *dice, l []T) T { return l[r.upTo(len(l))] }

func name(r *dice) string {
	return pick(r, strings.Fields("x y A B α p q' _1 ωω' in_ true' abcdefghijkl"))
}

func several(r *dice, most int, kid func(r *dice) pair) []pair {
	var l []pair
	for range r.upTo(most + 1) {
		l = append(l, kid(r))
	}
	return l
}

func madePart(r *dice) pair {
	switch r.upTo(3) {
	case 0:
		return num(r.upTo(api.MaxNum + 1))
	case 1:
		return plus(name(r), 1+r.upTo(api.MaxNum))
	}
	return v(name(r))
}

func madeTerm(r *dice) pair {
	one := func() pair {
		if r.upTo(3) == 0 {
			return set(several(r, api.MaxParams, madePart)...)
		}
		return madePart(r)
	}
	k := one()
	for r.upTo(3) == 0 {
		k = pick(r, joins).of(k, one())
	}
	return k
}

func madeAtom(r *dice) pair {
	switch r.upTo(5) {
	case 0:
		return truth(pick(r, []string{"true", "false"}))
	case 1:
		return is(name(r))
	case 2:
		return call(name(r), several(r, api.MaxParams, madeTerm)...)
	}
	return pick(r, relations).of(madeTerm(r), madeTerm(r))
}

// madeFormula is one of at most that many levels above its atoms.
func madeFormula(r *dice, levels int) pair {
	if levels == 0 {
		return madeAtom(r)
	}
	switch r.upTo(6) {
	case 0:
		return not(madeFormula(r, levels-1))
	case 1:
		return quant(pick(r, []string{"ex", "all"}), r.upTo(3), name(r), madeFormula(r, levels-1))
	case 2:
		return madeAtom(r)
	}
	return pick(r, signs).within(madeFormula(r, levels-1), madeFormula(r, levels-1))
}

func madeDecls(r *dice, most int) (l []api.Decl, texts []string) {
	for range r.upTo(most + 1) {
		d := decl(name(r), r.upTo(3))
		l = append(l, d)
		texts = append(texts, "var"+strconv.Itoa(d.Order)+" "+d.Name)
	}
	return l, texts
}

// madeProg is a program, and the text that it is shown as.
func madeProg(r *dice, formula func() pair) (p api.Prog, s string) {
	decls, texts := madeDecls(r, 4)
	p.Decls = decls
	for _, x := range texts {
		s += x + ";\n"
	}
	for range r.upTo(3) {
		params, texts := madeDecls(r, api.MaxParams)
		body := formula()
		p.Preds = append(p.Preds, api.Pred{Name: name(r), Params: params, Body: body.n})
		s += "pred " + p.Preds[len(p.Preds)-1].Name + "(" + strings.Join(texts, ", ") + ") = " + body.s + ";\n"
	}
	main := formula()
	p.Main = main.n
	return p, s + main.s + ";\n"
}

// within is within how many formulas and uns the innermost one of what is shown
// of a formula lies: a quantifier's is within the parentheses' and the quantifier's.
func within(n api.Node) int {
	switch n.Op {
	case "not":
		return 1 + within(n.Kids[0])
	case "and", "or", "imp", "iff":
		return 1 + max(within(n.Kids[0]), within(n.Kids[1]))
	case "ex", "all":
		return 2 + within(n.Kids[0])
	}
	return 0
}

// refusal is what Parse is to say of what is shown of a program.
func refusal(p api.Prog, s string) api.Errno {
	deepest := within(p.Main)
	for _, x := range p.Preds {
		deepest = max(deepest, within(x.Body))
	}
	switch {
	case len(s) > api.MaxText:
		return api.ErrLong
	case deepest > api.MaxDepth-1:
		return api.ErrDeep
	}
	return api.OK
}

// wantBack: p is shown as s, which is parsed as p, if it is not too long or too deep; it tells what Parse said.
func wantBack(t *testing.T, p api.Prog, s string) api.Errno {
	t.Helper()
	if !tree.Is(p) {
		t.Fatalf("no program: %.200q", s)
	}
	if got := show.Prog(p); got != s {
		t.Errorf("shown as %q, not %q", got, s)
	}
	q, _, err := parse.Parse(s)
	if want := refusal(p, s); err != want {
		t.Errorf("%.200q: %d, not %d", s, err, want)
	}
	if err == api.OK && (!tree.SameProg(q, p) || show.Prog(q) != s) {
		t.Errorf("%q is parsed as another one", s)
	}
	return err
}

func TestThereAndBack(t *testing.T) {
	r := dice(1)
	count := map[api.Errno]int{}
	for i := range 8000 {
		p, s := madeProg(&r, func() pair { return madeFormula(&r, i%8) })
		count[wantBack(t, p, s)]++
	}
	if count[api.OK] < 5000 || count[api.ErrLong] < 50 {
		t.Error("too few of a sort:", count)
	}
}

// TestThereAndBackDeep: formulas as deep as they may be, one way down.
func TestThereAndBackDeep(t *testing.T) {
	r := dice(1)
	count := map[api.Errno]int{}
	chain := func() pair {
		k := is(name(&r))
		for range r.upTo(api.MaxDepth) {
			switch r.upTo(5) {
			case 0:
				k = quant(pick(&r, []string{"ex", "all"}), r.upTo(3), name(&r), k)
			case 1:
				k = pick(&r, signs).within(k, a)
			case 2:
				k = pick(&r, signs).within(b, k)
			default:
				k = not(k)
			}
		}
		return k
	}
	for range 8000 {
		p, s := madeProg(&r, chain)
		count[wantBack(t, p, s)]++
	}
	if count[api.OK] < 2000 || count[api.ErrDeep] < 1000 {
		t.Error("too few of a sort:", count)
	}
}

// TestDepths: what is just as deep as it may be, and what is deeper than 4 lets be.
func TestDepths(t *testing.T) {
	for i, x := range []struct {
		above func(k pair) pair
		adds  int
	}{
		{not, 1},
		{func(k pair) pair { return signs[0].within(k, a) }, 1},
		{func(k pair) pair { return signs[2].within(a, k) }, 1},
		{func(k pair) pair { return quant("ex", 1, "x", k) }, 2},
		{func(k pair) pair { return quant("all", 2, "X", k) }, 2},
	} {
		k := a
		for depth := range api.MaxDepth {
			want := api.OK
			if depth*x.adds > api.MaxDepth-1 {
				want = api.ErrDeep
			}
			for _, p := range []api.Prog{{Main: k.n}, {Preds: []api.Pred{{Name: "p", Body: k.n}}, Main: k.n}} {
				s := k.s + ";\n"
				if len(p.Preds) > 0 {
					s = "pred p() = " + s + s
				}
				if err := wantBack(t, p, s); err != want {
					t.Error(i, depth, err)
				}
			}
			k = x.above(k)
		}
	}
}

// TestLengths: what is just as long as a text may be, and one byte longer.
func TestLengths(t *testing.T) {
	p := api.Prog{Main: yes.n}
	for range 247 {
		p.Decls = append(p.Decls, decl("x", 1))
	}
	p.Decls = append(p.Decls, decl("xy", 1), decl("xy", 1))
	text := func() string {
		return strings.Repeat("var1 x;\n", 247) + "var1 xy;\nvar1 " + p.Decls[248].Name + ";\ntrue;\n"
	}
	if err := wantBack(t, p, text()); err != api.OK || len(text()) != api.MaxText {
		t.Error(err, len(text()))
	}
	p.Decls[248].Name = "xyz"
	if err := wantBack(t, p, text()); err != api.ErrLong || len(text()) != api.MaxText+1 {
		t.Error(err, len(text()))
	}
}

// ands is a formula of that many trues.
func ands(count int) pair {
	if count == 1 {
		return yes
	}
	return signs[0].within(ands(count/2), ands(count-count/2))
}

// TestGreatFormulas: of as many nodes, and as deep, as a formula may be.
func TestGreatFormulas(t *testing.T) {
	for _, k := range []pair{ands(1000), not(ands(999)), quant("ex", 2, "X", ands(999)), ands(200)} {
		if s := show.Formula(k.n); s != k.s {
			t.Errorf("%.200q, not %.200q", s, k.s)
		}
		wantBack(t, api.Prog{Preds: []api.Pred{{Name: "p", Body: k.n}, {Name: "q", Body: k.n}}, Main: k.n}, "pred p() = "+k.s+";\npred q() = "+k.s+";\n"+k.s+";\n")
	}
	if tree.Size(not(ands(1000)).n) != api.MaxSize || tree.Size(ands(1000).n) != api.MaxSize-1 {
		t.Error("not of the size that was meant")
	}
	wantBack(t, api.Prog{Main: not(ands(1000)).n}, not(ands(1000)).s+";\n")
	term := A
	for range api.MaxDepth - 3 {
		wantTerm(t, term)
		term = union.of(term, set(x, y))
	}
	if term = less.of(term, B); tree.Depth(term.n) != api.MaxDepth || show.Term(term.n) != term.s {
		t.Errorf("%d, %q", tree.Depth(term.n), show.Term(term.n))
	}
}

// TestParsedAndShown: how a text was written does not matter.
func TestParsedAndShown(t *testing.T) {
	for _, x := range []struct{ s, want string }{
		{"true;", "true;\n"}, {"  ( ( a ) ) # and so on\n;", "a;\n"}, {"~~(~(a));", "~~~a;\n"},
		{"a & b & c | d;", "(((a & b) & c) | d);\n"}, {"a | b & c;", "(a | (b & c));\n"}, {"a => b => c;", "(a => (b => c));\n"}, {"a <=> b <=> c;", "((a <=> b) <=> c);\n"},
		{"a & b | ~(c => d) <=> ex1 x: x<3 & all2 Y: x in Y\\{1,x+2} union Y;", "(((a & b) | ~(c => d)) <=> (ex1 x: (x < 3 & (all2 Y: x in Y \\ {1, x + 2} union Y))));\n"},
		{"var1 a,b;var2 C;pred p(var1 x)=x=0;p(a)&p(b+1)=>{a,b} sub C;", "var1 a;\nvar1 b;\nvar2 C;\npred p(var1 x) = x = 0;\n((p(a) & p(b + 1)) => {a, b} sub C);\n"},
	} {
		p, _, err := parse.Parse(x.s)
		if s := show.Prog(p); err != api.OK || s != x.want {
			t.Errorf("%q is shown as %q, not %q", x.s, s, x.want)
		}
		wantBack(t, p, x.want)
	}
}

// TestParsedTooDeep: Parse answers what is no formula by its Depth, too: that is shown.
func TestParsedTooDeep(t *testing.T) {
	for _, count := range []int{30, 300, 999} {
		p, _, err := parse.Parse("a" + strings.Repeat("&a", count) + ";")
		if s, want := show.Prog(p), strings.Repeat("(", count)+"a"+strings.Repeat(" & a)", count)+";\n"; err != api.OK || s != want {
			t.Errorf("%d: %.200q, %d", count, s, err)
		}
	}
	// As many nodes as a text has room for, but for what show writes between them.
	bare := strings.NewReplacer("(", "", ")", "", " ", "", "\n", "")
	for _, text := range []string{strings.Repeat("~a&", 665) + "~a;", strings.Repeat("a=b&", 499) + "a=b;", strings.Repeat("p({0,0,0})&", 181) + "a;"} {
		p, _, err := parse.Parse(text)
		if s := show.Prog(p); err != api.OK || bare.Replace(s) != bare.Replace(text) {
			t.Errorf("%.200q, %d", s, err)
		}
	}
}
