package macro_test

import (
	"fmt"
	"slices"
	"strings"
	"testing"

	"sibyl/api"
	"sibyl/kinds"
	"sibyl/macro"
	"sibyl/tree"
)

// P8.1: errors

func wantError(t *testing.T, p api.Prog, want api.Errno) {
	t.Helper()
	n, err := asked(t, p)
	if err != want || err != api.OK && !alike(n, api.Node{}) {
		t.Errorf("%s: %s, %d, not %d", short(p), short(n), err, want)
	}
}

// tooGreat is Preds of which the last one's Body would have too many nodes.
func tooGreat() string {
	s := "pred g0() = 1 = 2; "
	for k := 1; k <= 10; k++ {
		s += fmt.Sprintf("pred g%d() = g%d() & g%d(); ", k, k-1, k-1)
	}
	return s
}

func TestErrors(t *testing.T) {
	for _, x := range []struct {
		s   string
		err api.Errno
	}{
		{"x = 0;", api.ErrName}, {"q;", api.ErrName}, {"p();", api.ErrName}, {"true & (ex1 x: p(x));", api.ErrName}, {"var1 p; p(3);", api.ErrName}, {"pred p() = q(); true;", api.ErrName}, {"pred p(var1 a) = b = 0; true;", api.ErrName}, {"var1 x; pred p() = x = 0; p();", api.ErrName},
		// Its own, and one that comes later.
		{"pred p() = p(); true;", api.ErrName}, {"pred p() = p(); p();", api.ErrName}, {"pred p() = q(); pred q() = true; p();", api.ErrName}, {"pred p() = q(); pred q() = p(); true;", api.ErrName},
		{"pred p(var1 a) = true; p(y);", api.ErrName}, {"pred p(var1 a) = true; (ex1 x: p(x)) & p(x);", api.ErrName}, {"pred p(var1 a) = true; var0 q; p({r});", api.ErrName},
		{"var1 x, x; true;", api.ErrTwice}, {"var1 x; var2 x; true;", api.ErrTwice}, {"pred p() = true; pred p(var1 a) = false; true;", api.ErrTwice}, {"pred p(var1 a, var0 a) = true; true;", api.ErrTwice},
		{"var2 X; X < 3;", api.ErrKind}, {"var1 x; x;", api.ErrKind}, {"pred p(var1 a) = 3 in a; true;", api.ErrKind}, {"pred p() = true; p(1);", api.ErrKind}, {"pred p(var1 a) = true; p();", api.ErrKind}, {"pred p(var1 a) = true; p(1, 2);", api.ErrKind},
		{"pred p(var1 a) = true; p({});", api.ErrKind}, {"pred p(var2 a) = true; p(1);", api.ErrKind}, {"pred p(var0 a) = true; p(1);", api.ErrKind}, {"pred p(var1 a) = true; var0 q; p(q);", api.ErrKind}, {"pred p(var0 a, var1 b) = true; var0 q; p(q, q);", api.ErrKind}, {"pred p(var1 a) = true; pred q(var2 a) = p(a); true;", api.ErrKind},
		{"true;", api.OK}, {"var1 x; var2 X; x in X;", api.OK}, {"pred p(var1 p) = true; var1 p; p(p);", api.OK},
	} {
		p := prog(t, x.s)
		if _, err := kinds.Check(p); err != x.err {
			t.Errorf("%s: Check %d", x.s, err)
		}
		wantError(t, p, x.err)
		// Whatever else is wrong, a limit ahead of it or behind it.
		if x.err == api.OK {
			continue
		}
		wantError(t, prog(t, tooGreat()+x.s), x.err)
		wantError(t, prog(t, strings.TrimSuffix(tooGreat()+x.s, ";")+" & g10();"), x.err)
		last := x.s[strings.LastIndex(strings.TrimSuffix(x.s, ";"), ";")+1:]
		wantError(t, prog(t, strings.TrimSuffix(x.s, last)+tooGreat()+last), x.err)
	}
	// The first of several.
	wantError(t, prog(t, "var1 x, x; pred p() = y(); 3 in 4;"), api.ErrTwice)
	wantError(t, prog(t, "pred p() = y(); pred p() = true; 3 in 4;"), api.ErrName)
	wantError(t, prog(t, "pred p() = 3 in 4; pred p() = true; y();"), api.ErrKind)
}

// TestWhatIsNoProgram: ErrArg, whatever else is wrong.
func TestWhatIsNoProgram(t *testing.T) {
	good := op("true")
	deep := good
	for range api.MaxDepth {
		deep = op("not", deep)
	}
	one := make([]api.Node, 1)
	one[0] = api.Node{Op: "not", Kids: one}
	two := make([]api.Node, 2)
	two[0] = api.Node{Op: "and", Kids: two}
	two[1] = two[0]
	bad := []api.Node{
		{}, {Op: "xor"}, v("x"), num(3), op("set"), op("true", good), op("not"), op("and", good), op("not", good, good), op("not", v("x")), op("eq", v("x"), good), op("eq", num(-1), num(1)), op("eq", num(1), num(api.MaxNum+1)),
		op("eq", plus(0, v("x")), num(1)), op("eq", plus(1, num(1)), num(1)), is(""), is("in"), is("x "), is("abcdefghijklm"), call(""), call("true"), call("p", good), call("p", call("p")), call("p", slices.Repeat([]api.Node{num(1)}, api.MaxParams+1)...),
		quant("ex", 3, "x", good), quant("ex", -1, "x", good), quant("all", 1, "", good), {Op: "call", Name: "p", N: 1}, {Op: "true", N: 1}, {Op: "true", Name: "x"}, op("sub", v("X"), op("union", v("X"), op("union", v("X"), v("X")))),
		deep, sized(api.MaxSize + 1), one[0], two[0],
	}
	for i, n := range bad {
		for j, p := range []api.Prog{
			{Main: n}, {Preds: []api.Pred{pred("p", 1, "a", n)}, Main: good}, {Preds: []api.Pred{pred("p", 0, "", good), pred("q", 1, "x", n)}, Main: good}, {Decls: []api.Decl{{Name: "x"}, {Name: "x"}}, Main: n},
			{Preds: []api.Pred{pred("p", 0, "", n)}, Main: call("q")}, {Preds: []api.Pred{pred("p", 0, "", sized(api.MaxSize)), pred("q", 0, "", op("not", call("p")))}, Main: op("and", call("q"), n)},
		} {
			if n, err := macro.Expand(p); err != api.ErrArg || !alike(n, api.Node{}) {
				t.Error(i, j, n, err)
			}
		}
	}
	wantError(t, api.Prog{}, api.ErrArg)
	for _, name := range []string{"", "in", "x ", "1", "\xff", "abcdefghijklm"} {
		wantError(t, api.Prog{Decls: []api.Decl{{Name: name}}, Main: good}, api.ErrArg)
		wantError(t, api.Prog{Preds: []api.Pred{{Name: name, Body: good}}, Main: good}, api.ErrArg)
		wantError(t, api.Prog{Preds: []api.Pred{{Name: "p", Body: good, Params: []api.Decl{{Name: name}}}}, Main: good}, api.ErrArg)
	}
	for _, order := range []int{-1, 3} {
		wantError(t, api.Prog{Decls: []api.Decl{{Name: "x", Order: order}}, Main: good}, api.ErrArg)
		wantError(t, api.Prog{Preds: []api.Pred{pred("p", order, "a", good)}, Main: good}, api.ErrArg)
	}
	wantError(t, api.Prog{Preds: []api.Pred{pred("p", 1, "a b c d e f g", good)}, Main: good}, api.ErrArg)
	wantError(t, api.Prog{Preds: []api.Pred{pred("p", 1, "a b c d e f", good)}, Main: good}, api.OK)
}

// P8.1: limits

// sized is a formula of so many nodes of all sorts, no deeper than may be.
func sized(nodes int) api.Node {
	switch nodes {
	case 1:
		return op("true")
	case 2:
		return op("not", op("false"))
	case 3:
		return op("ne", num(1), num(2))
	case 4:
		return quant("all", 1, "s", op("le", v("s"), num(3)))
	case 5:
		return quant("ex", 1, "s", op("lt", plus(1, v("s")), num(3)))
	case 6:
		return op("notin", num(1), op("inter", op("set"), op("set", num(2))))
	case 7:
		return quant("ex", 0, "s", op("and", is("s"), quant("ex", 2, "s", op("sub", v("s"), v("s")))))
	case 8:
		return op("eq", op("union", op("set"), op("set")), op("minus", op("set", num(1)), op("set")))
	case 9:
		return quant("all", 2, "s", op("or", op("in", num(4), v("s")), op("not", op("not", op("not", op("true"))))))
	}
	if nodes > 100 {
		all := sized(1)
		for i := 2; i < 10; i++ {
			all = op([]string{"and", "or", "imp", "iff"}[i%4], all, sized(i))
		}
		return op("or", all, halved(nodes-1-tree.Size(all)))
	}
	return halved(nodes)
}

// halved is sized, of two formulas of it if there are nodes enough.
func halved(nodes int) api.Node {
	if nodes < 10 {
		return sized(nodes)
	}
	first := (nodes - 1) / 2
	return op("and", halved(first), halved(nodes-1-first))
}

// TestSized is of what the tests of limits stand on: where there is one node
// more than may be, it may be of each sort.
func TestSized(t *testing.T) {
	for nodes := 1; nodes <= api.MaxSize; nodes++ {
		n := sized(nodes)
		if _, err := kinds.Check(api.Prog{Main: n}); err != api.OK || tree.Size(n) != nodes {
			t.Fatal(nodes, tree.Size(n), err)
		}
		ops := map[string]int{}
		countOps(n, ops)
		for _, s := range strings.Fields("true false not and or imp iff ex all is eq ne lt le in notin sub var num plus set union inter minus") {
			if nodes > 100 && ops[s] == 0 {
				t.Error(nodes, s)
			}
		}
	}
}

func countOps(n api.Node, ops map[string]int) {
	ops[n.Op]++
	for _, k := range n.Kids {
		countOps(k, ops)
	}
}

// wantSize: so many nodes, or ErrLimit if those are too many.
func wantSize(t *testing.T, p api.Prog, nodes int) {
	t.Helper()
	n, err := asked(t, p)
	if nodes > api.MaxSize {
		if err != api.ErrLimit || !alike(n, api.Node{}) {
			t.Errorf("%d nodes: %d, %d", nodes, tree.Size(n), err)
		}
		return
	}
	if err != api.OK || tree.Size(n) != nodes {
		t.Errorf("%d nodes: %d, %d", nodes, tree.Size(n), err)
	}
}

func TestLimits(t *testing.T) {
	body := func(nodes int) api.Pred { return pred("p", 0, "", sized(nodes)) }
	for _, nodes := range []int{1, 2, 500, 1000, api.MaxSize - 1, api.MaxSize} {
		wantSize(t, api.Prog{Main: sized(nodes)}, nodes)
		wantSize(t, api.Prog{Preds: []api.Pred{body(nodes)}, Main: op("true")}, 1)
		wantSize(t, api.Prog{Preds: []api.Pred{body(nodes)}, Main: call("p")}, nodes)
		wantSize(t, api.Prog{Preds: []api.Pred{body(nodes)}, Main: op("not", call("p"))}, nodes+1)
		wantSize(t, api.Prog{Preds: []api.Pred{body(nodes)}, Main: quant("ex", 1, "x", op("not", call("p")))}, nodes+2)
		for _, more := range []int{1, 2, 998, 999, 1000} {
			wantSize(t, api.Prog{Preds: []api.Pred{body(nodes)}, Main: op("and", sized(more), call("p"))}, nodes+more+1)
			wantSize(t, api.Prog{Preds: []api.Pred{body(nodes)}, Main: op("imp", call("p"), sized(more))}, nodes+more+1)
			wantSize(t, api.Prog{Preds: []api.Pred{body(nodes), pred("q", 0, "", sized(more))}, Main: op("or", call("p"), call("q"))}, nodes+more+1)
			// In a Body that is called, and in one that is not.
			wantBody(t, api.Prog{Preds: []api.Pred{body(nodes), pred("q", 0, "", op("iff", call("p"), sized(more))), pred("r", 0, "", op("true"))}, Main: call("q")}, nodes+more+1)
		}
	}
	// In Main and in a Body alike.
	wantError(t, api.Prog{Preds: []api.Pred{body(api.MaxSize), pred("q", 0, "", op("not", call("p")))}, Main: op("not", call("p"))}, api.ErrLimit)
	wantError(t, api.Prog{Preds: []api.Pred{body(api.MaxSize), pred("q", 0, "", op("not", call("p")))}, Main: call("q")}, api.ErrLimit)
}

// TestLimitsByTerms: what counts is what stands in the end.
func TestLimitsByTerms(t *testing.T) {
	wide := op("set", slices.Repeat([]api.Node{plus(1, v("x"))}, api.MaxParams)...)
	decls := []api.Decl{{Name: "x", Order: 1}}
	twice, none := pred("p", 2, "A", op("sub", v("A"), v("A"))), pred("none", 2, "A B", op("true"))
	for _, term := range []api.Node{op("set"), op("set", num(1)), wide, op("union", op("inter", wide, wide), wide)} {
		nodes := tree.Size(term)
		for more := api.MaxSize - 2*nodes - 4; more <= api.MaxSize-2*nodes-1; more++ {
			both := op("and", call("p", term), sized(more))
			wantSize(t, api.Prog{Decls: decls, Preds: []api.Pred{twice}, Main: both}, 2*nodes+2+more)
			wantBody(t, api.Prog{Decls: decls, Preds: []api.Pred{twice, pred("q", 1, "x", both)}, Main: call("q", v("x"))}, 2*nodes+2+more)
		}
		// As great as Main may be, but with terms that do not stand in the end.
		more := api.MaxSize - 2*nodes - 2
		wantSize(t, api.Prog{Decls: decls, Preds: []api.Pred{none}, Main: op("and", call("none", term, term), sized(more))}, 2+more)
	}
}

// wantBody: what Main calls has so many nodes, whether it does so or not.
func wantBody(t *testing.T, p api.Prog, nodes int) {
	t.Helper()
	wantSize(t, p, nodes)
	if p.Main = op("true"); nodes > api.MaxSize {
		wantError(t, p, api.ErrLimit)
	} else {
		wantSize(t, p, 1)
	}
}

// TestLimitsBySums: a Body of 5 nodes has but 3 where a number is put.
func TestLimitsBySums(t *testing.T) {
	decls := []api.Decl{{Name: "x", Order: 1}}
	sums := pred("p", 1, "a", op("eq", plus(1, v("a")), plus(2, v("a"))))
	for more := api.MaxSize - 8; more <= api.MaxSize-4; more++ {
		for _, term := range []api.Node{v("x"), plus(9, v("x"))} {
			wantSize(t, api.Prog{Decls: decls, Preds: []api.Pred{sums}, Main: op("or", sized(more), call("p", term))}, more+6)
		}
		wantSize(t, api.Prog{Preds: []api.Pred{sums}, Main: op("or", sized(more), call("p", num(3)))}, more+4)
		// But each Body is by itself ahead of that.
		p := api.Prog{Decls: decls, Preds: []api.Pred{sums, pred("q", 1, "a", op("or", sized(more), call("p", v("a"))))}, Main: call("q", v("x"))}
		wantBody(t, p, more+6)
		if p.Main = call("q", num(1)); more+6 > api.MaxSize {
			wantError(t, p, api.ErrLimit)
		} else {
			wantSize(t, p, more+4)
		}
	}
}

// TestRowsThatGrow: each calls the one ahead of it twice, or puts a term twice,
// so that what is expanded would grow beyond all bounds.
func TestRowsThatGrow(t *testing.T) {
	for _, rows := range []int{1, 2, 8, 9, 10, 11, 12, 30, 64, 1000} {
		plain := []api.Pred{pred("p0", 0, "", op("true"))}
		bound := []api.Pred{pred("p0", 1, "a b", op("lt", v("a"), v("b")))}
		terms := []api.Pred{pred("p0", 2, "A", op("sub", op("set"), v("A")))}
		for k := 1; k < rows; k++ {
			name, ahead := fmt.Sprintf("p%d", k), fmt.Sprintf("p%d", k-1)
			plain = append(plain, pred(name, 0, "", op("and", call(ahead), call(ahead))))
			bound = append(bound, pred(name, 1, "a b", quant("ex", 1, "a'", op("or", call(ahead, v("b"), v("a'")), call(ahead, v("a'"), v("a"))))))
			terms = append(terms, pred(name, 2, "A", call(ahead, op("union", v("A"), v("A")))))
		}
		last := fmt.Sprintf("p%d", rows-1)
		power := 1 << min(rows-1, 20)
		wantRow(t, api.Prog{Preds: plain, Main: call(last)}, 2*power-1)
		wantRow(t, api.Prog{Preds: bound, Main: call(last, num(1), num(2))}, 5*power-2)
		wantRow(t, api.Prog{Preds: terms, Main: call(last, op("set"))}, 2*power+1)
		// No Body is too great, but Main would be.
		if rows >= 8 {
			wantSize(t, api.Prog{Preds: plain[:8], Main: op("iff", call("p7"), call("p7"))}, 511)
		}
		if rows >= 10 {
			wantSize(t, api.Prog{Preds: plain[:10], Main: op("iff", call("p9"), op("iff", call("p9"), op("iff", call("p9"), call("p9"))))}, 4*1023+3)
		}
	}
}

// wantRow is wantBody of a row too great to be copied time and again.
func wantRow(t *testing.T, p api.Prog, nodes int) {
	t.Helper()
	want := api.OK
	if nodes > api.MaxSize {
		want, nodes = api.ErrLimit, 1 // the empty node
	}
	n, err := macro.Expand(p)
	if err != want || tree.Size(n) != nodes || err != api.OK && !alike(n, api.Node{}) {
		t.Errorf("%d rows: %d nodes, %d, not %d, %d", len(p.Preds), tree.Size(n), err, nodes, want)
	}
	p.Main = op("false")
	if n, err := macro.Expand(p); err != want || n.Op == "" && err == api.OK {
		t.Errorf("%d rows that are not called: %q, %d, not %d", len(p.Preds), n.Op, err, want)
	}
}

// TestGreatTerms: as great a Body as may be, with a great term for each var, in
// call after call: nothing is made of those behind what is too much already.
func TestGreatTerms(t *testing.T) {
	term := op("set", slices.Repeat([]api.Node{plus(1, v("z"))}, api.MaxParams)...)
	atoms := slices.Repeat([]api.Node{op("sub", v("A"), v("A"))}, 500)
	calls := slices.Repeat([]api.Node{call("p", term)}, 128)
	main := quant("ex", 1, "z", joinedBy("or", calls))
	p := api.Prog{Decls: []api.Decl{{Name: "A", Order: 2}}, Preds: []api.Pred{pred("p", 2, "A", joinedBy("and", atoms))}, Main: main}
	wantSize(t, p, 128*(999+1000*tree.Size(term))+128)
	all := testing.AllocsPerRun(1, func() { macro.Expand(p) })
	p.Main = quant("ex", 1, "z", calls[0])
	if one := testing.AllocsPerRun(1, func() { macro.Expand(p) }); all > 4*one {
		t.Error("does not end soon:", all, one)
	}
	p.Main = call("p", v("A"))
	wantSize(t, p, 1999)
	big := term
	for tree.Depth(big) < api.MaxDepth-2 {
		big = op("union", big, term)
	}
	p.Main = quant("ex", 1, "z", call("p", big))
	wantSize(t, p, 1000+1000*tree.Size(big))
}

// joinedBy is one formula of many.
func joinedBy(s string, l []api.Node) api.Node {
	for len(l) > 1 {
		l = append(slices.Clip(l[2:]), op(s, l[0], l[1]))
	}
	return l[0]
}
