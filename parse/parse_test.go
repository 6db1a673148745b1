package parse_test

import (
	"slices"
	"strconv"
	"strings"
	"testing"

	"sibyl/api"
	"sibyl/parse"
	"sibyl/tree"
)

func v(name string) api.Node                   { return api.Node{Op: "var", Name: name} }
func num(n int) api.Node                       { return api.Node{Op: "num", N: n} }
func plus(name string, n int) api.Node         { return api.Node{Op: "plus", N: n, Kids: []api.Node{v(name)}} }
func op(s string, kids ...api.Node) api.Node   { return api.Node{Op: s, Kids: kids} }
func is(name string) api.Node                  { return api.Node{Op: "is", Name: name} }
func call(name string, l ...api.Node) api.Node { return api.Node{Op: "call", Name: name, Kids: l} }

func quant(s string, order int, name string, kid api.Node) api.Node {
	return api.Node{Op: s, Name: name, N: order, Kids: []api.Node{kid}}
}

func decl(name string, order int) api.Decl { return api.Decl{Name: name, Order: order} }

var (
	yes        = op("true")
	a, b, c, d = is("a"), is("b"), is("c"), is("d")
)

// wantProg: s is that program, places aside.
func wantProg(t *testing.T, s string, want api.Prog) api.Prog {
	t.Helper()
	p, at, err := parse.Parse(s)
	if !tree.SameProg(p, want) || at != len(s) || err != api.OK {
		t.Errorf("Parse(%q) is %+v, %d, %d, not %+v, %d, 0", s, p, at, err, want, len(s))
	}
	if !tree.Is(p) {
		t.Errorf("Parse(%q) is a program that may not be: %+v", s, p)
	}
	return p
}

// wantMain: s and `;` is that formula alone.
func wantMain(t *testing.T, s string, want api.Node) {
	t.Helper()
	wantProg(t, s+";", api.Prog{Main: want})
}

// P4.1: programs

func TestDecls(t *testing.T) {
	for order, word := range []string{"var0", "var1", "var2"} {
		wantProg(t, word+" x; true;", api.Prog{Decls: []api.Decl{decl("x", order)}, Main: yes})
		wantProg(t, word+" x, y; true;", api.Prog{Decls: []api.Decl{decl("x", order), decl("y", order)}, Main: yes})
		for other, next := range []string{"var0", "var1", "var2"} {
			l := []api.Decl{decl("x", order), decl("y", other), decl("z", other)}
			wantProg(t, word+" x;"+next+" y,z;true;", api.Prog{Decls: l, Main: yes})
		}
	}
	// As many as there are: no bound is told.
	var names []string
	var l []api.Decl
	for i := range 300 {
		names = append(names, "x"+strconv.Itoa(i))
		l = append(l, decl(names[i], 1))
	}
	wantProg(t, "var1 "+strings.Join(names, ",")+"; true;", api.Prog{Decls: l, Main: yes})
	// One name twice, a name that is not there, a name of many things.
	wantProg(t, "var1 x, x; var2 x; pred x(var1 x, var0 x) = x; pred x() = y; x & x(x);", api.Prog{
		Decls: []api.Decl{decl("x", 1), decl("x", 1), decl("x", 2)},
		Preds: []api.Pred{{Name: "x", Params: []api.Decl{decl("x", 1), decl("x", 0)}, Body: is("x")}, {Name: "x", Body: is("y")}},
		Main:  op("and", is("x"), call("x", v("x"))),
	})
}

func TestPreds(t *testing.T) {
	onePred := func(params ...api.Decl) api.Prog {
		return api.Prog{Preds: []api.Pred{{Name: "p", Params: params, Body: a}}, Main: b}
	}
	wantProg(t, "pred p() = a; b;", onePred())
	words := []string{"var0", "var1", "var2"}
	for i, x := range words {
		wantProg(t, "pred p("+x+" x) = a; b;", onePred(decl("x", i)))
		for j, y := range words {
			wantProg(t, "pred p("+x+" x, "+y+" y) = a; b;", onePred(decl("x", i), decl("y", j)))
			for k, z := range words {
				wantProg(t, "pred p("+x+" x,"+y+" y,"+z+" x)=a;b;", onePred(decl("x", i), decl("y", j), decl("x", k)))
			}
		}
	}
	for count := range api.MaxParams + 1 {
		texts := slices.Repeat([]string{"var2 X"}, count)
		wantProg(t, "pred p("+strings.Join(texts, ", ")+") = a; b;", onePred(slices.Repeat([]api.Decl{decl("X", 2)}, count)...))
	}
}

func TestBodies(t *testing.T) {
	for _, x := range []struct {
		s    string
		want api.Node
	}{
		{"x = 0", op("eq", v("x"), num(0))},
		{"a <=> b => c | d & ~a", op("iff", a, op("imp", b, op("or", c, op("and", d, op("not", a)))))},
		{"ex1 x: a & b", quant("ex", 1, "x", op("and", a, b))},
		{"(a)", a},
		{"p()", call("p")},
	} {
		wantProg(t, "pred p() = "+x.s+"; pred q() = b; c;", api.Prog{Preds: []api.Pred{{Name: "p", Body: x.want}, {Name: "q", Body: b}}, Main: c})
	}
}

// TestOrdersOfDeclsAndPreds: each order of up to four decls and preds.
func TestOrdersOfDeclsAndPreds(t *testing.T) {
	for count := range 5 {
		for which := range 1 << count {
			var s string
			var want api.Prog
			for i := range count {
				name := "n" + strconv.Itoa(i)
				if which>>i&1 == 0 {
					s += "var1 " + name + ", m;\n"
					want.Decls = append(want.Decls, decl(name, 1), decl("m", 1))
				} else {
					s += "pred " + name + "(var1 x) = x = 1;\n"
					want.Preds = append(want.Preds, api.Pred{Name: name, Params: []api.Decl{decl("x", 1)}, Body: op("eq", v("x"), num(1))})
				}
			}
			want.Main = a
			wantProg(t, s+"a;", want)
		}
	}
}

func TestWhatIsLeftOut(t *testing.T) {
	for _, s := range []string{
		"var1 x;pred p()=a;b;", " var1 x ; pred p ( ) = a ; b ; ", "\n\tvar1\r\nx;\npred\np\n(\n)\n=\na\n;\nb\n;\n",
		"# ;\nvar1#,\nx# 0\n;pred p# (\n()# =\n=a#&\n;b;# true;", "var1 x;pred p()=a;b;#",
	} {
		wantProg(t, s, api.Prog{Decls: []api.Decl{decl("x", 1)}, Preds: []api.Pred{{Name: "p", Body: a}}, Main: b})
	}
}

func TestNames(t *testing.T) {
	for _, name := range []string{"x", "X", "_", "x'", "x''9", "αβω", "true'", "ex", "ex3", "var", "var3", "preds", "In", "unions", "abcdefghijkl", "αβγδεζηθικλμ"} {
		wantProg(t, "var1 "+name+"; pred "+name+"(var2 "+name+") = "+name+"; ex1 "+name+": "+name+" & "+name+"("+name+", {"+name+"}, "+name+"+1) & "+name+" = "+name+";", api.Prog{
			Decls: []api.Decl{decl(name, 1)},
			Preds: []api.Pred{{Name: name, Params: []api.Decl{decl(name, 2)}, Body: is(name)}},
			Main: quant("ex", 1, name, op("and", op("and",
				is(name), call(name, v(name), op("set", v(name)), plus(name, 1))), op("eq", v(name), v(name)))),
		})
	}
}

// P4.1: what stands between formulas

var between = []struct {
	sign, op string
}{{"<=>", "iff"}, {"=>", "imp"}, {"|", "or"}, {"&", "and"}}

// group is formulas with signs between them (by their place in the list
// above), made by what the chapter says: the loosest sign is at the top, the
// last one of these, of `=>` the first one.
func group(l []api.Node, signs []int) api.Node {
	if len(signs) == 0 {
		return l[0]
	}
	least := slices.Min(signs)
	at := slices.Index(signs, least)
	if between[least].op != "imp" {
		for i, x := range signs {
			if x == least {
				at = i
			}
		}
	}
	return op(between[least].op, group(l[:at+1], signs[:at]), group(l[at+1:], signs[at+1:]))
}

// eachSigns calls f with each list of so many signs.
func eachSigns(count int, f func(signs []int)) {
	signs := make([]int, count)
	for n := range 1 << (2 * count) {
		for i := range signs {
			signs[i] = n >> (2 * i) & 3
		}
		f(signs)
	}
}

// spell is texts with signs between them.
func spell(l []string, signs []int) string {
	s := l[0]
	for i, x := range signs {
		s += " " + between[x].sign + " " + l[i+1]
	}
	return s
}

func TestSignsOneByOne(t *testing.T) {
	wantMain(t, "a <=> b", op("iff", a, b))
	wantMain(t, "a => b", op("imp", a, b))
	wantMain(t, "a | b", op("or", a, b))
	wantMain(t, "a & b", op("and", a, b))
	wantMain(t, "~a", op("not", a))
	wantMain(t, "~~~a", op("not", op("not", op("not", a))))
	wantMain(t, "true", yes)
	wantMain(t, "false", op("false"))
	wantMain(t, "a <=> b <=> c", op("iff", op("iff", a, b), c))
	wantMain(t, "a => b => c", op("imp", a, op("imp", b, c)))
	wantMain(t, "a | b | c", op("or", op("or", a, b), c))
	wantMain(t, "a & b & c", op("and", op("and", a, b), c))
	wantMain(t, "a & b | c => d <=> a", op("iff", op("imp", op("or", op("and", a, b), c), d), a))
	wantMain(t, "a <=> b => c | d & a", op("iff", a, op("imp", b, op("or", c, op("and", d, a)))))
}

func TestSignsInEachOrder(t *testing.T) {
	names := []string{"a", "b", "c", "d", "a"}
	nodes := []api.Node{a, b, c, d, a}
	for count := range 5 {
		eachSigns(count, func(signs []int) {
			wantMain(t, spell(names, signs), group(nodes, signs))
		})
	}
}

// TestNotBindsClosest: `~` ahead of each formula, of whatever sort.
func TestNotBindsClosest(t *testing.T) {
	names := []string{"a", "x = 1", "p(x)", "(c | d)"}
	nodes := []api.Node{a, op("eq", v("x"), num(1)), call("p", v("x")), op("or", c, d)}
	for place := range names {
		for count := range 3 {
			s, n := slices.Clone(names), slices.Clone(nodes)
			for range count + 1 {
				s[place], n[place] = "~"+s[place], op("not", n[place])
			}
			eachSigns(3, func(signs []int) { wantMain(t, spell(s, signs), group(n, signs)) })
		}
	}
}

func TestQuantifiers(t *testing.T) {
	for i, word := range []string{"ex0", "ex1", "ex2", "all0", "all1", "all2"} {
		o := []string{"ex", "all"}[i/3]
		wantMain(t, word+" x: a", quant(o, i%3, "x", a))
		wantMain(t, word+" x: x = 0", quant(o, i%3, "x", op("eq", v("x"), num(0))))
		wantMain(t, word+" x: ~a", quant(o, i%3, "x", op("not", a)))
		wantMain(t, "~"+word+" x: a", op("not", quant(o, i%3, "x", a)))
		wantMain(t, word+" x: ex2 y: a & b", quant(o, i%3, "x", quant("ex", 2, "y", op("and", a, b))))
	}
	wantMain(t, "(ex1 x: a) & b", op("and", quant("ex", 1, "x", a), b))
	wantMain(t, "ex1 x: (a) & b", quant("ex", 1, "x", op("and", a, b)))
	wantMain(t, "(ex1 x: a & b) & c", op("and", quant("ex", 1, "x", op("and", a, b)), c))
}

// TestHowFarAQuantifierReaches: to the end, wherever it stands, behind `~` too.
func TestHowFarAQuantifierReaches(t *testing.T) {
	names := []string{"a", "b", "c", "d"}
	nodes := []api.Node{a, b, c, d}
	for place := range names {
		s, negated := slices.Clone(names), slices.Clone(names)
		s[place], negated[place] = "all1 x: "+s[place], "~all1 x: "+s[place]
		eachSigns(3, func(signs []int) {
			kid := quant("all", 1, "x", group(nodes[place:], signs[place:]))
			l := append(slices.Clone(nodes[:place]), kid)
			wantMain(t, spell(s, signs), group(l, signs[:place]))
			wantMain(t, "("+spell(s, signs)+") & a", op("and", group(l, signs[:place]), a))
			l[place] = op("not", kid)
			wantMain(t, spell(negated, signs), group(l, signs[:place]))
		})
	}
}

func TestParentheses(t *testing.T) {
	eachSigns(3, func(signs []int) {
		x, y, z := between[signs[0]], between[signs[1]], between[signs[2]]
		wantMain(t, "(a "+x.sign+" b) "+y.sign+" (c "+z.sign+" d)", op(y.op, op(x.op, a, b), op(z.op, c, d)))
		wantMain(t, "a "+x.sign+" (b "+y.sign+" (c "+z.sign+" d))", op(x.op, a, op(y.op, b, op(z.op, c, d))))
		wantMain(t, "((a "+x.sign+" b) "+y.sign+" c) "+z.sign+" d", op(z.op, op(y.op, op(x.op, a, b), c), d))
		wantMain(t, "~(a "+x.sign+" b)", op("not", op(x.op, a, b)))
		wantMain(t, "(((a "+x.sign+" b)))", op(x.op, a, b))
	})
}

// P4.1: atoms and terms

var relations = []struct{ sign, op string }{
	{"=", "eq"}, {"~=", "ne"}, {"<", "lt"}, {"<=", "le"}, {"in", "in"}, {"notin", "notin"}, {"sub", "sub"},
}

// parts is parts of each sort, each a term; those behind none of which braces
// stand may be in a set.
var parts = []struct {
	s string
	n api.Node
}{
	{"x", v("x")}, {"0", num(0)}, {"99", num(99)}, {"x + 1", plus("x", 1)}, {"y+99", plus("y", 99)},
	{"{}", op("set")}, {"{7}", op("set", num(7))}, {"{x, y + 2, 3}", op("set", v("x"), plus("y", 2), num(3))},
}

const inSets = 5 // how many of the parts may be in a set

func TestRelations(t *testing.T) {
	terms := slices.Clone(parts)
	for _, x := range parts {
		terms = append(terms, struct {
			s string
			n api.Node
		}{"A union " + x.s + ` \ B`, op("minus", op("union", v("A"), x.n), v("B"))})
	}
	for _, rel := range relations {
		for _, x := range terms {
			for _, y := range terms {
				want := op(rel.op, x.n, y.n)
				wantMain(t, x.s+" "+rel.sign+" "+y.s, want)
				wantMain(t, "~"+x.s+" "+rel.sign+" "+y.s+" & a", op("and", op("not", want), a))
			}
		}
	}
	// Relations bind closer than all that is between formulas, without blanks too.
	wantMain(t, "x=1&y~=2|x<y=>x<=y<=>A sub{}", op("iff", op("imp", op("or",
		op("and", op("eq", v("x"), num(1)), op("ne", v("y"), num(2))),
		op("lt", v("x"), v("y"))), op("le", v("x"), v("y"))), op("sub", v("A"), op("set"))))
}

func TestUnionsAndOthers(t *testing.T) {
	joins := []struct{ sign, op string }{{"union", "union"}, {"inter", "inter"}, {`\`, "minus"}}
	for _, x := range parts {
		for _, j := range joins {
			for _, y := range parts {
				for _, k := range joins {
					wantMain(t, "A = "+x.s+" "+j.sign+" "+y.s+" "+k.sign+" B",
						op("eq", v("A"), op(k.op, op(j.op, x.n, y.n), v("B"))))
				}
				wantMain(t, x.s+" "+j.sign+" "+y.s+" = A", op("eq", op(j.op, x.n, y.n), v("A")))
			}
		}
	}
	wantMain(t, `A sub A\B\C\D`, op("sub", v("A"), op("minus", op("minus", op("minus", v("A"), v("B")), v("C")), v("D"))))
}

func TestSets(t *testing.T) {
	for count := range api.MaxParams + 1 {
		for i := range inSets {
			var texts []string
			var nodes []api.Node
			for k := range count {
				x := parts[(i+k)%inSets]
				texts, nodes = append(texts, x.s), append(nodes, x.n)
			}
			s, set := "{"+strings.Join(texts, ", ")+"}", op("set", nodes...)
			wantMain(t, s+" = A", op("eq", set, v("A")))
			wantMain(t, "A = B union "+s, op("eq", v("A"), op("union", v("B"), set)))
			wantMain(t, "p("+s+", "+s+")", call("p", set, set))
		}
	}
}

func TestNumbers(t *testing.T) {
	for n := range api.MaxNum + 1 {
		s := strconv.Itoa(n)
		wantMain(t, s+" = "+s, op("eq", num(n), num(n)))
		if n > 0 {
			wantMain(t, "x+"+s+" = y + "+s, op("eq", plus("x", n), plus("y", n)))
		}
	}
}

func TestCalls(t *testing.T) {
	wantMain(t, "p", is("p"))
	wantMain(t, "p()", call("p"))
	wantMain(t, "p ( )", call("p"))
	wantMain(t, "~p() & q()", op("and", op("not", call("p")), call("q")))
	for count := 1; count <= api.MaxParams; count++ {
		for i := range parts {
			var texts []string
			var nodes []api.Node
			for k := range count {
				x := parts[(i+k)%len(parts)]
				texts, nodes = append(texts, x.s, x.s+" union "+x.s), append(nodes, x.n, op("union", x.n, x.n))
			}
			wantMain(t, "p("+strings.Join(texts[:count], ", ")+")", call("p", nodes[:count]...))
			wantMain(t, "a & p("+strings.Join(texts[:count], ",")+") | b", op("or", op("and", a, call("p", nodes[:count]...)), b))
		}
	}
}

// P4.2

// places is all places of a node, its own ahead of its kids'.
func places(n api.Node) []int {
	l := []int{n.At}
	for _, k := range n.Kids {
		l = append(l, places(k)...)
	}
	return l
}

// marks is a text without its marks, and where they stood.
func marks(s string) (string, []int) {
	var l []int
	for {
		at := strings.Index(s, "§")
		if at < 0 {
			return s, l
		}
		l = append(l, at)
		s = s[:at] + s[at+len("§"):]
	}
}

// sortedPlaces is all places of a program, rising. Of a plus and of its kid,
// which are at one place, it has both.
func sortedPlaces(p api.Prog) []int {
	l := places(p.Main)
	for _, d := range p.Decls {
		l = append(l, d.At)
	}
	for _, x := range p.Preds {
		l = append(append(l, x.At), places(x.Body)...)
		for _, d := range x.Params {
			l = append(l, d.At)
		}
	}
	slices.Sort(l)
	return l
}

// TestPlacesOneByOne: the first mark is the node's own, then come its kids'.
func TestPlacesOneByOne(t *testing.T) {
	const ahead = " # β & ~ a\n\t\r\n "
	for _, x := range []struct {
		s     string
		order []int // of the marks: a node's ahead of its kids'
	}{
		{"§true;", []int{0}}, {"§false;", []int{0}}, {"§a;", []int{0}}, {"((  §a));", []int{0}},
		{"§a  §& §b;", []int{1, 0, 2}}, {"§a §|  §b;", []int{1, 0, 2}}, {"§a §=> §b;", []int{1, 0, 2}}, {"( §a)   §<=> (§b);", []int{1, 0, 2}},
		{"§a §& §b §& §c;", []int{3, 1, 0, 2, 4}}, {"§a §=> §b §=> §c;", []int{1, 0, 3, 2, 4}},
		{"§~ §a;", []int{0, 1}}, {"§~(§~ (§a));", []int{0, 1, 2}},
		{"§ex0  x : §a;", []int{0, 1}}, {"§ex1 x: §a;", []int{0, 1}}, {"(§ex2 x: §a);", []int{0, 1}},
		{"§all0 x: §a;", []int{0, 1}}, {"§all1 x: ( §a );", []int{0, 1}}, {"§all2 x: §all2 y: §a;", []int{0, 1, 2}},
		{"§x §= §0;", []int{1, 0, 2}}, {"§x §~= §9;", []int{1, 0, 2}}, {"§3 §< §x;", []int{1, 0, 2}}, {"§x  §<=  §y;", []int{1, 0, 2}},
		{"§x §in §A;", []int{1, 0, 2}}, {"§x §notin §A;", []int{1, 0, 2}}, {"§A §sub §B;", []int{1, 0, 2}},
		{"§p ( );", []int{0}}, {"§p( §x , §12 );", []int{0, 1, 2}},
		{"§x §= §{};", []int{1, 0, 2}}, {"§{ §1 , §x} §= §A;", []int{3, 0, 1, 2, 4}},
		{"§A §union §B §= §C;", []int{3, 1, 0, 2, 4}}, {"§A §= §B §inter §C;", []int{1, 0, 3, 2, 4}},
		{"§A §in §B §\\ §C §union §{§7};", []int{1, 0, 5, 3, 2, 4, 6, 7}},
		{"§x + 3 §= §y  +  4;", []int{1, 0, 0, 2, 2}}, {"§p(§x + 1, §{§y + 2});", []int{0, 1, 1, 2, 3, 3}},
	} {
		s, l := marks(ahead + x.s)
		var want []int
		for _, i := range x.order {
			want = append(want, l[i])
		}
		p, at, err := parse.Parse(s)
		if got := places(p.Main); !slices.Equal(got, want) || at != len(s) || err != api.OK {
			t.Errorf("%q: %v, %d, %d, not %v", s, got, at, err, want)
		}
		p, _, _ = parse.Parse("pred p() =" + s + "a;")
		if len(p.Preds) != 1 {
			t.Fatalf("%q: no pred", s)
		}
		for i := range want {
			want[i] += len("pred p() =")
		}
		if got := places(p.Preds[0].Body); !slices.Equal(got, want) {
			t.Errorf("%q as a Body: %v, not %v", s, got, want)
		}
	}
}

func TestPlacesOfPrograms(t *testing.T) {
	for _, text := range []string{
		"var1 §x;§true;", "\n\tvar0 §x , §y,\n§z; # var1 w;\nvar2  §X;\r\n§a;",
		"pred §p()=§true;§a;", "# β\npred # q\n  §p ( var1 §x , var2\n§X ) = §x  §in §X;\nvar1 §y; pred\t§q() = §~ §p(§1); (§y §< §3)\n;\n",
		"var1 §α, §β; §α §<= §β;",
	} {
		s, want := marks(text)
		p, at, err := parse.Parse(s)
		if got := sortedPlaces(p); !slices.Equal(got, want) || at != len(s) || err != api.OK {
			t.Errorf("%q: %v, %d, %d, not %v", s, got, at, err, want)
		}
		for _, d := range p.Decls {
			if !strings.HasPrefix(s[d.At:], d.Name) {
				t.Error("decl", d)
			}
		}
		for _, x := range p.Preds {
			if !strings.HasPrefix(s[x.At:], x.Name) {
				t.Error("pred", x.Name, x.At)
			}
			for _, d := range x.Params {
				if !strings.HasPrefix(s[d.At:], d.Name) {
					t.Error("param", d)
				}
			}
		}
	}
}

// P4.3

// roundTexts is programs with a list of each sort, long ones too.
func roundTexts() []string {
	return []string{
		"true;", "var1 x; x = 1;", "pred p() = a; p();",
		"var0 a; var1 x, y; var2 X; pred p(var0 b, var1 z) = b & z = 1; pred q() = a; pred r(var2 Y) = Y sub X; ~(p(x, y + 1) => q()) <=> ex2 Z: Z = X union {1, x, y + 3} | r(Z \\ {});",
		strings.Repeat("var1 x, y, z; pred p(var1 x, var1 y, var1 z) = q(x, y, z, {x, y, z});\n", 20) + "true;",
		"a" + strings.Repeat(" & a", 300) + ";", "a" + strings.Repeat(" => a", 300) + ";",
	}
}

// eachList calls f for each list of a program, all its spare room with it.
func eachList(p *api.Prog, node func(l []api.Node), decls func(l []api.Decl), preds func(l []api.Pred)) {
	var walk func(n *api.Node)
	walk = func(n *api.Node) {
		for i := range n.Kids {
			walk(&n.Kids[i])
		}
		node(n.Kids[:cap(n.Kids)])
	}
	walk(&p.Main)
	for i := range p.Preds {
		walk(&p.Preds[i].Body)
		decls(p.Preds[i].Params[:cap(p.Preds[i].Params)])
	}
	decls(p.Decls[:cap(p.Decls)])
	preds(p.Preds[:cap(p.Preds)])
}

// TestListsAreNewMemory: no two lists of one answer, or of two, share any, nor
// any of their spare room.
func TestListsAreNewMemory(t *testing.T) {
	for _, s := range roundTexts() {
		seen := map[any]bool{}
		see := func(x any) {
			if seen[x] {
				t.Errorf("%q: two lists share an element", s)
			}
			seen[x] = true
		}
		first, _, _ := parse.Parse(s)
		second, _, _ := parse.Parse(s)
		for _, p := range []*api.Prog{&first, &second} {
			eachList(p, func(l []api.Node) {
				for i := range l {
					see(&l[i])
				}
			}, func(l []api.Decl) {
				for i := range l {
					see(&l[i])
				}
			}, func(l []api.Pred) {
				for i := range l {
					see(&l[i])
				}
			})
		}
	}
}

// TestAskedTwice: W2, W6, W7.
func TestAskedTwice(t *testing.T) {
	for _, s := range roundTexts() {
		first, _, _ := parse.Parse(s)
		second, _, _ := parse.Parse(s)
		want := sortedPlaces(second)
		eachList(&first, func(l []api.Node) { clear(l) }, func(l []api.Decl) { clear(l) }, func(l []api.Pred) { clear(l) })
		third, at, err := parse.Parse(s)
		if !tree.SameProg(second, third) || !slices.Equal(sortedPlaces(second), want) || !slices.Equal(sortedPlaces(third), want) || at != len(s) || err != api.OK {
			t.Errorf("%q: another answer", s)
		}
	}
}

// TestTooGreatOrDeepForATree: what is parsed may be so, and is one but for that.
func TestTooGreatOrDeepForATree(t *testing.T) {
	for _, x := range []struct {
		s           string
		size, depth int
	}{
		{"a" + strings.Repeat("&a", 28) + ";", 57, 29}, {"a" + strings.Repeat("&a", 29) + ";", 59, 30}, {"a" + strings.Repeat("&a", 30) + ";", 61, 31},
		{"a" + strings.Repeat("=>a", 30) + ";", 61, 31}, {"a" + strings.Repeat("<=>a", 400) + ";", 801, 31}, {"a" + strings.Repeat("=>a", 660) + ";", 1321, 31},
		{"a" + strings.Repeat("&a", 999) + ";", 1999, 31}, {"a" + strings.Repeat("|a", 999) + ";", 1999, 31},
		{"A=B" + strings.Repeat(`\B`, 998) + ";", 1999, 31}, {"A=0" + strings.Repeat(`\0`, 998) + ";", 1999, 31},
		{"pred p()=x<y" + strings.Repeat("&x<y", 494) + ";true;", 1, 1},
		{"x+1=y" + strings.Repeat("&x+1=x+1", 249) + ";", 1498, 31},
		{"p(1,1,1,1,1,1)" + strings.Repeat("&p(1,1,1,1,1,1)", 132) + ";", 1063, 31},
	} {
		if len(x.s) > api.MaxText {
			t.Fatal(len(x.s))
		}
		p, at, err := parse.Parse(x.s)
		if at != len(x.s) || err != api.OK || tree.Size(p.Main) != x.size || tree.Depth(p.Main) != x.depth {
			t.Errorf("%.20q: size %d, depth %d, %d, %d", x.s, tree.Size(p.Main), tree.Depth(p.Main), at, err)
		}
		wantPieces(t, p.Main)
		for _, pred := range p.Preds {
			wantPieces(t, pred.Body)
		}
	}
}

// wantPieces: each node is one by chapter 3, with small kids in the place of
// those that are themselves held against it. The second one of union, inter,
// minus stays, as it is told of that what it may not be.
func wantPieces(t *testing.T, n api.Node) {
	t.Helper()
	piece := n
	piece.Kids = slices.Clone(n.Kids)
	for i, k := range n.Kids {
		wantPieces(t, k)
		if slices.Contains([]string{"and", "or", "imp", "iff", "not", "ex", "all"}, k.Op) {
			piece.Kids[i] = yes
		}
		if isJoin(k) && !(isJoin(n) && i == 1) {
			piece.Kids[i] = v("x")
		}
	}
	if !tree.IsFormula(piece) && !tree.IsTerm(piece) {
		t.Errorf("no formula, no term: %s at %d", n.Op, n.At)
	}
}

func isJoin(n api.Node) bool { return n.Op == "union" || n.Op == "inter" || n.Op == "minus" }
