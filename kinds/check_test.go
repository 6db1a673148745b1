package kinds_test

import (
	"fmt"
	"slices"
	"strings"
	"testing"

	"sibyl/api"
	"sibyl/kinds"
	"sibyl/tree"
)

// A row is a text, and the error at its mark.
type row struct {
	s   string
	err api.Errno
}

func wantRows(t *testing.T, l []row) {
	t.Helper()
	for _, x := range l {
		want(t, x.s, x.err)
	}
}

// P6.2: programs

func TestDecls(t *testing.T) {
	wantRows(t, []row{
		{"true;", api.OK}, {"var1 x; true;", api.OK}, {"var1 x, y, z; var2 X; var0 q; true;", api.OK}, {"var1 x, x', X, xx; var2 _; true;", api.OK},
		{"var1 x, @x; true;", api.ErrTwice}, {"var1 x; var1 @x; true;", api.ErrTwice}, {"var1 x, y, z; var1 @x; true;", api.ErrTwice},
		{"var1 x, @x, x; true;", api.ErrTwice}, {"var1 x, y; var2 z, @y, x; true;", api.ErrTwice}, {"var1 a, b, @b, a; true;", api.ErrTwice},
	})
	for first := range 3 {
		for second := range 3 {
			want(t, fmt.Sprintf("var%d x; var%d @x; true;", first, second), api.ErrTwice)
			want(t, fmt.Sprintf("var%d x; var1 y; var%d z, @x; x = z;", first, second), api.ErrTwice)
			want(t, fmt.Sprintf("var%d x; var%d y; true;", first, second), api.OK)
		}
	}
}

func TestNamesOfPreds(t *testing.T) {
	wantRows(t, []row{
		{"pred p() = true; true;", api.OK}, {"pred p() = true; pred q() = true; pred p'() = true; true;", api.OK},
		{"pred p() = true; pred @p() = true; true;", api.ErrTwice}, {"pred p() = true; pred q() = true; pred @p() = true; true;", api.ErrTwice},
		{"pred p(var1 a) = true; pred @p(var2 a, var0 b) = false; true;", api.ErrTwice}, {"pred p() = true; pred @p() = true; pred p() = true; true;", api.ErrTwice},
		{"pred a() = true; pred b() = true; pred @b() = true; pred a() = true; true;", api.ErrTwice},
		// A Pred and a variable of one name are no two of one.
		{"var1 p; pred p() = true; true;", api.OK}, {"var0 p; pred p() = true; p() & p;", api.OK}, {"pred p(var0 p) = p; true;", api.OK},
		{"pred p() = true; pred q(var0 p) = p & p(); true;", api.OK}, {"pred p() = true; ex0 p: p & p();", api.OK},
		{"var0 q; pred p() = true; q & @q();", api.ErrName}, {"pred p() = true; @p;", api.ErrName}, {"pred p() = true; @p = 3;", api.ErrName},
	})
}

func TestParams(t *testing.T) {
	wantRows(t, []row{
		{"pred p(var1 a, var1 b, var2 c, var0 d, var1 a', var1 e) = true; true;", api.OK},
		{"pred p(var1 a, var1 @a) = true; true;", api.ErrTwice}, {"pred p(var1 a, var2 b, var0 @a) = true; true;", api.ErrTwice},
		{"pred p(var1 a, var1 @a, var1 a) = true; true;", api.ErrTwice}, {"pred p(var1 a, var1 b, var1 @b, var1 a) = true; true;", api.ErrTwice},
		{"pred p(var1 a, var1 b, var1 c, var1 d, var1 e, var1 @a) = true; true;", api.ErrTwice},
		{"pred p(var1 a) = true; pred q(var1 a) = true; pred r(var2 a, var1 b) = true; true;", api.OK},
		{"pred p(var1 a) = true; pred q(var1 b, var1 a, var2 @b) = true; true;", api.ErrTwice},
		{"var1 a; pred p(var2 a) = a sub {1}; a = 1;", api.OK}, {"var2 a, b; pred p(var1 a, var1 b) = a < b; a sub b;", api.OK},
	})
}

// TestBodies: what a Body may name.
func TestBodies(t *testing.T) {
	wantRows(t, []row{
		// Its own Params, not a Decl, nor those of another one.
		{"pred p(var1 a) = a = 3; true;", api.OK}, {"pred p(var0 a, var1 b, var2 c) = a & b in c; true;", api.OK},
		{"var1 x; pred p() = @x = 3; true;", api.ErrName}, {"var0 x; pred p(var1 a) = a = 3 & @x; true;", api.ErrName},
		{"var1 x; pred p(var2 x) = x sub x; x = x;", api.OK}, {"var1 x; pred p(var2 x) = x @< x; true;", api.ErrKind},
		{"pred p(var1 a) = a = 3; pred q() = @a = 3; true;", api.ErrName}, {"pred p(var1 a) = true; pred q(var1 b) = b = @a; true;", api.ErrName},
		{"pred p(var1 a) = @b = 3; pred q(var1 b) = true; true;", api.ErrName}, {"pred p(var1 a) = true; pred q(var2 a) = a @= 3; true;", api.ErrKind},
		{"pred p(var1 a) = true; @a = 3;", api.ErrName}, {"var1 x; pred p(var2 x) = true; x @in x;", api.ErrKind},
		// What it binds is bound in it alone.
		{"pred p() = ex1 a: a = 3; true;", api.OK}, {"pred p(var2 a) = (ex1 a: a = 3) & a = {}; true;", api.OK}, {"pred p() = ex1 a: a = 3; @a = 3;", api.ErrName},
		{"pred p() = ex1 a: a = 3; pred q() = @a = 3; true;", api.ErrName}, {"var2 a; pred p() = ex1 a: a = 3; a = {};", api.OK},
		// Preds ahead, neither itself nor a later one.
		{"pred p() = true; pred q() = p(); true;", api.OK}, {"pred p() = true; pred q() = p(); pred r() = p() & q(); true;", api.OK},
		{"pred p() = @p(); true;", api.ErrName}, {"pred p(var1 a) = ~@p(a); p(3);", api.ErrName}, {"pred p() = true; pred q() = p() & @q(); true;", api.ErrName},
		{"pred p() = @q(); pred q() = true; true;", api.ErrName}, {"pred p() = true; pred q() = @r(); pred r() = p(); true;", api.ErrName}, {"pred p() = @r(); true;", api.ErrName},
		{"pred p(var1 a) = true; pred q(var1 a) = p(a); pred r(var2 a) = @q(a); true;", api.ErrKind},
	})
}

// TestMainFormula: it may name all Decls and all Preds.
func TestMainFormula(t *testing.T) {
	wantRows(t, []row{
		{"var1 x; var2 X; var0 q; var1 y; x in X & q & y < x;", api.OK}, {"var1 x; @z = x;", api.ErrName}, {"@x = 0;", api.ErrName}, {"@x;", api.ErrName},
		{"pred a() = true; pred b() = true; pred c() = true; a() & b() & c();", api.OK}, {"pred a() = true; pred b() = true; a() & b() & @c();", api.ErrName},
		{"var1 x; pred p(var1 y) = y < 3; p(x) & ~p(x + 1) & p(7);", api.OK}, {"var1 x; pred p(var1 y) = y < 3; p(@y);", api.ErrName},
		{"var1 p; pred p(var1 p) = p = 0; p(p);", api.OK}, {"@p();", api.ErrName}, {"var1 p; @p(p);", api.ErrName},
	})
}

// TestFirstOfSeveral: each row has one error less than the row above it, the first one in the order told.
func TestFirstOfSeveral(t *testing.T) {
	wantRows(t, []row{
		{"var1 x, @x, y, y; pred p(var1 a, var1 a) = z; pred p(var1 b) = b; x & w = 0;", api.ErrTwice},
		{"var1 x, y, @y; pred p(var1 a, var1 a) = z; pred p(var1 b) = b; x & w = 0;", api.ErrTwice},
		{"var1 x, y; pred p(var1 a, var1 @a) = z; pred p(var1 b) = b; x & w = 0;", api.ErrTwice},
		{"var1 x, y; pred p(var1 a) = @z; pred p(var1 b) = b; x & w = 0;", api.ErrName},
		{"var1 x, y; pred p(var1 a) = true; pred @p(var1 b, var1 b) = b; x & w = 0;", api.ErrTwice},
		{"var1 x, y; pred p(var1 a) = true; pred q(var1 b, var1 @b) = b; x & w = 0;", api.ErrTwice},
		{"var1 x, y; pred p(var1 a) = true; pred q(var1 b) = @b; x & w = 0;", api.ErrKind},
		{"var1 x, y; pred p(var1 a) = true; pred q(var1 b) = p(b); @x & w = 0;", api.ErrKind},
		{"var1 x, y; pred p(var1 a) = true; pred q(var1 b) = p(b); p(x) & @w = 0;", api.ErrName},
		{"var1 x, y; pred p(var1 a) = true; pred q(var1 b) = p(b); p(x) & y = 0;", api.OK},
	})
	wantRows(t, []row{
		// A Decl counts ahead of a Pred that is written ahead of it.
		{"pred p() = z; pred p() = true; var1 x, @x; y;", api.ErrTwice}, {"pred p(var1 a, var1 a) = true; var2 y; var1 @y; y;", api.ErrTwice},
		{"pred p() = @z; var1 z; true;", api.ErrName}, {"pred p() = true; var1 z; z = 0 & p();", api.OK},
		{"pred p() = @z; pred q() = w; y;", api.ErrName}, {"pred p() = true; pred q() = @w; y;", api.ErrName},
		{"pred p() = @p; pred p() = true; true;", api.ErrName}, {"pred p(var1 a, var1 @a) = true; pred p() = true; true;", api.ErrTwice},
	})
}

// P6.2: formulas

// sorts is formulas without an error, of each Op.
func sorts() []string {
	l := []string{"true", "false", "q", "~q", "~~true", "p()", "r(q, x, X)", "(ex1 n: n = x)", "(all0 n: n)", "(ex2 n: n sub X)"}
	for _, sign := range []string{"&", "|", "=>", "<=>"} {
		l = append(l, "(q "+sign+" x = y)", "(~true "+sign+" q)")
	}
	return append(l, "x = 3", "X = Y", "x ~= y + 1", "X ~= {}", "x < y", "3 <= x + 1", "x in X", "y + 2 notin {x, 3}", `X sub Y union {x} \ Y`)
}

// faults is formulas with an error, of each sort.
func faults() []row {
	return []row{
		{"@z", api.ErrName}, {"@x", api.ErrKind}, {"@X", api.ErrKind}, {"@z = x", api.ErrName}, {"x = @z", api.ErrName}, {"x @= X", api.ErrKind}, {"x @sub X", api.ErrKind},
		{"x in {@X}", api.ErrKind}, {"@X + 1 < 3", api.ErrKind}, {"X = Y union @x", api.ErrKind}, {"@p(x)", api.ErrKind}, {"@s()", api.ErrName}, {"r(q, @z, X)", api.ErrName}, {"@r(q, X, x)", api.ErrKind},
		{"~@z", api.ErrName}, {"(true & @x)", api.ErrKind}, {"(ex1 n: @n)", api.ErrKind}, {"(all2 n: @m)", api.ErrName}, {"(ex0 x: x @= y)", api.ErrKind},
	}
}

const ahead = "var0 q; var1 x, y; var2 X, Y; pred p() = true; pred r(var0 a, var1 b, var2 c) = a; "

func TestFormulas(t *testing.T) {
	for _, s := range sorts() {
		want(t, ahead+s+";", api.OK)
		want(t, ahead+"~"+s+";", api.OK)
		want(t, ahead+"all1 n: ex0 m: "+s+";", api.OK)
	}
	for _, x := range faults() {
		want(t, ahead+x.s+";", x.err)
		want(t, ahead+"~"+x.s+";", x.err)
		want(t, ahead+"~~"+x.s+";", x.err)
		want(t, ahead+"all1 o: ex0 u: "+x.s+";", x.err)
		want(t, "pred p() = true; pred r(var0 a, var1 b, var2 c) = a; pred t(var0 q, var1 x, var1 y, var2 X, var2 Y) = "+x.s+"; true;", x.err)
	}
}

// TestFormulasOfTwo: of both errors the first is told, wherever it stands.
func TestFormulasOfTwo(t *testing.T) {
	for _, sign := range []string{"&", "|", "=>", "<=>"} {
		for _, x := range faults() {
			for _, good := range sorts() {
				want(t, ahead+good+" "+sign+" "+x.s+";", x.err)
				want(t, ahead+"~(~("+x.s+" "+sign+" "+good+") "+sign+" "+good+");", x.err)
			}
			for _, other := range faults() {
				s := strings.ReplaceAll(other.s, "@", "")
				want(t, ahead+"(true "+sign+" "+x.s+") "+sign+" ("+s+" "+sign+" q);", x.err)
			}
		}
	}
}

// uses is, of each order, a formula that is right where n is a variable of it.
var uses = []string{"n", "n = 3", "n sub {3}"}

// wantOrder: n is of that order at a place in a text, of none below 0.
func wantOrder(t *testing.T, begin, end string, order int) {
	t.Helper()
	for i, use := range uses {
		marked, err := use, api.OK
		switch {
		case order < 0:
			marked, err = "@"+use, api.ErrName
		case order != i && i == 0:
			marked, err = "@n", api.ErrKind
		case order != i:
			marked, err = strings.Replace(use, " ", " @", 1), api.ErrKind
		}
		want(t, begin+marked+end, err)
	}
}

// beginnings is programs' beginnings in which n is of each order, or of none.
var beginnings = []struct {
	s     string
	order int
}{{"", -1}, {"var1 m; ", -1}, {"var0 n; ", 0}, {"var1 n; ", 1}, {"var2 n; ", 2}, {"var2 m, n; ", 2}}

func TestQuantifiers(t *testing.T) {
	for _, first := range []string{"ex", "all"} {
		for order := range 3 {
			n, m := fmt.Sprintf("%s%d n: ", first, order), fmt.Sprintf("%s%d m: ", first, order)
			for _, x := range beginnings {
				wantOrder(t, x.s+n, ";", order)
				wantOrder(t, x.s+n+"true & ~", ";", order)
				wantOrder(t, x.s+"("+n+"true) & (", ");", x.order)
				wantOrder(t, x.s+"(", ") & ("+n+"true);", x.order)
				wantOrder(t, x.s+"~("+n+"true) => ~(true & ~(", "));", x.order)
				wantOrder(t, x.s+m, ";", x.order)
				wantOrder(t, x.s+m+n, ";", order)
				wantOrder(t, x.s+n+m, ";", order)
			}
		}
	}
}

// TestQuantifiersWithinAnother: of one name, each order in each.
func TestQuantifiersWithinAnother(t *testing.T) {
	for _, x := range beginnings {
		for outer := range 3 {
			for inner := range 3 {
				out, in := fmt.Sprintf("all%d n: ", outer), fmt.Sprintf("ex%d n: ", inner)
				wantOrder(t, x.s+out+in, ";", inner)
				wantOrder(t, x.s+out+"("+in+"true) & (", ");", outer)
				wantOrder(t, x.s+out+"(", ") & ("+in+"true);", outer)
				wantOrder(t, x.s+"("+out+in+"true) & (", ");", x.order)
				wantOrder(t, x.s+out+"("+in+out+in+"true) | (", ");", outer)
				wantOrder(t, "pred p(var0 m, var2 n) = ("+out+in+"true) & (", "); true;", 2)
				wantOrder(t, "pred p(var0 m, var2 n) = "+out+"("+in+"true) & (", "); true;", outer)
				wantOrder(t, "pred p(var0 m) = ("+out+in+"true) & (", "); true;", -1)
			}
		}
	}
}

// TestWhereQuantifiersReach: into terms and calls, too.
func TestWhereQuantifiersReach(t *testing.T) {
	wantRows(t, []row{
		{"ex1 n: n + 1 in {n, 3} union {n};", api.OK}, {"ex2 n: @n + 1 = 3;", api.ErrKind}, {"ex2 n: {@n} = n;", api.ErrKind}, {"ex1 n: {n} @= n;", api.ErrKind},
		{"var1 n; ex2 n: n union {3} sub n inter {};", api.OK}, {"var2 n; ex1 n: {3} union @n = {};", api.ErrKind}, {"ex0 n: @n + 1 = 3;", api.ErrKind},
		{"pred p(var2 a) = true; ex2 n: p(n);", api.OK}, {"pred p(var2 a) = true; var2 n; ex1 n: @p(n);", api.ErrKind}, {"pred p(var2 a) = true; (ex2 n: p(n)) & p(@n);", api.ErrName},
	})
}

func TestFlags(t *testing.T) {
	wantRows(t, []row{
		{"var0 q; q;", api.OK}, {"var1 q; @q;", api.ErrKind}, {"var2 q; @q;", api.ErrKind}, {"@q;", api.ErrName}, {"var0 q; @q';", api.ErrName}, {"var0 a, b; a & b & @c;", api.ErrName},
		{"pred p(var0 q) = q; true;", api.OK}, {"pred p(var1 q) = @q; true;", api.ErrKind}, {"pred p(var2 q) = @q; true;", api.ErrKind}, {"var0 q; pred p() = @q; q;", api.ErrName},
	})
}

// sides is terms of each kind, and terms with each error.
func sides() []sample {
	return []sample{
		{"q", 0, api.OK}, {"p", 0, api.OK}, {"x", 1, api.OK}, {"7", 1, api.OK}, {"y + 2", 1, api.OK},
		{"X", 2, api.OK}, {"{}", 2, api.OK}, {"{x, 3}", 2, api.OK}, {"X union Y", 2, api.OK}, {`{y} \ X inter Y`, 2, api.OK},
		{"@z", 0, api.ErrName}, {"@X + 1", 0, api.ErrKind}, {"@z + 1", 0, api.ErrName}, {"{1, @q}", 0, api.ErrKind}, {"X inter @x", 0, api.ErrKind}, {"@x union z", 0, api.ErrKind},
	}
}

// relations is which two kinds each may stand between.
var relations = []struct {
	sign string
	may  [][2]int
}{
	{"=", [][2]int{{1, 1}, {2, 2}}}, {"~=", [][2]int{{1, 1}, {2, 2}}}, {"<", [][2]int{{1, 1}}}, {"<=", [][2]int{{1, 1}}},
	{"in", [][2]int{{1, 2}}}, {"notin", [][2]int{{1, 2}}}, {"sub", [][2]int{{2, 2}}},
}

func TestRelations(t *testing.T) {
	for _, relation := range relations {
		for _, a := range sides() {
			for _, b := range sides() {
				sign, err := relation.sign, max(a.err, b.err)
				switch {
				case a.err != api.OK:
					err, b.s = a.err, strings.ReplaceAll(b.s, "@", "")
				case b.err == api.OK && !slices.Contains(relation.may, [2]int{a.kind, b.kind}):
					err, sign = api.ErrKind, "@"+sign
				}
				want(t, "var0 q, p; var1 x, y; var2 X, Y; "+a.s+" "+sign+" "+b.s+";", err)
				want(t, "pred f(var0 p, var0 q, var1 x, var1 y, var2 X, var2 Y) = ~"+a.s+" "+sign+" "+b.s+"; true;", err)
			}
		}
	}
}

// P6.2: calls

func TestCallsOfNone(t *testing.T) {
	wantRows(t, []row{
		{"@p();", api.ErrName}, {"@p(z);", api.ErrName}, {"var1 p; @p(p);", api.ErrName}, {"ex0 p: @p();", api.ErrName},
		{"pred p() = true; @p'();", api.ErrName}, {"pred p() = true; @P();", api.ErrName}, {"pred p() = true; @q(z, z + 1, {z}, X union z);", api.ErrName},
		{"pred p(var1 a) = true; ex1 b: @q(b);", api.ErrName}, {"pred p(var0 q) = @q(); true;", api.ErrName},
	})
}

// TestHowManyKids: of each number of Params each number of kids, right and wrong ones.
func TestHowManyKids(t *testing.T) {
	for params := range api.MaxParams + 1 {
		var l []string
		for i := range params {
			l = append(l, fmt.Sprintf("var1 a%d", i))
		}
		begin := "pred p(" + strings.Join(l, ", ") + ") = true; pred other(var1 a) = true; var1 x; "
		for kids := range api.MaxParams + 1 {
			for _, kid := range []string{"x", "3", "x + 1", "{}", "z", "{z}"} {
				s, err := "p("+strings.TrimSuffix(strings.Repeat(kid+", ", kids), ", ")+");", api.OK
				switch {
				case kids != params || kid == "{}" && kids > 0:
					s, err = "@"+s, api.ErrKind
				case strings.Contains(kid, "z") && kids > 0:
					s, err = strings.Replace(s, "z", "@z", 1), api.ErrName
				}
				want(t, begin+s, err)
				want(t, begin+"other(3) & ~"+s, err)
			}
		}
	}
}

// called is the formula of a call, and the first error: Params of these orders, and kids.
func called(orders []int, kids []sample) row {
	begin, end := "p(", ""
	err := api.OK
	for i, k := range kids {
		switch {
		case err != api.OK:
			end += strings.ReplaceAll(k.s, "@", "")
		case k.err != api.OK:
			end, err = end+k.s, k.err
		case k.kind != orders[i]:
			begin, end, err = "@p(", end+k.s, api.ErrKind
		default:
			end += k.s
		}
		if i < len(kids)-1 {
			end += ", "
		}
	}
	return row{begin + end + ")", err}
}

func TestKindsOfKids(t *testing.T) {
	begin := func(orders ...int) string {
		s := "var0 q, p; var1 x, y; var2 X, Y; pred p("
		for i, order := range orders {
			s += fmt.Sprintf("%svar%d a%d", strings.Repeat(", ", min(i, 1)), order, i)
		}
		return s + ") = true; "
	}
	for first := range 3 {
		for _, a := range sides() {
			x := called([]int{first}, []sample{a})
			want(t, begin(first)+x.s+";", x.err)
			want(t, begin(first)+"q => ~"+x.s+";", x.err)
			for second := range 3 {
				for _, b := range sides() {
					x := called([]int{first, second}, []sample{a, b})
					want(t, begin(first, second)+x.s+";", x.err)
				}
			}
		}
	}
	right := []sample{{"q", 0, api.OK}, {"x", 1, api.OK}, {"{y} union X", 2, api.OK}, {"3", 1, api.OK}, {"X", 2, api.OK}, {"p", 0, api.OK}}
	orders := []int{0, 1, 2, 1, 2, 0}
	want(t, begin(orders...)+called(orders, right).s+";", api.OK)
	for i := range right {
		for j := range right {
			for _, a := range sides() {
				kids := slices.Clone(right)
				kids[j] = sample{"{@X}", 0, api.ErrKind}
				kids[i] = a
				x := called(orders, kids)
				want(t, begin(orders...)+x.s+";", x.err)
			}
		}
	}
}

func TestCallsOfSeveral(t *testing.T) {
	wantRows(t, []row{
		{"pred p(var1 a) = true; pred q(var2 a) = true; p(3) & q({3});", api.OK}, {"pred p(var1 a) = true; pred q(var2 a) = true; p(3) & @q(3);", api.ErrKind},
		{"pred p(var1 a) = true; pred q(var2 a) = true; @p({}) & q({3});", api.ErrKind}, {"pred p(var1 a) = true; pred q() = true; q() & @p();", api.ErrKind},
		{"pred p(var0 a) = a; var0 b; p(b);", api.OK}, {"pred p(var0 a) = a; pred q(var0 b) = p(b); true;", api.OK}, {"pred p(var0 a) = a; pred q(var1 b) = @p(b); true;", api.ErrKind},
		{"pred p(var0 a) = a; ex0 b: p(b);", api.OK}, {"pred p(var0 a) = a; ex0 b: p(b) & p(@c);", api.ErrName},
	})
}

// P6.2: a program that may not be

// breaks make of a program that may be one that may not be.
var breaks = []func(p *api.Prog){
	func(p *api.Prog) { p.Decls[1].Name = "" },
	func(p *api.Prog) { p.Decls[0].Name = "in" },
	func(p *api.Prog) { p.Decls[1].Name = "abcdefghijklm" },
	func(p *api.Prog) { p.Decls[1].Order = 3 },
	func(p *api.Prog) { p.Decls[0].Order = -1 },
	func(p *api.Prog) { p.Preds[0].Name = "a b" },
	func(p *api.Prog) { p.Preds[1].Name = "" },
	func(p *api.Prog) { p.Preds[0].Params[0].Name = "3" },
	func(p *api.Prog) { p.Preds[0].Params[1].Order = -1 },
	func(p *api.Prog) { p.Preds[0].Params[1].Order = 3 },
	func(p *api.Prog) { p.Preds[1].Params = numbered(api.MaxParams + 1) },
	func(p *api.Prog) { p.Preds[1].Body = api.Node{} },
	func(p *api.Prog) { p.Preds[0].Body = node("var", "a") },
	func(p *api.Prog) { p.Preds[0].Body = nots(api.MaxDepth) },
	func(p *api.Prog) { p.Main = api.Node{} },
	func(p *api.Prog) { p.Main = node("var", "x") },
	func(p *api.Prog) { p.Main = node("not", "", p.Main, p.Main) },
	func(p *api.Prog) { p.Main = node("is", "x y") },
	func(p *api.Prog) { p.Main = node("eq", "", node("num", "")) },
	func(p *api.Prog) { p.Main = node("eq", "", node("plus", "", node("num", "")), node("num", "")) },
	func(p *api.Prog) { p.Main = node("sub", "", node("set", ""), node("set", "", node("set", ""))) },
	func(p *api.Prog) { p.Main = api.Node{Op: "ex", Name: "x", N: 3, Kids: []api.Node{node("true", "")}} },
	func(p *api.Prog) {
		p.Main = node("call", "p", slices.Repeat([]api.Node{node("num", "")}, api.MaxParams+1)...)
	},
	func(p *api.Prog) { p.Main = nots(api.MaxDepth) },
	func(p *api.Prog) { p.Main = ands(api.MaxSize/2 + 1) },
}

func node(op, name string, kids ...api.Node) api.Node {
	return api.Node{Op: op, Name: name, At: 8, Kids: kids}
}

func nots(count int) api.Node {
	n := node("true", "")
	for range count {
		n = node("not", "", n)
	}
	return n
}

func ands(leaves int) api.Node {
	if leaves == 1 {
		return node("true", "")
	}
	return node("and", "", ands(leaves/2), ands(leaves-leaves/2))
}

// numbered is so many variables of unlike names.
func numbered(count int) []api.Decl {
	var l []api.Decl
	for i := range count {
		l = append(l, decl(fmt.Sprintf("a%d", i), i%3))
	}
	return l
}

func TestWhatIsNoProgram(t *testing.T) {
	for _, x := range []row{
		{"var1 x, y; pred p(var1 a, var1 b) = a = b; pred q() = p(1, 2); p(x, y) & q();", api.OK},
		{"var1 x, x; pred p(var1 a, var1 b) = a = b; pred q() = true; true;", api.ErrTwice},
		{"var1 x, y; pred p(var1 a, var1 b) = true; pred p() = true; true;", api.ErrTwice},
		{"var1 x, y; pred p(var1 a, var1 a) = true; pred q() = true; true;", api.ErrTwice},
		{"var1 x, y; pred p(var1 a, var1 b) = x < y; pred q() = true; true;", api.ErrName},
		{"var1 x, y; pred p(var1 a, var1 b) = true; pred q() = p(1, {}); true;", api.ErrKind},
		{"var1 x, y; pred p(var1 a, var1 b) = true; pred q() = true; x sub y & z;", api.ErrKind},
	} {
		for i, change := range breaks {
			p := parsed(t, x.s)
			if _, err := kinds.Check(p); err != x.err {
				t.Errorf("%s: %d", x.s, err)
			}
			change(&p)
			wantCheck(t, fmt.Sprintf("%s, break %d", x.s, i), p, 0, api.ErrArg)
		}
	}
	wantCheck(t, "an empty program", api.Prog{}, 0, api.ErrArg)
}

// TestJustAsGreat: programs that may still be, and an error in them.
func TestJustAsGreat(t *testing.T) {
	deepest, greatest := nots(api.MaxDepth-1), node("not", "", ands(api.MaxSize/2))
	p := api.Prog{Decls: numbered(api.MaxParams), Preds: []api.Pred{{Name: "p", Params: numbered(api.MaxParams), Body: deepest}, {Name: "q", Body: greatest}}, Main: greatest}
	wantCheck(t, "deep and great", p, 0, api.OK)
	p.Main = roomyNode(greatest, moves[0])
	end := &p.Main
	for len(end.Kids) > 0 {
		end = &end.Kids[len(end.Kids)-1]
	}
	*end = api.Node{Op: "is", Name: "a1", At: 77}
	wantCheck(t, "the last node of many", p, 77, api.ErrKind)
}

func TestManyNames(t *testing.T) {
	const many = 3000
	p := api.Prog{Decls: numbered(many), Main: node("true", "")}
	for i := range many {
		p.Preds = append(p.Preds, api.Pred{Name: fmt.Sprintf("a%d", i), Body: node("true", ""), At: i})
	}
	wantCheck(t, "many names", p, 0, api.OK)
	p.Preds[many-1].Name = "a0"
	wantCheck(t, "a Pred twice", p, many-1, api.ErrTwice)
	p.Decls[many-1].Name, p.Decls[many-1].At = "a1", 3
	wantCheck(t, "a Decl twice", p, 3, api.ErrTwice)
}

// TestStrangePrograms: W1.
func TestStrangePrograms(t *testing.T) {
	for i, n := range strange() {
		for _, p := range []api.Prog{{Main: n}, {Main: node("true", ""), Preds: []api.Pred{{Name: "p", Body: n}}}, {Decls: []api.Decl{{}}, Preds: []api.Pred{{Params: []api.Decl{{}}, Body: n}, {}}, Main: n}} {
			if at, err := kinds.Check(p); (at != 0 || err != api.ErrArg) && !tree.Is(p) {
				t.Errorf("%d: %d, %d", i, at, err)
			}
		}
	}
}
