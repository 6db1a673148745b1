package parse_test

import (
	"slices"
	"strings"
	"testing"

	"sibyl/api"
	"sibyl/lex"
	"sibyl/parse"
	"sibyl/tree"
)

// Here the chapter's rules stand as rules, and what fits is all that they let
// stand next: a second, plain way to the place of the first fault.

// A symbol is a rule, or else a word or a sort of tokens that stands there. Its
// number is how deep a formula is, how many there are ahead, or which token an
// atom begins with.
type symbol struct {
	rule string
	n    int
}

// A stack is what is still to come, the next symbol first.
type stack struct {
	symbol
	rest *stack
}

func of(rule string, n int) symbol { return symbol{rule, n} }

// seq is symbols without a number, one way of a rule.
func seq(rules string) []symbol {
	var l []symbol
	for _, x := range strings.Fields(rules) {
		l = append(l, of(x, 0))
	}
	return l
}

// counted is what stands behind so many in a list: with MaxParams of them
// another one never fits.
func counted(rule, ahead, kid string, n int) [][]symbol {
	another := slices.Concat([]symbol{of(",", 0)}, seq(ahead))
	if n == api.MaxParams {
		return [][]symbol{{}, append(another, of("NEVER", 0))}
	}
	return [][]symbol{{}, append(another, of(kid, 0), of(rule, n+1))}
}

// An asked is what ways was asked.
type asked struct {
	symbol
	token int
}

// known is what ways answered, as it is asked the same again and again.
var known = map[asked][][]symbol{}

// ways is all ways of a symbol at a token, or nothing if it is no rule.
func ways(x symbol, token int) [][]symbol {
	key := asked{x, token}
	l, done := known[key]
	if !done {
		l = waysOf(x, token)
		known[key] = l
	}
	return l
}

func waysOf(x symbol, token int) [][]symbol {
	// more is any number of others, a sign ahead of each.
	more := func(sign, kid string) [][]symbol { return [][]symbol{{}, {of(sign, 0), of(kid, x.n), x}} }
	switch x.rule {
	case "program":
		return [][]symbol{seq("decl program"), seq("predicate program"), seq("formula ; END")}
	case "decl":
		return [][]symbol{seq("ORDER NAME decl-more ;")}
	case "decl-more":
		return [][]symbol{{}, seq(", NAME decl-more")}
	case "predicate":
		return [][]symbol{seq("pred NAME ( params ) = formula ;")}
	case "params":
		return [][]symbol{{}, {of("ORDER", 0), of("NAME", 0), of("params-more", 1)}}
	case "params-more":
		return counted("params-more", "ORDER", "NAME", x.n)
	case "formula":
		return [][]symbol{{of("imp", x.n), of("formula-more", x.n)}}
	case "formula-more":
		return more("<=>", "imp")
	case "or":
		return [][]symbol{{of("and", x.n), of("or-more", x.n)}}
	case "or-more":
		return more("|", "and")
	case "and":
		return [][]symbol{{of("un", x.n), of("and-more", x.n)}}
	case "and-more":
		return more("&", "un")
	case "imp":
		// Not two ways that both begin with an or: these would be twice as many at each depth.
		return [][]symbol{{of("or", x.n), of("imp-more", x.n)}}
	case "imp-more":
		return [][]symbol{{}, {of("=>", 0), of("imp", x.n)}}
	case "un":
		return unWays(x.n)
	case "atom":
		return atomWays(token)
	case "after-name":
		return [][]symbol{{}, seq("REL term"), {of("+", 0), of("POS", 0), of("joined", 0), of("DUE", x.n), of("term", 0)}, {of("JOIN", 0), of("part", 0), of("joined", 0), of("DUE", x.n), of("term", 0)}}
	case "joined":
		return [][]symbol{{}, seq("JOIN part joined")}
	case "term":
		return [][]symbol{seq("part joined")}
	case "part":
		return [][]symbol{seq("number-part"), seq("set")}
	case "number-part":
		return [][]symbol{seq("NAME"), seq("NAME + POS"), seq("NUM")}
	case "set":
		return [][]symbol{seq("{ }"), {of("{", 0), of("number-part", 0), of("set-more", 1), of("}", 0)}}
	case "set-more":
		return counted("set-more", "", "number-part", x.n)
	case "call-more":
		return counted("call-more", "", "term", x.n)
	}
	return nil
}

func unWays(depth int) [][]symbol {
	if depth >= api.MaxDepth {
		return [][]symbol{seq("DEEP")}
	}
	return [][]symbol{
		{of("~", 0), of("un", depth+1)}, {of("QUANT", 0), of("NAME", 0), of(":", 0), of("formula", depth+1)}, seq("true"), seq("false"),
		{of("(", 0), of("formula", depth+1), of(")", 0)}, seq("atom"),
	}
}

// atomWays: a relation is DUE behind a term that is no plain name.
func atomWays(token int) [][]symbol {
	due := []symbol{of("joined", 0), of("DUE", token), of("term", 0)}
	return [][]symbol{
		seq("NAME ( )"), {of("NAME", 0), of("(", 0), of("term", 0), of("call-more", 1), of(")", 0)}, {of("NAME", 0), of("after-name", token)},
		append(seq("NUM"), due...), append(seq("set"), due...),
	}
}

// fits tells whether a token may stand for a symbol that is no rule.
func fits(t api.Token, rule string) bool {
	among := func(words string) bool { return t.Kind == api.Word && strings.Contains(" "+words+" ", " "+t.Text+" ") }
	switch rule {
	case "NAME":
		return t.Kind == api.Name
	case "NUM":
		return t.Kind == api.Num
	case "POS":
		return t.Kind == api.Num && t.N > 0
	case "END":
		return t.Kind == api.End
	case "ORDER":
		return among("var0 var1 var2")
	case "QUANT":
		return among("ex0 ex1 ex2 all0 all1 all2")
	case "REL", "DUE":
		return among("= ~= < <= in notin sub")
	case "JOIN":
		return among(`union inter \`)
	}
	return among(rule)
}

// unfolded is stacks with no rule ahead, all that these stacks may be.
func unfolded(stacks []*stack, token int) []*stack {
	var l []*stack
	for len(stacks) > 0 {
		s := stacks[len(stacks)-1]
		stacks = stacks[:len(stacks)-1]
		found := ways(s.symbol, token)
		if found == nil {
			l = append(l, s)
			continue
		}
		for _, way := range found {
			next := s.rest
			for i := range way {
				next = &stack{way[len(way)-1-i], next}
			}
			stacks = append(stacks, next)
		}
	}
	return l
}

// byRules is where a text's first fault is, and which.
func byRules(s string) (at int, err api.Errno) {
	tokens, at, err := lex.Tokens(s)
	if err != api.OK {
		return at, err
	}
	stacks := []*stack{{of("program", 0), nil}}
	for i, t := range tokens {
		may := unfolded(stacks, i)
		stacks = nil
		for _, x := range may {
			if x.rule == "DEEP" {
				return t.At, api.ErrDeep
			}
			if fits(t, x.rule) {
				stacks = append(stacks, x.rest)
			}
		}
		if len(stacks) > 0 {
			continue
		}
		for _, x := range may {
			if x.rule == "DUE" {
				return tokens[x.n].At, api.ErrForm
			}
		}
		return t.At, api.ErrForm
	}
	return len(s), api.OK
}

// wantAsByRules: what is answered is what the rules tell.
func wantAsByRules(t *testing.T, s string) {
	t.Helper()
	p, at, err := parse.Parse(s)
	if wantAt, want := byRules(s); at != wantAt || err != want {
		t.Errorf("Parse(%.300q) is %d, %d, not %d, %d", s, at, err, wantAt, want)
	}
	if err == api.OK && len(s) < 300 && !tree.Is(p) || err != api.OK && !tree.SameProg(p, api.Prog{}) {
		t.Errorf("Parse(%.300q) is %.300v", s, p)
	}
}

// TestShortTexts: each text of up to three tokens, behind telling beginnings.
func TestShortTexts(t *testing.T) {
	words := strings.Fields("true ex1 var2 pred in union <=> = ~ & ( ) { } , ; : + x 7 0")
	for _, ahead := range []string{
		"", "~", "a ", "x = ", "x = {", "x = {1,", "p(", "p(1, ", "pred p(", "pred p() = ", "pred p(var1 x ", "var1 x", "ex1 x", "(a ", "{1} ", "x + ", "A union ", "(3",
	} {
		for _, i := range words {
			wantAsByRules(t, ahead+i)
			for _, j := range words {
				wantAsByRules(t, ahead+i+" "+j)
				for _, k := range words {
					wantAsByRules(t, ahead+i+" "+j+" "+k)
				}
			}
		}
	}
}

// samples is programs with each rule in them, more than once.
var samples = []string{
	"var1 x , y ; var0 q ; pred p ( var2 A , var1 b ) = b in A ; var2 Z ; pred r ( ) = true ; x < y & ~ p ( Z union { 3 } , x + 1 ) | q ;",
	"a <=> b => c | d & ~ ~ ( a => ex1 x : all2 Y : x in Y <=> x = 3 ) | false <=> r ( ) ;",
	`A = { 1 , x + 2 , y } union { } \ B inter 3 & { 1 , 2 , 3 , 4 , 5 , 6 } sub A & p ( 1 , 2 , 3 , x + 4 , { 5 } , A \ B ) ;`,
	"pred p ( var1 a , var1 b , var1 c , var1 d , var1 e , var1 f ) = ( ( a ) ) ; ex0 n : ( n ) & 5 ~= x + 6 | x <= y & x notin { x } ;",
	strings.Repeat("( ~ ex1 x : ", 9) + "( ~ a & b" + strings.Repeat(" )", 10) + " ;",
}

// TestSamplesWithATokenMoreOrLess: each sample cut at each token, with each
// token left out, twice, in the place of the next, with another one put there.
func TestSamplesWithATokenMoreOrLess(t *testing.T) {
	for _, s := range samples {
		if at, err := byRules(s); at != len(s) || err != api.OK {
			t.Fatalf("%q: %d, %d", s, at, err)
		}
		l := strings.Fields(s)
		for i := range l {
			wantAsByRules(t, strings.Join(l[:i], " "))
			wantAsByRules(t, strings.Join(slices.Delete(slices.Clone(l), i, i+1), " "))
			wantAsByRules(t, strings.Join(slices.Delete(slices.Clone(l), i, min(i+2, len(l))), " "))
			if i > 0 {
				turned := slices.Clone(l)
				turned[i-1], turned[i] = l[i], l[i-1]
				wantAsByRules(t, strings.Join(turned, " "))
			}
			for _, word := range strings.Fields(allWords) {
				wantAsByRules(t, strings.Join(slices.Insert(slices.Clone(l), i, word), " "))
				wantAsByRules(t, strings.Join(slices.Concat(l[:i], []string{word}, l[i+1:]), " "))
			}
		}
	}
}

// TestMixedTexts: tokens in no order, and pieces of the samples in any order.
func TestMixedTexts(t *testing.T) {
	next := dice(1)
	words := strings.Fields(allWords)
	for range 20000 {
		var s string
		for range 1 + next.upTo(12) {
			if next.upTo(3) == 0 {
				s += words[next.upTo(len(words))] + " "
				continue
			}
			l := strings.Fields(samples[next.upTo(len(samples))])
			begin := next.upTo(len(l))
			s += strings.Join(l[begin:min(begin+1+next.upTo(6), len(l))], " ") + " "
		}
		wantAsByRules(t, s)
	}
}
