package lex_test

import (
	"regexp"
	"slices"
	"strconv"
	"strings"
	"testing"
	"unicode/utf8"
	"unsafe"

	"sibyl/api"
	"sibyl/lex"
)

const wordList = "true false ex0 ex1 ex2 all0 all1 all2 var0 var1 var2 pred in notin sub union inter"

const signList = `<=> => <= ~= = ~ < & | ( ) { } , ; : + \`

func name(text string, at int) api.Token { return api.Token{Kind: api.Name, Text: text, At: at} }
func word(text string, at int) api.Token { return api.Token{Kind: api.Word, Text: text, At: at} }
func num(n, at int) api.Token            { return api.Token{Kind: api.Num, N: n, At: at} }
func end(at int) api.Token               { return api.Token{Kind: api.End, At: at} }

// wantTokens: s has these tokens and End, whole tokens held against each other (P2.3).
func wantTokens(t *testing.T, s string, want ...api.Token) {
	t.Helper()
	l, at, err := lex.Tokens(s)
	if !slices.Equal(l, append(slices.Clip(want), end(len(s)))) || at != len(s) || err != api.OK {
		t.Errorf("Tokens(%q) is %v, %d, %d, not %v, %d, 0", s, l, at, err, want, len(s))
	}
}

// wantFault: s has no tokens, but ErrForm at that place.
func wantFault(t *testing.T, s string, want int) {
	t.Helper()
	if l, at, err := lex.Tokens(s); l != nil || at != want || err != api.ErrForm {
		t.Errorf("Tokens(%q) is %v, %d, %d, not nil, %d, ErrForm", s, l, at, err, want)
	}
}

// Words

func TestWords(t *testing.T) {
	if got := lex.Words(); !slices.Equal(got, strings.Split(wordList, " ")) {
		t.Error(got)
	}
}

// TestWordsIsNewMemory: W6, W7.
func TestWordsIsNewMemory(t *testing.T) {
	first, second := lex.Words(), lex.Words()
	for i := range first[:cap(first)] {
		first[:cap(first)][i] = "x"
	}
	want := strings.Split(wordList, " ")
	if third := lex.Words(); !slices.Equal(second, want) || !slices.Equal(third, want) {
		t.Error(second, third)
	}
	wantTokens(t, "true x", word("true", 0), name("x", 5))
}

// P2.1: how long a text may be

func TestLongTexts(t *testing.T) {
	for _, s := range []string{
		strings.Repeat(" ", api.MaxText),
		"#" + strings.Repeat("x", api.MaxText-1),
		"#" + strings.Repeat("α", (api.MaxText-2)/2) + "\n",
	} {
		if len(s) != api.MaxText {
			t.Fatal(len(s))
		}
		wantTokens(t, s)
	}
	for _, unit := range []string{" ", "+", "x+1 ", "{x,y}"} {
		s := strings.Repeat(unit, api.MaxText/len(unit))
		if l, at, err := lex.Tokens(s); len(l) < 2 && unit != " " || l[len(l)-1] != end(api.MaxText) || at != api.MaxText || err != api.OK {
			t.Errorf("%q again and again: %d tokens, %d, %d", unit, len(l), at, err)
		}
	}
	for _, s := range []string{
		strings.Repeat(" ", api.MaxText+1),
		strings.Repeat("+", api.MaxText+1),
		"#" + strings.Repeat("α", api.MaxText/2), // fewer runes than MaxText
		"!" + strings.Repeat(" ", api.MaxText),   // ahead of all other faults
		strings.Repeat("\xff", api.MaxText+1),
		strings.Repeat("9", api.MaxText+1),
		strings.Repeat("x", 1<<20),
	} {
		if l, at, err := lex.Tokens(s); l != nil || at != 0 || err != api.ErrLong {
			t.Errorf("%d bytes: %d tokens, %d, %d", len(s), len(l), at, err)
		}
	}
}

// P2.1: what is left out

func TestNoTokens(t *testing.T) {
	for _, s := range []string{
		"", " ", "\t", "\r", "\n", " \t\r\n \n\n",
		"#", "##", "#\n", "# a < 'b'", "# a\n# b", "\n #x\r\n\t#\n ", "#\r!", "# ! é \u2028 € \x00 \uFFFD 007",
	} {
		wantTokens(t, s)
	}
}

func TestBetweenTokens(t *testing.T) {
	wantTokens(t, "  x\t1\r\n= ", name("x", 2), num(1, 4), word("=", 7))
	wantTokens(t, "x#y\nz", name("x", 0), name("z", 4))
	wantTokens(t, "x #y", name("x", 0))
	wantTokens(t, "x#y\n", name("x", 0))
	wantTokens(t, "x# y # z\n\n# w\n1", name("x", 0), num(1, 14))
	wantTokens(t, "x # y\r z\n1", name("x", 0), num(1, 9)) // only a line feed ends a line
	wantTokens(t, "x # y\u2028\u0085 z\v\n1", name("x", 0), num(1, 14))
	wantTokens(t, "# β\nβ", name("β", 5))
	// what is left out parts tokens
	wantTokens(t, "< =", word("<", 0), word("=", 2))
	wantTokens(t, "<#\n=", word("<", 0), word("=", 3))
	wantTokens(t, "1#2\n3", num(1, 0), num(3, 4))
	wantTokens(t, "1 2\n3", num(1, 0), num(2, 2), num(3, 4))
	wantTokens(t, "not in", name("not", 0), word("in", 4))
	wantTokens(t, "x y", name("x", 0), name("y", 2))
}

// P2.1: names and words

func TestEachWord(t *testing.T) {
	for _, w := range strings.Split(wordList, " ") {
		wantTokens(t, w, word(w, 0))
		wantTokens(t, " "+w+" ", word(w, 1))
		wantTokens(t, "("+w+")", word("(", 0), word(w, 1), word(")", len(w)+1))
		wantTokens(t, w+"#"+w, word(w, 0))
		wantTokens(t, w+" "+w, word(w, 0), word(w, len(w)+1))
		for _, more := range []string{"x", "A", "_", "ω", "0", "9", "'"} {
			wantTokens(t, w+more, name(w+more, 0))
		}
		for _, ahead := range []string{"x", "_", "ω"} {
			wantTokens(t, ahead+w, name(ahead+w, 0))
		}
		wantTokens(t, strings.ToUpper(w), name(strings.ToUpper(w), 0))
		wantTokens(t, "9"+w, num(9, 0), word(w, 1))
		if less := w[:len(w)-1]; less != "" {
			wantTokens(t, less, name(less, 0))
		}
	}
}

func TestNames(t *testing.T) {
	for _, s := range []string{
		"x", "X", "z", "a", "A", "Z", "_", "__", "α", "ω", "ς", "αβγ", "x'", "x''", "x'y", "_'", "_0", "x0", "α9'_Z", "x'9", "aAzZ",
		"ex", "ex3", "all", "var", "ex10", "True", "not", "or", "and", "trueno", "ininter", "notinin",
	} {
		wantTokens(t, s, name(s, 0))
		wantTokens(t, s+";"+s, name(s, 0), word(";", len(s)), name(s, len(s)+1))
	}
}

// P2.1: numbers

func TestNumbers(t *testing.T) {
	for n := range api.MaxNum + 1 {
		wantTokens(t, strconv.Itoa(n), num(n, 0))
		wantTokens(t, " "+strconv.Itoa(n)+"+", num(n, 1), word("+", 1+len(strconv.Itoa(n))))
	}
	wantTokens(t, "9x", num(9, 0), name("x", 1))
	wantTokens(t, "9 x", num(9, 0), name("x", 2))
	wantTokens(t, "0x", num(0, 0), name("x", 1))
	wantTokens(t, "99α1", num(99, 0), name("α1", 2))
	wantTokens(t, "1_", num(1, 0), name("_", 1))
	wantTokens(t, "x9", name("x9", 0))
	wantTokens(t, "x007", name("x007", 0))
	wantTokens(t, "x'100", name("x'100", 0))
	wantTokens(t, "x 9", name("x", 0), num(9, 2))
	wantTokens(t, "0 0", num(0, 0), num(0, 2))
	wantTokens(t, "x+1", name("x", 0), word("+", 1), num(1, 2))
}

// P2.1: signs

func TestEachSign(t *testing.T) {
	for _, s := range strings.Split(signList, " ") {
		wantTokens(t, s, word(s, 0))
		wantTokens(t, " "+s+" "+s, word(s, 1), word(s, len(s)+2))
		wantTokens(t, "x"+s+"0", name("x", 0), word(s, 1), num(0, 1+len(s)))
		wantTokens(t, "0"+s+"β", num(0, 0), word(s, 1), name("β", 1+len(s)))
		wantTokens(t, s+"#"+s, word(s, 0))
	}
}

func TestTheLongestSign(t *testing.T) {
	for _, x := range []string{ // the signs, parted by blanks
		"<=>", "<= =", "<= <", "~= =", "=> =", "~ ~=", "~ ~", "= =", "= = =", "= =>", "= = =>", "< <", "< <=", "< <=>", "< ~=",
		"<=> =", "<=> =>", "<=> <=>", "<= =>", "<= ~", "<= ~=", "~= =>", "~= ~=", "~ <=", "~ <=>", "=> ~=", "= ~", "= ~=", "= <", "= <=", "= <=>", "=> =>",
		"& & | |", "( ) { } , ; : + \\", ": =", "\\ \\", "+ +", "( ~ (", "{ } =",
	} {
		var want []api.Token
		at := 0
		for _, s := range strings.Split(x, " ") {
			want = append(want, word(s, at))
			at += len(s)
		}
		wantTokens(t, strings.ReplaceAll(x, " ", ""), want...)
	}
	for s, at := range map[string]int{">": 0, "<>": 1, "= >": 2, "=>>": 2, "<=>>": 3, "~>": 1, "~=>": 2, "<= >": 3, ">=": 0, "=<>": 2} {
		wantFault(t, s, at)
	}
}

func TestExample(t *testing.T) {
	wantTokens(t, "x<=3", name("x", 0), word("<=", 1), num(3, 3))
	wantTokens(t, "pred even'(var1 α) = α+2 notin {7,99}; # so far\n~ex1 x: even'(x) & x<=3;",
		word("pred", 0), name("even'", 5), word("(", 10), word("var1", 11), name("α", 16), word(")", 18), word("=", 20),
		name("α", 22), word("+", 24), num(2, 25), word("notin", 27), word("{", 33), num(7, 34), word(",", 35), num(99, 36), word("}", 38), word(";", 39),
		word("~", 50), word("ex1", 51), name("x", 55), word(":", 56), name("even'", 58), word("(", 63), name("x", 64), word(")", 65),
		word("&", 67), name("x", 69), word("<=", 70), num(3, 72), word(";", 73))
}

// P2.2

func TestWhatBeginsNoToken(t *testing.T) {
	for _, bad := range []string{
		"!", "'", ">", "\"", "$", "%", "*", "-", ".", "/", "?", "@", "[", "]", "^", "`", "\x00", "\v", "\f", "\x7f",
		"é", "Α", "Ω", "ΰ", "ϊ", "\u00a0", "\u2028", "\u0664", "€", "\U0001F600", "\uFFFD",
		"\xff", "\x80", "\xce", "\xe2\x82", "\xf0\x9f\x98", "\xc0\x80", "\xed\xa0\x80", "\xf4\x90\x80\x80", // of no rune
	} {
		wantFault(t, bad, 0)
		wantFault(t, bad+" x", 0)
		wantFault(t, " "+bad, 1)
		wantFault(t, "3"+bad, 1)
		wantFault(t, "=> "+bad+"(", 3)
		wantFault(t, "x < α "+bad, 7)
		wantFault(t, "# x\n"+bad, 4)
		wantFault(t, "3 # x\n"+bad+" x", 6)
		wantFault(t, bad+bad, 0)
		if bad != "'" { // a part of a name
			wantFault(t, "x"+bad, 1)
			wantFault(t, "αin"+bad+"y", 4)
		}
		if utf8.ValidString(bad) {
			wantTokens(t, "x #"+bad+"\n3", name("x", 0), num(3, 4+len(bad)))
		} else {
			wantFault(t, "#"+bad, 1)
			wantFault(t, "x # α "+bad+"\ny", 7)
			wantFault(t, "x # \uFFFD"+bad+bad, 7)
		}
	}
}

func TestLongNames(t *testing.T) {
	for _, unit := range []string{"a", "Z", "_", "α", "ω"} {
		for _, more := range []string{unit, "1", "'", "β"} {
			s := unit + strings.Repeat(more, api.MaxName-1)
			wantTokens(t, s, name(s, 0))
			wantTokens(t, " "+s+"=", name(s, 1), word("=", 1+len(s)))
			wantFault(t, s+more, 0)
			wantFault(t, "x = "+s+more+" y", 4)
			wantFault(t, "7"+s+more, 1)
			wantFault(t, s+" "+s+"'", len(s)+1)
		}
	}
	wantFault(t, strings.Repeat("x", api.MaxText), 0)
	wantFault(t, "truefalseex0ex1", 0)
}

func TestLargeNumbers(t *testing.T) {
	for _, s := range []string{
		"100", "101", "199", "999", "1000", "4294967296", "4294967299", "9223372036854775808", "18446744073709551616", "18446744073709551625", "340282366920938463463374607431768211457",
		strings.Repeat("9", 60), strings.Repeat("1", 1990), "1" + strings.Repeat("0", 1990),
		"00", "01", "07", "09", "099", "000", "0100", strings.Repeat("0", 1990), strings.Repeat("0", 1989) + "1",
	} {
		wantFault(t, s, 0)
		wantFault(t, s+"x", 0)
		wantFault(t, "x "+s, 2)
		wantFault(t, "=>"+s+";", 2)
		wantFault(t, "7 "+s, 2)
		wantTokens(t, "#"+s)
	}
}

func TestOfTwoFaultsTheFirst(t *testing.T) {
	for _, x := range []struct {
		s  string
		at int
	}{
		{"abcdefghijklm\xff", 0}, {"\xff abcdefghijklm", 0}, {"abcdefghijkl\xffm", 12}, {"αβγδεζηθικλμν\xff", 0},
		{"x 100\xff", 2}, {"x 10\xff0", 4}, {"x 07\xff", 2}, {"0\xff7", 1},
		{"100 !", 0}, {"! 100", 0}, {"x ! 07", 2}, {"x 07 !", 2}, {"abcdefghijklm 100", 0}, {"100 abcdefghijklm", 0}, {"100abcdefghijklm", 0}, {"99abcdefghijklm100", 2},
		{"x # \xff\n!", 4}, {"! # \xff", 0}, {"x > # \xff", 2}, {"x 100 # \xff", 2}, {"# ! 100\n\xff", 8}, {"# abcdefghijklm 07", -1}, {"# abcdefghijklm 07\n07 !", 19},
		{"\xff\xfe", 0}, {"x \xfe\xff", 2}, {"!\xff", 0}, {"\xff!", 0}, {"é\xff", 0}, {"\uFFFD\xff", 0}, {"# \uFFFD\xff", 5},
		{strings.Repeat(" ", api.MaxText-1) + "!", api.MaxText - 1}, {strings.Repeat(" ", api.MaxText-1) + "\xff", api.MaxText - 1},
		{strings.Repeat(" ", api.MaxText-3) + "\xce\xb1\xce", api.MaxText - 1},
	} {
		if x.at < 0 {
			wantTokens(t, x.s)
			continue
		}
		wantFault(t, x.s, x.at)
	}
}

// All of it, by another way

var pattern = regexp.MustCompile(`^(?:([ \t\r\n]|#[^\n]*)|([a-zA-Z_α-ω][a-zA-Z_α-ω0-9']*)|(0|[1-9][0-9]*)|(<=>|=>|<=|~=|[=~<&|(){},;:+\\]))`)

// plainTokens goes by the pattern, and then holds what it found against the limits.
func plainTokens(s string) (l []api.Token, at int, err api.Errno) {
	for at < len(s) {
		sound := s[at:]
		for !utf8.ValidString(sound) {
			sound = sound[:len(sound)-1]
		}
		m := pattern.FindStringSubmatch(sound)
		switch {
		case m == nil:
			return nil, at, api.ErrForm
		case m[2] != "" && slices.Contains(strings.Split(wordList, " "), m[2]) || m[4] != "":
			l = append(l, word(m[0], at))
		case m[2] != "":
			if len([]rune(m[2])) > 12 {
				return nil, at, api.ErrForm
			}
			l = append(l, name(m[2], at))
		case m[3] != "":
			n, fault := strconv.Atoi(m[3])
			digits := len(sound) - len(strings.TrimLeft(sound, "0123456789"))
			if fault != nil || n > 99 || digits > len(m[3]) {
				return nil, at, api.ErrForm
			}
			l = append(l, num(n, at))
		}
		at += len(m[0])
	}
	return append(l, end(at)), at, api.OK
}

// eachText calls f with every text of at most that many of the units.
func eachText(units []string, most int, f func(s string)) {
	var longer func(s string, left int)
	longer = func(s string, left int) {
		f(s)
		if left > 0 {
			for _, x := range units {
				longer(s+x, left-1)
			}
		}
	}
	longer("", most)
}

func TestShortTexts(t *testing.T) {
	compare := func(s string) {
		l, at, err := lex.Tokens(s)
		wantL, wantAt, wantErr := plainTokens(s)
		if !slices.Equal(l, wantL) || at != wantAt || err != wantErr {
			t.Errorf("Tokens(%q) is %v, %d, %d, not %v, %d, %d", s, l, at, err, wantL, wantAt, wantErr)
		}
	}
	eachText(strings.Split("a 0 7 ' # \n < = > ~ ! α \xce \xb1 \uFFFD", " "), 4, compare)
	eachText([]string{" ", "x", "0", "1", "9", "#", "\n", "\xff", "'"}, 4, compare)
	eachText([]string{"<", "=", ">", "~", "&", " "}, 5, compare)
	eachText(strings.Fields(wordList+" α _ ' 9"), 2, compare)
	eachText(strings.Fields(signList), 2, compare)
	for r := rune(0); r < 0x3000; r++ {
		compare(string(r))
		compare("x" + string(r) + "0")
		compare("#" + string(r) + "0")
	}
}

// P2.3 (Text and N of each kind are held in full by wantTokens above.)

// TestTokensIsNewMemory: W6, W7.
func TestTokensIsNewMemory(t *testing.T) {
	const s = "ex1 α: α <= 3 & even(α);"
	want, _, _ := plainTokens(s)
	first, _, _ := lex.Tokens(s)
	second, _, _ := lex.Tokens(s)
	for i := range first[:cap(first)] {
		first[:cap(first)][i] = api.Token{Kind: -1, Text: "x", N: -1, At: -1}
	}
	third, _, _ := lex.Tokens(s)
	if !slices.Equal(second, want) || !slices.Equal(third, want) {
		t.Error(second, third)
	}
}

// TestTextsAreNoPiecesOfTheText: a token that is kept keeps no more than itself.
func TestTextsAreNoPiecesOfTheText(t *testing.T) {
	s := strings.Repeat("true abc + ω' notin ", 20)
	begin := uintptr(unsafe.Pointer(unsafe.StringData(s)))
	l, _, _ := lex.Tokens(s)
	if len(l) != 101 {
		t.Fatal(len(l))
	}
	for _, x := range l {
		if x.Text == "" {
			continue
		}
		if p := uintptr(unsafe.Pointer(unsafe.StringData(x.Text))); begin <= p && p < begin+uintptr(len(s)) {
			t.Errorf("%q at %d shares the text's memory", x.Text, x.At)
		}
	}
}
