package runes_test

import (
	"math"
	"slices"
	"strings"
	"testing"
	"unicode/utf8"

	"sibyl/api"
	"sibyl/runes"
)

// P1.1

const (
	letters = "abcdefghijklmnopqrstuvwxyz" + "ABCDEFGHIJKLMNOPQRSTUVWXYZ" + "_" + "αβγδεζηθικλμνξοπρςστυφχψω"
	digits  = "0123456789"
	spaces  = " \t\n\r"
	signs   = `=~<>&|(){},;:+\#'`
)

func TestClassAtTheEdgesOfEachRange(t *testing.T) {
	for _, x := range []struct {
		r    rune
		want int
	}{
		{'a' - 1, api.Other}, {'a', api.Letter}, {'z', api.Letter}, {'z' + 1, api.Sign},
		{'{', api.Sign}, {'}', api.Sign}, {'}' + 1, api.Sign}, {'~' + 1, api.Other},
		{'A' - 1, api.Other}, {'A', api.Letter}, {'Z', api.Letter}, {'Z' + 1, api.Other},
		{'_' - 1, api.Other}, {'_', api.Letter}, {'_' + 1, api.Other},
		{0x03B0, api.Other}, {0x03B1, api.Letter}, {0x03C2, api.Letter}, {0x03C9, api.Letter}, {0x03CA, api.Other},
		{0x0391, api.Other}, {0x03A9, api.Other},
		{'0' - 1, api.Other}, {'0', api.Digit}, {'9', api.Digit}, {'9' + 1, api.Sign},
		{' ' - 1, api.Other}, {' ', api.Space}, {' ' + 1, api.Other},
		{'\t' - 1, api.Other}, {'\t', api.Space}, {'\n', api.Space}, {'\n' + 1, api.Other},
		{'\r' - 1, api.Other}, {'\r', api.Space}, {'\r' + 1, api.Other},
	} {
		if got := runes.Class(x.r); got != x.want {
			t.Errorf("Class(%#x) is %d, not %d", x.r, got, x.want)
		}
	}
}

func TestClassOfEveryRune(t *testing.T) {
	want := map[rune]int{}
	for class, s := range map[int]string{api.Letter: letters, api.Digit: digits, api.Space: spaces, api.Sign: signs} {
		for _, r := range s {
			want[r] = class
		}
	}
	if len(want) != 78+10+4+17 {
		t.Fatal("the test's own lists have", len(want))
	}
	// What is not in the map is 0, and that is Other.
	for r := rune(-300); r <= utf8.MaxRune+300; r++ {
		if got := runes.Class(r); got != want[r] {
			t.Errorf("Class(%#x) is %d, not %d", r, got, want[r])
		}
	}
}

func TestClassBeyondWhatThereIs(t *testing.T) {
	for _, r := range []rune{math.MinInt32, math.MinInt32 + 'a', -'a', -1, 0, 0xD800, 0xDFFF, utf8.RuneError, utf8.MaxRune, utf8.MaxRune + 1, 1<<24 + 'a', 1<<30 + '=', math.MaxInt32} {
		if got := runes.Class(r); got != api.Other {
			t.Errorf("Class(%#x) is %d", r, got)
		}
	}
}

// P1.2

func TestEach(t *testing.T) {
	for _, x := range []struct {
		s   string
		l   []api.Rune
		bad int
	}{
		{"", nil, -1},
		{"a", []api.Rune{{R: 'a', At: 0}}, -1},
		{"aβ", []api.Rune{{R: 'a', At: 0}, {R: 'β', At: 1}}, -1},
		{"aβ€\U0001F600z", []api.Rune{{R: 'a', At: 0}, {R: 'β', At: 1}, {R: '€', At: 3}, {R: 0x1F600, At: 6}, {R: 'z', At: 10}}, -1},
		{"\x00\n\x7f", []api.Rune{{R: 0, At: 0}, {R: '\n', At: 1}, {R: 0x7f, At: 2}}, -1},
		{"\u0080\u07ff\u0800\uffff\U00010000\U0010ffff", []api.Rune{{R: 0x80, At: 0}, {R: 0x7ff, At: 2}, {R: 0x800, At: 4}, {R: 0xffff, At: 7}, {R: 0x10000, At: 10}, {R: 0x10ffff, At: 14}}, -1},
		// a written U+FFFD
		{"\uFFFD", []api.Rune{{R: 0xFFFD, At: 0}}, -1},
		{"x\uFFFD\uFFFDy", []api.Rune{{R: 'x', At: 0}, {R: 0xFFFD, At: 1}, {R: 0xFFFD, At: 4}, {R: 'y', At: 7}}, -1},
		{"\uFFFD\xff\uFFFD", []api.Rune{{R: 0xFFFD, At: 0}}, 3},
		{"\xff\uFFFD", nil, 0},
		{"a\xef\xbf", []api.Rune{{R: 'a', At: 0}}, 1},
		// a byte that begins no rune: at the beginning, in the middle, at the end
		{"\xff", nil, 0},
		{"\x80ab", nil, 0},
		{"aβ\x80b", []api.Rune{{R: 'a', At: 0}, {R: 'β', At: 1}}, 3},
		{"ab\xff", []api.Rune{{R: 'a', At: 0}, {R: 'b', At: 1}}, 2},
		{"a\xffb\xffc", []api.Rune{{R: 'a', At: 0}}, 1},
		// a rune cut short: at the end, and by another rune
		{"\xce", nil, 0},
		{"a\xe2\x82", []api.Rune{{R: 'a', At: 0}}, 1},
		{"β\xf0\x9f\x98", []api.Rune{{R: 'β', At: 0}}, 2},
		{"a\xce\nb", []api.Rune{{R: 'a', At: 0}}, 1},
		{"\xe2\x82a", nil, 0},
		// longer than need be, a half of a pair, beyond what there is
		{"a\xc0\x80", []api.Rune{{R: 'a', At: 0}}, 1},
		{"\xe0\x80\x80", nil, 0},
		{"\xed\xa0\x80", nil, 0},
		{"\xf4\x90\x80\x80", nil, 0},
	} {
		l, bad := runes.Each(x.s)
		if !slices.Equal(l, x.l) || bad != x.bad {
			t.Errorf("Each(%q) is %v, %d, not %v, %d", x.s, l, bad, x.l, x.bad)
		}
	}
}

// plainEach goes by DecodeRuneInString's width, byte by byte.
func plainEach(s string) (l []api.Rune, bad int) {
	for at := 0; at < len(s); {
		r, width := utf8.DecodeRuneInString(s[at:])
		if r == utf8.RuneError && width == 1 {
			return l, at
		}
		l = append(l, api.Rune{R: r, At: at})
		at += width
	}
	return l, -1
}

// bytesOfNote: what begins, goes on with and cuts runes of each length.
const bytesOfNote = "a\n\x7f\x80\x82\x9f\xa0\xbd\xbf\xc0\xce\xe0\xe2\xed\xef\xf0\xf4\xf5\xff"

// eachShortText calls f with every text of at most four of these bytes.
func eachShortText(f func(s string)) {
	texts := []string{""}
	for range 4 {
		var longer []string
		for _, s := range texts {
			f(s)
			for i := range len(bytesOfNote) {
				longer = append(longer, s+bytesOfNote[i:i+1])
			}
		}
		texts = longer
	}
	for _, s := range texts {
		f(s)
	}
}

func TestEachOfShortTexts(t *testing.T) {
	eachShortText(func(s string) {
		l, bad := runes.Each(s)
		wantL, wantBad := plainEach(s)
		if !slices.Equal(l, wantL) || bad != wantBad {
			t.Errorf("Each(%q) is %v, %d, not %v, %d", s, l, bad, wantL, wantBad)
		}
	})
}

func TestEachOfALongText(t *testing.T) {
	part := "aβ€\U0001F600\uFFFD\n"
	const parts = 5000
	for _, end := range []string{"", "\xff", "\xf0\x9f"} {
		l, bad := runes.Each(strings.Repeat(part, parts) + end)
		wantBad := -1
		if end != "" {
			wantBad = parts * len(part)
		}
		if len(l) != parts*6 || bad != wantBad || l[len(l)-1] != (api.Rune{R: '\n', At: parts*len(part) - 1}) {
			t.Errorf("with %q at its end: %d runes, %d", end, len(l), bad)
		}
	}
}

// TestEachIsNewMemory: W6, W7.
func TestEachIsNewMemory(t *testing.T) {
	const s = "aβ€\n"
	want, _ := plainEach(s)
	first, _ := runes.Each(s)
	second, _ := runes.Each(s)
	for i := range first[:cap(first)] {
		first[:cap(first)][i] = api.Rune{R: -1, At: -1}
	}
	third, _ := runes.Each(s)
	if !slices.Equal(second, want) || !slices.Equal(third, want) {
		t.Error(second, third)
	}
}

// P1.3

func TestPlace(t *testing.T) {
	// Places:  a 0, β 1, \n 3, \n 4, € 5, x 8, \xff 9, \xff 10, y 11, \r 12, \n 13, z 14, the end 15.
	const s = "aβ\n\n€x\xff\xffy\r\nz"
	for _, x := range []struct{ at, line, column int }{
		{math.MinInt, 1, 1}, {-1, 1, 1}, {0, 1, 1}, // below 0
		{1, 1, 2},
		{2, 1, 3}, // within β
		{3, 1, 3}, // at a line feed
		{4, 2, 1}, // behind it, at another
		{5, 3, 1},
		{6, 3, 2}, {7, 3, 2}, // within €
		{8, 3, 2},
		{9, 3, 3}, {10, 3, 4}, {11, 3, 5}, // at and behind bytes of no rune
		{12, 3, 6}, {13, 3, 7}, // a carriage return is a rune as others are
		{14, 4, 1}, {15, 4, 2}, // the last rune, the end
		{16, 4, 2}, {math.MaxInt, 4, 2}, // beyond it
	} {
		if line, column := runes.Place(s, x.at); line != x.line || column != x.column {
			t.Errorf("Place at %d is %d, %d, not %d, %d", x.at, line, column, x.line, x.column)
		}
	}
}

func TestPlaceOfOtherTexts(t *testing.T) {
	for _, x := range []struct {
		s                string
		at, line, column int
	}{
		{"", math.MinInt, 1, 1}, {"", -1, 1, 1}, {"", 0, 1, 1}, {"", 1, 1, 1}, {"", math.MaxInt, 1, 1},
		{"\n", 0, 1, 1}, {"\n", 1, 2, 1}, {"\n", 2, 2, 1},
		{"\U0001F600b", 1, 1, 2}, {"\U0001F600b", 3, 1, 2}, {"\U0001F600b", 4, 1, 2}, {"\U0001F600b", 5, 1, 3},
		{"\n\U0001F600b", 2, 2, 2}, {"\n\U0001F600b", 4, 2, 2}, {"\n\U0001F600b", 5, 2, 2},
		// a rune cut short: each of its bytes is of no rune
		{"a\xf0\x9f\x98", 2, 1, 3}, {"a\xf0\x9f\x98", 3, 1, 4}, {"a\xf0\x9f\x98", 4, 1, 5}, {"a\xf0\x9f\x98", 9, 1, 5},
		{"\xe2\x82\nb", 2, 1, 3}, {"\xe2\x82\nb", 3, 2, 1}, {"\xe2\x82\nb", 4, 2, 2},
		// only a line feed ends a line
		{"a\rb\vc\u2028d\u0085e", 12, 1, 10},
		{"\uFFFD\uFFFD\n\uFFFD", 3, 1, 2}, {"\uFFFD\uFFFD\n\uFFFD", 5, 1, 3}, {"\uFFFD\uFFFD\n\uFFFD", 8, 2, 2},
	} {
		if line, column := runes.Place(x.s, x.at); line != x.line || column != x.column {
			t.Errorf("Place(%q, %d) is %d, %d, not %d, %d", x.s, x.at, line, column, x.line, x.column)
		}
	}
}

// plainPlace goes by what the promise says: line feeds ahead of at, then
// what begins behind the last of these.
func plainPlace(s string, at int) (line, column int) {
	at = min(max(at, 0), len(s))
	begin := strings.LastIndexByte(s[:at], '\n') + 1
	for i := begin; i < at; column++ {
		_, width := utf8.DecodeRuneInString(s[i:])
		i += width
	}
	return 1 + strings.Count(s[:at], "\n"), 1 + column
}

func TestPlaceOfShortTexts(t *testing.T) {
	eachShortText(func(s string) {
		for at := -1; at <= len(s)+1; at++ {
			line, column := runes.Place(s, at)
			wantLine, wantColumn := plainPlace(s, at)
			if line != wantLine || column != wantColumn {
				t.Errorf("Place(%q, %d) is %d, %d, not %d, %d", s, at, line, column, wantLine, wantColumn)
			}
		}
	})
}
