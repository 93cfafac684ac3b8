package chars_test

import (
	"math"
	"strings"
	"testing"

	"hornbeam/api"
	"hornbeam/chars"
)

// The least and greatest integers, and integers that are a character's number modulo 2^8, 2^16 or 2^32.
var far = []int{math.MinInt, math.MinInt + 'a', -1 << 32, -1<<32 + 'n', -1 << 16, -512, -257, -256, -256 + 'n', -2, -1,
	256, 257, 256 + ' ', 256 + '0', 256 + 'n', 256 + '\\', 511, 512, 1<<16 + 'x', 1<<32 + 'n', 1<<32 + '\'', math.MaxInt - 1, math.MaxInt}

// span has the class of the characters from lo to hi. The spans follow each other without gaps from 0 to 255.
type span struct {
	lo, hi, class int
}

func spans() []span {
	return []span{
		{0, 8, api.ClassOther}, {9, 13, api.ClassLayout}, {14, 31, api.ClassOther}, {32, 32, api.ClassLayout},
		{'!', '!', api.ClassSolo}, {'"', '"', api.ClassQuote}, {'#', '$', api.ClassSymbol}, {'%', '%', api.ClassSolo},
		{'&', '&', api.ClassSymbol}, {39, 39, api.ClassQuote}, {'(', ')', api.ClassSolo}, {'*', '+', api.ClassSymbol},
		{',', ',', api.ClassSolo}, {'-', '/', api.ClassSymbol}, {'0', '9', api.ClassDigit}, {':', ':', api.ClassSymbol},
		{';', ';', api.ClassSolo}, {'<', '@', api.ClassSymbol}, {'A', 'Z', api.ClassCapital}, {'[', '[', api.ClassSolo},
		{'\\', '\\', api.ClassSymbol}, {']', ']', api.ClassSolo}, {'^', '^', api.ClassSymbol}, {'_', '_', api.ClassCapital},
		{96, 96, api.ClassQuote}, {'a', 'z', api.ClassSmall}, {'{', '}', api.ClassSolo}, {'~', '~', api.ClassSymbol},
		{127, 255, api.ClassOther},
	}
}

// P1.1, P1.2: every character, with both ends of each run of characters of one class.
func TestClassOfEveryCharacter(t *testing.T) {
	next := 0
	for _, s := range spans() {
		if s.lo != next {
			t.Fatalf("the spans do not cover %d", next)
		}
		for c := s.lo; c <= s.hi; c++ {
			if got := chars.Class(c); got != s.class {
				t.Errorf("Class(%d) is %d, not %d", c, got, s.class)
			}
		}
		next = s.hi + 1
	}
	if next != 256 {
		t.Fatalf("the spans end at %d", next)
	}
}

// P1.2: the classes divide the characters, and integers outside have none.
func TestClassesDivideTheCharacters(t *testing.T) {
	count := map[int]int{}
	for c := 0; c <= 255; c++ {
		count[chars.Class(c)]++
	}
	want := map[int]int{api.ClassLayout: 6, api.ClassSmall: 26, api.ClassCapital: 27, api.ClassDigit: 10,
		api.ClassSymbol: 17, api.ClassSolo: 11, api.ClassQuote: 3, api.ClassOther: 156}
	for class := api.ClassNone; class <= api.ClassOther+1; class++ {
		if count[class] != want[class] {
			t.Errorf("%d characters have the class %d, not %d", count[class], class, want[class])
		}
	}
	for _, c := range far {
		if got := chars.Class(c); got != api.ClassNone {
			t.Errorf("Class(%d) is %d", c, got)
		}
	}
}

func wantDigit(c, base int) (int, bool) {
	if base < 2 || base > 36 || c < 0 || c > 127 {
		return 0, false
	}
	digits := "0123456789abcdefghijklmnopqrstuvwxyz"[:base]
	value := strings.Index(digits, strings.ToLower(string(rune(c))))
	return max(value, 0), value >= 0
}

// P1.1: every character in every base, with the bases just outside 2 to 36.
func TestDigit(t *testing.T) {
	bases := append([]int{-36, -16, -1, 0, 1, 37, 38, 64, 1<<32 + 10}, far...)
	for base := 2; base <= 36; base++ {
		bases = append(bases, base)
	}
	integers := append([]int{}, far...)
	for c := 0; c <= 255; c++ {
		integers = append(integers, c)
	}
	for _, base := range bases {
		for _, c := range integers {
			want, wantOk := wantDigit(c, base)
			if got, ok := chars.Digit(c, base); got != want || ok != wantOk {
				t.Errorf("Digit(%d, %d) is %d, %v", c, base, got, ok)
			}
		}
	}
}

// P1.1: the ends of each run of digits, and the characters beside them.
func TestDigitEnds(t *testing.T) {
	for _, x := range []struct {
		c, base, value int
		ok             bool
	}{
		{'/', 36, 0, false}, {'0', 36, 0, true}, {'9', 36, 9, true}, {':', 36, 0, false},
		{'@', 36, 0, false}, {'A', 36, 10, true}, {'Z', 36, 35, true}, {'[', 36, 0, false},
		{'`', 36, 0, false}, {'a', 36, 10, true}, {'z', 36, 35, true}, {'{', 36, 0, false},
		{'z', 35, 0, false}, {'Z', 35, 0, false}, {'1', 2, 1, true}, {'2', 2, 0, false},
		{'0', 1, 0, false}, {'0', 2, 0, true}, {'0', 37, 0, false}, {'0', -1, 0, false},
		{'f', 16, 15, true}, {'F', 16, 15, true}, {'g', 16, 0, false}, {'8', 8, 0, false},
	} {
		if got, ok := chars.Digit(x.c, x.base); got != x.value || ok != x.ok {
			t.Errorf("Digit(%d, %d) is %d, %v", x.c, x.base, got, ok)
		}
	}
}

// wantEscape has the texts of the characters that are not written as themselves.
func wantEscape() map[int]string {
	want := map[int]string{7: `\a`, 8: `\b`, 9: `\t`, 10: `\n`, 11: `\v`, 12: `\f`, 13: `\r`, 39: `\'`, 92: `\\`}
	hex := "0123456789abcdef"
	for c := 0; c <= 255; c++ {
		if (c < 7 || c > 13 && c < 32 || c > 126) && c < 16 {
			want[c] = `\x` + hex[c:c+1] + `\`
		} else if c > 13 && c < 32 || c > 126 {
			want[c] = `\x` + hex[c>>4:c>>4+1] + hex[c&15:c&15+1] + `\`
		}
	}
	return want
}

// P1.1: every character, and integers that are none.
func TestEscape(t *testing.T) {
	special := wantEscape()
	for c := 0; c <= 255; c++ {
		want, found := special[c]
		if !found {
			want = string([]byte{byte(c)})
		}
		if got, ok := chars.Escape(c); got != want || !ok {
			t.Errorf("Escape(%d) is %q, %v, not %q", c, got, ok, want)
		}
	}
	for _, c := range far {
		if got, ok := chars.Escape(c); got != "" || ok {
			t.Errorf("Escape(%d) is %q, %v", c, got, ok)
		}
	}
}

// P1.1: the examples of the chapter, and both ends of each way of writing a character.
func TestEscapeEnds(t *testing.T) {
	for c, want := range map[int]string{0: `\x0\`, 6: `\x6\`, 7: `\a`, 13: `\r`, 14: `\xe\`, 15: `\xf\`, 16: `\x10\`, 31: `\x1f\`,
		32: " ", 34: `"`, 38: "&", 40: "(", 91: "[", 93: "]", 96: "`", 126: "~", 127: `\x7f\`, 128: `\x80\`, 160: `\xa0\`, 255: `\xff\`} {
		if got, ok := chars.Escape(c); got != want || !ok {
			t.Errorf("Escape(%d) is %q, %v, not %q", c, got, ok, want)
		}
	}
}

// P1.1: every character, and integers that are none.
func TestUnescape(t *testing.T) {
	want := map[int]int{'a': 7, 'b': 8, 't': 9, 'n': 10, 'v': 11, 'f': 12, 'r': 13, '\\': 92, '\'': 39, '"': 34, '`': 96}
	letters := append([]int{}, far...)
	for letter := 0; letter <= 255; letter++ {
		letters = append(letters, letter)
	}
	for _, letter := range letters {
		c, found := want[letter]
		if got, ok := chars.Unescape(letter); got != c || ok != found {
			t.Errorf("Unescape(%d) is %d, %v", letter, got, ok)
		}
	}
}

// P1.3: the texts differ, are printable, and those of two characters can be read back.
func TestEscapesDiffer(t *testing.T) {
	seen := map[string]int{}
	for c := 0; c <= 255; c++ {
		text, ok := chars.Escape(c)
		if !ok || text == "" {
			t.Fatalf("Escape(%d) is %q, %v", c, text, ok)
		}
		if other, found := seen[text]; found {
			t.Errorf("%d and %d are both written %q", other, c, text)
		}
		seen[text] = c
		for _, b := range []byte(text) {
			if b < 32 || b > 126 {
				t.Errorf("Escape(%d) contains %d", c, b)
			}
		}
		if len(text) != 2 {
			continue
		}
		if back, ok := chars.Unescape(int(text[1])); back != c || !ok {
			t.Errorf("Unescape(%q) is %d, %v, not %d", text[1:], back, ok, c)
		}
	}
}
