package ints_test

import (
	"math"
	"math/big"
	"strings"
	"testing"

	"hornbeam/api"
	"hornbeam/ints"
)

const digits = "0123456789abcdefghijklmnopqrstuvwxyz"

// P2.4: signs, zero, both ends of the range, and each number of digits.
func TestText(t *testing.T) {
	for n, want := range map[int64]string{0: "0", 1: "1", -1: "-1", 9: "9", 10: "10", -40: "-40", 100: "100", -1000000: "-1000000",
		least: "-9223372036854775808", least + 1: "-9223372036854775807", greatest: "9223372036854775807"} {
		if got := ints.Text(n); got != want {
			t.Errorf("Text(%d) is %q", n, got)
		}
	}
	for _, n := range append(edges(), numbers(1000)...) {
		if got := ints.Text(n); got != big.NewInt(n).String() {
			t.Errorf("Text(%d) is %q", n, got)
		}
	}
}

// P2.5: the examples, both cases of letters, signs, and leading zeros.
func TestParse(t *testing.T) {
	for _, x := range []struct {
		text string
		base int
		n    int64
	}{
		{"0", 10, 0}, {"-0", 10, 0}, {"000", 10, 0}, {"-000", 2, 0}, {"007", 10, 7}, {"-007", 10, -7},
		{"-0ff", 16, -255}, {"-0FF", 16, -255}, {"fF", 16, 255}, {"zZ", 36, 1295}, {"-Zz", 36, -1295}, {"101", 2, 5}, {"777", 8, 511},
		{"0b1", 16, 177}, {"0x1", 36, 1189}, {"0o7", 36, 871}, {"1e1", 16, 481}, {"inf", 36, 24171},
		{"9223372036854775807", 10, greatest}, {"-9223372036854775808", 10, least}, {"7fffffffffffffff", 16, greatest},
		{"-8000000000000000", 16, least}, {strings.Repeat("0", 20000) + "9223372036854775807", 10, greatest},
		{"-" + strings.Repeat("0", 20000) + "9223372036854775808", 10, least}, {strings.Repeat("0", 20000), 2, 0},
		{"1" + strings.Repeat("0", 62), 2, 1 << 62}, {"-1" + strings.Repeat("0", 63), 2, least}, {strings.Repeat("1", 63), 2, greatest},
	} {
		if n, e := ints.Parse(x.text, x.base); n != x.n || e != api.OK {
			t.Errorf("Parse(%.30q, %d) is %d, %v", x.text, x.base, n, e)
		}
	}
}

// P2.5: the ends of the range, and what is just beyond them, in every base.
func TestParseEveryBase(t *testing.T) {
	for base := 2; base <= 36; base++ {
		for _, want := range append(edges(), numbers(50)...) {
			lower := big.NewInt(want).Text(base)
			sign, rest := "", lower
			if want < 0 {
				sign, rest = "-", lower[1:]
			}
			for _, text := range []string{lower, strings.ToUpper(lower), sign + "0" + rest, sign + "0000000" + rest} {
				if n, e := ints.Parse(text, base); n != want || e != api.OK {
					t.Errorf("Parse(%q, %d) is %d, %v, not %d", text, base, n, e, want)
				}
			}
		}
		above, below := new(big.Int).Lsh(big.NewInt(1), 63), new(big.Int).Lsh(big.NewInt(-1), 63)
		below.Sub(below, big.NewInt(1))
		for range 40 {
			for _, n := range []*big.Int{above, below} {
				if n, e := ints.Parse(n.Text(base), base); n != 0 || e != api.ErrOverflow {
					t.Errorf("Parse of more than the range in base %d is %d, %v", base, n, e)
				}
			}
			above.Add(above, above.Rsh(above, 1)).Add(above, big.NewInt(1))
			below.Lsh(below, 1)
		}
	}
}

// P2.5: every byte as a digit of every base, alone and within a number.
func TestParseEveryDigit(t *testing.T) {
	for base := 2; base <= 36; base++ {
		for c := range 256 {
			digit, e := strings.IndexByte(strings.ToUpper(digits[:base]), byte(c)), api.OK
			if c < 'A' || c > 'Z' {
				digit = strings.IndexByte(digits[:base], byte(c))
			}
			value := int64(digit)
			if digit < 0 {
				value, e = 0, api.ErrForm
			}
			text := string([]byte{byte(c)})
			if n, got := ints.Parse(text, base); n != value || got != e {
				t.Errorf("Parse(%q, %d) is %d, %v", text, base, n, got)
			}
			for _, place := range []string{"1" + text, "1" + text + "1", "-1" + text} {
				if _, got := ints.Parse(place, base); got != e {
					t.Errorf("Parse(%q, %d) is %v", place, base, got)
				}
			}
		}
	}
}

// P2.5: ErrForm, also where the digits before or after the fault overflow.
func TestParseForm(t *testing.T) {
	long := strings.Repeat("1", 100)
	for _, text := range []string{"", "-", "--", "--1", "+", "+1", "-+1", "+-1", "1-", "1-1", "-1-", " ", " 1", "1 ", "- 1", "\t1", "1\n",
		"1_000", "_1", "1_", "1,000", "1.0", ".1", "1e3", "0x1", "0b1", "0o7", "0X1", "0'a", "2#1", "\x00", "1\x00", "\xff", "1\xff",
		"\u0661", "\uff11", "\u22121", "1\u0661", "nil", "a", "A", ":", "/", "@", "`",
		long + "!", long + " ", long + "_1", long + "-", "-" + long + "+", "!" + long, "+" + long, " -" + long, long + "\x00" + long} {
		if n, e := ints.Parse(text, 10); n != 0 || e != api.ErrForm {
			t.Errorf("Parse(%.30q, 10) is %d, %v", text, n, e)
		}
	}
	for base := 2; base <= 36; base++ {
		for _, text := range []string{"", "-", "--1", "+1", "1 ", "1_1", long + "_", long + "{"} {
			if n, e := ints.Parse(text, base); n != 0 || e != api.ErrForm {
				t.Errorf("Parse(%.30q, %d) is %d, %v", text, base, n, e)
			}
		}
	}
	for _, x := range []struct {
		text string
		base int
	}{{"2", 2}, {"-2", 2}, {"12", 2}, {"8", 8}, {"g", 16}, {"G", 16}, {"z", 35}, {"Z", 35}, {long + "2", 2}, {"-" + long + "z", 35}} {
		if n, e := ints.Parse(x.text, x.base); n != 0 || e != api.ErrForm {
			t.Errorf("Parse(%.30q, %d) is %d, %v", x.text, x.base, n, e)
		}
	}
}

// P2.5: ErrOverflow, however far the number is outside.
func TestParseOverflow(t *testing.T) {
	for _, text := range []string{"9223372036854775808", "-9223372036854775809", "09223372036854775808", "9223372036854775810",
		"18446744073709551615", "18446744073709551616", "18446744073709551617", "-18446744073709551616", "-18446744073709551617",
		"36893488147419103233", "100000000000000000000", strings.Repeat("9", 20000), "-" + strings.Repeat("9", 20000)} {
		if n, e := ints.Parse(text, 10); n != 0 || e != api.ErrOverflow {
			t.Errorf("Parse(%.30q, 10) is %d, %v", text, n, e)
		}
	}
}

// P2.5: bases that are none, whatever the digits are.
func TestParseBase(t *testing.T) {
	for _, base := range []int{math.MinInt, -36, -10, -2, -1, 0, 1, 37, 38, 64, 1<<8 + 10, 1<<32 + 10, math.MaxInt} {
		for _, text := range []string{"0", "1", "-1", "10", "", "-", "+1", "z", "0x10", "0b1", strings.Repeat("1", 1000)} {
			if n, e := ints.Parse(text, base); n != 0 || e != api.ErrArg {
				t.Errorf("Parse(%.30q, %d) is %d, %v", text, base, n, e)
			}
		}
	}
}

// P2.7: what Text writes is read back.
func TestParseOfText(t *testing.T) {
	for _, want := range append(edges(), numbers(20000)...) {
		if n, e := ints.Parse(ints.Text(want), 10); n != want || e != api.OK {
			t.Errorf("Parse(Text(%d), 10) is %d, %v", want, n, e)
		}
	}
}
