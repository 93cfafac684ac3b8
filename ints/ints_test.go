package ints_test

import (
	"math"
	"math/big"
	"strings"
	"testing"

	"hornbeam/api"
	"hornbeam/ints"
)

const (
	least    = math.MinInt64
	greatest = math.MaxInt64
)

func unaryNames() []string {
	return []string{"-", "+", "abs", "sign", `\`}
}

func binaryNames() []string {
	return []string{"+", "-", "*", "//", "rem", "div", "mod", "min", "max", ">>", "<<", `/\`, `\/`, "xor", "^", "gcd"}
}

// The names of the other table, and names that differ from a name in case, in length or by layout.
func unknownNames() []string {
	return []string{"", " ", "foo", "ABS", "Abs", "ab", "abs ", " abs", "abs\x00", "signum", "--", "++", `\\`, "/", "///", "\\/\\",
		"**", "^^", "<", ">", "<<<", ">>>", "MOD", "modulo", "quot", "XOR", "Gcd", "lcm", "and", "or", "msb", "+ ", "\x00", "\xff",
		strings.Repeat("-", 20000)}
}

// edges are the ends of the range and of its halves, the shift counts and divisors that the chapter names, and their neighbours.
func edges() []int64 {
	return []int64{least, least + 1, least + 2, least/2 - 1, least / 2, least/2 + 1, -3037000500, -1<<32 - 1, -1 << 32, -1 << 31,
		-65, -64, -63, -62, -12, -7, -4, -3, -2, -1, 0, 1, 2, 3, 4, 7, 10, 18, 31, 32, 61, 62, 63, 64, 65, 1 << 31, 1 << 32, 1<<32 + 1,
		3037000499, 3037000500, greatest / 3, 1<<62 - 1, 1 << 62, 1<<62 + 1, greatest - 2, greatest - 1, greatest}
}

// numbers returns integers of all lengths, always the same ones.
func numbers(count int) []int64 {
	var l []int64
	x := uint64(1)
	for range count {
		x = x*6364136223846793005 + 1442695040888963407
		l = append(l, int64(x^x>>29)>>(x>>58))
	}
	return l
}

// fit is what is promised of a value: the value itself, or ErrOverflow without a value.
func fit(value *big.Int) (int64, api.Errno) {
	if !value.IsInt64() {
		return 0, api.ErrOverflow
	}
	return value.Int64(), api.OK
}

func wantUnary(name string, n int64) (int64, api.Errno) {
	a, value := big.NewInt(n), new(big.Int)
	switch name {
	case "-":
		value.Neg(a)
	case "+":
		value.Set(a)
	case "abs":
		value.Abs(a)
	case "sign":
		value.SetInt64(int64(a.Sign()))
	case `\`:
		value.Sub(value.Neg(a), big.NewInt(1))
	default:
		return 0, api.ErrNone
	}
	return fit(value)
}

// floor rounds down, where Div of the library leaves a remainder that is not negative.
func floor(a, b *big.Int) *big.Int {
	if b.Sign() < 0 {
		a, b = new(big.Int).Neg(a), new(big.Int).Neg(b)
	}
	return new(big.Int).Div(a, b)
}

// remainder is that of a quotient of a and b.
func remainder(a, b, quotient *big.Int) *big.Int {
	return new(big.Int).Sub(a, new(big.Int).Mul(b, quotient))
}

func wantDivision(name string, a, b *big.Int) (int64, api.Errno) {
	if b.Sign() == 0 {
		return 0, api.ErrZero
	}
	truncated, down := new(big.Int).Quo(a, b), floor(a, b)
	switch name {
	case "//":
		return fit(truncated)
	case "rem":
		return fit(remainder(a, b, truncated))
	case "div":
		return fit(down)
	}
	return fit(remainder(a, b, down))
}

func wantShift(name string, a, b *big.Int) (int64, api.Errno) {
	if b.Sign() < 0 || b.Cmp(big.NewInt(63)) > 0 {
		return 0, api.ErrUndef
	}
	factor := new(big.Int).Exp(big.NewInt(2), b, nil)
	if name == ">>" {
		return fit(floor(a, factor))
	}
	return fit(new(big.Int).Mul(a, factor))
}

func wantPower(a, b *big.Int) (int64, api.Errno) {
	one := a.IsInt64() && (a.Int64() == 1 || a.Int64() == -1)
	switch {
	case one && b.Bit(0) == 0:
		return 1, api.OK
	case one:
		return a.Int64(), api.OK
	case b.Sign() < 0 && a.Sign() == 0:
		return 0, api.ErrZero
	case b.Sign() < 0:
		return 0, api.ErrUndef
	case b.Sign() > 0 && a.Sign() == 0:
		return 0, api.OK
	case b.Cmp(big.NewInt(64)) > 0:
		return 0, api.ErrOverflow
	}
	return fit(new(big.Int).Exp(a, b, nil))
}

func wantBinary(name string, m, n int64) (int64, api.Errno) {
	a, b, value := big.NewInt(m), big.NewInt(n), new(big.Int)
	switch name {
	case "+":
		value.Add(a, b)
	case "-":
		value.Sub(a, b)
	case "*":
		value.Mul(a, b)
	case "//", "rem", "div", "mod":
		return wantDivision(name, a, b)
	case "min", "max":
		if (a.Cmp(b) < 0) == (name == "min") {
			return m, api.OK
		}
		return n, api.OK
	case ">>", "<<":
		return wantShift(name, a, b)
	case `/\`:
		value.And(a, b)
	case `\/`:
		value.Or(a, b)
	case "xor":
		value.Xor(a, b)
	case "^":
		return wantPower(a, b)
	case "gcd":
		value.GCD(nil, nil, new(big.Int).Abs(a), new(big.Int).Abs(b))
	default:
		return 0, api.ErrNone
	}
	return fit(value)
}

// P2.1: what the table and its notes say, spelt out.
func TestUnaryTable(t *testing.T) {
	for _, x := range []struct {
		name     string
		a, value int64
		e        api.Errno
	}{
		{"-", 5, -5, api.OK}, {"-", -5, 5, api.OK}, {"-", 0, 0, api.OK}, {"-", greatest, least + 1, api.OK},
		{"-", least + 1, greatest, api.OK}, {"-", least, 0, api.ErrOverflow},
		{"+", 5, 5, api.OK}, {"+", -5, -5, api.OK}, {"+", 0, 0, api.OK}, {"+", least, least, api.OK}, {"+", greatest, greatest, api.OK},
		{"abs", 7, 7, api.OK}, {"abs", -7, 7, api.OK}, {"abs", 0, 0, api.OK}, {"abs", greatest, greatest, api.OK},
		{"abs", least + 1, greatest, api.OK}, {"abs", least, 0, api.ErrOverflow},
		{"sign", -9, -1, api.OK}, {"sign", 0, 0, api.OK}, {"sign", 9, 1, api.OK}, {"sign", least, -1, api.OK}, {"sign", greatest, 1, api.OK},
		{`\`, 0, -1, api.OK}, {`\`, -1, 0, api.OK}, {`\`, 6, -7, api.OK}, {`\`, least, greatest, api.OK}, {`\`, greatest, least, api.OK},
	} {
		if value, e := ints.Unary(x.name, x.a); value != x.value || e != x.e {
			t.Errorf("Unary(%q, %d) is %d, %v", x.name, x.a, value, e)
		}
	}
}

// P2.1: every function of the ends of the range, their neighbours, and integers between.
func TestUnaryIsExact(t *testing.T) {
	for _, name := range unaryNames() {
		for _, a := range append(edges(), numbers(1000)...) {
			want, wantE := wantUnary(name, a)
			if value, e := ints.Unary(name, a); value != want || e != wantE {
				t.Errorf("Unary(%q, %d) is %d, %v, not %d, %v", name, a, value, e, want, wantE)
			}
		}
	}
}

// P2.1: names that are not in the table, those of Binary among them.
func TestUnaryUnknown(t *testing.T) {
	for _, name := range append(unknownNames(), binaryNames()...) {
		if name == "-" || name == "+" {
			continue
		}
		for _, a := range edges() {
			if value, e := ints.Unary(name, a); value != 0 || e != api.ErrNone {
				t.Errorf("Unary(%.10q, %d) is %d, %v", name, a, value, e)
			}
		}
	}
}

type binaryCase struct {
	name        string
	a, b, value int64
	e           api.Errno
}

func checkBinary(t *testing.T, cases []binaryCase) {
	for _, x := range cases {
		if value, e := ints.Binary(x.name, x.a, x.b); value != x.value || e != x.e {
			t.Errorf("Binary(%q, %d, %d) is %d, %v", x.name, x.a, x.b, value, e)
		}
	}
}

// P2.2: sums, products and selections at the ends of the range.
func TestBinaryRange(t *testing.T) {
	checkBinary(t, []binaryCase{
		{"+", 2, 3, 5, api.OK}, {"+", least, greatest, -1, api.OK}, {"+", greatest, 0, greatest, api.OK}, {"+", least, 0, least, api.OK},
		{"+", greatest, 1, 0, api.ErrOverflow}, {"+", 1, greatest, 0, api.ErrOverflow}, {"+", least, -1, 0, api.ErrOverflow},
		{"+", -1, least, 0, api.ErrOverflow}, {"+", least, least, 0, api.ErrOverflow}, {"+", greatest, greatest, 0, api.ErrOverflow},
		{"-", 2, 3, -1, api.OK}, {"-", least, least, 0, api.OK}, {"-", greatest, greatest, 0, api.OK}, {"-", -1, least, greatest, api.OK},
		{"-", 0, greatest, least + 1, api.OK}, {"-", -1, greatest, least, api.OK}, {"-", 0, least, 0, api.ErrOverflow},
		{"-", -2, greatest, 0, api.ErrOverflow}, {"-", least, 1, 0, api.ErrOverflow}, {"-", greatest, -1, 0, api.ErrOverflow},
		{"*", -3, 4, -12, api.OK}, {"*", 0, least, 0, api.OK}, {"*", least, 0, 0, api.OK}, {"*", least, 1, least, api.OK},
		{"*", 1, least, least, api.OK}, {"*", -1, greatest, least + 1, api.OK}, {"*", greatest, -1, least + 1, api.OK},
		{"*", -1, least, 0, api.ErrOverflow}, {"*", least, -1, 0, api.ErrOverflow}, {"*", -1 << 32, 1 << 31, least, api.OK},
		{"*", 1 << 32, 1 << 31, 0, api.ErrOverflow}, {"*", 1 << 32, 1 << 32, 0, api.ErrOverflow}, {"*", least, least, 0, api.ErrOverflow},
		{"*", greatest, greatest, 0, api.ErrOverflow}, {"*", 3037000500, 3037000500, 0, api.ErrOverflow},
		{"min", least, greatest, least, api.OK}, {"min", greatest, least, least, api.OK}, {"min", -2, 2, -2, api.OK}, {"min", 3, 3, 3, api.OK},
		{"max", least, greatest, greatest, api.OK}, {"max", greatest, least, greatest, api.OK}, {"max", -2, 2, 2, api.OK}, {"max", 3, 3, 3, api.OK},
	})
}

// P2.2: the four divisions with all signs, the divisors 0, 1 and -1, and the ends of the range.
func TestBinaryDivision(t *testing.T) {
	checkBinary(t, []binaryCase{
		{"//", 7, 2, 3, api.OK}, {"//", -7, 2, -3, api.OK}, {"//", 7, -2, -3, api.OK}, {"//", -7, -2, 3, api.OK},
		{"rem", 7, 2, 1, api.OK}, {"rem", -7, 2, -1, api.OK}, {"rem", 7, -2, 1, api.OK}, {"rem", -7, -2, -1, api.OK},
		{"div", 7, 2, 3, api.OK}, {"div", -7, 2, -4, api.OK}, {"div", 7, -2, -4, api.OK}, {"div", -7, -2, 3, api.OK},
		{"mod", 7, 2, 1, api.OK}, {"mod", -7, 2, 1, api.OK}, {"mod", 7, -2, -1, api.OK}, {"mod", -7, -2, -1, api.OK},
		{"div", -6, 2, -3, api.OK}, {"div", 6, -2, -3, api.OK}, {"mod", -6, 2, 0, api.OK}, {"mod", 6, -2, 0, api.OK},
		{"//", least, 1, least, api.OK}, {"rem", least, 1, 0, api.OK}, {"div", least, 1, least, api.OK}, {"mod", least, 1, 0, api.OK},
		{"//", least, -1, 0, api.ErrOverflow}, {"rem", least, -1, 0, api.OK}, {"div", least, -1, 0, api.ErrOverflow}, {"mod", least, -1, 0, api.OK},
		{"//", greatest, -1, least + 1, api.OK}, {"rem", greatest, -1, 0, api.OK}, {"div", greatest, -1, least + 1, api.OK}, {"mod", greatest, -1, 0, api.OK},
		{"//", greatest, least, 0, api.OK}, {"rem", greatest, least, greatest, api.OK}, {"div", greatest, least, -1, api.OK}, {"mod", greatest, least, -1, api.OK},
		{"//", least, greatest, -1, api.OK}, {"rem", least, greatest, -1, api.OK}, {"div", least, greatest, -2, api.OK}, {"mod", least, greatest, greatest - 1, api.OK},
		{"//", least, least, 1, api.OK}, {"rem", least, least, 0, api.OK}, {"div", least, least, 1, api.OK}, {"mod", least, least, 0, api.OK},
		{"div", 1, least, -1, api.OK}, {"mod", 1, least, least + 1, api.OK}, {"div", -1, greatest, -1, api.OK}, {"mod", -1, greatest, greatest - 1, api.OK},
		{"div", greatest, -2, -1 << 62, api.OK}, {"//", greatest, -2, -1<<62 + 1, api.OK}, {"//", 0, -5, 0, api.OK}, {"div", 0, -5, 0, api.OK},
	})
	for _, name := range []string{"//", "rem", "div", "mod"} {
		for _, a := range edges() {
			checkBinary(t, []binaryCase{{name, a, 0, 0, api.ErrZero}})
		}
	}
}

// P2.2: shifts with the counts at and beyond both ends, and the operations on bits.
func TestBinaryBits(t *testing.T) {
	checkBinary(t, []binaryCase{
		{">>", -5, 1, -3, api.OK}, {">>", 5, 1, 2, api.OK}, {">>", -5, 0, -5, api.OK}, {">>", -1, 63, -1, api.OK}, {">>", 1, 63, 0, api.OK},
		{">>", least, 63, -1, api.OK}, {">>", greatest, 63, 0, api.OK}, {">>", least, 62, -2, api.OK}, {">>", greatest, 62, 1, api.OK},
		{"<<", 1, 62, 1 << 62, api.OK}, {"<<", 1, 63, 0, api.ErrOverflow}, {"<<", -1, 63, least, api.OK}, {"<<", 0, 63, 0, api.OK},
		{"<<", 2, 62, 0, api.ErrOverflow}, {"<<", 4, 62, 0, api.ErrOverflow}, {"<<", 2, 63, 0, api.ErrOverflow}, {"<<", -2, 63, 0, api.ErrOverflow},
		{"<<", least, 0, least, api.OK}, {"<<", greatest, 0, greatest, api.OK}, {"<<", least, 1, 0, api.ErrOverflow}, {"<<", greatest, 1, 0, api.ErrOverflow},
		{`/\`, -2, 7, 6, api.OK}, {`/\`, least, greatest, 0, api.OK}, {`/\`, least, -1, least, api.OK}, {`/\`, greatest, -1, greatest, api.OK},
		{`\/`, -2, 7, -1, api.OK}, {`\/`, least, greatest, -1, api.OK}, {`\/`, least, 1, least + 1, api.OK}, {`\/`, greatest, 0, greatest, api.OK},
		{"xor", -2, 7, -7, api.OK}, {"xor", least, greatest, -1, api.OK}, {"xor", least, least, 0, api.OK}, {"xor", greatest, -1, least, api.OK},
	})
	for _, name := range []string{">>", "<<"} {
		for _, a := range edges() {
			for _, b := range []int64{least, -1 << 32, -64, -63, -1, 64, 65, 128, 1 << 32, 1<<32 + 1, greatest} {
				checkBinary(t, []binaryCase{{name, a, b, 0, api.ErrUndef}})
			}
		}
	}
}

// P2.2: powers, with negative exponents among them, and greatest common divisors.
func TestBinaryPowerAndDivisor(t *testing.T) {
	checkBinary(t, []binaryCase{
		{"^", 3, 4, 81, api.OK}, {"^", -3, 3, -27, api.OK}, {"^", 0, 0, 1, api.OK}, {"^", least, 0, 1, api.OK}, {"^", greatest, 0, 1, api.OK},
		{"^", least, 1, least, api.OK}, {"^", greatest, 1, greatest, api.OK}, {"^", least, 2, 0, api.ErrOverflow}, {"^", greatest, 2, 0, api.ErrOverflow},
		{"^", 2, 62, 1 << 62, api.OK}, {"^", 2, 63, 0, api.ErrOverflow}, {"^", 2, 64, 0, api.ErrOverflow}, {"^", -2, 62, 1 << 62, api.OK},
		{"^", -2, 63, least, api.OK}, {"^", -2, 64, 0, api.ErrOverflow}, {"^", 3, 39, 4052555153018976267, api.OK}, {"^", 3, 40, 0, api.ErrOverflow},
		{"^", 1, least, 1, api.OK}, {"^", 1, -1, 1, api.OK}, {"^", 1, greatest, 1, api.OK},
		{"^", -1, least, 1, api.OK}, {"^", -1, -3, -1, api.OK}, {"^", -1, -2, 1, api.OK}, {"^", -1, -1, -1, api.OK}, {"^", -1, 0, 1, api.OK},
		{"^", -1, greatest, -1, api.OK}, {"^", -1, greatest - 1, 1, api.OK}, {"^", 0, 1, 0, api.OK}, {"^", 0, greatest, 0, api.OK},
		{"^", 0, -1, 0, api.ErrZero}, {"^", 0, least, 0, api.ErrZero}, {"^", 2, -1, 0, api.ErrUndef}, {"^", -2, -1, 0, api.ErrUndef},
		{"^", 2, least, 0, api.ErrUndef}, {"^", least, -1, 0, api.ErrUndef}, {"^", greatest, least, 0, api.ErrUndef},
		{"^", 2, greatest, 0, api.ErrOverflow}, {"^", -2, greatest, 0, api.ErrOverflow}, {"^", least, greatest, 0, api.ErrOverflow},
		{"gcd", -12, 18, 6, api.OK}, {"gcd", 12, -18, 6, api.OK}, {"gcd", -12, -18, 6, api.OK}, {"gcd", 0, 0, 0, api.OK}, {"gcd", 0, -5, 5, api.OK},
		{"gcd", -5, 0, 5, api.OK}, {"gcd", least, 0, 0, api.ErrOverflow}, {"gcd", 0, least, 0, api.ErrOverflow}, {"gcd", least, least, 0, api.ErrOverflow},
		{"gcd", least, greatest, 1, api.OK}, {"gcd", greatest, least, 1, api.OK}, {"gcd", least, -1, 1, api.OK}, {"gcd", -1, least, 1, api.OK},
		{"gcd", least, 1 << 62, 1 << 62, api.OK}, {"gcd", least, -6, 2, api.OK}, {"gcd", greatest, greatest, greatest, api.OK}, {"gcd", greatest, 0, greatest, api.OK},
	})
}

// P2.2: every function of every two edges, and of integers of all lengths.
func TestBinaryIsExact(t *testing.T) {
	check := func(name string, a, b int64) {
		want, wantE := wantBinary(name, a, b)
		if value, e := ints.Binary(name, a, b); value != want || e != wantE {
			t.Errorf("Binary(%q, %d, %d) is %d, %v, not %d, %v", name, a, b, value, e, want, wantE)
		}
	}
	some := numbers(4000)
	for _, name := range binaryNames() {
		for _, a := range edges() {
			for _, b := range edges() {
				check(name, a, b)
			}
		}
		for i := 1; i < len(some); i++ {
			check(name, some[i-1], some[i])
			check(name, some[i-1], some[i]&63)
		}
	}
}

// P2.2: names that are not in the table, those of Unary among them, whatever the numbers are.
func TestBinaryUnknown(t *testing.T) {
	for _, name := range append(unknownNames(), "abs", "sign", `\`) {
		for _, a := range []int64{least, -1, 0, 1, greatest} {
			for _, b := range []int64{least, -1, 0, 1, 64, greatest} {
				if value, e := ints.Binary(name, a, b); value != 0 || e != api.ErrNone {
					t.Errorf("Binary(%.10q, %d, %d) is %d, %v", name, a, b, value, e)
				}
			}
		}
	}
}

// P2.3: each name with each number of arguments, and numbers of arguments that no function has.
func TestKnown(t *testing.T) {
	one, two := map[string]bool{}, map[string]bool{}
	for _, name := range unaryNames() {
		one[name] = true
	}
	for _, name := range binaryNames() {
		two[name] = true
	}
	names := append(append(unknownNames(), unaryNames()...), binaryNames()...)
	for _, name := range names {
		for _, arity := range []int{math.MinInt, -2, -1, 0, 1, 2, 3, 4, 8, 1<<8 + 1, 1<<32 + 1, 1<<32 + 2, math.MaxInt} {
			want := arity == 1 && one[name] || arity == 2 && two[name]
			if ok := ints.Known(name, arity); ok != want {
				t.Errorf("Known(%.10q, %d) is %v", name, arity, ok)
			}
		}
	}
}

// P2.3: a name is known exactly if its function is found.
func TestKnownAgrees(t *testing.T) {
	names := append(append(unknownNames(), unaryNames()...), binaryNames()...)
	for _, name := range names {
		if _, e := ints.Unary(name, 1); (e != api.ErrNone) != ints.Known(name, 1) {
			t.Errorf("Known(%.10q, 1) is %v", name, e == api.ErrNone)
		}
		if _, e := ints.Binary(name, 1, 1); (e != api.ErrNone) != ints.Known(name, 2) {
			t.Errorf("Known(%.10q, 2) is %v", name, e == api.ErrNone)
		}
	}
}
