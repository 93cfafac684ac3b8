package ints_test

import (
	"testing"

	"hornbeam/api"
	"hornbeam/ints"
)

// pairs returns every two edges, and other numbers.
func pairs() [][2]int64 {
	var l [][2]int64
	for _, a := range edges() {
		for _, b := range edges() {
			l = append(l, [2]int64{a, b})
		}
	}
	some := numbers(2000)
	for i := 1; i < len(some); i++ {
		l = append(l, [2]int64{some[i-1], some[i]})
	}
	return l
}

// value is Binary for arguments that have a value.
func value(t *testing.T, name string, a, b int64) int64 {
	n, e := ints.Binary(name, a, b)
	if e != api.OK {
		t.Errorf("Binary(%q, %d, %d) is %v", name, a, b, e)
	}
	return n
}

// P2.6: a quotient and its remainder restore the number, and the remainder has the sign that is promised.
func TestQuotientAndRemainder(t *testing.T) {
	for _, p := range pairs() {
		a, b := p[0], p[1]
		if b == 0 {
			continue
		}
		for _, names := range [][2]string{{"//", "rem"}, {"div", "mod"}} {
			r := value(t, names[1], a, b)
			signed := a
			if names[1] == "mod" {
				signed = b
			}
			if r != 0 && (r < 0) != (signed < 0) {
				t.Errorf("%d %s %d is %d", a, names[1], b, r)
			}
			q, e := ints.Binary(names[0], a, b)
			if e != api.OK {
				if a != least || b != -1 {
					t.Errorf("%d %s %d is %v", a, names[0], b, e)
				}
				continue
			}
			whole, e := ints.Binary("*", q, b)
			if e != api.OK {
				// A quotient that is rounded down may leave a product just below the range, which the remainder brings back.
				if names[0] != "div" || q*b+r != a {
					t.Errorf("(%d %s %d) * %d is %v", a, names[0], b, b, e)
				}
				continue
			}
			if back := value(t, "+", whole, r); back != a {
				t.Errorf("%d and %d are the quotient and the remainder of %d and %d", q, r, a, b)
			}
		}
	}
}

// P2.8: a left shift that does not overflow is undone by a right shift.
func TestShiftBack(t *testing.T) {
	done := 0
	for _, a := range append(edges(), numbers(2000)...) {
		for count := range int64(64) {
			shifted, e := ints.Binary("<<", a, count)
			if e != api.OK {
				continue
			}
			done++
			if back := value(t, ">>", shifted, count); back != a {
				t.Errorf("%d shifted left and back by %d is %d", a, count, back)
			}
		}
	}
	if done < 10000 {
		t.Errorf("only %d shifts do not overflow", done)
	}
}

// P2.8: the sum of the and and the or, modulo 2^64.
func TestAndPlusOr(t *testing.T) {
	for _, p := range pairs() {
		both, either := value(t, `/\`, p[0], p[1]), value(t, `\/`, p[0], p[1])
		if both+either != p[0]+p[1] {
			t.Errorf("%d and %d have the and %d and the or %d", p[0], p[1], both, either)
		}
	}
}

// P2.9: the power with the sum of two exponents is the product of their powers.
func TestPowerOfSum(t *testing.T) {
	done := 0
	for _, a := range append(edges(), 5, 6, -5, -6, -10, 1000, -1000) {
		for m := range int64(66) {
			for n := range int64(66) {
				whole, e := ints.Binary("^", a, m+n)
				if e != api.OK {
					continue
				}
				done++
				// Where the whole power does not overflow, the two partial powers do not either.
				if got := value(t, "*", value(t, "^", a, m), value(t, "^", a, n)); got != whole {
					t.Errorf("%d to the power %d + %d is %d, not %d", a, m, n, whole, got)
				}
			}
		}
	}
	if done < 10000 {
		t.Errorf("only %d powers do not overflow", done)
	}
}
