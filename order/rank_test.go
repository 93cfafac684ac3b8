package order_test

import (
	"slices"
	"testing"

	"hornbeam/api"
	"hornbeam/order"
)

// ranks checks a rank.
func ranks(t *testing.T, l []api.Term, u api.Term, at int, found bool) {
	t.Helper()
	if i, ok := order.Rank(l, u); i != at || ok != found {
		t.Fatalf("Rank of %s in %d elements %s: %d, %t, not %d, %t", showAny(u), len(l), show(l[:min(len(l), 5)]...), i, ok, at, found)
	}
}

// P4.4: the examples of the chapter.
func TestRankExamples(t *testing.T) {
	a, b, c, d := atom("a"), atom("b"), atom("c"), atom("d")
	ranks(t, []api.Term{a, b, c}, b, 1, true)
	ranks(t, []api.Term{a, c}, b, 1, false)
	ranks(t, []api.Term{c, a}, b, 0, false)
	ranks(t, nil, d, 0, false)
	ranks(t, []api.Term{}, d, 0, false)
	ranks(t, []api.Term{a, b, c}, d, 3, false)
	ranks(t, []api.Term{a, b, c}, num(9), 0, false)
	ranks(t, []api.Term{fun("f", x(0)), fun("f", x(1))}, fun("f", x(1)), 1, true)
}

// P4.4: all increasing lists of some terms, and the terms in and between them.
func TestRank(t *testing.T) {
	up := []api.Term{x(0), x(3), num(-4), num(4), atom("a"), atom("ab"), atom("b"), fun("f", x(0)), fun("a", x(0), x(1)), fun("a", x(0), atom("a"))}
	for set := range 1 << len(up) {
		var l []api.Term
		for at, u := range up {
			if set>>at&1 == 1 {
				l = append(l, u)
			}
		}
		before := 0
		for at, u := range up {
			in := set>>at&1 == 1
			ranks(t, l, u, before, in)
			if in {
				before++
			}
		}
	}
}

// P4.4: long lists, with every second term of another list.
func TestRankInLong(t *testing.T) {
	up := ladder()
	var even []api.Term
	for at := 0; at < len(up); at += 2 {
		even = append(even, up[at])
	}
	for at, u := range up {
		ranks(t, up, u, at, true)
		ranks(t, even, u, (at+1)/2, at%2 == 0)
	}
}

// P4.4: a list that is not increasing at one place, wherever the term would be.
func TestRankNotIncreasing(t *testing.T) {
	up := []api.Term{x(1), num(1), num(2), atom("a"), atom("b"), fun("f", atom("a")), fun("f", atom("b")), fun("f", x(0), x(0))}
	between := slices.Concat(up, []api.Term{x(0), num(0), atom("aa"), fun("f", x(0)), fun("z", x(0), x(0))})
	for at := 1; at < len(up); at++ {
		swapped := slices.Clone(up)
		swapped[at-1], swapped[at] = swapped[at], swapped[at-1]
		twice := slices.Insert(slices.Clone(up), at, up[at])
		for _, u := range between {
			ranks(t, swapped, u, 0, false)
			ranks(t, twice, u, 0, false)
			ranks(t, swapped[:at+1], u, 0, false)
			ranks(t, twice[:at+2], u, 0, false)
			ranks(t, swapped[at-1:], u, 0, false)
			ranks(t, twice[at:], u, 0, false)
		}
	}
	ranks(t, []api.Term{num(3), num(3)}, num(3), 0, false)
	ranks(t, []api.Term{atom("b"), atom("a")}, atom("c"), 0, false)
	ranks(t, []api.Term{num(1), num(5), num(4), num(6), num(7)}, num(7), 0, false)
}

// P4.4: a term that is not valid, as an element at every place and as the term.
func TestRankOfInvalid(t *testing.T) {
	up := []api.Term{x(1), num(2), atom("b"), fun("f", x(0))}
	for _, bad := range invalid() {
		ranks(t, up, bad, 0, false)
		ranks(t, nil, bad, 0, false)
		ranks(t, []api.Term{bad}, bad, 0, false)
		for place := range len(up) + 1 {
			for _, u := range []api.Term{x(0), x(1), num(2), atom("a"), atom("b"), fun("f", x(0)), fun("z", x(0), x(0))} {
				ranks(t, slices.Insert(slices.Clone(up), place, bad), u, 0, false)
			}
		}
	}
}

// P4.9: each element of a result of Sort has its index as its rank.
func TestRankInSorted(t *testing.T) {
	for _, l := range lists() {
		s, _ := order.Sort(l)
		if len(l) > 0 && len(s) == 0 {
			t.Fatalf("Sort of %d elements returns none", len(l))
		}
		for at, u := range s {
			ranks(t, s, u, at, true)
		}
	}
}
