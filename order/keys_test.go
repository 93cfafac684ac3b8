package order_test

import (
	"slices"
	"strings"
	"testing"

	"hornbeam/api"
	"hornbeam/order"
	"hornbeam/term"
)

// P4.3: the examples of the chapter, and some lists with their results.
func TestKeysExamples(t *testing.T) {
	of := func(key string, n int64) api.Term { return pair(atom(key), num(n)) }
	for _, k := range []struct{ l, want []api.Term }{
		{nil, nil},
		{[]api.Term{}, nil},
		{[]api.Term{of("b", 1), of("a", 2), of("b", 0)}, []api.Term{of("a", 2), of("b", 1), of("b", 0)}},
		{[]api.Term{of("a", 1)}, []api.Term{of("a", 1)}},
		{[]api.Term{of("a", 1), of("a", 1)}, []api.Term{of("a", 1), of("a", 1)}},
		{[]api.Term{of("a", 2), of("a", 1), of("a", 2)}, []api.Term{of("a", 2), of("a", 1), of("a", 2)}},
		{[]api.Term{pair(x(1), num(9)), pair(x(0), num(8)), pair(x(1), num(7))}, []api.Term{pair(x(0), num(8)), pair(x(1), num(9)), pair(x(1), num(7))}},
		{[]api.Term{pair(pair(num(2), num(1)), x(0)), pair(pair(num(1), num(2)), x(0))}, []api.Term{pair(pair(num(1), num(2)), x(0)), pair(pair(num(2), num(1)), x(0))}},
		{[]api.Term{pair(fun("f", x(0)), num(2)), pair(atom("z"), num(3)), pair(num(9), num(4)), pair(x(7), num(5))}, []api.Term{pair(x(7), num(5)), pair(num(9), num(4)), pair(atom("z"), num(3)), pair(fun("f", x(0)), num(2))}},
	} {
		s, e := order.Keys(k.l)
		check(t, "Keys", k.l, s, e, codes(k.want))
	}
}

// P4.3: the keys are nondecreasing, and pairs with identical keys stay in their order: the value of each pair is its place.
func TestKeys(t *testing.T) {
	for _, keys := range lists() {
		var l []api.Term
		for at, key := range keys {
			if term.Size(key) <= api.MaxSize-2 {
				l = append(l, pair(key, num(int64(-at))))
			}
		}
		want := slices.Clone(l)
		slices.SortStableFunc(want, func(a, b api.Term) int { return strings.Compare(code(a.Args[0]), code(b.Args[0])) })
		s, e := order.Keys(l)
		check(t, "Keys", l, s, e, codes(want))
	}
}

// P4.3: values, of all sorts, decide nothing.
func TestKeysOfValues(t *testing.T) {
	m := &maker{state: 9}
	for range 50 {
		var l []api.Term
		for _, value := range m.draw(60, slices.Concat(few(), leaves(), ladder())) {
			l = append(l, pair(fun("k", num(3)), value))
		}
		s, e := order.Keys(l)
		check(t, "Keys", l, s, e, codes(l))
	}
}

// P4.3: pairs with as many nodes as a term may have.
func TestKeysOfLarge(t *testing.T) {
	l := []api.Term{raw("-", chain(1997, atom("b")), x(1)), raw("-", chain(1997, atom("a")), x(2)), raw("-", atom("a"), chain(1997, x(0)))}
	s, e := order.Keys(l)
	check(t, "Keys", l, s, e, codes([]api.Term{l[2], l[1], l[0]}))
}

// P4.3: an element that is valid and no pair is an error at every place.
func TestKeysOfOthers(t *testing.T) {
	a := atom("a")
	for _, other := range []api.Term{a, atom("-"), atom("a-b"), x(0), num(1), num(-1), fun("-", a), fun("-", a, a, a), fun("--", a, a), fun("", a, a), fun("+", a, a), fun(":", a, a), fun("=", a, a),
		fun(".", a, a), fun("- ", a, a), fun("−", a, a), fun("f", pair(a, a)), fun("-", pair(a, a)), chain(1999, a), list(999, a)} {
		for n := range 4 {
			for place := range n + 1 {
				l := slices.Insert(slices.Repeat([]api.Term{pair(a, num(1))}, n), place, other)
				s, e := order.Keys(l)
				refuses(t, "Keys of "+show(l...), s, e, api.ErrForm)
			}
		}
	}
}
