package balls_test

import (
	"fmt"
	"slices"
	"testing"

	"hornbeam/api"
	"hornbeam/balls"
)

// elements are lists of elements, with none, with a few, and with those that are lists themselves.
func elements() [][]api.Term {
	return [][]api.Term{nil, {a("a")}, {a("a"), a("b")}, {i(1), x(3)}, {x(0)}, {x(2), x(0), x(2)}, {empty()}, {empty(), empty()}, {list(empty(), i(1), i(2)), i(3)},
		{list(x(0), i(1))}, {list(a("c"), i(1)), x(1)}, {i(1), list(x(1), i(2)), list(empty(), x(0))}, {s("f", s("g", x(4)), x(4)), s(".", x(0)), s(".", x(0), x(1), empty())},
		{a("."), a(""), s("[]", i(1))}, many(50, s("f", x(1)))}
}

// P6.4: lists.
func TestList(t *testing.T) {
	for _, l := range append(elements(), many(999, i(1)), many(999, x(1)), append(many(998, i(1)), s("f", x(1))), []api.Term{chain(1996, i(1))}, []api.Term{chain(1997, x(5))}) {
		r, ball, ok := balls.List(list(empty(), l...))
		if !ok || !slices.EqualFunc(r, l, same) {
			t.Errorf("List of %d elements: %d elements, %v", len(l), len(r), ok)
		}
		is(t, fmt.Sprintf("the ball of %d elements", len(l)), ball, api.Term{})
	}
}

// P6.4: partial lists.
func TestPartialList(t *testing.T) {
	for _, tail := range []api.Term{x(0), x(1), x(3), x(77), x(api.MaxVar)} {
		for _, l := range append(elements(), many(999, i(1)), append(many(998, i(1)), s("f", i(1))), []api.Term{chain(1997, i(1))}) {
			gives(t, "List", list(tail, l...), refused(inst()))
		}
	}
}

// tails are terms that are not lists, partial lists or the beginnings of such.
func tails() []api.Term {
	return []api.Term{a("c"), a(""), a("."), a("[ ]"), a("[]."), a("nil"), a("{}"), i(0), i(1), i(-1), s("f", x(0)), s("f", a("a"), empty()), s("[]", x(0)), s("[]", a("a"), empty()),
		s(".", a("a")), s(".", empty()), s(".", x(0)), s(".", a("a"), a("b"), empty()), s(".", a("a"), empty(), empty()), s(".", a("a"), empty(), x(0)), s(".", x(0), x(1), x(2)), s(".", many(8, empty())...),
		s("", a("a"), empty()), s("..", a("a"), empty()), s("'[|]'", a("a"), empty()), s("-", x(0), x(1)), s("f", list(empty(), i(1))), s("f", a("a"), x(0))}
}

// P6.4: terms that are neither lists nor partial lists.
func TestNoList(t *testing.T) {
	for _, tail := range tails() {
		for _, l := range elements() {
			u := list(tail, l...)
			gives(t, "List", u, refused(typeError("list", u)))
		}
	}
}

// P6.4: '...' stands in the place of a term that is no list, and too large.
func TestLargeNoList(t *testing.T) {
	for _, u := range []api.Term{list(a("c"), many(997, x(0))...), list(s("f", a("c")), many(997, i(1))...), chain(1995, empty()), list(a("c"), chain(1993, i(1)))} {
		gives(t, "List", u, refused(typeError("list", u)))
	}
	for _, u := range []api.Term{list(a("c"), many(998, x(0))...), list(a("c"), many(999, i(1))...), list(s("f", empty()), many(999, i(1))...), chain(1996, empty()), list(a("c"), chain(1994, i(1))), list(i(1), chain(1997, i(1)))} {
		gives(t, "List", u, refused(typeError("list", a("..."))))
	}
}
