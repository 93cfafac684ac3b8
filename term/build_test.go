package term_test

import (
	"math"
	"slices"
	"strings"
	"testing"

	"hornbeam/api"
	"hornbeam/term"
)

// P3.6: variables, and numbers just outside 0 to MaxVar.
func TestVar(t *testing.T) {
	for _, n := range []int64{0, 1, 2, 1 << 31, 1 << 32, api.MaxVar - 1, api.MaxVar} {
		is(t, "Var", term.Var(n), x(n))
	}
	for _, n := range []int64{-1, -2, api.MaxVar + 1, api.MaxVar + 2, math.MinInt64, math.MaxInt64} {
		is(t, "Var of a number out of range", term.Var(n), api.Term{})
	}
}

// P3.6: all integers.
func TestInt(t *testing.T) {
	for _, n := range []int64{0, 1, -1, 1 << 31, -1 << 32, api.MaxVar + 1, math.MinInt64, math.MaxInt64} {
		is(t, "Int", term.Int(n), i(n))
	}
}

// names are as long as they may be, or shorter; tooLong is longer.
func names() []string {
	return []string{"", "a", "[]", "foo bar", ".", "/", "\x00", "\xff\xfe", strings.Repeat("n", api.MaxName-1), strings.Repeat("n", api.MaxName),
		strings.Repeat("é", 50), strings.Repeat("\xff", api.MaxName)}
}

func tooLong() []string {
	return []string{strings.Repeat("n", api.MaxName+1), strings.Repeat("é", 51), strings.Repeat("\xff", api.MaxName+1), strings.Repeat("n", 20000)}
}

// P3.6: atoms, and structures without arguments, which are atoms.
func TestAtom(t *testing.T) {
	for _, name := range names() {
		is(t, "Atom", term.Atom(name), a(name))
		is(t, "Struct without arguments", term.Struct(name), a(name))
		is(t, "Struct without arguments", term.Struct(name, []api.Term{}...), a(name))
	}
	for _, name := range tooLong() {
		is(t, "Atom of a long name", term.Atom(name), api.Term{})
		is(t, "Struct of a long name", term.Struct(name), api.Term{})
	}
}

// P3.6: structures.
func TestStruct(t *testing.T) {
	is(t, "f(a, 1)", term.Struct("f", a("a"), i(1)), s("f", a("a"), i(1)))
	args := []api.Term{x(3), i(-1), a("c"), s("g", x(3)), empty(), a(""), x(api.MaxVar), i(7), a("nine")}
	for _, name := range names() {
		for n := 1; n <= api.MaxArity; n++ {
			is(t, "Struct", term.Struct(name, args[:n]...), s(name, args[:n]...))
		}
		is(t, "Struct with 9 arguments", term.Struct(name, args...), api.Term{})
	}
	for _, name := range tooLong() {
		is(t, "Struct of a long name", term.Struct(name, args[:2]...), api.Term{})
	}
	is(t, "Struct with 100000 arguments", term.Struct("f", make([]api.Term, 100000)...), api.Term{})
	is(t, "Struct of 2000 nodes", term.Struct("f", bushy(1000), bushy(999)), s("f", bushy(1000), bushy(999)))
	is(t, "Struct of 2001 nodes", term.Struct("f", bushy(1000), bushy(1000)), api.Term{})
	is(t, "Struct of 2001 nodes", term.Struct("f", chain(1999, x(0))), api.Term{})
	for _, u := range invalid() {
		is(t, "Struct of "+show(u), term.Struct("f", u), api.Term{})
		is(t, "Struct of "+show(u)+" and others", term.Struct("f", u, a("a"), x(0)), api.Term{})
		is(t, "Struct of others and "+show(u), term.Struct("f", a("a"), x(0), u), api.Term{})
	}
}

// P3.6: indicators.
func TestIndicator(t *testing.T) {
	for arity := range api.MaxArity + 1 {
		for _, name := range names() {
			is(t, "Indicator", term.Indicator(name, arity), s("/", a(name), i(int64(arity))))
		}
		for _, name := range tooLong() {
			is(t, "Indicator of a long name", term.Indicator(name, arity), api.Term{})
		}
	}
	for _, arity := range []int{-1, 9, -2, 10, -9, 1 << 32, 1<<32 + 1, 256, math.MinInt, math.MaxInt} {
		is(t, "Indicator of an arity out of range", term.Indicator("foo", arity), api.Term{})
	}
}

// P3.7: lists and partial lists, and structures that only begin like them.
func TestListAndElems(t *testing.T) {
	for at, c := range []struct {
		l    []api.Term
		tail api.Term
		t    api.Term
	}{
		{[]api.Term{a("a"), a("b")}, empty(), pair(a("a"), pair(a("b"), empty()))},
		{[]api.Term{a("a"), a("b")}, x(4), pair(a("a"), pair(a("b"), x(4)))},
		{[]api.Term{x(1), i(2), x(1)}, i(3), pair(x(1), pair(i(2), pair(x(1), i(3))))},
		{nil, empty(), empty()},
		{nil, x(4), x(4)},
		{nil, i(-4), i(-4)},
		{nil, a("."), a(".")},
		{nil, s(".", a("a")), s(".", a("a"))},
		{nil, s(".", a("a"), a("b"), empty()), s(".", a("a"), a("b"), empty())},
		{nil, s("f", a("a"), empty()), s("f", a("a"), empty())},
		{nil, s("..", a("a"), empty()), s("..", a("a"), empty())},
		{nil, s("'[|]'", a("a"), empty()), s("'[|]'", a("a"), empty())},
		{nil, s("", a("a"), empty()), s("", a("a"), empty())},
		{[]api.Term{pair(i(1), empty())}, empty(), pair(pair(i(1), empty()), empty())},
		{[]api.Term{pair(i(1), empty()), pair(i(2), x(0))}, s("f", i(3), empty()), pair(pair(i(1), empty()), pair(pair(i(2), x(0)), s("f", i(3), empty())))},
		{[]api.Term{empty()}, empty(), pair(empty(), empty())},
		{slices.Repeat([]api.Term{x(2)}, 999), empty(), list(999, x(2), empty())},
		{slices.Repeat([]api.Term{x(2)}, 999), s("f", i(1)), list(999, x(2), s("f", i(1)))},
		{[]api.Term{bushy(1998)}, empty(), pair(bushy(1998), empty())},
	} {
		is(t, "List", term.List(c.l, c.tail), c.t)
		l, tail := term.Elems(c.t)
		if !slices.EqualFunc(l, c.l, same) || !same(tail, c.tail) {
			t.Errorf("%d: Elems has %d elements, and the tail %s", at, len(l), show(tail))
		}
	}
}

// P3.7: a list to which a list is the tail.
func TestListOnList(t *testing.T) {
	is(t, "List", term.List([]api.Term{i(1), i(2)}, list(2, i(3), x(0))), pair(i(1), pair(i(2), pair(i(3), pair(i(3), x(0))))))
	is(t, "List without elements", term.List(nil, list(2, i(3), x(0))), list(2, i(3), x(0)))
	is(t, "List without elements", term.List([]api.Term{}, list(2, i(3), x(0))), list(2, i(3), x(0)))
}

// P3.7: lists with too many nodes, or with elements or a tail that are not valid.
func TestListOfInvalid(t *testing.T) {
	for at, c := range []struct {
		n    int
		tail api.Term
	}{{999, s("f", s("f", i(1)))}, {1000, empty()}, {1001, empty()}, {1999, empty()}, {2000, empty()}, {2001, empty()}, {1 << 20, empty()}, {1, bushy(1999)}} {
		if r := term.List(slices.Repeat([]api.Term{x(1)}, c.n), c.tail); !same(r, api.Term{}) {
			t.Errorf("%d: %s", at, show(r))
		}
	}
	is(t, "List of 2001 nodes", term.List([]api.Term{bushy(1999)}, empty()), api.Term{})
	for _, u := range invalid() {
		is(t, "List with the tail "+show(u), term.List(nil, u), api.Term{})
		is(t, "List of an element with the tail "+show(u), term.List([]api.Term{i(1)}, u), api.Term{})
		is(t, "List of "+show(u), term.List([]api.Term{u}, empty()), api.Term{})
		is(t, "List of "+show(u)+" and others", term.List([]api.Term{u, i(1), i(2)}, empty()), api.Term{})
		is(t, "List of others and "+show(u), term.List([]api.Term{i(1), i(2), u}, empty()), api.Term{})
	}
}

// P3.7: a term that is not valid has no elements, and no tail.
func TestElemsOfInvalid(t *testing.T) {
	for _, u := range invalid() {
		for _, v := range []api.Term{u, pair(i(1), u), pair(u, empty()), pair(i(1), pair(u, empty())), pair(i(1), pair(i(2), u))} {
			l, tail := term.Elems(v)
			if len(l) != 0 {
				t.Errorf("%s has %d elements", show(v), len(l))
			}
			is(t, "the tail of "+show(v), tail, api.Term{})
		}
	}
}
