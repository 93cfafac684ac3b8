package subst_test

import (
	"testing"

	"hornbeam/api"
	"hornbeam/subst"
)

// unifies reports an error unless Unify, of both orders of the terms, returns the bindings that are wanted.
func unifies(t *testing.T, s []api.Binding, a, b api.Term, want []api.Binding) {
	t.Helper()
	for _, pair := range [][2]api.Term{{a, b}, {b, a}} {
		r, e := subst.Unify(s, pair[0], pair[1])
		if e != api.OK || !sameAll(r, want) {
			t.Errorf("Unify of %s and %s with %s returns %s, %v, not %s", show(pair[0]), show(pair[1]), showAll(s), showAll(r), e, showAll(want))
		}
	}
}

// endsWith reports an error unless Unify, of both orders of the terms, returns an error and nothing else.
func endsWith(t *testing.T, call string, s []api.Binding, a, b api.Term, want api.Errno) {
	t.Helper()
	for _, pair := range [][2]api.Term{{a, b}, {b, a}} {
		if r, e := subst.Unify(s, pair[0], pair[1]); e != want || len(r) != 0 {
			t.Errorf("Unify of %s returns %d bindings and %v, not %v", call, len(r), e, want)
		}
	}
}

// P5.4: unifications without bindings.
func TestUnify(t *testing.T) {
	for _, c := range []struct{ a, b, want string }{
		{"f(X0, X0)", "f(X1, a)", "X0 = a; X1 = X0"},
		{"X2", "X1", "X2 = X1"},
		{"X0", "X1099511627776", "X1099511627776 = X0"},
		{"X4294967297", "X2", "X4294967297 = X2"},
		{"X0", "X0", ""},
		{"a", "a", ""},
		{"-3", "-3", ""},
		{"f(a, g(1, X7))", "f(a, g(1, X7))", ""},
		{"X5", "a", "X5 = a"},
		{"X5", "5", "X5 = 5"},
		{"X5", "f(X6, X4)", "X5 = f(X6, X4)"},
		{"f(X0, X1)", "f(X2, X3)", "X2 = X0; X3 = X1"},
		{"f(X0, X1)", "f(X1, X2)", "X1 = X0; X2 = X0"},
		{"f(X2, X1)", "f(X1, X0)", "X1 = X0; X2 = X1"},
		{"f(X1, X0)", "f(X2, X2)", "X1 = X0; X2 = X1"},
		{"f(X0, X1)", "f(X2, X2)", "X1 = X0; X2 = X0"},
		{"f(X0, X2)", "f(X2, X0)", "X2 = X0"},
		{"f(X0, g(X0))", "f(a, X1)", "X0 = a; X1 = g(X0)"},
		{"f(X1, X0)", "f(g(X0), a)", "X0 = a; X1 = g(X0)"},
		{"f(X0, X0)", "f(g(X1), g(X2))", "X0 = g(X1); X2 = X1"},
		{"f(X0, X0)", "f(g(X1), g(a))", "X0 = g(X1); X1 = a"},
		{"f(X0, X1, X0)", "f(X1, g(X2, b), g(a, X3))", "X0 = g(X2, b); X1 = X0; X2 = a; X3 = b"},
		{"f(g(X0, X3), h(X1))", "f(X2, h(k(X2)))", "X1 = k(X2); X2 = g(X0, X3)"},
		{"f(f(f(X0, X1), X2), X3)", "f(f(f(X3, X3), X3), 0)", "X1 = X0; X2 = X0; X3 = X0; X0 = 0"},
	} {
		unifies(t, nil, read(c.a), read(c.b), with(binds(c.want)))
	}
}

// P5.4: unifications with bindings, which stay, and stand in the result as they are.
func TestUnifyWithBindings(t *testing.T) {
	for _, c := range []struct{ s, a, b, more string }{
		{"X0 = a", "X0", "a", ""},
		{"X0 = a", "X1", "X0", "X1 = a"},
		{"X0 = X1", "X0", "a", "X1 = a"},
		{"X0 = X1", "X0", "X1", ""},
		{"X0 = X5", "X0", "X1", "X5 = X1"},
		{"X0 = X5; X5 = X3", "X0", "X9", "X9 = X3"},
		{"X0 = X5; X5 = X3; X7 = X1", "X0", "X7", "X3 = X1"},
		{"X0 = f(X1)", "X0", "f(a)", "X1 = a"},
		{"X0 = f(X1)", "X0", "X2", "X2 = f(X1)"},
		{"X0 = f(X1); X1 = a", "X0", "X2", "X2 = f(X1)"},
		{"X0 = f(X1); X1 = a", "g(X3)", "g(g(X0))", "X3 = g(X0)"},
		{"X0 = f(X1); X2 = f(X3)", "X0", "X2", "X3 = X1"},
		{"X0 = f(X1, b); X2 = f(a, X3)", "X2", "X0", "X1 = a; X3 = b"},
		{"X0 = a; X4 = b", "f(X2, X6, X1)", "f(c, d, e)", "X1 = e; X2 = c; X6 = d"},
		{"X4 = X8; X8 = g(X9)", "f(X4, X1)", "f(g(h(X1)), 2)", "X9 = h(X1); X1 = 2"},
		{"X1 = a; X1099511627776 = X4294967297", "f(X1099511627776)", "f(X1)", "X4294967297 = a"},
		{"X1 = X0; X2 = X1; X3 = X2", "f(X3, X2)", "f(X4, b)", "X4 = X0; X0 = b"},
		{"X0 = f(X1, X1); X1 = f(X2, X2)", "X0", "f(X3, f(b, X2))", "X2 = b; X3 = f(X2, X2)"},
	} {
		s := binds(c.s)
		unifies(t, s, read(c.a), read(c.b), with(s, binds(c.more)...))
	}
}

// P5.4: terms that cannot be unified, and variables that occur in the other term.
func TestUnifyFails(t *testing.T) {
	for _, c := range []struct {
		s, a, b string
		want    api.Errno
	}{
		{"", "a", "b", api.ErrNone},
		{"", "1", "2", api.ErrNone},
		{"", "1", "-1", api.ErrNone},
		{"", "0", "4294967296", api.ErrNone},
		{"", "a", "1", api.ErrNone},
		{"", "a", "f(a)", api.ErrNone},
		{"", "f", "f(f)", api.ErrNone},
		{"", "0", "f(0)", api.ErrNone},
		{"", "f(a)", "f(a, a)", api.ErrNone},
		{"", "f(X0)", "f(X0, X0)", api.ErrNone},
		{"", "f(X5)", "g(X5)", api.ErrNone},
		{"", "f(X0, b)", "f(a, c)", api.ErrNone},
		{"", "f(X0, X0)", "f(a, b)", api.ErrNone},
		{"", "f(X0, X1, X0)", "f(X1, a, b)", api.ErrNone},
		{"", "f(1, 2, 3, 4, 5, 6, 7, 8)", "f(1, 2, 3, 4, 5, 6, 7, 9)", api.ErrNone},
		{"", "f(1, 2, 3, 4, 5, 6, 7, 8)", "f(0, 2, 3, 4, 5, 6, 7, 8)", api.ErrNone},
		{"X0 = a", "X0", "b", api.ErrNone},
		{"X0 = X1; X1 = f(X2); X2 = a", "X0", "f(b)", api.ErrNone},
		{"X0 = a; X1 = b", "X0", "X1", api.ErrNone},
		{"", "X3", "f(X3)", api.ErrOccurs},
		{"", "X3", "f(a, g(b, h(X3)))", api.ErrOccurs},
		{"", "f(X0, X1)", "f(g(X1), g(X0))", api.ErrOccurs},
		{"", "f(X0, X0)", "f(X1, g(X1))", api.ErrOccurs},
		{"", "f(X0, X1, X2)", "f(g(X1), g(X2), g(X0))", api.ErrOccurs},
		{"", "f(X0, X0)", "f(g(X1), g(f(X1)))", api.ErrOccurs},
		{"", "X1099511627776", "f(X1099511627776)", api.ErrOccurs},
		{"X1 = g(X0)", "X0", "f(X1)", api.ErrOccurs},
		{"X1 = g(X0)", "X0", "X1", api.ErrOccurs},
		{"X1 = X2; X2 = h(a, X3); X3 = X0", "X0", "f(X1)", api.ErrOccurs},
		{"X0 = X5", "X0", "f(X5)", api.ErrOccurs},
		{"X0 = X5", "X5", "f(X0)", api.ErrOccurs},
		{"X0 = X5; X1 = X5", "X0", "f(X1)", api.ErrOccurs},
	} {
		endsWith(t, c.a+" and "+c.b+" with "+c.s, binds(c.s), read(c.a), read(c.b), c.want)
	}
}

// P5.4: pairs are processed from left to right, each with all that is below it, so that the first one that cannot be unified decides.
func TestUnifyOrder(t *testing.T) {
	for _, c := range []struct {
		a, b string
		want api.Errno
	}{
		{"f(a, X0)", "f(b, g(X0))", api.ErrNone},
		{"f(X0, a)", "f(g(X0), b)", api.ErrOccurs},
		{"f(X0, h(a), X1)", "f(c, h(b), g(X1))", api.ErrNone},
		{"f(X0, h(X1), a)", "f(c, h(g(X1)), b)", api.ErrOccurs},
		{"f(h(h(h(a))), X0)", "f(h(h(h(b))), g(X0))", api.ErrNone},
		{"f(h(h(h(X0))), a)", "f(h(h(h(g(X0)))), b)", api.ErrOccurs},
		{"f(h(c, X0), a)", "f(h(c, g(X0)), b)", api.ErrOccurs},
		{"f(h(c, a), X0)", "f(h(c, b), g(X0))", api.ErrNone},
		{"f(X0, X0, X1)", "f(a, b, g(X1))", api.ErrNone},
		{"f(X1, X0, X0)", "f(g(X1), a, b)", api.ErrOccurs},
		{"f(X0, X1, X0)", "f(X1, g(X0), a)", api.ErrOccurs},
		{"f(X0, X0, X1)", "f(X1, a, g(X0))", api.ErrNone},
	} {
		endsWith(t, c.a+" and "+c.b, nil, read(c.a), read(c.b), c.want)
	}
	// Which variable is bound to which structure shows the order in results.
	unifies(t, nil, read("f(X9, X9, X9)"), read("f(g(X1), g(X2), g(X3))"), binds("X2 = X1; X3 = X1; X9 = g(X1)"))
	unifies(t, nil, read("f(X9, h(X9), X9)"), read("f(g(X3), h(g(X2)), g(X1))"), binds("X2 = X1; X3 = X2; X9 = g(X3)"))
	unifies(t, nil, read("f(h(X9, X8), X9, X8)"), read("f(h(g(X1), k(X4)), g(a), k(b))"), binds("X1 = a; X4 = b; X8 = k(X4); X9 = g(X1)"))
}

// P5.4: what is not valid, before everything else.
func TestUnifyInvalid(t *testing.T) {
	for _, s := range invalidBindings() {
		endsWith(t, "terms with invalid bindings", s, atom("a"), atom("a"), api.ErrArg)
		endsWith(t, "terms with invalid bindings", s, atom("a"), atom("b"), api.ErrArg)
		endsWith(t, "terms with invalid bindings", s, x(77), fun("f", x(77)), api.ErrArg)
	}
	for _, u := range invalid() {
		for _, s := range [][]api.Binding{nil, binds("X0 = a")} {
			for _, v := range []api.Term{x(0), x(1), atom("a"), fun("f", x(1)), u} {
				endsWith(t, "an invalid term", s, u, v, api.ErrArg)
			}
			endsWith(t, "terms with an invalid part", s, fun("f", atom("a"), u), fun("f", atom("b"), atom("c")), api.ErrArg)
		}
	}
}

// P5.4: each pair counts, and there may be exactly MaxSteps of them. Unifying u19 and v19 takes MaxSteps - 1 pairs, u18 and v18 half of MaxSteps - 1.
func TestUnifySteps(t *testing.T) {
	s := with(double(0, 20), double(50, 20)...)
	s = with(s, to(20, x(25)), to(25, atom("z")), to(70, x(25)))
	u19, v19, u18, v18 := x(1), x(51), x(2), x(52)
	a, b := atom("a"), atom("b")
	for at, c := range []struct {
		a, b api.Term
		e    api.Errno
	}{
		{u19, v19, api.OK},
		{u19, u19, api.OK},
		{x(0), x(50), api.ErrLong},
		{x(0), x(0), api.ErrLong},
		{fun("f", u19), fun("f", v19), api.OK},
		{fun("f", u19), fun("f", u19), api.OK},
		{fun("f", fun("f", u19)), fun("f", fun("f", v19)), api.ErrLong},
		{fun("f", u19, a), fun("f", v19, a), api.ErrLong},
		{fun("f", u19, x(5)), fun("f", v19, x(5)), api.ErrLong},
		{fun("f", u19, x(100)), fun("f", u19, x(100)), api.ErrLong},
		{fun("f", u19, x(100)), fun("f", u19, x(101)), api.ErrLong},
		{fun("f", u19, num(1)), fun("f", u19, num(2)), api.ErrLong},
		{fun("f", u19, x(100)), fun("f", u19, fun("g", x(100))), api.ErrLong},
		{fun("f", u18, u18, a), fun("f", v18, v18, a), api.OK},
		{fun("f", u18, u18, u18), fun("f", v18, v18, v18), api.ErrLong},
		{fun("f", u18, u18, x(100)), fun("f", v18, v18, x(100)), api.OK},
		{fun("f", u18, u18, num(1)), fun("f", v18, v18, num(1)), api.OK},
		{fun("f", u18, u18, a), fun("f", v18, v18, b), api.ErrNone},
		{fun("f", u18, u18, a), fun("f", v18, v18, fun("g", b)), api.ErrNone},
		{fun("f", u18, u18, x(100)), fun("f", v18, v18, fun("g", x(100))), api.ErrOccurs},
		{fun("f", u18, u18, fun("g", x(100))), fun("f", v18, v18, fun("g", x(100))), api.ErrLong},
		{fun("f", u18, u18, a, a), fun("f", v18, v18, b, b), api.ErrNone},
		{fun("f", u18, u18, a, a), fun("f", v18, v18, a, b), api.ErrLong},
		{fun("f", u18, u18, a, x(100)), fun("f", v18, v18, a, fun("g", x(100))), api.ErrLong},
		{fun("f", a, x(0)), fun("f", b, x(50)), api.ErrNone},
		{fun("f", x(100), x(0)), fun("f", fun("g", x(100)), x(50)), api.ErrOccurs},
		{fun("f", x(0)), fun("f", x(50), a), api.ErrNone},
		{x(100), x(0), api.OK},
	} {
		if at%2 == 1 {
			c.a, c.b = c.b, c.a
		}
		r, e := subst.Unify(s, c.a, c.b)
		if e != c.e || e == api.OK && len(r) < len(s) || e != api.OK && len(r) != 0 {
			t.Errorf("case %d: %d bindings of %d, %v", at, len(r), len(s), e)
		}
	}
	unifies(t, s, fun("f", u18, u18, x(100)), fun("f", v18, v18, fun("g", x(101))), with(s, to(100, fun("g", x(101)))))
	unifies(t, s, fun("f", u18, u18, x(101)), fun("f", v18, v18, x(100)), with(s, to(101, x(100))))
}

// P5.4: unifications that bind many variables, with long chains and deep terms.
func TestUnifyLong(t *testing.T) {
	chained := row(0, 70000, one)
	unifies(t, chained, x(0), x(35000), chained)
	unifies(t, chained, x(0), atom("a"), with(chained, to(70000, atom("a"))))
	unifies(t, chained, x(70001), x(5), with(chained, to(70001, x(70000))))
	endsWith(t, "the ends of a chain", chained, x(0), fun("f", x(70000)), api.ErrOccurs)

	deep := row(0, 100, func(next api.Term) api.Term { return chain(1999, next) })
	more := row(200, 100, func(next api.Term) api.Term { return chain(1999, next) })
	both := with(deep, more...)
	unifies(t, both, x(0), x(200), with(both, to(300, x(100))))
	unifies(t, with(both, to(300, atom("a"))), x(0), x(200), with(both, to(100, atom("a")), to(300, atom("a"))))
	endsWith(t, "deep terms", with(both, to(100, atom("a")), to(300, atom("b"))), x(0), x(200), api.ErrNone)
	endsWith(t, "deep terms", both, x(0), x(50), api.ErrOccurs)
	endsWith(t, "deep terms", both, x(100), x(0), api.ErrOccurs)

	odd, even, want := atom("[]"), atom("[]"), []api.Binding(nil)
	for v := int64(498); v >= 0; v-- {
		odd, even = fun("p", x(2*v+1), fun("g", x(2*v+2)), odd), fun("p", fun("g", x(2*v)), x(2*v+1), even)
		want = append(want, to(2*v+1, fun("g", x(2*v))), to(2*v+2, x(0)))
	}
	unifies(t, nil, odd, even, with(want))
}

// P5.4: a variable that occurs in a term that cannot be built.
func TestUnifyHuge(t *testing.T) {
	s := double(0, 60)
	unifies(t, s, x(100), x(0), with(s, to(100, s[0].To)))
	unifies(t, s, x(60), x(61), with(s, to(61, x(60))))
	endsWith(t, "a part of itself", s, x(60), x(0), api.ErrOccurs)
	endsWith(t, "a part of itself", s, fun("f", x(70), x(60)), fun("f", x(60), fun("g", x(0), x(70))), api.ErrOccurs)
	open, closed := double(0, 40), double(100, 40)
	both := with(open, closed...)
	endsWith(t, "two huge terms", both, x(0), x(100), api.ErrLong)
	endsWith(t, "two huge terms that differ at their first leaf", with(both, to(40, atom("a")), to(140, atom("b"))), x(0), x(100), api.ErrNone)
	unifies(t, both, x(200), fun("f", x(0), x(100)), with(both, to(200, fun("f", x(0), x(100)))))
}

// reference unifies by the words of the definition, with a map of all bindings.
type reference struct {
	s map[int64]api.Term
}

func (r reference) follow(t api.Term) api.Term {
	if by, ok := r.s[t.N]; ok && t.Kind == api.KindVar {
		return r.follow(by)
	}
	return t
}

func (r reference) occurs(v int64, t api.Term) bool {
	t = r.follow(t)
	for _, arg := range t.Args {
		if r.occurs(v, arg) {
			return true
		}
	}
	return t.Kind == api.KindVar && t.N == v
}

func (r reference) unify(a, b api.Term) api.Errno {
	a, b = r.follow(a), r.follow(b)
	switch {
	case a.Kind == api.KindVar && b.Kind == api.KindVar:
		if a.N > b.N {
			r.s[a.N] = b
		}
		if a.N < b.N {
			r.s[b.N] = a
		}
		return api.OK
	case b.Kind == api.KindVar:
		return r.unify(b, a)
	case a.Kind == api.KindVar && r.occurs(a.N, b):
		return api.ErrOccurs
	case a.Kind == api.KindVar:
		r.s[a.N] = b
		return api.OK
	case a.Kind != b.Kind || a.N != b.N || a.Name != b.Name || len(a.Args) != len(b.Args):
		return api.ErrNone
	}
	for at := range a.Args {
		if e := r.unify(a.Args[at], b.Args[at]); e != api.OK {
			return e
		}
	}
	return api.OK
}

// P5.4: random unifications.
func TestUnifyRandom(t *testing.T) {
	m := &maker{state: 55}
	counts := map[api.Errno]int{}
	for range 20000 {
		variables := m.variables(8)
		s := m.bindings(2, variables)
		a := m.term(3, variables)
		b := m.changed(a, variables)
		r := reference{map[int64]api.Term{}}
		for _, b := range s {
			r.s[b.Var] = b.To
		}
		e := r.unify(a, b)
		counts[e]++
		if e != api.OK {
			endsWith(t, show(a)+" and "+show(b)+" with "+showAll(s), s, a, b, e)
			continue
		}
		var want []api.Binding
		for v, by := range r.s {
			want = append(want, to(v, by))
		}
		unifies(t, s, a, b, with(want))
	}
	if counts[api.OK] < 3000 || counts[api.ErrNone] < 3000 || counts[api.ErrOccurs] < 1000 {
		t.Errorf("the terms are too much alike: %v", counts)
	}
}
