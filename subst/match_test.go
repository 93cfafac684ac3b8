package subst_test

import (
	"testing"

	"hornbeam/api"
	"hornbeam/subst"
)

// matches reports an error unless Match returns the bindings that are wanted.
func matches(t *testing.T, pattern, u api.Term, want []api.Binding) {
	t.Helper()
	if s, ok := subst.Match(pattern, u); !ok || !sameAll(s, want) {
		t.Errorf("Match of %s and %s returns %s, %v, not %s", show(pattern), show(u), showAll(s), ok, showAll(want))
	}
}

// matchesNot reports an error unless Match returns nothing and false.
func matchesNot(t *testing.T, call string, pattern, u api.Term) {
	t.Helper()
	if s, ok := subst.Match(pattern, u); ok || len(s) != 0 {
		t.Errorf("Match of %s returns %d bindings, %v", call, len(s), ok)
	}
}

// P5.5: instances of patterns. Variables of both may have the same numbers.
func TestMatch(t *testing.T) {
	for _, c := range []struct{ pattern, t, want string }{
		{"f(X0, X1)", "f(a, X0)", "X0 = a; X1 = X0"},
		{"f(X1, X0)", "f(a, X1)", "X0 = X1; X1 = a"},
		{"X0", "X0", "X0 = X0"},
		{"X0", "f(X0)", "X0 = f(X0)"},
		{"X3", "g(a, 1, X7)", "X3 = g(a, 1, X7)"},
		{"a", "a", ""},
		{"-7", "-7", ""},
		{"f(a, g(1, b))", "f(a, g(1, b))", ""},
		{"f(X0, X1)", "f(X1, X0)", "X0 = X1; X1 = X0"},
		{"f(X0, X1, X2)", "f(X1, X2, X0)", "X0 = X1; X1 = X2; X2 = X0"},
		{"f(X0, X1)", "f(X0, X0)", "X0 = X0; X1 = X0"},
		{"f(X0, X1)", "f(g(X1), g(X0))", "X0 = g(X1); X1 = g(X0)"},
		{"f(X0, X0)", "f(X0, X0)", "X0 = X0"},
		{"f(X0, X0)", "f(X1, X1)", "X0 = X1"},
		{"f(X0, g(X0, X0))", "f(h(X0, 3), g(h(X0, 3), h(X0, 3)))", "X0 = h(X0, 3)"},
		{"f(X5, g(X2, X5), X2)", "f(a, g(X5, a), X5)", "X2 = X5; X5 = a"},
		{"f(X9, X8, X7, X6, X5, X4, X3, X2)", "f(1, 2, 3, 4, 5, 6, 7, 8)", "X2 = 8; X3 = 7; X4 = 6; X5 = 5; X6 = 4; X7 = 3; X8 = 2; X9 = 1"},
		{"f(X1099511627776, X4294967296, X0)", "f(X0, b, c)", "X0 = c; X4294967296 = b; X1099511627776 = X0"},
		{"f(X4294967297, X1)", "f(a, b)", "X1 = b; X4294967297 = a"},
	} {
		matches(t, read(c.pattern), read(c.t), binds(c.want))
	}
}

// P5.5: terms that are no instances.
func TestMatchFails(t *testing.T) {
	for _, c := range []struct{ pattern, t string }{
		{"f(X0, X0)", "f(a, b)"},
		{"f(X0, X0)", "f(X0, X1)"},
		{"f(X0, X0)", "f(X1, X0)"},
		{"f(X0, X0)", "f(X1, a)"},
		{"f(X0, X0)", "f(a, X1)"},
		{"f(X0, X0)", "f(g(X1), g(X2))"},
		{"f(X0, X0)", "f(g(X1), X1)"},
		{"f(X0, X0)", "f(1, a)"},
		{"f(X0, X0)", "f(g(a), g(a, a))"},
		{"f(X0, X0, X0)", "f(a, a, b)"},
		{"f(X0, g(X0))", "f(a, g(X0))"},
		{"f(X0, X1, X0)", "f(X1, X0, X0)"},
		{"a", "X0"},
		{"1", "X1"},
		{"f(X0)", "X0"},
		{"f(X0)", "X1"},
		{"f(a)", "f(X0)"},
		{"f(X0, a)", "f(a, X0)"},
		{"a", "b"},
		{"1", "2"},
		{"0", "4294967296"},
		{"a", "f(a)"},
		{"f", "f(f)"},
		{"f(X0)", "f"},
		{"f(X0)", "g(X0)"},
		{"f(X0)", "f(X0, X1)"},
		{"f(X0, X1)", "f(X0)"},
		{"f(1, X0)", "f(2, a)"},
		{"f(X0, 1)", "f(a, 2)"},
		{"f(X0, g(X1, b))", "f(a, g(X1, c))"},
		{"f(X4294967297, X4294967297)", "f(X4294967297, X1)"},
	} {
		matchesNot(t, c.pattern+" and "+c.t, read(c.pattern), read(c.t))
	}
}

// P5.5: the largest patterns and terms.
func TestMatchLarge(t *testing.T) {
	large := chain(1998, x(3))
	matches(t, x(0), list(999, x(0), fun("f", x(0))), []api.Binding{to(0, list(999, x(0), fun("f", x(0))))})
	matches(t, fun("f", x(2)), fun("f", large), []api.Binding{to(2, large)})
	matches(t, chain(1999, x(1)), chain(1999, atom("a")), binds("X1 = a"))
	matches(t, chain(1900, x(1)), chain(1999, atom("a")), []api.Binding{to(1, chain(99, atom("a")))})
	matches(t, fun("f", x(0), x(0), atom("a")), fun("f", chain(998, x(0)), chain(998, x(0)), atom("a")), []api.Binding{to(0, chain(998, x(0)))})
	matches(t, list(999, x(4), x(5)), list(999, x(5), x(4)), binds("X4 = X5; X5 = X4"))
	matchesNot(t, "lists of different lengths", list(998, x(4), atom("[]")), list(999, x(4), atom("[]")))
	matchesNot(t, "lists that end differently", list(999, x(4), x(4)), list(999, x(4), x(5)))
	matchesNot(t, "chains that end differently", chain(1999, atom("a")), chain(1999, atom("b")))
	matchesNot(t, "large terms that differ at the end", fun("f", x(0), x(0)), fun("f", chain(900, x(0)), chain(900, x(1))))
	pattern, u, want := atom("[]"), atom("[]"), []api.Binding(nil)
	for v := int64(660); v >= 0; v-- {
		pattern, u = fun(".", x(660-v), pattern), fun(".", fun("g", num(v)), u)
		want = append(want, to(660-v, fun("g", num(v))))
	}
	matches(t, pattern, u, want)
}

// P5.5: nothing matches what is not valid.
func TestMatchInvalid(t *testing.T) {
	for at, u := range invalid() {
		for _, v := range []api.Term{x(0), x(1), atom("a"), fun("f", x(0)), fun("f", x(0), x(1)), u} {
			matchesNot(t, "an invalid pattern", u, v)
			matchesNot(t, "an invalid term", v, u)
		}
		if t.Failed() {
			t.Fatalf("term %d", at)
		}
	}
}

// P5.5: a term that is made from a pattern is an instance of it.
func TestMatchInstances(t *testing.T) {
	m := &maker{state: 56}
	for range 5000 {
		variables := m.variables(8)
		pattern := m.term(3, variables)
		var want []api.Binding
		for _, v := range vars(pattern) {
			want = append(want, to(v, m.term(2, variables)))
		}
		u := replaced(pattern, func(n int64) api.Term {
			by, _ := bound(want, n)
			return by
		})
		matches(t, pattern, u, with(want))
	}
}

// P5.5: a term is an instance if it can be unified with the pattern after its variables have become constants.
func TestMatchRandom(t *testing.T) {
	frozen := func(n int64) api.Term { return fun("constant", num(n)) }
	m := &maker{state: 58}
	counts := map[bool]int{}
	for range 20000 {
		variables := m.variables(4)
		pattern := m.term(3, variables)
		u := m.changed(pattern, variables)
		e := reference{map[int64]api.Term{}}.unify(pattern, replaced(u, frozen))
		counts[e == api.OK]++
		if e != api.OK {
			matchesNot(t, show(pattern)+" and "+show(u), pattern, u)
			continue
		}
		s, ok := subst.Match(pattern, u)
		if !ok || len(s) != len(vars(pattern)) {
			t.Errorf("Match of %s and %s returns %s, %v", show(pattern), show(u), showAll(s), ok)
			continue
		}
		for at, b := range s {
			if at > 0 && s[at-1].Var >= b.Var {
				t.Errorf("Match of %s and %s returns %s", show(pattern), show(u), showAll(s))
			}
		}
		is(t, "the instance of "+show(pattern), replaced(pattern, func(n int64) api.Term {
			by, _ := bound(s, n)
			return by
		}), u)
	}
	if counts[true] < 4000 || counts[false] < 4000 {
		t.Errorf("the terms are too much alike: %v", counts)
	}
}
