package subst_test

import (
	"math"
	"slices"
	"testing"

	"hornbeam/api"
	"hornbeam/subst"
)

// resolves reports an error unless Resolve returns the term that is wanted.
func resolves(t *testing.T, s []api.Binding, u, want api.Term) {
	t.Helper()
	r, e := subst.Resolve(s, u)
	if e != api.OK || !same(r, want) {
		t.Errorf("Resolve of %s with %s is %s, %v, not %s", show(u), showAll(s), show(r), e, show(want))
	}
}

// resolvesNot reports an error unless Resolve returns an error and nothing else.
func resolvesNot(t *testing.T, call string, s []api.Binding, u api.Term, want api.Errno) {
	t.Helper()
	if r, e := subst.Resolve(s, u); e != want || !same(r, api.Term{}) {
		t.Errorf("Resolve of %s returns a %d and %v", call, r.Kind, e)
	}
}

// P5.2: bound variables are replaced, repeatedly.
func TestResolve(t *testing.T) {
	for _, c := range []struct{ s, t, want string }{
		{"X0 = f(X1); X1 = a", "g(X0, X2)", "g(f(a), X2)"},
		{"X0 = f(X1); X1 = b", "X0", "f(b)"},
		{"", "f(X0, g(1, a), X0)", "f(X0, g(1, a), X0)"},
		{"X0 = a", "X0", "a"},
		{"X0 = a", "0", "0"},
		{"X0 = a", "X1", "X1"},
		{"X1 = X0", "f(X1, X0)", "f(X0, X0)"},
		{"X0 = X1; X1 = X2; X2 = X3", "f(X0, X1, X2, X3)", "f(X3, X3, X3, X3)"},
		{"X1 = X0; X2 = X1; X3 = X2", "f(X0, X1, X2, X3)", "f(X0, X0, X0, X0)"},
		{"X0 = d(X1, X1); X1 = d(X2, X2); X2 = -1", "f(X0, X0)", "f(d(d(-1, -1), d(-1, -1)), d(d(-1, -1), d(-1, -1)))"},
		{"X0 = b(X1, X2); X1 = c(X2, X3); X2 = d(X3); X3 = e", "a(X3, X2, X1, X0)", "a(e, d(e), c(d(e), e), b(c(d(e), e), d(e)))"},
		{"X5 = f(X0); X7 = g(X5, X9)", "h(h(X7), X5, a(X9))", "h(h(g(f(X0), X9)), f(X0), a(X9))"},
		{"X0 = X1099511627776; X4294967296 = z; X1099511627776 = f(X4294967296)", "g(X0, X0)", "g(f(z), f(z))"},
	} {
		resolves(t, binds(c.s), read(c.t), read(c.want))
	}
}

// P5.2: resolved terms of up to MaxSize nodes, and of more.
func TestResolveSize(t *testing.T) {
	a := atom("a")
	pad := func(n int) api.Term { return fun("h", x(0), chain(n-1, a)) }
	deep := row(0, 1999, func(next api.Term) api.Term { return fun("f", next) })
	wide := row(0, 285, func(next api.Term) api.Term { return fun("w", a, a, a, a, a, a, next) })
	for at, c := range []struct {
		s []api.Binding
		t api.Term
		n int
	}{
		{nil, chain(1999, a), 2000},
		{nil, list(999, x(0), fun("f", x(1))), 2000},
		{binds("X0 = X1"), chain(1999, x(0)), 2000},
		{binds("X0 = X1; X1 = f(a)"), chain(1998, x(0)), 2000},
		{binds("X0 = X1; X1 = f(a)"), chain(1999, x(0)), 2001},
		{binds("X0 = f(X1); X1 = f(a)"), chain(1998, x(0)), 2001},
		{binds("X0 = f(a)"), list(666, x(0), x(0)), 2000},
		{binds("X0 = f(a)"), list(666, x(0), fun("g", x(0))), 2001},
		{binds("X0 = f(a)"), list(666, x(0), fun("g", a, a)), 2001},
		{binds("X0 = f(a)"), list(999, x(0), x(1)), 2998},
		{binds("X0 = f(a); X1 = a"), list(500, x(1), list(333, x(0), a)), 2000},
		{[]api.Binding{to(0, chain(1999, x(1)))}, x(0), 2000},
		{[]api.Binding{to(0, chain(1999, x(1)))}, fun("f", x(0)), 2001},
		{[]api.Binding{to(0, chain(1999, x(1))), to(1, x(2)), to(2, a)}, x(0), 2000},
		{[]api.Binding{to(0, chain(1999, x(1))), to(1, fun("f", a))}, x(0), 2001},
		{[]api.Binding{to(0, chain(1999, x(1))), to(1, chain(1999, x(2))), to(2, chain(1999, x(3)))}, x(2), 2000},
		{[]api.Binding{to(0, chain(998, a))}, fun("f", x(0), x(0), a), 2000},
		{[]api.Binding{to(0, chain(998, a))}, fun("f", x(0), x(0), a, a), 2001},
		{[]api.Binding{to(0, chain(999, a))}, fun("f", x(0), x(0)), 2001},
		{double(0, 9), x(0), 1023},
		{double(0, 10), x(0), 2047},
		{double(0, 10), x(1), 1023},
		{double(0, 9), pad(976), 2000},
		{double(0, 9), pad(977), 2001},
		{deep, x(0), 2000},
		{deep, fun("f", x(0)), 2001},
		{deep, fun("f", x(1)), 2000},
		{wide, x(0), 1996},
		{wide, fun("w", a, a, a, x(0)), 2000},
		{wide, fun("w", a, a, a, a, x(0)), 2001},
		{with(row(0, 70000, one), to(70000, chain(1999, a))), x(0), 2000},
		{with(row(0, 70000, one), to(70000, chain(1999, a))), fun("f", x(0)), 2001},
	} {
		r, e := subst.Resolve(c.s, c.t)
		if c.n > api.MaxSize {
			if e != api.ErrLong || !same(r, api.Term{}) {
				t.Errorf("case %d of %d nodes: a %d of %d nodes, %v", at, c.n, r.Kind, size(r), e)
			}
			continue
		}
		if e != api.OK || size(r) != c.n || len(c.s) < 1000 && !same(r, resolved(c.s, c.t)) {
			t.Errorf("case %d of %d nodes: %d nodes, %v", at, c.n, size(r), e)
		}
	}
}

// P5.2: resolved terms that are too large to be built, or too deep.
func TestResolveHuge(t *testing.T) {
	long := row(0, 300, func(next api.Term) api.Term { return chain(1999, next) })
	for at, s := range [][]api.Binding{double(0, 20), double(0, 60), with(double(0, 64), to(64, atom("a"))), double(0, 70000), long} {
		for _, u := range []api.Term{x(0), fun("f", x(0)), fun("f", atom("a"), x(0), x(1)), list(999, x(0), x(0)), fun("f", x(0), x(0), x(0), x(0), x(0), x(0), x(0), x(0))} {
			resolvesNot(t, "a huge term", s, u, api.ErrLong)
		}
		last := s[len(s)-1]
		resolves(t, s, x(last.Var), last.To)
		resolves(t, s, x(api.MaxVar), x(api.MaxVar))
		if t.Failed() {
			t.Fatalf("bindings %d", at)
		}
	}
}

// P5.2: what is not valid, also if the resolved term would be too large.
func TestResolveInvalid(t *testing.T) {
	for _, s := range invalidBindings() {
		for _, u := range []api.Term{x(0), x(77), atom("b"), fun("f", x(0), x(1)), fun("f")} {
			resolvesNot(t, "a term with invalid bindings", s, u, api.ErrArg)
		}
	}
	for _, u := range invalid() {
		for _, s := range [][]api.Binding{nil, binds("X0 = a"), double(0, 30)} {
			resolvesNot(t, "an invalid term", s, u, api.ErrArg)
		}
		resolvesNot(t, "a huge term with an invalid binding", with(double(2, 30), to(77, u)), x(2), api.ErrArg)
		resolvesNot(t, "an invalid and a huge term", double(2, 30), fun("f", x(2), u), api.ErrArg)
	}
}

// P5.2: Resolve replaces as the definition says, in random terms.
func TestResolveRandom(t *testing.T) {
	m := &maker{state: 53}
	done := 0
	for range 5000 {
		variables := m.variables(8)
		s, u := m.bindings(2, variables), m.term(3, variables)
		if want := resolved(s, u); size(want) <= api.MaxSize {
			resolves(t, s, u, want)
			if !same(u, want) {
				done++
			}
		}
	}
	if done < 1000 {
		t.Errorf("only %d terms are not resolved already", done)
	}
}

// P5.7: a resolved term has no bound variables, and is the same when it is resolved again.
func TestResolveAgain(t *testing.T) {
	m := &maker{state: 57}
	for range 3000 {
		variables := m.variables(8)
		s, u := m.bindings(2, variables), m.term(3, variables)
		r, e := subst.Resolve(s, u)
		if e != api.OK {
			continue
		}
		for _, v := range vars(r) {
			if _, ok := bound(s, v); ok {
				t.Errorf("X%d is left in %s, resolved with %s", v, show(r), showAll(s))
			}
		}
		resolves(t, s, r, r)
	}
	large := row(0, 1999, func(next api.Term) api.Term { return fun("f", next) })
	r, _ := subst.Resolve(large, x(0))
	resolves(t, large, r, chain(1999, x(1999)))
}

// P5.3: which variables occur.
func TestOccurs(t *testing.T) {
	for _, c := range []struct {
		s, t string
		yes  []int64
		no   []int64
	}{
		{"", "X0", []int64{0}, []int64{1, -1}},
		{"", "f(a, g(X3, 4), X5)", []int64{3, 5}, []int64{0, 1, 2, 4, 6}},
		{"", "a", nil, []int64{0, 1}},
		{"", "7", nil, []int64{0, 7}},
		{"X0 = f(X1)", "X0", []int64{1}, []int64{0, 2}},
		{"X0 = f(X1)", "f(X0, X2)", []int64{1, 2}, []int64{0, 3}},
		{"X0 = f(X1)", "X1", []int64{1}, []int64{0}},
		{"X0 = X1; X1 = X2; X2 = g(X3, X4)", "f(X0)", []int64{3, 4}, []int64{0, 1, 2, 5}},
		{"X0 = a", "f(X0, X0)", nil, []int64{0, 1}},
		{"X0 = 1", "f(X0, X0)", nil, []int64{0, 1}},
		{"X0 = a; X1 = f(X5)", "f(X0)", nil, []int64{0, 1, 5}},
		{"X0 = a; X1 = f(X5)", "f(X0, X1)", []int64{5}, []int64{0, 1}},
		{"X0 = f(X2, X1); X1 = X2", "X0", []int64{2}, []int64{0, 1}},
		{"X0 = f(X1, X3); X1 = f(X4); X2 = g(X1)", "h(X2, X0)", []int64{3, 4}, []int64{0, 1, 2}},
		{"X7 = X1099511627776", "f(X7)", []int64{api.MaxVar}, []int64{7, 0, api.MaxVar - 1, api.MaxVar + 1}},
		{"X1 = a", "f(X4294967297)", []int64{1<<32 + 1}, []int64{1}},
		{"X4294967297 = a", "f(X1, X4294967297)", []int64{1}, []int64{1<<32 + 1}},
	} {
		for _, v := range c.yes {
			if !subst.Occurs(binds(c.s), v, read(c.t)) {
				t.Errorf("X%d does not occur in %s with %s", v, c.t, c.s)
			}
		}
		for _, v := range append(c.no, -1, math.MinInt64, math.MaxInt64, api.MaxVar+1) {
			if subst.Occurs(binds(c.s), v, read(c.t)) {
				t.Errorf("X%d occurs in %s with %s", v, c.t, c.s)
			}
		}
	}
}

// P5.3: resolved terms that cannot be built.
func TestOccursInHuge(t *testing.T) {
	for n, s := range map[int64][]api.Binding{20: double(0, 20), 60: double(0, 60), 3000: double(0, 3000), 70000: row(0, 70000, one),
		300: row(0, 300, func(next api.Term) api.Term { return chain(1999, next) })} {
		for _, u := range []api.Term{x(0), fun("f", atom("a"), x(0)), fun("f", x(n/2), x(0), x(n+2)), list(900, x(0), x(1))} {
			if !subst.Occurs(s, n, u) {
				t.Errorf("X%d does not occur in %s", n, show(u))
			}
			for _, v := range []int64{0, 1, n / 2, n - 1, n + 1} {
				if subst.Occurs(s, v, u) {
					t.Errorf("X%d occurs in %s with %d bindings", v, show(u), n)
				}
			}
		}
	}
}

// P5.3: nothing occurs where something is not valid.
func TestOccursInvalid(t *testing.T) {
	for at, s := range invalidBindings() {
		for _, v := range []int64{0, 1, 6, 77} {
			if subst.Occurs(s, v, x(77)) || subst.Occurs(s, v, fun("f", x(0), x(1), x(6))) {
				t.Errorf("X%d occurs with invalid bindings %d", v, at)
			}
		}
	}
	for at, u := range invalid() {
		for _, v := range []int64{-1, 0, 1, api.MaxVar + 1, math.MinInt64, math.MaxInt64} {
			if subst.Occurs(nil, v, u) || subst.Occurs(binds("X3 = X0"), v, u) || subst.Occurs(nil, v, fun("f", x(0), x(1), u)) {
				t.Errorf("X%d occurs in invalid term %d", v, at)
			}
		}
	}
}

// P5.3: a variable occurs if it does in the resolved term.
func TestOccursRandom(t *testing.T) {
	m := &maker{state: 54}
	counts := map[bool]int{}
	for range 3000 {
		variables := m.variables(8)
		s, u := m.bindings(2, variables), m.term(2, variables)
		for _, v := range append(variables, 17) {
			want := slices.Contains(vars(resolved(s, u)), v)
			counts[want]++
			if got := subst.Occurs(s, v, u); got != want {
				t.Errorf("Occurs of X%d in %s with %s is %v", v, show(u), showAll(s), got)
			}
		}
	}
	if counts[true] < 1000 || counts[false] < 1000 {
		t.Errorf("the terms are too much alike: %v", counts)
	}
}
