package subst_test

import (
	"testing"

	"hornbeam/api"
	"hornbeam/subst"
)

// P5.8: the result of Unify is valid, keeps the bindings, and makes the terms the same, in both orders of these.
func TestUnifier(t *testing.T) {
	m := &maker{state: 81}
	done := map[api.Errno]int{}
	for range 10000 {
		variables := m.variables(9)
		s, a := m.bindings(2, variables), m.term(3, variables)
		b := m.changed(a, variables)
		r, e := subst.Unify(s, a, b)
		back, f := subst.Unify(s, b, a)
		done[e]++
		if e != f || !sameAll(r, back) {
			t.Errorf("Unify of %s and %s with %s returns %s, %v, and %s, %v", show(a), show(b), showAll(s), showAll(r), e, showAll(back), f)
		}
		if e == api.OK {
			isUnifier(t, s, r, a, b)
		}
	}
	if done[api.OK] < 3000 || done[api.ErrOccurs] < 500 || done[api.ErrNone] < 3000 {
		t.Errorf("the unifications are too much alike: %v", done)
	}
	for _, s := range [][]api.Binding{double(0, 60), row(0, 5000, one), binds("X0 = f(X1, X1); X3 = f(X4, X5)")} {
		r, e := subst.Unify(s, fun("f", x(0), x(1<<33)), fun("f", x(api.MaxVar), x(0)))
		if e != api.OK {
			t.Errorf("variables cannot be unified: %v", e)
		}
		isUnifier(t, s, r, fun("f", x(0), x(1<<33)), fun("f", x(api.MaxVar), x(0)))
	}
}

// isUnifier reports an error unless r is valid, has the bindings s, and makes a and b the same.
func isUnifier(t *testing.T, s, r []api.Binding, a, b api.Term) {
	t.Helper()
	if !subst.Valid(r) {
		t.Errorf("the result %s of unifying %s and %s is not valid", showAll(r), show(a), show(b))
	}
	next := 0
	for _, b := range r {
		if next < len(s) && s[next].Var == b.Var && same(s[next].To, b.To) {
			next++
		}
	}
	if next < len(s) {
		t.Errorf("X%d is not bound any more after %s and %s were unified", s[next].Var, show(a), show(b))
	}
	left, e := subst.Resolve(r, a)
	right, f := subst.Resolve(r, b)
	if e != f || !same(left, right) {
		t.Errorf("%s and %s become %s and %s with %s", show(a), show(b), show(left), show(right), showAll(r))
	}
}

// general makes a term of which t is an instance: some parts are replaced by variables, identical ones maybe by the same one, and s gets their bindings.
func (m *maker) general(t api.Term, s *[]api.Binding, next *int64) api.Term {
	if m.below(4) == 0 {
		for _, b := range *s {
			if same(b.To, t) && m.below(2) == 0 {
				return x(b.Var)
			}
		}
		*next += int64(1 + m.below(3))
		*s = append(*s, to(*next, t))
		return x(*next)
	}
	var args []api.Term
	for _, arg := range t.Args {
		args = append(args, m.general(arg, s, next))
	}
	t.Args = args
	return t
}

// P5.9: two terms that some bindings make the same can be unified, and these bindings are an instance of the result.
func TestMostGeneral(t *testing.T) {
	m := &maker{state: 91}
	bindings := 0
	for range 10000 {
		var s []api.Binding
		next := int64(10 * m.below(2))
		// The variables of the term that both become are below those of the bindings, or above.
		common := m.term(4, []int64{0, 1, 2 + next, 1 << 33, api.MaxVar})
		next += 5
		a := m.general(common, &s, &next)
		b := m.general(common, &s, &next)
		is(t, "the first term with "+showAll(s), resolved(s, a), common)
		is(t, "the second term with "+showAll(s), resolved(s, b), common)
		r, e := subst.Unify(nil, a, b)
		if e != api.OK {
			t.Errorf("unifying %s and %s, which %s makes the same, ends with %v", show(a), show(b), showAll(s), e)
			continue
		}
		bindings += len(r)
		for _, u := range []api.Term{a, b} {
			v, e := subst.Resolve(r, u)
			if e != api.OK {
				t.Errorf("%s cannot be resolved by %s: %v", show(u), showAll(r), e)
			}
			is(t, "what "+show(u)+" becomes with "+showAll(r), resolved(s, v), resolved(s, u))
		}
	}
	if bindings < 10000 {
		t.Errorf("only %d variables are bound", bindings)
	}
}

// P5.9: the result binds no more than it must.
func TestMostGeneralLeavesVariables(t *testing.T) {
	for _, c := range []struct{ a, b, s string }{
		{"f(X0, X1)", "f(X1, X0)", "X0 = a; X1 = a"},
		{"f(X0, X1)", "f(X2, X3)", "X0 = a; X1 = a; X2 = a; X3 = a"},
		{"f(X0, g(X2))", "f(X1, X3)", "X0 = b; X1 = b; X2 = b; X3 = g(b)"},
		{"f(X0, X1, X2)", "f(X1, X2, X0)", "X0 = h(X9); X1 = h(X9); X2 = h(X9)"},
		{"X5", "X6", "X5 = X7; X6 = X7"},
		{"f(X5, X5)", "f(X5, X5)", "X5 = X7"},
	} {
		s, a, b := binds(c.s), read(c.a), read(c.b)
		r, e := subst.Unify(nil, a, b)
		if e != api.OK {
			t.Errorf("unifying %s and %s ends with %v", c.a, c.b, e)
		}
		for _, u := range []api.Term{a, b} {
			v, _ := subst.Resolve(r, u)
			is(t, "what becomes of "+show(u), resolved(s, v), resolved(s, u))
		}
	}
}
