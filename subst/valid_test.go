package subst_test

import (
	"math"
	"slices"
	"testing"

	"hornbeam/api"
	"hornbeam/subst"
)

// P5.1: what is valid, and what is not because of dependencies.
func TestValid(t *testing.T) {
	for text, want := range map[string]bool{
		"":                                       true,
		"X0 = a":                                 true,
		"X0 = 0":                                 true,
		"X7 = X8":                                true,
		"X8 = X7":                                true,
		"X0 = X1; X1 = a":                        true,
		"X0 = a; X1 = X0":                        true,
		"X0 = f(X1, X1); X1 = g(X2, X2)":         true,
		"X0 = X1; X1 = X2; X2 = f(X3)":           true,
		"X0 = X3; X1 = X0; X2 = X1":              true,
		"X0 = f(X1, X2); X1 = X3; X2 = X3":       true,
		"X0 = f(X1, X2); X1 = X2; X2 = X3":       true,
		"X0 = f(X2, X1); X1 = X2; X2 = X3":       true,
		"X0 = f(X9, X1); X1 = f(X9); X2 = f(X1)": true,
		"X1 = f(1, 2); X2 = f(2, 1)":             true,
		"X5 = 5":                                 true,
		"X1 = 2; X2 = 1":                         true,
		"X0 = X0":                                false,
		"X0 = f(X0)":                             false,
		"X0 = f(a, g(b, X0))":                    false,
		"X1 = X1":                                false,
		"X1099511627776 = X1099511627776":        false,
		"X1099511627776 = f(a, X1099511627776)":  false,
		"X0 = X1; X1 = X0":                       false,
		"X0 = f(X1); X1 = g(X0)":                 false,
		"X0 = f(X5, X1); X1 = g(X6, X0)":         false,
		"X0 = X1; X1 = X2; X2 = X0":              false,
		"X0 = X2; X1 = X0; X2 = X1":              false,
		"X0 = X1; X1 = X2; X2 = X1":              false,
		"X0 = X1; X1 = X0; X2 = X1":              false,
		"X0 = a; X1 = X2; X2 = X1; X3 = b":       false,
		"X0 = f(X1, X2); X1 = a; X2 = g(X1, X0)": false,
		"X0 = a; X1 = f(X0, X1)":                 false,
		"X0 = X0; X1 = X1":                       false,
		"X0 = X1; X1 = X0; X2 = X3; X3 = X2":     false,
	} {
		if got := subst.Valid(binds(text)); got != want {
			t.Errorf("Valid of %q is %v", text, got)
		}
	}
	if !subst.Valid(nil) || !subst.Valid([]api.Binding{}) {
		t.Error("no bindings are not valid")
	}
}

// P5.1: which numbers variables may have, and their order.
func TestValidVars(t *testing.T) {
	for _, c := range []struct {
		vars []int64
		ok   bool
	}{
		{[]int64{0}, true}, {[]int64{api.MaxVar}, true}, {[]int64{0, api.MaxVar}, true}, {[]int64{api.MaxVar - 1, api.MaxVar}, true}, {numbers(), true},
		{[]int64{-1}, false}, {[]int64{math.MinInt64}, false}, {[]int64{api.MaxVar + 1}, false}, {[]int64{math.MaxInt64}, false}, {[]int64{-2, -1}, false}, {[]int64{math.MinInt64, 0}, false},
		{[]int64{-1, 0, 1}, false}, {[]int64{0, 1, api.MaxVar + 1}, false}, {[]int64{api.MaxVar, api.MaxVar + 1}, false}, {[]int64{0, -1}, false},
		{[]int64{0, 0}, false}, {[]int64{1, 1}, false}, {[]int64{api.MaxVar, api.MaxVar}, false}, {[]int64{0, 1, 1}, false}, {[]int64{0, 0, 1}, false},
		{[]int64{1, 0}, false}, {[]int64{0, 2, 1}, false}, {[]int64{2, 0, 1}, false}, {[]int64{0, 1, 0}, false}, {[]int64{1 << 32, 1}, false}, {[]int64{0, 1 << 32, 1<<32 + 1, 5}, false},
	} {
		var s []api.Binding
		for _, v := range c.vars {
			s = append(s, to(v, atom("a")))
		}
		if got := subst.Valid(s); got != c.ok {
			t.Errorf("Valid of bindings of %d is %v", c.vars, got)
		}
	}
}

// P5.1: terms that are not valid, and large ones that are.
func TestValidTerms(t *testing.T) {
	for at, s := range invalidBindings() {
		if subst.Valid(s) {
			t.Errorf("invalid bindings %d are valid", at)
		}
	}
	for _, u := range []api.Term{chain(1999, x(1)), chain(1999, atom("a")), list(999, x(5), x(6)), list(999, num(0), atom("")), fun("f", x(1), x(2), x(3), x(4), x(5), x(6), x(7), x(8))} {
		if !subst.Valid([]api.Binding{to(0, u)}) || !subst.Valid([]api.Binding{to(9, u), to(10, u)}) {
			t.Errorf("bindings to %s are not valid", show(u))
		}
	}
	if subst.Valid([]api.Binding{to(3, chain(1999, x(3)))}) || subst.Valid([]api.Binding{to(3, chain(1999, x(4))), to(4, list(999, atom("a"), x(3)))}) {
		t.Error("a variable that depends on itself by a large term is valid")
	}
}

// P5.1: long rows of variables, each depending on the next one, and the circles that they make, whatever the order of their numbers.
func TestValidRows(t *testing.T) {
	makers := map[string]func(next api.Term) api.Term{
		"variables":  one,
		"structures": func(next api.Term) api.Term { return fun("f", atom("a"), next, x(0)) },
		"doubles":    func(next api.Term) api.Term { return fun("d", next, next) },
	}
	m := &maker{state: 5}
	for name, build := range makers {
		for _, n := range []int{1, 2, 3, 4, 7, 60, 1000, 70000} {
			var order []int64
			for v := range int64(n) {
				order = append(order, v+1)
			}
			for _, order := range [][]int64{order, m.shuffled(order)} {
				var s []api.Binding
				for at, v := range order[:n-1] {
					s = append(s, to(v, build(x(order[at+1]))))
				}
				last := order[n-1]
				if !subst.Valid(with(s, to(last, x(0)))) {
					t.Errorf("a row of %d %s is not valid", n, name)
				}
				for _, back := range []int{0, n / 2, n - 1} {
					if subst.Valid(with(s, to(last, build(x(order[back]))))) {
						t.Errorf("a row of %d %s with a circle from the end to %d is valid", n, name, back)
					}
				}
			}
		}
	}
}

// P5.1: all ways in which a few variables can depend on one another.
func TestValidGraphs(t *testing.T) {
	m := &maker{state: 51}
	counts := map[bool]int{}
	for range 5000 {
		variables := slices.Sorted(slices.Values(m.variables(7)))
		var s []api.Binding
		for _, v := range variables {
			if m.below(4) > 0 {
				s = append(s, to(v, m.term(m.below(2), m.shuffled(variables)[:m.below(len(variables))])))
			}
		}
		want := true
		for _, b := range s {
			want = want && !dependencies(s, b.Var)[b.Var]
		}
		counts[want]++
		if got := subst.Valid(s); got != want {
			t.Errorf("Valid of %s is %v", showAll(s), got)
		}
	}
	if counts[true] < 1000 || counts[false] < 1000 {
		t.Errorf("the graphs are too much alike: %v", counts)
	}
}

// dependencies are all variables on which a variable depends.
func dependencies(s []api.Binding, v int64) map[int64]bool {
	all := map[int64]bool{}
	for left := []int64{v}; len(left) > 0; left = left[1:] {
		by, ok := bound(s, left[0])
		if !ok {
			continue
		}
		for _, n := range vars(by) {
			if !all[n] {
				all[n] = true
				left = append(left, n)
			}
		}
	}
	return all
}

// P5.1: Look follows variables, and nothing else.
func TestLook(t *testing.T) {
	for _, c := range []struct{ s, t, want string }{
		{"X0 = X1; X1 = f(X2)", "X0", "f(X2)"},
		{"X0 = X1; X1 = f(X2)", "X1", "f(X2)"},
		{"X0 = X1; X1 = f(X2)", "X2", "X2"},
		{"X0 = X1; X1 = f(X2); X2 = a", "X0", "f(X2)"},
		{"X0 = X1; X1 = f(X2); X2 = a", "f(X0)", "f(X0)"},
		{"X0 = X1; X1 = f(X2); X2 = a", "g(X2, X1, 3)", "g(X2, X1, 3)"},
		{"X0 = a", "X0", "a"},
		{"X0 = a", "X1", "X1"},
		{"X0 = a", "0", "0"},
		{"X0 = a", "b", "b"},
		{"X3 = -5", "X3", "-5"},
		{"", "X0", "X0"},
		{"", "X1099511627776", "X1099511627776"},
		{"", "f(X0, a)", "f(X0, a)"},
		{"X1 = X0; X2 = X1", "X2", "X0"},
		{"X0 = X1; X2 = X0; X3 = X2; X4 = X3", "X4", "X1"},
		{"X1 = c; X1099511627775 = X1099511627776; X1099511627776 = X1", "X1099511627775", "c"},
		{"X1 = a; X4294967297 = b", "X4294967297", "b"},
	} {
		is(t, "Look of "+c.t+" with "+c.s, subst.Look(binds(c.s), read(c.t)), read(c.want))
	}
}

// P5.1: Look of every variable of long chains of bound variables, and of random ones.
func TestLookFollows(t *testing.T) {
	s := with(row(0, 70000, one), to(70000, fun("f", x(70001), x(70002))))
	for _, v := range []int64{0, 1, 2, 35000, 69999, 70000} {
		is(t, "Look at the chain", subst.Look(s, x(v)), read("f(X70001, X70002)"))
	}
	is(t, "Look at the open chain", subst.Look(s[:70000], x(0)), x(70000))
	is(t, "Look behind the chain", subst.Look(s, x(70001)), x(70001))
	m := &maker{state: 52}
	for range 2000 {
		variables := m.variables(9)
		s := m.bindings(1, variables)
		for _, v := range variables {
			want := x(v)
			for by, ok := bound(s, v); ok; by, ok = bound(s, want.N) {
				want = by
				if want.Kind != api.KindVar {
					break
				}
			}
			is(t, "Look of "+show(x(v))+" with "+showAll(s), subst.Look(s, x(v)), want)
		}
	}
}

// P5.1: Look returns the zero Term for what is not valid.
func TestLookInvalid(t *testing.T) {
	for at, s := range invalidBindings() {
		for _, u := range []api.Term{x(0), x(5), x(77), atom("b"), fun("f", x(0))} {
			is(t, "Look with invalid bindings", subst.Look(s, u), api.Term{})
		}
		if t.Failed() {
			t.Fatalf("bindings %d", at)
		}
	}
	for at, u := range invalid() {
		for _, s := range [][]api.Binding{nil, binds("X0 = a"), binds("X3 = f(X4)")} {
			is(t, "Look of an invalid term", subst.Look(s, u), api.Term{})
		}
		if t.Failed() {
			t.Fatalf("term %d", at)
		}
	}
}
