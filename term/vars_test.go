package term_test

import (
	"math"
	"slices"
	"strings"
	"testing"

	"hornbeam/api"
	"hornbeam/term"
)

// P3.3: Vars returns each variable once, in order of first occurrence, and Canon numbers them in this order.
func TestVarsAndCanon(t *testing.T) {
	for _, c := range []struct {
		t    api.Term
		vars []int64
		c    api.Term
	}{
		{s("f", x(5), s("g", x(2), x(5))), []int64{5, 2}, s("f", x(0), s("g", x(1), x(0)))},
		{s("f", s("g", x(2), s("h", x(9))), x(1), x(9)), []int64{2, 9, 1}, s("f", s("g", x(0), s("h", x(1))), x(2), x(1))},
		{s("f", x(5), x(5), x(5), x(2), x(7), x(2)), []int64{5, 2, 7}, s("f", x(0), x(0), x(0), x(1), x(2), x(1))},
		{s("f", x(1), x(0)), []int64{1, 0}, s("f", x(0), x(1))},
		{s("f", x(0), x(2), x(1)), []int64{0, 2, 1}, s("f", x(0), x(1), x(2))},
		{s("f", x(api.MaxVar), i(4), x(0)), []int64{api.MaxVar, 0}, s("f", x(0), i(4), x(1))},
		{s("f", x(1<<32), x(0), x(1<<32)), []int64{1 << 32, 0}, s("f", x(0), x(1), x(0))},
		{x(0), []int64{0}, x(0)},
		{x(api.MaxVar), []int64{api.MaxVar}, x(0)},
		{i(5), nil, i(5)},
		{s("X", i(3), a("X"), i(2)), nil, s("X", i(3), a("X"), i(2))},
	} {
		if l := term.Vars(c.t); !slices.Equal(l, c.vars) {
			t.Errorf("the variables of %s are %d", show(c.t), l)
		}
		is(t, "Canon of "+show(c.t), term.Canon(c.t), c.c)
	}
}

// P3.3: the same of many other terms, and Clone.
func TestVarsCanonClone(t *testing.T) {
	for _, u := range samples() {
		l := vars(u)
		if got := term.Vars(u); !slices.Equal(got, l) {
			t.Errorf("the variables of %s are %d", show(u), got)
		}
		numbered := mapped(u, func(n int64) api.Term { return x(int64(slices.Index(l, n))) })
		is(t, "Canon of "+show(u), term.Canon(u), numbered)
		is(t, "Clone of "+show(u), term.Clone(u), u)
	}
}

// P3.3: of a term that is not valid there are no variables, no canonical form, and no copy.
func TestVarsCanonCloneOfInvalid(t *testing.T) {
	for _, u := range invalid() {
		if l := term.Vars(u); len(l) != 0 {
			t.Errorf("%s has the variables %d", show(u), l)
		}
		is(t, "Canon of "+show(u), term.Canon(u), api.Term{})
		is(t, "Clone of "+show(u), term.Clone(u), api.Term{})
	}
}

// renames checks a result of Rename.
func renames(t *testing.T, u api.Term, from int64, want api.Term, wanted api.Errno) {
	t.Helper()
	r, e := term.Rename(u, from)
	if e != wanted || !same(r, want) {
		t.Errorf("Rename of %s, %d is %s, %v, not %s, %v", show(u), from, show(r), e, show(want), wanted)
	}
}

// P3.4: Rename adds to the variables alone, and up to MaxVar.
func TestRename(t *testing.T) {
	renames(t, s("f", x(0), x(1)), 10, s("f", x(10), x(11)), api.OK)
	renames(t, s("f", x(3), i(3), a("3"), s("g", x(3), x(0))), 1<<33, s("f", x(1<<33+3), i(3), a("3"), s("g", x(1<<33+3), x(1<<33))), api.OK)
	renames(t, x(0), api.MaxVar, x(api.MaxVar), api.OK)
	renames(t, x(api.MaxVar), 0, x(api.MaxVar), api.OK)
	renames(t, s("f", i(math.MaxInt64), i(-1), i(api.MaxVar)), api.MaxVar, s("f", i(math.MaxInt64), i(-1), i(api.MaxVar)), api.OK)
	renames(t, s("f", x(7), x(api.MaxVar-5), x(8)), 5, s("f", x(12), x(api.MaxVar), x(13)), api.OK)
	for _, u := range samples() {
		from := api.MaxVar - max(0, slices.Max(append(vars(u), 0)))
		renames(t, u, from, mapped(u, func(n int64) api.Term { return x(n + from) }), api.OK)
		renames(t, u, 0, u, api.OK)
		if len(vars(u)) > 0 && from < api.MaxVar {
			renames(t, u, from+1, api.Term{}, api.ErrLong)
		}
	}
}

// P3.4: the variable that is too great may stand anywhere.
func TestRenameLong(t *testing.T) {
	renames(t, x(1), api.MaxVar, api.Term{}, api.ErrLong)
	renames(t, x(api.MaxVar), 1, api.Term{}, api.ErrLong)
	renames(t, x(api.MaxVar), api.MaxVar, api.Term{}, api.ErrLong)
	for _, u := range around(x(api.MaxVar - 5)) {
		renames(t, u, 6, api.Term{}, api.ErrLong)
	}
}

// P3.4: arguments that are not valid come first.
func TestRenameArguments(t *testing.T) {
	for _, u := range invalid() {
		for _, from := range []int64{0, 1, api.MaxVar, -1} {
			renames(t, u, from, api.Term{}, api.ErrArg)
		}
	}
	for _, from := range []int64{-1, -5, api.MaxVar + 1, 1<<32 - 1 - 1<<33, math.MinInt64, math.MaxInt64} {
		for _, u := range []api.Term{x(0), x(1), x(5), x(api.MaxVar), a("a"), i(0), s("f", a("a"), x(2)), s("f", i(1))} {
			renames(t, u, from, api.Term{}, api.ErrArg)
		}
	}
}

// replaces checks a result of Replace.
func replaces(t *testing.T, u api.Term, v int64, by, want api.Term, wanted api.Errno) {
	t.Helper()
	r, e := term.Replace(u, v, by)
	if e != wanted || !same(r, want) {
		t.Errorf("Replace of %s, %d, %s is %s, %v, not %s, %v", show(u), v, show(by), show(r), e, show(want), wanted)
	}
}

// P3.5: Replace changes the occurrences of the variable, and nothing else, and only once.
func TestReplace(t *testing.T) {
	replaces(t, s("f", x(0), x(1)), 0, s("g", x(1)), s("f", s("g", x(1)), x(1)), api.OK)
	replaces(t, s("f", x(0), x(1)), 0, s("g", x(0), x(1)), s("f", s("g", x(0), x(1)), x(1)), api.OK)
	replaces(t, s("f", x(0), s("h", x(0), i(0), a("0")), x(0)), 0, s("g", x(0)), s("f", s("g", x(0)), s("h", s("g", x(0)), i(0), a("0")), s("g", x(0))), api.OK)
	replaces(t, s("f", x(0), x(1)), 1, x(0), s("f", x(0), x(0)), api.OK)
	replaces(t, s("f", x(0), x(1)), 2, s("g", x(1)), s("f", x(0), x(1)), api.OK)
	replaces(t, x(api.MaxVar), api.MaxVar, i(-3), i(-3), api.OK)
	replaces(t, x(api.MaxVar), api.MaxVar-1, i(-3), x(api.MaxVar), api.OK)
	replaces(t, x(1<<32), 0, i(-3), x(1<<32), api.OK)
	replaces(t, i(7), 7, a("a"), i(7), api.OK)
	replaces(t, s("7", a("7")), 7, a("a"), s("7", a("7")), api.OK)
	by := []api.Term{x(0), x(9), x(api.MaxVar), i(2), a("[]"), s("f", x(1), x(0)), pair(i(1), x(2))}
	for at, u := range samples() {
		for _, v := range append(someVars(u), 0, 4, api.MaxVar) {
			b := by[at%len(by)]
			want := mapped(u, func(n int64) api.Term {
				if n == v {
					return b
				}
				return x(n)
			})
			if size(want) > api.MaxSize {
				replaces(t, u, v, b, api.Term{}, api.ErrLong)
			} else {
				replaces(t, u, v, b, want, api.OK)
			}
		}
	}
}

// P3.5: the result has up to MaxSize nodes.
func TestReplaceLong(t *testing.T) {
	replaces(t, x(0), 0, bushy(2000), bushy(2000), api.OK)
	replaces(t, bushy(2000), 0, bushy(2000), bushy(2000), api.OK)
	replaces(t, s("f", x(1)), 0, bushy(2000), s("f", x(1)), api.OK)
	replaces(t, s("f", x(0)), 0, bushy(1999), s("f", bushy(1999)), api.OK)
	replaces(t, s("f", x(0)), 0, bushy(2000), api.Term{}, api.ErrLong)
	replaces(t, chain(1999, x(0)), 0, a("a"), chain(1999, a("a")), api.OK)
	replaces(t, chain(1999, x(0)), 0, s("g", a("a")), api.Term{}, api.ErrLong)
	replaces(t, chain(1998, x(0)), 0, s("g", a("a")), chain(1998, s("g", a("a"))), api.OK)
	replaces(t, list(999, x(3), empty()), 3, i(1), list(999, i(1), empty()), api.OK)
	replaces(t, list(666, x(3), s("f", x(0))), 3, s("g", i(1)), list(666, s("g", i(1)), s("f", x(0))), api.OK)
	replaces(t, list(666, x(3), s("f", s("f", x(0)))), 3, s("g", i(1)), api.Term{}, api.ErrLong)
	replaces(t, s("f", x(0), x(0)), 0, bushy(1000), api.Term{}, api.ErrLong)
	replaces(t, s("f", x(0), x(0)), 0, bushy(999), s("f", bushy(999), bushy(999)), api.OK)
	replaces(t, list(999, x(3), x(3)), 3, bushy(2000), api.Term{}, api.ErrLong)
}

// P3.5: arguments that are not valid come first, whether or not the variable occurs.
func TestReplaceArguments(t *testing.T) {
	for _, u := range invalid() {
		for _, good := range []api.Term{x(0), s("f", x(0), x(0)), a("a"), chain(1999, x(0))} {
			replaces(t, u, 0, good, api.Term{}, api.ErrArg)
			replaces(t, good, 0, u, api.Term{}, api.ErrArg)
			replaces(t, good, 1, u, api.Term{}, api.ErrArg)
			replaces(t, u, -1, good, api.Term{}, api.ErrArg)
		}
	}
	for _, v := range []int64{-1, api.MaxVar + 1, math.MinInt64, math.MaxInt64} {
		replaces(t, x(0), v, x(0), api.Term{}, api.ErrArg)
		replaces(t, i(v), v, x(0), api.Term{}, api.ErrArg)
		replaces(t, a(strings.Repeat("n", api.MaxName)), v, bushy(2000), api.Term{}, api.ErrArg)
	}
}
