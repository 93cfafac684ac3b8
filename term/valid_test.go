package term_test

import (
	"slices"
	"testing"

	"hornbeam/api"
	"hornbeam/term"
)

// P3.1: Valid and Size of valid terms.
func TestValid(t *testing.T) {
	for _, u := range samples() {
		if !term.Valid(u) {
			t.Errorf("%s is not valid", show(u))
		}
		if n := term.Size(u); n != size(u) {
			t.Errorf("the size of %s is %d", show(u), n)
		}
	}
	if n := term.Size(s("f", a("a"), s("g", x(0)), i(3))); n != 5 {
		t.Errorf("the size of f(a, g(X), 3) is %d", n)
	}
}

// P3.1: a field that is empty without being nil is not in use.
func TestValidWithEmptyArgs(t *testing.T) {
	for _, u := range []api.Term{x(1), i(1), a("a")} {
		u.Args = make([]api.Term, 0, 3)
		if !term.Valid(u) || !term.Same(u, u) || term.Size(u) != 1 {
			t.Errorf("%s with empty Args is not valid", show(u))
		}
	}
}

// P3.1: terms that are not valid.
func TestNotValid(t *testing.T) {
	for at, u := range invalid() {
		if term.Valid(u) {
			t.Errorf("term %d, %s, is valid", at, show(u))
		}
	}
}

// P3.1: all nodes are counted, whatever their kinds are, up to MaxSize + 1.
func TestSizeOfInvalid(t *testing.T) {
	under := func(kind int, args ...api.Term) api.Term { return api.Term{Kind: kind, Args: args} }
	for at, c := range []struct {
		t api.Term
		n int
	}{
		{s("f"), 1}, {x(-1), 1}, {under(7), 1}, {under(api.KindVar, x(0)), 2}, {under(api.KindInt, x(0), s("f", i(1))), 4},
		{under(api.KindAtom, under(api.KindAtom, under(api.KindAtom))), 3}, {under(-4, under(99, x(-1)), x(0)), 4},
		{s("f", make([]api.Term, 9)...), 10}, {s("f", make([]api.Term, 1998)...), 1999}, {s("f", make([]api.Term, 1999)...), 2000},
		{s("f", make([]api.Term, 2000)...), 2001}, {s("f", make([]api.Term, 2001)...), 2001}, {under(api.KindAtom, make([]api.Term, 100000)...), 2001},
		{under(api.KindAtom, bushy(1999)), 2000}, {under(api.KindAtom, bushy(2000)), 2001}, {pair(bushy(1000), bushy(1000)), 2001},
		{pair(bushy(1000), bushy(999)), 2000}, {pair(bushy(2000), bushy(2000)), 2001},
		{endless(api.KindAtom), 2001}, {endless(9), 2001},
	} {
		if n := term.Size(c.t); n != c.n {
			t.Errorf("the size of term %d is %d, not %d", at, n, c.n)
		}
		if at > 1 && c.n == 2001 && term.Valid(c.t) {
			t.Errorf("term %d is valid", at)
		}
	}
	for at, u := range tooLarge() {
		if n := term.Size(u); n != api.MaxSize+1 {
			t.Errorf("the size of too large a term %d is %d", at, n)
		}
	}
}

// P3.2: two terms are the same only if all of their fields are.
func TestSame(t *testing.T) {
	l := slices.Concat(edges(), triples(x(0), x(1), i(0), i(1), a("0")), []api.Term{
		s("f", x(0)), s("f", x(0), x(0)), s("f", x(0), x(0), x(1)), s("g", x(0)), s("f", s("f", x(0))), a("f"), s("", x(0)),
		list(999, i(1), i(1)), list(999, i(1), i(2)), chain(1998, s("g", x(2))),
	})
	texts := make([]string, len(l))
	for at, u := range l {
		texts[at] = text(u)
	}
	for m, u := range l {
		for n, v := range l {
			if want := texts[m] == texts[n]; term.Same(u, v) != want {
				t.Errorf("%s and %s are the same: %t", show(u), show(v), !want)
			}
		}
	}
}

// variants is the definition: the variables of one term can be paired with those of the other.
func variants(a, b api.Term) bool {
	p, q := vars(a), vars(b)
	if len(p) != len(q) {
		return false
	}
	return same(mapped(a, func(n int64) api.Term { return x(q[slices.Index(p, n)]) }), b)
}

// P3.2: variants are the terms that differ in the numbers of variables alone.
func TestVariant(t *testing.T) {
	if !term.Variant(s("f", x(0), x(1)), s("f", x(1), x(0))) || term.Variant(s("f", x(0), x(0)), s("f", x(0), x(1))) {
		t.Error("of f(X, Y), f(Y, X) is a variant, and f(X, X) is not")
	}
	l := append(triples(x(0), x(1), x(2), x(7), i(0), a("a")), x(0), x(api.MaxVar), i(0), i(1), a(""), a("a"), empty(),
		s("t", x(0)), s("t", x(3)), s("t", i(0)), s("u", x(3)), s("t", x(0), x(3)), s("t", x(0), s("t", x(0))), s("t", x(3), s("t", x(0))),
		s("t", i(5)), s("t", x(5)), s("t", s("g", x(5), x(4)), x(5)), s("t", s("g", x(4), x(5)), x(4)), s("t", s("g", x(4), x(5)), x(5)))
	for _, u := range l {
		for _, v := range l {
			if want := variants(u, v); term.Variant(u, v) != want {
				t.Errorf("%s and %s are variants: %t", show(u), show(v), !want)
			}
		}
	}
	for _, u := range edges() {
		if !term.Variant(u, u) {
			t.Errorf("%s is not a variant of itself", show(u))
		}
	}
}

// P3.2: a term that is not valid is neither the same as another, or itself, nor a variant of it.
func TestSameOfInvalid(t *testing.T) {
	for at, u := range invalid() {
		for _, v := range []api.Term{u, x(0), a("a"), s("f", x(0)), chain(500, x(0))} {
			if term.Same(u, v) || term.Same(v, u) {
				t.Errorf("term %d, %s, is the same as %s", at, show(u), show(v))
			}
			if term.Variant(u, v) || term.Variant(v, u) {
				t.Errorf("term %d, %s, is a variant of %s", at, show(u), show(v))
			}
		}
	}
}
