package term_test

import (
	"slices"
	"testing"

	"hornbeam/api"
	"hornbeam/term"
)

// P3.9: a canonical form is a variant, its own canonical form, and has the variables 0, 1, ..
func TestCanonicalForm(t *testing.T) {
	for _, u := range samples() {
		c := term.Canon(u)
		if !term.Variant(c, u) || !term.Variant(u, c) {
			t.Errorf("the canonical form %s of %s is not a variant of it", show(c), show(u))
		}
		if !term.Same(term.Canon(c), c) {
			t.Errorf("the canonical form %s of %s is not canonical", show(c), show(u))
		}
		l := term.Vars(c)
		for at, n := range l {
			if n != int64(at) {
				t.Errorf("variable %d of the canonical form of %s is %d", at, show(u), n)
			}
		}
		if len(l) != len(term.Vars(u)) {
			t.Errorf("the canonical form of %s has %d variables", show(u), len(l))
		}
	}
}

// P3.9: a renamed term is a variant.
func TestRenamedIsVariant(t *testing.T) {
	done := 0
	for _, u := range samples() {
		for _, from := range []int64{0, 1, 5, 1 << 33, api.MaxVar - 10, api.MaxVar} {
			r, e := term.Rename(u, from)
			if e != api.OK {
				continue
			}
			done++
			if !term.Variant(u, r) || !term.Variant(r, u) {
				t.Errorf("%s with %d added is not a variant", show(u), from)
			}
			if !term.Same(term.Canon(r), term.Canon(u)) {
				t.Errorf("%s with %d added has another canonical form", show(u), from)
			}
		}
	}
	if done < 2000 {
		t.Errorf("only %d terms could be renamed", done)
	}
}

// P3.10: replacing a variable by itself.
func TestReplaceByItself(t *testing.T) {
	for _, u := range samples() {
		for _, v := range append(someVars(u), 0, 6, api.MaxVar) {
			if r, e := term.Replace(u, v, term.Var(v)); e != api.OK || !term.Same(r, u) {
				t.Errorf("variable %d of %s replaced by itself makes %s, %v", v, show(u), show(r), e)
			}
		}
	}
}

// P3.10: what becomes of a variable that is replaced, and of the size.
func TestReplaced(t *testing.T) {
	done := 0
	for _, u := range samples() {
		for _, v := range append(someVars(u), 6) {
			occurrences := 0
			for _, leaf := range leaves(u) {
				if leaf.Kind == api.KindVar && leaf.N == v {
					occurrences++
				}
			}
			for _, by := range []api.Term{i(v), x(api.MaxVar - 77), s("f", x(11), x(12)), bushy(20)} {
				r, e := term.Replace(u, v, by)
				want := term.Size(u) + occurrences*(term.Size(by)-1)
				if (e == api.OK) != (want <= api.MaxSize) {
					t.Errorf("replacing variable %d of %s by %s is %v", v, show(u), show(by), e)
				}
				if e != api.OK {
					continue
				}
				done++
				if slices.Contains(term.Vars(r), v) {
					t.Errorf("variable %d still occurs in %s, which was %s", v, show(r), show(u))
				}
				if term.Size(r) != want {
					t.Errorf("variable %d of %s replaced by %s makes %d nodes", v, show(u), show(by), term.Size(r))
				}
			}
		}
	}
	if done < 2000 {
		t.Errorf("only %d variables could be replaced", done)
	}
}

// P3.11: the elements of a list that has been made of elements and a tail.
func TestElemsOfList(t *testing.T) {
	all, done := samples(), 0
	for at, tail := range all {
		l := all[at-min(at, at%7) : at]
		u := term.List(l, tail)
		if !fits(l, tail) {
			continue
		}
		done++
		got, rest := term.Elems(u)
		more, end := term.Elems(tail)
		if !slices.EqualFunc(got, slices.Concat(l, more), term.Same) {
			t.Errorf("a list of %d elements and the tail %s has %d elements", len(l), show(tail), len(got))
		}
		if !term.Same(rest, end) {
			t.Errorf("a list with the tail %s ends with %s", show(tail), show(rest))
		}
	}
	if done < 500 {
		t.Errorf("only %d lists could be made", done)
	}
}

// fits reports whether the list of elements and a tail is not too large.
func fits(l []api.Term, tail api.Term) bool {
	n := size(tail) + len(l)
	for _, u := range l {
		n += size(u)
	}
	return n <= api.MaxSize
}

// P3.11: the list of the elements of a term.
func TestListOfElems(t *testing.T) {
	for _, u := range samples() {
		if back := term.List(term.Elems(u)); !term.Same(back, u) {
			t.Errorf("the list of the elements of %s is %s", show(u), show(back))
		}
	}
}
