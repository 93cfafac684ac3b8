package order_test

import (
	"cmp"
	"slices"
	"testing"

	"hornbeam/api"
	"hornbeam/order"
)

// P4.1: the examples of the chapter.
func TestCmpExamples(t *testing.T) {
	f := func(args ...api.Term) api.Term { return fun("f", args...) }
	for _, c := range []struct {
		a, b api.Term
		want int
	}{
		{x(5), num(3), -1}, {num(3), atom("a"), -1}, {atom("zzz"), f(atom("a")), -1}, {x(1), x(2), -1}, {num(-1), num(1), -1},
		{f(atom("b"), atom("a")), fun("g", atom("a")), 1}, {atom("ab"), atom("a"), 1}, {f(x(0), atom("b")), f(x(0), atom("a")), 1},
		{f(atom("b")), fun("g", atom("a")), -1}, {x(-1), atom("a"), -1}, {api.Term{N: -1}, atom("a"), 0},
		{x(3), x(3), 0}, {num(3), num(3), 0}, {atom("a"), atom("a"), 0}, {f(x(0), atom("b")), f(x(0), atom("b")), 0},
	} {
		if got := order.Cmp(c.a, c.b); got != c.want {
			t.Errorf("%s: %d, not %d", show(c.a, c.b), got, c.want)
		}
	}
}

// P4.1: all pairs of terms of a list that has been written in increasing order.
func TestCmpOfLadder(t *testing.T) {
	up := ladder()
	for m, a := range up {
		for n, b := range up {
			if got := order.Cmp(a, b); got != cmp.Compare(m, n) {
				t.Fatalf("%s: %d, not %d", show(a, b), got, cmp.Compare(m, n))
			}
		}
	}
}

// P4.1: all pairs of structures with two leaves, and of other terms, by the definition.
func TestCmpOfSamples(t *testing.T) {
	l := samples()
	for _, name := range []string{"f", "g"} {
		for _, p := range leaves() {
			for _, q := range leaves() {
				l = append(l, fun(name, p, q))
			}
		}
	}
	all := codes(l)
	for m, a := range l {
		for n, b := range l {
			if got, want := order.Cmp(a, b), cmp.Compare(all[m], all[n]); got != want {
				t.Fatalf("%s: %d, not %d", show(a, b), got, want)
			}
		}
	}
}

// P4.1: terms that have been built apart from one another are identical, whether slices without elements are nil or not.
func TestCmpOfIdentical(t *testing.T) {
	p, q := samples(), samples()
	for at := range p {
		if len(q[at].Args) == 0 {
			q[at].Args = make([]api.Term, 0, 1)
		}
		if a, b := order.Cmp(p[at], q[at]), order.Cmp(q[at], p[at]); a != 0 || b != 0 {
			t.Errorf("%s and itself: %d, %d", show(p[at]), a, b)
		}
	}
}

// P4.1: a term that is not valid, at both places.
func TestCmpOfInvalid(t *testing.T) {
	for _, bad := range invalid() {
		for _, good := range []api.Term{x(0), x(7), num(0), num(-3), atom(""), atom("z"), fun("f", x(1)), pair(atom("a"), num(1)), chain(1999, x(0))} {
			if a, b, c := order.Cmp(bad, good), order.Cmp(good, bad), order.Cmp(bad, bad); a != 0 || b != 0 || c != 0 {
				t.Errorf("%s and %s: %d, %d, and with itself %d", showAny(bad), show(good), a, b, c)
			}
		}
	}
}

// P4.6: the order of two terms is the opposite of their order when they are exchanged, and 0 exactly if they are identical.
func TestCmpIsTotal(t *testing.T) {
	l := samples()
	all := codes(l)
	for m, a := range l {
		for n, b := range l {
			c, d := order.Cmp(a, b), order.Cmp(b, a)
			if c != -d {
				t.Fatalf("%s: %d, and the other way round %d", show(a, b), c, d)
			}
			if (c == 0) != (all[m] == all[n]) {
				t.Fatalf("%s: %d", show(a, b), c)
			}
		}
	}
}

// P4.6: if a does not come after b, nor b after c, a does not come after c.
func TestCmpIsTransitive(t *testing.T) {
	m := &maker{state: 6}
	l := slices.Concat(few(), leaves(), m.draw(40, samples()), m.draw(60, ladder()))
	table := make([][]int, len(l))
	for at, a := range l {
		for _, b := range l {
			table[at] = append(table[at], order.Cmp(a, b))
		}
	}
	for a := range l {
		for b := range l {
			for c := range l {
				if table[a][b] <= 0 && table[b][c] <= 0 && table[a][c] > 0 {
					t.Fatalf("%s: the first comes after the last", show(l[a], l[b], l[c]))
				}
			}
		}
	}
}

// P4.7: structures that differ in one argument alone are ordered as these arguments are, for all arities and places.
func TestCmpOfOneArgument(t *testing.T) {
	others := slices.Concat(leaves(), few())
	for arity := 1; arity <= api.MaxArity; arity++ {
		for place := range arity {
			for _, p := range others {
				for _, q := range others {
					a := slices.Repeat([]api.Term{fun("k", x(3), atom("m"))}, arity)
					b := slices.Clone(a)
					a[place], b[place] = p, q
					if c, want := order.Cmp(fun("f", a...), fun("f", b...)), order.Cmp(p, q); c != want {
						t.Fatalf("f/%d with argument %d of %s: %d, not %d", arity, place+1, show(p, q), c, want)
					}
				}
			}
		}
	}
}

// tree has 585 nodes, 512 of them leaves, all a but one.
func tree(depth int, leaf *int, at int, other api.Term) api.Term {
	if depth == 0 {
		*leaf++
		if *leaf-1 == at {
			return other
		}
		return atom("a")
	}
	var args []api.Term
	for range api.MaxArity {
		args = append(args, tree(depth-1, leaf, at, other))
	}
	return raw("t", args...)
}

// P4.7: so are terms that differ in one place, however deep that is.
func TestCmpOfDeepArgument(t *testing.T) {
	for at := range 512 {
		var l []api.Term
		for _, other := range []api.Term{num(1), atom("a"), atom("b")} {
			leaf := 0
			l = append(l, tree(3, &leaf, at, other))
		}
		for m := range l {
			for n := range l {
				if c := order.Cmp(l[m], l[n]); c != cmp.Compare(m, n) {
					t.Fatalf("trees with leaf %d of %d and of %d: %d", at, m, n, c)
				}
			}
		}
	}
	for depth := range api.MaxSize {
		if c := order.Cmp(chain(depth, num(2)), chain(depth, num(3))); c != -1 {
			t.Fatalf("2 and 3 with %d nodes above them: %d", depth, c)
		}
	}
}
