package order_test

import (
	"slices"
	"testing"

	"hornbeam/api"
	"hornbeam/order"
)

// check checks that a list has been sorted to the codes that are wanted.
func check(t *testing.T, call string, l, s []api.Term, e api.Errno, want []string) {
	t.Helper()
	if e != api.OK || !slices.Equal(codes(s), want) {
		t.Fatalf("%s of %s: %s, %v", call, show(l...), show(s...), e)
	}
}

// refuses checks that a list has not been sorted.
func refuses(t *testing.T, call string, s []api.Term, e, want api.Errno) {
	t.Helper()
	if e != want || len(s) > 0 {
		t.Errorf("%s: %v and %d elements, not %v", call, e, len(s), want)
	}
}

// P4.2: the examples of the chapter, and some lists with their results.
func TestSortExamples(t *testing.T) {
	a, b, c := atom("a"), atom("b"), atom("c")
	for _, k := range []struct{ l, sorted, stable []api.Term }{
		{[]api.Term{c, num(1), b, num(1)}, []api.Term{num(1), b, c}, []api.Term{num(1), num(1), b, c}},
		{nil, nil, nil},
		{[]api.Term{}, nil, nil},
		{[]api.Term{x(4)}, []api.Term{x(4)}, []api.Term{x(4)}},
		{[]api.Term{b, a}, []api.Term{a, b}, []api.Term{a, b}},
		{[]api.Term{a, a, a, a}, []api.Term{a}, []api.Term{a, a, a, a}},
		{[]api.Term{c, a, b, a, c}, []api.Term{a, b, c}, []api.Term{a, a, b, c, c}},
		{[]api.Term{fun("f", a), fun("f", x(1)), fun("f", x(0)), fun("f", x(1))}, []api.Term{fun("f", x(0)), fun("f", x(1)), fun("f", a)}, []api.Term{fun("f", x(0)), fun("f", x(1)), fun("f", x(1)), fun("f", a)}},
		{[]api.Term{pair(a, num(2)), pair(a, num(1))}, []api.Term{pair(a, num(1)), pair(a, num(2))}, []api.Term{pair(a, num(1)), pair(a, num(2))}},
		{[]api.Term{atom("\xff"), atom("ab"), atom("a"), atom("")}, []api.Term{atom(""), atom("a"), atom("ab"), atom("\xff")}, []api.Term{atom(""), atom("a"), atom("ab"), atom("\xff")}},
	} {
		s, e := order.Sort(k.l)
		check(t, "Sort", k.l, s, e, codes(k.sorted))
		s, e = order.Stable(k.l)
		check(t, "Stable", k.l, s, e, codes(k.stable))
	}
}

// P4.2: lists of all lengths and sorts, by the definition.
func TestSort(t *testing.T) {
	for _, l := range lists() {
		want := codes(l)
		slices.Sort(want)
		s, e := order.Stable(l)
		check(t, "Stable", l, s, e, want)
		s, e = order.Sort(l)
		check(t, "Sort", l, s, e, slices.Compact(want))
	}
}

// P4.2: terms that have been built apart from one another are identical, but variants are not.
func TestSortOfAlike(t *testing.T) {
	roomy := api.Term{Kind: api.KindAtom, Name: "a", Args: make([]api.Term, 0, 2)}
	l := []api.Term{roomy, fun("f", x(0), x(1)), atom("a"), fun("f", x(1), x(0)), roomy, fun("f", x(0), x(1))}
	s, e := order.Sort(l)
	check(t, "Sort", l, s, e, codes([]api.Term{atom("a"), fun("f", x(0), x(1)), fun("f", x(1), x(0))}))
}

// P4.2, P4.3: a term that is not valid is an error at every place, also among elements that are no pairs.
func TestSortOfInvalid(t *testing.T) {
	for _, bad := range invalid() {
		for n := range 4 {
			for place := range n + 1 {
				for _, other := range []api.Term{pair(atom("a"), num(1)), atom("a"), x(0)} {
					l := slices.Insert(slices.Repeat([]api.Term{other}, n), place, bad)
					s, e := order.Sort(l)
					refuses(t, "Sort with "+showAny(bad), s, e, api.ErrArg)
					s, e = order.Stable(l)
					refuses(t, "Stable with "+showAny(bad), s, e, api.ErrArg)
					s, e = order.Keys(l)
					refuses(t, "Keys with "+showAny(bad), s, e, api.ErrArg)
				}
			}
		}
	}
}

// P4.2, P4.3: the same in a long list.
func TestSortOfLongInvalid(t *testing.T) {
	for _, place := range []int{0, 1, 999, 1999, 2000} {
		l := slices.Repeat([]api.Term{pair(atom("a"), num(1)), pair(atom("b"), num(1))}, 1000)
		l = slices.Insert(l, place, raw("-", atom("b"), raw("f")))
		s, e := order.Sort(l)
		refuses(t, "Sort", s, e, api.ErrArg)
		s, e = order.Stable(l)
		refuses(t, "Stable", s, e, api.ErrArg)
		s, e = order.Keys(l)
		refuses(t, "Keys", s, e, api.ErrArg)
	}
}

// permutations calls visit with the elements in all orders.
func permutations(l []api.Term, from int, visit func(l []api.Term)) {
	if from == len(l) {
		visit(l)
	}
	for at := from; at < len(l); at++ {
		l[from], l[at] = l[at], l[from]
		permutations(l, from+1, visit)
		l[from], l[at] = l[at], l[from]
	}
}

// P4.8: all orders of some elements.
func TestSortOfPermutations(t *testing.T) {
	a := atom("a")
	for _, l := range [][]api.Term{leaves()[:6], few()[:6], {a, a, num(1), num(1), fun("f", a), fun("f", a)}, {a, x(0), a, x(1), a, x(0)}, {atom("aa"), a, atom("a\xff"), atom("a\x00"), atom("b"), atom("")}} {
		sorted, _ := order.Sort(l)
		stable, _ := order.Stable(l)
		permutations(slices.Clone(l), 0, func(p []api.Term) {
			s, e := order.Sort(p)
			check(t, "Sort", p, s, e, codes(sorted))
			s, e = order.Stable(p)
			check(t, "Stable", p, s, e, codes(stable))
		})
	}
}

// P4.8: other orders of long lists.
func TestSortOfShuffled(t *testing.T) {
	m := &maker{state: 8}
	for _, l := range lists() {
		sorted, _ := order.Sort(l)
		stable, _ := order.Stable(l)
		reversed := slices.Clone(l)
		slices.Reverse(reversed)
		for _, other := range [][]api.Term{reversed, m.shuffled(l), m.shuffled(l)} {
			s, e := order.Sort(other)
			check(t, "Sort", other, s, e, codes(sorted))
			s, e = order.Stable(other)
			check(t, "Stable", other, s, e, codes(stable))
		}
	}
}

// P4.8: Sort of the results of Sort and Stable.
func TestSortOfSorted(t *testing.T) {
	for _, l := range lists() {
		sorted, _ := order.Sort(l)
		stable, _ := order.Stable(l)
		s, e := order.Sort(sorted)
		check(t, "Sort of the result of Sort", sorted, s, e, codes(sorted))
		s, e = order.Sort(stable)
		check(t, "Sort of the result of Stable", stable, s, e, codes(sorted))
	}
}
