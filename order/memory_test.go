package order_test

import (
	"reflect"
	"slices"
	"testing"

	"hornbeam/api"
	"hornbeam/order"
)

// roomy is a copy of terms with spare capacity behind all arguments, even where there are none, which nobody may use.
func roomy(l []api.Term) []api.Term {
	room := make([]api.Term, len(l)+2)
	for at := range room {
		room[at] = atom("spare")
		if at < len(l) {
			room[at] = l[at]
			room[at].Args = roomy(l[at].Args)
		}
	}
	return room[:len(l)]
}

// full is a copy of terms with what stands in their spare capacity.
func full(l []api.Term) []api.Term {
	l = slices.Clone(l[:cap(l)])
	for at := range l {
		l[at].Args = full(l[at].Args)
	}
	return l
}

// places calls visit with the address of every element of the slices of some terms, spare ones included.
func places(l []api.Term, visit func(p *api.Term)) {
	l = l[:cap(l)]
	for at := range l {
		visit(&l[at])
		places(l[at].Args, visit)
	}
}

// aliased has pairs that share their memory: some elements stand in it repeatedly, and so do some arguments.
func aliased() []api.Term {
	shared := roomy([]api.Term{fun("h", x(0), x(1)), fun("h", x(0)), atom("a")})
	l := []api.Term{raw("-", shared[0], shared[0]), raw("-", shared[0], shared[1]), raw("-", shared[2], shared[0]), raw("-", shared[1], shared[1]), raw("-", shared[2], shared[2])}
	return roomyTop(slices.Concat(l, l, l[:2]))
}

// roomyTop has spare capacity, and shares the arguments of its elements.
func roomyTop(l []api.Term) []api.Term {
	return append(make([]api.Term, 0, len(l)+5), l...)
}

// sorts are the functions that return terms.
func sorts() map[string]func(l []api.Term) ([]api.Term, api.Errno) {
	return map[string]func(l []api.Term) ([]api.Term, api.Errno){"Sort": order.Sort, "Stable": order.Stable, "Keys": order.Keys}
}

// pairLists are lists of pairs, increasing and not, with spare capacity.
func pairLists() [][]api.Term {
	var up, mixed []api.Term
	for _, u := range slices.Concat(leaves(), few()) {
		up = append(up, pair(u, fun("v", u, x(9))))
		mixed = append(mixed, pair(u, u), pair(atom("m"), fun("f", u)))
	}
	up, _ = order.Sort(up)
	return [][]api.Term{aliased(), roomy(up), roomy(mixed), roomy(up[:1]), roomy(slices.Repeat(up[3:4], 30)), roomy(nil)}
}

// P4.5: results share no memory with the arguments, nor parts of a result with one another, and arguments stay as they are.
func TestMemory(t *testing.T) {
	for name, sort := range sorts() {
		for at, l := range pairLists() {
			before := full(l)
			s, e := sort(l)
			if e != api.OK || len(l) > 0 && len(s) == 0 {
				t.Fatalf("%s of list %d: %d elements, %v", name, at, len(s), e)
			}
			if !reflect.DeepEqual(full(l), before) {
				t.Fatalf("%s changes list %d", name, at)
			}
			used := map[*api.Term]bool{}
			places(l, func(p *api.Term) { used[p] = true })
			places(s, func(p *api.Term) {
				if used[p] {
					t.Fatalf("%s of list %d: an element of the result shares memory", name, at)
				}
				used[p] = true
			})
		}
	}
}

// P4.5: what is done with a result, or with an argument after the call, changes no other result.
func TestResultsAreNew(t *testing.T) {
	spoil := func(p *api.Term) { p.Kind, p.N, p.Name = api.KindInt, 77, "" }
	for name, sort := range sorts() {
		for at := range pairLists() {
			l := pairLists()[at]
			first, _ := sort(l)
			second, _ := sort(l)
			want := codes(second)
			places(first, spoil)
			third, _ := sort(l)
			places(l, spoil)
			if !slices.Equal(codes(second), want) || !slices.Equal(codes(third), want) {
				t.Errorf("%s of list %d depends on what was done with an earlier result, or with its argument", name, at)
			}
			again, _ := sort(pairLists()[at])
			if !slices.Equal(codes(again), want) {
				t.Errorf("%s of list %d differs from an earlier result", name, at)
			}
		}
	}
}

// P4.5: arguments also stay as they are after an error, and in Cmp and Rank.
func TestArgumentsStay(t *testing.T) {
	bad := []api.Term{pair(atom("b"), atom("b")), raw("-", atom("a"), raw("f")), pair(num(3), x(0))}
	others := []api.Term{pair(atom("b"), atom("b")), atom("a"), x(0)}
	for _, l := range append(pairLists(), roomy(bad), roomy(others)) {
		before := full(l)
		for _, sort := range sorts() {
			sort(l)
		}
		for _, u := range l {
			order.Rank(l, u)
			order.Cmp(u, l[0])
			order.Cmp(l[0], u)
		}
		if !reflect.DeepEqual(full(l), before) {
			t.Errorf("a list of %d elements has been changed", len(l))
		}
	}
}
