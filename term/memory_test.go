package term_test

import (
	"slices"
	"strings"
	"testing"

	"hornbeam/api"
	"hornbeam/term"
)

// roomy is a copy of terms with spare capacity behind all arguments, even where there are none, which nobody may use.
func roomy(l []api.Term) []api.Term {
	room := make([]api.Term, 0, len(l)+3)
	for _, u := range l {
		u.Args = roomy(u.Args)
		room = append(room, u)
	}
	for k := range 3 {
		room[:cap(room)][len(room)+k] = a("spare")
	}
	return room
}

// whole spells terms out with their spare capacity.
func whole(l []api.Term) string {
	var b strings.Builder
	write(&b, api.Term{Args: l}, true)
	return b.String()
}

// mark adds the memory of terms to a map, and reports an error where it has been there.
func mark(t *testing.T, used map[*api.Term]bool, l []api.Term) {
	t.Helper()
	full := l[:cap(l)]
	for k := range full {
		if used[&full[k]] {
			t.Fatalf("an element of a slice of %d terms is shared", len(l))
		}
		used[&full[k]] = true
		mark(t, used, full[k].Args)
	}
}

// calls are calls of all functions that return terms, with u and v as arguments, some of them at several places.
func calls(u, v api.Term) map[string]func() []api.Term {
	one := func(r api.Term) []api.Term { return []api.Term{r} }
	return map[string]func() []api.Term{
		"Clone":  func() []api.Term { return one(term.Clone(u)) },
		"Canon":  func() []api.Term { return one(term.Canon(u)) },
		"Struct": func() []api.Term { return one(term.Struct("f", u, v, u)) },
		"Struct, spread": func() []api.Term {
			if len(u.Args) == 0 {
				return nil
			}
			return one(term.Struct(u.Name, u.Args...))
		},
		"List":                   func() []api.Term { return one(term.List([]api.Term{u, v, u}, v)) },
		"List, spread":           func() []api.Term { return one(term.List(u.Args, v)) },
		"List, without elements": func() []api.Term { return one(term.List(nil, u)) },
		"Elems": func() []api.Term {
			l, tail := term.Elems(u)
			return append(l, tail)
		},
		"Rename": func() []api.Term {
			r, e := term.Rename(u, 1)
			if e != api.OK {
				return nil
			}
			return one(r)
		},
		"Replace": func() []api.Term {
			r, e := term.Replace(u, 0, v)
			if e != api.OK {
				return nil
			}
			return one(r)
		},
		"Replace by itself": func() []api.Term {
			r, e := term.Replace(u, 0, u)
			if e != api.OK {
				return nil
			}
			return one(r)
		},
	}
}

// P3.8: results share no memory with arguments, nor with one another, and arguments stay as they are.
func TestMemory(t *testing.T) {
	some := []api.Term{x(0), a("a"), s("f", x(0), x(1), x(0)), pair(s("g", x(0)), pair(x(0), x(0))), pair(pair(x(0), i(1)), pair(pair(i(2), x(0)), s("h", x(3)))),
		list(50, s("g", x(0)), s("h", x(0), i(1))), s("f", s("g", s("h", x(0), x(0)), x(0)), s("k", x(0)))}
	some = append(some, samples()[200:300]...)
	filled := map[string]int{}
	for at := range some {
		args := roomy([]api.Term{some[at], some[(at+1)%len(some)]})
		before := whole(args)
		for name, call := range calls(args[0], args[1]) {
			r := call()
			if whole(args) != before {
				t.Fatalf("%s changes its arguments %s", name, show(some[at]))
			}
			used := map[*api.Term]bool{}
			mark(t, used, args)
			mark(t, used, r)
			filled[name] += len(used)
		}
	}
	for name, n := range filled {
		if n == 0 {
			t.Errorf("%s has not been tested", name)
		}
	}
}

// P3.8: what is done with a result changes no later result.
func TestResultsAreNew(t *testing.T) {
	u, v := s("f", x(3), s("g", x(0), x(3))), pair(x(0), x(1))
	for name, call := range calls(u, v) {
		first, second := call(), call()
		want := whole(second)
		used := map[*api.Term]bool{}
		mark(t, used, first)
		mark(t, used, second)
		for p := range used {
			p.Name = "changed"
		}
		if got := whole(call()); got != want {
			t.Errorf("%s returns %s, and then %s", name, want, got)
		}
	}
	l := term.Vars(u)
	clear(l[:cap(l)])
	if again := term.Vars(u); !slices.Equal(again, []int64{3, 0}) {
		t.Errorf("the variables are %d", again)
	}
}

// P3.8: arguments are not changed by functions that fail, or that return no terms.
func TestArgumentsStay(t *testing.T) {
	for _, u := range []api.Term{s("f", x(0), s("g", x(api.MaxVar))), s("f", x(0), x(-1)), s("f", s("f")), list(1000, x(0), x(0)), {Kind: api.KindAtom, Args: []api.Term{x(0)}}} {
		args := roomy([]api.Term{u, chain(1500, x(0))})
		before := whole(args)
		term.Valid(args[0])
		term.Size(args[0])
		term.Vars(args[0])
		term.Same(args[0], args[1])
		term.Variant(args[1], args[0])
		term.Rename(args[0], 1)
		term.Replace(args[0], 0, args[1])
		term.Replace(args[1], 0, args[0])
		for _, call := range calls(args[0], args[1]) {
			call()
		}
		if whole(args) != before {
			t.Errorf("%s has been changed", show(u))
		}
	}
}
