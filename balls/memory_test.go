package balls_test

import (
	"reflect"
	"slices"
	"testing"

	"hornbeam/api"
	"hornbeam/balls"
)

// calls are calls of all functions with a term as their argument, with the terms that they return.
func calls() map[string]func(u api.Term) []api.Term {
	all := map[string]func(u api.Term) []api.Term{
		"Formal": func(u api.Term) []api.Term {
			formal, _ := balls.Formal(u)
			return []api.Term{formal}
		},
		"List, its elements": func(u api.Term) []api.Term {
			l, ball, _ := balls.List(u)
			return append(slices.Clip(l), ball)
		},
		"List, as it is": func(u api.Term) []api.Term {
			l, _, _ := balls.List(u)
			return l
		},
	}
	for _, m := range makers() {
		all[m.formal] = func(u api.Term) []api.Term { return []api.Term{m.make([]string{"one", "two"}, u)} }
	}
	for name, check := range checks() {
		all["the ball of "+name] = func(u api.Term) []api.Term { return []api.Term{check(u).ball} }
	}
	return all
}

// roomy has copies of terms with spare capacity behind all arguments, even where there are none, which nobody may use.
func roomy(l ...api.Term) []api.Term {
	room := make([]api.Term, len(l), len(l)+2)
	for at, u := range l {
		u.Args = roomy(u.Args...)
		room[at] = u
	}
	copy(room[len(l):cap(room)], many(2, a("spare")))
	return room
}

// eachPlace visits the memory of terms, spare capacity included.
func eachPlace(l []api.Term, visit func(p *api.Term)) {
	l = l[:cap(l)]
	for at := range l {
		visit(&l[at])
		eachPlace(l[at].Args, visit)
	}
}

// contents are the nodes in the memory of terms.
func contents(l []api.Term) []api.Term {
	var nodes []api.Term
	eachPlace(l, func(p *api.Term) {
		node := *p
		node.Args = many(len(p.Args), x(0))
		nodes = append(nodes, node)
	})
	return nodes
}

// arguments are terms with spare capacity, also some whose parts share their memory, and some that are not valid.
func arguments() [][]api.Term {
	shared := roomy(s("f", x(1), s("g", x(1))))[0]
	l := [][]api.Term{
		roomy(errorOf(s("type_error", a("list"), s("f", x(0))))), roomy(list(empty(), s("f", x(0)), x(1), s("g", s("h", i(1))))), roomy(list(x(0), s("f", x(0)))),
		roomy(list(s("c", x(2)), s("f", x(0)))), roomy(s("/", s("f", x(0)), i(2))), roomy(s("/", a("f"), s("f", x(0)))), roomy(s("/", a("f"), i(2))), roomy(chain(1990, x(0))), roomy(chain(1999, x(0))),
		roomy(list(empty(), s("f"), i(1))), roomy(errorOf(s("f", x(-1)))), roomy(list(a("c"), s("f", x(-1)))),
		{list(empty(), shared, shared, s("h", shared))}, {list(shared, shared, shared)}, {errorOf(s("f", shared, shared))}, {s("/", shared, shared)}, {s("/", a("f"), shared)}}
	for _, u := range append(leaves(), structures()[:200]...) {
		l = append(l, roomy(u))
	}
	for _, u := range elements() {
		l = append(l, roomy(list(empty(), u...)))
	}
	return l
}

// P6.7: results share no memory with the arguments, nor their parts with one another, and arguments stay as they are.
func TestMemory(t *testing.T) {
	filled := map[string]int{}
	for at, args := range arguments() {
		before := contents(args)
		for name, call := range calls() {
			r := call(args[0])
			if !reflect.DeepEqual(contents(args), before) {
				t.Fatalf("%s changes argument %d", name, at)
			}
			used := map[*api.Term]bool{}
			eachPlace(args, func(p *api.Term) { used[p] = true })
			eachPlace(r, func(p *api.Term) {
				if used[p] {
					t.Fatalf("%s of argument %d returns memory that is shared", name, at)
				}
				used[p] = true
				filled[name]++
			})
		}
	}
	for name := range calls() {
		if filled[name] < 100 {
			t.Errorf("%s has been tested with %d nodes only", name, filled[name])
		}
	}
}

// P6.7: what is done with a result, or with an argument after the call, changes no other result.
func TestResultsAreNew(t *testing.T) {
	spoil := func(p *api.Term) { p.Kind, p.N, p.Name = api.KindInt, 77, "" }
	for name, call := range calls() {
		for at, args := range arguments() {
			first, second := call(args[0]), call(args[0])
			want := contents(second)
			eachPlace(first, spoil)
			third := call(args[0])
			eachPlace(args, spoil)
			if !reflect.DeepEqual(contents(second), want) || !reflect.DeepEqual(contents(third), want) {
				t.Errorf("%s of argument %d depends on what is done with an earlier result, or with its argument", name, at)
			}
		}
	}
}

// P6.7: the terms without a culprit are new at each call.
func TestConstantsAreNew(t *testing.T) {
	for name, make := range map[string]func() api.Term{
		"Inst":               balls.Inst,
		"Syntax":             func() api.Term { return balls.Syntax(3) },
		"Representation":     func() api.Term { return balls.Representation("max_arity") },
		"Evaluation":         func() api.Term { return balls.Evaluation("undefined") },
		"Atom of a variable": func() api.Term { return checks()["Atom"](x(0)).ball },
	} {
		first, second := make(), make()
		want := contents(second.Args)
		eachPlace(first.Args, func(p *api.Term) { p.Name = "changed" })
		if !reflect.DeepEqual(contents(second.Args), want) || !reflect.DeepEqual(contents(make().Args), want) {
			t.Errorf("%s returns %s", name, show(make()))
		}
	}
}
