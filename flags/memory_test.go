package flags_test

import (
	"reflect"
	"slices"
	"testing"

	"hornbeam/api"
	"hornbeam/flags"
)

// roomy has copies of terms with spare capacity behind all arguments, even where there are none, which nobody may use.
func roomy(l ...api.Term) []api.Term {
	room := make([]api.Term, len(l), len(l)+2)
	for at, u := range l {
		u.Args = roomy(u.Args...)
		room[at] = u
	}
	copy(room[len(l):cap(room)], many(2, a("spare")))
	return room
}

// roomySyntax has a copy of a syntax with spare capacity behind its tables.
func roomySyntax(s api.Syntax) api.Syntax {
	table := append(slices.Clone(s.Ops), manyOps(3)...)
	pairs := append(slices.Clone(s.Conv), allPairs()[:3]...)
	return api.Syntax{Ops: table[:len(s.Ops)], Flags: s.Flags, Conv: pairs[:len(s.Conv)]}
}

// places are the addresses of everything in the memory of a syntax and of terms, spare capacity included.
func places(s api.Syntax, terms []api.Term) []any {
	var l []any
	for at := range s.Ops[:cap(s.Ops)] {
		l = append(l, &s.Ops[:cap(s.Ops)][at])
	}
	for at := range s.Conv[:cap(s.Conv)] {
		l = append(l, &s.Conv[:cap(s.Conv)][at])
	}
	terms = terms[:cap(terms)]
	for at := range terms {
		l = append(append(l, &terms[at]), places(api.Syntax{}, terms[at].Args)...)
	}
	return l
}

// contents are copies of what is at the places.
func contents(l []any) []any {
	var values []any
	for _, place := range l {
		switch p := place.(type) {
		case *api.Op:
			values = append(values, *p)
		case *api.Pair:
			values = append(values, *p)
		case *api.Term:
			values = append(values, api.Term{Kind: p.Kind, N: p.N, Name: p.Name})
		}
	}
	return values
}

// spoil changes what is at the places, but not which terms have which arguments.
func spoil(l []any) {
	for _, place := range l {
		switch p := place.(type) {
		case *api.Op:
			*p = o(-1, -1, "spoiled")
		case *api.Pair:
			*p = api.Pair{From: -1, To: -1}
		case *api.Term:
			p.Kind, p.N, p.Name = api.KindInt, 77, "spoiled"
		}
	}
}

// memoryGoals are goals of each predicate, with answers and with balls that contain parts of the goal.
func memoryGoals() []api.Term {
	f := s("f", x(0), s("g", x(0)))
	return []api.Term{s("op", i(700), a("xfx"), a("in")), s("op", i(700), a("xfx"), atoms("in", "x001", "zz")), s("op", i(0), a("xfx"), atoms("a", "is")), s("op", i(0), a("fy"), empty()), s("op", i(700), a("xfx"), atoms("in", ",")),
		s("op", f, a("xfx"), a("in")), s("op", i(1), f, a("in")), s("op", i(1), a("xfx"), f), s("op", i(1), a("xfx"), list(empty(), f)), s("op", x(0), x(1), x(2)),
		s("current_op", x(0), x(1), x(2)), s("current_op", f, x(0), x(1)), s("current_op", x(0), f, x(1)), s("current_op", x(0), x(1), f),
		s("char_conversion", a("a"), a("b")), s("char_conversion", a("a"), a("a")), s("char_conversion", a("q"), a("q")), s("char_conversion", f, a("b")), s("char_conversion", a("a"), f),
		s("current_char_conversion", a("a"), x(0)), s("current_char_conversion", x(0), x(1)), s("current_char_conversion", f, x(0)), s("current_char_conversion", x(0), f),
		s("set_prolog_flag", a("debug"), a("on")), s("set_prolog_flag", a("debug"), f), s("set_prolog_flag", f, a("on")),
		s("current_prolog_flag", x(0), x(1)), s("current_prolog_flag", a("debug"), x(0)), s("current_prolog_flag", a("debug"), f), s("current_prolog_flag", f, x(0)), s("foo", f), x(0)}
}

// results are the places of what a call returns.
func results(s api.Syntax, goal api.Term) []any {
	got := call(s, goal)
	return append(places(got.syntax, got.answers), places(api.Syntax{}, []api.Term{got.ball})[1:]...)
}

// R4: the results of Call share no memory with the arguments, nor with one another, and the arguments stay as they are.
func TestCallMemory(t *testing.T) {
	filled := 0
	for _, original := range syntaxes()[:20] {
		syntax := roomySyntax(original)
		for _, goal := range memoryGoals() {
			goal := roomy(goal)
			args := places(syntax, goal)
			before := contents(args)
			got := results(syntax, goal[0])
			if !reflect.DeepEqual(contents(args), before) {
				t.Fatalf("%s changes its arguments", show(goal[0]))
			}
			used := map[any]bool{}
			for _, place := range args {
				used[place] = true
			}
			for _, place := range got {
				if used[place] {
					t.Fatalf("%s in %s returns memory that is shared", show(goal[0]), showSyntax(syntax))
				}
				used[place] = true
				filled++
			}
		}
	}
	if filled < 10000 {
		t.Errorf("only %d places have been looked at", filled)
	}
}

// R4: what is done with a result, or with an argument after the call, changes no other result.
func TestResultsAreNew(t *testing.T) {
	for at := range memoryGoals() {
		for _, original := range []api.Syntax{start(), plain(), {Flags: flags.Default(), Conv: allPairs()}, {Ops: manyOps(99), Flags: flags.Default()}} {
			syntax, goal := roomySyntax(original), roomy(memoryGoals()[at])
			first, second := results(syntax, goal[0]), results(syntax, goal[0])
			want := contents(second)
			spoil(first)
			third := results(syntax, goal[0])
			spoil(places(syntax, goal))
			if !reflect.DeepEqual(contents(second), want) || !reflect.DeepEqual(contents(third), want) {
				t.Errorf("%s depends on what is done with an earlier result, or with its arguments", show(memoryGoals()[at]))
			}
		}
	}
}

// R4: the initial syntax and the names are new at each call.
func TestConstantsAreNew(t *testing.T) {
	spoil(places(flags.Start(), nil))
	if s := flags.Start(); !sameSyntax(s, start()) {
		t.Errorf("Start() is %s", showSyntax(s))
	}
	l := flags.Names()
	for at := range l {
		l[at] = "changed"
	}
	if !slices.Equal(flags.Names(), wantNames()) {
		t.Errorf("Names() is %q", flags.Names())
	}
	for name, want := range readOnly() {
		gets(t, flags.Default(), name, want, api.OK)
	}
}

// R4: ValidSyntax and Set only look at their arguments.
func TestLooksMemory(t *testing.T) {
	for _, original := range append(syntaxes(), invalidSyntaxes()...) {
		syntax := roomySyntax(original)
		all := places(syntax, nil)
		before := contents(all)
		flags.ValidSyntax(syntax)
		call(syntax, a("foo"))
		if !reflect.DeepEqual(contents(all), before) {
			t.Errorf("%s has been changed", showSyntax(syntax))
		}
	}
	for _, value := range values() {
		args := roomy(value)
		before := contents(places(api.Syntax{}, args))
		flags.Set(flags.Default(), "debug", args[0])
		if !reflect.DeepEqual(contents(places(api.Syntax{}, args)), before) {
			t.Errorf("Set changes %s", show(value))
		}
	}
}
