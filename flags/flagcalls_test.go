package flags_test

import (
	"slices"
	"testing"

	"hornbeam/api"
	"hornbeam/term"
)

// flagTerms are the names and the values of flags, and other terms.
func flagTerms() []api.Term {
	l := append(others(), x(1), a("chars"), a("atom"), a("toward_zero"))
	for _, name := range append(wantNames(), names()...) {
		l = append(l, a(name))
	}
	return l
}

// wantSetFlag is the chapter's definition of set_prolog_flag/2.
func wantSetFlag(syntax api.Syntax, goal api.Term) outcome {
	f, v := goal.Args[0], goal.Args[1]
	if f.Kind == api.KindVar || v.Kind == api.KindVar {
		return raised(inst())
	}
	if f.Kind != api.KindAtom {
		return raised(typeError("atom", f))
	}
	if !slices.Contains(wantNames(), f.Name) {
		return raised(domainError("prolog_flag", f))
	}
	if _, fixed := readOnly()[f.Name]; fixed {
		return raised(permissionError("modify", "flag", f))
	}
	for _, c := range changes()[f.Name] {
		if same(v, a(c.value)) {
			c.do(&syntax.Flags)
			return listed(syntax, goal)
		}
	}
	return raised(domainError("flag_value", s("+", f, v)))
}

// wantCurrentFlag is the chapter's definition of current_prolog_flag/2.
func wantCurrentFlag(syntax api.Syntax, goal api.Term) outcome {
	f := goal.Args[0]
	if f.Kind != api.KindVar && f.Kind != api.KindAtom {
		return raised(typeError("atom", f))
	}
	if f.Kind == api.KindAtom && !slices.Contains(wantNames(), f.Name) {
		return raised(domainError("prolog_flag", f))
	}
	var answers []api.Term
	for _, name := range wantNames() {
		if f.Kind == api.KindVar || f.Name == name {
			answers = append(answers, s("current_prolog_flag", a(name), wantGet(syntax.Flags, name)))
		}
	}
	return listed(syntax, answers...)
}

// P8.5: all combinations of arguments of both predicates.
func TestFlagCalls(t *testing.T) {
	count := map[api.Errno]int{}
	for at, flags := range validFlags() {
		syntax := plain()
		syntax.Flags = flags
		syntax.Conv = validConversions()[at%3]
		for _, f := range flagTerms() {
			for _, v := range flagTerms() {
				goal := term.Canon(s("set_prolog_flag", f, v))
				want := wantSetFlag(syntax, goal)
				gives(t, syntax, goal, want)
				count[want.e]++
				goal.Name = "current_prolog_flag"
				gives(t, syntax, goal, wantCurrentFlag(syntax, goal))
			}
		}
	}
	// In each of the 24 flags, the flags that can be changed have nine values.
	if count[api.OK] != 24*9 || count[api.ErrBall] < 1000 {
		t.Errorf("%d calls had an answer, and %d a ball", count[api.OK], count[api.ErrBall])
	}
}

// P8.5: the first check that fails determines the ball of set_prolog_flag/2.
func TestSetFlagBalls(t *testing.T) {
	for _, c := range []struct{ f, v, ball api.Term }{
		{x(0), x(1), inst()}, {x(0), i(1), inst()}, {i(1), x(0), inst()}, {a("foo"), x(0), inst()}, {a("bounded"), x(0), inst()}, {a("debug"), x(0), inst()},
		{i(1), i(1), typeError("atom", i(1))}, {s("debug", x(0)), a("on"), typeError("atom", s("debug", x(0)))}, {atoms("debug"), a("on"), typeError("atom", atoms("debug"))},
		{a("foo"), i(1), domainError("prolog_flag", a("foo"))}, {a(""), a("on"), domainError("prolog_flag", a(""))}, {empty(), empty(), domainError("prolog_flag", empty())},
		{a("bounded"), a("true"), permissionError("modify", "flag", a("bounded"))}, {a("bounded"), a("foo"), permissionError("modify", "flag", a("bounded"))}, {a("max_arity"), i(8), permissionError("modify", "flag", a("max_arity"))},
		{a("max_integer"), s("f", x(0)), permissionError("modify", "flag", a("max_integer"))}, {a("min_integer"), i(0), permissionError("modify", "flag", a("min_integer"))}, {a("integer_rounding_function"), a("down"), permissionError("modify", "flag", a("integer_rounding_function"))},
		{a("debug"), a("true"), domainError("flag_value", s("+", a("debug"), a("true")))}, {a("unknown"), a("warning"), domainError("flag_value", s("+", a("unknown"), a("warning")))},
		{a("debug"), s("on", x(0)), domainError("flag_value", s("+", a("debug"), s("on", x(0))))}, {a("double_quotes"), i(1), domainError("flag_value", s("+", a("double_quotes"), i(1)))}, {a("char_conversion"), empty(), domainError("flag_value", s("+", a("char_conversion"), empty()))},
		{chain(1995, i(1)), a("on"), typeError("atom", chain(1995, i(1)))}, {chain(1996, i(1)), a("on"), typeError("atom", a("..."))},
		{a("debug"), chain(1993, x(0)), domainError("flag_value", s("+", a("debug"), chain(1993, x(0))))}, {a("debug"), chain(1994, x(0)), domainError("flag_value", a("..."))}, {a("debug"), chain(1997, x(0)), domainError("flag_value", a("..."))},
	} {
		gives(t, start(), s("set_prolog_flag", c.f, c.v), raised(c.ball))
	}
}

// P8.5: the balls of current_prolog_flag/2, which does not check its second argument.
func TestCurrentFlagBalls(t *testing.T) {
	for _, c := range []struct{ f, v, ball api.Term }{
		{i(1), i(1), typeError("atom", i(1))}, {s("debug", x(0)), x(0), typeError("atom", s("debug", x(0)))}, {chain(1995, i(1)), x(0), typeError("atom", chain(1995, i(1)))}, {chain(1996, i(1)), x(0), typeError("atom", a("..."))},
		{a("foo"), i(1), domainError("prolog_flag", a("foo"))}, {a(""), x(0), domainError("prolog_flag", a(""))}, {empty(), x(0), domainError("prolog_flag", empty())}, {a("on"), x(0), domainError("prolog_flag", a("on"))},
	} {
		gives(t, start(), s("current_prolog_flag", c.f, c.v), raised(c.ball))
	}
	for _, v := range append(others(), chain(1990, i(1)), a("on"), a("foo")) {
		goal := term.Canon(s("current_prolog_flag", a("debug"), v))
		gives(t, start(), goal, listed(start(), s("current_prolog_flag", a("debug"), a("off"))))
		goal = term.Canon(s("current_prolog_flag", x(9), v))
		gives(t, plain(), goal, wantCurrentFlag(plain(), goal))
	}
}

// P8.5: the examples of the chapter.
func TestFlagCallExamples(t *testing.T) {
	goal := s("set_prolog_flag", a("unknown"), a("fail"))
	want := start()
	want.Flags.Unknown = 2
	gives(t, start(), goal, listed(want, goal))
	gives(t, start(), s("set_prolog_flag", a("max_arity"), i(9)), raised(permissionError("modify", "flag", a("max_arity"))))
	gives(t, start(), s("set_prolog_flag", a("unknown"), a("maybe")), raised(domainError("flag_value", s("+", a("unknown"), a("maybe")))))
	answers := call(start(), s("current_prolog_flag", x(0), x(1))).answers
	if len(answers) != 9 || !same(answers[0], s("current_prolog_flag", a("bounded"), a("true"))) || !same(answers[8], s("current_prolog_flag", a("unknown"), a("error"))) {
		t.Errorf("%d answers", len(answers))
	}
}
