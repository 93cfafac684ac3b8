package flags_test

import (
	"math"
	"slices"
	"testing"

	"hornbeam/api"
	"hornbeam/flags"
)

// predicate is a predicate that Call executes, with arguments for which it has answers.
type predicate struct {
	name string
	args []api.Term
}

func predicates() []predicate {
	return []predicate{
		{"op", []api.Term{i(700), a("xfx"), a("in")}},
		{"current_op", []api.Term{x(0), x(1), x(2)}},
		{"char_conversion", []api.Term{a("a"), a("b")}},
		{"current_char_conversion", []api.Term{a("a"), x(0)}},
		{"set_prolog_flag", []api.Term{a("debug"), a("on")}},
		{"current_prolog_flag", []api.Term{a("debug"), x(0)}},
	}
}

// strange are names that are not those of a predicate.
func strange() []string {
	l := append(names(), "Op", "o", "ops", "current", "current_ops", "current_flag", "prolog_flag", "get_prolog_flag", "set_flag", "flag", "=", "atom_length", "op/3")
	for _, p := range predicates() {
		l = append(l, p.name+" ", p.name+"\x00", p.name[1:], p.name[:len(p.name)-1])
	}
	return l
}

// isKnown reports whether a predicate is one of those that Call executes.
func isKnown(name string, arity int) bool {
	return slices.ContainsFunc(predicates(), func(p predicate) bool { return p.name == name && len(p.args) == arity })
}

// P8.4: the six predicates, and many others.
func TestHas(t *testing.T) {
	count := 0
	arities := []int{math.MinInt, -1 << 32, -1<<32 + 3, -254, -253, -3, -2, 256 + 2, 256 + 3, 1<<16 + 3, 1<<32 + 2, 1<<32 + 3, math.MaxInt}
	for arity := -1; arity < 20; arity++ {
		arities = append(arities, arity)
	}
	for _, arity := range arities {
		for _, name := range append(strange(), string(make([]byte, 1<<20))) {
			if flags.Has(name, arity) {
				t.Errorf("Has of %.100q and %d is true", name, arity)
			}
		}
		for _, p := range predicates() {
			want := arity == len(p.args)
			if flags.Has(p.name, arity) != want {
				t.Errorf("Has of %q and %d is %v", p.name, arity, !want)
			}
			if want {
				count++
			}
		}
	}
	if count != 6 {
		t.Errorf("%d predicates have been found", count)
	}
}

// P8.5: ErrArg for a syntax that is not valid, whatever the goal is.
func TestCallInvalidSyntax(t *testing.T) {
	for _, s := range invalidSyntaxes() {
		gives(t, s, a("foo"), failed(api.ErrArg))
		gives(t, s, x(0), failed(api.ErrArg))
		gives(t, s, x(1), failed(api.ErrArg))
		for _, p := range predicates() {
			gives(t, s, api.Term{Kind: api.KindStruct, Name: p.name, Args: p.args}, failed(api.ErrArg))
			gives(t, s, api.Term{Kind: api.KindStruct, Name: p.name, Args: many(len(p.args), i(1))}, failed(api.ErrArg))
		}
	}
}

// P8.5: ErrArg for a goal that is not valid, also if it has no predicate, or a check fails.
func TestCallInvalidGoal(t *testing.T) {
	for _, syntax := range []api.Syntax{start(), plain()} {
		for _, bad := range badNodes() {
			gives(t, syntax, bad, failed(api.ErrArg))
			gives(t, syntax, s("foo", bad), failed(api.ErrArg))
			for _, p := range predicates() {
				for at := range p.args {
					for _, args := range [][]api.Term{slices.Clone(p.args), many(len(p.args), i(1)), many(len(p.args), x(0))} {
						args[at] = bad
						gives(t, syntax, s(p.name, args...), failed(api.ErrArg))
						args[at] = s("f", x(0), bad)
						gives(t, syntax, s(p.name, args...), failed(api.ErrArg))
						args[at] = list(empty(), a("in"), bad)
						gives(t, syntax, s(p.name, args...), failed(api.ErrArg))
					}
				}
			}
		}
	}
}

// P8.5: a goal has at most 2000 nodes.
func TestCallSize(t *testing.T) {
	gives(t, start(), s("set_prolog_flag", a("debug"), chain(1997, i(1))), raised(domainError("flag_value", a("..."))))
	gives(t, start(), s("set_prolog_flag", a("debug"), chain(1998, i(1))), failed(api.ErrArg))
	gives(t, start(), s("foo", chain(1998, i(1))), failed(api.ErrNone))
	gives(t, start(), s("foo", chain(1999, i(1))), failed(api.ErrArg))
}

// P8.5: ErrArg for a goal that is not canonical.
func TestCallNotCanonical(t *testing.T) {
	for _, goal := range []api.Term{
		x(1), x(5), x(api.MaxVar), s("foo", x(1)), s("foo", x(1), x(0)),
		s("op", x(1), x(0), x(2)), s("op", i(700), a("xfx"), x(1)), s("op", i(700), a("xfx"), list(x(1), a("a"))), s("op", i(700), a("xfx"), s("f", x(1), x(0))),
		s("current_op", x(1), x(2), x(3)), s("current_op", x(0), x(2), x(1)), s("current_op", x(0), x(0), x(2)), s("current_op", i(1), a("xfx"), x(1)), s("current_op", x(1), x(1), x(0)),
		s("char_conversion", x(1), a("a")), s("char_conversion", a("a"), x(1)), s("char_conversion", a("a"), s("f", x(2))),
		s("current_char_conversion", x(1), x(0)), s("current_char_conversion", x(0), x(2)), s("current_char_conversion", a("a"), x(1)),
		s("set_prolog_flag", a("debug"), x(1)), s("set_prolog_flag", a("debug"), s("f", x(0), x(2))), s("set_prolog_flag", x(1), a("on")),
		s("current_prolog_flag", x(1), x(0)), s("current_prolog_flag", x(2), x(2)), s("current_prolog_flag", a("debug"), x(1)),
	} {
		gives(t, start(), goal, failed(api.ErrArg))
		gives(t, plain(), goal, failed(api.ErrArg))
	}
}

// P8.5: ErrNone for a goal that is a variable, an integer, an atom, or a structure of another predicate.
func TestCallNone(t *testing.T) {
	for _, syntax := range []api.Syntax{start(), plain()} {
		for _, n := range []int64{0, 1, 2, 3, -1, math.MinInt64, math.MaxInt64} {
			gives(t, syntax, i(n), failed(api.ErrNone))
		}
		gives(t, syntax, x(0), failed(api.ErrNone))
		for _, name := range strange() {
			if len(name) > api.MaxName {
				continue
			}
			gives(t, syntax, a(name), failed(api.ErrNone))
			for arity := 1; arity <= api.MaxArity; arity++ {
				gives(t, syntax, s(name, many(arity, x(0))...), failed(api.ErrNone))
			}
		}
		for _, p := range predicates() {
			gives(t, syntax, a(p.name), failed(api.ErrNone))
			for arity := 1; arity <= api.MaxArity; arity++ {
				if isKnown(p.name, arity) {
					continue
				}
				gives(t, syntax, s(p.name, many(arity, a("a"))...), failed(api.ErrNone))
				gives(t, syntax, s(p.name, append(slices.Clone(p.args), many(8, a("a"))...)[:arity]...), failed(api.ErrNone))
			}
		}
		gives(t, syntax, s(",", s("op", i(700), a("xfx"), a("in")), a("true")), failed(api.ErrNone))
		gives(t, syntax, s(":", a("user"), s("op", i(700), a("xfx"), a("in"))), failed(api.ErrNone))
		gives(t, syntax, s("foo", x(0)), failed(api.ErrNone))
		gives(t, syntax, s("op", i(1)), failed(api.ErrNone))
	}
}

// P8.5: every predicate has its answers in every syntax.
func TestCallEverywhere(t *testing.T) {
	for _, syntax := range syntaxes() {
		for _, p := range predicates() {
			got := call(syntax, s(p.name, p.args...))
			full := p.name == "op" && len(syntax.Ops) == 100
			rival := p.name == "op" && slices.Contains(syntax.Ops, o(1200, api.YF, "in"))
			switch {
			case full && !sameOutcome(got, failed(api.ErrFull)):
				t.Errorf("%s in %s: %v", p.name, showSyntax(syntax), got)
			case rival && !sameOutcome(got, raised(permissionError("create", "operator", a("in")))):
				t.Errorf("%s in %s: %v", p.name, showSyntax(syntax), got)
			case !full && !rival && (got.e != api.OK || !flags.ValidSyntax(got.syntax) || !same(got.ball, api.Term{})):
				t.Errorf("%s in %s: %v", p.name, showSyntax(syntax), got)
			}
		}
	}
}
