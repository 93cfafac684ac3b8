package balls_test

import (
	"math"
	"strings"
	"testing"

	"hornbeam/api"
	"hornbeam/balls"
)

// maker makes an error term of a culprit, and of some words before it.
type maker struct {
	formal string
	words  int
	make   func(words []string, culprit api.Term) api.Term
}

// makers are the functions that have a culprit.
func makers() []maker {
	return []maker{
		{"uninstantiation_error", 0, func(_ []string, c api.Term) api.Term { return balls.Uninst(c) }},
		{"type_error", 1, func(w []string, c api.Term) api.Term { return balls.Type(w[0], c) }},
		{"domain_error", 1, func(w []string, c api.Term) api.Term { return balls.Domain(w[0], c) }},
		{"existence_error", 1, func(w []string, c api.Term) api.Term { return balls.Existence(w[0], c) }},
		{"permission_error", 2, func(w []string, c api.Term) api.Term { return balls.Permission(w[0], w[1], c) }},
	}
}

// worded are the functions that have a word alone.
func worded() map[string]func(what string) api.Term {
	return map[string]func(what string) api.Term{"representation_error": balls.Representation, "evaluation_error": balls.Evaluation}
}

// formal is the formal of words and a culprit.
func (m maker) formalOf(words []string, culprit api.Term) api.Term {
	var args []api.Term
	for _, word := range words[:m.words] {
		args = append(args, a(word))
	}
	return s(m.formal, append(args, culprit)...)
}

// P6.1: the rows of the table.
func TestMake(t *testing.T) {
	c := s("f", x(0), s("g", a("b"), i(-3)))
	for _, m := range []struct {
		name   string
		r      api.Term
		formal api.Term
	}{
		{"Inst", balls.Inst(), a("instantiation_error")},
		{"Uninst", balls.Uninst(c), s("uninstantiation_error", c)},
		{"Type", balls.Type("list", c), s("type_error", a("list"), c)},
		{"Domain", balls.Domain("stream", c), s("domain_error", a("stream"), c)},
		{"Existence", balls.Existence("procedure", c), s("existence_error", a("procedure"), c)},
		{"Permission", balls.Permission("modify", "static_procedure", c), s("permission_error", a("modify"), a("static_procedure"), c)},
		{"Permission of an indicator", balls.Permission("modify", "static_procedure", s("/", a("f"), i(1))), s("permission_error", a("modify"), a("static_procedure"), s("/", a("f"), i(1)))},
		{"Representation", balls.Representation("max_arity"), s("representation_error", a("max_arity"))},
		{"Evaluation", balls.Evaluation("zero_divisor"), s("evaluation_error", a("zero_divisor"))},
		{"Syntax", balls.Syntax(3), s("syntax_error", i(3))},
		{"Type of a variable", balls.Type("list", s("f", x(0))), s("type_error", a("list"), s("f", x(0)))},
	} {
		is(t, m.name, m.r, s("error", m.formal, a("[]")))
	}
}

// P6.1: any valid term is a culprit, and stays as it is; variables are not renumbered.
func TestCulprits(t *testing.T) {
	for _, m := range makers() {
		for _, c := range append(samples(), x(0), x(17), s("f", x(9), x(3), x(9)), errorOf(x(4)), a("..."), s("...", x(1))) {
			want := errorOf(m.formalOf([]string{"one", "two"}, c))
			if nodes(want) > api.MaxSize {
				want = errorOf(m.formalOf([]string{"one", "two"}, a("...")))
			}
			is(t, m.formal+" of "+show(c), m.make([]string{"one", "two"}, c), want)
		}
	}
}

// nodes counts the nodes of a term that has an end.
func nodes(t api.Term) int {
	n := 1
	for _, arg := range t.Args {
		n += nodes(arg)
	}
	return n
}

// P6.1: an error term of MaxSize nodes has its culprit, a larger one has '...' instead.
func TestLargeCulprits(t *testing.T) {
	words := []string{"one", "two"}
	for _, m := range makers() {
		most := api.MaxSize - 3 - m.words
		for n := most - 3; n <= api.MaxSize; n++ {
			for _, c := range []api.Term{chain(n-1, x(2)), s("g", i(1), chain(n-3, a("b"))), list(chain(1-n%2, empty()), many((n-1)/2, x(0))...)} {
				if nodes(c) != n {
					t.Fatalf("the culprit has %d nodes, not %d", nodes(c), n)
				}
				want := errorOf(m.formalOf(words, c))
				if n == most && nodes(want) != api.MaxSize {
					t.Fatalf("the error term has %d nodes", nodes(want))
				}
				if n > most {
					want = errorOf(m.formalOf(words, a("...")))
				}
				is(t, m.formal+" of "+show(c), m.make(words, c), want)
			}
		}
	}
	is(t, "Type of 998 integers", balls.Type("list", list(empty(), many(998, i(1))...)), typeError("list", a("...")))
}

// P6.1: a culprit that is not valid, for its size or for anything else, makes the zero Term, whatever the words are.
func TestInvalidCulprits(t *testing.T) {
	for _, m := range makers() {
		for _, u := range invalid() {
			for _, word := range []string{"list", "", longNames()[0]} {
				is(t, m.formal+" of "+show(u), m.make([]string{word, word}, u), api.Term{})
			}
		}
	}
}

// P6.1: kinds, actions and whats of up to MaxName bytes, at each place.
func TestNames(t *testing.T) {
	for _, name := range names() {
		for what, make := range worded() {
			is(t, what+" of "+show(a(name)), make(name), errorOf(s(what, a(name))))
		}
		for _, m := range makers()[1:] {
			for place := range m.words {
				words := []string{"one", "two"}
				words[place] = name
				is(t, m.formal+" of "+show(a(name)), m.make(words, i(1)), errorOf(m.formalOf(words, i(1))))
				is(t, m.formal+" of "+show(a(name)), m.make(words, x(1)), errorOf(m.formalOf(words, x(1))))
				is(t, m.formal+" of "+show(a(name))+" and a large culprit", m.make(words, chain(1999, x(1))), errorOf(m.formalOf(words, a("..."))))
			}
			is(t, m.formal+" of "+show(a(name))+" twice", m.make([]string{name, name}, i(1)), errorOf(m.formalOf([]string{name, name}, i(1))))
		}
	}
}

// P6.1: kinds, actions and whats of more than MaxName bytes, at each place, make the zero Term.
func TestLongNames(t *testing.T) {
	for _, name := range longNames() {
		for what, make := range worded() {
			is(t, what+" of a long name", make(name), api.Term{})
		}
		for _, m := range makers()[1:] {
			for place := range m.words {
				words := []string{"one", "two"}
				words[place] = name
				for _, c := range []api.Term{i(1), x(0), a(""), s("f", x(0)), chain(1999, x(1)), chain(1994, x(1)), chain(2000, x(1)), x(-1)} {
					is(t, m.formal+" of a long name and "+show(c), m.make(words, c), api.Term{})
				}
			}
			is(t, m.formal+" of long names", m.make([]string{name, name}, i(1)), api.Term{})
		}
	}
}

// P6.1: a place of a syntax error is 0 or more.
func TestSyntax(t *testing.T) {
	for _, at := range []int{0, 1, 2, 3, 12, 255, 256, api.MaxText, 1<<31 - 1, 1 << 31, 1 << 32, 1<<32 + 1, api.MaxVar + 1, math.MaxInt - 1, math.MaxInt} {
		is(t, "Syntax", balls.Syntax(at), errorOf(s("syntax_error", i(int64(at)))))
	}
	for _, at := range []int{-1, -2, -3, -256, -1 << 31, -1 << 32, 1 - 1<<32, math.MinInt + 1, math.MinInt} {
		is(t, "Syntax of a negative place", balls.Syntax(at), api.Term{})
	}
}

// P6.2: the formal of error(F, S), whatever F and S are.
func TestFormal(t *testing.T) {
	for _, f := range samples() {
		for _, second := range []api.Term{empty(), x(0), x(7), i(3), a("a"), s("context", f), list(x(1), i(1)), errorOf(i(1))} {
			u := s("error", f, second)
			if nodes(u) > api.MaxSize {
				continue
			}
			r, ok := balls.Formal(u)
			if !ok {
				t.Errorf("%s has no formal", show(u))
			}
			is(t, "Formal of "+show(u), r, f)
		}
	}
	for _, f := range []api.Term{chain(1997, x(0)), list(empty(), many(998, i(1))...)} {
		if r, ok := balls.Formal(errorOf(f)); !ok || !same(r, f) {
			t.Errorf("Formal of a term with the formal %s: %s, %v", show(f), show(r), ok)
		}
	}
}

// P6.2: other terms have no formal, nor have terms that are not valid.
func TestNoFormal(t *testing.T) {
	l := append(invalid(), x(0), x(3), i(0), i(1), a("error"), a(""), empty(), s("error", a("a")), s("error", a("a"), x(0), empty()), s("error", many(8, a("a"))...),
		s("Error", a("a"), empty()), s("errors", a("a"), empty()), s("erro", a("a"), empty()), s("", a("a"), empty()), s("error ", a("a"), empty()), s("f", a("a"), empty()),
		s("f", errorOf(a("a"))), s("f", errorOf(a("a")), empty()), s("-", errorOf(a("a")), errorOf(a("a"))), s("type_error", a("list"), empty()), s(strings.Repeat("error", 20), a("a"), empty()))
	for _, u := range l {
		r, ok := balls.Formal(u)
		if ok {
			t.Errorf("%s has a formal", show(u))
		}
		is(t, "Formal of "+show(u), r, api.Term{})
	}
}
