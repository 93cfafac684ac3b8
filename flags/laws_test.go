package flags_test

import (
	"slices"
	"testing"

	"hornbeam/api"
	"hornbeam/flags"
	"hornbeam/term"
)

// goals are goals of all predicates, most of which have answers.
func goals() []api.Term {
	var l []api.Term
	for _, n := range []api.Term{a("in"), a("a"), a("is"), a("|"), a("x001"), a(""), a(","), empty(), atoms("in", "a", "x050"), atoms("in", "[]"), x(0), i(1)} {
		for _, typ := range specifiers() {
			for _, p := range []int64{0, 1, 1001, 1200, 1201} {
				l = append(l, s("op", i(p), a(typ), n))
			}
		}
	}
	for _, v := range append(maybeChars(), flagTerms()...) {
		l = append(l, s("char_conversion", a("a"), v), s("char_conversion", v, a("b")), s("current_char_conversion", v, x(9)), s("current_char_conversion", a("a"), v),
			s("set_prolog_flag", a("debug"), v), s("set_prolog_flag", a("unknown"), v), s("set_prolog_flag", v, a("on")), s("current_prolog_flag", v, x(9)), s("current_prolog_flag", x(9), v),
			s("current_op", v, x(8), x(9)), s("current_op", x(8), v, x(9)), s("current_op", x(8), x(9), v))
	}
	for at, goal := range l {
		l[at] = term.Canon(goal)
	}
	return l
}

// P8.6: what Call returns with OK is valid, and the predicates whose names begin with current_ change nothing.
func TestCallKeepsValid(t *testing.T) {
	count := 0
	for at, syntax := range syntaxes() {
		for number, goal := range goals() {
			if at > 10 && (at+number)%7 > 0 {
				continue
			}
			got := call(syntax, goal)
			if got.e != api.OK {
				if !sameSyntax(got.syntax, api.Syntax{}) || len(got.answers) > 0 || (got.e == api.ErrBall) == same(got.ball, api.Term{}) {
					t.Errorf("%s in %s: %v", show(goal), showSyntax(syntax), got)
				}
				continue
			}
			count++
			if !flags.ValidSyntax(got.syntax) || !same(got.ball, api.Term{}) {
				t.Errorf("%s in %s: %v", show(goal), showSyntax(syntax), got)
			}
			if goal.Name[0] == 'c' && goal.Name[1] == 'u' && !sameSyntax(got.syntax, syntax) {
				t.Errorf("%s changes %s to %s", show(goal), showSyntax(syntax), showSyntax(got.syntax))
			}
			for _, answer := range got.answers {
				if !term.Valid(answer) || answer.Name != goal.Name || len(answer.Args) != len(goal.Args) {
					t.Errorf("%s in %s has the answer %s", show(goal), showSyntax(syntax), show(answer))
				}
			}
		}
	}
	if count < 10000 {
		t.Errorf("only %d calls had an answer", count)
	}
}

// operators are the answers of current_op/3, apart from those for a class and a name.
func operators(t *testing.T, syntax api.Syntax, class []string, name string) (these, all []string) {
	t.Helper()
	for _, answer := range call(syntax, s("current_op", x(0), x(1), x(2))).answers {
		if slices.Contains(class, answer.Args[1].Name) && answer.Args[2].Name == name {
			these = append(these, show(answer))
		} else {
			all = append(all, show(answer))
		}
	}
	return these, all
}

// P8.8: after op/3 with a name, current_op/3 lists the operator, or none, and all others as before.
func TestOpIsListed(t *testing.T) {
	classes := [][]string{{"fy", "fx"}, {"xfx", "xfy", "yfx"}, {"xf", "yf"}}
	count := 0
	for _, syntax := range syntaxes()[:50] {
		for _, name := range []string{"in", "a", "is", "|", "", "x001", "{", "+"} {
			for _, typ := range specifiers()[1:] {
				class := classes[slices.IndexFunc(classes, func(l []string) bool { return slices.Contains(l, typ) })]
				_, others := operators(t, syntax, class, name)
				for _, p := range []int64{0, 1001} {
					got := call(syntax, s("op", i(p), a(typ), a(name)))
					if got.e != api.OK {
						continue
					}
					these, rest := operators(t, got.syntax, class, name)
					var want []string
					if p > 0 {
						want = append(want, show(s("current_op", i(p), a(typ), a(name))))
					}
					if !slices.Equal(these, want) || !slices.Equal(rest, others) {
						t.Errorf("after op(%d, %s, %q) in %s, %v are listed", p, typ, name, showSyntax(syntax), these)
					}
					count++
				}
			}
		}
	}
	if count < 3000 {
		t.Errorf("only %d operators were set", count)
	}
}

// P8.9: after char_conversion(A, B), current_char_conversion(A, X) has the one answer with X = B.
func TestConversionIsListed(t *testing.T) {
	for _, conv := range validConversions() {
		syntax := start()
		syntax.Conv = conv
		for from := range 256 {
			for _, to := range []int{from, 0, 'b', 200, 255} {
				changed := does(t, syntax, s("char_conversion", char(from), char(to)))
				gives(t, changed, s("current_char_conversion", char(from), x(0)), listed(changed, s("current_char_conversion", char(from), char(to))))
				other := (from + 1) % 256
				gives(t, changed, s("current_char_conversion", char(other), x(0)), listed(changed, s("current_char_conversion", char(other), char(convert(conv, other)))))
			}
		}
	}
}
