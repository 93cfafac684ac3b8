package flags_test

import (
	"slices"
	"testing"

	"hornbeam/api"
	"hornbeam/term"
)

func char(c int) api.Term { return a(string([]byte{byte(c)})) }

// maybeChars are terms that are a character, and others.
func maybeChars() []api.Term {
	l := append(others(), x(1), s(".", x(0), x(1)))
	for _, name := range names() {
		l = append(l, a(name))
	}
	return l
}

func isChar(t api.Term) bool { return t.Kind == api.KindAtom && len(t.Name) == 1 }

// wantTable maps one character more, or one less if it stands for itself.
func wantTable(l []api.Pair, from, to int) []api.Pair {
	var table []api.Pair
	for c := range 256 {
		target := convert(l, c)
		if c == from {
			target = to
		}
		if c != target {
			table = append(table, api.Pair{From: c, To: target})
		}
	}
	return table
}

// convert is the character to which a table maps a character.
func convert(l []api.Pair, c int) int {
	for _, pair := range l {
		if pair.From == c {
			return pair.To
		}
	}
	return c
}

// wantConversion is the chapter's definition of char_conversion/2.
func wantConversion(syntax api.Syntax, goal api.Term) outcome {
	from, to := goal.Args[0], goal.Args[1]
	switch {
	case from.Kind == api.KindVar || to.Kind == api.KindVar:
		return raised(inst())
	case !isChar(from):
		return raised(typeError("character", from))
	case !isChar(to):
		return raised(typeError("character", to))
	}
	syntax.Conv = wantTable(syntax.Conv, int(from.Name[0]), int(to.Name[0]))
	return listed(syntax, goal)
}

// wantCurrentConversion is the chapter's definition of current_char_conversion/2.
func wantCurrentConversion(syntax api.Syntax, goal api.Term) outcome {
	from, to := goal.Args[0], goal.Args[1]
	switch {
	case from.Kind != api.KindVar && !isChar(from):
		return raised(typeError("character", from))
	case to.Kind != api.KindVar && !isChar(to):
		return raised(typeError("character", to))
	case from.Kind != api.KindVar:
		return listed(syntax, s("current_char_conversion", from, char(convert(syntax.Conv, int(from.Name[0])))))
	}
	var answers []api.Term
	for _, pair := range syntax.Conv {
		answers = append(answers, s("current_char_conversion", char(pair.From), char(pair.To)))
	}
	return listed(syntax, answers...)
}

// P8.5: all combinations of arguments of both predicates.
func TestConversions(t *testing.T) {
	count := map[api.Errno]int{}
	for _, conv := range validConversions() {
		syntax := plain()
		syntax.Conv = conv
		for _, from := range maybeChars() {
			for _, to := range maybeChars() {
				goal := term.Canon(s("char_conversion", from, to))
				want := wantConversion(syntax, goal)
				gives(t, syntax, goal, want)
				count[want.e]++
				goal.Name = "current_char_conversion"
				gives(t, syntax, goal, wantCurrentConversion(syntax, goal))
			}
		}
	}
	if count[api.OK] < 100 || count[api.ErrBall] < 1000 {
		t.Errorf("%d calls had an answer, and %d a ball", count[api.OK], count[api.ErrBall])
	}
}

// P8.5: every character can be converted to every other one, and to itself.
func TestConversionOfAll(t *testing.T) {
	for _, conv := range validConversions() {
		syntax := start()
		syntax.Conv = conv
		for from := range 256 {
			for _, to := range []int{0, 'a', 127, 128, 255, from, convert(conv, from), 255 - from} {
				goal := s("char_conversion", char(from), char(to))
				gives(t, syntax, goal, wantConversion(syntax, goal))
			}
			for _, to := range []api.Term{x(0), char(from), char(0), char(255)} {
				gives(t, syntax, s("current_char_conversion", char(from), to), listed(syntax, s("current_char_conversion", char(from), char(convert(conv, from)))))
			}
		}
		for _, to := range []api.Term{x(0), x(1), char(0), char(255)} {
			goal := term.Canon(s("current_char_conversion", x(0), to))
			gives(t, syntax, goal, wantCurrentConversion(syntax, goal))
			if n := len(call(syntax, goal).answers); n != len(conv) {
				t.Errorf("%d answers for a table of %d pairs", n, len(conv))
			}
		}
	}
}

// P8.5: the first check that fails determines the ball.
func TestConversionBalls(t *testing.T) {
	for _, c := range []struct{ from, to, set, current api.Term }{
		{x(0), x(1), inst(), api.Term{}},
		{x(0), i(1), inst(), typeError("character", i(1))},
		{i(1), x(0), inst(), typeError("character", i(1))},
		{a("ab"), x(0), inst(), typeError("character", a("ab"))},
		{x(0), s("a", x(0)), inst(), typeError("character", s("a", x(0)))},
		{i(97), i(98), typeError("character", i(97)), typeError("character", i(97))},
		{a(""), a("ab"), typeError("character", a("")), typeError("character", a(""))},
		{a("é"), i(1), typeError("character", a("é")), typeError("character", a("é"))},
		{a("a"), a("bc"), typeError("character", a("bc")), typeError("character", a("bc"))},
		{a("a"), i(98), typeError("character", i(98)), typeError("character", i(98))},
		{a("a"), s("b", x(0)), typeError("character", s("b", x(0))), typeError("character", s("b", x(0)))},
		{chain(1995, i(1)), a("a"), typeError("character", chain(1995, i(1))), typeError("character", chain(1995, i(1)))},
		{chain(1996, i(1)), a("a"), typeError("character", a("...")), typeError("character", a("..."))},
		{a("a"), chain(1996, i(1)), typeError("character", a("...")), typeError("character", a("..."))},
	} {
		gives(t, start(), s("char_conversion", c.from, c.to), raised(c.set))
		if goal := s("current_char_conversion", c.from, c.to); c.current.Name != "" {
			gives(t, start(), goal, raised(c.current))
		} else {
			gives(t, start(), goal, listed(start()))
		}
	}
}

// P8.5: the examples of the chapter.
func TestConversionExamples(t *testing.T) {
	syntax := does(t, start(), s("char_conversion", a("a"), a("b")))
	if !slices.Equal(syntax.Conv, []api.Pair{{From: 'a', To: 'b'}}) {
		t.Errorf("the table is %v", syntax.Conv)
	}
	gives(t, syntax, s("current_char_conversion", a("a"), x(0)), listed(syntax, s("current_char_conversion", a("a"), a("b"))))
	gives(t, syntax, s("current_char_conversion", a("b"), x(0)), listed(syntax, s("current_char_conversion", a("b"), a("b"))))
	gives(t, syntax, s("char_conversion", a("a"), a("a")), listed(start(), s("char_conversion", a("a"), a("a"))))
}
