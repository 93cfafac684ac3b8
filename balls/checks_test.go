package balls_test

import (
	"math"
	"testing"

	"hornbeam/api"
)

// trial is a term and the outcome of a check of it.
type trial struct {
	u    api.Term
	want outcome
}

// giveAll tries a check.
func giveAll(t *testing.T, name string, trials ...trial) {
	t.Helper()
	for _, c := range trials {
		gives(t, name, c.u, c.want)
	}
}

// P6.3: a term that is not valid does not pass, and there is no ball, in all checks.
func TestChecksOfInvalid(t *testing.T) {
	for name := range checks() {
		for _, u := range invalid() {
			gives(t, name, u, outcome{})
		}
	}
}

// P6.3 to P6.6: the ball of a variable.
func TestChecksOfVariables(t *testing.T) {
	for name := range checks() {
		for _, n := range []int64{0, 1, 2, 97, 255, 256, 1 << 32, api.MaxVar - 1, api.MaxVar} {
			gives(t, name, x(n), refused(inst()))
		}
	}
}

// P6.3: Atom.
func TestAtom(t *testing.T) {
	for _, name := range names() {
		gives(t, "Atom", a(name), passed("%q", name))
	}
	for _, n := range numbers() {
		gives(t, "Atom", i(n), refused(typeError("atom", i(n))))
	}
	for _, u := range structures() {
		gives(t, "Atom", u, refused(typeError("atom", u)))
	}
	giveAll(t, "Atom",
		trial{a("abc"), passed("%q", "abc")},
		trial{i(3), refused(typeError("atom", i(3)))},
		trial{s("a", x(0)), refused(typeError("atom", s("a", x(0))))},
		trial{s("f", x(5), x(2), a("b")), refused(typeError("atom", s("f", x(5), x(2), a("b"))))},
		trial{chain(1995, x(0)), refused(typeError("atom", chain(1995, x(0))))},
		trial{chain(1996, x(0)), refused(typeError("atom", a("...")))},
		trial{chain(1999, x(0)), refused(typeError("atom", a("...")))},
	)
}

// P6.3: Int.
func TestInt(t *testing.T) {
	for _, n := range numbers() {
		gives(t, "Int", i(n), passed("%d", n))
	}
	for _, name := range names() {
		gives(t, "Int", a(name), refused(typeError("integer", a(name))))
	}
	for _, u := range structures() {
		gives(t, "Int", u, refused(typeError("integer", u)))
	}
	giveAll(t, "Int",
		trial{a("1"), refused(typeError("integer", a("1")))},
		trial{s("-", i(1)), refused(typeError("integer", s("-", i(1))))},
		trial{chain(1995, i(1)), refused(typeError("integer", chain(1995, i(1))))},
		trial{chain(1996, i(1)), refused(typeError("integer", a("...")))},
	)
}

// P6.3: Callable and Atomic.
func TestCallableAndAtomic(t *testing.T) {
	for _, name := range names() {
		gives(t, "Callable", a(name), passed(""))
		gives(t, "Atomic", a(name), passed(""))
	}
	for _, n := range numbers() {
		gives(t, "Callable", i(n), refused(typeError("callable", i(n))))
		gives(t, "Atomic", i(n), passed(""))
	}
	for _, u := range structures() {
		gives(t, "Callable", u, passed(""))
		gives(t, "Atomic", u, refused(typeError("atomic", u)))
	}
	giveAll(t, "Callable",
		trial{s("f", x(0)), passed("")},
		trial{s(",", x(0), i(1)), passed("")},
		trial{chain(1999, i(1)), passed("")},
	)
	giveAll(t, "Atomic",
		trial{s("f", i(1)), refused(typeError("atomic", s("f", i(1))))},
		trial{s("[]", x(0)), refused(typeError("atomic", s("[]", x(0))))},
		trial{chain(1995, a("a")), refused(typeError("atomic", chain(1995, a("a"))))},
		trial{chain(1996, a("a")), refused(typeError("atomic", a("...")))},
	)
}

// P6.5: a character is an atom of one byte.
func TestChar(t *testing.T) {
	for c := range 256 {
		name := string([]byte{byte(c)})
		gives(t, "Char", a(name), passed("%d", c))
		gives(t, "Char", i(int64(c)), refused(typeError("character", i(int64(c)))))
		gives(t, "Char", s(name, x(0)), refused(typeError("character", s(name, x(0)))))
		gives(t, "Char", a(name+"a"), refused(typeError("character", a(name+"a"))))
		gives(t, "Char", a("a"+name), refused(typeError("character", a("a"+name))))
	}
	for _, name := range names() {
		if len(name) != 1 {
			gives(t, "Char", a(name), refused(typeError("character", a(name))))
		}
	}
	for _, u := range structures() {
		gives(t, "Char", u, refused(typeError("character", u)))
	}
	giveAll(t, "Char",
		trial{a(""), refused(typeError("character", a("")))},
		trial{a("é"), refused(typeError("character", a("é")))},
		trial{i(-1), refused(typeError("character", i(-1)))},
		trial{chain(1995, a("a")), refused(typeError("character", chain(1995, a("a"))))},
		trial{chain(1996, a("a")), refused(typeError("character", a("...")))},
	)
}

// P6.5: a code is an integer from 0 to 255.
func TestCode(t *testing.T) {
	for c := range int64(256) {
		gives(t, "Code", i(c), passed("%d", c))
	}
	for _, n := range numbers() {
		if n < 0 || n > 255 {
			gives(t, "Code", i(n), refused(representationError("character_code")))
		}
	}
	for _, name := range names() {
		gives(t, "Code", a(name), refused(typeError("integer", a(name))))
	}
	for _, u := range structures() {
		gives(t, "Code", u, refused(typeError("integer", u)))
	}
	giveAll(t, "Code",
		trial{i(0), passed("0")},
		trial{i(255), passed("255")},
		trial{i(256), refused(representationError("character_code"))},
		trial{i(-1), refused(representationError("character_code"))},
		trial{i(math.MinInt64), refused(representationError("character_code"))},
		trial{a("a"), refused(typeError("integer", a("a")))},
		trial{chain(1995, i(65)), refused(typeError("integer", chain(1995, i(65))))},
		trial{chain(1996, i(65)), refused(typeError("integer", a("...")))},
	)
}

// P6.6: indicators that pass.
func TestIndicator(t *testing.T) {
	for arity := range int64(api.MaxArity + 1) {
		for _, name := range names() {
			gives(t, "Indicator", s("/", a(name), i(arity)), passed("%q/%d", name, arity))
		}
	}
}

// P6.6: terms that are no structures '/' with two arguments.
func TestNoIndicator(t *testing.T) {
	for _, u := range []api.Term{
		a("f"), a("/"), a("f/2"), a(""), i(0), i(2), s("/", a("f")), s("/", x(0)), s("/", a("f"), i(2), i(2)), s("/", x(0), x(1), x(2)), s("/", many(8, a("f"))...),
		s("-", a("f"), i(2)), s("", a("f"), i(2)), s("//", a("f"), i(2)), s("\\", a("f"), i(2)), s(":", a("f"), i(2)), s("f", x(0), x(1)), s("f", a("f"), i(2)), s(".", a("f"), i(2)),
		s(":", a("m"), s("/", a("f"), i(2))), s("/", s("/", a("f"), i(2))), list(empty(), s("/", a("f"), i(2))), chain(1995, x(0)), s("-", chain(1993, x(0)), i(2)),
	} {
		gives(t, "Indicator", u, refused(typeError("predicate_indicator", u)))
	}
	for _, u := range []api.Term{chain(1996, x(0)), chain(1999, i(1)), s("-", chain(1994, x(0)), i(2)), s("/", a("f"), i(2), chain(1996, x(0)))} {
		gives(t, "Indicator", u, refused(typeError("predicate_indicator", a("..."))))
	}
}

// P6.6: a variable, an atom, an integer or a structure at each place; the first ball that applies is the one that is returned.
func TestIndicatorParts(t *testing.T) {
	giveAll(t, "Indicator",
		trial{s("/", x(0), x(1)), refused(inst())},
		trial{s("/", x(0), x(0)), refused(inst())},
		trial{s("/", x(0), a("a")), refused(inst())},
		trial{s("/", x(0), i(2)), refused(inst())},
		trial{s("/", x(0), i(-1)), refused(inst())},
		trial{s("/", x(0), i(9)), refused(inst())},
		trial{s("/", x(0), s("f", i(2))), refused(inst())},
		trial{s("/", a("f"), x(0)), refused(inst())},
		trial{s("/", i(1), x(0)), refused(inst())},
		trial{s("/", s("f", a("g")), x(0)), refused(inst())},
		trial{s("/", i(1), i(2)), refused(typeError("atom", i(1)))},
		trial{s("/", i(1), a("a")), refused(typeError("atom", i(1)))},
		trial{s("/", i(1), i(-1)), refused(typeError("atom", i(1)))},
		trial{s("/", i(1), i(9)), refused(typeError("atom", i(1)))},
		trial{s("/", i(-3), s("f", x(0))), refused(typeError("atom", i(-3)))},
		trial{s("/", s("f", x(0)), i(2)), refused(typeError("atom", s("f", x(0))))},
		trial{s("/", s("f", x(0)), a("a")), refused(typeError("atom", s("f", x(0))))},
		trial{s("/", s("f", x(7)), i(9)), refused(typeError("atom", s("f", x(7))))},
		trial{s("/", a("f"), a("a")), refused(typeError("integer", a("a")))},
		trial{s("/", a("f"), a("2")), refused(typeError("integer", a("2")))},
		trial{s("/", a("f"), s("+", i(2))), refused(typeError("integer", s("+", i(2))))},
		trial{s("/", a("f"), s("f", x(6))), refused(typeError("integer", s("f", x(6))))},
	)
	for _, c := range []api.Term{chain(1995, x(0)), s("g", chain(1993, i(2)), x(3))} {
		gives(t, "Indicator", s("/", c, i(2)), refused(typeError("atom", c)))
		gives(t, "Indicator", s("/", a("f"), c), refused(typeError("integer", c)))
	}
	for _, c := range []api.Term{chain(1996, x(0)), chain(1997, i(2))} {
		gives(t, "Indicator", s("/", c, i(2)), refused(typeError("atom", a("..."))))
		gives(t, "Indicator", s("/", a("f"), c), refused(typeError("integer", a("..."))))
	}
}

// P6.6: arities that are out of range.
func TestIndicatorArity(t *testing.T) {
	for _, n := range numbers() {
		u := s("/", a("f"), i(n))
		switch {
		case n < 0:
			gives(t, "Indicator", u, refused(domainError("not_less_than_zero", i(n))))
		case n > api.MaxArity:
			gives(t, "Indicator", u, refused(representationError("max_arity")))
		default:
			gives(t, "Indicator", u, passed("%q/%d", "f", n))
		}
	}
}
