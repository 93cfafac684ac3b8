package balls_test

import (
	"fmt"
	"math"
	"slices"
	"strings"
	"testing"

	"hornbeam/api"
	"hornbeam/balls"
	"hornbeam/term"
)

// The terms of the tests need not be valid, so they are made without package term.
func x(n int64) api.Term { return api.Term{Kind: api.KindVar, N: n} }

func i(n int64) api.Term { return api.Term{Kind: api.KindInt, N: n} }

func a(name string) api.Term { return api.Term{Kind: api.KindAtom, Name: name} }

func s(name string, args ...api.Term) api.Term {
	return api.Term{Kind: api.KindStruct, Name: name, Args: args}
}

func empty() api.Term { return a("[]") }

// chain has n nodes more than the leaf.
func chain(n int, leaf api.Term) api.Term {
	for range n {
		leaf = s("f", leaf)
	}
	return leaf
}

// list has the tail behind its elements.
func list(tail api.Term, elements ...api.Term) api.Term {
	for _, element := range slices.Backward(elements) {
		tail = s(".", element, tail)
	}
	return tail
}

// many is n times the same term.
func many(n int, t api.Term) []api.Term { return slices.Repeat([]api.Term{t}, n) }

// errorOf is the error term of a formal.
func errorOf(formal api.Term) api.Term { return s("error", formal, empty()) }

func inst() api.Term { return errorOf(a("instantiation_error")) }

func typeError(kind string, culprit api.Term) api.Term {
	return errorOf(s("type_error", a(kind), culprit))
}

func domainError(kind string, culprit api.Term) api.Term {
	return errorOf(s("domain_error", a(kind), culprit))
}

func representationError(what string) api.Term {
	return errorOf(s("representation_error", a(what)))
}

// same compares all fields of terms that have an end.
func same(a, b api.Term) bool {
	return a.Kind == b.Kind && a.N == b.N && a.Name == b.Name && slices.EqualFunc(a.Args, b.Args, same)
}

// show is a text for messages about any term, also one without an end.
func show(t api.Term) string {
	n := term.Size(t)
	switch {
	case n > 50 || !term.Valid(t):
		return fmt.Sprintf("a term of kind %d with N %d, a name of %d bytes, %d arguments and %d nodes", t.Kind, t.N, len(t.Name), len(t.Args), n)
	case t.Kind == api.KindVar:
		return fmt.Sprintf("X%d", t.N)
	case t.Kind == api.KindInt:
		return fmt.Sprint(t.N)
	case t.Kind == api.KindAtom:
		return fmt.Sprintf("%q", t.Name)
	}
	var args []string
	for _, arg := range t.Args {
		args = append(args, show(arg))
	}
	return fmt.Sprintf("%q(%s)", t.Name, strings.Join(args, ", "))
}

// is reports an error unless a result is the term that is wanted.
func is(t *testing.T, call string, r, want api.Term) {
	t.Helper()
	if !same(r, want) {
		t.Errorf("%s is %s, not %s", call, show(r), show(want))
	}
}

// outcome is what a check returns, with its values spelled out. A zero value is spelled "".
type outcome struct {
	value string
	ball  api.Term
	ok    bool
}

// passed and refused are the outcomes of valid terms.
func passed(format string, values ...any) outcome {
	return outcome{value: fmt.Sprintf(format, values...), ok: true}
}

func refused(ball api.Term) outcome { return outcome{ball: ball} }

// spell spells values, unless they are the zero values of a term that does not pass.
func spell(zero bool, ok bool, format string, values ...any) string {
	if zero && !ok {
		return ""
	}
	return fmt.Sprintf(format, values...)
}

// spellList spells a list of elements out.
func spellList(l []api.Term) string {
	return fmt.Sprintf("%d elements %v", len(l), list(empty(), l...))
}

// checks are all checks.
func checks() map[string]func(t api.Term) outcome {
	return map[string]func(t api.Term) outcome{
		"Atom": func(t api.Term) outcome {
			name, ball, ok := balls.Atom(t)
			return outcome{spell(name == "", ok, "%q", name), ball, ok}
		},
		"Int": func(t api.Term) outcome {
			n, ball, ok := balls.Int(t)
			return outcome{spell(n == 0, ok, "%d", n), ball, ok}
		},
		"Callable": func(t api.Term) outcome {
			ball, ok := balls.Callable(t)
			return outcome{"", ball, ok}
		},
		"Atomic": func(t api.Term) outcome {
			ball, ok := balls.Atomic(t)
			return outcome{"", ball, ok}
		},
		"List": func(t api.Term) outcome {
			l, ball, ok := balls.List(t)
			return outcome{spell(len(l) == 0, ok, "%s", spellList(l)), ball, ok}
		},
		"Char": func(t api.Term) outcome {
			c, ball, ok := balls.Char(t)
			return outcome{spell(c == 0, ok, "%d", c), ball, ok}
		},
		"Code": func(t api.Term) outcome {
			c, ball, ok := balls.Code(t)
			return outcome{spell(c == 0, ok, "%d", c), ball, ok}
		},
		"Indicator": func(t api.Term) outcome {
			name, arity, ball, ok := balls.Indicator(t)
			return outcome{spell(name == "" && arity == 0, ok, "%q/%d", name, arity), ball, ok}
		},
	}
}

// gives reports an error unless a check of a term has the outcome that is wanted.
func gives(t *testing.T, name string, u api.Term, want outcome) {
	t.Helper()
	got := checks()[name](u)
	if got.value != want.value || got.ok != want.ok || !same(got.ball, want.ball) {
		t.Errorf("%s of %s: %.200q, %s, %v; not %.200q, %s, %v", name, show(u), got.value, show(got.ball), got.ok, want.value, show(want.ball), want.ok)
	}
}

// names are names of no byte, of one, of two and of many, some of which a conversion would change.
func names() []string {
	return []string{"", "a", "A", "1", "\x00", " ", "/", ".", "\x7f", "\x80", "\xff", "[]", "ab", "é", "\xff\xff", "00", "...", "error", "an atom", "\xe2\x82", "€",
		strings.Repeat("n", api.MaxName-1), strings.Repeat("n", api.MaxName), strings.Repeat("é", api.MaxName/2), strings.Repeat("\xff", api.MaxName)}
}

// longNames are names that no atom has.
func longNames() []string {
	return []string{strings.Repeat("n", api.MaxName+1), strings.Repeat("é", api.MaxName/2+1), strings.Repeat("\xff", api.MaxName+1), strings.Repeat("n", 256), strings.Repeat("n", 1<<20)}
}

// numbers are integers around those that the checks name, and some that equal them if they are cut off.
func numbers() []int64 {
	return []int64{math.MinInt64, math.MinInt64 + 1, -1 << 32, -1<<32 + 65, -257, -256, -255, -8, -1, 0, 1, 2, 7, 8, 9, 65, 127, 128, 254, 255, 256, 257, 256 + 65,
		1<<16 + 65, 1<<31 - 1, 1 << 31, 1 << 32, 1<<32 + 1, 1<<32 + 65, api.MaxVar, math.MaxInt64 - 1, math.MaxInt64}
}

// leaves are terms without arguments, one of each sort.
func leaves() []api.Term {
	return []api.Term{x(0), x(5), x(api.MaxVar), i(-1), i(0), i(2), i(api.MaxArity), i(api.MaxArity + 1), a("f"), a(""), a("[]"), a(".")}
}

// structures are structures of some functors with any arguments of the leaves.
func structures() []api.Term {
	var l []api.Term
	for _, u := range leaves() {
		l = append(l, s(".", u), s("/", u), s("error", u), s("f", u))
		for _, v := range leaves() {
			l = append(l, s("/", u, v), s(".", u, v), s("error", u, v), s("-", u, v), s("[]", u, v), s("", u, v), s("//", u, v),
				s("/", u, v, i(1)), s(".", u, v, empty()), s("error", u, v, empty()), s("/", s("f", u), v), s("/", u, s("f", v)), s(".", i(1), s(".", u, v)))
		}
	}
	return l
}

// large are valid terms with many nodes, up to MaxSize.
func large() []api.Term {
	return []api.Term{chain(1999, x(0)), chain(1999, a("a")), chain(1995, i(7)), chain(1996, i(7)), list(empty(), many(999, x(3))...), list(x(1), many(999, i(1))...), list(a("c"), many(999, i(1))...),
		list(s("f", empty()), many(999, i(1))...), list(empty(), append(many(998, i(1)), s("f", x(2)))...), s("/", chain(1996, x(0)), x(1)), s("/", a("f"), chain(1997, i(2))),
		errorOf(chain(1997, x(0))), s("error", x(1), list(empty(), many(998, x(2))...))}
}

// samples are valid terms of all sorts.
func samples() []api.Term {
	l := slices.Concat(leaves(), structures(), large())
	for _, n := range numbers() {
		l = append(l, i(n), s("/", a("f"), i(n)))
	}
	for _, name := range names() {
		l = append(l, a(name), s(name, x(0)), s(name, x(0), a(name)), s("/", a(name), i(3)), list(empty(), a(name)))
	}
	return l
}

// endless is a term whose first argument is itself.
func endless(kind int, name string) api.Term {
	t := api.Term{Kind: kind, Name: name, Args: many(2, empty())}
	t.Args[0] = t
	return t
}

// badNodes are terms that are not valid.
func badNodes() []api.Term {
	long, one, two := longNames()[0], many(1, a("a")), many(2, i(1))
	l := []api.Term{x(-1), x(api.MaxVar + 1), x(math.MinInt64), x(math.MaxInt64), {Name: "X"}, {N: 1, Args: one}, {Kind: api.KindInt, Name: "1"}, {Kind: api.KindInt, N: 1, Args: one},
		{Kind: api.KindAtom, Name: "a", N: 1}, {Kind: api.KindAtom, Name: "[]", N: 1}, {Kind: api.KindAtom, Name: "a", Args: one}, {Kind: api.KindAtom, Name: "[]", Args: one}, a(long),
		s("f"), s(long, one...), s("f", many(api.MaxArity+1, a("a"))...), {Kind: api.KindStruct, Name: "f", N: 1, Args: one},
		{Kind: api.KindStruct, Name: ".", N: 1, Args: many(2, empty())}, {Kind: api.KindStruct, Name: "/", N: -1, Args: []api.Term{a("f"), i(1)}}, {Kind: api.KindStruct, Name: "error", N: 1, Args: two},
		chain(api.MaxSize, x(0)), list(empty(), many(1000, i(1))...), list(x(0), append(many(999, i(1)), s("f", i(1)))...), s("/", chain(1998, x(0)), i(1)), errorOf(chain(1998, x(0))),
		endless(api.KindStruct, "."), endless(api.KindStruct, "/"), endless(api.KindStruct, "error"), endless(api.KindAtom, "[]")}
	for _, kind := range []int{-1, 4, 5, 256, 258, 1 << 32, 1<<32 + 2, math.MinInt, math.MaxInt} {
		l = append(l, api.Term{Kind: kind}, api.Term{Kind: kind, N: 1}, api.Term{Kind: kind, Name: "a"}, api.Term{Kind: kind, Name: "/", Args: []api.Term{a("f"), i(2)}})
	}
	return l
}

// invalid are terms that are not valid, for all reasons in all places, also in those that decide about a check.
func invalid() []api.Term {
	l := badNodes()
	for _, node := range badNodes() {
		l = append(l, s("f", node), s("f", x(0), node, x(1)), chain(700, node),
			s("/", node, i(2)), s("/", a("f"), node), s("/", x(0), node), s("/", node, x(0)), s("/", s("g", node), i(2)),
			list(empty(), node), list(x(0), node), list(a("c"), node), list(node, i(1)), list(node, i(1), x(0)), list(empty(), i(1), node, x(2)), list(empty(), i(1), s("f", node)),
			errorOf(node), s("error", a("a"), node), s("error", s("f", node), x(0)), s("error", node), s("error", a("a"), x(0), node))
	}
	return l
}
