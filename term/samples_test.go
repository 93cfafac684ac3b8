package term_test

import (
	"math"
	"slices"
	"strconv"
	"strings"
	"testing"

	"hornbeam/api"
)

// The terms of the tests are made without the package that they test.
func x(n int64) api.Term { return api.Term{Kind: api.KindVar, N: n} }

func i(n int64) api.Term { return api.Term{Kind: api.KindInt, N: n} }

func a(name string) api.Term { return api.Term{Kind: api.KindAtom, Name: name} }

func s(name string, args ...api.Term) api.Term {
	return api.Term{Kind: api.KindStruct, Name: name, Args: args}
}

func empty() api.Term { return a("[]") }

func pair(head, tail api.Term) api.Term { return s(".", head, tail) }

// list has 2 nodes for each of its n elements, and those of the tail.
func list(n int, element, tail api.Term) api.Term {
	for range n {
		tail = pair(element, tail)
	}
	return tail
}

// chain has n nodes, and those of the leaf, n levels below the top.
func chain(n int, leaf api.Term) api.Term {
	for range n {
		leaf = s("f", leaf)
	}
	return leaf
}

// bushy has n nodes, at most 8 below each.
func bushy(n int) api.Term {
	if n == 1 {
		return a("leaf")
	}
	rest := n - 1
	width := min(rest, api.MaxArity)
	var args []api.Term
	for k := range width {
		args = append(args, bushy(rest/width+min(1, max(0, rest%width-k))))
	}
	return s("b", args...)
}

// write spells all fields of a term out, so that two terms have the same text only if they are identical.
func write(b *strings.Builder, t api.Term, spare bool) {
	b.WriteString(strconv.Itoa(t.Kind) + " " + strconv.FormatInt(t.N, 10) + " " + strconv.Quote(t.Name))
	args := t.Args
	if spare {
		args = args[:cap(args)]
	}
	if len(args) == 0 {
		return
	}
	b.WriteString("(" + strconv.Itoa(len(args)))
	for _, arg := range args {
		b.WriteString(", ")
		write(b, arg, spare)
	}
	b.WriteString(")")
}

func text(t api.Term) string {
	var b strings.Builder
	write(&b, t, false)
	return b.String()
}

// fewer reports whether a term has fewer nodes than n, even if it has no end.
func fewer(t api.Term, n *int) bool {
	*n--
	for _, arg := range t.Args {
		if *n <= 0 || !fewer(arg, n) {
			return false
		}
	}
	return *n > 0
}

// show is a text for messages.
func show(t api.Term) string {
	if n := 100; !fewer(t, &n) {
		return "a large term"
	}
	return text(t)
}

func same(a, b api.Term) bool { return text(a) == text(b) }

func size(t api.Term) int {
	n := 1
	for _, arg := range t.Args {
		n += size(arg)
	}
	return n
}

// leaves returns all nodes without arguments, from left to right.
func leaves(t api.Term) []api.Term {
	if len(t.Args) == 0 {
		return []api.Term{t}
	}
	var l []api.Term
	for _, arg := range t.Args {
		l = append(l, leaves(arg)...)
	}
	return l
}

func vars(t api.Term) []int64 {
	var l []int64
	for _, leaf := range leaves(t) {
		if leaf.Kind == api.KindVar && !slices.Contains(l, leaf.N) {
			l = append(l, leaf.N)
		}
	}
	return l
}

// someVars are the variables of a term, of many only the first and the last ones.
func someVars(t api.Term) []int64 {
	l := vars(t)
	if len(l) > 20 {
		l = slices.Concat(l[:10], l[len(l)-10:])
	}
	return l
}

// mapped is a term with each variable replaced.
func mapped(t api.Term, f func(n int64) api.Term) api.Term {
	if t.Kind == api.KindVar {
		return f(t.N)
	}
	var args []api.Term
	for _, arg := range t.Args {
		args = append(args, mapped(arg, f))
	}
	t.Args = args
	return t
}

// triples returns the structures t of any three of the leaves.
func triples(leaves ...api.Term) []api.Term {
	var l []api.Term
	for _, p := range leaves {
		for _, q := range leaves {
			for _, r := range leaves {
				l = append(l, s("t", p, q, r))
			}
		}
	}
	return l
}

// maker makes terms that look random, and are always the same ones.
type maker struct{ state uint64 }

func (m *maker) below(n int) int {
	m.state = m.state*6364136223846793005 + 1442695040888963407
	return int(m.state>>33) % n
}

func (m *maker) term(depth int) api.Term {
	numbers := []int64{0, 1, 2, 3, 7, 1 << 32, api.MaxVar - 1000, api.MaxVar / 2}
	names := []string{"a", "b", "", "[]", ".", "+", "f", "an atom"}
	switch kind := m.below(8); {
	case depth > 0 && kind > 5:
		return pair(m.term(depth-1), m.term(depth-1))
	case depth > 0 && kind > 2:
		var args []api.Term
		for range 1 + m.below(api.MaxArity) {
			args = append(args, m.term(depth-1))
		}
		return s(names[m.below(len(names))], args...)
	case kind == 2:
		return a(names[m.below(len(names))])
	case kind == 1:
		return i(numbers[m.below(len(numbers))] - 2)
	}
	return x(numbers[m.below(len(numbers))])
}

// edges are valid terms at the limits, or that are easily confused with others.
func edges() []api.Term {
	long := strings.Repeat("n", api.MaxName)
	distinct := empty()
	for n := range int64(999) {
		distinct = pair(x(3*(999-n)), distinct)
	}
	return []api.Term{
		x(0), x(1), x(api.MaxVar - 1), x(api.MaxVar), i(0), i(-1), i(math.MinInt64), i(math.MaxInt64), i(api.MaxVar + 1),
		a(""), a("0"), a("."), empty(), a(long), a(strings.Repeat("é", 50)), a(strings.Repeat("\xff", api.MaxName)),
		s("", i(0)), s(".", x(0)), s(".", x(0), x(1), x(2)), s(long, x(5)), s("f", x(1), x(2), x(3), x(4), x(5), x(6), x(7), x(8)),
		pair(x(0), x(0)), pair(x(api.MaxVar), x(0)), pair(pair(i(1), empty()), empty()), s("'[|]'", i(1), empty()),
		list(999, x(5), empty()), list(999, i(1), s("f", x(0))), chain(1999, x(2)), chain(1999, a("a")), bushy(1999), bushy(2000), distinct,
	}
}

// samples are valid terms: the edges, all small ones of some leaves, and others.
func samples() []api.Term {
	l := append(edges(), triples(x(0), x(1), x(9), i(0), i(1))...)
	m := &maker{state: 3}
	for len(l) < 1000 {
		if t := m.term(4); size(t) <= api.MaxSize/2 {
			l = append(l, t)
		}
	}
	return l
}

// endless returns a structure whose first argument is itself.
func endless(kind int) api.Term {
	t := api.Term{Kind: kind, Name: "f", Args: make([]api.Term, 2)}
	t.Args[0] = t
	return t
}

// doubled has 2^n leaves, which share their memory.
func doubled(n int) api.Term {
	t := a("a")
	for range n {
		args := []api.Term{t, t}
		t = s("f", args...)
	}
	return t
}

// tooLarge are the terms that are not valid because of their size alone.
func tooLarge() []api.Term {
	return []api.Term{list(1000, i(1), empty()), list(999, i(1), s("f", s("g", x(0)))), chain(2000, x(0)), bushy(2001),
		chain(2001, x(0)), list(3000, x(0), x(0)), chain(3000, x(0)), doubled(11), doubled(60), endless(api.KindStruct)}
}

// badNodes are nodes that no valid term has.
func badNodes() []api.Term {
	long := strings.Repeat("n", api.MaxName+1)
	nine := []api.Term{x(0), x(0), x(0), x(0), x(0), x(0), x(0), x(0), x(0)}
	one := []api.Term{a("a")}
	l := []api.Term{
		s("f"), {Kind: api.KindStruct, Name: "f", Args: []api.Term{}}, {Kind: api.KindStruct}, s("f", nine...), s("f", make([]api.Term, 3000)...),
		s(long, x(0)), a(long), a(strings.Repeat("é", 51)), a(strings.Repeat("n", 20000)),
		x(-1), x(api.MaxVar + 1), x(math.MinInt64), x(math.MaxInt64), x(1 << 32 * 256 * 2),
		{Kind: api.KindVar, Name: "X"}, {Kind: api.KindVar, N: 1, Args: one}, {Kind: api.KindVar, Args: nine[:8]},
		{Kind: api.KindInt, N: 1, Name: "1"}, {Kind: api.KindInt, N: 1, Args: one},
		{Kind: api.KindAtom, Name: "a", N: 1}, {Kind: api.KindAtom, Name: "a", N: -1}, {Kind: api.KindAtom, Name: "a", N: 1 << 32},
		{Kind: api.KindAtom, Name: "a", Args: one}, {Kind: api.KindAtom, Name: "a", Args: []api.Term{s("f")}}, endless(api.KindAtom),
		{Kind: api.KindStruct, Name: "f", N: 1, Args: one}, {Kind: api.KindStruct, Name: "f", N: math.MinInt64, Args: one},
	}
	for _, kind := range []int{-1, 4, 5, 255, 256, 257, 259, 1 << 32, 1<<32 + 1, 1<<32 + 3, math.MinInt, math.MaxInt} {
		l = append(l, api.Term{Kind: kind}, api.Term{Kind: kind, N: 1}, api.Term{Kind: kind, Name: "a"}, api.Term{Kind: kind, Name: "f", Args: one})
	}
	return l
}

// around returns terms with a node in different places.
func around(node api.Term) []api.Term {
	l := []api.Term{node, chain(1, node), chain(500, node), list(300, i(1), node), list(300, i(1), pair(node, empty())), pair(node, list(300, i(1), empty())),
		s("g", x(0), s("h", a("b"), s("k", i(1), node)), x(1))}
	for arity := 1; arity <= api.MaxArity; arity++ {
		for place := range arity {
			args := make([]api.Term, arity)
			args[place] = node
			l = append(l, s("g", args...))
		}
	}
	return l
}

// invalid are terms that are not valid, for all reasons in all places.
func invalid() []api.Term {
	l := tooLarge()
	for _, node := range append(badNodes(), endless(api.KindStruct)) {
		l = append(l, around(node)...)
	}
	return l
}

// isNothing reports an error unless a result is the zero Term.
func isNothing(t *testing.T, call string, r api.Term) {
	t.Helper()
	if r.Kind != 0 || r.N != 0 || r.Name != "" || len(r.Args) != 0 {
		t.Errorf("%s returns %s", call, show(r))
	}
}

// is reports an error unless a result is the term that is wanted.
func is(t *testing.T, call string, r, want api.Term) {
	t.Helper()
	if !same(r, want) {
		t.Errorf("%s is %s, not %s", call, show(r), show(want))
	}
}
