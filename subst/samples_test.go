package subst_test

import (
	"math"
	"slices"
	"strconv"
	"strings"
	"testing"

	"hornbeam/api"
)

func x(n int64) api.Term { return api.Term{Kind: api.KindVar, N: n} }

func num(n int64) api.Term { return api.Term{Kind: api.KindInt, N: n} }

func atom(name string) api.Term { return api.Term{Kind: api.KindAtom, Name: name} }

func fun(name string, args ...api.Term) api.Term {
	return api.Term{Kind: api.KindStruct, Name: name, Args: args}
}

func to(v int64, t api.Term) api.Binding { return api.Binding{Var: v, To: t} }

// reader reads the notation of the tests: X5 is a variable, -7 an integer, f(a, X0) a structure, and every other word an atom.
type reader struct{ rest string }

func (r *reader) skip(mark string) bool {
	after, found := strings.CutPrefix(strings.TrimLeft(r.rest, " "), mark)
	if found {
		r.rest = after
	}
	return found
}

func (r *reader) word() string {
	r.skip("")
	end := strings.IndexAny(r.rest+" ", " (),;=")
	word := r.rest[:end]
	r.rest = r.rest[end:]
	return word
}

func (r *reader) term() api.Term {
	word := r.word()
	if n, err := strconv.ParseInt(word, 10, 64); err == nil {
		return num(n)
	}
	if n, err := strconv.ParseInt(strings.TrimPrefix(word, "X"), 10, 64); err == nil {
		return x(n)
	}
	if !r.skip("(") {
		return atom(word)
	}
	t := fun(word, r.term())
	for r.skip(",") {
		t.Args = append(t.Args, r.term())
	}
	if !r.skip(")") {
		panic("a parenthesis is missing before " + r.rest)
	}
	return t
}

// read reads a term.
func read(text string) api.Term {
	r := &reader{text}
	t := r.term()
	if r.rest != "" {
		panic(r.rest + " is left")
	}
	return t
}

// binds reads bindings, such as X0 = f(X1); X1 = a.
func binds(text string) []api.Binding {
	var s []api.Binding
	r := &reader{text}
	for r.rest != "" {
		v := r.term()
		if v.Kind != api.KindVar || !r.skip("=") {
			panic("no binding before " + r.rest)
		}
		s = append(s, to(v.N, r.term()))
		r.skip(";")
	}
	return s
}

// write is the opposite of read.
func write(t api.Term) string {
	switch t.Kind {
	case api.KindVar:
		return "X" + strconv.FormatInt(t.N, 10)
	case api.KindInt:
		return strconv.FormatInt(t.N, 10)
	case api.KindAtom:
		return t.Name
	}
	var args []string
	for _, arg := range t.Args {
		args = append(args, write(arg))
	}
	return t.Name + "(" + strings.Join(args, ", ") + ")"
}

// show is a text for messages about valid terms.
func show(t api.Term) string {
	text := write(t)
	if len(text) > 80 {
		return text[:80] + ".."
	}
	return text
}

// showAll is a text for messages about valid bindings.
func showAll(s []api.Binding) string {
	var parts []string
	for _, b := range s[:min(len(s), 8)] {
		parts = append(parts, show(x(b.Var))+" = "+show(b.To))
	}
	return strconv.Itoa(len(s)) + " bindings (" + strings.Join(parts, "; ") + ")"
}

// same compares all fields.
func same(a, b api.Term) bool {
	return a.Kind == b.Kind && a.N == b.N && a.Name == b.Name && slices.EqualFunc(a.Args, b.Args, same)
}

func sameAll(r, s []api.Binding) bool {
	return slices.EqualFunc(r, s, func(a, b api.Binding) bool { return a.Var == b.Var && same(a.To, b.To) })
}

// is reports an error unless a result is the term that is wanted.
func is(t *testing.T, call string, r, want api.Term) {
	t.Helper()
	if !same(r, want) {
		t.Errorf("%s is %s, not %s", call, show(r), show(want))
	}
}

func size(t api.Term) int {
	n := 1
	for _, arg := range t.Args {
		n += size(arg)
	}
	return n
}

// replaced is a term with each variable replaced.
func replaced(t api.Term, by func(n int64) api.Term) api.Term {
	if t.Kind == api.KindVar {
		return by(t.N)
	}
	var args []api.Term
	for _, arg := range t.Args {
		args = append(args, replaced(arg, by))
	}
	t.Args = args
	return t
}

// vars are the variables of a term, each once.
func vars(t api.Term) []int64 {
	var l []int64
	replaced(t, func(n int64) api.Term {
		if !slices.Contains(l, n) {
			l = append(l, n)
		}
		return x(n)
	})
	return l
}

// chain has n nodes, and those of the leaf, n levels below the top.
func chain(n int, leaf api.Term) api.Term {
	for range n {
		leaf = fun("f", leaf)
	}
	return leaf
}

// list has 2 nodes for each of its n elements, and those of the tail.
func list(n int, element, tail api.Term) api.Term {
	for range n {
		tail = fun(".", element, tail)
	}
	return tail
}

// row binds the n variables from from on, each to a term made from the next one.
func row(from int64, n int, build func(next api.Term) api.Term) []api.Binding {
	var s []api.Binding
	for v := from; v < from+int64(n); v++ {
		s = append(s, to(v, build(x(v+1))))
	}
	return s
}

// double makes a row of n bindings whose first variable becomes a term of 2^n leaves, and 2^(n+1) - 1 nodes.
func double(from int64, n int) []api.Binding {
	return row(from, n, func(next api.Term) api.Term { return fun("d", next, next) })
}

// one makes a row of variables.
func one(next api.Term) api.Term { return next }

// numbers are numbers of variables that are easily confused if they are cut off, increasing.
func numbers() []int64 {
	return []int64{0, 1, 2, 3, 4, 255, 256, 1<<31 - 1, 1 << 31, 1 << 32, 1<<32 + 1, 1<<32 + 2, api.MaxVar - 1, api.MaxVar}
}

// maker makes things that look random, and are always the same ones.
type maker struct{ state uint64 }

func (m *maker) below(n int) int {
	m.state = m.state*6364136223846793005 + 1442695040888963407
	return int(m.state>>33) % n
}

// term makes a term with some of the variables.
func (m *maker) term(depth int, variables []int64) api.Term {
	if depth == 0 || m.below(3) == 0 {
		if len(variables) > 0 && m.below(3) > 0 {
			return x(variables[m.below(len(variables))])
		}
		return []api.Term{atom("a"), atom("b"), num(0), num(1)}[m.below(4)]
	}
	var args []api.Term
	for range 1 + m.below(3) {
		args = append(args, m.term(depth-1, variables))
	}
	return fun([]string{"f", "g"}[m.below(2)], args...)
}

// shuffled returns the elements in another order.
func (m *maker) shuffled(l []int64) []int64 {
	l = slices.Clone(l)
	for at := range l {
		with := at + m.below(len(l)-at)
		l[at], l[with] = l[with], l[at]
	}
	return l
}

// changed makes a term that differs from t in some of its parts.
func (m *maker) changed(t api.Term, variables []int64) api.Term {
	if m.below(6) == 0 {
		return m.term(1, variables)
	}
	var args []api.Term
	for _, arg := range t.Args {
		args = append(args, m.changed(arg, variables))
	}
	t.Args = args
	return t
}

// bindings makes valid bindings of some of the variables: each variable depends on those alone that come after it in some order.
func (m *maker) bindings(depth int, variables []int64) []api.Binding {
	order := m.shuffled(variables)
	var s []api.Binding
	for at, v := range order {
		if m.below(2) == 0 {
			s = append(s, to(v, m.term(m.below(depth+1), order[at+1:])))
		}
	}
	return with(s)
}

// variables draws up to n numbers of variables.
func (m *maker) variables(n int) []int64 {
	return m.shuffled(numbers())[:1+m.below(n)]
}

// with returns all bindings in the order of their variables, in new memory.
func with(s []api.Binding, more ...api.Binding) []api.Binding {
	s = slices.Concat(s, more)
	slices.SortFunc(s, func(a, b api.Binding) int {
		if a.Var < b.Var {
			return -1
		}
		return 1
	})
	return s
}

// bound looks a variable up in the plainest way.
func bound(s []api.Binding, v int64) (api.Term, bool) {
	for _, b := range s {
		if b.Var == v {
			return b.To, true
		}
	}
	return api.Term{}, false
}

// resolved resolves a term by the words of the definition, whatever its size.
func resolved(s []api.Binding, t api.Term) api.Term {
	return replaced(t, func(n int64) api.Term {
		if by, ok := bound(s, n); ok {
			return resolved(s, by)
		}
		return x(n)
	})
}

// endless is a structure whose first argument is itself.
func endless() api.Term {
	t := fun("f", atom("a"), atom("a"))
	t.Args[0] = t
	return t
}

// badNodes are terms that are not valid.
func badNodes() []api.Term {
	long := strings.Repeat("n", api.MaxName+1)
	args := []api.Term{atom("a")}
	return []api.Term{x(-1), x(api.MaxVar + 1), x(math.MinInt64), x(math.MaxInt64), {Name: "X"}, {Args: args}, {Kind: api.KindInt, Name: "1"}, {Kind: api.KindInt, N: 1, Args: args},
		{Kind: api.KindAtom, Name: "a", N: 1}, {Kind: api.KindAtom, Name: "a", Args: args}, atom(long),
		fun("f"), fun(long, args...), fun("f", make([]api.Term, api.MaxArity+1)...), {Kind: api.KindStruct, Name: "f", N: 1, Args: args},
		{Kind: -1}, {Kind: 4}, {Kind: 5, Name: "a"}, {Kind: 1 << 32}, {Kind: math.MinInt}, {Kind: math.MaxInt, Name: "f", Args: args},
		chain(api.MaxSize, x(0)), list(1000, x(0), atom("[]")), endless()}
}

// invalid are terms that are not valid, some of them deep inside.
func invalid() []api.Term {
	l := badNodes()
	for _, node := range badNodes() {
		l = append(l, fun("f", node), fun("f", x(0), node), fun("f", node, x(0)), fun("f", atom("a"), fun("g", num(1), fun("h", node, x(0)))))
	}
	return append(l, fun("f", chain(1998, x(0)), atom("a")), fun("f", chain(1000, x(0)), chain(1000, x(0))))
}

// invalidBindings are bindings that are not valid, for all reasons.
func invalidBindings() [][]api.Binding {
	a := atom("a")
	l := [][]api.Binding{
		{to(-1, a)}, {to(api.MaxVar+1, a)}, {to(math.MinInt64, a)}, {to(math.MaxInt64, a)}, {to(-1, a), to(0, a)}, {to(0, a), to(api.MaxVar+1, a)},
		{to(1, a), to(0, a)}, {to(1, a), to(1, a)}, {to(0, a), to(2, a), to(1, a)}, {to(0, a), to(1, a), to(1, a)}, {to(0, a), to(0, a), to(1, a)}, {to(3, a), to(4, a), to(0, a)},
		{to(1<<32+1, a), to(2, a)}, {to(0, a), to(1, a), to(-1, a)},
		binds("X0 = X0"), binds("X0 = a; X7 = f(X7)"), binds("X0 = X1; X1 = X0"), binds("X0 = f(a, g(X1)); X1 = h(b, X0)"), binds("X0 = X1; X1 = X2; X2 = X0"), binds("X0 = X1; X1 = X1; X2 = a"),
	}
	for _, t := range invalid() {
		l = append(l, []api.Binding{to(0, t)}, []api.Binding{to(0, a), to(1, t)}, []api.Binding{to(1, t), to(2, a)}, []api.Binding{to(5, x(6)), to(6, t), to(7, a)})
	}
	return l
}
