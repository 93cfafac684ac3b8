package order_test

import (
	"encoding/binary"
	"fmt"
	"math"
	"slices"
	"strings"

	"hornbeam/api"
	"hornbeam/term"
)

func x(n int64) api.Term { return term.Var(n) }

func num(n int64) api.Term { return term.Int(n) }

func atom(name string) api.Term { return term.Atom(name) }

func fun(name string, args ...api.Term) api.Term { return term.Struct(name, args...) }

func pair(key, value api.Term) api.Term { return fun("-", key, value) }

// raw is a structure that need not be valid.
func raw(name string, args ...api.Term) api.Term {
	return api.Term{Kind: api.KindStruct, Name: name, Args: args}
}

// code is the definition of the standard order: a term comes before another one if its code, byte by byte, does. No code is the beginning of another one.
func code(t api.Term) string { return string(appendCode(nil, t)) }

func appendCode(b []byte, t api.Term) []byte {
	b = append(b, byte(t.Kind))
	switch t.Kind {
	case api.KindVar:
		return binary.BigEndian.AppendUint64(b, uint64(t.N))
	case api.KindInt:
		return binary.BigEndian.AppendUint64(b, uint64(t.N)^1<<63)
	case api.KindStruct:
		b = append(b, byte(len(t.Args)))
	}
	for at := range len(t.Name) {
		b = append(b, 1, t.Name[at])
	}
	b = append(b, 0)
	for _, arg := range t.Args {
		b = appendCode(b, arg)
	}
	return b
}

func codes(l []api.Term) []string {
	var c []string
	for _, t := range l {
		c = append(c, code(t))
	}
	return c
}

// show is a text for messages.
func show(terms ...api.Term) string {
	text := fmt.Sprintf("%.200v", terms)
	return text[:min(len(text), 400)]
}

// showAny shows a term that need not be valid, and may have no end.
func showAny(t api.Term) string {
	return fmt.Sprintf("a term of kind %d, N %d, a name of %d bytes, %d arguments and size %d", t.Kind, t.N, len(t.Name), len(t.Args), term.Size(t))
}

// chain is a leaf, n levels below the top.
func chain(n int, leaf api.Term) api.Term {
	for range n {
		leaf = raw("f", leaf)
	}
	return leaf
}

// list has n elements a, and a tail.
func list(n int, tail api.Term) api.Term {
	for range n {
		tail = raw(".", atom("a"), tail)
	}
	return tail
}

// numbers are increasing, and lie where another type of number would not tell them apart, or would change their signs.
func numbers() []int64 {
	return []int64{math.MinInt64, math.MinInt64 + 1, -1<<53 - 1, -1 << 53, -1<<32 - 1, -1 << 32, -1<<31 - 1, -1 << 31, -256, -10, -9, -1,
		0, 1, 2, 9, 10, 127, 128, 255, 256, 1 << 31, 1<<32 - 1, 1 << 32, 1<<32 + 1, 1 << 53, 1<<53 + 1, math.MaxInt64 - 1, math.MaxInt64}
}

// varNumbers are increasing.
func varNumbers() []int64 {
	return []int64{0, 1, 2, 9, 10, 127, 128, 255, 256, 1<<31 - 1, 1 << 31, 1 << 32, 1<<32 + 1, api.MaxVar - 1, api.MaxVar}
}

// names are increasing: a name comes after its prefixes, capitals before _ before small letters, and bytes above 127 last.
func names() []string {
	n, y := strings.Repeat("n", api.MaxName-1), strings.Repeat("\xff", api.MaxName-1)
	return []string{"", "\x00", "\x00\x00", "\x00\xff", "\x01", "\n", " ", "!", "+", "-", "--", ".", "0", "00", "1", "10", "2", "9",
		"A", "AZ", "Aa", "B", "Z", "[]", "_", "a", "a\x00", "a\x00b", "a ", "aA", "aB", "aa", "aaa", "aab", "ab", "aba", "a\x7f", "a\x80", "a\xff",
		"b", "ba", "f", n, n + "\x00", n + "N", n + "n", n + "\x80", n + "\xff", "z", "zz", "~", "\x7f", "\x80", "\x80a", "\xc3", "é", "éa", "ÿ", "\xff", "\xff\x00", "\xffz", y, y + "\xff"}
}

// vectors are increasing lists of arguments, compared from left to right: all are m but one, and maybe those after it.
func vectors(arity int) [][]api.Term {
	var before, after [][]api.Term
	others := []api.Term{num(5), atom("m"), fun("a", x(0))}
	for at := range arity {
		var low, high [][]api.Term
		for _, rest := range others {
			if at == arity-1 && len(low) > 0 {
				break
			}
			same := slices.Repeat([]api.Term{atom("m")}, at)
			behind := slices.Repeat([]api.Term{rest}, arity-at-1)
			low = append(low, slices.Concat(same, []api.Term{num(5)}, behind))
			high = append(high, slices.Concat(same, []api.Term{fun("a", x(0))}, behind))
		}
		before = slices.Concat(before, low)
		after = slices.Concat(high, after)
	}
	return slices.Concat(before, [][]api.Term{slices.Repeat([]api.Term{atom("m")}, arity)}, after)
}

// ladder is increasing. All of it follows from the words of the definition.
func ladder() []api.Term {
	var l []api.Term
	for _, n := range varNumbers() {
		l = append(l, x(n))
	}
	for _, n := range numbers() {
		l = append(l, num(n))
	}
	for _, name := range names() {
		l = append(l, atom(name))
	}
	for arity := 1; arity <= api.MaxArity; arity++ {
		for _, name := range []string{"", "f", "fa", "\xff"} {
			for _, args := range vectors(arity) {
				l = append(l, fun(name, args...))
			}
		}
	}
	return l
}

// leaves are a few different terms without arguments, increasing.
func leaves() []api.Term {
	return []api.Term{x(0), x(1), num(-1), num(0), atom(""), atom("a"), atom("ab"), atom("b")}
}

// few are different terms that are not increasing.
func few() []api.Term {
	return []api.Term{fun("g", atom("a")), atom("b"), x(1), num(7), fun("f", x(0), x(1)), atom("a"), fun("f", x(1)), x(0), num(-7), fun("f", x(0)), fun("f", x(0), x(0)), atom("ab")}
}

// large are valid terms with at most MaxSize nodes, which differ at their ends.
func large() []api.Term {
	return []api.Term{chain(1999, x(0)), chain(1999, x(1)), chain(1999, atom("a")), chain(1998, atom("a")), chain(1998, fun("g", x(0))),
		list(999, x(0)), list(999, atom("[]")), list(999, atom("a")), list(999, fun("f", atom("a"))), list(500, num(1)), list(1, num(2)), list(1, list(1, num(1)))}
}

// maker makes terms that look random, and are always the same ones.
type maker struct{ state uint64 }

func (m *maker) below(n int) int {
	m.state = m.state*6364136223846793005 + 1442695040888963407
	return int(m.state>>33) % n
}

func (m *maker) term(depth int) api.Term {
	if depth == 0 || m.below(4) == 0 {
		switch m.below(3) {
		case 0:
			return x(varNumbers()[m.below(len(varNumbers()))])
		case 1:
			return num(numbers()[m.below(len(numbers()))])
		}
		return atom(names()[m.below(len(names()))])
	}
	args := make([]api.Term, 1+m.below(3))
	for at := range args {
		args[at] = m.term(depth - 1)
	}
	return fun([]string{"", "-", "f", "fa"}[m.below(4)], args...)
}

// shuffled returns the elements in another order.
func (m *maker) shuffled(l []api.Term) []api.Term {
	l = slices.Clone(l)
	for at := range l {
		to := at + m.below(len(l)-at)
		l[at], l[to] = l[to], l[at]
	}
	return l
}

// draw returns n of the elements, maybe some of them repeatedly.
func (m *maker) draw(n int, l []api.Term) []api.Term {
	var d []api.Term
	for range n {
		d = append(d, l[m.below(len(l))])
	}
	return d
}

// samples are terms of all sorts.
func samples() []api.Term {
	m := &maker{state: 4}
	l := slices.Concat(few(), leaves(), large())
	for len(l) < 300 {
		l = append(l, m.term(3))
	}
	return l
}

// lists are lists of valid terms: none, a few and many elements, with and without identical ones.
func lists() [][]api.Term {
	m := &maker{state: 44}
	all := [][]api.Term{nil, {}, {atom("a")}, {x(1), x(0)}, {atom("b"), atom("b")}, {num(1), atom("a"), num(1)}, few(), leaves(), m.shuffled(ladder()), large(), samples(),
		slices.Repeat([]api.Term{fun("f", x(0))}, 50), slices.Repeat(few(), 20), slices.Repeat([]api.Term{num(1), num(2)}, 3000)}
	for _, n := range []int{3, 5, 8, 12, 13, 20, 21, 50, 200, 1000} {
		all = append(all, m.draw(n, leaves()), m.draw(n, few()), m.draw(n, ladder()), m.draw(n, []api.Term{num(0), num(1)}), m.draw(n, samples()[len(few()):200]))
	}
	return all
}

// endless is a structure whose first argument is itself.
func endless() api.Term {
	t := raw("-", atom("a"), atom("a"))
	t.Args[0] = t
	return t
}

// invalid are terms that are not valid.
func invalid() []api.Term {
	long := strings.Repeat("n", api.MaxName+1)
	one := []api.Term{atom("a")}
	nodes := []api.Term{{N: -1}, {N: api.MaxVar + 1}, {Name: "X"}, {Args: one}, {Kind: api.KindInt, Name: "1"}, {Kind: api.KindInt, N: 1, Args: one},
		{Kind: api.KindAtom, Name: "a", N: 1}, {Kind: api.KindAtom, Name: "a", Args: one}, {Kind: api.KindAtom, Name: long},
		raw("f"), raw("-"), raw(long, one...), raw("f", make([]api.Term, api.MaxArity+1)...), {Kind: api.KindStruct, Name: "f", N: 1, Args: one},
		{Kind: api.KindStruct, Name: "-", N: 1, Args: []api.Term{one[0], one[0]}},
		{Kind: -1}, {Kind: 4}, {Kind: 9}, {Kind: 1 << 32}, {Kind: math.MinInt}, {Kind: math.MaxInt, Name: "-", Args: []api.Term{one[0], one[0]}},
		chain(api.MaxSize, x(0)), list(1000, atom("[]")), endless()}
	l := slices.Clone(nodes)
	for _, node := range nodes {
		l = append(l, raw("f", node), raw("-", node, atom("a")), raw("-", atom("a"), node), raw("-", atom("a"), raw("g", num(1), raw("h", node, x(0)))))
	}
	return append(l, raw("-", chain(1997, x(0)), atom("a"), atom("a")), raw("-", chain(1000, x(0)), chain(1000, x(0))))
}
