package flags_test

import (
	"fmt"
	"math"
	"slices"
	"strings"
	"testing"

	"hornbeam/api"
	"hornbeam/flags"
	"hornbeam/ops"
	"hornbeam/term"
)

// The terms of the tests need not be valid, so they are made without package term.
func x(n int64) api.Term { return api.Term{Kind: api.KindVar, N: n} }

func i(n int64) api.Term { return api.Term{Kind: api.KindInt, N: n} }

func a(name string) api.Term { return api.Term{Kind: api.KindAtom, Name: name} }

func s(name string, args ...api.Term) api.Term {
	return api.Term{Kind: api.KindStruct, Name: name, Args: args}
}

func empty() api.Term { return a("[]") }

// list has the tail behind its elements.
func list(tail api.Term, elements ...api.Term) api.Term {
	for _, element := range slices.Backward(elements) {
		tail = s(".", element, tail)
	}
	return tail
}

// atoms is the list of the atoms with some names.
func atoms(names ...string) api.Term {
	var l []api.Term
	for _, name := range names {
		l = append(l, a(name))
	}
	return list(empty(), l...)
}

// chain has n nodes more than the leaf.
func chain(n int, leaf api.Term) api.Term {
	for range n {
		leaf = s("f", leaf)
	}
	return leaf
}

func many(n int, t api.Term) []api.Term { return slices.Repeat([]api.Term{t}, n) }

// The error terms that are wanted. A culprit that leaves no room for the rest is replaced.
func errorOf(name string, culprit api.Term, words ...string) api.Term {
	var args []api.Term
	for _, word := range words {
		args = append(args, a(word))
	}
	if size(culprit)+len(words)+3 > 2000 {
		culprit = a("...")
	}
	return s("error", s(name, append(args, culprit)...), empty())
}

func inst() api.Term { return s("error", a("instantiation_error"), empty()) }

func typeError(kind string, culprit api.Term) api.Term { return errorOf("type_error", culprit, kind) }

func domainError(kind string, culprit api.Term) api.Term {
	return errorOf("domain_error", culprit, kind)
}

func permissionError(action, kind string, culprit api.Term) api.Term {
	return errorOf("permission_error", culprit, action, kind)
}

func size(t api.Term) int {
	n := 1
	for _, arg := range t.Args {
		n += size(arg)
	}
	return n
}

// same compares all fields of terms that have an end.
func same(a, b api.Term) bool {
	return a.Kind == b.Kind && a.N == b.N && a.Name == b.Name && slices.EqualFunc(a.Args, b.Args, same)
}

func sameSyntax(a, b api.Syntax) bool {
	return slices.Equal(a.Ops, b.Ops) && a.Flags == b.Flags && slices.Equal(a.Conv, b.Conv)
}

// show is a text for messages about any term, also one without an end.
func show(t api.Term) string {
	n := term.Size(t)
	switch {
	case n > 60 || !term.Valid(t):
		return fmt.Sprintf("a term of kind %d with N %d, a name of %d bytes, %d arguments and %d nodes", t.Kind, t.N, len(t.Name), len(t.Args), n)
	case t.Kind == api.KindVar:
		return fmt.Sprintf("X%d", t.N)
	case t.Kind == api.KindInt:
		return fmt.Sprint(t.N)
	case t.Kind == api.KindAtom:
		return fmt.Sprintf("%q", t.Name)
	}
	var args []string
	for _, arg := range t.Args {
		args = append(args, show(arg))
	}
	return fmt.Sprintf("%q(%s)", t.Name, strings.Join(args, ", "))
}

func showSyntax(s api.Syntax) string {
	return fmt.Sprintf("a syntax with %d operators, the flags %v and the conversion %v", len(s.Ops), s.Flags, s.Conv)
}

// outcome is what Call returns.
type outcome struct {
	syntax  api.Syntax
	answers []api.Term
	ball    api.Term
	e       api.Errno
}

func (o outcome) String() string {
	var answers []string
	for _, answer := range o.answers[:min(len(o.answers), 5)] {
		answers = append(answers, show(answer))
	}
	return fmt.Sprintf("%s, %d answers %v, the ball %s, %v", showSyntax(o.syntax), len(o.answers), answers, show(o.ball), o.e)
}

// listed, raised and failed are outcomes with answers, a ball, and another error.
func listed(s api.Syntax, answers ...api.Term) outcome { return outcome{syntax: s, answers: answers} }

func raised(ball api.Term) outcome { return outcome{ball: ball, e: api.ErrBall} }

func failed(e api.Errno) outcome { return outcome{e: e} }

func call(s api.Syntax, goal api.Term) outcome {
	t, answers, ball, e := flags.Call(s, goal)
	return outcome{t, answers, ball, e}
}

func sameOutcome(a, b outcome) bool {
	return sameSyntax(a.syntax, b.syntax) && slices.EqualFunc(a.answers, b.answers, same) && same(a.ball, b.ball) && a.e == b.e
}

// gives reports an error unless a call has the outcome that is wanted.
func gives(t *testing.T, s api.Syntax, goal api.Term, want outcome) {
	t.Helper()
	if got := call(s, goal); !sameOutcome(got, want) {
		t.Errorf("%s in %s: %v; not %v", show(goal), showSyntax(s), got, want)
	}
}

// does calls a goal that has itself as its only answer, and returns the new syntax.
func does(t *testing.T, s api.Syntax, goal api.Term) api.Syntax {
	t.Helper()
	got := call(s, goal)
	if got.e != api.OK || len(got.answers) != 1 || !same(got.answers[0], goal) || !same(got.ball, api.Term{}) {
		t.Errorf("%s in %s: %v", show(goal), showSyntax(s), got)
	}
	return got.syntax
}

// validFlags are all flags that are valid.
func validFlags() []api.Flags {
	var l []api.Flags
	for _, quotes := range []int{1, 2, 3} {
		for _, unknown := range []int{1, 2} {
			for _, conversion := range []bool{false, true} {
				for _, debug := range []bool{false, true} {
					l = append(l, api.Flags{Quotes: quotes, Unknown: unknown, Conversion: conversion, Debug: debug})
				}
			}
		}
	}
	return l
}

// far has integers outside every range, some of which a shorter integer type would take for small ones.
func far() []int {
	return []int{math.MinInt, -1 << 32, -1<<32 + 1, -256 + 2, -2, -1, 0, 4, 5, 256 + 1, 256 + 2, 1<<16 + 1, 1<<32 + 1, 1<<32 + 2, math.MaxInt}
}

// invalidFlags have a field, or both, that is not valid.
func invalidFlags() []api.Flags {
	l := []api.Flags{{Quotes: 1, Unknown: 3}, {Quotes: 3, Unknown: 3}, {}}
	for _, f := range validFlags() {
		for _, n := range far() {
			g, h := f, f
			g.Quotes, h.Unknown = n, n
			l = append(l, g, h, api.Flags{Quotes: n, Unknown: n, Conversion: f.Conversion, Debug: f.Debug})
		}
	}
	return l
}

func o(prec, typ int, name string) api.Op { return api.Op{Name: name, Type: typ, Prec: prec} }

// manyOps is a table of n operators.
func manyOps(n int) []api.Op {
	var l []api.Op
	for at := range n {
		l = append(l, o(1+at, 1+at%7, fmt.Sprintf("x%03d", at)))
	}
	return l
}

func validTables() [][]api.Op {
	return [][]api.Op{ops.Default(), nil, {o(1000, api.XFY, ","), o(1, api.FX, "a"), o(2, api.XFX, "a"), o(1200, api.YF, "in"), o(1001, api.YFX, "|")},
		{o(1200, api.FY, ""), o(1, api.XF, "")}, manyOps(98), manyOps(99), manyOps(100)}
}

func invalidTables() [][]api.Op {
	return [][]api.Op{{o(0, api.FY, "a")}, {o(1201, api.FY, "a")}, {o(700, 0, "a")}, {o(700, 8, "a")}, {o(700, api.FY, "[]")}, {o(999, api.XFY, ",")}, {o(1000, api.XFY, "|")},
		{o(1, api.XFX, "a"), o(1, api.XF, "a")}, {o(1, api.FX, "b"), o(1, api.FX, "a")}, manyOps(101), append(manyOps(5), o(1, api.FX, strings.Repeat("y", 101)))}
}

// allPairs is the conversion table without a character that stands for itself.
func allPairs() []api.Pair {
	var l []api.Pair
	for c := range 256 {
		l = append(l, api.Pair{From: c, To: 255 - c})
	}
	return l
}

func validConversions() [][]api.Pair {
	return [][]api.Pair{nil, {{From: 'a', To: 'b'}}, {{From: 0, To: 255}, {From: 'a', To: 'b'}, {From: 'b', To: 'a'}, {From: 0xe9, To: 'e'}, {From: 255, To: 0}}, allPairs()}
}

func invalidConversions() [][]api.Pair {
	return [][]api.Pair{{{From: 'a', To: 'a'}}, {{From: -1, To: 'a'}}, {{From: 'a', To: 256}}, {{From: 256, To: 'a'}}, {{From: 'b', To: 'a'}, {From: 'a', To: 'b'}}, {{From: 'a', To: 'b'}, {From: 'a', To: 'c'}},
		append(allPairs(), api.Pair{From: 256, To: 0})}
}

// start is the initial syntax, and plain a small one.
func start() api.Syntax {
	return api.Syntax{Ops: ops.Default(), Flags: api.Flags{Quotes: 1, Unknown: 1}}
}

func plain() api.Syntax {
	return api.Syntax{Ops: []api.Op{o(1, api.FX, "a")}, Flags: api.Flags{Quotes: 2, Unknown: 2, Conversion: true, Debug: true}, Conv: []api.Pair{{From: 'a', To: 'b'}}}
}

// syntaxes have each table, each conversion table and all flags, but not all combinations of them.
func syntaxes() []api.Syntax {
	l := []api.Syntax{start(), plain()}
	for at, f := range validFlags() {
		for table, ops := range validTables() {
			conversions := validConversions()
			l = append(l, api.Syntax{Ops: ops, Flags: f, Conv: conversions[(at+table)%len(conversions)]})
		}
	}
	return l
}

// invalidSyntaxes have one part that is not valid, or more.
func invalidSyntaxes() []api.Syntax {
	var l []api.Syntax
	for _, good := range []api.Syntax{start(), plain()} {
		for _, table := range invalidTables() {
			l = append(l, api.Syntax{Ops: table, Flags: good.Flags, Conv: good.Conv})
		}
		for _, f := range invalidFlags() {
			l = append(l, api.Syntax{Ops: good.Ops, Flags: f, Conv: good.Conv})
		}
		for _, pairs := range invalidConversions() {
			l = append(l, api.Syntax{Ops: good.Ops, Flags: good.Flags, Conv: pairs})
		}
	}
	return append(l, api.Syntax{}, api.Syntax{Ops: invalidTables()[0], Conv: invalidConversions()[0]})
}

// names are names of atoms, some of which a conversion would change, or that are a character, or that differ little from names with a meaning.
func names() []string {
	return []string{"", "a", "b", "A", "1", "\x00", " ", "\x7f", "\x80", "\xff", "[]", "{}", ",", "|", "ab", "é", "€", "in", "is", "+", "foo", "on", "off", "On", "true", "false", "codes", "error", "fail", "xfx", "x", "8", "debug ", "Debug", "debu", "unknow", "unknown\x00",
		strings.Repeat("n", 99), strings.Repeat("n", 100), strings.Repeat("\xff", 100)}
}

// others are valid terms that are not atoms, and whose variables are numbered from 0.
func others() []api.Term {
	return []api.Term{x(0), i(0), i(1), i(8), i(97), i(-1), i(math.MaxInt64), i(math.MinInt64), s("on", a("on")), s("on", x(0)), s("a", x(0)), s("debug", i(1)), s("xfx", i(1)), s(".", a("a"), x(0)), s(".", a("a"), empty()),
		s("[]", x(0)), s("", i(1)), s("f", x(0), s("g", x(1), x(0)))}
}

// endless is a term whose first argument is itself.
func endless(kind int, name string) api.Term {
	t := api.Term{Kind: kind, Name: name, Args: many(3, a("a"))}
	t.Args[0] = t
	return t
}

// badNodes are terms that are not valid.
func badNodes() []api.Term {
	long := strings.Repeat("n", 101)
	l := []api.Term{x(-1), x(api.MaxVar + 1), {Name: "X"}, {N: 0, Args: many(1, a("a"))}, {Kind: api.KindInt, Name: "1"}, {Kind: api.KindInt, Args: many(1, a("a"))}, {Kind: api.KindAtom, Name: "on", N: 1}, {Kind: api.KindAtom, Name: "on", Args: many(1, a("a"))},
		{Kind: api.KindAtom, Name: "op", Args: []api.Term{i(700), a("xfx"), a("in")}}, {Kind: api.KindVar, Name: "op", Args: []api.Term{i(700), a("xfx"), a("in")}},
		a(long), s("on"), s("op"), s(long, a("a")), s("f", many(9, a("a"))...), {Kind: api.KindStruct, Name: "op", N: 1, Args: []api.Term{i(700), a("xfx"), a("in")}},
		chain(2000, a("a")), chain(2000, x(0)), list(empty(), many(1000, a("a"))...), endless(api.KindStruct, "op"), endless(api.KindAtom, "on")}
	for _, kind := range []int{-1, 4, 256, 257, 258, 259, 1 << 32, 1<<32 + 2, 1<<32 + 3, math.MinInt, math.MaxInt} {
		l = append(l, api.Term{Kind: kind}, api.Term{Kind: kind, Name: "on"}, api.Term{Kind: kind, Name: "op", Args: []api.Term{i(700), a("xfx"), a("in")}})
	}
	return l
}
