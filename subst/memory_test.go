package subst_test

import (
	"reflect"
	"testing"

	"hornbeam/api"
	"hornbeam/subst"
)

// roomy is a copy of terms with spare capacity behind all arguments, even where there are none, which nobody may use.
func roomy(l []api.Term) []api.Term {
	room := make([]api.Term, len(l)+2)
	for at := range room {
		room[at] = atom("spare")
		if at < len(l) {
			room[at] = l[at]
			room[at].Args = roomy(l[at].Args)
		}
	}
	return room[:len(l)]
}

// roomyAll is the same for bindings.
func roomyAll(s []api.Binding) []api.Binding {
	room := make([]api.Binding, len(s)+3)
	for at := range room {
		room[at] = to(77, atom("spare"))
		if at < len(s) {
			room[at] = to(s[at].Var, roomy([]api.Term{s[at].To})[0])
		}
	}
	return room[:len(s)]
}

// full is a copy of terms with what stands in their spare capacity.
func full(l []api.Term) []api.Term {
	var copies []api.Term
	for _, t := range l[:cap(l)] {
		t.Args = full(t.Args)
		copies = append(copies, t)
	}
	return copies
}

// fullAll is the same for bindings.
func fullAll(s []api.Binding) []api.Binding {
	var copies []api.Binding
	for _, b := range s[:cap(s)] {
		b.To.Args = full(b.To.Args)
		copies = append(copies, b)
	}
	return copies
}

// places calls visit with the address of every element of the slices of some terms, spare ones included.
func places(l []api.Term, visit func(p any)) {
	l = l[:cap(l)]
	for at := range l {
		visit(&l[at])
		places(l[at].Args, visit)
	}
}

// placesAll is the same for bindings.
func placesAll(s []api.Binding, visit func(p any)) {
	s = s[:cap(s)]
	for at := range s {
		visit(&s[at])
		places(s[at].To.Args, visit)
	}
}

// result is what a call returns.
type result struct {
	t api.Term
	s []api.Binding
}

func (r result) places(visit func(p any)) {
	places(r.t.Args, visit)
	placesAll(r.s, visit)
}

// calls are calls of all functions that return terms or bindings.
func calls(s []api.Binding, a, b api.Term) map[string]func() result {
	return map[string]func() result{
		"Look":           func() result { return result{t: subst.Look(s, a)} },
		"Look, second":   func() result { return result{t: subst.Look(s, b)} },
		"Resolve":        func() result { t, _ := subst.Resolve(s, a); return result{t: t} },
		"Resolve, other": func() result { t, _ := subst.Resolve(nil, b); return result{t: t} },
		"Unify":          func() result { r, _ := subst.Unify(s, a, b); return result{s: r} },
		"Unify, back":    func() result { r, _ := subst.Unify(s, b, a); return result{s: r} },
		"Unify, itself":  func() result { r, _ := subst.Unify(s, a, a); return result{s: r} },
		"Unify, nothing": func() result { r, _ := subst.Unify(nil, a, b); return result{s: r} },
		"Match":          func() result { r, _ := subst.Match(a, b); return result{s: r} },
		"Match, back":    func() result { r, _ := subst.Match(b, a); return result{s: r} },
		"Match, whole":   func() result { r, _ := subst.Match(x(3), a); return result{s: r} },
	}
}

// arguments is what the functions are called with.
type arguments struct {
	s    []api.Binding
	a, b api.Term
}

// samples are arguments with spare capacity, and some whose parts share their memory.
func samples() []arguments {
	var l []arguments
	for _, c := range []struct{ s, a, b string }{
		{"", "f(X0, X1, X0)", "f(g(X2, a), h(X0), X5)"},
		{"X0 = a", "X0", "a"},
		{"X1 = f(X2, g(a, X3))", "X1", "X0"},
		{"X1 = f(X2, g(a, X3))", "h(X1, X1, X7)", "h(X0, X6, k(X1, X9))"},
		{"X1 = f(X2); X2 = g(X3, 1, b); X4 = X2", "h(X4, X4)", "h(X8, g(a, X5, b))"},
		{"X0 = f(1); X1 = 7; X2 = X3; X9 = g(X0, X0)", "f(X4, X4)", "f(X9, g(X5, X6))"},
		{"X0 = f(1); X9 = g(X0, X0)", "f(X4, b)", "f(X9, c)"},
		{"X3 = f(b)", "f(X4, X5, X6)", "f(1, a, X6)"},
	} {
		l = append(l, arguments{roomyAll(binds(c.s)), roomy([]api.Term{read(c.a)})[0], roomy([]api.Term{read(c.b)})[0]})
	}
	shared := roomy([]api.Term{read("f(X5, g(b))")})
	part := shared[0]
	l = append(l, arguments{append(make([]api.Binding, 0, 5), to(0, part), to(1, part), to(2, fun("h", part, part))), part, fun("f", x(6), x(7))},
		arguments{append(make([]api.Binding, 0, 5), to(8, part)), fun("h", x(0), x(1), x(2)), fun("h", part, part, part)},
		arguments{nil, fun("h", x(0), x(0), x(2)), fun("h", part, part, fun("k", part, part))})
	m := &maker{state: 61}
	for range 200 {
		variables := m.variables(8)
		s, a := m.bindings(2, variables), m.term(3, variables)
		b := m.changed(a, variables)
		l = append(l, arguments{roomyAll(s), roomy([]api.Term{a})[0], roomy([]api.Term{b})[0]})
	}
	return l
}

// P5.6: results share no memory with the arguments, nor their parts with one another, and arguments stay as they are.
func TestMemory(t *testing.T) {
	filled := map[string]int{}
	for at, c := range samples() {
		s, terms := fullAll(c.s), full([]api.Term{c.a, c.b})
		for name, call := range calls(c.s, c.a, c.b) {
			r := call()
			if !reflect.DeepEqual(fullAll(c.s), s) || !reflect.DeepEqual(full([]api.Term{c.a, c.b}), terms) {
				t.Fatalf("%s changes arguments %d", name, at)
			}
			used := map[any]bool{}
			result{fun("f", c.a, c.b), c.s}.places(func(p any) { used[p] = true })
			r.places(func(p any) {
				filled[name]++
				if used[p] {
					t.Fatalf("%s of arguments %d returns memory that is shared", name, at)
				}
				used[p] = true
			})
		}
	}
	for name := range calls(nil, x(0), x(0)) {
		if filled[name] < 150 {
			t.Errorf("%s has been tested with %d parts only", name, filled[name])
		}
	}
}

// spoil changes a part of a result or an argument.
func spoil(p any) {
	switch p := p.(type) {
	case *api.Term:
		*p = num(77)
	case *api.Binding:
		*p = to(77, num(77))
	}
}

// text spells a result out.
func (r result) text() string {
	text := write(r.t)
	for _, b := range r.s {
		text += "; " + write(x(b.Var)) + " = " + write(b.To)
	}
	return text
}

// P5.6: what is done with a result, or with an argument after the call, changes no other result.
func TestResultsAreNew(t *testing.T) {
	for at, c := range samples() {
		for name := range calls(c.s, c.a, c.b) {
			room := roomy([]api.Term{c.a, c.b})
			own := arguments{roomyAll(c.s), room[0], room[1]}
			call := calls(own.s, own.a, own.b)[name]
			first, second := call(), call()
			want := second.text()
			first.places(spoil)
			third := call()
			result{fun("f", own.a, own.b), own.s}.places(spoil)
			if second.text() != want || third.text() != want {
				t.Errorf("%s of arguments %d depends on what is done with an earlier result, or with its arguments", name, at)
			}
		}
	}
}

// P5.6: arguments also stay as they are after an error, and in functions that return no terms.
func TestArgumentsStay(t *testing.T) {
	for at, c := range append(samples(), arguments{roomyAll(double(0, 40)), roomy([]api.Term{read("f(X0, X1)")})[0], roomy([]api.Term{read("f(X41, g(X0))")})[0]},
		arguments{roomyAll(binds("X0 = f(X1); X1 = X0")), x(0), read("f(X0)")}, arguments{roomyAll(nil), fun("f"), fun("g", x(-1))}) {
		s, terms := fullAll(c.s), full([]api.Term{c.a, c.b})
		subst.Valid(c.s)
		subst.Occurs(c.s, 5, c.a)
		subst.Occurs(c.s, 0, c.b)
		for _, call := range calls(c.s, c.a, c.b) {
			call()
		}
		if !reflect.DeepEqual(fullAll(c.s), s) || !reflect.DeepEqual(full([]api.Term{c.a, c.b}), terms) {
			t.Errorf("arguments %d have been changed", at)
		}
	}
}
