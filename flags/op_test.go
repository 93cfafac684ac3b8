package flags_test

import (
	"fmt"
	"math"
	"slices"
	"strings"
	"testing"

	"hornbeam/api"
	"hornbeam/ops"
	"hornbeam/term"
)

// specifiers are the names of the types, in the order of their numbers.
func specifiers() []string { return []string{"", "xfx", "xfy", "yfx", "fy", "fx", "xf", "yf"} }

// priorities are terms that are a priority, and others.
func priorities() []api.Term {
	l := []api.Term{a("700"), a("a"), empty(), s("+", i(1), i(2)), s("f", x(0)), x(0), list(x(0), i(1)), list(empty(), x(0))}
	for _, n := range []int64{0, 1, 200, 999, 1000, 1001, 1199, 1200, -1, -700, 1201, 1202, 1 << 32, 1<<32 + 700, -1<<32 + 700, math.MinInt64, math.MaxInt64} {
		l = append(l, i(n))
	}
	return l
}

// types are terms that are a type, and others.
func types() []api.Term {
	l := []api.Term{x(0), i(1), i(700), a("abc"), a("XFX"), a("xfxx"), a("xy"), a("yfy"), empty(), s("xfx", i(1)), s("f", x(0)), list(x(0), a("xfx")), list(empty(), x(0))}
	for _, name := range specifiers() {
		l = append(l, a(name))
	}
	return l
}

// someNames are terms that are a name or a list of names, and others.
func someNames() []api.Term {
	var l []api.Term
	for _, name := range []string{"", "a", "in", "is", "+", "-", "?-", "[]", "{}", ",", "|", "||", "xfx", "\xff", strings.Repeat("n", 100)} {
		l = append(l, a(name), list(empty(), a(name)), atoms("new", name), atoms(name, "new"), list(x(0), a(name)))
	}
	for _, other := range []api.Term{x(0), i(1), i(-1), s("in", i(1)), s("[]", x(0)), s(".", a("a"), x(0)), s(".", a("a"), empty())} {
		l = append(l, other, list(empty(), other), list(empty(), a("in"), other), list(empty(), other, a("in")), list(empty(), a("["), other, a(","), i(2)), list(x(1), a("a"), other), list(x(0), other), list(other, a("a")), list(other, x(1), i(1)),
			list(a("b"), other), list(i(1), a("in"), other))
	}
	return append(l, x(1), s("f", a("a"), empty()), s(".", a("a"), empty(), empty()), s(".", empty()), atoms("a", "b", "c"), atoms("a", "a"), atoms("[]", "{}"), atoms("in", "", "|"),
		list(empty(), x(0), i(1)), list(empty(), i(1), x(0)), list(empty(), i(1), i(2)), list(empty(), a("in"), i(2), i(3)), list(a("b"), x(0)), list(i(1), x(0), i(2)), list(empty(), empty(), a("in")), list(list(empty(), a("a")), a("b")))
}

// namesOf takes names apart: what they are, the elements if they are a list, and whether one has to know more about them.
func namesOf(n api.Term) (elements []api.Term, isList, isOpen bool) {
	end := n
	for end.Kind == api.KindStruct && end.Name == "." && len(end.Args) == 2 {
		elements = append(elements, end.Args[0])
		end = end.Args[1]
	}
	isList = same(end, empty())
	if isList {
		for _, element := range elements {
			isOpen = isOpen || element.Kind == api.KindVar
		}
	}
	return elements, isList, isOpen || end.Kind == api.KindVar
}

// wantOpBall is the chapter's list of checks of op/3.
func wantOpBall(p, t, n api.Term) (ball api.Term, fails bool) {
	elements, isList, isOpen := namesOf(n)
	other := slices.IndexFunc(elements, func(e api.Term) bool { return e.Kind != api.KindAtom })
	if p.Kind == api.KindVar || t.Kind == api.KindVar || isOpen {
		return inst(), true
	}
	if p.Kind != api.KindInt {
		return typeError("integer", p), true
	}
	if t.Kind != api.KindAtom {
		return typeError("atom", t), true
	}
	if n.Kind != api.KindAtom && !isList {
		return typeError("list", n), true
	}
	if other >= 0 {
		return typeError("atom", elements[other]), true
	}
	if p.N < 0 || p.N > 1200 {
		return domainError("operator_priority", p), true
	}
	if t.Name == "" || !slices.Contains(specifiers(), t.Name) {
		return domainError("operator_specifier", t), true
	}
	return api.Term{}, false
}

// wantOp is the chapter's definition of op/3.
func wantOp(syntax api.Syntax, goal api.Term) outcome {
	p, t, n := goal.Args[0], goal.Args[1], goal.Args[2]
	if ball, fails := wantOpBall(p, t, n); fails {
		return raised(ball)
	}
	elements, isList, _ := namesOf(n)
	if !isList {
		elements = []api.Term{n}
	}
	for _, name := range elements {
		var e api.Errno
		syntax.Ops, e = ops.Set(syntax.Ops, int(p.N), slices.Index(specifiers(), t.Name), name.Name)
		if e == api.ErrState {
			action := map[bool]string{true: "modify", false: "create"}[name.Name == ","]
			return raised(permissionError(action, "operator", name))
		}
		if e != api.OK {
			return failed(e)
		}
	}
	return listed(syntax, goal)
}

// P8.5: all combinations of arguments of op/3.
func TestOp(t *testing.T) {
	count := map[string]int{}
	for _, n := range someNames() {
		for _, p := range priorities() {
			for _, typ := range types() {
				goal := term.Canon(s("op", p, typ, n))
				want := wantOp(start(), goal)
				gives(t, start(), goal, want)
				formal := ""
				if want.e == api.ErrBall {
					formal = want.ball.Args[0].Name
				}
				count[fmt.Sprint(want.e, " ", formal)]++
			}
		}
	}
	for _, kind := range []string{"error 0 ", "error 8 instantiation_error", "error 8 type_error", "error 8 domain_error", "error 8 permission_error"} {
		if count[kind] < 1000 {
			t.Errorf("only %d calls gave %s", count[kind], kind)
		}
	}
}

// P8.5: op/3 in all syntaxes, also in those that have no room for another operator.
func TestOpEverywhere(t *testing.T) {
	full := 0
	for _, syntax := range syntaxes() {
		for _, n := range []api.Term{a("in"), a("a"), a("|"), a("x001"), a("x002"), empty(), atoms("in", "a"), atoms("in", "is", "in2"), atoms("x003", "x004"), atoms("in", ","), atoms("in", "in2", "in3", "[]")} {
			for _, p := range []int64{0, 1, 1100, 1200} {
				for _, typ := range specifiers()[1:] {
					goal := s("op", i(p), a(typ), n)
					want := wantOp(syntax, goal)
					gives(t, syntax, goal, want)
					if want.e == api.ErrFull {
						full++
					}
				}
			}
		}
	}
	if full < 1000 {
		t.Errorf("only %d calls have found the table full", full)
	}
}

// P8.5: the first check that fails determines the ball: each ball before each later one.
func TestOpOrder(t *testing.T) {
	large := chain(1000, i(1))
	for _, c := range []struct{ p, t, n, ball api.Term }{
		{x(0), i(1), i(1), inst()}, {a("a"), x(0), i(1), inst()}, {a("a"), i(1), x(0), inst()}, {a("a"), i(1), list(x(0), i(1)), inst()}, {a("a"), i(1), list(empty(), i(1), x(0)), inst()},
		{a("a"), i(1), i(1), typeError("integer", a("a"))}, {large, i(1), list(a("b"), x(0)), typeError("integer", large)}, {a("a"), a("abc"), a(","), typeError("integer", a("a"))},
		{i(-1), i(1), i(1), typeError("atom", i(1))}, {i(1201), large, list(empty(), i(2)), typeError("atom", large)}, {i(1201), s("xfx", x(0)), a(","), typeError("atom", s("xfx", x(0)))},
		{i(-1), a("abc"), i(1), typeError("list", i(1))}, {i(-1), a("abc"), list(i(2), i(1)), typeError("list", list(i(2), i(1)))}, {i(-1), a("abc"), list(a("b"), x(0)), typeError("list", list(a("b"), x(0)))}, {i(1201), a("abc"), s("f", x(0)), typeError("list", s("f", x(0)))},
		{i(-1), a("abc"), list(empty(), a(","), i(1), i(2)), typeError("atom", i(1))}, {i(-1), a("abc"), list(empty(), s("f", x(0)), i(2)), typeError("atom", s("f", x(0)))},
		{i(-1), a("abc"), a(","), domainError("operator_priority", i(-1))}, {i(1201), a("abc"), empty(), domainError("operator_priority", i(1201))}, {i(1<<32 + 700), a("xfx"), a("in"), domainError("operator_priority", i(1<<32+700))},
		{i(700), a("abc"), a(","), domainError("operator_specifier", a("abc"))}, {i(0), a("XFX"), empty(), domainError("operator_specifier", a("XFX"))}, {i(0), a(""), empty(), domainError("operator_specifier", a(""))},
	} {
		gives(t, start(), s("op", c.p, c.t, c.n), raised(c.ball))
	}
}

// P8.5: culprits that are too large for a ball are replaced.
func TestOpLargeCulprits(t *testing.T) {
	for size := 1994; size <= 1996; size++ {
		culprit := chain(size-1, i(1))
		gives(t, start(), s("op", culprit, a("xfx"), a("in")), raised(typeError("integer", culprit)))
		gives(t, start(), s("op", i(700), culprit, a("in")), raised(typeError("atom", culprit)))
		gives(t, start(), s("op", i(700), a("xfx"), culprit), raised(typeError("list", culprit)))
	}
	culprit := chain(1996, i(1))
	gives(t, start(), s("op", culprit, a("xfx"), a("in")), raised(typeError("integer", a("..."))))
	gives(t, start(), s("op", i(700), culprit, a("in")), raised(typeError("atom", a("..."))))
	gives(t, start(), s("op", i(700), a("xfx"), culprit), raised(typeError("list", a("..."))))
	element := chain(1994, i(1))
	gives(t, start(), s("op", i(700), a("xfx"), list(empty(), element)), raised(typeError("atom", element)))
}

// P8.5: which operators are set; what is not said to be set stays as it is.
func TestOpSets(t *testing.T) {
	syntax := plain()
	syntax.Ops = []api.Op{o(1, api.FX, "a"), o(2, api.XFX, "a"), o(3, api.YF, "b")}
	with := func(l ...api.Op) api.Syntax {
		changed := syntax
		changed.Ops = l
		return changed
	}
	for _, c := range []struct {
		goal api.Term
		want api.Syntax
	}{
		{s("op", i(700), a("xfx"), a("in")), with(o(1, api.FX, "a"), o(2, api.XFX, "a"), o(3, api.YF, "b"), o(700, api.XFX, "in"))},
		{s("op", i(700), a("xfx"), atoms("in")), with(o(1, api.FX, "a"), o(2, api.XFX, "a"), o(3, api.YF, "b"), o(700, api.XFX, "in"))},
		{s("op", i(1200), a("fy"), atoms("b", "a", "c")), with(o(1200, api.FY, "a"), o(2, api.XFX, "a"), o(1200, api.FY, "b"), o(3, api.YF, "b"), o(1200, api.FY, "c"))},
		{s("op", i(0), a("yfx"), atoms("a")), with(o(1, api.FX, "a"), o(3, api.YF, "b"))},
		{s("op", i(0), a("fy"), atoms("a", "b", "c", "a")), with(o(2, api.XFX, "a"), o(3, api.YF, "b"))},
		{s("op", i(1), a("xf"), a("b")), with(o(1, api.FX, "a"), o(2, api.XFX, "a"), o(1, api.XF, "b"))},
		{s("op", i(1), a("yfx"), a("a")), with(o(1, api.FX, "a"), o(1, api.YFX, "a"), o(3, api.YF, "b"))},
		{s("op", i(1001), a("xfy"), a("|")), with(o(1, api.FX, "a"), o(2, api.XFX, "a"), o(3, api.YF, "b"), o(1001, api.XFY, "|"))},
		{s("op", i(1), a("fx"), a("a")), syntax},
		{s("op", i(1), a("fx"), empty()), syntax},
		{s("op", i(0), a("xf"), empty()), syntax},
		{s("op", i(0), a("xf"), a("a")), syntax},
		{s("op", i(0), a("fy"), a("zz")), syntax},
	} {
		gives(t, syntax, c.goal, listed(c.want, c.goal))
	}
}

// P8.5: names that cannot be set, first, last, and among others. Nothing is changed then.
func TestOpPermission(t *testing.T) {
	create := func(name string) outcome { return raised(permissionError("create", "operator", a(name))) }
	modify := raised(permissionError("modify", "operator", a(",")))
	for _, c := range []struct {
		p    int64
		t    string
		n    api.Term
		want outcome
	}{
		{700, "xfx", a(","), modify}, {1000, "xfy", a(","), modify}, {0, "xfy", a(","), modify}, {0, "fy", atoms("a", ",", "|"), modify}, {700, "xfx", atoms("in", ",", "[]"), modify},
		{700, "xfx", atoms("[]", ","), create("[]")}, {700, "xfx", atoms("{}", ","), create("{}")}, {700, "xfx", atoms("in", "[]"), create("[]")}, {0, "xfx", atoms("[]"), create("[]")}, {0, "fx", a("{}"), create("{}")}, {700, "xfx", a("{}"), create("{}")},
		{1000, "xfy", a("|"), create("|")}, {1200, "fy", a("|"), create("|")}, {0, "fy", a("|"), create("|")}, {1001, "xf", atoms("in", "|", ","), create("|")}, {1, "yfx", a("|"), create("|")},
		{200, "xf", a("is"), create("is")}, {200, "yf", atoms("&", "is"), create("is")}, {200, "xf", atoms("is", ","), create("is")}, {1200, "yf", a("+"), create("+")},
	} {
		gives(t, start(), s("op", i(c.p), a(c.t), c.n), c.want)
	}
	postfix := call(start(), s("op", i(200), a("xf"), a("in"))).syntax
	for _, typ := range []string{"xfx", "xfy", "yfx"} {
		gives(t, postfix, s("op", i(700), a(typ), a("in")), create("in"))
		gives(t, postfix, s("op", i(0), a(typ), a("in")), listed(postfix, s("op", i(0), a(typ), a("in"))))
	}
}

// P8.5: a table has at most 100 operators.
func TestOpFull(t *testing.T) {
	fresh := func(n int) []string {
		var l []string
		for at := range n {
			l = append(l, fmt.Sprintf("y%03d", at))
		}
		return l
	}
	syntax := does(t, start(), s("op", i(700), a("fx"), atoms(fresh(59)...)))
	if len(syntax.Ops) != 100 {
		t.Errorf("%d operators after op/3", len(syntax.Ops))
	}
	gives(t, start(), s("op", i(700), a("fx"), atoms(fresh(60)...)), failed(api.ErrFull))
	gives(t, start(), s("op", i(700), a("fx"), atoms(append(fresh(61), ",")...)), failed(api.ErrFull))
	gives(t, start(), s("op", i(700), a("fx"), atoms(append(fresh(59), ",")...)), raised(permissionError("modify", "operator", a(","))))
	gives(t, syntax, s("op", i(700), a("fx"), a("new")), failed(api.ErrFull))
	gives(t, syntax, s("op", i(700), a("fx"), a("[]")), listed(syntax, s("op", i(700), a("fx"), empty())))
	gives(t, syntax, s("op", i(0), a("fx"), a("new")), listed(syntax, s("op", i(0), a("fx"), a("new"))))
	gives(t, syntax, s("op", i(700), a("fx"), atoms(fresh(59)...)), listed(syntax, s("op", i(700), a("fx"), atoms(fresh(59)...))))
	gives(t, start(), s("op", i(0), a("fx"), atoms(fresh(990)...)), listed(start(), s("op", i(0), a("fx"), atoms(fresh(990)...))))
	again := slices.Repeat([]string{"y"}, 990)
	if got := does(t, start(), s("op", i(7), a("fx"), atoms(again...))); len(got.Ops) != 42 {
		t.Errorf("%d operators after the same one was set again and again", len(got.Ops))
	}
}

// currentOps are the answers that current_op/3 has for a table.
func currentOps(l []api.Op) []api.Term {
	var answers []api.Term
	for _, op := range l {
		answers = append(answers, s("current_op", i(int64(op.Prec)), a(specifiers()[op.Type]), a(op.Name)))
	}
	return answers
}

// wantCurrentOp is the chapter's definition of current_op/3.
func wantCurrentOp(syntax api.Syntax, goal api.Term) outcome {
	p, t, n := goal.Args[0], goal.Args[1], goal.Args[2]
	if p.Kind != api.KindVar && (p.Kind != api.KindInt || p.N < 0 || p.N > 1200) {
		return raised(domainError("operator_priority", p))
	}
	if t.Kind != api.KindVar && (t.Kind != api.KindAtom || t.Name == "" || !slices.Contains(specifiers(), t.Name)) {
		return raised(domainError("operator_specifier", t))
	}
	if n.Kind != api.KindVar && n.Kind != api.KindAtom {
		return raised(typeError("atom", n))
	}
	return listed(syntax, currentOps(syntax.Ops)...)
}

// P8.5: all combinations of arguments of current_op/3. The answers are the same for all of those that pass.
func TestCurrentOp(t *testing.T) {
	count := map[api.Errno]int{}
	for _, n := range someNames() {
		for _, p := range priorities() {
			for _, typ := range types() {
				goal := term.Canon(s("current_op", p, typ, n))
				want := wantCurrentOp(plain(), goal)
				gives(t, plain(), goal, want)
				count[want.e]++
			}
		}
	}
	if count[api.OK] < 1000 || count[api.ErrBall] < 1000 {
		t.Errorf("%d calls had answers, and %d a ball", count[api.OK], count[api.ErrBall])
	}
	for _, syntax := range syntaxes() {
		for _, goal := range []api.Term{s("current_op", x(0), x(1), x(2)), s("current_op", x(0), x(0), x(0)), s("current_op", i(0), a("yf"), a("[]")), s("current_op", x(0), x(1), i(1)), s("current_op", i(1201), i(1), i(1)), s("current_op", i(1200), i(1), i(1))} {
			gives(t, syntax, goal, wantCurrentOp(syntax, goal))
		}
	}
}

// P8.5: the balls of current_op/3.
func TestCurrentOpBalls(t *testing.T) {
	for _, c := range []struct{ p, t, n, ball api.Term }{
		{a("a"), i(1), i(1), domainError("operator_priority", a("a"))}, {i(1201), a("abc"), i(1), domainError("operator_priority", i(1201))}, {i(-1), x(0), x(1), domainError("operator_priority", i(-1))}, {s("f", x(0)), x(1), x(0), domainError("operator_priority", s("f", x(0)))},
		{x(0), i(1), i(1), domainError("operator_specifier", i(1))}, {i(1), a("abc"), i(1), domainError("operator_specifier", a("abc"))}, {i(1), s("xfx", i(1)), x(0), domainError("operator_specifier", s("xfx", i(1)))}, {i(0), a(""), x(0), domainError("operator_specifier", a(""))},
		{x(0), x(1), i(1), typeError("atom", i(1))}, {i(0), a("fy"), s("f", x(0)), typeError("atom", s("f", x(0)))}, {x(0), x(1), atoms("is"), typeError("atom", atoms("is"))},
		{chain(1995, i(1)), x(0), x(1), domainError("operator_priority", chain(1995, i(1)))}, {chain(1996, i(1)), x(0), x(1), domainError("operator_priority", a("..."))}, {x(0), chain(1996, i(1)), x(1), domainError("operator_specifier", a("..."))}, {x(0), x(1), chain(1996, i(1)), typeError("atom", a("..."))},
	} {
		gives(t, start(), s("current_op", c.p, c.t, c.n), raised(c.ball))
	}
}

// P8.5: the examples of the chapter.
func TestOpExamples(t *testing.T) {
	goal := s("op", i(700), a("xfx"), a("in"))
	if op, ok := ops.Infix(does(t, start(), goal).Ops, "in"); op != o(700, api.XFX, "in") || !ok {
		t.Errorf("the infix operator in is %v, %v", op, ok)
	}
	gives(t, start(), s("op", x(0), a("xfx"), a("in")), raised(inst()))
	gives(t, start(), s("op", i(1201), a("xfx"), a("in")), raised(domainError("operator_priority", i(1201))))
	gives(t, start(), s("op", i(700), a("abc"), a("in")), raised(domainError("operator_specifier", a("abc"))))
	gives(t, start(), s("op", i(700), a("xfx"), a(",")), raised(permissionError("modify", "operator", a(","))))
	gives(t, start(), s("op", i(200), a("xfy"), list(empty(), a("a"), i(1))), raised(typeError("atom", i(1))))
	gives(t, start(), s("op", i(200), a("xfy"), list(empty(), a("a"), x(0))), raised(inst()))
	gives(t, start(), s("op", i(200), a("xfy"), empty()), listed(start(), s("op", i(200), a("xfy"), empty())))
	syntax := does(t, start(), s("op", i(200), a("xfy"), atoms("&", "is")))
	for _, name := range []string{"&", "is"} {
		if op, ok := ops.Infix(syntax.Ops, name); op != o(200, api.XFY, name) || !ok {
			t.Errorf("the infix operator %s is %v, %v", name, op, ok)
		}
	}
	gives(t, start(), s("op", i(200), a("xf"), atoms("&", "is")), raised(permissionError("create", "operator", a("is"))))
	long := strings.Repeat("n", 100)
	if op, ok := ops.Prefix(does(t, start(), s("op", i(1), a("fx"), a(long))).Ops, long); op != o(1, api.FX, long) || !ok {
		t.Errorf("the prefix operator with a long name is %v, %v", op, ok)
	}
}
