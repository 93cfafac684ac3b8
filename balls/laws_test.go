package balls_test

import (
	"slices"
	"testing"

	"hornbeam/api"
	"hornbeam/balls"
	"hornbeam/term"
)

// isErrorTerm reports an error unless a term is a valid error term, and Formal returns its formal.
func isErrorTerm(t *testing.T, call string, ball api.Term) {
	t.Helper()
	if !term.Valid(ball) || ball.Kind != api.KindStruct || ball.Name != "error" || len(ball.Args) != 2 || !same(ball.Args[1], empty()) {
		t.Errorf("%s makes %s, which is no error term", call, show(ball))
		return
	}
	formal, ok := balls.Formal(ball)
	if !ok || !same(formal, ball.Args[0]) {
		t.Errorf("the formal of %s is %s, %v", show(ball), show(formal), ok)
	}
}

// P6.8: whatever is not the zero Term is a valid error term.
func TestBallsAreErrorTerms(t *testing.T) {
	isErrorTerm(t, "Inst", balls.Inst())
	for _, at := range []int{0, 7, api.MaxText} {
		isErrorTerm(t, "Syntax", balls.Syntax(at))
	}
	words := append(names(), longNames()...)
	for at, word := range words {
		other := words[(at+1)%len(words)]
		for what, make := range worded() {
			if ball := make(word); !same(ball, api.Term{}) {
				isErrorTerm(t, what, ball)
			}
		}
		for _, m := range makers() {
			for _, u := range append(large(), x(0), i(1), s("f", x(1)), s("f"), chain(2000, i(1))) {
				if ball := m.make([]string{word, other}, u); !same(ball, api.Term{}) {
					isErrorTerm(t, m.formal, ball)
				}
			}
		}
	}
}

// P6.9: a valid term passes a check, or there is an error term; and which ones pass.
func TestPassesOrNot(t *testing.T) {
	kinds := map[string][]int{"Atom": {api.KindAtom}, "Int": {api.KindInt}, "Callable": {api.KindAtom, api.KindStruct}, "Atomic": {api.KindAtom, api.KindInt}}
	count := map[string]int{}
	for name, check := range checks() {
		for _, u := range samples() {
			r := check(u)
			if r.ok {
				count[name]++
				is(t, "the ball of "+name+" of "+show(u), r.ball, api.Term{})
			} else {
				isErrorTerm(t, name+" of "+show(u), r.ball)
			}
			if passing, only := kinds[name]; only && r.ok != slices.Contains(passing, u.Kind) {
				t.Errorf("%s of %s: %v", name, show(u), r.ok)
			}
			if r.ok && u.Kind == api.KindVar {
				t.Errorf("%s lets a variable pass", name)
			}
			if !r.ok && r.value != "" {
				t.Errorf("%s of %s, which does not pass, has the value %s", name, show(u), r.value)
			}
		}
		if count[name] == 0 || count[name] == len(samples()) {
			t.Errorf("%s lets %d terms pass", name, count[name])
		}
	}
}
