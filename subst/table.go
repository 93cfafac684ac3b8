package subst

import (
	"cmp"
	"slices"

	"hornbeam/api"
	"hornbeam/term"
)

// table holds valid bindings: those that are given, and those that have been made since. These are kept apart, because adding each to a long sorted list would move many others.
type table struct {
	given []api.Binding
	made  map[int64]api.Term
}

// arguments are the pairs of arguments of two structures that are left to unify.
type arguments struct {
	a, b []api.Term
}

// ending is the panic of a unification that ends early.
type ending struct {
	why api.Errno
}

// position returns where the binding of a variable stands.
func position(s []api.Binding, v int64) (at int, bound bool) {
	return slices.BinarySearchFunc(s, v, func(b api.Binding, v int64) int { return cmp.Compare(b.Var, v) })
}

// find returns the term to which a variable is bound.
func (l table) find(v int64) (to api.Term, bound bool) {
	if to, bound = l.made[v]; bound {
		return to, true
	}
	at, bound := position(l.given, v)
	if !bound {
		return api.Term{}, false
	}
	return l.given[at].To, true
}

// follow replaces a bound variable until the term is not one any more.
func (l table) follow(t api.Term) api.Term {
	for t.Kind == api.KindVar {
		to, bound := l.find(t.N)
		if !bound {
			break
		}
		t = to
	}
	return t
}

// resolve copies a term with its bound variables replaced. Each node is paid from the budget; once this is below 0, the copy is of no use, and stays unfinished.
func (l table) resolve(t api.Term, budget *int) api.Term {
	*budget--
	if *budget < 0 {
		return api.Term{}
	}
	t = l.follow(t)
	r := api.Term{Kind: t.Kind, N: t.N, Name: t.Name}
	for _, arg := range t.Args {
		r.Args = append(r.Args, l.resolve(arg, budget))
	}
	return r
}

// occurs reports whether a variable occurs in a resolved term. Bound variables are replaced once only, because the resolved term may be too large to be gone through.
func (l table) occurs(v int64, t api.Term) bool {
	visited := map[int64]bool{}
	left := []api.Term{t}
	for len(left) > 0 {
		t := left[len(left)-1]
		left = append(left[:len(left)-1], t.Args...)
		if t.Kind != api.KindVar || visited[t.N] {
			continue
		}
		visited[t.N] = true
		to, bound := l.find(t.N)
		if bound {
			left = append(left, to)
		} else if t.N == v {
			return true
		}
	}
	return false
}

// unify processes the pair of two terms and the pairs below it. Those that are left are not kept by recursion, because resolved terms may be too deep for it.
func (l table) unify(a, b api.Term) {
	left := []arguments{{[]api.Term{a}, []api.Term{b}}}
	for steps := 0; len(left) > 0; {
		top := &left[len(left)-1]
		if len(top.a) == 0 {
			left = left[:len(left)-1]
			continue
		}
		if steps == api.MaxSteps {
			panic(ending{api.ErrLong})
		}
		steps++
		a, b := l.follow(top.a[0]), l.follow(top.b[0])
		top.a, top.b = top.a[1:], top.b[1:]
		switch {
		case a.Kind == api.KindVar || b.Kind == api.KindVar:
			l.bind(a, b)
		case !isAlike(a, b):
			panic(ending{api.ErrNone})
		default:
			left = append(left, arguments{a.Args, b.Args})
		}
	}
}

// bind binds one of two terms that have been followed, at least one of them a variable, to the other one.
func (l table) bind(a, b api.Term) {
	if b.Kind == api.KindVar && (a.Kind != api.KindVar || a.N < b.N) {
		a, b = b, a
	}
	if b.Kind == api.KindVar && a.N == b.N {
		return
	}
	if l.occurs(a.N, b) {
		panic(ending{api.ErrOccurs})
	}
	l.made[a.N] = b
}

// match binds the variables of a pattern to the terms that stand in their places, and reports whether the pattern becomes the term.
func (l table) match(pattern, t api.Term) bool {
	if pattern.Kind == api.KindVar {
		to, bound := l.made[pattern.N]
		if !bound {
			l.made[pattern.N] = t
			return true
		}
		return term.Same(to, t)
	}
	return isAlike(pattern, t) && slices.EqualFunc(pattern.Args, t.Args, l.match)
}

// isAlike reports whether two terms are equal but for what their arguments are.
func isAlike(a, b api.Term) bool {
	return a.Kind == b.Kind && a.N == b.N && a.Name == b.Name && len(a.Args) == len(b.Args)
}

// bindings returns copies of all bindings, in the order of their variables.
func (l table) bindings() []api.Binding {
	var all []api.Binding
	for _, b := range l.given {
		all = append(all, api.Binding{Var: b.Var, To: term.Clone(b.To)})
	}
	for v, to := range l.made {
		all = append(all, api.Binding{Var: v, To: term.Clone(to)})
	}
	slices.SortFunc(all, func(a, b api.Binding) int { return cmp.Compare(a.Var, b.Var) })
	return all
}
