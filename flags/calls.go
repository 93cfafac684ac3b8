package flags

import (
	"iter"
	"slices"

	"hornbeam/api"
	"hornbeam/balls"
	"hornbeam/chars"
	"hornbeam/ops"
	"hornbeam/term"
)

const (
	maxPriority = 1200
	commaName   = ","
)

// indicator names a predicate.
type indicator struct {
	name  string
	arity int
}

// predicate says how a predicate is executed: check makes the checks of its arguments, and then either list returns the arguments of its answers, or change returns the new syntax.
type predicate struct {
	check  func(args []api.Term) (ball api.Term, ok bool)
	list   func(s api.Syntax, args []api.Term) (rows [][]api.Term)
	change func(s api.Syntax, args []api.Term) (t api.Syntax, ball api.Term, e api.Errno)
}

func predicates() map[indicator]predicate {
	return map[indicator]predicate{
		{"op", 3}:                      {check: checkOp, change: setOps},
		{"current_op", 3}:              {check: checkCurrentOp, list: listOps},
		{"char_conversion", 2}:         {check: checkConversion, change: setConversion},
		{"current_char_conversion", 2}: {check: checkCurrentConversion, list: listConversions},
		{"set_prolog_flag", 2}:         {check: checkFlag, change: setFlag},
		{"current_prolog_flag", 2}:     {check: checkCurrentFlag, list: listFlags},
	}
}

// Has reports whether Call executes a predicate.
func Has(name string, arity int) (ok bool) {
	_, ok = predicates()[indicator{name, arity}]
	return ok
}

// Call executes op/3, current_op/3, char_conversion/2, current_char_conversion/2, set_prolog_flag/2 and current_prolog_flag/2.
func Call(s api.Syntax, goal api.Term) (t api.Syntax, answers []api.Term, ball api.Term, e api.Errno) {
	if !ValidSyntax(s) || !term.Same(goal, term.Canon(goal)) {
		return api.Syntax{}, nil, api.Term{}, api.ErrArg
	}
	p, ok := predicates()[indicator{goal.Name, len(goal.Args)}]
	if !ok {
		return api.Syntax{}, nil, api.Term{}, api.ErrNone
	}
	if ball, ok = p.check(goal.Args); !ok {
		return api.Syntax{}, nil, ball, api.ErrBall
	}
	t = api.Syntax{Ops: slices.Clone(s.Ops), Flags: s.Flags, Conv: slices.Clone(s.Conv)}
	if p.list != nil {
		for _, row := range p.list(t, goal.Args) {
			answers = append(answers, term.Struct(goal.Name, row...))
		}
		return t, answers, api.Term{}, api.OK
	}
	if t, ball, e = p.change(t, goal.Args); e != api.OK {
		return api.Syntax{}, nil, ball, e
	}
	return t, []api.Term{term.Clone(goal)}, api.Term{}, api.OK
}

// checkOp makes the checks of op/3.
func checkOp(args []api.Term) (ball api.Term, ok bool) {
	prec, typ, list := args[0], args[1], args[2]
	other, found := find(names(list), func(name api.Term) bool { return name.Kind != api.KindAtom })
	switch {
	case isVar(prec) || isVar(typ) || isOpen(list):
		return balls.Inst(), false
	case prec.Kind != api.KindInt:
		return balls.Type("integer", prec), false
	case typ.Kind != api.KindAtom:
		return balls.Type("atom", typ), false
	case list.Kind != api.KindAtom && !isList(list):
		return balls.Type("list", list), false
	case found:
		return balls.Type("atom", other), false
	case !isPriority(prec):
		return balls.Domain("operator_priority", prec), false
	case !isSpecifier(typ):
		return balls.Domain("operator_specifier", typ), false
	}
	return api.Term{}, true
}

// setOps sets the operators of op/3.
func setOps(s api.Syntax, args []api.Term) (t api.Syntax, ball api.Term, e api.Errno) {
	typ, _ := ops.TypeOf(args[1].Name)
	for name := range names(args[2]) {
		s.Ops, e = ops.Set(s.Ops, int(args[0].N), typ, name.Name)
		switch {
		case e == api.ErrState && name.Name == commaName:
			return api.Syntax{}, balls.Permission("modify", "operator", name), api.ErrBall
		case e == api.ErrState:
			return api.Syntax{}, balls.Permission("create", "operator", name), api.ErrBall
		case e != api.OK:
			return api.Syntax{}, api.Term{}, e
		}
	}
	return s, api.Term{}, api.OK
}

// checkCurrentOp makes the checks of current_op/3.
func checkCurrentOp(args []api.Term) (ball api.Term, ok bool) {
	prec, typ, name := args[0], args[1], args[2]
	switch {
	case !isVar(prec) && !isPriority(prec):
		return balls.Domain("operator_priority", prec), false
	case !isVar(typ) && !isSpecifier(typ):
		return balls.Domain("operator_specifier", typ), false
	}
	return passVar(name, atom)
}

// listOps lists all operators.
func listOps(s api.Syntax, _ []api.Term) (rows [][]api.Term) {
	for _, op := range s.Ops {
		typ, _ := ops.TypeName(op.Type)
		rows = append(rows, []api.Term{term.Int(int64(op.Prec)), term.Atom(typ), term.Atom(op.Name)})
	}
	return rows
}

// checkConversion makes the checks of char_conversion/2.
func checkConversion(args []api.Term) (ball api.Term, ok bool) {
	if slices.ContainsFunc(args, isVar) {
		return balls.Inst(), false
	}
	return checkCurrentConversion(args)
}

// setConversion sets the conversion of char_conversion/2.
func setConversion(s api.Syntax, args []api.Term) (t api.Syntax, ball api.Term, e api.Errno) {
	s.Conv, e = chars.Set(s.Conv, charOf(args[0]), charOf(args[1]))
	return s, api.Term{}, e
}

// checkCurrentConversion makes the checks of current_char_conversion/2.
func checkCurrentConversion(args []api.Term) (ball api.Term, ok bool) {
	if ball, ok = passVar(args[0], char); !ok {
		return ball, false
	}
	return passVar(args[1], char)
}

// listConversions lists the conversion of a character, or all pairs of the table.
func listConversions(s api.Syntax, args []api.Term) (rows [][]api.Term) {
	if !isVar(args[0]) {
		return [][]api.Term{{args[0], charTerm(chars.Convert(s.Conv, charOf(args[0])))}}
	}
	for _, pair := range s.Conv {
		rows = append(rows, []api.Term{charTerm(pair.From), charTerm(pair.To)})
	}
	return rows
}

// checkFlag makes the checks of set_prolog_flag/2 that do not depend on the flags there are: Set makes the others, in the same order.
func checkFlag(args []api.Term) (ball api.Term, ok bool) {
	if slices.ContainsFunc(args, isVar) {
		return balls.Inst(), false
	}
	return atom(args[0])
}

// setFlag sets the flag of set_prolog_flag/2.
func setFlag(s api.Syntax, args []api.Term) (t api.Syntax, ball api.Term, e api.Errno) {
	s.Flags, e = Set(s.Flags, args[0].Name, args[1])
	switch e {
	case api.OK:
		return s, api.Term{}, api.OK
	case api.ErrNone:
		ball = balls.Domain("prolog_flag", args[0])
	case api.ErrState:
		ball = balls.Permission("modify", "flag", args[0])
	default:
		ball = balls.Domain("flag_value", term.Struct("+", args...))
	}
	return api.Syntax{}, ball, api.ErrBall
}

// checkCurrentFlag makes the checks of current_prolog_flag/2.
func checkCurrentFlag(args []api.Term) (ball api.Term, ok bool) {
	name := args[0]
	if ball, ok = passVar(name, atom); !ok {
		return ball, false
	}
	if !isVar(name) && !slices.Contains(Names(), name.Name) {
		return balls.Domain("prolog_flag", name), false
	}
	return api.Term{}, true
}

// listFlags lists a flag, or all flags, with their values.
func listFlags(s api.Syntax, args []api.Term) (rows [][]api.Term) {
	for _, x := range table() {
		if isVar(args[0]) || x.name == args[0].Name {
			rows = append(rows, []api.Term{term.Atom(x.name), x.value(s.Flags)})
		}
	}
	return rows
}

// names yields what the last argument of op/3 has for names: the elements of a list, or the argument itself.
func names(t api.Term) iter.Seq[api.Term] {
	return func(yield func(name api.Term) bool) {
		elements, _, ok := balls.List(t)
		if !ok {
			elements = []api.Term{t}
		}
		for _, element := range elements {
			if !yield(element) {
				return
			}
		}
	}
}

// find returns the first term of a kind, as isKind says.
func find(l iter.Seq[api.Term], isKind func(t api.Term) bool) (first api.Term, found bool) {
	for t := range l {
		if isKind(t) {
			return t, true
		}
	}
	return api.Term{}, false
}

// isOpen reports whether a term is a variable, a partial list, or a list with a variable among its elements.
func isOpen(t api.Term) bool {
	_, tail := term.Elems(t)
	_, found := find(names(t), isVar)
	return found || isVar(tail)
}

func isList(t api.Term) bool {
	_, _, ok := balls.List(t)
	return ok
}

func isVar(t api.Term) bool {
	return t.Kind == api.KindVar
}

func isPriority(t api.Term) bool {
	return t.Kind == api.KindInt && t.N >= 0 && t.N <= maxPriority
}

// isSpecifier reports whether a term is the name of a type of operators.
func isSpecifier(t api.Term) bool {
	_, ok := ops.TypeOf(t.Name)
	return ok && t.Kind == api.KindAtom
}

// passVar makes a check of a term unless it is a variable.
func passVar(t api.Term, check func(t api.Term) (ball api.Term, ok bool)) (ball api.Term, ok bool) {
	if isVar(t) {
		return api.Term{}, true
	}
	return check(t)
}

// atom and char check a term whose value is not needed.
func atom(t api.Term) (ball api.Term, ok bool) {
	_, ball, ok = balls.Atom(t)
	return ball, ok
}

func char(t api.Term) (ball api.Term, ok bool) {
	_, ball, ok = balls.Char(t)
	return ball, ok
}

// charOf returns the character of an atom that has passed char.
func charOf(t api.Term) int {
	return int(t.Name[0])
}

// charTerm returns the atom of a character.
func charTerm(c int) api.Term {
	return term.Atom(string([]byte{byte(c)}))
}
