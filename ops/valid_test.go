package ops_test

import (
	"slices"
	"testing"

	"hornbeam/api"
	"hornbeam/ops"
)

// defaults are the predefined operators in the order of a table.
func defaults() []api.Op {
	return table(
		o(400, api.YFX, "*"), o(200, api.XFX, "**"),
		o(200, api.FY, "+"), o(500, api.YFX, "+"),
		o(1000, api.XFY, ","),
		o(200, api.FY, "-"), o(500, api.YFX, "-"), o(1200, api.XFX, "-->"), o(1050, api.XFY, "->"),
		o(400, api.YFX, "/"), o(400, api.YFX, "//"), o(500, api.YFX, `/\`),
		o(1200, api.FX, ":-"), o(1200, api.XFX, ":-"),
		o(1100, api.XFY, ";"),
		o(700, api.XFX, "<"), o(400, api.YFX, "<<"),
		o(700, api.XFX, "="), o(700, api.XFX, "=.."), o(700, api.XFX, "=:="), o(700, api.XFX, "=<"), o(700, api.XFX, "=="), o(700, api.XFX, `=\=`),
		o(700, api.XFX, ">"), o(700, api.XFX, ">="), o(400, api.YFX, ">>"),
		o(1200, api.FX, "?-"),
		o(700, api.XFX, "@<"), o(700, api.XFX, "@=<"), o(700, api.XFX, "@>"), o(700, api.XFX, "@>="),
		o(200, api.FY, `\`), o(900, api.FY, `\+`), o(500, api.YFX, `\/`), o(700, api.XFX, `\=`), o(700, api.XFX, `\==`),
		o(200, api.XFY, "^"),
		o(400, api.YFX, "div"), o(700, api.XFX, "is"), o(400, api.YFX, "mod"), o(400, api.YFX, "rem"),
	)
}

// P7.1: all predefined operators, in their order, at each call.
func TestDefault(t *testing.T) {
	for range 3 {
		l := ops.Default()
		if !slices.Equal(l, defaults()) {
			t.Fatalf("Default() is %v", l)
		}
		if !ops.Valid(l) {
			t.Error("Default() is not valid")
		}
	}
}

// P7.1: tables that are valid, and tables that each break one condition.
func TestValid(t *testing.T) {
	for _, l := range validTables() {
		if !ops.Valid(l) {
			t.Errorf("Valid of %s is false", show(l))
		}
	}
	for _, l := range invalidTables() {
		if ops.Valid(l) {
			t.Errorf("Valid of %s is true", show(l))
		}
	}
}

// class is 1 for prefix, 2 for infix, 3 for postfix, as their order in a table is.
func class(typ int) int {
	switch typ {
	case api.XFX, api.XFY, api.YFX:
		return 2
	case api.FY, api.FX:
		return 1
	case api.XF, api.YF:
		return 3
	}
	return 0
}

// wantOp is the chapter's definition of a valid operator.
func wantOp(op api.Op) bool {
	general := len(op.Name) <= 100 && class(op.Type) > 0 && op.Prec > 0 && op.Prec <= 1200
	comma := op.Name != "," || op.Type == api.XFY && op.Prec == 1000
	bar := op.Name != "|" || class(op.Type) == 2 && op.Prec >= 1001
	return general && op.Name != "[]" && op.Name != "{}" && comma && bar
}

// wantValid is the chapter's definition of a valid table, for each two operators.
func wantValid(l []api.Op) bool {
	for j, b := range l {
		if !wantOp(b) {
			return false
		}
		for _, a := range l[:j] {
			if a.Name > b.Name || a.Name == b.Name && (class(a.Type) >= class(b.Type) || class(a.Type) == 2) {
				return false
			}
		}
	}
	return len(l) <= 100
}

// P7.1: every single operator of names, types and priorities at the borders.
func TestValidOperators(t *testing.T) {
	count := 0
	for _, name := range slices.Concat(plain(), special(), tooLong()) {
		for _, typ := range append(noTypes(), types()...) {
			for _, prec := range append(noPriorities(), priorities()...) {
				op := o(prec, typ, name)
				if ops.Valid(table(op)) != wantOp(op) {
					t.Errorf("Valid of %v is %v", op, !wantOp(op))
				}
				if wantOp(op) {
					count++
				}
			}
		}
	}
	// Each plain name with 7 types and 10 priorities, the comma, and the bar with 3 types and 4 priorities.
	if want := len(plain())*70 + 1 + 12; count != want {
		t.Errorf("%d operators are valid, not %d", count, want)
	}
}

// P7.1: all tables of up to three of some operators, in all orders and with repetitions.
func TestValidSmallTables(t *testing.T) {
	some := table(o(7, api.FY, ""), o(7, api.XFX, ""), o(1000, api.XFY, ","), o(1001, api.XFX, "|"), o(0, api.FY, "c"), o(7, api.XF, "[]"))
	for _, typ := range types() {
		some = append(some, o(7, typ, "a"), o(1200, typ, "ab"))
	}
	count := 0
	for _, a := range some {
		for _, b := range some {
			for _, c := range some {
				for _, l := range [][]api.Op{{a}, {a, b}, {a, b, c}} {
					if ops.Valid(l) != wantValid(l) {
						t.Errorf("Valid of %s is %v", show(l), !wantValid(l))
					}
					if wantValid(l) {
						count++
					}
				}
			}
		}
	}
	if count < 1000 {
		t.Errorf("only %d tables are valid", count)
	}
}

// P7.1: two operators of one name, before, among and after others.
func TestValidOneName(t *testing.T) {
	others := table(o(1, api.FX, "a"), o(2, api.XFX, "b"), o(3, api.YF, "c"))
	for at, name := range []string{"", "a0", "b0", "c0"} {
		for _, first := range types() {
			for _, second := range types() {
				l := slices.Insert(slices.Clone(others), at, o(5, first, name), o(6, second, name))
				want := class(first) == 1 && class(second) > 1
				if ops.Valid(l) != want || wantValid(l) != want {
					t.Errorf("Valid of %s is %v", show(l), !want)
				}
			}
		}
	}
}
