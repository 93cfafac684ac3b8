package ops_test

import (
	"slices"
	"testing"

	"hornbeam/api"
	"hornbeam/ops"
)

// looks are the functions that look up an operator, by the class.
func looks() map[int]func(l []api.Op, name string) (api.Op, bool) {
	return map[int]func(l []api.Op, name string) (api.Op, bool){1: ops.Prefix, 2: ops.Infix, 3: ops.Postfix}
}

// wantLook goes through the table.
func wantLook(l []api.Op, which int, name string) (api.Op, bool) {
	for _, op := range l {
		if op.Name == name && class(op.Type) == which {
			return op, true
		}
	}
	return api.Op{}, false
}

// names are the names of a table, and many others.
func names(l []api.Op) []string {
	all := slices.Concat(plain(), special(), tooLong())
	for _, op := range l {
		all = append(all, op.Name, op.Name+"x")
	}
	return all
}

// looksUp checks all lookups of a name.
func looksUp(t *testing.T, l []api.Op, name string) {
	t.Helper()
	some := false
	for which, look := range looks() {
		want, found := wantLook(l, which, name)
		if op, ok := look(l, name); op != want || ok != found {
			t.Errorf("the operator of class %d of %q in %s is %v, %v", which, name, show(l), op, ok)
		}
		some = some || found
	}
	if ops.Is(l, name) != some {
		t.Errorf("Is of %q in %s is %v", name, show(l), !some)
	}
}

// P7.1: every operator of every table, and names that have none.
func TestLookups(t *testing.T) {
	for _, l := range validTables() {
		for _, name := range names(l) {
			looksUp(t, l, name)
		}
	}
}

// P7.1: nothing is found in a table that is not valid, not even the valid operators before and after the place that is wrong.
func TestLookupsInInvalidTables(t *testing.T) {
	for _, l := range invalidTables() {
		for _, op := range l {
			for which, look := range looks() {
				if got, ok := look(l, op.Name); ok || got != (api.Op{}) {
					t.Errorf("the operator of class %d of %q in %s is %v, %v", which, op.Name, show(l), got, ok)
				}
			}
			if ops.Is(l, op.Name) {
				t.Errorf("Is of %q in %s is true", op.Name, show(l))
			}
		}
	}
}

// P7.1: the examples of the chapter.
func TestLookupExamples(t *testing.T) {
	l := ops.Default()
	if op, ok := ops.Infix(l, "-"); op != o(500, api.YFX, "-") || !ok {
		t.Errorf("the infix operator - is %v, %v", op, ok)
	}
	if op, ok := ops.Prefix(l, "-"); op != o(200, api.FY, "-") || !ok {
		t.Errorf("the prefix operator - is %v, %v", op, ok)
	}
	if op, ok := ops.Postfix(l, "-"); op != (api.Op{}) || ok {
		t.Errorf("the postfix operator - is %v, %v", op, ok)
	}
	if op, ok := ops.Infix(l, ","); op != o(1000, api.XFY, ",") || !ok {
		t.Errorf("the infix operator , is %v, %v", op, ok)
	}
	for name, want := range map[string]bool{"foo": false, "": false, "|": false, "[]": false, "{}": false, "!": false, "is": true, "?-": true, ",": true, `\`: true} {
		if ops.Is(l, name) != want {
			t.Errorf("Is of %q is %v", name, !want)
		}
	}
	if op, ok := ops.Postfix(table(o(9, api.FX, "a"), o(8, api.YF, "a")), "a"); op != o(8, api.YF, "a") || !ok {
		t.Errorf("the postfix operator a is %v, %v", op, ok)
	}
}
