package ops_test

import (
	"slices"
	"testing"

	"hornbeam/api"
	"hornbeam/ops"
)

// changes visits every change of the tables that Set makes.
func changes(visit func(l []api.Op, op api.Op, changed []api.Op)) {
	for _, l := range validTables() {
		some := append(special(), "", "a", "b", "is", "+", "z", long()[1])
		for at := 0; at < len(l); at += 1 + len(l)/5 {
			some = append(some, l[at].Name)
		}
		for _, name := range some {
			for _, typ := range types() {
				for _, prec := range []int{0, 1, 700, 1001, 1200} {
					if changed, e := ops.Set(l, prec, typ, name); e == api.OK {
						visit(l, o(prec, typ, name), changed)
					}
				}
			}
		}
	}
}

// without has the operators that are not of a class and a name.
func without(l []api.Op, which int, name string) []api.Op {
	return slices.DeleteFunc(slices.Clone(l), func(op api.Op) bool { return op.Name == name && class(op.Type) == which })
}

// P7.4: the table is valid, has the operator or none in its place, and has all others as before.
func TestSetChangesOneOperator(t *testing.T) {
	count := map[bool]int{}
	changes(func(l []api.Op, op api.Op, changed []api.Op) {
		which := class(op.Type)
		if !ops.Valid(changed) {
			t.Errorf("Set of %s and %v is %s, which is not valid", show(l), op, show(changed))
		}
		want := op
		if op.Prec == 0 {
			want = api.Op{}
		}
		if got, ok := looks()[which](changed, op.Name); got != want || ok != (op.Prec > 0) {
			t.Errorf("after Set of %s and %v, the operator is %v, %v", show(l), op, got, ok)
		}
		if !slices.Equal(without(changed, which, op.Name), without(l, which, op.Name)) {
			t.Errorf("Set of %s and %v changes others: %s", show(l), op, show(changed))
		}
		for other, look := range looks() {
			before, had := look(l, op.Name)
			after, has := look(changed, op.Name)
			if other != which && (before != after || had != has) {
				t.Errorf("Set of %s and %v changes the class %d", show(l), op, other)
			}
		}
		count[op.Prec > 0]++
	})
	if count[true] < 1000 || count[false] < 1000 {
		t.Errorf("only %d operators were set and %d removed", count[true], count[false])
	}
}

// P7.5: setting again changes nothing, and removing what was added restores the table.
func TestSetAgainAndBack(t *testing.T) {
	added := 0
	changes(func(l []api.Op, op api.Op, changed []api.Op) {
		isSet(t, changed, op, changed, api.OK)
		old, had := wantLook(l, class(op.Type), op.Name)
		if had {
			isSet(t, changed, old, l, api.OK)
			return
		}
		for _, typ := range types() {
			if class(typ) == class(op.Type) {
				isSet(t, changed, o(0, typ, op.Name), l, api.OK)
			}
		}
		if op.Prec > 0 {
			added++
		}
	})
	if added < 1000 {
		t.Errorf("only %d operators were added", added)
	}
}

// P7.5: each operator of a table can be set again, also if the table is full.
func TestSetWhatIsThere(t *testing.T) {
	for _, l := range validTables() {
		for _, op := range l {
			if op.Name == "," {
				isSet(t, l, op, nil, api.ErrState)
				continue
			}
			isSet(t, l, op, l, api.OK)
		}
	}
}
