package ops_test

import (
	"cmp"
	"fmt"
	"slices"
	"testing"

	"hornbeam/api"
	"hornbeam/ops"
)

// isSet checks a call of Set.
func isSet(t *testing.T, l []api.Op, op api.Op, want []api.Op, why api.Errno) {
	t.Helper()
	got, e := ops.Set(l, op.Prec, op.Type, op.Name)
	if e != why || !slices.Equal(got, want) {
		t.Errorf("Set of %s and %v is %s, %v, not %s, %v", show(l), op, show(got), e, show(want), why)
	}
}

// P7.2: operators are added in every place, replaced and removed.
func TestSet(t *testing.T) {
	l := table(o(1, api.XFX, "b"), o(2, api.FY, "d"), o(3, api.YF, "d"), o(4, api.FX, "f"))
	b, d, df, f := l[0], l[1], l[2], l[3]
	for _, x := range []struct {
		l    []api.Op
		op   api.Op
		want []api.Op
	}{
		{nil, o(700, api.XFX, "in"), table(o(700, api.XFX, "in"))},
		{nil, o(1, api.FY, ""), table(o(1, api.FY, ""))},
		{nil, o(1200, api.YF, long()[1]), table(o(1200, api.YF, long()[1]))},
		{nil, o(0, api.XFX, "in"), nil},
		{l, o(9, api.XF, "a"), table(o(9, api.XF, "a"), b, d, df, f)},
		{l, o(9, api.FX, "b"), table(o(9, api.FX, "b"), b, d, df, f)},
		{l, o(9, api.FX, "c"), table(b, o(9, api.FX, "c"), d, df, f)},
		{l, o(9, api.FX, "da"), table(b, d, df, o(9, api.FX, "da"), f)},
		{l, o(9, api.XFY, "f"), table(b, d, df, f, o(9, api.XFY, "f"))},
		{l, o(9, api.YF, "f"), table(b, d, df, f, o(9, api.YF, "f"))},
		{l, o(9, api.YFX, "\xff"), table(b, d, df, f, o(9, api.YFX, "\xff"))},
		{l, o(9, api.YFX, "b"), table(o(9, api.YFX, "b"), d, df, f)},
		{l, o(1, api.XFX, "b"), l},
		{l, o(9, api.FX, "d"), table(b, o(9, api.FX, "d"), df, f)},
		{l, o(9, api.XF, "d"), table(b, d, o(9, api.XF, "d"), f)},
		{l, o(4, api.FY, "f"), table(b, d, df, o(4, api.FY, "f"))},
		{l, o(0, api.XFX, "b"), table(d, df, f)},
		{l, o(0, api.XFY, "b"), table(d, df, f)},
		{l, o(0, api.FX, "d"), table(b, df, f)},
		{l, o(0, api.XF, "d"), table(b, d, f)},
		{l, o(0, api.FY, "f"), table(b, d, df)},
		{l, o(0, api.FY, "b"), l},
		{l, o(0, api.FY, "c"), l},
		{l, o(0, api.XF, "f"), l},
		// Nothing is added, so that an operator of the other class does not matter.
		{l, o(0, api.XF, "b"), l},
		{l, o(0, api.YF, "b"), l},
		{l, o(0, api.XFX, "d"), l},
		{l, o(0, api.XFY, "d"), l},
		{l, o(0, api.YFX, "d"), l},
		{table(b), o(0, api.YFX, "b"), nil},
	} {
		isSet(t, x.l, x.op, x.want, api.OK)
	}
}

// P7.2: ErrArg comes first, whatever else is wrong.
func TestSetInvalid(t *testing.T) {
	for _, l := range invalidTables() {
		isSet(t, l, o(1, api.FY, "zz"), nil, api.ErrArg)
		isSet(t, l, o(1000, api.XFY, ","), nil, api.ErrArg)
		isSet(t, l, o(1201, api.XFY, "a"), nil, api.ErrArg)
		for _, op := range l[:min(len(l), 4)] {
			// Not even the change that would repair the table is made.
			isSet(t, l, op, nil, api.ErrArg)
			isSet(t, l, o(0, op.Type, op.Name), nil, api.ErrArg)
		}
	}
	for _, l := range [][]api.Op{nil, ops.Default(), many(100)} {
		for _, name := range slices.Concat([]string{"a", "is", "x001"}, special()) {
			for _, prec := range noPriorities() {
				isSet(t, l, o(prec, api.XFX, name), nil, api.ErrArg)
				isSet(t, l, o(prec, api.YF, name), nil, api.ErrArg)
			}
			for _, typ := range noTypes() {
				isSet(t, l, o(0, typ, name), nil, api.ErrArg)
				isSet(t, l, o(1001, typ, name), nil, api.ErrArg)
			}
		}
		for _, name := range tooLong() {
			for _, typ := range types() {
				isSet(t, l, o(0, typ, name), nil, api.ErrArg)
				isSet(t, l, o(1200, typ, name), nil, api.ErrArg)
			}
		}
	}
}

// P7.2: ErrState for names that cannot be changed, whether or not there is room.
func TestSetNames(t *testing.T) {
	full := append(table(o(1000, api.XFY, ",")), many(99)...)
	for _, l := range [][]api.Op{nil, ops.Default(), many(100), full} {
		for _, name := range []string{",", "[]", "{}"} {
			for _, typ := range types() {
				for _, prec := range priorities() {
					isSet(t, l, o(prec, typ, name), nil, api.ErrState)
				}
			}
		}
		for _, prec := range priorities() {
			for _, typ := range []int{api.FY, api.FX, api.XF, api.YF} {
				isSet(t, l, o(prec, typ, "|"), nil, api.ErrState)
			}
			if prec > 0 && prec < 1001 {
				isSet(t, l, o(prec, api.XFY, "|"), nil, api.ErrState)
			}
		}
	}
}

// P7.2: the bar as an infix operator.
func TestSetBar(t *testing.T) {
	bar := table(o(1, api.FY, "a"), o(1100, api.XFY, "|"), o(2, api.FY, "~"))
	none := table(bar[0], bar[2])
	for _, typ := range []int{api.XFX, api.XFY, api.YFX} {
		for _, prec := range []int{1001, 1002, 1200} {
			want := table(bar[0], o(prec, typ, "|"), bar[2])
			isSet(t, none, o(prec, typ, "|"), want, api.OK)
			isSet(t, bar, o(prec, typ, "|"), want, api.OK)
		}
		for _, prec := range []int{1, 999, 1000} {
			isSet(t, none, o(prec, typ, "|"), nil, api.ErrState)
			isSet(t, bar, o(prec, typ, "|"), nil, api.ErrState)
		}
		isSet(t, bar, o(0, typ, "|"), none, api.OK)
		isSet(t, none, o(0, typ, "|"), none, api.OK)
	}
}

// P7.2: ErrState for an infix operator beside a postfix operator, also if the table is full.
func TestSetRivals(t *testing.T) {
	for _, l := range [][]api.Op{nil, many(1), many(98)} {
		for _, prec := range []int{1, 700, 1200} {
			for _, infix := range []int{api.XFX, api.XFY, api.YFX} {
				for _, postfix := range []int{api.XF, api.YF} {
					for _, prefix := range []api.Op{o(5, api.FY, "y"), o(5, api.FX, "a")} {
						rest := append(slices.Clone(l), prefix)
						if prefix.Name == "a" {
							rest = append(table(prefix), l...)
						}
						isSet(t, append(slices.Clone(rest), o(9, infix, "y")), o(prec, postfix, "y"), nil, api.ErrState)
						isSet(t, append(slices.Clone(rest), o(9, postfix, "y")), o(prec, infix, "y"), nil, api.ErrState)
						isSet(t, append(slices.Clone(rest), o(9, infix, "y")), o(0, infix, "y"), rest, api.OK)
						isSet(t, append(slices.Clone(rest), o(9, postfix, "y")), o(0, postfix, "y"), rest, api.OK)
					}
				}
			}
		}
	}
}

// P7.2: a full table can be changed in all ways that do not make it longer.
func TestSetFull(t *testing.T) {
	full := many(100)
	for _, name := range []string{"a", "x000a", "x050a", "y", "|"} {
		isSet(t, full, o(1001, api.XFX, name), nil, api.ErrFull)
		isSet(t, full, o(0, api.XFX, name), full, api.OK)
		shorter, e := ops.Set(full[1:], 1001, api.XFX, name)
		if e != api.OK || len(shorter) != 100 || !ops.Valid(shorter) {
			t.Errorf("Set of 99 operators and %q is %s, %v", name, show(shorter), e)
		}
	}
	for at, op := range full {
		changed := slices.Clone(full)
		changed[at].Prec = 1200
		isSet(t, full, changed[at], changed, api.OK)
		isSet(t, full, o(0, op.Type, op.Name), slices.Delete(slices.Clone(full), at, at+1), api.OK)
		other := api.FX
		if class(op.Type) == 1 {
			other = api.XFX
		}
		isSet(t, full, o(7, other, op.Name), nil, api.ErrFull)
		isSet(t, full, o(0, other, op.Name), full, api.OK)
	}
}

// wantSet is the chapter's definition of Set.
func wantSet(l []api.Op, op api.Op) ([]api.Op, api.Errno) {
	which := class(op.Type)
	if !wantValid(l) || op.Prec < 0 || op.Prec > 1200 || which == 0 || len(op.Name) > 100 {
		return nil, api.ErrArg
	}
	if op.Name == "," || op.Name == "[]" || op.Name == "{}" || op.Name == "|" && (which != 2 || op.Prec > 0 && op.Prec < 1001) {
		return nil, api.ErrState
	}
	var rest []api.Op
	for _, other := range l {
		if other.Name == op.Name && op.Prec > 0 && class(other.Type)+which == 5 {
			return nil, api.ErrState
		}
		if other.Name != op.Name || class(other.Type) != which {
			rest = append(rest, other)
		}
	}
	if op.Prec > 0 {
		rest = append(rest, op)
	}
	if len(rest) > 100 {
		return nil, api.ErrFull
	}
	slices.SortFunc(rest, func(a, b api.Op) int {
		return cmp.Or(cmp.Compare(a.Name, b.Name), cmp.Compare(class(a.Type), class(b.Type)))
	})
	return rest, api.OK
}

// P7.2: all kinds of changes of all kinds of tables.
func TestSetEverything(t *testing.T) {
	count := map[api.Errno]int{}
	check := func(l []api.Op, op api.Op) {
		want, why := wantSet(l, op)
		isSet(t, l, op, want, why)
		count[why]++
	}
	for _, l := range append(validTables(), invalidTables()...) {
		some := append(special(), "", "a", "b", "+", long()[1], tooLong()[0])
		for at := 0; at < len(l); at += 1 + len(l)/4 {
			some = append(some, l[at].Name, l[at].Name+"\x00")
		}
		for _, name := range some {
			for _, typ := range append(types(), 0, 8) {
				for _, prec := range []int{-1, 0, 1, 1000, 1001, 1200, 1201} {
					check(l, o(prec, typ, name))
				}
			}
		}
	}
	for _, e := range []api.Errno{api.OK, api.ErrArg, api.ErrState, api.ErrFull} {
		if count[e] < 1000 {
			t.Errorf("%v is the result of %d calls only", e, count[e])
		}
	}
}

// P7.2: the examples of the chapter.
func TestSetExamples(t *testing.T) {
	l, e := ops.Set(ops.Default(), 700, api.XFX, "in")
	if op, ok := ops.Infix(l, "in"); e != api.OK || len(l) != 42 || op != o(700, api.XFX, "in") || !ok {
		t.Errorf("with in, the table is %s, %v", show(l), e)
	}
	l, e = ops.Set(ops.Default(), 0, api.YFX, "+")
	if op, ok := ops.Infix(l, "+"); e != api.OK || len(l) != 40 || ok || op != (api.Op{}) {
		t.Errorf("without +, the table is %s, %v", show(l), e)
	}
	if op, ok := ops.Prefix(l, "+"); op != o(200, api.FY, "+") || !ok {
		t.Errorf("without the infix +, the prefix operator is %v, %v", op, ok)
	}
	for _, x := range []struct {
		op  api.Op
		why api.Errno
	}{
		{o(200, api.XF, "is"), api.ErrState}, {o(900, api.XFY, "|"), api.ErrState}, {o(200, api.FY, "[]"), api.ErrState}, {o(1201, api.FY, "a"), api.ErrArg},
	} {
		isSet(t, ops.Default(), x.op, nil, x.why)
	}
}

// P7.2, P7.4: long sequences of changes give the same tables as the definition does.
func TestSetSequence(t *testing.T) {
	var l []api.Op
	x := uint32(1)
	next := func(n int) int {
		x = x*1664525 + 1013904223
		return int(x>>16) % n
	}
	longest := 0
	for step := range 20000 {
		// The table grows in the first half of each 4000 steps, and shrinks in the second one.
		prec := 1 + next(1200)
		if next(10) < 2+step/2000%2*6 {
			prec = 0
		}
		op := o(prec, 1+next(7), fmt.Sprintf("%c%d", 'a'+next(3), next(25)))
		want, why := wantSet(l, op)
		got, e := ops.Set(l, op.Prec, op.Type, op.Name)
		if e != why || !slices.Equal(got, want) {
			t.Fatalf("step %d: Set of %s and %v is %s, %v", step, show(l), op, show(got), e)
		}
		if e == api.OK {
			l = got
		}
		longest = max(longest, len(l))
	}
	if longest != api.MaxOps {
		t.Errorf("the longest table had %d operators", longest)
	}
}
