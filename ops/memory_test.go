package ops_test

import (
	"slices"
	"testing"

	"hornbeam/api"
	"hornbeam/ops"
)

// spoil changes the memory of a table, spare capacity included.
func spoil(l []api.Op) {
	l = l[:cap(l)]
	for i := range l {
		l[i] = o(-1, -1, "spoiled")
	}
}

// roomy has a copy of a table, with memory behind it that nobody may use.
func roomy(l []api.Op) (copied, memory []api.Op) {
	memory = append(slices.Clone(l), many(5)...)
	return memory[:len(l)], memory
}

// R4: Set changes neither the table nor the memory behind it, and what it returns is new, also if nothing changes.
func TestSetMemory(t *testing.T) {
	l := table(o(1, api.XFX, "b"), o(2, api.FY, "d"), o(3, api.YF, "d"), o(4, api.FX, "f"))
	for _, op := range []api.Op{
		o(9, api.FX, "a"), o(9, api.FX, "c"), o(9, api.FX, "g"), o(9, api.XFY, "b"), o(9, api.FX, "d"), o(9, api.FY, "f"), o(1, api.XFX, "b"), o(4, api.FX, "f"),
		o(0, api.XFX, "b"), o(0, api.YF, "d"), o(0, api.FX, "f"), o(0, api.XF, "b"), o(0, api.FY, "z"), o(9, api.XF, "b"), o(9, api.FY, "[]"), o(1201, api.FY, "a"),
	} {
		args, memory := roomy(l)
		before := slices.Clone(memory)
		first, _ := ops.Set(args, op.Prec, op.Type, op.Name)
		second, _ := ops.Set(args, op.Prec, op.Type, op.Name)
		want := slices.Clone(second)
		spoil(first)
		if !slices.Equal(memory, before) {
			t.Errorf("Set of %v changes its argument, or shares memory with it", op)
		}
		spoil(memory)
		if !slices.Equal(second, want) {
			t.Errorf("the table of Set of %v shares memory with the argument or with an earlier result", op)
		}
	}
}

// R4: the predefined operators stay what they are.
func TestDefaultMemory(t *testing.T) {
	first, second := ops.Default(), ops.Default()
	spoil(first)
	if !slices.Equal(second, defaults()) || !slices.Equal(ops.Default(), defaults()) {
		t.Errorf("Default() is %v", ops.Default())
	}
}

// R4: the functions that only look at a table leave it and the memory behind it as they are.
func TestLookupMemory(t *testing.T) {
	for _, l := range append(validTables(), invalidTables()...) {
		args, memory := roomy(l)
		before := slices.Clone(memory)
		ops.Valid(args)
		for _, name := range []string{"", "a", "x001", "z"} {
			ops.Is(args, name)
			for _, look := range looks() {
				look(args, name)
			}
		}
		if !slices.Equal(memory, before) {
			t.Errorf("a lookup changes %s", show(l))
		}
	}
}
