package ops_test

import (
	"slices"
	"strings"
	"testing"

	"hornbeam/api"
	"hornbeam/ops"
)

// sides is Sides, as one value.
func sides(op api.Op) [2]int {
	left, right := ops.Sides(op)
	return [2]int{left, right}
}

// P7.3: every type with every priority, whatever the name is.
func TestSides(t *testing.T) {
	for prec := 1; prec <= 1200; prec++ {
		want := map[int][2]int{
			api.XFX: {prec - 1, prec - 1}, api.XFY: {prec - 1, prec}, api.YFX: {prec, prec - 1},
			api.FY: {0, prec}, api.FX: {0, prec - 1}, api.XF: {prec - 1, 0}, api.YF: {prec, 0},
		}
		for _, typ := range types() {
			for _, name := range []string{"", "a", "+", ",", "|", "[]", "{}", tooLong()[0]} {
				if got := sides(o(prec, typ, name)); got != want[typ] {
					t.Fatalf("Sides of %v is %v, not %v", o(prec, typ, name), got, want[typ])
				}
			}
		}
	}
}

// P7.3: the examples, and the least and the greatest priority.
func TestSidesExamples(t *testing.T) {
	for op, want := range map[api.Op][2]int{
		o(1000, api.XFY, ","): {999, 1000}, o(900, api.FY, `\+`): {0, 900},
		o(1, api.XFX, "a"): {0, 0}, o(1, api.XFY, "a"): {0, 1}, o(1, api.YFX, "a"): {1, 0}, o(1, api.FX, "a"): {0, 0}, o(1, api.YF, "a"): {1, 0},
		o(1200, api.XFX, "a"): {1199, 1199}, o(1200, api.FY, "a"): {0, 1200}, o(1200, api.XF, "a"): {1199, 0},
		o(999, api.XFY, ","): {998, 999}, o(5, api.XF, "[]"): {4, 0},
	} {
		if got := sides(op); got != want {
			t.Errorf("Sides of %v is %v, not %v", op, got, want)
		}
	}
}

// P7.3: what is not a type or not a priority above 0 has no sides.
func TestSidesInvalid(t *testing.T) {
	none := func(prec, typ int) {
		if got := sides(o(prec, typ, "a")); got != [2]int{} {
			t.Errorf("Sides of the type %d and the priority %d is %v", typ, prec, got)
		}
	}
	for _, prec := range append(noPriorities(), 0) {
		for _, typ := range append(noTypes(), types()...) {
			none(prec, typ)
		}
	}
	for _, typ := range noTypes() {
		for _, prec := range priorities() {
			none(prec, typ)
		}
	}
}

// P7.6: no side is greater than the priority, and at most one side of an infix operator is equal to it.
func TestSidesAreBounded(t *testing.T) {
	for _, l := range validTables() {
		for _, op := range l {
			s := sides(op)
			if slices.Max(s[:]) > op.Prec || slices.Min(s[:]) < 0 || class(op.Type) == 2 && s == [2]int{op.Prec, op.Prec} {
				t.Errorf("Sides of %v is %v", op, s)
			}
		}
	}
}

// P7.3: the names of the types, and the way back.
func TestTypeNames(t *testing.T) {
	for at, want := range []string{"xfx", "xfy", "yfx", "fy", "fx", "xf", "yf"} {
		if name, ok := ops.TypeName(at + 1); name != want || !ok {
			t.Errorf("TypeName(%d) is %q, %v", at+1, name, ok)
		}
		if typ, ok := ops.TypeOf(want); typ != at+1 || !ok {
			t.Errorf("TypeOf(%q) is %d, %v", want, typ, ok)
		}
	}
}

// P7.3: what is not a type, or not the name of one.
func TestTypeNamesInvalid(t *testing.T) {
	for _, typ := range noTypes() {
		if name, ok := ops.TypeName(typ); name != "" || ok {
			t.Errorf("TypeName(%d) is %q, %v", typ, name, ok)
		}
	}
	for _, name := range []string{"", "x", "f", "y", "xx", "yfy", "fxx", "xfx ", " xfx", "xfxx", "XFX", "Xfx", "xfz", "fz", "ff", "xfyfx", "fxfy", "1", "xfx\x00", "prefix", "infix", "postfix", strings.Repeat("xfx", 100)} {
		if typ, ok := ops.TypeOf(name); typ != 0 || ok {
			t.Errorf("TypeOf(%q) is %d, %v", name, typ, ok)
		}
	}
}
