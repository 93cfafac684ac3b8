package ops_test

import (
	"fmt"
	"math"
	"slices"
	"strings"

	"hornbeam/api"
	"hornbeam/ops"
)

func o(prec, typ int, name string) api.Op { return api.Op{Name: name, Type: typ, Prec: prec} }

func table(l ...api.Op) []api.Op { return l }

func types() []int {
	return []int{api.XFX, api.XFY, api.YFX, api.FY, api.FX, api.XF, api.YF}
}

// far has integers far outside every range, and some that a shorter integer type would take for small ones.
func far() []int {
	return []int{math.MinInt, math.MinInt + 1, -1 << 32, -1<<32 + 2, -1 << 16, -256 + 4, -2, -1, 1<<16 + 3, 1 << 31, 1<<32 + 5, 1<<32 + 700, math.MaxInt - 1, math.MaxInt}
}

func noTypes() []int { return append(far(), 0, 8, 9, 15, 256+1, 256+4) }

func priorities() []int {
	return []int{0, 1, 2, 200, 700, 999, 1000, 1001, 1002, 1199, 1200}
}

func noPriorities() []int { return append(far(), -1000, -1200, 1201, 1202, 2000) }

// long has names of at most MaxName bytes, tooLong has strings that are no names.
func long() []string {
	return []string{strings.Repeat("x", 99), strings.Repeat("x", 100), strings.Repeat("\xff", 100), strings.Repeat("é", 50)}
}

func tooLong() []string {
	return []string{strings.Repeat("x", 101), strings.Repeat("é", 51), strings.Repeat("x", 99) + "é", strings.Repeat("[]", 60), strings.Repeat("x", 500)}
}

// plain has names that mean nothing special, and some that differ little from those that do.
func plain() []string {
	return append(long(), "", "\x00", " ", "a", "ab", "b", "B", "é", "\xff", "+", "-", "is", ",,", "||", "[", "]", "{", "}", "[ ]", "[][]", "{}{}", ", ", " |", "'[]'", "xfx", ":-", "a\x00")
}

// special has the names to which rules of their own apply.
func special() []string { return []string{",", "|", "[]", "{}"} }

// many is a table of n operators, with names from x000 on.
func many(n int) []api.Op {
	var l []api.Op
	for i := range n {
		l = append(l, o(1+i, 1+i%7, fmt.Sprintf("x%03d", i)))
	}
	return l
}

func validTables() [][]api.Op {
	l := [][]api.Op{nil, {}, ops.Default(), many(1), many(2), many(99), many(100),
		table(o(1, api.FY, "")), table(o(1, api.XF, ""), o(1200, api.YFX, "\x00")),
		table(o(1, api.FX, "a"), o(1200, api.YF, "a"), o(1100, api.XFY, "|")),
		table(o(1, api.FX, "a"), o(2, api.YFX, "a"), o(3, api.XFX, "ab"), o(4, api.FY, "b"), o(5, api.YF, "b")),
		table(o(1000, api.XFY, ",")), table(o(1001, api.XFX, "|")), table(o(1001, api.XFY, "|")), table(o(1200, api.YFX, "|")),
		table(o(1000, api.XFY, ","), o(1001, api.XFY, "|")),
		table(o(1, api.FY, "B"), o(1, api.FY, "a"), o(1, api.FY, "a\x00"), o(1, api.FY, "aa"), o(1, api.FY, "~"), o(1, api.FY, "\x80"), o(1, api.FY, "é"), o(1, api.FY, "\xff")),
		append(many(98), o(1, api.FY, "y"), o(1, api.XF, "y")), append(many(98), o(1, api.FY, "y"), o(1, api.XFX, "y")),
		append(table(o(1000, api.XFY, ",")), many(99)...), append(many(99), o(1001, api.XFX, "|")),
	}
	for _, name := range plain() {
		for _, typ := range types() {
			l = append(l, table(o(typ, typ, name)), table(o(1200, typ, name)))
		}
	}
	return l
}

// invalidOps has operators each of which breaks one condition.
func invalidOps() []api.Op {
	var l []api.Op
	for _, name := range []string{"", "a", "+", long()[1]} {
		for _, typ := range types() {
			l = append(l, o(0, typ, name))
			for _, prec := range noPriorities() {
				l = append(l, o(prec, typ, name))
			}
		}
		for _, typ := range noTypes() {
			l = append(l, o(700, typ, name))
		}
	}
	for _, typ := range types() {
		for _, prec := range priorities() {
			l = append(l, o(prec, typ, "[]"), o(prec, typ, "{}"))
			if typ != api.XFY || prec != 1000 {
				l = append(l, o(prec, typ, ","))
			}
			if typ > api.YFX || prec < 1001 {
				l = append(l, o(prec, typ, "|"))
			}
		}
		for _, name := range tooLong() {
			l = append(l, o(700, typ, name))
		}
	}
	return append(l, o(1201, api.XFY, "|"), o(1000, 0, ","), o(1001, 0, "|"), o(1001, 8, "|"), api.Op{})
}

// misplaced has tables of valid operators that break one condition.
func misplaced() [][]api.Op {
	l := [][]api.Op{many(101), many(200), append(many(100), o(1, api.FY, "y")),
		table(o(1, api.FY, "b"), o(1, api.FY, "a")), table(o(1, api.FY, "ab"), o(1, api.FY, "a")), table(o(1, api.FY, "a"), o(1, api.FY, "B")),
		table(o(1, api.FY, "a"), o(1, api.FY, "")), table(o(1, api.FY, "\xff"), o(1, api.FY, "a")), table(o(1, api.FY, "a"), o(1, api.FY, "ab"), o(1, api.FY, "aa")),
		table(o(1, api.FY, "a"), o(1, api.FY, "c"), o(1, api.FY, "b"), o(1, api.FY, "d")),
		table(o(1, api.FY, "b"), o(1, api.YF, "a")), table(o(1, api.FY, "b"), o(1, api.XFX, "a")),
		table(o(1, api.FY, "a"), o(1, api.FY, "b"), o(1, api.XFX, "a")),
	}
	classes := [][]int{{api.FY, api.FX}, {api.XFX, api.XFY, api.YFX}, {api.XF, api.YF}}
	for _, name := range []string{"", "a", "is", long()[2]} {
		for at, class := range classes {
			for _, typ := range class {
				for _, other := range class {
					l = append(l, table(o(1, typ, name), o(2, other, name)))
				}
				for _, other := range slices.Concat(classes[:at]...) {
					l = append(l, table(o(1, typ, name), o(1, other, name)))
				}
			}
		}
		for _, typ := range classes[1] {
			for _, other := range classes[2] {
				l = append(l, table(o(1, typ, name), o(1, other, name)), table(o(1, api.FX, name), o(1, typ, name), o(1, other, name)))
			}
		}
	}
	return l
}

func invalidTables() [][]api.Op {
	l := misplaced()
	for _, op := range invalidOps() {
		l = append(l, table(op), table(o(1, api.FY, ""), o(1, api.FY, "\x01"), op), slices.Insert(many(3), 0, op))
	}
	for _, op := range []api.Op{o(0, api.FY, "x001"), o(1201, api.FY, "x001"), o(1, 0, "x001"), o(1, 8, "x001"), o(1, api.FY, "x001"+tooLong()[0])} {
		for _, n := range []int{3, 99, 100} {
			middle := many(n)
			middle[1] = op
			l = append(l, middle)
		}
	}
	return l
}

// show is a short text for messages about a table.
func show(l []api.Op) string {
	if len(l) > 8 {
		return fmt.Sprintf("%d operators from %v to %v", len(l), l[0], l[len(l)-1])
	}
	return fmt.Sprintf("%q", fmt.Sprint(l))
}
