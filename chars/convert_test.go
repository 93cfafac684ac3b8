package chars_test

import (
	"math"
	"slices"
	"testing"

	"hornbeam/api"
	"hornbeam/chars"
)

func pairs(numbers ...int) []api.Pair {
	var l []api.Pair
	for i := 0; i+1 < len(numbers); i += 2 {
		l = append(l, api.Pair{From: numbers[i], To: numbers[i+1]})
	}
	return l
}

// full returns the greatest valid table: every character is mapped to the one with the opposite bits.
func full() []api.Pair {
	var l []api.Pair
	for c := 0; c <= 255; c++ {
		l = append(l, api.Pair{From: c, To: 255 - c})
	}
	return l
}

func validTables() [][]api.Pair {
	return [][]api.Pair{
		nil, {}, pairs(0, 255), pairs(255, 0), pairs(0, 1), pairs(97, 98), pairs(97, 98, 98, 97), pairs(0, 5, 255, 5),
		pairs(1, 0, 2, 0, 3, 0), pairs(10, 11, 20, 21, 30, 31, 40, 41, 50, 51), full(), full()[1:], full()[:255],
	}
}

func invalidTables() [][]api.Pair {
	return [][]api.Pair{
		pairs(-1, 5), pairs(256, 5), pairs(5, -1), pairs(5, 256), pairs(0, 0), pairs(2, 2), pairs(255, 255),
		pairs(-1, -1), pairs(math.MinInt, 1), pairs(1, math.MaxInt), pairs(256+'a', 'b'), pairs('a', 1<<32+'b'),
		pairs(2, 3, 2, 4), pairs(2, 3, 2, 3), pairs(3, 4, 2, 5), pairs(1, 2, 3, 4, 3, 5), pairs(1, 2, 5, 4, 4, 6),
		pairs(1, 2, 3, 3), pairs(1, 2, 3, 256), pairs(1, 2, 256, 3), pairs(-1, 2, 3, 4), pairs(0, 0, 3, 4),
		append(full(), api.Pair{From: 256, To: 1}), append(full(), api.Pair{From: 255, To: 1}),
	}
}

// P1.4: tables that are valid, and tables that each break one condition.
func TestValid(t *testing.T) {
	for _, l := range validTables() {
		if !chars.Valid(l) {
			t.Errorf("Valid(%v) is false", l)
		}
	}
	for _, l := range invalidTables() {
		if chars.Valid(l) {
			t.Errorf("Valid(%v) is true", l)
		}
	}
}

func wantConvert(l []api.Pair, c int) int {
	for _, p := range l {
		if p.From == c {
			return p.To
		}
	}
	return c
}

// P1.4: every character under every table, and what is not a character or not a table.
func TestConvert(t *testing.T) {
	for _, l := range validTables() {
		for c := 0; c <= 255; c++ {
			if got, want := chars.Convert(l, c), wantConvert(l, c); got != want {
				t.Errorf("Convert(%v, %d) is %d, not %d", l, c, got, want)
			}
		}
		for _, c := range far {
			if got := chars.Convert(l, c); got != 0 {
				t.Errorf("Convert(%v, %d) is %d", l, c, got)
			}
		}
	}
	for _, l := range invalidTables() {
		for _, c := range []int{-1, 0, 1, 2, 3, 5, 97, 255, 256} {
			if got := chars.Convert(l, c); got != 0 {
				t.Errorf("Convert(%v, %d) is %d", l, c, got)
			}
		}
	}
}

// P1.4: pairs are added at the front, in the middle and at the end, replaced, and removed.
func TestSet(t *testing.T) {
	l := pairs(10, 11, 20, 21, 30, 31)
	for _, x := range []struct {
		l        []api.Pair
		from, to int
		want     []api.Pair
	}{
		{nil, 97, 98, pairs(97, 98)},
		{nil, 97, 97, nil},
		{nil, 0, 255, pairs(0, 255)},
		{nil, 255, 0, pairs(255, 0)},
		{nil, 0, 0, nil},
		{nil, 255, 255, nil},
		{pairs(97, 98), 97, 97, nil},
		{pairs(97, 98), 97, 99, pairs(97, 99)},
		{pairs(97, 98), 97, 98, pairs(97, 98)},
		{pairs(97, 98), 98, 97, pairs(97, 98, 98, 97)},
		{l, 5, 6, pairs(5, 6, 10, 11, 20, 21, 30, 31)},
		{l, 15, 6, pairs(10, 11, 15, 6, 20, 21, 30, 31)},
		{l, 35, 6, pairs(10, 11, 20, 21, 30, 31, 35, 6)},
		{l, 10, 6, pairs(10, 6, 20, 21, 30, 31)},
		{l, 20, 6, pairs(10, 11, 20, 6, 30, 31)},
		{l, 30, 6, pairs(10, 11, 20, 21, 30, 6)},
		{l, 10, 10, pairs(20, 21, 30, 31)},
		{l, 20, 20, pairs(10, 11, 30, 31)},
		{l, 30, 30, pairs(10, 11, 20, 21)},
		{l, 25, 25, l},
		{full(), 0, 0, full()[1:]},
		{full(), 255, 255, full()[:255]},
	} {
		table, e := chars.Set(x.l, x.from, x.to)
		if e != api.OK || !slices.Equal(table, x.want) {
			t.Errorf("Set(%v, %d, %d) is %v, %v", x.l, x.from, x.to, table, e)
		}
	}
}

// P1.4: ErrArg comes without a table.
func TestSetInvalid(t *testing.T) {
	refused := func(l []api.Pair, from, to int) {
		if table, e := chars.Set(l, from, to); e != api.ErrArg || len(table) != 0 {
			t.Errorf("Set(%v, %d, %d) is %v, %v", l, from, to, table, e)
		}
	}
	for _, l := range invalidTables() {
		refused(l, 97, 98)
		refused(l, 97, 97)
		if len(l) > 0 {
			// Not even the change that would repair the table is made.
			refused(l, l[0].From, 7)
			refused(l, l[0].From, l[0].From)
		}
	}
	for _, l := range validTables() {
		for _, c := range far {
			refused(l, c, 1)
			refused(l, 1, c)
			refused(l, c, c)
		}
	}
}

// R4: neither the table nor the spare capacity behind it changes, and the result has memory of its own.
func TestSetMemory(t *testing.T) {
	for _, x := range [][2]int{{5, 6}, {15, 6}, {35, 6}, {10, 6}, {10, 10}, {30, 30}, {25, 25}} {
		memory := pairs(10, 11, 20, 21, 30, 31, 40, 41, 50, 51)
		before := slices.Clone(memory)
		table, e := chars.Set(memory[:3], x[0], x[1])
		if e != api.OK || !slices.Equal(memory, before) {
			t.Errorf("Set from %d to %d left %v, %v", x[0], x[1], memory, e)
		}
		table = table[:cap(table)]
		for i := range table {
			table[i] = api.Pair{From: -1, To: -1}
		}
		if !slices.Equal(memory, before) {
			t.Errorf("the table of Set from %d to %d is not new", x[0], x[1])
		}
	}
}

// set is Set for arguments that must be accepted.
func set(t *testing.T, l []api.Pair, from, to int) []api.Pair {
	table, e := chars.Set(l, from, to)
	if e != api.OK || !chars.Valid(table) {
		t.Fatalf("Set(%v, %d, %d) is %v, %v", l, from, to, table, e)
	}
	return table
}

// P1.5: one character changes and can be set back.
func TestSetChangesOneCharacter(t *testing.T) {
	for _, l := range validTables() {
		for _, from := range []int{0, 1, 2, 10, 15, 20, 50, 97, 98, 254, 255} {
			for _, to := range []int{0, 1, 11, 97, 98, 255} {
				table := set(t, l, from, to)
				for c := 0; c <= 255; c++ {
					want := wantConvert(l, c)
					if c == from {
						want = to
					}
					if got := chars.Convert(table, c); got != want {
						t.Errorf("after Set(%v, %d, %d), %d is converted to %d, not %d", l, from, to, c, got, want)
					}
				}
				if back := set(t, table, from, wantConvert(l, from)); !slices.Equal(back, l) {
					t.Errorf("Set(%v, %d, %d) and back is %v", l, from, to, back)
				}
			}
		}
	}
}

// P1.5: the order in which two different characters are set does not matter.
func TestSetOrder(t *testing.T) {
	some := []int{0, 1, 10, 15, 97, 98, 255}
	for _, l := range validTables() {
		for _, a := range some {
			for _, b := range some {
				if a == b {
					continue
				}
				for _, to := range []int{a, b, 98, 200} {
					one := set(t, set(t, l, a, to), b, 98)
					two := set(t, set(t, l, b, 98), a, to)
					if !slices.Equal(one, two) {
						t.Errorf("from %v: %v and %v", l, one, two)
					}
				}
			}
		}
	}
}

// P1.5: a long sequence of changes gives the same conversion as an array.
func TestSetSequence(t *testing.T) {
	var model [256]int
	for c := range model {
		model[c] = c
	}
	var table []api.Pair
	x := uint32(1)
	for range 5000 {
		x = x*1664525 + 1013904223
		from, to := int(x>>24), int(x>>16&255)
		if x>>8&3 == 0 {
			to = from
		}
		model[from] = to
		table = set(t, table, from, to)
		count := 0
		for c, want := range model {
			if want != c {
				count++
			}
			if got := chars.Convert(table, c); got != want {
				t.Fatalf("%d is converted to %d, not %d", c, got, want)
			}
		}
		if len(table) != count {
			t.Fatalf("the table has %d pairs, not %d", len(table), count)
		}
	}
	for c := range model {
		table = set(t, table, c, c)
	}
	if len(table) != 0 {
		t.Errorf("%v is left", table)
	}
}
