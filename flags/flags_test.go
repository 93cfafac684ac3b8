package flags_test

import (
	"math"
	"slices"
	"testing"

	"hornbeam/api"
	"hornbeam/flags"
	"hornbeam/ops"
)

// wantNames are the names of the flags in the chapter's order.
func wantNames() []string {
	return []string{"bounded", "char_conversion", "debug", "double_quotes", "integer_rounding_function", "max_arity", "max_integer", "min_integer", "unknown"}
}

// readOnly are the flags that cannot be changed, with their values.
func readOnly() map[string]api.Term {
	return map[string]api.Term{"bounded": a("true"), "integer_rounding_function": a("toward_zero"), "max_arity": i(8), "max_integer": i(math.MaxInt64), "min_integer": i(math.MinInt64)}
}

// change is a value of a flag, with what it does to the flags.
type change struct {
	value string
	do    func(f *api.Flags)
}

// changes are the values of the flags that can be changed.
func changes() map[string][]change {
	return map[string][]change{
		"char_conversion": {{"on", func(f *api.Flags) { f.Conversion = true }}, {"off", func(f *api.Flags) { f.Conversion = false }}},
		"debug":           {{"on", func(f *api.Flags) { f.Debug = true }}, {"off", func(f *api.Flags) { f.Debug = false }}},
		"double_quotes":   {{"codes", func(f *api.Flags) { f.Quotes = 1 }}, {"chars", func(f *api.Flags) { f.Quotes = 2 }}, {"atom", func(f *api.Flags) { f.Quotes = 3 }}},
		"unknown":         {{"error", func(f *api.Flags) { f.Unknown = 1 }}, {"fail", func(f *api.Flags) { f.Unknown = 2 }}},
	}
}

// noNames are strings that are not the name of a flag.
func noNames() []string {
	l := []string{"Bounded", "debug,", " unknown", "max_integers", "occurs_check", string(make([]byte, 1<<20))}
	for _, name := range names() {
		l = append(l, name, name+"_debug")
	}
	for _, name := range wantNames() {
		l = append(l, name[1:], name[:len(name)-1], name+"s", name+"\x00", "'"+name+"'")
	}
	return l
}

// wantGet is the chapter's table.
func wantGet(f api.Flags, name string) api.Term {
	onOff := map[bool]string{true: "on", false: "off"}
	switch name {
	case "char_conversion":
		return a(onOff[f.Conversion])
	case "debug":
		return a(onOff[f.Debug])
	case "double_quotes":
		return a([]string{"", "codes", "chars", "atom"}[f.Quotes])
	case "unknown":
		return a([]string{"", "error", "fail"}[f.Unknown])
	}
	return readOnly()[name]
}

// P8.1: the initial flags and the initial syntax, at each call.
func TestDefaultAndStart(t *testing.T) {
	for range 3 {
		if f := flags.Default(); f != (api.Flags{Quotes: 1, Unknown: 1}) {
			t.Errorf("Default() is %v", f)
		}
		s := flags.Start()
		if !slices.Equal(s.Ops, ops.Default()) || s.Flags != (api.Flags{Quotes: 1, Unknown: 1}) || len(s.Conv) != 0 {
			t.Errorf("Start() is %v", s)
		}
		if !flags.Valid(s.Flags) || !flags.ValidSyntax(s) {
			t.Error("the initial syntax is not valid")
		}
	}
}

// P8.1: the names of all flags, in the order of the table.
func TestNames(t *testing.T) {
	for range 3 {
		if l := flags.Names(); !slices.Equal(l, wantNames()) {
			t.Errorf("Names() is %q", l)
		}
	}
}

// P8.1: all flags that are valid, and many that are not.
func TestValid(t *testing.T) {
	if n := len(validFlags()); n != 24 {
		t.Errorf("%d flags are valid", n)
	}
	for _, f := range validFlags() {
		if !flags.Valid(f) {
			t.Errorf("Valid of %v is false", f)
		}
	}
	for _, f := range invalidFlags() {
		if flags.Valid(f) {
			t.Errorf("Valid of %v is true", f)
		}
	}
	for quotes := -10; quotes <= 10; quotes++ {
		for unknown := -10; unknown <= 10; unknown++ {
			f := api.Flags{Quotes: quotes, Unknown: unknown}
			if want := slices.Contains(validFlags(), f); flags.Valid(f) != want {
				t.Errorf("Valid of %v is %v", f, !want)
			}
		}
	}
}

// P8.1: a syntax is valid if each of its parts is.
func TestValidSyntax(t *testing.T) {
	for _, table := range validTables() {
		for _, f := range validFlags() {
			for _, pairs := range validConversions() {
				if s := (api.Syntax{Ops: table, Flags: f, Conv: pairs}); !flags.ValidSyntax(s) {
					t.Errorf("ValidSyntax of %s is false", showSyntax(s))
				}
			}
		}
	}
	for _, s := range invalidSyntaxes() {
		if flags.ValidSyntax(s) {
			t.Errorf("ValidSyntax of %s is true", showSyntax(s))
		}
	}
}

// gets reports an error unless Get has the results that are wanted.
func gets(t *testing.T, f api.Flags, name string, want api.Term, why api.Errno) {
	t.Helper()
	if value, e := flags.Get(f, name); e != why || !same(value, want) {
		t.Errorf("Get of %v and %.100q is %s, %v, not %s, %v", f, name, show(value), e, show(want), why)
	}
}

// P8.2: the values of all flags; names that no flag has; flags that are not valid, whatever the name is.
func TestGet(t *testing.T) {
	for _, f := range validFlags() {
		for _, name := range wantNames() {
			gets(t, f, name, wantGet(f, name), api.OK)
		}
		for _, name := range noNames() {
			gets(t, f, name, api.Term{}, api.ErrNone)
		}
	}
	for _, f := range invalidFlags() {
		for _, name := range append(wantNames(), "", "foo", "Debug") {
			gets(t, f, name, api.Term{}, api.ErrArg)
		}
	}
}

// sets reports an error unless Set has the results that are wanted.
func sets(t *testing.T, f api.Flags, name string, value api.Term, want api.Flags, why api.Errno) {
	t.Helper()
	if g, e := flags.Set(f, name, value); e != why || g != want {
		t.Errorf("Set of %v, %.100q and %s is %v, %v, not %v, %v", f, name, show(value), g, e, want, why)
	}
}

// P8.3: each value of each flag that can be changed, in all flags.
func TestSet(t *testing.T) {
	for _, f := range validFlags() {
		for name, l := range changes() {
			for _, c := range l {
				want := f
				c.do(&want)
				sets(t, f, name, a(c.value), want, api.OK)
			}
		}
	}
}

// values are terms that are the value of some flag, or of none.
func values() []api.Term {
	l := append(others(), x(5), s("f", x(3), x(1)), a("chars"), a("atom"), a("toward_zero"), a("on "), a("of"), a("offf"), a("code"), a("warning"), a("ON"))
	for _, name := range names() {
		l = append(l, a(name))
	}
	return l
}

// P8.3: terms that are not a value of the flag, among them the values of other flags, and structures with the name of a value.
func TestSetForm(t *testing.T) {
	refused := 0
	for name, l := range changes() {
		for _, value := range values() {
			isValue := slices.ContainsFunc(l, func(c change) bool { return same(a(c.value), value) })
			for _, f := range validFlags() {
				if !isValue {
					sets(t, f, name, value, api.Flags{}, api.ErrForm)
					refused++
				}
			}
		}
		for _, c := range l {
			sets(t, flags.Default(), name, s(c.value, a(c.value)), api.Flags{}, api.ErrForm)
			sets(t, flags.Default(), name, list(empty(), a(c.value)), api.Flags{}, api.ErrForm)
			sets(t, flags.Default(), name, chain(1999, a(c.value)), api.Flags{}, api.ErrForm)
		}
	}
	if refused < 24*4*(len(values())-7) {
		t.Errorf("only %d values have been refused", refused)
	}
}

// P8.3: ErrArg comes before ErrNone, ErrNone before ErrState, and ErrState before ErrForm.
func TestSetErrors(t *testing.T) {
	for _, f := range validFlags() {
		for name, value := range readOnly() {
			sets(t, f, name, value, api.Flags{}, api.ErrState)
			for _, other := range values() {
				sets(t, f, name, other, api.Flags{}, api.ErrState)
			}
		}
		for _, name := range noNames() {
			sets(t, f, name, a("on"), api.Flags{}, api.ErrNone)
			sets(t, f, name, s("f", x(7)), api.Flags{}, api.ErrNone)
		}
		for _, bad := range badNodes() {
			for _, name := range []string{"debug", "bounded", "foo", ""} {
				sets(t, f, name, bad, api.Flags{}, api.ErrArg)
				sets(t, f, name, s("on", bad), api.Flags{}, api.ErrArg)
			}
		}
	}
	for _, f := range invalidFlags() {
		for _, name := range append(wantNames(), "foo") {
			for _, value := range []api.Term{a("on"), a("codes"), a("error"), i(1), x(-1)} {
				sets(t, f, name, value, api.Flags{}, api.ErrArg)
			}
		}
	}
}

// P8.2, P8.3: the examples of the chapter.
func TestFlagExamples(t *testing.T) {
	f := flags.Default()
	gets(t, f, "double_quotes", a("codes"), api.OK)
	gets(t, f, "max_arity", i(8), api.OK)
	gets(t, f, "foo", api.Term{}, api.ErrNone)
	sets(t, f, "debug", a("on"), api.Flags{Quotes: 1, Unknown: 1, Debug: true}, api.OK)
	sets(t, f, "debug", i(1), api.Flags{}, api.ErrForm)
	sets(t, f, "bounded", a("false"), api.Flags{}, api.ErrState)
	sets(t, f, "foo", a("on"), api.Flags{}, api.ErrNone)
}

// P8.7: after Set, Get returns the new value for the flag, and the previous values for all others.
func TestSetChangesOneFlag(t *testing.T) {
	for _, f := range validFlags() {
		for name, l := range changes() {
			for _, c := range l {
				g, e := flags.Set(f, name, a(c.value))
				if e != api.OK || !flags.Valid(g) {
					t.Errorf("Set of %v, %s and %s is %v, %v", f, name, c.value, g, e)
				}
				for _, other := range wantNames() {
					before, _ := flags.Get(f, other)
					if other == name {
						before = a(c.value)
					}
					gets(t, g, other, before, api.OK)
				}
			}
		}
	}
}

// P8.7: setting a flag to its own value changes nothing, and a read-only flag cannot be set even to its own value.
func TestSetOwnValue(t *testing.T) {
	for _, f := range validFlags() {
		for _, name := range flags.Names() {
			value, _ := flags.Get(f, name)
			if _, fixed := readOnly()[name]; fixed {
				sets(t, f, name, value, api.Flags{}, api.ErrState)
			} else {
				sets(t, f, name, value, f, api.OK)
			}
		}
	}
}
