// Package chars is layer 1: character classes and character conversion. See shared/doc/01-chars.md.
package chars

import (
	"cmp"
	"slices"
	"strconv"
	"strings"

	"hornbeam/api"
)

// group lists the characters of a class.
type group struct {
	class   int
	members string
}

// The characters in none of these groups are of ClassOther.
var groups = [...]group{
	{api.ClassSmall, "abcdefghijklmnopqrstuvwxyz"},
	{api.ClassLayout, "\t\n\v\f\r "},
	{api.ClassCapital, "ABCDEFGHIJKLMNOPQRSTUVWXYZ_"},
	{api.ClassDigit, "0123456789"},
	{api.ClassSymbol, `#$&*+-./:<=>?@^~\`},
	{api.ClassSolo, "!(),;[]{}%|"},
	{api.ClassQuote, "'\"`"},
}

const (
	maxChar = 255

	// letters are those that denote the characters from bell on after a backslash.
	letters = "abtnvfr"
	bell    = 7

	minBase = 2
	maxBase = 36
)

// isChar is also what makes the conversion of an integer to a byte safe.
func isChar(c int) bool {
	return c >= 0 && c <= maxChar
}

// Class returns the class of a character.
func Class(c int) (class int) {
	if !isChar(c) {
		return api.ClassNone
	}
	has := func(g group) bool { return strings.IndexByte(g.members, byte(c)) >= 0 }
	for _, g := range groups {
		if has(g) {
			return g.class
		}
	}
	return api.ClassOther
}

// Digit returns the value of a digit in a base.
func Digit(c, base int) (value int, ok bool) {
	if base < minBase || base > maxBase {
		return 0, false
	}
	switch {
	case c >= '0' && c <= '9':
		value = c - '0'
	case c >= 'a' && c <= 'z':
		value = c - 'a' + 10
	case c >= 'A' && c <= 'Z':
		value = c - 'A' + 10
	default:
		return 0, false
	}
	if value >= base {
		return 0, false
	}
	return value, true
}

// Escape returns how a character is written within single quotes.
func Escape(c int) (text string, ok bool) {
	switch {
	case !isChar(c):
		return "", false
	case c >= bell && c < bell+len(letters):
		return `\` + letters[c-bell:c-bell+1], true
	case c == '\'' || c == '\\':
		return `\` + string(rune(c)), true
	case c >= ' ' && c <= '~':
		return string(rune(c)), true
	}
	return `\x` + strconv.FormatInt(int64(c), 16) + `\`, true
}

// Unescape returns the character that a letter after a backslash denotes.
func Unescape(letter int) (c int, ok bool) {
	switch letter {
	case '\\', '\'', '"', '`':
		return letter, true
	}
	if !isChar(letter) {
		return 0, false
	}
	at := strings.IndexByte(letters, byte(letter))
	if at < 0 {
		return 0, false
	}
	return bell + at, true
}

// Valid reports whether a conversion table is valid.
func Valid(l []api.Pair) (ok bool) {
	for i, p := range l {
		if !isChar(p.From) || !isChar(p.To) || p.From == p.To {
			return false
		}
		if i > 0 && l[i-1].From >= p.From {
			return false
		}
	}
	return true
}

// find returns the position of the pair for a character in a valid table, or where that pair would be inserted.
func find(l []api.Pair, from int) (at int, found bool) {
	return slices.BinarySearchFunc(l, from, func(p api.Pair, from int) int { return cmp.Compare(p.From, from) })
}

// Convert returns the character to which a conversion table maps a character.
func Convert(l []api.Pair, c int) (to int) {
	if !Valid(l) || !isChar(c) {
		return 0
	}
	if at, found := find(l, c); found {
		return l[at].To
	}
	return c
}

// Set returns the conversion table in which from is mapped to to.
func Set(l []api.Pair, from, to int) (table []api.Pair, e api.Errno) {
	if !Valid(l) || !isChar(from) || !isChar(to) {
		return nil, api.ErrArg
	}
	table = make([]api.Pair, len(l), len(l)+1)
	copy(table, l)
	at, found := find(table, from)
	if found {
		table = slices.Delete(table, at, at+1)
	}
	// A character that stands for itself has no pair: the table would not be valid.
	if from != to {
		table = slices.Insert(table, at, api.Pair{From: from, To: to})
	}
	return table, api.OK
}
