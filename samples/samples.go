// Package samples makes the texts and fields that the tests of several layers try; no layer calls it.
package samples

import (
	"slices"
	"strconv"
	"strings"

	"inlay/api"
)

// EachByte calls f with every byte, and with the text that consists of it.
func EachByte(f func(c byte, s string)) {
	for i := range 256 {
		f(byte(i), string([]byte{byte(i)}))
	}
}

// Words calls f with every text of at most n of the pieces.
func Words(pieces []string, n int, f func(s string)) {
	f("")
	if n == 0 {
		return
	}
	for _, p := range pieces {
		Words(pieces, n-1, func(s string) {
			f(p + s)
		})
	}
}

// Spoilt calls f with s, with every byte put at every place of it, and in place of what stands there, and with what there is when a part is missing, or stands there twice.
func Spoilt(s string, f func(s string)) {
	f(s)
	EachByte(func(_ byte, c string) {
		for i := range len(s) + 1 {
			f(s[:i] + c + s[i:])
			f(s[:i] + c + s[min(i+1, len(s)):])
		}
	})
	for i := range len(s) + 1 {
		for j := range len(s) + 1 {
			f(s[:i] + s[j:])
		}
	}
}

// Damaged answers s with one of the pieces put in place of a part of it, of a byte, or of none; draw answers a number from 0 to below n.
func Damaged(draw func(n int) int, s string, pieces ...string) string {
	i, j := draw(len(s)+1), draw(len(s)+1)
	if draw(2) == 0 {
		j = min(i+1, len(s))
	}
	return s[:i] + Pick(draw, pieces...) + s[j:]
}

// Wide answers the bytes of s, each as a rune of its own, so that expressions can be held against them.
func Wide(s string) string {
	var runes []rune
	for i := range len(s) {
		runes = append(runes, rune(s[i]))
	}
	return string(runes)
}

// Fields answers the header fields of names and values in turn.
func Fields(pairs ...string) []api.Field {
	var out []api.Field
	for i := 1; i < len(pairs); i += 2 {
		out = append(out, api.Field{Name: pairs[i-1], Value: pairs[i]})
	}
	return out
}

// Mixed answers the name with letters of any case; draw answers a number from 0 to below n.
func Mixed(name string, draw func(n int) int) string {
	out := []byte(name)
	for i, c := range out {
		if 'a' <= c && c <= 'z' && draw(3) == 0 {
			out[i] = c - 'a' + 'A'
		}
	}
	return string(out)
}

// Pick answers one of l; draw answers a number from 0 to below n.
func Pick[T any](draw func(n int) int, l ...T) T {
	return l[draw(len(l))]
}

// Inserted answers l with a field more, anywhere, its name with letters of any case; draw answers a number from 0 to below n.
func Inserted(draw func(n int) int, l []api.Field, name, value string) []api.Field {
	return slices.Insert(slices.Clone(l), draw(len(l)+1), api.Field{Name: Mixed(name, draw), Value: value})
}

// Told answers what a failed test says of a list of fields: the beginning of it, if it is long.
func Told(l []api.Field) string {
	var out []string
	for _, f := range l[:min(len(l), 9)] {
		out = append(out, strconv.Quote(f.Name+": "+f.Value[:min(len(f.Value), 90)]))
	}
	return "[" + strings.Join(out, ", ") + "]"
}
