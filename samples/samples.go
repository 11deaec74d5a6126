// Package samples makes the texts and fields that the tests of several layers try; no layer calls it.
package samples

import "inlay/api"

// EachByte calls f with every byte, and with the text that consists of it.
func EachByte(f func(c byte, s string)) {
	for i := range 256 {
		f(byte(i), string([]byte{byte(i)}))
	}
}

// Words calls f with every text of at most n of the pieces.
func Words(pieces []string, n int, f func(s string)) {
	f("")
	if n == 0 {
		return
	}
	for _, p := range pieces {
		Words(pieces, n-1, func(s string) {
			f(p + s)
		})
	}
}

// Wide answers the bytes of s, each as a rune of its own, so that expressions can be held against them.
func Wide(s string) string {
	var runes []rune
	for i := range len(s) {
		runes = append(runes, rune(s[i]))
	}
	return string(runes)
}

// Fields answers the header fields of names and values in turn.
func Fields(pairs ...string) []api.Field {
	var out []api.Field
	for i := 1; i < len(pairs); i += 2 {
		out = append(out, api.Field{Name: pairs[i-1], Value: pairs[i]})
	}
	return out
}
