// Package text is layer 1: the tokens, quoted strings and lists that fields are made of.
package text

import (
	"strings"

	"inlay/api"
)

// A part is what a byte is to the quotes of the text it stands in.
type part int

const (
	outside part = iota
	opens
	escapes
	held
	closes
)

// Token: P1.1.
func Token(s string) bool {
	for i := range len(s) {
		if !tokenByte(s[i]) {
			return false
		}
	}
	return s != ""
}

func tokenByte(c byte) bool {
	switch c {
	case '!', '#', '$', '%', '&', '\'', '*', '+', '-', '.', '^', '_', '`', '|', '~':
		return true
	}
	return 'a' <= c && c <= 'z' || 'A' <= c && c <= 'Z' || '0' <= c && c <= '9'
}

// Lower: P1.1.
func Lower(s string) string {
	out := []byte(s)
	for i := range len(out) {
		if 'A' <= out[i] && out[i] <= 'Z' {
			out[i] += 'a' - 'A'
		}
	}
	return string(out)
}

// Same: P1.1.
func Same(a, b string) bool {
	return Lower(a) == Lower(b)
}

// Trim: P1.1.
func Trim(s string) string {
	return strings.Clone(trimmed(s))
}

func trimmed(s string) string {
	for s != "" && blank(s[0]) {
		s = s[1:]
	}
	for s != "" && blank(s[len(s)-1]) {
		s = s[:len(s)-1]
	}
	return s
}

func blank(c byte) bool {
	return c == ' ' || c == '\t'
}

// quotable tells whether c may stand in a quoted string at all: bare or behind a byte 92.
func quotable(c byte) bool {
	return c == '\t' || c >= ' ' && c != 127
}

// quotes answers a function that is told the bytes of a text in order, and what each of them is.
func quotes() func(c byte) part {
	open, escaped := false, false
	return func(c byte) part {
		switch {
		case !open && c != '"':
			return outside
		case !open:
			open = true
			return opens
		case escaped:
			escaped = false
			return held
		case c == '\\':
			escaped = true
			return escapes
		case c == '"':
			open = false
			return closes
		}
		return held
	}
}

// Quote: P1.2.
func Quote(s string) (string, api.Errno) {
	out := []byte{'"'}
	for i := range len(s) {
		c := s[i]
		if !quotable(c) {
			return "", api.ErrForm
		}
		if c == '"' || c == '\\' {
			out = append(out, '\\')
		}
		out = append(out, c)
	}
	return string(append(out, '"')), api.OK
}

// Unquote: P1.2.
func Unquote(s string) (string, api.Errno) {
	var out []byte
	next, last := quotes(), outside
	for i := range len(s) {
		c := s[i]
		last = next(c)
		if last == outside || last == closes && i < len(s)-1 || !quotable(c) {
			return "", api.ErrForm
		}
		if last == held {
			out = append(out, c)
		}
	}
	if last != closes {
		return "", api.ErrForm
	}
	return string(out), api.OK
}

// Split: P1.3.
func Split(s string, sep byte) ([]string, api.Errno) {
	if sep == '"' || sep == '\\' {
		return nil, api.ErrArg
	}
	var out []string
	from := 0
	add := func(to int) {
		piece := trimmed(s[from:to])
		// One beyond the limit is enough to know that there are too many.
		if piece != "" && len(out) <= api.MaxList {
			out = append(out, strings.Clone(piece))
		}
		from = to + 1
	}
	next, last := quotes(), outside
	for i := range len(s) {
		last = next(s[i])
		if last == outside && s[i] == sep {
			add(i)
		}
	}
	if last != outside && last != closes {
		return nil, api.ErrForm
	}
	add(len(s))
	if len(out) > api.MaxList {
		return nil, api.ErrLong
	}
	return out, api.OK
}
