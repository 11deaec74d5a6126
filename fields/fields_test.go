package fields_test

import (
	"math/rand"
	"regexp"
	"slices"
	"strings"
	"testing"

	"inlay/api"
	"inlay/fields"
	"inlay/samples"
)

const (
	mostFields = 64
	mostLine   = 2048
)

const nine = "connection keep-alive proxy-connection te trailer transfer-encoding upgrade proxy-authenticate proxy-authorization"

// The definitions, as expressions over bytes read as runes.
var (
	token = regexp.MustCompile("\\A[A-Za-z0-9!#$%&'*+.^_`|~-]+\\z")
	value = regexp.MustCompile(`\A([\x09\x20-\x7e\x{80}-\x{ff}]*)\z`)
	ends  = regexp.MustCompile(`\A[\x09\x20]|[\x09\x20]\z`)
)

func isToken(s string) bool {
	return token.MatchString(samples.Wide(s))
}

func isValue(s string) bool {
	w := samples.Wide(s)
	return value.MatchString(w) && !ends.MatchString(w)
}

func list(pairs ...string) []api.Field {
	return samples.Fields(pairs...)
}

// definedCheck: P4.1, from the definitions.
func definedCheck(l []api.Field) api.Errno {
	if len(l) > mostFields {
		return api.ErrLong
	}
	for _, f := range l {
		if !isToken(f.Name) || !isValue(f.Value) {
			return api.ErrForm
		}
		if len(f.Name)+2+len(f.Value) > mostLine {
			return api.ErrLong
		}
	}
	return api.OK
}

// definedParse: P4.2, from the definitions.
func definedParse(s string) ([]api.Field, api.Errno) {
	lines := strings.Split(s, "\r\n")
	var out []api.Field
	for i, line := range lines[:len(lines)-1] {
		if i+1 > mostFields || len(line) > mostLine {
			return nil, api.ErrLong
		}
		parts := strings.SplitN(line, ":", 2)
		if len(parts) < 2 || !isToken(parts[0]) {
			return nil, api.ErrForm
		}
		v := strings.Trim(parts[1], " \t")
		if !isValue(v) {
			return nil, api.ErrForm
		}
		if len(parts[0])+2+len(v) > mostLine {
			return nil, api.ErrLong
		}
		out = append(out, api.Field{Name: parts[0], Value: v})
	}
	if lines[len(lines)-1] != "" {
		return nil, api.ErrForm
	}
	return out, api.OK
}

func wantCheck(t *testing.T, l []api.Field, want api.Errno) {
	t.Helper()
	if e := fields.Check(l); e != want {
		t.Errorf("Check(%.80q) = %d; want %d", l, e, want)
	}
	if s := fields.Put(l); want != api.OK && s != "" {
		t.Errorf("Put(%.80q) = %.80q", l, s)
	}
}

func wantParse(t *testing.T, s string, want []api.Field, wantE api.Errno) {
	t.Helper()
	l, e := fields.Parse(s)
	if e != wantE || !slices.Equal(l, want) {
		t.Errorf("Parse(%.80q) = %.80q, %d; want %.80q, %d", s, l, e, want, wantE)
	}
}

func wantList(t *testing.T, call string, got, want []api.Field) {
	t.Helper()
	if !slices.Equal(got, want) {
		t.Errorf("%s: %.200q; want %.200q", call, got, want)
	}
}

func wantHop(t *testing.T, l []api.Field, more ...string) {
	t.Helper()
	want := append(strings.Split(nine, " "), more...)
	if got := fields.Hop(l); !slices.Equal(got, want) {
		t.Errorf("Hop(%.200q) = %q; want %q", l, got, want)
	}
}

func TestTheLimits(t *testing.T) {
	if api.MaxField != mostFields || api.MaxLine != mostLine {
		t.Errorf("MaxField = %d, MaxLine = %d", api.MaxField, api.MaxLine)
	}
}

// TestExamples: P4.2, P4.4, P4.5, the chapter's examples.
func TestExamples(t *testing.T) {
	wantParse(t, "", nil, api.OK)
	wantParse(t, "A: b\r\n", list("A", "b"), api.OK)
	wantParse(t, "A:b\r\na:  c d  \r\n", list("A", "b", "a", "c d"), api.OK)
	wantParse(t, "A:\r\n", list("A", ""), api.OK)
	for _, s := range []string{"A : b\r\n", ": b\r\n", "A b\r\n", "A: b", " A: b\r\n", "A: b\n\r\n"} {
		wantParse(t, s, nil, api.ErrForm)
	}
	wantParse(t, strings.Repeat("A: b\r\n", 64), slices.Repeat(list("A", "b"), 64), api.OK)
	wantParse(t, strings.Repeat("A: b\r\n", 65), nil, api.ErrLong)

	l := list("A", "b", "x", "y", "a", "c")
	if s, ok := fields.Get(l, "A"); s != "b, c" || !ok {
		t.Errorf("Get: %q, %v", s, ok)
	}
	if v := fields.Values(l, "A"); !slices.Equal(v, []string{"b", "c"}) {
		t.Errorf("Values: %q", v)
	}
	if s, ok := fields.Get(l, "z"); s != "" || ok {
		t.Errorf("Get: %q, %v", s, ok)
	}
	wantList(t, "Set", fields.Set(l, "a", "n"), list("A", "n", "x", "y"))
	wantList(t, "Set", fields.Set(l, "z", "n"), list("A", "b", "x", "y", "a", "c", "z", "n"))
	wantList(t, "Del", fields.Del(l, "A", "X"), nil)

	hops := list("Connection", `Close, X-A, "b", te, (c)`)
	wantHop(t, hops, "close", "x-a")
	wantList(t, "Clean", fields.Clean(append(hops, list("x-a", "1", "Y", "2")...)), list("Y", "2"))
}

// TestCheck: P4.1.
func TestCheck(t *testing.T) {
	for _, f := range []struct {
		name, value string
		want        api.Errno
	}{
		{"A", "b", api.OK}, {"A", "", api.OK}, {"a-B~9", "c \t d", api.OK}, {"A", ":", api.OK}, {"A", "\x80\xff", api.OK},
		{"", "b", api.ErrForm}, {"A ", "b", api.ErrForm}, {"A:", "b", api.ErrForm}, {"A b", "b", api.ErrForm}, {"\xc3\x89", "b", api.ErrForm},
		{"A", " ", api.ErrForm}, {"A", "\t", api.ErrForm}, {"A", " b", api.ErrForm}, {"A", "b ", api.ErrForm}, {"A", "\tb", api.ErrForm},
		{"A", "b\t", api.ErrForm}, {"A", "b\nc", api.ErrForm}, {"A", "b\rc", api.ErrForm}, {"A", "b\r\nC: d", api.ErrForm}, {"A", "b\x00", api.ErrForm},
		{"A", "b\x7fc", api.ErrForm},
		{"A", strings.Repeat("b", mostLine-3), api.OK}, {"A", strings.Repeat("b", mostLine-2), api.ErrLong},
		{strings.Repeat("A", mostLine-2), "", api.OK}, {strings.Repeat("A", mostLine-1), "", api.ErrLong},
		{strings.Repeat("A", 1000), strings.Repeat("b", 1046), api.OK}, {strings.Repeat("A", 1000), strings.Repeat("b", 1047), api.ErrLong},
		// A field that is not valid is told so, however long.
		{"A", strings.Repeat("b", mostLine) + "\n", api.ErrForm}, {"", strings.Repeat("b", mostLine), api.ErrForm}, {"A", strings.Repeat(" ", mostLine), api.ErrForm},
	} {
		wantCheck(t, list(f.name, f.value), f.want)
	}
	wantCheck(t, nil, api.OK)
	wantCheck(t, []api.Field{}, api.OK)
	wantCheck(t, list("A", "b", "", "c"), api.ErrForm)
}

// TestCheckOrder: P4.1, the number ahead of the fields, and those one by one.
func TestCheckOrder(t *testing.T) {
	good, wrong, long := list("A", "b"), list("", "b"), list("A", strings.Repeat("b", mostLine))
	wantCheck(t, slices.Repeat(good, mostFields), api.OK)
	wantCheck(t, slices.Repeat(good, mostFields+1), api.ErrLong)
	wantCheck(t, slices.Repeat(wrong, mostFields), api.ErrForm)
	wantCheck(t, slices.Repeat(wrong, mostFields+1), api.ErrLong)
	wantCheck(t, slices.Concat(good, wrong, long), api.ErrForm)
	wantCheck(t, slices.Concat(good, long, wrong), api.ErrLong)
	wantCheck(t, append(slices.Repeat(good, mostFields-1), wrong...), api.ErrForm)
	wantCheck(t, append(slices.Repeat(good, mostFields-1), long...), api.ErrLong)
}

// TestEachByte: P4.1, P4.2, every byte at every place of a name and of a value.
func TestEachByte(t *testing.T) {
	samples.EachByte(func(_ byte, a string) {
		for _, s := range []string{a, a + "x", "x" + a, "x" + a + "x"} {
			wantCheck(t, list(s, "v"), definedCheck(list(s, "v")))
			wantCheck(t, list("N", s), definedCheck(list("N", s)))
		}
		samples.EachByte(func(_ byte, b string) {
			for _, s := range []string{a + b + "N: v\r\n", "N" + a + b + " v\r\n", "N:" + a + b + "v\r\n", "N: v" + a + b + "\r\n", "N: v" + a + b, "N: v\r\n" + a + b} {
				l, e := definedParse(s)
				wantParse(t, s, l, e)
			}
		})
	})
}

// TestParse: P4.2.
func TestParse(t *testing.T) {
	for _, c := range []struct {
		s    string
		want []api.Field
	}{
		{"A: b: c\r\n", list("A", "b: c")}, {"A::\r\n", list("A", ":")}, {"A:\t b \t c \t\r\n", list("A", "b \t c")},
		{"A: \t \r\n", list("A", "")}, {"a-B~9:\x80\xff\r\n", list("a-B~9", "\x80\xff")},
		{"A: b\r\nA: b\r\n", list("A", "b", "A", "b")}, {"b: 1\r\na: 2\r\nB: 3\r\n", list("b", "1", "a", "2", "B", "3")},
		{"A: \xc2\xa0\r\n", list("A", "\xc2\xa0")}, {"A: \"\r\n", list("A", "\"")},
	} {
		wantParse(t, c.s, c.want, api.OK)
	}
	for _, s := range []string{
		"\r\n", "A: b\r\n\r\n", "\r\nA: b\r\n", "A\r\n", "A\t: b\r\n", "(A): b\r\n", "\xc3\x89: b\r\n",
		// A line end is 13 10 alone, and no line goes on in the next.
		"A: b\n", "A: b\r", "A: b\n\r", "A: b\nC: d\r\n", "A: b\rC: d\r\n", "A: b\r\r\n", "\r\r\n", "A: b\r\n c\r\n", "A: b\r\n\tc: d\r\n", "A: b\r\n:c\r\n",
		"A: b\x00\r\n", "A: \x00\r\n", "A: b\x7f\r\n", "A\x00: b\r\n", "A: \vb\r\n",
		// Remaining bytes.
		"A", "\r", "\n", " ", "A: b\r\nC: d", "A: b\r\nC: d\r", "A: b\r\n\n", "A: b\r\n\r", "A: b\r\n ",
	} {
		wantParse(t, s, nil, api.ErrForm)
	}
}

// TestParseLimits: P4.2, which error is the first, line by line.
func TestParseLimits(t *testing.T) {
	one, b := "A: b\r\n", func(n int) string { return strings.Repeat("b", n) }
	many := strings.Repeat(one, mostFields)
	for s, want := range map[string]api.Errno{
		many + "\r\n": api.ErrLong, many + "C\r\n": api.ErrLong, many + one: api.ErrLong, strings.Repeat(many, 9): api.ErrLong,
		many + "C": api.ErrForm, many + "\r": api.ErrForm, many + b(mostLine+1): api.ErrForm,
		"C\r\n" + many: api.ErrForm, many[6:] + "C\r\n": api.ErrForm, many[6:] + "C\r\n" + one: api.ErrForm,
		// The line as it came, 2048 bytes and one more.
		"A: " + b(mostLine-3) + "\r\n": api.OK, "A: " + b(mostLine-2) + "\r\n": api.ErrLong,
		"A:" + strings.Repeat(" ", mostLine-2) + "\r\n": api.OK, "A:" + strings.Repeat(" ", mostLine-1) + "\r\n": api.ErrLong,
		"A:" + strings.Repeat(" ", mostLine-3) + "b\r\n": api.OK, "A:" + strings.Repeat("\t", mostLine-2) + "b\r\n": api.ErrLong,
		b(mostLine-1) + " \r\n": api.ErrForm, b(mostLine) + "\r\n": api.ErrForm, b(mostLine+1) + "\r\n": api.ErrLong,
		// The line as it would be put, with a blank.
		"A:" + b(mostLine-3) + "\r\n": api.OK, "A:" + b(mostLine-2) + "\r\n": api.ErrLong, "A:" + b(mostLine-3) + " \r\n": api.OK,
		b(mostLine-2) + ":\r\n": api.OK, b(mostLine-1) + ":\r\n": api.ErrLong,
		// What is not a field, and would be too long with a blank.
		"A:" + b(mostLine-3) + "\n\r\n": api.ErrForm, ":" + b(mostLine-1) + "\r\n": api.ErrForm, ":" + b(mostLine) + "\r\n": api.ErrLong,
		// One line ahead of the other.
		"C\r\n" + b(mostLine+1) + "\r\n": api.ErrForm, b(mostLine+1) + "\r\nC\r\n": api.ErrLong,
		one + "A:" + b(mostLine-2) + "\r\nC\r\n": api.ErrLong, one + "C\r\nA:" + b(mostLine-2) + "\r\n": api.ErrForm,
		// Bytes that no line end follows.
		b(mostLine + 1): api.ErrForm, one + "A: " + b(3*mostLine): api.ErrForm, b(mostLine) + "\r\n" + b(9): api.ErrForm, b(mostLine+1) + "\r\n" + b(9): api.ErrLong,
	} {
		l, e := fields.Parse(s)
		if e != want || e != api.OK && len(l) != 0 || e == api.OK && len(l) != 1 {
			t.Errorf("Parse(%.40q, %d bytes) = %.40q, %d; want %d", s, len(s), l, e, want)
		}
		_, defined := definedParse(s)
		if defined != want {
			t.Errorf("defined of %.40q, %d bytes: %d; want %d", s, len(s), defined, want)
		}
	}
}

// TestParseByDefinition: P4.2, P4.6, every text of few pieces.
func TestParseByDefinition(t *testing.T) {
	samples.Words([]string{"A", ":", " ", "\t", "\r\n", "\r", "\n", "\xff", "b: c\r\n"}, 6, func(s string) {
		want, wantE := definedParse(s)
		wantParse(t, s, want, wantE)
		l, _ := fields.Parse(s)
		if e := fields.Check(l); e != api.OK {
			t.Errorf("Parse(%q) = %q: %d", s, l, e)
		}
	})
}

// TestPut: P4.3.
func TestPut(t *testing.T) {
	for _, c := range []struct {
		l    []api.Field
		want string
	}{
		{nil, ""}, {list("A", "b"), "A: b\r\n"}, {list("A", ""), "A: \r\n"}, {list("a", "b", "A", "c, d", "b", ":"), "a: b\r\nA: c, d\r\nb: :\r\n"},
		{list("A", "b\t c\xff"), "A: b\t c\xff\r\n"}, {slices.Repeat(list("A", "b"), mostFields), strings.Repeat("A: b\r\n", mostFields)},
		{list("A", strings.Repeat("b", mostLine-3)), "A: " + strings.Repeat("b", mostLine-3) + "\r\n"},
		{slices.Repeat(list("A", "b"), mostFields+1), ""}, {list("A", strings.Repeat("b", mostLine-2)), ""},
		{list("A", "b", "A:", "c"), ""}, {list("A", "b", "C", "d "), ""}, {list("A", "b\r\nC: d"), ""}, {list("", ""), ""},
	} {
		if got := fields.Put(c.l); got != c.want {
			t.Errorf("Put(%.80q) = %.80q; want %.80q", c.l, got, c.want)
		}
	}
}

// TestThereAndBack: P4.6.
func TestThereAndBack(t *testing.T) {
	b := strings.Repeat("b", mostLine)
	for _, l := range [][]api.Field{
		nil, list("A", ""), list("A", "b", "a", "c", "A", "b"), list("a-B~9", "\x80 \t\xff", "X", ":", "x", "\"\\"), list("A", b[3:], b[2:], ""),
		slices.Repeat(list("A", b[3:]), mostFields),
	} {
		wantParse(t, fields.Put(l), l, api.OK)
	}
	samples.EachByte(func(_ byte, s string) {
		for _, l := range [][]api.Field{list("N"+s, "v"), list("N", s), list("N", "v"+s+"v", s, "")} {
			if fields.Check(l) == api.OK {
				wantParse(t, fields.Put(l), l, api.OK)
			}
		}
	})
}

// TestGetAndValues: P4.4.
func TestGetAndValues(t *testing.T) {
	l := list("Aa", "1", "b", "", "aA", "2, 3", "C", "4", "AA", "", "aa", " 5")
	for _, c := range []struct {
		name   string
		values []string
		joined string
		found  bool
	}{
		{"aa", []string{"1", "2, 3", "", " 5"}, "1, 2, 3, ,  5", true}, {"AA", []string{"1", "2, 3", "", " 5"}, "1, 2, 3, ,  5", true},
		{"B", []string{""}, "", true}, {"c", []string{"4"}, "4", true}, {"C", []string{"4"}, "4", true},
		{"", nil, "", false}, {"a", nil, "", false}, {"aaa", nil, "", false}, {"c ", nil, "", false}, {"d", nil, "", false},
	} {
		if got := fields.Values(l, c.name); !slices.Equal(got, c.values) {
			t.Errorf("Values of %q: %q; want %q", c.name, got, c.values)
		}
		if got, ok := fields.Get(l, c.name); got != c.joined || ok != c.found {
			t.Errorf("Get of %q: %q, %v; want %q, %v", c.name, got, ok, c.joined, c.found)
		}
	}
	if got, ok := fields.Get(nil, "a"); got != "" || ok || len(fields.Values(nil, "a")) != 0 {
		t.Errorf("Get of no fields: %q, %v", got, ok)
	}
	// Names are held against each other byte by byte, but for the letters A to Z.
	odd := list("@", "1", "`", "2", "\xc9", "3", "\xe9", "4", "k", "5", "\xe2\x84\xaa", "6", "", "7")
	for _, f := range odd {
		if got, ok := fields.Get(odd, f.Name); got != f.Value || !ok {
			t.Errorf("Get of %q: %q, %v", f.Name, got, ok)
		}
	}
}

// TestSet: P4.4.
func TestSet(t *testing.T) {
	l := list("a", "1", "B", "2", "A", "3", "c", "4", "b", "5")
	for _, c := range []struct {
		name string
		want []api.Field
	}{
		{"A", list("a", "n", "B", "2", "c", "4", "b", "5")}, {"a", list("a", "n", "B", "2", "c", "4", "b", "5")},
		{"b", list("a", "1", "B", "n", "A", "3", "c", "4")}, {"C", list("a", "1", "B", "2", "A", "3", "c", "n", "b", "5")},
		{"D", append(slices.Clone(l), list("D", "n")...)}, {"", append(slices.Clone(l), list("", "n")...)}, {"a ", append(slices.Clone(l), list("a ", "n")...)},
	} {
		wantList(t, "Set of "+c.name, fields.Set(l, c.name, "n"), c.want)
	}
	wantList(t, "Set of none", fields.Set(nil, "a", ""), list("a", ""))
	wantList(t, "Set of the last", fields.Set(list("x", "1", "a", "2"), "a", ""), list("x", "1", "a", ""))
	wantList(t, "Set of what is not valid", fields.Set(list("x", "\n", "a b", "2"), "A B", " \n"), list("x", "\n", "a b", " \n"))
	many := slices.Repeat(list("x", "1"), 100)
	wantList(t, "Set of too many", fields.Set(many, "y", "2"), append(slices.Clone(many), list("y", "2")...))
}

// TestDel: P4.4.
func TestDel(t *testing.T) {
	l := list("a", "1", "B", "2", "A", "3", "c", "4", "b", "5", "", "6")
	for _, c := range []struct {
		names []string
		want  []api.Field
	}{
		{nil, l}, {[]string{"d"}, l}, {[]string{"a"}, list("B", "2", "c", "4", "b", "5", "", "6")}, {[]string{"A", "a"}, list("B", "2", "c", "4", "b", "5", "", "6")},
		{[]string{"b", "C", "x"}, list("a", "1", "A", "3", "", "6")}, {[]string{""}, l[:5]}, {[]string{"a,b", "a b", "a "}, l}, {[]string{"c", "", "B", "A"}, nil},
	} {
		wantList(t, "Del of "+strings.Join(c.names, "/"), fields.Del(l, c.names...), c.want)
	}
	wantList(t, "Del of none", fields.Del(nil, "a"), nil)
}

// TestHop: P4.5.
func TestHop(t *testing.T) {
	wantHop(t, nil)
	wantHop(t, list("x", "y", "Connections", "z"))
	wantHop(t, list("connection", ""))
	wantHop(t, list("CONNECTION", "B, a", "x", "c", "Connection", "D"), "b", "a", "d")
	// Each name once, whatever its letters.
	wantHop(t, list("Connection", "X, x, TE, Keep-Alive, X", "connection", "x, y, connection"), "x", "y")
	// Elements that are no tokens are no names; a value with an error has none, and the next value is not touched by it.
	wantHop(t, list("Connection", `a b, "c", (d), e=f, , g;h, `+"\xff, i"), "i")
	wantHop(t, list("Connection", `a, "b`, "Connection", `c", d`, "Connection", "e"), "e")
	wantHop(t, list("Connection", `a, "b, c", d`), "a", "d")
	var names []string
	for i := range 65 {
		names = append(names, "n"+strings.Repeat("x", i))
	}
	wantHop(t, list("Connection", strings.Join(names[:64], ",")), names[:64]...)
	wantHop(t, list("Connection", strings.Join(names, ",")))
	wantHop(t, list("Connection", strings.Join(names[:40], ","), "Connection", strings.Join(names[30:], ",")), names...)
}

// TestClean: P4.5.
func TestClean(t *testing.T) {
	var all []api.Field
	for _, name := range strings.Split(nine, " ") {
		all = append(all, list(name, "x", strings.ToUpper(name), "y", name+"s", "z")...)
	}
	var rest []api.Field
	for _, name := range strings.Split(nine, " ") {
		rest = append(rest, list(name+"s", "z")...)
	}
	wantList(t, "Clean of the nine", fields.Clean(all), rest)
	wantList(t, "Clean of none", fields.Clean(nil), nil)
	wantList(t, "Clean of others", fields.Clean(list("Host", "h", "Cookie", "c")), list("Host", "h", "Cookie", "c"))
	wantList(t, "Clean of named ones", fields.Clean(list("A", "1", "b", "2", "Connection", "a", "c", "3", "connection", "B", "B", "4")), list("c", "3"))
	wantList(t, "Clean of an error", fields.Clean(list("a", "1", "Connection", `a, "`, "te", "2")), list("a", "1"))
}

// lists calls f with lists of a few names and values, drawn anew each time, till one of them fails.
func lists(t *testing.T, n int, f func(l []api.Field)) {
	random := rand.New(rand.NewSource(4))
	names := []string{"a", "A", "b", "B", "ab", "Connection", "connection", "te", "", "x y", "\xff"}
	values := []string{"", "1", "2", "a", "a, B", "te, AB, a", "\"", `"a", b`, " x", "\n", "a;b"}
	for range n {
		var l []api.Field
		for range random.Intn(8) {
			l = append(l, list(names[random.Intn(len(names))], values[random.Intn(len(values))])...)
		}
		f(l)
		if t.Failed() {
			return
		}
	}
}

// TestOthersStay: P4.7.
func TestOthersStay(t *testing.T) {
	names := []string{"a", "b", "ab", "connection", "te", "", "x y", "\xff", "none"}
	spelt := []string{"A", "B", "aB", "ConnectioN", "TE", "", "X Y", "\xff", "None"}
	lists(t, 5000, func(l []api.Field) {
		for i, name := range names {
			set, del := fields.Set(l, spelt[i], "new"), fields.Del(l, name)
			if v := fields.Values(set, name); !slices.Equal(v, []string{"new"}) {
				t.Errorf("Set of %q in %q: %q", name, l, set)
			}
			if v, ok := fields.Get(del, name); ok || v != "" {
				t.Errorf("Del of %q in %q: %q", name, l, del)
			}
			for _, other := range names {
				before := fields.Values(l, other)
				if other != name && (!slices.Equal(fields.Values(set, other), before) || !slices.Equal(fields.Values(del, other), before)) {
					t.Errorf("%q of %q: Set of %q: %q; Del: %q", other, l, name, set, del)
				}
			}
		}
	})
}

// TestCleanOfClean: P4.7.
func TestCleanOfClean(t *testing.T) {
	lists(t, 50000, func(l []api.Field) {
		once := fields.Clean(l)
		wantList(t, "Clean of Clean", fields.Clean(once), once)
		wantList(t, "Clean by Del", once, fields.Del(l, fields.Hop(l)...))
		for _, name := range fields.Hop(l) {
			if v := fields.Values(once, name); len(v) != 0 {
				t.Errorf("Clean(%q) has %q", l, name)
			}
		}
	})
}

// TestCheckByDefinition: P4.1, P4.3, P4.6.
func TestCheckByDefinition(t *testing.T) {
	lists(t, 50000, func(l []api.Field) {
		want := definedCheck(l)
		wantCheck(t, l, want)
		if want == api.OK {
			wantParse(t, fields.Put(l), l, api.OK)
		}
	})
}

// results answers what each call makes of l, in an order that stays.
func results(l []api.Field, names ...string) [][]api.Field {
	return [][]api.Field{
		fields.Set(l, "a", "new"), fields.Set(l, "none", "new"), fields.Set(l, "B", "new"),
		fields.Del(l, names...), fields.Del(l), fields.Del(l, "none"), fields.Clean(l), fields.Clean(fields.Clean(l)),
	}
}

// TestArgumentsStay: P4.8, also of lists with room behind their end.
func TestArgumentsStay(t *testing.T) {
	lists(t, 2000, func(l []api.Field) {
		room := append(slices.Clone(l), slices.Repeat(list("room", "room"), 8)...)
		whole := slices.Clone(room)
		names := []string{"B", "a", "B"}
		given := room[:len(l)]
		results(given, names...)
		fields.Check(given)
		fields.Put(given)
		fields.Get(given, "a")
		fields.Values(given, "a")
		fields.Hop(given)
		if !slices.Equal(room, whole) || !slices.Equal(names, []string{"B", "a", "B"}) {
			t.Errorf("changed: %q, %q; was %q", room, names, whole)
		}
	})
}

// TestResultsAreNew: P4.8, what is done to a list, or to an answer, does not show in another answer.
func TestResultsAreNew(t *testing.T) {
	given := list("a", "1", "b", "2", "c", "3")
	want := results(slices.Clone(given), "b")
	got := results(given, "b")
	clear(given)
	for i := range got {
		wantList(t, "once the list was cleared", got[i], want[i])
		spare := got[i][:cap(got[i])]
		clear(spare)
		for j := i + 1; j < len(got); j++ {
			wantList(t, "once an answer was cleared", got[j], want[j])
		}
	}
	first, _ := fields.Parse("A: b\r\n")
	clear(first)
	wantParse(t, "A: b\r\n", list("A", "b"), api.OK)
	clear(fields.Hop(nil))
	wantHop(t, nil)
	l := list("a", "1", "A", "2")
	clear(fields.Values(l, "a"))
	if v := fields.Values(l, "a"); !slices.Equal(v, []string{"1", "2"}) {
		t.Errorf("Values: %q", v)
	}
}

// TestEmptyAndNil: P4.8; a list that is nil is one that is empty.
func TestEmptyAndNil(t *testing.T) {
	for _, l := range [][]api.Field{nil, {}} {
		wantCheck(t, l, api.OK)
		wantHop(t, l)
		if s, ok := fields.Get(l, ""); s != "" || ok || fields.Put(l) != "" || len(fields.Values(l, "")) != 0 {
			t.Errorf("Get: %q, %v", s, ok)
		}
		for _, got := range [][]api.Field{fields.Del(l), fields.Del(l, []string{}...), fields.Del(l, ""), fields.Clean(l)} {
			wantList(t, "of none", got, nil)
		}
		wantList(t, "Set", fields.Set(l, "", ""), list("", ""))
	}
}
