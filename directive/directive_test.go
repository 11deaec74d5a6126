package directive_test

import (
	"math/rand"
	"regexp"
	"slices"
	"strconv"
	"strings"
	"testing"
	"unsafe"

	"inlay/api"
	"inlay/directive"
	"inlay/samples"
	"inlay/text"
)

const (
	mostList   = 64
	tokenBytes = "!#$%&'*+-.^_`|~0123456789ABCDEFGHIJKLMNOPQRSTUVWXYZabcdefghijklmnopqrstuvwxyz"
)

// The definitions, as expressions over bytes read as runes.
var (
	// A value without an open quote, and a piece of it between two commas.
	closed = regexp.MustCompile(`(?s)\A(?:[^"]|"(?:[^"\\]|\\.)*")*\z`)
	piece  = regexp.MustCompile(`(?s)(?:[^",]|"(?:[^"\\]|\\.)*")+`)
	// An element that is a directive: its name, what follows it, a token, and what is between quotes.
	whole  = regexp.MustCompile("\\A(" + aToken + ")(=(?:(" + aToken + ")|\"((?:[\\x09\\x20\\x21\\x23-\\x5b\\x5d-\\x7e\\x{80}-\\x{ff}]|\\\\[\\x09\\x20-\\x7e\\x{80}-\\x{ff}])*)\"))?\\z")
	escape = regexp.MustCompile(`(?s)\\(.)`)
	small  = regexp.MustCompile("\\A[a-z0-9!#$%&'*+.^_`|~-]+\\z")
)

const aToken = "[A-Za-z0-9!#$%&'*+.^_`|~-]+"

// narrow takes back what samples.Wide does.
func narrow(s string) string {
	var out []byte
	for _, r := range s {
		out = append(out, byte(r))
	}
	return string(out)
}

// defined: P11.1, for one value, from the definitions.
func defined(value string) []api.Directive {
	wide := samples.Wide(value)
	var elements []string
	for _, s := range piece.FindAllString(wide, -1) {
		if s = strings.Trim(s, " \t"); s != "" {
			elements = append(elements, s)
		}
	}
	if !closed.MatchString(wide) || len(elements) > mostList {
		return []api.Directive{{Name: "no-store"}}
	}
	var out []api.Directive
	for _, s := range elements {
		parts := whole.FindStringSubmatch(s)
		if parts == nil {
			continue
		}
		plain := narrow(parts[3] + escape.ReplaceAllString(parts[4], "$1"))
		out = append(out, api.Directive{Name: strings.ToLower(parts[1]), Value: plain, Has: parts[2] != ""})
	}
	return out
}

// bare answers the directive of a name alone, and with one of a name and a value.
func bare(name string) api.Directive {
	return api.Directive{Name: name}
}

func with(name, value string) api.Directive {
	return api.Directive{Name: name, Value: value, Has: true}
}

func told(l []api.Directive) string {
	var out []string
	for _, d := range l[:min(len(l), 9)] {
		s := strconv.Quote(d.Name[:min(len(d.Name), 40)])
		if d.Has || d.Value != "" {
			s += " " + strconv.FormatBool(d.Has) + " " + strconv.Quote(d.Value[:min(len(d.Value), 40)])
		}
		if d.For != "" {
			s += " for " + strconv.Quote(d.For)
		}
		out = append(out, s)
	}
	return strconv.Itoa(len(l)) + " [" + strings.Join(out, "; ") + "]"
}

func wantList(t *testing.T, values []string, want ...api.Directive) {
	t.Helper()
	got := directive.List(values)
	if !slices.Equal(got, want) {
		t.Errorf("List(%.90q) = %s; want %s", values, told(got), told(want))
	}
	for _, d := range got {
		if !small.MatchString(samples.Wide(d.Name)) {
			t.Errorf("List(%.90q) has the name %q", values, d.Name)
		}
	}
}

// want holds List of one value against the directives that are to come.
func want(t *testing.T, value string, want ...api.Directive) {
	t.Helper()
	wantList(t, []string{value}, want...)
}

func wantFound(t *testing.T, l []api.Directive, name string, want api.Directive) {
	t.Helper()
	if got, ok := directive.Find(l, name); got != want || !ok {
		t.Errorf("Find(%s, %q) = %s, %t; want %s", told(l), name, told([]api.Directive{got}), ok, told([]api.Directive{want}))
	}
}

func wantNone(t *testing.T, l []api.Directive, name string) {
	t.Helper()
	if got, ok := directive.Find(l, name); got != (api.Directive{}) || ok {
		t.Errorf("Find(%s, %q) = %s, %t", told(l), name, told([]api.Directive{got}), ok)
	}
}

// TestExamples: P11.1, P11.2, the chapter's examples.
func TestExamples(t *testing.T) {
	want(t, "No-Cache, max-age=5", bare("no-cache"), with("max-age", "5"))
	want(t, `a="x,y", b`, with("a", "x,y"), bare("b"))
	want(t, `a= , =b, a b, a = b, c=(, d="x"y, e=`)
	want(t, `max-age=9, "x`, bare("no-store"))
	wantList(t, []string{"a", "b, c"}, bare("a"), bare("b"), bare("c"))

	first := directive.List([]string{"No-Cache, max-age=5"})
	wantFound(t, first, "MAX-AGE", with("max-age", "5"))
	wantNone(t, first, "x")
}

// TestDirectives: P11.1, elements that are directives, each of them alone.
func TestDirectives(t *testing.T) {
	for s, d := range map[string]api.Directive{
		"a": bare("a"), "A": bare("a"), "max-AGE": bare("max-age"), "0": bare("0"), "-": bare("-"), tokenBytes: bare(strings.ToLower(tokenBytes)),
		"a=b": with("a", "b"), "A=B": with("a", "B"), "Max-Age=007": with("max-age", "007"), "a=" + tokenBytes: with("a", tokenBytes), tokenBytes + "=a": with(strings.ToLower(tokenBytes), "a"),
		`a=""`: with("a", ""), `A="B"`: with("a", "B"), `a=" "`: with("a", " "), "a=\"\t\"": with("a", "\t"), `a=" b "`: with("a", " b "), `a="b c"`: with("a", "b c"), `a="b=c"`: with("a", "b=c"), `a="="`: with("a", "="),
		`a=","`: with("a", ","), `a="b, c"`: with("a", "b, c"), `a="\""`: with("a", `"`), `a="\\"`: with("a", `\`), `a="\b"`: with("a", "b"), `a="\",\\,"`: with("a", `",\,`), `a="(;)"`: with("a", "(;)"),
		"a=\"\xff\xc3\xa9\"": with("a", "\xff\xc3\xa9"), "a=\"\\\xff\\\t\"": with("a", "\xff\t"),
		" \ta\t ": bare("a"), "\ta=b ": with("a", "b"), ` a="b" `: with("a", "b"), ",a,": bare("a"), ", ,\t,a=b, ,": with("a", "b"),
		"no-store": bare("no-store"), "no-store=x": with("no-store", "x"), `private="Set-Cookie, X"`: with("private", "Set-Cookie, X"),
	} {
		want(t, s, d)
		want(t, s+", x", d, bare("x"))
		want(t, "x, "+s, bare("x"), d)
		want(t, s+","+s, d, d)
	}
}

// TestIgnored: P11.1, elements that are of no form of a directive; those beside them stay.
func TestIgnored(t *testing.T) {
	for _, s := range []string{
		"", " ", "\t", " , ", "=", "==", "= ", " =", "=a", `="a"`, `=""`, "a=", "a= ", "a =", "a\t= b",
		"a b", "a\tb", "a =b", "a= b", "a = b", "a\t=b", "a=\tb", `a ="b"`, `a= "b"`, `a = "b"`, "a=b c", "a=b ;c", "a;b", "a;b=c", "a=b;c",
		"a==b", "a==", "a=b=", "a=b=c", `a=="b"`, `a=b="c"`, `a="b"=c`, `a="b"=`,
		`"a"`, `"a"=b`, `"a"="b"`, `""`, `a"b"`, `a"b"=c`, `a="b"c`, `a=c"b"`, `a="b" c`, `a="b""c"`, `a="b" "c"`, `a="";`, `a="b"\`,
		"a(b)", "(a)", "a=(", "a=(b)", "a/b", "a=b/c", "a:b", "a=:", "a@b", "a=[", "a={}", "a<b", "a=?", `a\`, `\a`, `a=\`, `a=\b`, `\"a,b"`,
		"caf\xc3\xa9", "a=caf\xc3\xa9", "\xff", "a=\xff", "\xe2\x84\xaa", "a\x00", "\x00", "a=\x00", "a=\x7f", "a\n", "\na", "a\r\n", "a=b\n", "a=\nb", "\va",
		"a=\"\n\"", "a=\"\x00\"", "a=\"\x7f\"", "a=\"\\\n\"", "a=\"\\\x7f\"", "a=\"\x1f,b\"",
	} {
		want(t, s)
		want(t, "x=1, "+s+",y", with("x", "1"), bare("y"))
		wantList(t, []string{s, "z"}, bare("z"))
	}
}

// TestEachByte: P11.1, every byte at every place of a name, and of a value of both kinds.
func TestEachByte(t *testing.T) {
	samples.EachByte(func(c byte, s string) {
		isToken := strings.IndexByte(tokenBytes, c) >= 0
		isQuotable := c == 9 || 32 <= c && c <= 126 || c >= 128
		isPlain := isQuotable && c != '"' && c != '\\'
		low := s
		if 'A' <= c && c <= 'Z' {
			low = strings.ToLower(s)
		}
		if isToken {
			want(t, s, bare(low))
			want(t, "x"+s+"x", bare("x"+low+"x"))
			want(t, "x"+s+"=x", with("x"+low, "x"))
			want(t, s+"x=x", with(low+"x", "x"))
			want(t, "x="+s, with("x", s))
			want(t, "x=x"+s+"x", with("x", "x"+s+"x"))
		} else if c != ',' && c != '"' && c != '=' {
			want(t, s)
			want(t, "x"+s+"x")
			want(t, "x"+s+"=x")
			want(t, "x="+s)
			want(t, "x=x"+s+"x")
		}
		if isPlain {
			want(t, `x="`+s+`"`, with("x", s))
			want(t, `x="x`+s+`x"`, with("x", "x"+s+"x"))
		} else if c != '"' && c != '\\' {
			want(t, `x="`+s+`"`)
		}
		if isQuotable {
			want(t, `x="\`+s+`"`, with("x", s))
		} else {
			want(t, `x="\`+s+`"`)
		}
		for _, value := range []string{s, "x" + s, s + "x", "x" + s + "x", "x=" + s, "x=x" + s, "x" + s + "=x", s + "=x", "x=" + s + "x", `x="` + s + `"`, `x="\` + s + `"`, `x` + s + `"x"`, `x="x"` + s, "x" + s + "y" + s + "z"} {
			want(t, value, defined(value)...)
		}
	})
}

// TestValues: P11.1, value by value, and what one value is does not touch the next.
func TestValues(t *testing.T) {
	wantList(t, nil)
	wantList(t, []string{})
	wantList(t, []string{""})
	wantList(t, []string{"", " ", ",", ", ,"})
	wantList(t, []string{"b=2, a", "", "A=1", "b"}, with("b", "2"), bare("a"), with("a", "1"), bare("b"))
	wantList(t, []string{`a="x`, `y"`}, bare("no-store"), bare("no-store"))
	wantList(t, []string{"a, b", `c, "`, "d, (e), f"}, bare("a"), bare("b"), bare("no-store"), bare("d"), bare("f"))
	wantList(t, []string{`"`, `no-store=x, "`, "a"}, bare("no-store"), bare("no-store"), bare("a"))
	for _, s := range []string{`"`, `"x`, `a, b="c`, `a="b\"`, `a="b\`, `a="b\\\"`, `a", b`, `a="b""`, `"" "`, "\"\n", `\"`, `a, ", b", "c`} {
		want(t, s, bare("no-store"))
		wantList(t, []string{"x", s, "y"}, bare("x"), bare("no-store"), bare("y"))
	}
}

// TestLimit: P11.1, what Split refuses; all elements of a value count, directives or not, and each value by itself.
func TestLimit(t *testing.T) {
	if api.MaxList != mostList {
		t.Errorf("MaxList = %d", api.MaxList)
	}
	many := func(n int, element string) string { return strings.Repeat(element+", ", n) }
	all := func(n int, d api.Directive) []api.Directive { return slices.Repeat([]api.Directive{d}, n) }
	want(t, many(mostList-1, "a=b"), all(mostList-1, with("a", "b"))...)
	want(t, many(mostList, "a=b"), all(mostList, with("a", "b"))...)
	want(t, many(mostList+1, "a=b"), bare("no-store"))
	want(t, many(mostList-1, "(x)")+"a", bare("a"))
	want(t, many(mostList, "(x)"))
	want(t, many(mostList, "(x)")+"a", bare("no-store"))
	want(t, many(mostList+1, "(x)"), bare("no-store"))
	want(t, many(mostList, "a")+`"`, bare("no-store"))
	want(t, many(9*mostList, "")+many(mostList, "a")+many(9*mostList, ""), all(mostList, bare("a"))...)
	want(t, `a="`+many(9*mostList, "x")+`"`, with("a", many(9*mostList, "x")))
	wantList(t, []string{many(mostList, "a"), many(mostList, "b"), many(mostList+1, "c"), "d"}, slices.Concat(all(mostList, bare("a")), all(mostList, bare("b")), []api.Directive{bare("no-store"), bare("d")})...)
	wantList(t, slices.Repeat([]string{"a"}, 9*mostList), all(9*mostList, bare("a"))...)
	long := strings.Repeat("A", 1<<20)
	want(t, long, bare(strings.ToLower(long)))
	want(t, long+"="+long, with(strings.ToLower(long), long))
	want(t, long+`="`+long, bare("no-store"))
	want(t, strings.Repeat(`a="`, 1<<16))
	want(t, strings.Repeat("=", 1<<20))
}

// TestByDefinition: P11.1, P11.3, every text of few pieces.
func TestByDefinition(t *testing.T) {
	for _, pieces := range [][]string{
		{"a", "B", "=", ",", "\"", "\\", " ", "\n"},
		{"A", "=", ",", "\"", "\\\"", "\t", "\xff", "(", `="`},
	} {
		samples.Words(pieces, 5, func(s string) {
			want(t, s, defined(s)...)
		})
	}
	samples.Words([]string{"a", "=", ",", "\""}, 8, func(s string) {
		want(t, s, defined(s)...)
	})
}

// TestFind: P11.2.
func TestFind(t *testing.T) {
	l := []api.Directive{
		{Name: "b", Value: "1", Has: true}, {Name: "a", For: "d"}, {Name: "A", Value: "2", Has: true, For: "e"}, {Name: "Max-Age", Value: "x\"", Has: true},
		{Name: "b"}, {Name: "x y", Value: "3"}, {Name: "\xff"}, {Name: "k", Has: true}, {Name: "@", Value: "4"},
	}
	for name, place := range map[string]int{"b": 0, "B": 0, "a": 1, "A": 1, "max-age": 3, "MAX-AGE": 3, "mAx-aGe": 3, "x y": 5, "X Y": 5, "\xff": 6, "K": 7, "k": 7, "@": 8} {
		wantFound(t, l, name, l[place])
	}
	for _, name := range []string{"", "c", "ab", "max", "max-age ", " a", "max_age", "\xfe", "\xe2\x84\xaa", "`", "a,b", "a=2", "x"} {
		wantNone(t, l, name)
		wantNone(t, nil, name)
		wantNone(t, []api.Directive{}, name)
	}
	// What has no name is found by none.
	wantFound(t, append(slices.Clone(l), api.Directive{Value: "5"}, api.Directive{Value: "6"}), "", api.Directive{Value: "5"})
	for i, d := range l {
		wantFound(t, l[i:], d.Name, d)
	}
	samples.EachByte(func(_ byte, a string) {
		samples.EachByte(func(_ byte, b string) {
			if d := bare("x" + a); text.Same(a, b) {
				wantFound(t, []api.Directive{d}, "X"+b, d)
			} else {
				wantNone(t, []api.Directive{d}, "X"+b)
			}
		})
	})
}

// TestOneAfterTheOther: P11.3.
func TestOneAfterTheOther(t *testing.T) {
	random := rand.New(rand.NewSource(11))
	pieces := []string{"a", "B", "Max-Age=5", `c="x, y"`, "=", ",", ", ", "\"", " ", "\\", "(", "\xff", strings.Repeat("a,", mostList), ""}
	draw := func() []string {
		var values []string
		for range random.Intn(4) {
			var s string
			for range random.Intn(6) {
				s += pieces[random.Intn(len(pieces))]
			}
			values = append(values, s)
		}
		return values
	}
	for range 20000 {
		a, b := draw(), draw()
		wantList(t, slices.Concat(a, b), slices.Concat(directive.List(a), directive.List(b))...)
		var each []api.Directive
		for _, s := range a {
			each = append(each, defined(s)...)
		}
		wantList(t, a, each...)
		if t.Failed() {
			return
		}
	}
}

// TestThereAndBack: P11.4.
func TestThereAndBack(t *testing.T) {
	random := rand.New(rand.NewSource(114))
	names := []string{"a", "max-age", "no-store", "x!#$%&'*+-.^_`|~0", "9"}
	values := []string{"", "1", "B", "b c", ",", "a, b", "\"", "\\", "\\\"", "=", "a=b", " ", "\t x ", "\xff\xc3\xa9", tokenBytes, "(;)", "no-store"}
	blanks := []string{"", " ", "\t", " \t  "}
	for n := range mostList + 1 {
		for range 60 {
			var l []api.Directive
			var quoted, short []string
			for range n {
				d := bare(names[random.Intn(len(names))])
				q, s := d.Name, d.Name
				if random.Intn(4) > 0 {
					d = with(d.Name, values[random.Intn(len(values))])
					inQuotes, e := text.Quote(d.Value)
					if e != api.OK {
						t.Fatalf("Quote(%q): %d", d.Value, e)
					}
					q += "=" + inQuotes
					s = q
					if text.Token(d.Value) {
						s = d.Name + "=" + d.Value
					}
				}
				l, quoted, short = append(l, d), append(quoted, q), append(short, s)
			}
			around := blanks[random.Intn(len(blanks))] + "," + blanks[random.Intn(len(blanks))]
			want(t, strings.Join(quoted, around), l...)
			want(t, strings.Join(short, around), l...)
		}
	}
	samples.EachByte(func(_ byte, s string) {
		for _, value := range []string{s, "x" + s, s + "x", s + s} {
			if q, e := text.Quote(value); e == api.OK {
				want(t, "a="+q+" , b="+q, with("a", value), with("b", value))
			}
		}
	})
}

// shared tells whether two texts have a place in common.
func shared(a, b string) bool {
	if a == "" || b == "" {
		return false
	}
	x, y := uintptr(unsafe.Pointer(unsafe.StringData(a))), uintptr(unsafe.Pointer(unsafe.StringData(b)))
	return x < y+uintptr(len(b)) && y < x+uintptr(len(a))
}

func texts(l ...api.Directive) []string {
	var out []string
	for _, d := range l {
		out = append(out, d.Name, d.Value, d.For)
	}
	return out
}

func wantApart(t *testing.T, a, b []string) {
	t.Helper()
	for _, x := range a {
		for _, y := range b {
			if shared(x, y) {
				t.Errorf("%q shares its place with %q", x, y)
			}
		}
	}
}

// TestArgumentsStay: nothing that comes in is changed, and no answer has a place in common with it or with another answer.
func TestArgumentsStay(t *testing.T) {
	values := []string{"Abc=Def, ghi", `jkl="m\n", opq=""`, "rst=uvw", `"`, "xyz"}
	room := append(slices.Clone(values), "room", "room")
	first := directive.List(room[:len(values)])
	second := directive.List(values)
	if !slices.Equal(room, append(slices.Clone(values), "room", "room")) {
		t.Errorf("changed: %q", room)
	}
	wantApart(t, texts(first...), values)
	clear(first[:cap(first)])
	if want := []api.Directive{with("abc", "Def"), bare("ghi"), with("jkl", "mn"), with("opq", ""), with("rst", "uvw"), bare("no-store"), bare("xyz")}; !slices.Equal(second, want) {
		t.Errorf("changed: %s", told(second))
	}
	l := []api.Directive{{Name: "abc", Value: "def", Has: true, For: "ghi"}, bare("x"), bare("y")}
	was := slices.Clone(l)
	found, _ := directive.Find(l[:2], "ABC")
	directive.Find(l[:2], "none")
	wantApart(t, texts(found), texts(l...))
	if !slices.Equal(l, was) || found != was[0] {
		t.Errorf("changed: %s", told(l))
	}
}
