package text_test

import (
	"regexp"
	"slices"
	"strings"
	"testing"

	"inlay/api"
	"inlay/samples"
	"inlay/text"
)

const tokenBytes = "!#$%&'*+-.^_`|~0123456789" +
	"ABCDEFGHIJKLMNOPQRSTUVWXYZabcdefghijklmnopqrstuvwxyz"

// TestToken: P1.1.
func TestToken(t *testing.T) {
	cases := map[string]bool{
		"a-B~9": true, "": false, "a b": false, "\"": false,
		"a": true, "Max-Age": true, tokenBytes: true,
		" a": false, "a ": false, "a\t": false, "a,b": false, "a=b": false, "a/b": false,
		"caf\xc3\xa9": false, "\xff": false, "a\x00": false, "a\x7f": false,
	}
	for s, want := range cases {
		if got := text.Token(s); got != want {
			t.Errorf("Token(%q) = %v", s, got)
		}
	}
	samples.EachByte(func(c byte, s string) {
		want := strings.IndexByte(tokenBytes, c) >= 0
		for _, x := range []string{s, "a" + s, s + "a", "a" + s + "a"} {
			if got := text.Token(x); got != want {
				t.Errorf("Token(%q) = %v", x, got)
			}
		}
	})
}

// TestLower: P1.1.
func TestLower(t *testing.T) {
	cases := map[string]string{
		"ABz-1": "abz-1", "": "",
		"@AZ[`az{": "@az[`az{",
		// The letters of other alphabets stay, in UTF-8 or not.
		"\xc3\x89\xc4\xb0\xe2\x84\xaaK": "\xc3\x89\xc4\xb0\xe2\x84\xaak",
		"\xffA\xc1":                     "\xffa\xc1",
	}
	for s, want := range cases {
		if got := text.Lower(s); got != want {
			t.Errorf("Lower(%q) = %q", s, got)
		}
	}
	samples.EachByte(func(c byte, s string) {
		want := s
		if i := strings.IndexByte("ABCDEFGHIJKLMNOPQRSTUVWXYZ", c); i >= 0 {
			want = "abcdefghijklmnopqrstuvwxyz"[i : i+1]
		}
		if got := text.Lower("-" + s); got != "-"+want {
			t.Errorf("Lower(%q) = %q", "-"+s, got)
		}
	})
}

// TestSame: P1.1.
func TestSame(t *testing.T) {
	cases := []struct {
		a, b string
		want bool
	}{
		{"Vary", "vARY", true}, {"", "", true}, {"a", "A", true},
		{"a", "", false}, {"", "a", false}, {"a", "ab", false}, {"ab", "a", false}, {"a", "b", false},
		{"@", "`", false}, {"[", "{", false},
		{"k", "\xe2\x84\xaa", false}, {"\xc3\x89", "\xc3\xa9", false}, {"\xc9", "\xe9", false},
		{"\xff", "\xfe", false}, {"\xffA", "\xffa", true},
	}
	for _, c := range cases {
		if got := text.Same(c.a, c.b); got != c.want {
			t.Errorf("Same(%q, %q) = %v", c.a, c.b, got)
		}
	}
	samples.EachByte(func(_ byte, a string) {
		samples.EachByte(func(_ byte, b string) {
			if got := text.Same(a, b); got != (text.Lower(a) == text.Lower(b)) {
				t.Errorf("Same(%q, %q) = %v", a, b, got)
			}
		})
	})
}

// TestTrim: P1.1.
func TestTrim(t *testing.T) {
	cases := map[string]string{
		"  a b\t": "a b", "": "", " ": "", " \t \t": "", "a": "a", "\ta": "a", "a ": "a",
		"a \t b":     "a \t b",
		"\n a\r":     "\n a\r",
		"\xc2\xa0a":  "\xc2\xa0a",
		" \x00 ":     "\x00",
		" \xa0a\x85": "\xa0a\x85",
	}
	for s, want := range cases {
		if got := text.Trim(s); got != want {
			t.Errorf("Trim(%q) = %q", s, got)
		}
	}
	samples.EachByte(func(c byte, s string) {
		want := s + "x" + s
		if c == ' ' || c == '\t' {
			want = "x"
		}
		if got := text.Trim(s + "x" + s); got != want {
			t.Errorf("Trim(%q) = %q", s+"x"+s, got)
		}
	})
}

// TestQuote: P1.2.
func TestQuote(t *testing.T) {
	cases := []struct {
		s, want string
		e       api.Errno
	}{
		{`a"b\`, `"a\"b\\"`, api.OK},
		{"\n", "", api.ErrForm},
		{"", `""`, api.OK},
		{`"`, `"\""`, api.OK},
		{`\\`, `"\\\\"`, api.OK},
		{"\t x", "\"\t x\"", api.OK},
		{"\x80\xff", "\"\x80\xff\"", api.OK},
		{"a\"b\x00", "", api.ErrForm},
		{"\x7fa", "", api.ErrForm},
	}
	for _, c := range cases {
		if got, e := text.Quote(c.s); got != c.want || e != c.e {
			t.Errorf("Quote(%q) = %q, %d", c.s, got, e)
		}
	}
	samples.EachByte(func(c byte, s string) {
		want, wantE := `"x`+s+`"`, api.OK
		switch {
		case c < 32 && c != 9 || c == 127:
			want, wantE = "", api.ErrForm
		case c == '"' || c == '\\':
			want = `"x\` + s + `"`
		}
		if got, e := text.Quote("x" + s); got != want || e != wantE {
			t.Errorf("Quote(%q) = %q, %d", "x"+s, got, e)
		}
	})
}

// TestUnquote: P1.2.
func TestUnquote(t *testing.T) {
	cases := []struct {
		s, want string
		e       api.Errno
	}{
		{`"a\"b"`, `a"b`, api.OK},
		{`"\a"`, "a", api.OK},
		{`a`, "", api.ErrForm},
		{`"a"b"`, "", api.ErrForm},
		{`"`, "", api.ErrForm},
		{`"a\"`, "", api.ErrForm},
		{"", "", api.ErrForm},
		{`""`, "", api.OK},
		{`"\\"`, `\`, api.OK},
		{`"\\\""`, `\"`, api.OK},
		{`"\"`, "", api.ErrForm},
		{`"a`, "", api.ErrForm},
		{`a"`, "", api.ErrForm},
		{`"a" `, "", api.ErrForm},
		{` "a"`, "", api.ErrForm},
		{`"a""b"`, "", api.ErrForm},
		{"\"\t\xff\\\xff\\\t\"", "\t\xff\xff\t", api.OK},
		{"\"a\nb\"", "", api.ErrForm},
		{"\"a\\\nb\"", "", api.ErrForm},
	}
	for _, c := range cases {
		if got, e := text.Unquote(c.s); got != c.want || e != c.e {
			t.Errorf("Unquote(%q) = %q, %d", c.s, got, e)
		}
	}
	samples.EachByte(func(c byte, s string) {
		allowed := c == 9 || 32 <= c && c <= 126 || c >= 128
		bare := allowed && c != '"' && c != '\\'
		for x, ok := range map[string]bool{`"` + s + `"`: bare, `"\` + s + `"`: allowed} {
			want, wantE := s, api.OK
			if !ok {
				want, wantE = "", api.ErrForm
			}
			if got, e := text.Unquote(x); got != want || e != wantE {
				t.Errorf("Unquote(%q) = %q, %d", x, got, e)
			}
		}
	})
}

// TestUnquoteByGrammar: P1.2, held against the definition as an expression over bytes read as runes.
func TestUnquoteByGrammar(t *testing.T) {
	whole := regexp.MustCompile(`\A"(?:[\x09\x20\x21\x23-\x5b\x5d-\x7e\x{80}-\x{ff}]|\\[\x09\x20-\x7e\x{80}-\x{ff}])*"\z`)
	escape := regexp.MustCompile(`(?s)\\(.)`)
	samples.Words([]string{"\"", "\\", "a", "\t", "\n", "\xff"}, 6, func(s string) {
		var runes []rune
		for i := range len(s) {
			runes = append(runes, rune(s[i]))
		}
		wide := string(runes)
		want, wantE := "", api.ErrForm
		if whole.MatchString(wide) {
			plain := escape.ReplaceAllString(wide[1:len(wide)-1], "$1")
			var b []byte
			for _, r := range plain {
				b = append(b, byte(r))
			}
			want, wantE = string(b), api.OK
		}
		if got, e := text.Unquote(s); got != want || e != wantE {
			t.Errorf("Unquote(%q) = %q, %d; want %q, %d", s, got, e, want, wantE)
		}
	})
}

func checkSplit(t *testing.T, s string, sep byte, want []string, wantE api.Errno) {
	t.Helper()
	got, e := text.Split(s, sep)
	if e != wantE || !slices.Equal(got, want) {
		t.Errorf("Split(%q, %q) = %q, %d; want %q, %d", s, sep, got, e, want, wantE)
	}
}

// TestSplit: P1.3.
func TestSplit(t *testing.T) {
	cases := []struct {
		s    string
		sep  byte
		want []string
		e    api.Errno
	}{
		{`a, b"," , ,c`, ',', []string{"a", `b","`, "c"}, api.OK},
		{`"a`, ',', nil, api.ErrForm},
		{"a", '"', nil, api.ErrArg},
		{"a", '\\', nil, api.ErrArg},
		{"", '"', nil, api.ErrArg},
		{`"a`, '"', nil, api.ErrArg},
		{"", ',', nil, api.OK},
		{" \t", ',', nil, api.OK},
		{", ,\t,", ',', nil, api.OK},
		{",a,", ',', []string{"a"}, api.OK},
		{"a", ',', []string{"a"}, api.OK},
		{"a;b,c", ';', []string{"a", "b,c"}, api.OK},
		{"a;b,c", ',', []string{"a;b", "c"}, api.OK},
		{"\ta b\t,  c d ", ',', []string{"a b", "c d"}, api.OK},
		{"\na\r,b", ',', []string{"\na\r", "b"}, api.OK},
		{"a b\tc", ' ', []string{"a", "b\tc"}, api.OK},
		{"a b\tc", '\t', []string{"a b", "c"}, api.OK},
		{"axbxc", 'x', []string{"a", "b", "c"}, api.OK},
		{"a\x00b", 0, []string{"a", "b"}, api.OK},
		{"a\xffb\xfe", 0xff, []string{"a", "b\xfe"}, api.OK},
		{"\xe2\x82\xac,\xff", ',', []string{"\xe2\x82\xac", "\xff"}, api.OK},
		{"\xe2\x82\xac", 0x82, []string{"\xe2", "\xac"}, api.OK},
		// Quotes, and a byte 92 within and outside of them.
		{`"a,b",c`, ',', []string{`"a,b"`, "c"}, api.OK},
		{`"a\",b",c`, ',', []string{`"a\",b"`, "c"}, api.OK},
		{`"a\\",b`, ',', []string{`"a\\"`, "b"}, api.OK},
		{`\"a,b",c`, ',', []string{`\"a,b"`, "c"}, api.OK},
		{`a\,b`, ',', []string{`a\`, "b"}, api.OK},
		{`a\`, ',', []string{`a\`}, api.OK},
		{`x="a,b"y",c"`, ',', []string{`x="a,b"y",c"`}, api.OK},
		{`" a ", " "`, ',', []string{`" a "`, `" "`}, api.OK},
		{`"",""`, ',', []string{`""`, `""`}, api.OK},
		{"\"\n\x7f,\"", ',', []string{"\"\n\x7f,\""}, api.OK},
		{`"`, ',', nil, api.ErrForm},
		{`a,"b,c`, ',', nil, api.ErrForm},
		{`"a\"`, ',', nil, api.ErrForm},
		{`"a\`, ',', nil, api.ErrForm},
		{`"a" "`, ',', nil, api.ErrForm},
	}
	for _, c := range cases {
		checkSplit(t, c.s, c.sep, c.want, c.e)
	}
}

// TestSplitEverySeparator: P1.3; two bytes alone can't separate.
func TestSplitEverySeparator(t *testing.T) {
	samples.EachByte(func(c byte, s string) {
		if c == '"' || c == '\\' {
			checkSplit(t, "1"+s+"2", c, nil, api.ErrArg)
			return
		}
		if c != '1' && c != '2' {
			checkSplit(t, "1"+s+"2", c, []string{"1", "2"}, api.OK)
		}
		checkSplit(t, `"`+s+`"`, c, []string{`"` + s + `"`}, api.OK)
	})
}

// TestSplitLimit: P1.3; elements count once they are known not to be empty, and an open quote is told first.
func TestSplitLimit(t *testing.T) {
	many := func(n int) (string, []string) {
		l := slices.Repeat([]string{"a"}, n)
		return strings.Join(l, ","), l
	}
	s63, l63 := many(63)
	s64, l64 := many(64)
	s65, _ := many(65)
	checkSplit(t, s63, ',', l63, api.OK)
	checkSplit(t, s64, ',', l64, api.OK)
	checkSplit(t, s65, ',', nil, api.ErrLong)
	checkSplit(t, strings.Repeat(s65+",", 9), ',', nil, api.ErrLong)
	checkSplit(t, strings.Repeat(", ,\t,", 99)+s64+strings.Repeat(", ", 99), ',', l64, api.OK)
	checkSplit(t, s64+`,"`, ',', nil, api.ErrForm)
	checkSplit(t, s65+`,"`, ',', nil, api.ErrForm)
	checkSplit(t, s65, '"', nil, api.ErrArg)
	checkSplit(t, s65, ';', []string{s65}, api.OK)
	checkSplit(t, `"`+s65+`"`, ',', []string{`"` + s65 + `"`}, api.OK)
}

// TestNoPlaceIsShared: the elements of two answers are apart from each other.
func TestNoPlaceIsShared(t *testing.T) {
	first, _ := text.Split("a,b", ',')
	second, _ := text.Split("a,b", ',')
	first[0] = "x"
	_ = append(first[:1], "y")
	if !slices.Equal(second, []string{"a", "b"}) {
		t.Errorf("changed: %q", second)
	}
}

// TestThereAndBack: P1.4.
func TestThereAndBack(t *testing.T) {
	samples.Words([]string{"a", "A", " ", "\t", "\"", "\\", "\xff", "\n", ","}, 5, func(s string) {
		q, e := text.Quote(s)
		if wrong := strings.Contains(s, "\n"); wrong != (e != api.OK) {
			t.Errorf("Quote(%q): %d", s, e)
		}
		if e == api.OK {
			if got, e := text.Unquote(q); got != s || e != api.OK {
				t.Errorf("Unquote(%q) = %q, %d", q, got, e)
			}
			checkSplit(t, q, ',', []string{q}, api.OK)
		}
		low := text.Lower(s)
		if again := text.Lower(low); again != low {
			t.Errorf("Lower(%q) = %q", low, again)
		}
	})
	samples.EachByte(func(_ byte, s string) {
		q, e := text.Quote(s)
		if e != api.OK {
			return
		}
		if got, e := text.Unquote(q); got != s || e != api.OK {
			t.Errorf("Unquote(%q) = %q, %d", q, got, e)
		}
	})
}

// TestTokenElsewhere: P1.4, what the others make of a token.
func TestTokenElsewhere(t *testing.T) {
	tokens := []string{"a", "a-B~9", "max-age", tokenBytes}
	for i := range len(tokenBytes) {
		tokens = append(tokens, tokenBytes[i:i+1], "x"+tokenBytes[i:i+1])
	}
	for _, s := range tokens {
		if got, e := text.Unquote(s); got != "" || e != api.ErrForm {
			t.Errorf("Unquote(%q) = %q, %d", s, got, e)
		}
		if got := text.Trim(s); got != s {
			t.Errorf("Trim(%q) = %q", s, got)
		}
		samples.EachByte(func(sep byte, _ string) {
			if sep != '"' && sep != '\\' && strings.IndexByte(s, sep) < 0 {
				checkSplit(t, s, sep, []string{s}, api.OK)
			}
		})
	}
}

// TestAssembledLists: P1.5.
func TestAssembledLists(t *testing.T) {
	elements := []string{"a", "a b", "\\", "\xff", `""`, `","`, `" , "`, `"\""`, `"\\"`, `";\",\\"`, "a\tb=c"}
	around := []string{"", " ", "\t", " \t  "}
	for _, sep := range []byte{',', ';', '&', 0, 0xfe} {
		for i, a := range elements {
			for j, b := range elements {
				for k := range len(around) * len(around) {
					before, after := around[k%len(around)], around[k/len(around)]
					mid := before + string([]byte{sep}) + after
					c := elements[(i+j)%len(elements)]
					checkSplit(t, a+mid+b+mid+c, sep, []string{a, b, c}, api.OK)
				}
			}
		}
	}
	for n := 1; n <= 64; n++ {
		var l []string
		for i := range n {
			l = append(l, elements[i%len(elements)])
		}
		checkSplit(t, strings.Join(l, " ,\t"), ',', l, api.OK)
	}
}
