package vary_test

import (
	"math/rand"
	"reflect"
	"regexp"
	"slices"
	"strconv"
	"strings"
	"testing"
	"unsafe"

	"inlay/api"
	"inlay/samples"
	"inlay/vary"
)

const mostList = 64

// The definition of lists, as expressions: all of a list without an open quote; a part of it between commas; a token.
var (
	whole = regexp.MustCompile(`(?s)\A(?:[^"]|"(?:[^"\\]|\\.)*")*\z`)
	part  = regexp.MustCompile(`(?s)(?:[^",]|"(?:[^"\\]|\\.)*")+`)
	token = regexp.MustCompile("\\A[A-Za-z0-9!#$%&'*+.^_`|~-]+\\z")
)

// elements answers what the definition makes of a list; nothing and false where it is an error.
func elements(s string) ([]string, bool) {
	if !whole.MatchString(samples.Wide(s)) {
		return nil, false
	}
	var out []string
	for _, x := range part.FindAllString(samples.Wide(s), -1) {
		if x = strings.Trim(narrow(x), " \t"); x != "" {
			out = append(out, x)
		}
	}
	return out, len(out) <= mostList
}

// narrow undoes samples.Wide.
func narrow(s string) string {
	var out []byte
	for _, r := range s {
		out = append(out, byte(r))
	}
	return string(out)
}

// small answers s with small letters; those of other alphabets stay.
func small(s string) string {
	out := []byte(s)
	for i, c := range out {
		if 'A' <= c && c <= 'Z' {
			out[i] += 32
		}
	}
	return string(out)
}

// definedNames answers what the definition makes of the vary fields of these values.
func definedNames(values ...string) ([]string, bool) {
	var out []string
	for _, v := range values {
		l, ok := elements(v)
		if !ok {
			return nil, false
		}
		for _, x := range l {
			if x == "*" || !token.MatchString(x) {
				return nil, false
			}
			if x = small(x); !slices.Contains(out, x) {
				out = append(out, x)
			}
		}
	}
	return out, true
}

// definedValue answers what the definition makes of the fields of a name with these values.
func definedValue(values ...string) string {
	var out []string
	for _, v := range values {
		result := strings.Trim(v, " \t")
		if l, ok := elements(v); ok {
			result = strings.Join(l, ", ")
		}
		if result != "" {
			out = append(out, result)
		}
	}
	return strings.Join(out, ", ")
}

// of answers fields of one name.
func of(name string, values ...string) []api.Field {
	var out []api.Field
	for _, v := range values {
		out = append(out, api.Field{Name: name, Value: v})
	}
	return out
}

// wantNames holds the names of a reply with these fields; its status, reason, version and body make no difference.
func wantNames(t *testing.T, l []api.Field, want []string, ok bool) {
	t.Helper()
	for _, rep := range []api.Reply{{Fields: l}, {Status: 200, Reason: "*", Minor: 1, Fields: l, Body: "vary: *"}} {
		if got, gotOK := vary.Names(rep); gotOK != ok || !slices.Equal(got, want) {
			t.Errorf("Names(%s) = %.90q, %t; want %.90q, %t", samples.Told(l), got, gotOK, want, ok)
		}
	}
}

func wantDefinedNames(t *testing.T, values ...string) {
	t.Helper()
	want, ok := definedNames(values...)
	wantNames(t, of("Vary", values...), want, ok)
}

// wantSelect holds what is selected against names and values in turn; an entry of that matches, and one of anything else does not.
func wantSelect(t *testing.T, names []string, req []api.Field, pairs ...string) {
	t.Helper()
	want := samples.Fields(pairs...)
	if got := vary.Select(names, req); !slices.Equal(got, want) {
		t.Errorf("Select(%.90q, %s) = %s; want %s", names, samples.Told(req), samples.Told(got), samples.Told(want))
	}
	wantMatches(t, want, req, true)
	for i := range want {
		other := slices.Clone(want)
		other[i].Value += " "
		wantMatches(t, other, req, false)
	}
}

// wantValue holds the value of a name of which a request has fields with these values.
func wantValue(t *testing.T, want string, values ...string) {
	t.Helper()
	wantSelect(t, []string{"x"}, of("X", values...), "x", want)
}

// wantMatches holds what an entry with this Vary matches; its reply and its ticks make no difference.
func wantMatches(t *testing.T, selected, req []api.Field, want bool) {
	t.Helper()
	for _, e := range []api.Entry{{Vary: selected}, {Reply: api.Reply{Status: 200, Fields: samples.Fields("Vary", "*", "x", "y")}, Asked: 1, Got: 2, Vary: selected}} {
		if got := vary.Matches(e, req); got != want {
			t.Errorf("Matches(%s, %s) = %t", samples.Told(selected), samples.Told(req), got)
		}
	}
}

// TestExamples: P15.1, P15.2, the chapter's examples.
func TestExamples(t *testing.T) {
	wantNames(t, samples.Fields("vary", "Accept-Language, Cookie", "vary", "cookie"), []string{"accept-language", "cookie"}, true)
	for _, s := range []string{"*", "a, (", `"`} {
		wantNames(t, samples.Fields("vary", s), nil, false)
	}
	wantNames(t, nil, nil, true)
	wantNames(t, samples.Fields("vary", ""), nil, true)

	req := samples.Fields("Accept", "a ,b", "ACCEPT", "c", "Y", "d")
	wantSelect(t, []string{"accept", "x"}, req, "accept", "a, b, c", "x", "")
	selected := samples.Fields("accept", "a, b")
	wantMatches(t, selected, samples.Fields("accept", "a,b"), true)
	wantMatches(t, selected, samples.Fields("accept", "b, a"), false)
	wantMatches(t, nil, samples.Fields("accept", "a,b"), true)
}

// TestNames: P15.1, the names of replies.
func TestNames(t *testing.T) {
	for _, c := range []struct {
		pairs []string
		want  []string
	}{
		{[]string{"Vary", "a"}, []string{"a"}}, {[]string{"VARY", "A"}, []string{"a"}}, {[]string{"vArY", "Accept-Encoding"}, []string{"accept-encoding"}},
		// In order, not sorted, and each where it is first.
		{[]string{"Vary", "c,a,b"}, []string{"c", "a", "b"}}, {[]string{"Vary", "b, a, B, c, A"}, []string{"b", "a", "c"}}, {[]string{"Vary", "b", "vary", "a, b", "VARY", "c, A, d"}, []string{"b", "a", "c", "d"}}, {[]string{"Vary", "A, a", "Vary", "a"}, []string{"a"}},
		// Blanks and empty elements.
		{[]string{"Vary", " a\t,\t b "}, []string{"a", "b"}}, {[]string{"Vary", ",, a,\t,b, ,"}, []string{"a", "b"}}, {[]string{"Vary", " ", "Vary", ",", "Vary", "a"}, []string{"a"}}, {[]string{"Vary", "a", "Vary", ""}, []string{"a"}}, {[]string{"Vary", ", ,\t"}, nil}, {[]string{"Vary", "\t"}, nil}, {[]string{"Vary", "", "Vary", ""}, nil},
		// Tokens that are like *.
		{[]string{"Vary", "**"}, []string{"**"}}, {[]string{"Vary", "a*, *a"}, []string{"a*", "*a"}}, {[]string{"Vary", "'*'"}, []string{"'*'"}}, {[]string{"Vary", "!#$%&'*+-.^_`|~09azAZ"}, []string{"!#$%&'*+-.^_`|~09azaz"}}, {[]string{"Vary", "1, -, vary"}, []string{"1", "-", "vary"}},
		// Other fields tell nothing.
		{[]string{"X", "y", "Vary", "a", "Cookie", "*"}, []string{"a"}}, {[]string{"X-Vary", "*", "Vary-X", "(", "Var", "a", "", "b", "Vary ", "c"}, nil}, {[]string{"*", "Vary"}, nil},
	} {
		wantNames(t, samples.Fields(c.pairs...), c.want, true)
	}
}

// TestEverything: P15.1, replies that vary by everything, wherever they say so.
func TestEverything(t *testing.T) {
	for _, s := range []string{
		"*", " *\t", ",*,", "* *", "(", "a b", "a\tb", "a;b", "a=b", "a:b", "a/b", "a@b", "[a]", "{a}", "<a>", "a?", "a\\", "\\", `"a"`, `""`, `"*"`, `"a,b"`, `a"b"`, "\x00", "a\n", "\ra", "\x7f", "\xff", "caf\xc3\xa9", "\xc2\xa0a",
		`"`, `"a`, `a"`, `"a\"`, `"\`, `a, "b`, `"a" "`,
		strings.Repeat("a,", mostList+1), strings.Repeat(`"`, 1<<16+1), strings.Repeat("a,", 1<<16),
	} {
		for _, values := range [][]string{{s}, {s, "a"}, {"a", s}, {"a, b", s, ""}, {"", s}, {s, s}} {
			wantNames(t, of("vary", values...), nil, false)
		}
		for _, list := range []string{s + ", a", "a, " + s, "a," + s + ",b"} {
			wantNames(t, samples.Fields("x", "y", "Vary", list), nil, false)
		}
	}
}

// TestNamesEachByte: P15.1, every byte at every place of an element.
func TestNamesEachByte(t *testing.T) {
	samples.EachByte(func(_ byte, s string) {
		for _, x := range []string{s, "x" + s, s + "x", "x" + s + "x", s + s, "a," + s, s + ",a", "a, " + s + " ,b", `"` + s, s + `"`, `"` + s + `"`, "*" + s, s + "*", "A" + s + "a"} {
			wantDefinedNames(t, x)
			wantDefinedNames(t, "a", x)
		}
	})
}

// TestNamesByDefinition: P15.1, every text of few pieces, in a field and in two.
func TestNamesByDefinition(t *testing.T) {
	pieces := []string{"a", "B", "b", ",", " ", "*", "\"", "\\", "\t", "\xff"}
	samples.Words(pieces, 5, func(s string) {
		wantDefinedNames(t, s)
	})
	samples.Words(pieces[:7], 3, func(s string) {
		samples.Words(pieces[:7], 2, func(other string) {
			wantDefinedNames(t, s, other)
		})
	})
}

// TestNamesLimit: P15.1, a value has as many elements as Split allows, and a reply as many values as there are.
func TestNamesLimit(t *testing.T) {
	if api.MaxList != mostList {
		t.Errorf("MaxList = %d", api.MaxList)
	}
	many := func(from, n int) (string, []string) {
		var l []string
		for i := range n {
			l = append(l, "n"+strconv.Itoa(from+i))
		}
		return strings.Join(l, ", "), l
	}
	for n := 1; n <= mostList; n++ {
		s, l := many(0, n)
		wantNames(t, of("Vary", s), l, true)
		wantNames(t, of("Vary", s, strings.ToUpper(s)), l, true)
		wantNames(t, of("Vary", strings.Repeat(", ,", 99)+s+",\t,"), l, true)
	}
	full, l := many(0, mostList)
	over, _ := many(0, mostList+1)
	wantNames(t, of("Vary", over), nil, false)
	wantNames(t, of("Vary", full+", n0"), nil, false)
	wantNames(t, of("Vary", "a", over), nil, false)
	wantNames(t, of("Vary", full, "n64"), append(slices.Clone(l), "n64"), true)
	wantNames(t, of("Vary", full, "*"), nil, false)
	var values, all []string
	for i := range 100 {
		s, l := many(i*mostList, mostList)
		values, all = append(values, s, full), append(all, l...)
	}
	wantNames(t, of("Vary", values...), all, true)
	long := strings.Repeat("a", 1<<20)
	wantNames(t, of("Vary", long, strings.ToUpper(long)), []string{long}, true)
}

// TestValues: P15.2, the values that the fields of a name have together.
func TestValues(t *testing.T) {
	for _, c := range []struct {
		values []string
		want   string
	}{
		{nil, ""}, {[]string{""}, ""}, {[]string{" \t"}, ""}, {[]string{","}, ""}, {[]string{", ,\t,"}, ""}, {[]string{"", " ", ","}, ""},
		{[]string{"a"}, "a"}, {[]string{"A"}, "A"}, {[]string{" a\t"}, "a"}, {[]string{"a b"}, "a b"}, {[]string{"a  b\tc"}, "a  b\tc"}, {[]string{"a;q=1 , b; q=0.5"}, "a;q=1, b; q=0.5"}, {[]string{"a,b"}, "a, b"}, {[]string{"a , b"}, "a, b"}, {[]string{"a,\tb"}, "a, b"}, {[]string{",a,,b, "}, "a, b"}, {[]string{"a, a, a"}, "a, a, a"}, {[]string{"b, a"}, "b, a"}, {[]string{"*"}, "*"}, {[]string{"*, (a)"}, "*, (a)"},
		// Several fields.
		{[]string{"a", "b"}, "a, b"}, {[]string{"b", "a"}, "b, a"}, {[]string{"a ,b", "c"}, "a, b, c"}, {[]string{"", "a"}, "a"}, {[]string{"a", ""}, "a"}, {[]string{"a", " ", ",", "b"}, "a, b"}, {[]string{"a", "a"}, "a, a"},
		// Quotes.
		{[]string{`"a,b"`}, `"a,b"`}, {[]string{`"a,b",c`}, `"a,b", c`}, {[]string{`" a , b "`}, `" a , b "`}, {[]string{`x="a,b",y`}, `x="a,b", y`}, {[]string{`"a\",b",c`}, `"a\",b", c`}, {[]string{`""`, `""`}, `"", ""`}, {[]string{`\,b`}, `\, b`},
		// Split returns an error: the value stays, but for the blanks at its ends.
		{[]string{`"`}, `"`}, {[]string{` "a,b	`}, `"a,b`}, {[]string{`a,b,"c`}, `a,b,"c`}, {[]string{` ,a , "b ,`}, `,a , "b ,`}, {[]string{`"a\"`}, `"a\"`}, {[]string{"a,b", `"c,d`, "e,f"}, `a, b, "c,d, e, f`}, {[]string{`"a`, `b"`}, `"a, b"`}, {[]string{"", ` " `, ""}, `"`}, {[]string{"\t\" , ,", "a,b"}, `" , ,, a, b`},
		// Any bytes.
		{[]string{"\x00,\xff"}, "\x00, \xff"}, {[]string{"\n a \r"}, "\n a \r"}, {[]string{"\xc2\xa0,\xc3\xa9"}, "\xc2\xa0, \xc3\xa9"}, {[]string{"\x7f,\x7f"}, "\x7f, \x7f"},
	} {
		wantValue(t, c.want, c.values...)
	}
}

// TestValuesEachByte: P15.2, every byte at every place of a value.
func TestValuesEachByte(t *testing.T) {
	samples.EachByte(func(_ byte, s string) {
		for _, x := range []string{s, "x" + s, s + "x", "x" + s + "x", s + s, "a," + s, s + ",a", "a," + s + " ,b", `"` + s, s + `",`, `"` + s + `",b`, `"\` + s + `",b`, `\` + s + ",b"} {
			wantValue(t, definedValue(x), x)
			wantValue(t, definedValue("a,b", x, "c"), "a,b", x, "c")
		}
	})
}

// TestValuesByDefinition: P15.2, every text of few pieces, in a field and in two.
func TestValuesByDefinition(t *testing.T) {
	pieces := []string{"a", ",", " ", "\"", "b,c", "\\", "\t", "\xff"}
	samples.Words(pieces, 5, func(s string) {
		wantValue(t, definedValue(s), s)
	})
	samples.Words(pieces[:5], 3, func(s string) {
		samples.Words(pieces[:5], 3, func(other string) {
			wantValue(t, definedValue(s, other), s, other)
		})
	})
}

// TestValuesLimit: P15.2, a value of more elements than Split allows stays as it is; several fields may have more.
func TestValuesLimit(t *testing.T) {
	for n := 1; n <= mostList; n++ {
		wantValue(t, strings.Join(slices.Repeat([]string{"a"}, n), ", "), strings.Repeat(",a ", n))
	}
	full, over := strings.Repeat("a,", mostList), strings.Repeat("a,", mostList+1)
	parted := strings.Join(slices.Repeat([]string{"a"}, mostList), ", ")
	wantValue(t, over, over)
	wantValue(t, over, "\t "+over+" \t")
	wantValue(t, "x, y, "+over+", z", "x,y", over, "z")
	wantValue(t, parted+", a", full, "a")
	wantValue(t, strings.Join(slices.Repeat([]string{parted}, 99), ", "), slices.Repeat([]string{full}, 99)...)
	wantValue(t, strings.Repeat("a,", 1<<16)+"a", strings.Repeat("a,", 1<<16)+"a ")
	long := strings.Repeat("a", 1<<20)
	wantValue(t, long+", "+long, long+","+long)
}

// TestSelect: P15.2, a field for each name, in order, with the name as it stands there.
func TestSelect(t *testing.T) {
	req := samples.Fields("b", "1,2", "A", "3", "B", "4", "c d", "5", "", "6,7", "\xff", "8")
	for _, c := range []struct {
		names []string
		want  []string
	}{
		{nil, nil}, {[]string{}, nil}, {[]string{"a"}, []string{"a", "3"}}, {[]string{"b"}, []string{"b", "1, 2, 4"}}, {[]string{"a", "b"}, []string{"a", "3", "b", "1, 2, 4"}}, {[]string{"b", "a"}, []string{"b", "1, 2, 4", "a", "3"}},
		{[]string{"B", "A", "b"}, []string{"B", "1, 2, 4", "A", "3", "b", "1, 2, 4"}}, {[]string{"a", "a"}, []string{"a", "3", "a", "3"}}, {[]string{"z", "a", "y"}, []string{"z", "", "a", "3", "y", ""}},
		{[]string{"c d", "", "\xff", "\xfe"}, []string{"c d", "5", "", "6, 7", "\xff", "8", "\xfe", ""}}, {[]string{" a", "a ", "ab", "*"}, []string{" a", "", "a ", "", "ab", "", "*", ""}},
	} {
		wantSelect(t, c.names, req, c.want...)
	}
	for _, l := range [][]api.Field{nil, {}} {
		wantSelect(t, nil, l)
		wantSelect(t, []string{"a", "b"}, l, "a", "", "b", "")
	}
	var names, pairs []string
	for i := range 4096 {
		names = append(names, "n"+strconv.Itoa(i))
		pairs = append(pairs, names[i], "")
	}
	pairs[1] = "a, b"
	if got := vary.Select(names, samples.Fields("N0", "a,b", "Y", "d")); !slices.Equal(got, samples.Fields(pairs...)) {
		t.Errorf("Select of many names = %s", samples.Told(got))
	}
}

// TestMatches: P15.2, every field of the Vary is to have exactly the value of its name.
func TestMatches(t *testing.T) {
	for _, c := range []struct {
		selected, req []string
		want          bool
	}{
		{nil, nil, true}, {nil, []string{"a", "b"}, true},
		{[]string{"a", ""}, nil, true}, {[]string{"a", ""}, []string{"a", ""}, true}, {[]string{"a", ""}, []string{"A", " ", "a", ","}, true}, {[]string{"a", ""}, []string{"b", "c"}, true}, {[]string{"a", ""}, []string{"a", "b"}, false}, {[]string{"a", "b"}, nil, false}, {[]string{"a", "b"}, []string{"a", ""}, false}, {[]string{"a", "b"}, []string{"b", "a"}, false},
		{[]string{"A", "b"}, []string{"a", "b"}, true}, {[]string{"a", "b"}, []string{"A", "b"}, true}, {[]string{"a", "b"}, []string{"a", "B"}, false}, {[]string{"a", "b"}, []string{"a", "b", "a", "b"}, false}, {[]string{"a", "b, b"}, []string{"a", "b", "a", "b"}, true}, {[]string{"a", "b"}, []string{"a", " b\t"}, true},
		// The value stands as it was selected: it is not brought into form again.
		{[]string{"a", "b,c"}, []string{"a", "b,c"}, false}, {[]string{"a", "b, c"}, []string{"a", "b,c"}, true}, {[]string{"a", " b"}, []string{"a", " b"}, false}, {[]string{"a", "b,"}, []string{"a", "b,"}, false}, {[]string{"a", `"b,c`}, []string{"a", ` "b,c `}, true}, {[]string{"a", `"b, c`}, []string{"a", `"b,c`}, false},
		// All of several.
		{[]string{"a", "1", "b", "2"}, []string{"b", "2", "a", "1"}, true}, {[]string{"a", "1", "b", "2"}, []string{"b", "1", "a", "2"}, false}, {[]string{"a", "1", "b", "2"}, []string{"a", "1"}, false}, {[]string{"a", "1", "b", "2"}, []string{"b", "2"}, false}, {[]string{"a", "1", "b", ""}, []string{"a", "1"}, true}, {[]string{"a", "1", "b", "2", "c", "3"}, []string{"a", "1", "b", "x", "c", "3"}, false}, {[]string{"a", "1", "b", "2", "c", "3"}, []string{"a", "1", "b", "2", "c", "x"}, false}, {[]string{"a", "1", "b", "2", "c", "3"}, []string{"a", "x", "b", "2", "c", "3"}, false},
		{[]string{"a", "1", "a", "1"}, []string{"a", "1"}, true}, {[]string{"a", "1", "A", "1"}, []string{"a", "1"}, true}, {[]string{"a", "1", "a", "2"}, []string{"a", "1", "a", "2"}, false}, {[]string{"", "1"}, []string{"", "1"}, true}, {[]string{"", "1"}, []string{"x", "1"}, false}, {[]string{"\xff", "\xfe"}, []string{"\xff", "\xfe"}, true}, {[]string{"*", ""}, []string{"a", "b"}, true},
	} {
		wantMatches(t, samples.Fields(c.selected...), samples.Fields(c.req...), c.want)
	}
}

// TestMatchesByDefinition: P15.2, P15.3, every two texts of few pieces: selected is what matches, and the same value what matches it.
func TestMatchesByDefinition(t *testing.T) {
	var all []string
	samples.Words([]string{"a", "b", ",", " ", "\""}, 3, func(s string) {
		all = append(all, s)
	})
	for _, s := range all {
		selected := vary.Select([]string{"x"}, of("X", s))
		for _, other := range all {
			want := definedValue(s) == definedValue(other)
			if got := vary.Matches(api.Entry{Vary: selected}, of("x", other)); got != want {
				t.Errorf("selected from %q, it matches %q: %t", s, other, got)
			}
			if same := slices.Equal(selected, vary.Select([]string{"x"}, of("x", other))); same != want {
				t.Errorf("selected from %q and from %q is the same: %t", s, other, same)
			}
		}
	}
}

// drawing answers a function that draws one of the texts.
func drawing(random *rand.Rand, texts ...string) func() string {
	return func() string { return samples.Pick(random.Intn, texts...) }
}

// TestSamples: P15.1, P15.2, replies and requests of everything at a time, made of their meanings.
func TestSamples(t *testing.T) {
	random := rand.New(rand.NewSource(15))
	names := []string{"accept", "cookie", "x", "a*"}
	comma := drawing(random, ",", ", ", " ,", ",,", "\t, ,")
	element := drawing(random, "a", "b", "B", "a b", `","`, `"a" ;q=1`, "*", "\xff")
	cased := func(s string) string {
		if random.Intn(2) == 0 {
			return strings.ToUpper(s)
		}
		return s
	}
	for range 20000 {
		var rep, req []api.Field
		var wantNames []string
		for range random.Intn(4) {
			list := comma()
			for range random.Intn(4) {
				name := names[random.Intn(len(names))]
				list += cased(name) + comma()
				if !slices.Contains(wantNames, name) {
					wantNames = append(wantNames, name)
				}
			}
			rep = append(rep, api.Field{Name: cased("vary"), Value: list})
		}
		values := map[string][]string{}
		for range random.Intn(6) {
			name, list := append(names, "y")[random.Intn(len(names)+1)], ""
			for range random.Intn(3) {
				x := element()
				list += comma() + x
				values[name] = append(values[name], x)
			}
			req = append(req, api.Field{Name: cased(name), Value: list})
		}
		got, ok := vary.Names(api.Reply{Fields: rep})
		if !ok || !slices.Equal(got, wantNames) {
			t.Fatalf("Names(%s) = %q, %t; want %q", samples.Told(rep), got, ok, wantNames)
		}
		var pairs []string
		for _, name := range wantNames {
			pairs = append(pairs, name, strings.Join(values[name], ", "))
		}
		wantSelect(t, got, req, pairs...)
		if t.Failed() {
			return
		}
	}
}

// TestNoEffect: P15.3, in how many ways one request can be written, and requests that differ.
func TestNoEffect(t *testing.T) {
	random := rand.New(rand.NewSource(153))
	names := []string{"a", "b", "c"}
	element := drawing(random, "1", "2", "x y", `","`, `";", ""`, "(")
	blanks := drawing(random, "", " ", "\t", " \t ")
	// written answers fields that tell these lists, in one of many ways.
	written := func(lists [][]string) []api.Field {
		rest := slices.Clone(lists)
		var out []api.Field
		for slices.ContainsFunc(rest, func(l []string) bool { return len(l) > 0 }) || random.Intn(3) > 0 {
			i := random.Intn(len(names) + 1)
			if i == len(names) {
				out = append(out, api.Field{Name: "z", Value: element()})
				continue
			}
			n := random.Intn(len(rest[i]) + 1)
			list := blanks()
			for _, x := range rest[i][:n] {
				list += x + blanks() + "," + blanks()
			}
			rest[i] = rest[i][n:]
			name := names[i]
			if random.Intn(2) == 0 {
				name = strings.ToUpper(name)
			}
			out = append(out, api.Field{Name: name, Value: list})
		}
		return out
	}
	drawn := func() [][]string {
		out := make([][]string, len(names))
		for i := range out {
			for range random.Intn(3) {
				out[i] = append(out[i], element())
			}
		}
		return out
	}
	for range 20000 {
		lists := drawn()
		req := written(lists)
		selected := vary.Select(names, req)
		wantMatches(t, selected, req, true)
		again := written(lists)
		if got := vary.Select(names, again); !slices.Equal(got, selected) {
			t.Errorf("%s is selected from %s, and %s from %s", samples.Told(selected), samples.Told(req), samples.Told(got), samples.Told(again))
		}
		wantMatches(t, selected, again, true)
		other := written(drawn())
		wantMatches(t, selected, other, slices.Equal(vary.Select(names, other), selected))
		if t.Failed() {
			return
		}
	}
}

// TestArgumentsStay: P15.1, P15.2: nothing that comes in is changed or kept, and no answer has a place in common with it or with another answer.
func TestArgumentsStay(t *testing.T) {
	fresh := func(s string) string { return string([]byte(s)) }
	rep := api.Reply{Status: 200, Fields: []api.Field{{Name: fresh("Vary"), Value: fresh("accept,Cookie")}, {Name: fresh("vary"), Value: fresh("cookie")}}}
	first, _ := vary.Names(rep)
	second, _ := vary.Names(rep)
	if want := (api.Reply{Status: 200, Fields: samples.Fields("Vary", "accept,Cookie", "vary", "cookie")}); !reflect.DeepEqual(rep, want) {
		t.Errorf("changed: %s", samples.Told(rep.Fields))
	}
	if unsafe.StringData(first[0]) == unsafe.StringData(rep.Fields[0].Value) {
		t.Errorf("the name %q has its place in %q", first[0], rep.Fields[0].Value)
	}
	clear(first[:cap(first)])
	if want := []string{"accept", "cookie"}; !slices.Equal(second, want) {
		t.Errorf("changed: %q", second)
	}

	names, req := []string{fresh("accept"), fresh("x"), fresh("y")}, []api.Field{{Name: fresh("Accept"), Value: fresh("abc")}, {Name: fresh("X"), Value: fresh(`"d,e`)}}
	selected := vary.Select(names, req)
	other := vary.Select(names, req)
	for i := range 2 {
		if unsafe.StringData(selected[i].Name) == unsafe.StringData(names[i]) {
			t.Errorf("the name %q has its place among the names", names[i])
		}
		if unsafe.StringData(selected[i].Value) == unsafe.StringData(req[i].Value) {
			t.Errorf("the value %q has its place in the request", req[i].Value)
		}
	}
	e := api.Entry{Vary: selected}
	for range 2 {
		wantMatches(t, e.Vary, req, true)
	}
	want := samples.Fields("accept", "abc", "x", `"d,e`, "y", "")
	if !slices.Equal(selected, want) || !slices.Equal(names, []string{"accept", "x", "y"}) || !slices.Equal(req, samples.Fields("Accept", "abc", "X", `"d,e`)) {
		t.Errorf("changed: %s, %q, %s", samples.Told(selected), names, samples.Told(req))
	}
	clear(selected[:cap(selected)])
	if !slices.Equal(other, want) {
		t.Errorf("changed: %s", samples.Told(other))
	}
	req[0].Value, names[1] = "b", "z"
	if !slices.Equal(other, want) || vary.Matches(api.Entry{Vary: other}, req) {
		t.Errorf("kept: %s", samples.Told(other))
	}
}

// TestAnyBytes: P15.1, P15.2: no call panics, whatever it is given, and the definition holds.
func TestAnyBytes(t *testing.T) {
	random := rand.New(rand.NewSource(151))
	piece := drawing(random, "a", "B", ",", ", ", " ", "\t", `"`, `\`, "*", "(", "\x00", "\x7f", "\xff", "\r\n", "accept", "")
	draw := func() string {
		s := ""
		for range random.Intn(8) {
			s += piece()
		}
		return s
	}
	name := drawing(random, "vary", "Vary", "a", "A", "", "\xff", "*", " a")
	for range 30000 {
		var l []api.Field
		var varies []string
		values := map[string][]string{}
		for range random.Intn(5) {
			f := api.Field{Name: name(), Value: draw()}
			l = append(l, f)
			values[small(f.Name)] = append(values[small(f.Name)], f.Value)
			varies = values["vary"]
		}
		names, ok := definedNames(varies...)
		wantNames(t, l, names, ok)
		asked := []string{name(), draw(), name()}
		var pairs []string
		for _, n := range asked {
			pairs = append(pairs, n, definedValue(values[small(n)]...))
		}
		wantSelect(t, asked, l, pairs...)
		wantMatches(t, l, l, !slices.ContainsFunc(l, func(f api.Field) bool { return f.Value != definedValue(values[small(f.Name)]...) }))
		if t.Failed() {
			return
		}
	}
}
