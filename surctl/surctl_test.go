package surctl_test

import (
	"math/rand"
	"regexp"
	"slices"
	"strconv"
	"strings"
	"testing"
	"unsafe"

	"inlay/api"
	"inlay/samples"
	"inlay/surctl"
)

const (
	mostList   = 64
	most       = 2147483648
	tokenBytes = "!#$%&'*+-.^_`|~0123456789ABCDEFGHIJKLMNOPQRSTUVWXYZabcdefghijklmnopqrstuvwxyz"
	aToken     = "[A-Za-z0-9!#$%&'*+.^_`|~-]+"
)

// The definitions, as expressions over bytes read as runes.
var (
	// A text without an open quote, and a piece of it between two commas, or two semicolons.
	closed  = regexp.MustCompile(`(?s)\A(?:[^"]|"(?:[^"\\]|\\.)*")*\z`)
	between = map[byte]*regexp.Regexp{
		',': regexp.MustCompile(`(?s)(?:[^",]|"(?:[^"\\]|\\.)*")+`),
		';': regexp.MustCompile(`(?s)(?:[^";]|"(?:[^"\\]|\\.)*")+`),
	}
	// A part that is a directive: its name, what follows it, a token, and what is between quotes.
	whole  = regexp.MustCompile("\\A(" + aToken + ")(=(?:(" + aToken + ")|\"((?:[\\x09\\x20\\x21\\x23-\\x5b\\x5d-\\x7e\\x{80}-\\x{ff}]|\\\\[\\x09\\x20-\\x7e\\x{80}-\\x{ff}])*)\"))?\\z")
	escape = regexp.MustCompile(`(?s)\\(.)`)
	token  = regexp.MustCompile("\\A" + aToken + "\\z")
	// A max-age of a delta or of two, and a content with the word.
	ages = regexp.MustCompile(`\A([0-9]+)(?:\+([0-9]+))?\z`)
	word = regexp.MustCompile(`(?s)(?:\A|[ \t])ESI/1\.0(?:[ \t]|\z)`)
)

// narrow takes back what samples.Wide does.
func narrow(s string) string {
	var out []byte
	for _, r := range s {
		out = append(out, byte(r))
	}
	return string(out)
}

// pieces answers what a wide text is split into, and whether it can be split.
func pieces(wide string, sep byte) ([]string, bool) {
	var out []string
	for _, s := range between[sep].FindAllString(wide, -1) {
		if s = strings.Trim(s, " \t"); s != "" {
			out = append(out, s)
		}
	}
	return out, closed.MatchString(wide) && len(out) <= mostList
}

// defined: P12.1, what one value states, from the definitions.
func defined(value string) []api.Directive {
	elements, ok := pieces(samples.Wide(value), ',')
	if !ok {
		return []api.Directive{bare("no-store")}
	}
	var out []api.Directive
	for _, element := range elements {
		parts, ok := pieces(element, ';')
		if !ok {
			out = append(out, bare("no-store"))
			continue
		}
		if len(parts) < 1 || len(parts) > 2 || len(parts) == 2 && !token.MatchString(parts[1]) {
			continue
		}
		if m := whole.FindStringSubmatch(parts[0]); m != nil {
			d := api.Directive{Name: strings.ToLower(m[1]), Value: narrow(m[3] + escape.ReplaceAllString(m[4], "$1")), Has: m[2] != ""}
			if len(parts) == 2 {
				d.For = parts[1]
			}
			out = append(out, d)
		}
	}
	return out
}

// mineDefined: P12.1, each directive by itself, from the definition.
func mineDefined(l []api.Directive, device string) []api.Directive {
	var out []api.Directive
	for _, d := range l {
		toDevice := func(x api.Directive) bool { return device != "" && x.For == device && x.Name == d.Name }
		if device != "" && d.For == device || d.For == "" && !slices.ContainsFunc(l, toDevice) {
			out = append(out, d)
		}
	}
	return out
}

// ofDefined: P12.2, from the definition.
func ofDefined(values []string, device string) surctl.Control {
	var l []api.Directive
	for _, value := range values {
		l = append(l, defined(value)...)
	}
	l = mineDefined(l, device)
	first := func(name string) (string, bool) {
		i := slices.IndexFunc(l, func(d api.Directive) bool { return d.Name == name })
		if i < 0 {
			return "", false
		}
		return l[i].Value, true
	}
	var c surctl.Control
	_, c.NoStore = first("no-store")
	_, c.NoRemote = first("no-store-remote")
	content, _ := first("content")
	c.ESI = word.MatchString(content)
	age, has := first("max-age")
	c.HasAge = has
	if m := ages.FindStringSubmatch(age); m != nil {
		c.Age, c.Extra = number(m[1]), number(m[2])
	}
	return c
}

// number answers what the digits denote, or 2^31 if that is more; 0 for none.
func number(digits string) int {
	n, err := strconv.Atoi(digits)
	if digits != "" && err != nil {
		n = most
	}
	return min(n, most)
}

// bare answers the directive of a name alone, with one of a name and a value, to one of these for a device.
func bare(name string) api.Directive {
	return api.Directive{Name: name}
}

func with(name, value string) api.Directive {
	return api.Directive{Name: name, Value: value, Has: true}
}

func to(device string, d api.Directive) api.Directive {
	d.For = device
	return d
}

func told(l []api.Directive) string {
	var out []string
	for _, d := range l[:min(len(l), 9)] {
		s := strconv.Quote(d.Name[:min(len(d.Name), 40)])
		if d.Has || d.Value != "" {
			s += " " + strconv.FormatBool(d.Has) + " " + strconv.Quote(d.Value[:min(len(d.Value), 40)])
		}
		if d.For != "" {
			s += " for " + strconv.Quote(d.For[:min(len(d.For), 40)])
		}
		out = append(out, s)
	}
	return strconv.Itoa(len(l)) + " [" + strings.Join(out, "; ") + "]"
}

func wantList(t *testing.T, values []string, want ...api.Directive) {
	t.Helper()
	if got := surctl.List(values); !slices.Equal(got, want) {
		t.Errorf("List(%.90q) = %s; want %s", values, told(got), told(want))
	}
}

// want holds List of one value against the directives that are to come.
func want(t *testing.T, value string, want ...api.Directive) {
	t.Helper()
	wantList(t, []string{value}, want...)
}

func wantMine(t *testing.T, l []api.Directive, device string, want ...api.Directive) {
	t.Helper()
	got := surctl.Mine(l, device)
	if !slices.Equal(got, want) {
		t.Errorf("Mine(%s, %q) = %s; want %s", told(l), device, told(got), told(want))
	}
	if again := surctl.Mine(got, device); !slices.Equal(again, got) {
		t.Errorf("Mine(%s, %q) = %s", told(got), device, told(again))
	}
}

func wantOf(t *testing.T, values []string, device string, want surctl.Control) {
	t.Helper()
	if got := surctl.Of(values, device); got != want {
		t.Errorf("Of(%.90q, %q) = %+v; want %+v", values, device, got, want)
	}
}

// TestExamples: P12.2, the chapter's examples.
func TestExamples(t *testing.T) {
	nothing, stored := surctl.Control{}, surctl.Control{NoStore: true}
	wantOf(t, nil, "d", nothing)
	for s, c := range map[string]surctl.Control{
		"x":                                   nothing,
		`content="ESI/1.0", max-age=60+30`:    {ESI: true, HasAge: true, Age: 60, Extra: 30},
		"max-age=60, max-age=5;d, no-store;e": {HasAge: true, Age: 5},
		"max-age=60;e, no-store;d":            stored,
		`content="a ESI/1.0";d, content="x"`:  {ESI: true},
		"content=ESI/1.0":                     nothing,
		`content="esi/1.0"`:                   nothing,
		"max-age":                             {HasAge: true},
		"max-age=1+2+3":                       {HasAge: true},
		`max-age="7"`:                         {HasAge: true, Age: 7},
		"max-age=99999999999+1":               {HasAge: true, Age: 2147483648, Extra: 1},
		`a="`:                                 stored,
		"no-store;d;e":                        nothing,
		"no-store;(d)":                        nothing,
	} {
		wantOf(t, []string{s}, "d", c)
	}
}

// TestStated: P12.1, elements that state a directive, each of them alone and beside others.
func TestStated(t *testing.T) {
	for s, d := range map[string]api.Directive{
		"a": bare("a"), "A": bare("a"), "A=B": with("a", "B"), `A="B c"`: with("a", "B c"), `a=""`: with("a", ""), tokenBytes: bare(strings.ToLower(tokenBytes)),
		"a;d": to("d", bare("a")), "A;D": to("D", bare("a")), "A=B;D": to("D", with("a", "B")), `a="";d`: to("d", with("a", "")), "a;a": to("a", bare("a")), "a;0": to("0", bare("a")), "a;-": to("-", bare("a")),
		"a;" + tokenBytes: to(tokenBytes, bare("a")), "a=" + tokenBytes + ";Dd": to("Dd", with("a", tokenBytes)),
		"a ; d": to("d", bare("a")), " \ta\t ;\t d \t": to("d", bare("a")), "a=b\t;\td": to("d", with("a", "b")),
		"a;": bare("a"), ";a": bare("a"), "; a ;": bare("a"), ";;\t;a=b; ;": with("a", "b"), ";;a; ;d;\t;": to("d", bare("a")), "a;;d": to("d", bare("a")),
		`a=";"`: with("a", ";"), `a="x;y";d`: to("d", with("a", "x;y")), `a="x,y";d`: to("d", with("a", "x,y")), `a=";,";d`: to("d", with("a", ";,")), `a="\";d\\";e`: to("e", with("a", `";d\`)), `a="\";\"";d`: to("d", with("a", `";"`)),
		"a=\"\xff\\\xfe\t\";d": to("d", with("a", "\xff\xfe\t")), "no-store;d": to("d", bare("no-store")), "No-Store": bare("no-store"), "max-age=60+30;abc": to("abc", with("max-age", "60+30")),
		`content="ESI/1.0";d`: to("d", with("content", "ESI/1.0")),
	} {
		want(t, s, d)
		want(t, s+", x;X", d, to("X", bare("x")))
		want(t, "x=1,"+s, with("x", "1"), d)
		want(t, ","+s+" ,\t,"+s, d, d)
		wantList(t, []string{"x", s, "", s + ",y"}, bare("x"), d, d, bare("y"))
	}
}

// TestNothingStated: P12.1, elements of other forms state nothing; those beside them stay.
func TestNothingStated(t *testing.T) {
	for _, s := range []string{
		"", " ", "\t", ",", " , ", ";", ";;", " ; ", ";,;", ";\t;",
		// What is not a directive by itself.
		"=", "a=", "=a", "a b", "a = b", "a =b", "a= b", "(a)", "a=(", "a/b", "content=ESI/1.0", `"a"`, `a"b"`, `a="b"c`, "a==b", "a\n", "caf\xc3\xa9", "\x00", "a=\"\n\"", `a\`,
		"=;d", "a=;d", "a b;d", "(a);d", "a=(;d", "a/b;d", "content=ESI/1.0;d", `"a";d`, `a="b"c;d`, "a=\"\x7f\";d", "a\n;d", "; (a) ;d", ";=;", "\\;d",
		// What the directive would be for is not a token.
		"a;(d)", `a;"d"`, "a;d=", "a;=", "a;d=e", `a;d="e"`, "a;d e", "a;d\te", "a;d/e", "a;d:e", "a;\xff", "a;caf\xc3\xa9", "a;d\n", "a;\x00", "a;d\x7f", `a;"d` + `,"`, `a;\`, "a=b;[d]", `a;""`, `a;";"`, "a;;(d);",
		// There are more than two parts.
		"a;d;e", "a;d;d", "a;;d;;e;", "a;b;c;d", "a;d;(e)", "a;(d);e", "(a);d;e", `a;d;""`, "a; d ; e", "no-store;d;e", "max-age=5;d;e",
		"a" + strings.Repeat(";b", mostList-1),
	} {
		want(t, s)
		want(t, "x=1;d, "+s+",y", to("d", with("x", "1")), bare("y"))
		wantList(t, []string{s, "z"}, bare("z"))
	}
}

// TestEachByte: P12.1, every byte at every place of what follows a semicolon, and around it.
func TestEachByte(t *testing.T) {
	samples.EachByte(func(c byte, s string) {
		if strings.IndexByte(tokenBytes, c) >= 0 {
			for _, device := range []string{s, "x" + s, s + "x", "x" + s + "x"} {
				want(t, "a;"+device, to(device, bare("a")))
				want(t, `a="b" ; `+device+"\t", to(device, with("a", "b")))
			}
		} else if strings.IndexByte("\t \",;", c) < 0 {
			want(t, "a;"+s)
			want(t, "a=b;"+s+"x")
			want(t, "a=b;x"+s)
			want(t, "a;x"+s+"x")
		}
		for _, value := range []string{s, "a" + s, s + "a", "a" + s + "b", "a;" + s, "a" + s + ";d", s + "a;d", "a;d" + s, "a;" + s + "d", "a;d" + s + "e", "a=" + s + ";d", `a="` + s + `";d`, `a="\` + s + `";d`, `a="b"` + s + "d", "a" + s + "d" + s + "e", "a;d" + s + "b;e", "a;d" + s + "b" + s + `c="d;e"`} {
			want(t, value, defined(value)...)
		}
	})
}

// TestValues: P12.1, value by value and element by element; a value that can't be split states no-store alone, whatever stands beside it.
func TestValues(t *testing.T) {
	wantList(t, nil)
	wantList(t, []string{})
	wantList(t, []string{"", " ", ",", ";"})
	wantList(t, []string{"b=2;d, a", "", "A=1;e", "b;d"}, to("d", with("b", "2")), bare("a"), to("e", with("a", "1")), to("d", bare("b")))
	wantList(t, []string{"a", ";d", "b"}, bare("a"), bare("d"), bare("b"))
	wantList(t, []string{`a="x`, `y";d`}, bare("no-store"), bare("no-store"))
	for _, s := range []string{`"`, `"x`, `a;d, b="c`, `a="b\"`, `a="b\";d`, `a="b\`, `a="b\\\";d`, `a", b;d`, `a="b"";d`, "\";\n", `\";d`, `a;", ";d, "c`, `a;d;e, "`} {
		want(t, s, bare("no-store"))
		wantList(t, []string{"x;d", s, "y"}, to("d", bare("x")), bare("no-store"), bare("y"))
	}
}

// TestLimits: P12.1, the elements of a value, and the parts of an element, as many as may be and one beyond.
func TestLimits(t *testing.T) {
	if api.MaxList != mostList || api.Most != most {
		t.Errorf("MaxList = %d, Most = %d", api.MaxList, api.Most)
	}
	many := func(n int, element string) string { return strings.Repeat(element+", ", n) }
	all := func(n int, d api.Directive) []api.Directive { return slices.Repeat([]api.Directive{d}, n) }
	want(t, many(mostList-1, "a;d"), all(mostList-1, to("d", bare("a")))...)
	want(t, many(mostList, "a;d"), all(mostList, to("d", bare("a")))...)
	want(t, many(mostList+1, "a;d"), bare("no-store"))
	want(t, many(mostList, "(x)"))
	want(t, many(mostList+1, "(x)"), bare("no-store"))
	want(t, many(mostList+1, ";"), bare("no-store"))
	want(t, many(9*mostList, "")+many(mostList, "a")+many(9*mostList, ""), all(mostList, bare("a"))...)
	wantList(t, []string{many(mostList, "a"), many(mostList+1, "c"), many(mostList, "b;d")}, slices.Concat(all(mostList, bare("a")), all(1, bare("no-store")), all(mostList, to("d", bare("b"))))...)
	wantList(t, slices.Repeat([]string{"a;d"}, 9*mostList), all(9*mostList, to("d", bare("a")))...)

	parts := func(n int) string { return "a" + strings.Repeat(";b", n-1) }
	want(t, parts(2), to("b", bare("a")))
	want(t, parts(3))
	want(t, parts(mostList))
	want(t, parts(mostList+1), bare("no-store"))
	want(t, parts(9*mostList), bare("no-store"))
	want(t, "(a);"+parts(mostList), bare("no-store"))
	want(t, strings.Repeat(";", 9*mostList)+"a"+strings.Repeat("; ", 9*mostList)+"d", to("d", bare("a")))
	want(t, `a="`+parts(9*mostList)+`";d`, to("d", with("a", parts(9*mostList))))
	// An element that can't be split leaves those beside it as they are.
	want(t, "x;d, "+parts(mostList+1)+", y=1, "+parts(mostList)+","+parts(mostList+1), to("d", bare("x")), bare("no-store"), with("y", "1"), bare("no-store"))
	want(t, many(mostList, parts(mostList+1)), all(mostList, bare("no-store"))...)
	want(t, parts(mostList+1)+`, "`, bare("no-store"))

	long := strings.Repeat("A", 1<<20)
	want(t, long+`="`+long+`";`+long, to(long, with(strings.ToLower(long), long)))
	want(t, long+`="`+long+";"+long, bare("no-store"))
	want(t, strings.Repeat(";", 1<<20))
}

// TestByDefinition: P12.1, P12.2, every text of few pieces.
func TestByDefinition(t *testing.T) {
	for _, words := range [][]string{
		{"a", "B", "=", ",", ";", "\"", "\\", " "},
		{"max-age=5", "no-store", ",", ";", "d", "\t", "(", `"`},
		{"content=", "\"ESI/1.0\"", "\"x ESI/1.0\"", ";d", ",", ";", "e"},
		{"max-age=", "no-store-remote", "1", "2", "+", ",", ";d", "\""},
	} {
		samples.Words(words, 5, func(s string) {
			want(t, s, defined(s)...)
			wantOf(t, []string{s}, "d", ofDefined([]string{s}, "d"))
		})
	}
	samples.Words([]string{"a", ";", ",", "\""}, 8, func(s string) {
		want(t, s, defined(s)...)
	})
}

// TestMine: P12.1.
func TestMine(t *testing.T) {
	a, b, c := with("a", "1"), with("b", "2"), bare("c")
	wantMine(t, nil, "d")
	wantMine(t, nil, "")
	wantMine(t, []api.Directive{}, "d")
	l := []api.Directive{a, to("d", b), to("e", a), c, b, to("D", c), to("d", bare("b")), a, to("dd", b), to("d", bare("x"))}
	wantMine(t, l, "d", a, to("d", b), c, to("d", bare("b")), a, to("d", bare("x")))
	wantMine(t, l, "e", to("e", a), c, b)
	wantMine(t, l, "D", a, b, to("D", c), a)
	wantMine(t, l, "dd", a, c, a, to("dd", b))
	for _, device := range []string{"", "f", "d ", " d", "E", "d,e", "\xff", "ddd"} {
		wantMine(t, l, device, a, c, b, a)
	}
	// The directive of a device counts wherever it stands.
	wantMine(t, []api.Directive{to("d", a), a}, "d", to("d", a))
	wantMine(t, []api.Directive{a, to("d", a)}, "d", to("d", a))
	wantMine(t, []api.Directive{a, to("e", a)}, "d", a)
	wantMine(t, []api.Directive{to("e", a), to("f", b)}, "d")
	wantMine(t, []api.Directive{to("e", a), to("f", b)}, "")
	wantMine(t, []api.Directive{bare("a"), to("d", with("a", "9")), with("a", "2")}, "d", to("d", with("a", "9")))
	// Names, and devices, are compared byte by byte, and need not be tokens.
	wantMine(t, []api.Directive{bare("A"), to("d", bare("a"))}, "d", bare("A"), to("d", bare("a")))
	wantMine(t, []api.Directive{bare("k"), to("d", bare("\xe2\x84\xaa"))}, "d", bare("k"), to("d", bare("\xe2\x84\xaa")))
	wantMine(t, []api.Directive{bare("\xff"), bare("\xfe"), to("d", bare("\xff"))}, "d", bare("\xfe"), to("d", bare("\xff")))
	wantMine(t, []api.Directive{bare(""), to("a b", bare("")), to("\xff", bare("x"))}, "a b", to("a b", bare("")))
	wantMine(t, []api.Directive{bare(""), to("a b", bare("")), to("\xff", bare("x"))}, "\xff", bare(""), to("\xff", bare("x")))
	wantMine(t, []api.Directive{{Value: "v"}, {Name: "n", Value: "v", For: "d"}}, "d", api.Directive{Value: "v"}, api.Directive{Name: "n", Value: "v", For: "d"})
}

// someDirectives answers a few directives, many of them alike.
func someDirectives(random *rand.Rand) []api.Directive {
	names := []string{"a", "A", "max-age", "no-store", ""}
	devices := []string{"", "", "d", "e", "D"}
	var l []api.Directive
	for i := range random.Intn(9) {
		l = append(l, to(devices[random.Intn(len(devices))], with(names[random.Intn(len(names))], strconv.Itoa(i))))
	}
	return l
}

// TestMineByDefinition: P12.1, P12.4; a directive for another device is as if it were not there.
func TestMineByDefinition(t *testing.T) {
	random := rand.New(rand.NewSource(12))
	for range 50000 {
		l := someDirectives(random)
		for _, device := range []string{"", "d", "e", "D", "f"} {
			want := mineDefined(l, device)
			wantMine(t, l, device, want...)
			another := to("other", someName(random))
			wantMine(t, slices.Insert(slices.Clone(l), random.Intn(len(l)+1), another), device, want...)
		}
		if t.Failed() {
			return
		}
	}
}

func someName(random *rand.Rand) api.Directive {
	names := []string{"a", "A", "max-age", "no-store", "", "content", "no-store-remote"}
	return with(names[random.Intn(len(names))], "5")
}

// TestOf: P12.2, one directive or two at a time.
func TestOf(t *testing.T) {
	nothing, stored, remote, esi := surctl.Control{}, surctl.Control{NoStore: true}, surctl.Control{NoRemote: true}, surctl.Control{ESI: true}
	for s, c := range map[string]surctl.Control{
		"": nothing, ",": nothing, "no-store ": stored, "NO-STORE": stored, "No-Store;d": stored, "no-store=x": stored, `no-store=""`: stored, "no-store;D": nothing, "no-store;e": nothing, "no-stor": nothing, "no-stores": nothing, "no store": nothing,
		"a, no-store;d": stored, "no-store, no-store;e": stored, "no-store;e, no-store": stored, "no-store;e, no-store;d": stored, "no-store=a, no-store=b;d": stored,
		"no-store-remote": remote, "No-Store-Remote=9": remote, "no-store-remote;d": remote, "no-store-remote;e": nothing, "no-store-remotes": nothing, "no-store_remote": nothing, "no-store-remote, no-store": {NoStore: true, NoRemote: true},
		"a" + strings.Repeat(";b", mostList): stored, "a" + strings.Repeat(";b", mostList-1): nothing, strings.Repeat("a,", mostList): nothing, strings.Repeat("a,", mostList+1): stored, strings.Repeat("max-age=5,", mostList+1): stored,
		"max-age=5, a" + strings.Repeat(";b", mostList): {NoStore: true, HasAge: true, Age: 5}, `max-age=5, "`: stored, "private, no-cache": nothing, "age=5": nothing, "ESI/1.0": nothing,

		`Content="ESI/1.0"`: esi, `content="ESI/1.0";d`: esi, `content="ESI/1.0";e`: nothing, `content=" ESI/1.0 "`: esi, "content=\"\tESI/1.0\t\"": esi, "content=\"a\tESI/1.0 b\"": esi, `content="ESI/1.0 ESI/1.0"`: esi, `content="ESI\/1.0"`: esi, `content="\E\S\I/1.0"`: esi,
		`content="ESI/1.0" `: esi, `content="ESI-Inline/1.0 ESI/1.0"`: esi, "content=\"\xff ESI/1.0 \xc2\xa0\"": esi,
		"content": nothing, `content=""`: nothing, `content=" "`: nothing, "content=ESI": nothing, `content="ESI"`: nothing, `content="ESI/1.1"`: nothing, `content="ESI/1.0;"`: nothing, `content="xESI/1.0"`: nothing, `content="ESI/1.0x"`: nothing, `content="ESI/1.0,x"`: nothing, `content="x,ESI/1.0"`: nothing,
		`content="ESI / 1.0"`: nothing, `content="Esi/1.0"`: nothing, "content=\"ESI/1.0\n\"": nothing, "content=\"ESI/1.0\xc2\xa0\"": nothing, "content=\"\xe2\x80\x83ESI/1.0\"": nothing, "content=\"ESI/1.0\x85\"": nothing, `content="ESI-Inline/1.0"`: nothing, `content="\"ESI/1.0\""`: nothing, `content="ESI/1.0`: stored,
		`content="x", content="ESI/1.0"`: nothing, `content="ESI/1.0", content="x"`: esi, `content, content="ESI/1.0"`: nothing, `content="ESI/1.0", content="x";d`: nothing, `content="x", content="ESI/1.0";d`: esi, `content="x";e, content="ESI/1.0"`: esi, `content="x";d, content="ESI/1.0";d`: nothing, `content="ESI/1.0";d;e`: nothing, `contents="ESI/1.0"`: nothing,
	} {
		wantOf(t, []string{s}, "d", c)
	}
	wantOf(t, []string{}, "d", nothing)
	wantOf(t, []string{"no-store;d", `content="ESI/1.0"`, "max-age=7+8", "no-store-remote"}, "d", surctl.Control{NoStore: true, NoRemote: true, ESI: true, HasAge: true, Age: 7, Extra: 8})
	wantOf(t, []string{"max-age=1", "max-age=2"}, "d", surctl.Control{HasAge: true, Age: 1})
	wantOf(t, []string{"max-age=1", "max-age=2;d", "max-age=3;d"}, "d", surctl.Control{HasAge: true, Age: 2})
	wantOf(t, []string{"max-age=5", `"`}, "d", surctl.Control{NoStore: true, HasAge: true, Age: 5})
}

// TestOfAges: P12.2, the value of the first max-age.
func TestOfAges(t *testing.T) {
	for value, want := range map[string][2]int{
		"0": {}, "00": {}, "1": {1, 0}, "007": {7, 0}, "60": {60, 0}, "2147483647": {most - 1, 0}, "2147483648": {most, 0}, "2147483649": {most, 0}, strings.Repeat("9", 99): {most, 0}, "18446744073709551617": {most, 0}, strings.Repeat("0", 99) + "8": {8, 0},
		"0+0": {}, "60+30": {60, 30}, "0+7": {0, 7}, "7+0": {7, 0}, "2147483648+2147483649": {most, most}, "2147483647+2147483647": {most - 1, most - 1}, strings.Repeat("9", 99) + "+" + strings.Repeat("9", 99): {most, most}, "01+02": {1, 2},
		"": {}, "+": {}, "1+": {}, "+1": {}, "++": {}, "1++2": {}, "1+2+": {}, "+1+2": {}, "1+2+3": {}, "x": {}, "1x": {}, "x1": {}, "1+x": {}, "x+1": {}, "-1": {}, "1+-1": {}, "1-1": {}, "1.5": {}, "0x10": {}, "1_0": {}, "1e3": {}, "1 ": {}, " 1": {}, "1 +2": {}, "1+ 2": {}, "1\t": {}, "1,2": {}, "1;2": {}, `"1"`: {}, "\xd9\xa1": {}, "1\xff": {}, "1+\xff": {}, "1 2": {},
	} {
		c := surctl.Control{HasAge: true, Age: want[0], Extra: want[1]}
		quoted := `max-age="` + strings.ReplaceAll(value, `"`, `\"`) + `"`
		wantOf(t, []string{quoted}, "d", c)
		wantOf(t, []string{quoted, "max-age=99+99"}, "d", c)
		wantOf(t, []string{"max-age=99+99", quoted + ";d", "max-age=98"}, "d", c)
		wantOf(t, []string{"max-age=99;e", quoted + ";e, " + quoted + ", max-age=97"}, "", c)
		if token.MatchString(samples.Wide(value)) {
			wantOf(t, []string{"Max-Age=" + value + " ;d"}, "d", c)
		}
	}
	for s, c := range map[string]surctl.Control{
		"max-age": {HasAge: true}, "max-age, max-age=5": {HasAge: true}, "max-age;d, max-age=5": {HasAge: true}, "max-age=5, max-age": {HasAge: true, Age: 5}, "max-age;e, max-age=5": {HasAge: true, Age: 5},
		"max-age=": {}, "max-age=(5)": {}, "max-age= 5": {}, "max-age=5;(d)": {}, "max-age=5;d;e": {}, "max-age=5;e": {}, "s-maxage=5": {}, "max_age=5": {}, "max-age=x, max-age=5": {HasAge: true}, "max-age=(x), max-age=5": {HasAge: true, Age: 5},
	} {
		wantOf(t, []string{s}, "d", c)
	}
}

// TestDevices: P12.2, whose directives are examined.
func TestDevices(t *testing.T) {
	values := []string{"max-age=60, max-age=5;d, no-store;e", `no-store-remote;d, content="ESI/1.0", content=x;E`}
	for device, c := range map[string]surctl.Control{
		"d": {NoRemote: true, ESI: true, HasAge: true, Age: 5},
		"e": {NoStore: true, ESI: true, HasAge: true, Age: 60},
		"E": {HasAge: true, Age: 60},
		"D": {ESI: true, HasAge: true, Age: 60}, "": {ESI: true, HasAge: true, Age: 60}, "d;e": {ESI: true, HasAge: true, Age: 60}, " d": {ESI: true, HasAge: true, Age: 60}, "\xff": {ESI: true, HasAge: true, Age: 60},
	} {
		wantOf(t, values, device, c)
	}
	for _, device := range []string{"", "d", "e", "a b"} {
		wantOf(t, []string{`no-store;e, "`}, device, surctl.Control{NoStore: true})
		wantOf(t, []string{"no-store;(e)"}, device, surctl.Control{})
	}
	wantOf(t, []string{"no-store;" + tokenBytes}, tokenBytes, surctl.Control{NoStore: true})
}

// TestOtherDevices: P12.4, what is added for another device makes no difference; and P12.2 by its definition.
func TestOtherDevices(t *testing.T) {
	random := rand.New(rand.NewSource(124))
	heads := []string{"max-age", "max-age=5", "max-age=60+30", "max-age=x", "no-store", "no-store-remote", `content="ESI/1.0"`, `content="a ESI/1.0"`, "content=x", "a", "(", "No-Store=1", `Max-Age="7"`, `Content="\"ESI/1.0"`}
	ends := []string{"", "", ";d", ";e", " ; d", ";D", ";", ";d;e", ";(d)"}
	value := func(l []string) []string {
		k := random.Intn(len(l) + 1)
		return []string{strings.Join(l[:k], ", "), strings.Join(l[k:], " ,")}
	}
	for range 50000 {
		var l []string
		for range random.Intn(7) {
			l = append(l, heads[random.Intn(len(heads))]+ends[random.Intn(len(ends))])
		}
		more := slices.Insert(slices.Clone(l), random.Intn(len(l)+1), heads[random.Intn(len(heads))]+";other")
		for _, device := range []string{"", "d", "e", "D"} {
			values := value(l)
			want := ofDefined(values, device)
			wantOf(t, values, device, want)
			wantOf(t, value(more), device, want)
		}
		if t.Failed() {
			return
		}
	}
}

// TestCapability: P12.3.
func TestCapability(t *testing.T) {
	wantCapability := func(device, want string) {
		t.Helper()
		if got := surctl.Capability(device); got != want {
			t.Errorf("Capability(%.90q) = %.90q; want %.90q", device, got, want)
		}
	}
	wantCapability("d", `d="Surrogate/1.0 ESI/1.0"`)
	long := strings.Repeat("A-b", 1<<16)
	for _, device := range []string{"D", "inlay-1", "abc", tokenBytes, long} {
		wantCapability(device, device+`="Surrogate/1.0 ESI/1.0"`)
	}
	for _, device := range []string{"", " ", "a b", " a", "a ", "a\t", `"`, `"a"`, "a=b", "a,b", "a;b", "(a)", "a/b", "caf\xc3\xa9", "\xff", "a\x00", "a\n", long + " "} {
		wantCapability(device, "")
	}
	samples.EachByte(func(c byte, s string) {
		for _, device := range []string{s, "x" + s, s + "x", "x" + s + "x"} {
			if strings.IndexByte(tokenBytes, c) >= 0 {
				wantCapability(device, device+`="Surrogate/1.0 ESI/1.0"`)
			} else {
				wantCapability(device, "")
			}
		}
	})
}

// shared tells whether two texts have a place in common.
func shared(a, b string) bool {
	if a == "" || b == "" {
		return false
	}
	x, y := uintptr(unsafe.Pointer(unsafe.StringData(a))), uintptr(unsafe.Pointer(unsafe.StringData(b)))
	return x < y+uintptr(len(b)) && y < x+uintptr(len(a))
}

func texts(l ...api.Directive) []string {
	var out []string
	for _, d := range l {
		out = append(out, d.Name, d.Value, d.For)
	}
	return out
}

func wantApart(t *testing.T, a, b []string) {
	t.Helper()
	for _, x := range a {
		for _, y := range b {
			if shared(x, y) {
				t.Errorf("%q shares its place with %q", x, y)
			}
		}
	}
}

// TestArgumentsStay: P12.5, nothing that comes in is changed, and no answer has a place in common with it or with another answer.
func TestArgumentsStay(t *testing.T) {
	values := []string{"Abc=Def;ghi, jkl", `mno="p\q";rst`, "uvw=xyz", `"`, "max-age=55;ghi"}
	room := append(slices.Clone(values), "room", "room")
	device := strings.Clone("ghi")
	stated := []api.Directive{to("ghi", with("abc", "Def")), bare("jkl"), to("rst", with("mno", "pq")), with("uvw", "xyz"), bare("no-store"), to("ghi", with("max-age", "55"))}
	first := surctl.List(room[:len(values)])
	second := surctl.List(values)
	surctl.Of(room[:len(values)], device)
	if !slices.Equal(room, append(slices.Clone(values), "room", "room")) {
		t.Errorf("changed: %q", room)
	}
	wantApart(t, texts(first...), values)
	clear(first[:cap(first)])
	if !slices.Equal(second, stated) {
		t.Errorf("changed: %s", told(second))
	}

	l := append(slices.Clone(second), bare("room"), bare("room"))
	mine := surctl.Mine(l[:len(second)], device)
	again := surctl.Mine(second, device)
	wantApart(t, texts(mine...), append(texts(l...), device))
	if !slices.Equal(l, append(slices.Clone(stated), bare("room"), bare("room"))) {
		t.Errorf("changed: %s", told(l))
	}
	clear(mine[:cap(mine)])
	if want := []api.Directive{stated[0], stated[1], stated[3], stated[4], stated[5]}; !slices.Equal(again, want) || !slices.Equal(second, stated) {
		t.Errorf("changed: %s, %s", told(again), told(second))
	}
	wantApart(t, []string{surctl.Capability(device)}, []string{device})
}

// TestAnyBytes: P12.5, no call panics, whatever bytes it is given.
func TestAnyBytes(t *testing.T) {
	random := rand.New(rand.NewSource(125))
	bytes := func() string {
		s := make([]byte, random.Intn(40))
		for i := range s {
			s[i] = byte(random.Intn(256))
			if random.Intn(2) == 0 {
				s[i] = ` ",;=\a+1`[random.Intn(9)]
			}
		}
		return string(s)
	}
	for range 50000 {
		values, device := []string{bytes(), bytes()}, bytes()
		wantList(t, values, append(defined(values[0]), defined(values[1])...)...)
		wantOf(t, values, device, ofDefined(values, device))
		wantMine(t, surctl.List(values), device, mineDefined(surctl.List(values), device)...)
		surctl.Capability(device)
		if t.Failed() {
			return
		}
	}
}
