package etag_test

import (
	"math"
	"math/rand"
	"reflect"
	"regexp"
	"slices"
	"strconv"
	"strings"
	"testing"
	"time"
	"unsafe"

	"inlay/api"
	"inlay/etag"
	"inlay/samples"
	"inlay/text"
)

const (
	mostList = 64
	lastTick = 253402300799
	fixdate  = "Mon, 02 Jan 2006 15:04:05 GMT"
	rfc850   = "Monday, 02-Jan-06 15:04:05 GMT"
	asctime  = "Mon Jan _2 15:04:05 2006"
)

// The definition, as an expression over bytes read as runes.
var whole = regexp.MustCompile(`\A(?:W/)?"[\x21\x23-\x7e\x{80}-\x{ff}]*"\z`)

// defined answers what the definition makes of s.
func defined(s string) (weak bool, tag string, e api.Errno) {
	if !whole.MatchString(samples.Wide(s)) {
		return false, "", api.ErrForm
	}
	return s[0] == 'W', s[strings.Index(s, `"`)+1 : len(s)-1], api.OK
}

// same answers what the definition makes of two texts: whether they are equal by Strong, and by Weak.
func same(a, b string) (strong, weak bool) {
	weakA, tagA, eA := defined(a)
	weakB, tagB, eB := defined(b)
	weak = eA == api.OK && eB == api.OK && tagA == tagB
	return weak && !weakA && !weakB, weak
}

// elements answers the elements of s, none if s is no list of tags.
func elements(s string) []string {
	out, _ := text.Split(s, ',')
	for _, x := range out {
		if _, _, e := defined(x); e != api.OK {
			return nil
		}
	}
	return out
}

func written(tick int64, form string) string {
	return time.Unix(tick, 0).UTC().Format(form)
}

// at answers the IMF-fixdate of a tick.
func at(tick int64) string {
	return written(tick, fixdate)
}

func wantParse(t *testing.T, s string, weak bool, tag string, e api.Errno) {
	t.Helper()
	if gotWeak, gotTag, gotE := etag.Parse(s); gotWeak != weak || gotTag != tag || gotE != e {
		t.Errorf("Parse(%.90q) = %t, %.90q, %d; want %t, %.90q, %d", s, gotWeak, gotTag, gotE, weak, tag, e)
	}
}

func wantDefined(t *testing.T, s string) {
	t.Helper()
	weak, tag, e := defined(s)
	wantParse(t, s, weak, tag, e)
}

// wantSame holds the relations of two texts, both ways round.
func wantSame(t *testing.T, a, b string, strong, weak bool) {
	t.Helper()
	for _, x := range [][2]string{{a, b}, {b, a}} {
		if got := etag.Strong(x[0], x[1]); got != strong {
			t.Errorf("Strong(%.90q, %.90q) = %t", x[0], x[1], got)
		}
		if got := etag.Weak(x[0], x[1]); got != weak {
			t.Errorf("Weak(%.90q, %.90q) = %t", x[0], x[1], got)
		}
	}
}

// wantList holds the list of s against its elements; none is to come of what is no list.
func wantList(t *testing.T, s string, want ...string) {
	t.Helper()
	e := api.OK
	if len(want) == 0 {
		e = api.ErrForm
	}
	if got, gotE := etag.List(s); !slices.Equal(got, want) || gotE != e {
		t.Errorf("List(%.90q) = %.90q, %d; want %.90q, %d", s, got, gotE, want, e)
	}
}

func wantNotModified(t *testing.T, req, rep []api.Field, now int64, want bool) {
	t.Helper()
	// The reply's status and body make no difference.
	for _, r := range []api.Reply{{Status: 200, Minor: 1, Fields: rep, Body: "b"}, {Status: 404, Fields: rep}} {
		if got := etag.NotModified(req, r, now); got != want {
			t.Errorf("NotModified(%s, %s, %d) = %t", samples.Told(req), samples.Told(rep), now, got)
		}
	}
}

// TestExamples: P14.1 to P14.3, the chapter's examples.
func TestExamples(t *testing.T) {
	wantParse(t, `"a"`, false, "a", api.OK)
	wantParse(t, `W/"a"`, true, "a", api.OK)
	wantParse(t, `""`, false, "", api.OK)
	for _, s := range []string{`w/"a"`, `a`, `"a""`, `"a b"`} {
		wantParse(t, s, false, "", api.ErrForm)
	}
	wantSame(t, `"a"`, `"a"`, true, true)
	wantSame(t, `W/"a"`, `"a"`, false, true)
	wantSame(t, `"a"`, `"b"`, false, false)
	wantSame(t, `a`, `a`, false, false)
	wantList(t, `"a", W/"b,c"`, `"a"`, `W/"b,c"`)
	for _, s := range []string{"", "*", `"a" b`} {
		wantList(t, s)
	}

	rep := samples.Fields("ETag", `"a"`, "Last-Modified", at(86400))
	wantNotModified(t, samples.Fields("If-None-Match", "*"), rep, 0, true)
	wantNotModified(t, samples.Fields("If-None-Match", `W/"a", "b"`), rep, 0, true)
	wantNotModified(t, samples.Fields("If-None-Match", `"b"`), rep, 0, false)
	wantNotModified(t, samples.Fields("If-None-Match", `"b"`, "If-Modified-Since", at(2*86400)), rep, 0, false)
	wantNotModified(t, samples.Fields("If-Modified-Since", at(86400)), rep, 0, true)
	wantNotModified(t, samples.Fields("If-Modified-Since", at(86399)), rep, 0, false)
	wantNotModified(t, samples.Fields("If-Modified-Since", "x"), rep, 0, false)
}

// TestParse: P14.1, entity tags, and their tags.
func TestParse(t *testing.T) {
	long := strings.Repeat("x", 1<<20)
	for s, tag := range map[string]string{
		`""`: "", `"a"`: "a", `"abc"`: "abc", `"!#~"`: "!#~", `"W/"`: "W/", `"W/a"`: "W/a", `"/"`: "/", `"*"`: "*", `","`: ",", `"a,b;c=d"`: "a,b;c=d", `"'"`: "'",
		`"\"`: `\`, `"\\"`: `\\`, `"a\b"`: `a\b`, "\"\x80\"": "\x80", "\"\xff\xfe\"": "\xff\xfe", "\"\xc3\xa9\"": "\xc3\xa9", "\"\xa0\x85\"": "\xa0\x85", `"` + long + `"`: long,
	} {
		wantParse(t, s, false, tag, api.OK)
		wantParse(t, "W/"+s, true, tag, api.OK)
	}
	for _, s := range []string{
		"", "a", "*", "W", "/", "W/", `"`, `W"`, `/"`, `"a`, `a"`, `'a'`, "a\"b", `"a"b"`, `"a""`, `""a"`, `"""`, `""""`, `"a""b"`, `"a","b"`, `"a", "b"`, `"a"b`, `b"a"`, `"a";`, `"a",`,
		` "a"`, `"a" `, "\t\"a\"", "\"a\"\n", "\"a\"\x00", `" "`, `"a b"`, `" a"`, `"a "`, "\"\t\"", "\"\n\"", "\"a\r\n\"", "\"\x00\"", "\"\x1f\"", "\"\x7f\"", "\"\x80\x7f\"", `"a\"b"`, `"\""`,
		`w/"a"`, `w"a"`, `W"a"`, `/"a"`, `/W"a"`, `W\"a"`, `W//"a"`, `WW/"a"`, `"W/"a"`, `W/W/"a"`, `W /"a"`, `W/ "a"`, `M/"a"`, `a/"a"`, "\xff\"a\"", "\xef\xbb\xbf\"a\"", "\xe2\x80\x9ca\xe2\x80\x9d", `"a"W/`, `"` + long, long + `"`, `"` + long + ` "`,
	} {
		wantParse(t, s, false, "", api.ErrForm)
		if !strings.HasPrefix(s, `"`) {
			continue
		}
		wantParse(t, "W/"+s, false, "", api.ErrForm)
	}
}

// TestEachByte: P14.1, every byte at every place of an entity tag.
func TestEachByte(t *testing.T) {
	samples.EachByte(func(c byte, s string) {
		allowed := c == 33 || 35 <= c && c <= 126 || c >= 128
		for _, tag := range []string{s, "x" + s, s + "x", "x" + s + "x", s + s} {
			for _, before := range []string{"", "W/"} {
				if allowed {
					wantParse(t, before+`"`+tag+`"`, before != "", tag, api.OK)
				} else {
					wantParse(t, before+`"`+tag+`"`, false, "", api.ErrForm)
				}
			}
		}
		for _, x := range []string{s, s + `"a"`, `"a"` + s, `"a` + s, s + `a"`, s + `/"a"`, "W" + s + `"a"`, "W/" + s + `"a"`, `W/"a"` + s, s + `W/"a"`, "W/" + s, s + s} {
			wantDefined(t, x)
		}
	})
}

// TestByDefinition: P14.1, P14.2, every text of few pieces.
func TestByDefinition(t *testing.T) {
	samples.Words([]string{"W/", "W", "/", "\"", "a", "\\", ",", " ", "\x7f", "\xff"}, 5, func(s string) {
		wantDefined(t, s)
		wantList(t, s, elements(s)...)
	})
	samples.Words([]string{`"a"`, `W/"b"`, `","`, ",", "\"", " ", "\\", "*"}, 6, func(s string) {
		wantList(t, s, elements(s)...)
	})
}

// someTags are entity tags, and texts that are none.
func someTags() []string {
	return []string{
		`""`, `W/""`, `"a"`, `W/"a"`, `"A"`, `W/"A"`, `"b"`, `W/"b"`, `"ab"`, `W/"ab"`, `"W/"`, `W/"W/"`, `"W/a"`, `W/"W/a"`, `"*"`, `","`, "\"\xff\"", "W/\"\xff\"", "\"\xfe\"", `"\a"`, `"\"`, `W/"\"`,
		"", "a", "b", "*", "W/", "W/a", `w/"a"`, `"a`, `a"`, `"`, `"a" `, ` "a"`, `"a""`, `"a b"`, `W/W/"a"`, "\xff", "'a'", "\"\x7f\"", `"a", "b"`,
	}
}

// TestSame: P14.1, every two of many texts; what is no entity tag is equal to nothing, itself included.
func TestSame(t *testing.T) {
	for _, a := range someTags() {
		for _, b := range someTags() {
			strong, weak := same(a, b)
			wantSame(t, a, b, strong, weak)
		}
	}
	samples.EachByte(func(c byte, a string) {
		allowed := c == 33 || 35 <= c && c <= 126 || c >= 128
		samples.EachByte(func(_ byte, b string) {
			wantSame(t, `"`+a+`"`, `"`+b+`"`, allowed && a == b, allowed && a == b)
			wantSame(t, `W/"`+a+`"`, `"`+b+`"`, false, allowed && a == b)
		})
	})
	long := strings.Repeat("x", 1<<20)
	wantSame(t, `"`+long+`"`, `"`+long+`"`, true, true)
	wantSame(t, `"`+long+`"`, `W/"`+long+`"`, false, true)
	wantSame(t, `"`+long+`"`, `"`+long+`y"`, false, false)
}

// TestRelations: P14.4.
func TestRelations(t *testing.T) {
	for _, relation := range []func(a, b string) bool{etag.Strong, etag.Weak} {
		for _, a := range someTags() {
			for _, b := range someTags() {
				if relation(a, b) != relation(b, a) {
					t.Errorf("%q and %q are equal one way round", a, b)
				}
				if etag.Strong(a, b) && !etag.Weak(a, b) {
					t.Errorf("%q and %q are equal by Strong alone", a, b)
				}
				for _, c := range someTags() {
					if relation(a, b) && relation(b, c) && !relation(a, c) {
						t.Errorf("%q, %q and %q", a, b, c)
					}
				}
			}
		}
	}
	for _, a := range someTags() {
		// A second W/ makes no entity tag.
		if strings.HasPrefix(a, "W/") {
			continue
		}
		for _, b := range someTags() {
			weak := etag.Weak(a, b)
			wantSame(t, "W/"+a, b, false, weak)
			if !strings.HasPrefix(b, "W/") {
				wantSame(t, "W/"+a, "W/"+b, false, weak)
			}
		}
	}
}

// TestList: P14.2, lists of tags, and what is none.
func TestList(t *testing.T) {
	for s, want := range map[string][]string{
		`""`: {`""`}, `"a"`: {`"a"`}, `W/"a"`: {`W/"a"`}, `"a","b"`: {`"a"`, `"b"`}, `W/"a" ,	W/"a"`: {`W/"a"`, `W/"a"`}, `"","",W/""`: {`""`, `""`, `W/""`},
		` "a" `: {`"a"`}, `,"a",`: {`"a"`}, ` , ,	, "a" ,, "b", `: {`"a"`, `"b"`}, `"a,b"`: {`"a,b"`}, `",", W/",,"`: {`","`, `W/",,"`}, `"*"`: {`"*"`}, `"W/", "W/a"`: {`"W/"`, `"W/a"`},
		`"b", "a", "b"`: {`"b"`, `"a"`, `"b"`}, "\"\xff\xc3\xa9\", \"!\"": {"\"\xff\xc3\xa9\"", `"!"`},
		// Split passes over a byte 92 and the byte behind it.
		`"\a"`: {`"\a"`}, `"\\", "b"`: {`"\\"`, `"b"`}, `"\,", "b"`: {`"\,"`, `"b"`},
	} {
		wantList(t, s, want...)
	}
	for _, s := range []string{
		"", " ", "\t", ",", " , ,\t", "a", "*", "*, *", `*, "a"`, `"a", *`, `"`, "W/", `W/, "a"`, `w/"a"`, `"a", w/"b"`, `"a", b`, `b, "a"`, `"a" "b"`, `"a""b"`, `"a";"b"`, `"a" b`, `b "a"`, `"a"W/"b"`, `W/ "a"`, `W/,"a"`,
		`"a b"`, `"a", "b c"`, "\"a\tb\"", "\"a\x00\"", "\"a\", \"\x7f\"", "\"a\"\n", "\"a\"\r\n, \"b\"", `"a"x`, `W/W/"a"`, `'a', "b"`,
		// A quote is open at the end.
		`"a", "b`, `"a"", "b"`, `"a", "`, `"\"`, `"a\"`, `"a\", "b"`, `"\\\"`, `"a", b"`,
		// What Split takes for one quoted string is no entity tag.
		`"a\"b"`, `"\", "`,
	} {
		wantList(t, s)
	}
}

// TestListLimit: P14.2, the elements that Split allows, and one more.
func TestListLimit(t *testing.T) {
	if api.MaxList != mostList {
		t.Errorf("MaxList = %d", api.MaxList)
	}
	many := func(n int) (string, []string) {
		var l []string
		for i := range n {
			l = append(l, []string{`"`, `W/"`}[i%2]+strconv.Itoa(i)+`,"`)
		}
		return strings.Join(l, ", "), l
	}
	for n := 1; n <= mostList; n++ {
		s, l := many(n)
		wantList(t, s, l...)
		wantList(t, strings.Repeat(", ,", 99)+s+strings.Repeat(",\t", 99), l...)
		wantList(t, s+", x")
		wantList(t, "x, "+s)
		wantList(t, s+`, "`)
	}
	full, _ := many(mostList)
	over, _ := many(mostList + 1)
	wantList(t, over)
	wantList(t, full+`, ""`)
	wantList(t, full+", "+full)
	wantList(t, strings.Repeat(`"a",`, 1<<16))
	long := `"` + strings.Repeat("a,", 1<<19) + `"`
	wantList(t, long, long)
	rep := samples.Fields("ETag", `"`+strconv.Itoa(mostList-2)+`,"`)
	wantNotModified(t, samples.Fields("If-None-Match", full), rep, 0, true)
	wantNotModified(t, samples.Fields("If-None-Match", over), rep, 0, false)
}

// TestNoneMatch: P14.3, what is asked by tags alone.
func TestNoneMatch(t *testing.T) {
	for _, c := range []struct {
		had, current string
		want         bool
	}{
		{`"a"`, `"a"`, true}, {`"a"`, `W/"a"`, true}, {`W/"a"`, `"a"`, true}, {`W/"a"`, `W/"a"`, true}, {`""`, `""`, true}, {`""`, `W/""`, true},
		{`"b", "a"`, `"a"`, true}, {`"a","b"`, `"a"`, true}, {`"b", W/"c", W/"a", "d"`, `"a"`, true}, {` , "a" ,`, `"a"`, true}, {`"b", "c"`, `"a"`, false},
		{`"a,b"`, `"a,b"`, true}, {`"a", "b"`, `"a,b"`, false}, {`"a,b"`, `"a"`, false}, {`"*"`, `"*"`, true}, {`"*"`, `"a"`, false}, {`"A"`, `"a"`, false}, {`"ab"`, `"a"`, false}, {`"a"`, `"ab"`, false}, {`"a"`, `""`, false}, {`""`, `"a"`, false},
		// No list of tags, though one of its elements is the same.
		{`"a", b`, `"a"`, false}, {`b, "a"`, `"a"`, false}, {`"a" "b"`, `"a"`, false}, {`"a", w/"b"`, `"a"`, false}, {`"a", "`, `"a"`, false}, {`"a", *`, `"a"`, false}, {`*, "a"`, `"a"`, false}, {`"a", "b c"`, `"a"`, false},
		{"", `"a"`, false}, {" ", `"a"`, false}, {",", `"a"`, false}, {"a", "a", false}, {`"a`, `"a`, false}, {"**", `"a"`, false}, {" *", `"a"`, false}, {"* ", `"a"`, false}, {"W/*", `"a"`, false},
		// The reply's is no entity tag.
		{`"a"`, "", false}, {`"a"`, "a", false}, {`"a"`, "*", false}, {`"a"`, `w/"a"`, false}, {`"a"`, ` "a"`, false}, {`"a"`, `"a" `, false}, {`"a"`, `"a", "a"`, false}, {`"a", "b"`, `"a", "b"`, false}, {"", "", false}, {`""`, "", false},
		// All tags.
		{"*", `"a"`, true}, {"*", `W/""`, true}, {"*", "a", true}, {"*", "*", true}, {"*", "", true}, {"*", `"a", "b"`, true},
		// A list's elements are Split's: it passes over a byte 92 and the byte behind it.
		{`"\a"`, `"\a"`, true}, {`"\a"`, `"a"`, false}, {`"\"`, `"\"`, false}, {`"\\"`, `"\"`, false},
	} {
		for _, name := range []string{"if-none-match", "If-None-Match", "IF-NONE-MATCH"} {
			req := samples.Fields("Host", "h", name, c.had)
			wantNotModified(t, req, samples.Fields("etag", c.current), 0, c.want)
			wantNotModified(t, req, samples.Fields("X", "y", "ETag", c.current, "ETags", `"z"`), 0, c.want)
		}
		wantNotModified(t, samples.Fields("If-None-Match", c.had), nil, 0, c.had == "*")
		wantNotModified(t, samples.Fields("If-Match", c.had, "If-None-Matches", "*", "ETag", c.current), samples.Fields("ETag", c.current, "If-None-Match", "*"), 0, false)
	}
}

// TestJoined: P14.3, fields of one name are one list; a reply has one tag, and one date, or none.
func TestJoined(t *testing.T) {
	rep := samples.Fields("ETag", `"a"`, "Last-Modified", at(1000))
	for _, c := range []struct {
		req  []string
		want bool
	}{
		{[]string{"If-None-Match", `"b"`, "if-none-match", `"a"`}, true}, {[]string{"If-None-Match", `"a"`, "x", "y", "IF-NONE-MATCH", `"b"`}, true}, {[]string{"If-None-Match", "", "If-None-Match", `"a"`}, true}, {[]string{"If-None-Match", `"b"`, "If-None-Match", `"c"`}, false},
		{[]string{"If-None-Match", "*", "If-None-Match", "*"}, false}, {[]string{"If-None-Match", `"a"`, "If-None-Match", "*"}, false}, {[]string{"If-None-Match", "*", "If-None-Match", `"a"`}, false}, {[]string{"If-None-Match", "*", "If-None-Match", ""}, false}, {[]string{"If-None-Match", `"a`, "If-None-Match", `b"`}, false},
		{[]string{"If-Modified-Since", at(1000)}, true}, {[]string{"If-Modified-Since", at(1000), "if-modified-since", at(1000)}, false}, {[]string{"If-Modified-Since", "Thu", "If-Modified-Since", strings.TrimPrefix(at(1000), "Thu, ")}, true}, {[]string{"If-Modified-Since", at(1000), "If-Modified-Since", ""}, false},
	} {
		wantNotModified(t, samples.Fields(c.req...), rep, 0, c.want)
	}
	wantNotModified(t, samples.Fields("If-None-Match", `"a"`), samples.Fields("ETag", `"a"`, "etag", `"a"`), 0, false)
	wantNotModified(t, samples.Fields("If-None-Match", "*"), samples.Fields("ETag", `"a"`, "etag", `"b"`), 0, true)
	wantNotModified(t, samples.Fields("If-Modified-Since", at(1000)), samples.Fields("Last-Modified", at(1000), "last-modified", at(1000)), 0, false)
}

// TestModifiedSince: P14.3, what is asked by a date alone.
func TestModifiedSince(t *testing.T) {
	for _, c := range []struct {
		since, last string
		want        bool
	}{
		{at(1000), at(1000), true}, {at(1001), at(1000), true}, {at(999), at(1000), false}, {at(lastTick), at(0), true}, {at(0), at(lastTick), false}, {at(0), at(0), true}, {at(lastTick), at(lastTick), true}, {at(lastTick - 1), at(lastTick), false}, {at(1), at(0), true}, {at(0), at(1), false}, {at(1 << 31), at(1<<31 + 1), false}, {at(1<<32 + 1), at(2), true},
		// Dates of any form, by their ticks and not as texts.
		{written(1000, rfc850), at(1000), true}, {written(999, rfc850), at(1000), false}, {at(1000), written(1000, asctime), true}, {at(999), written(1000, asctime), false}, {written(1000, asctime), written(1000, rfc850), true}, {written(1000, rfc850), written(1001, asctime), false}, {at(31 * 86400), at(30 * 86400), true}, {at(30 * 86400), at(31 * 86400), false}, {at(4 * 86400), at(86400), true},
		// No dates.
		{"x", at(1000), false}, {at(1000), "x", false}, {"", at(0), false}, {at(1000), "", false}, {"", "", false}, {"x", "x", false}, {"*", at(0), false}, {"0", at(0), false}, {"1000", "1000", false}, {at(1000), "0", false}, {strings.ToLower(at(1000)), at(1000), false}, {at(1000) + " ", at(1000), false}, {at(1000), " " + at(1000), false}, {"Fri, 01 Jan 1970 00:16:40 GMT", at(1000), false}, {at(1000), "Fri, 01 Jan 1970 00:16:40 GMT", false}, {at(lastTick + 1), at(1000), false},
	} {
		for _, now := range []int64{0, 999, 5000, -1, math.MinInt64} {
			for _, name := range []string{"if-modified-since", "If-Modified-Since"} {
				wantNotModified(t, samples.Fields(name, c.since), samples.Fields("Last-Modified", c.last), now, c.want)
				wantNotModified(t, samples.Fields("a", "b", name, c.since), samples.Fields("ETag", `"a"`, "LAST-MODIFIED", c.last, "Date", at(0)), now, c.want)
			}
		}
		wantNotModified(t, samples.Fields("If-Modified-Since", c.since), nil, 0, false)
		wantNotModified(t, samples.Fields("If-Modified-Since", c.since), samples.Fields("Date", c.last, "Expires", c.last, "ETag", c.last), 0, false)
		wantNotModified(t, samples.Fields("If-Unmodified-Since", c.since, "Last-Modified", c.last), samples.Fields("Last-Modified", c.last, "If-Modified-Since", c.since), 0, false)
	}
}

// TestNow: P14.3, both dates' years of two digits are those at now.
func TestNow(t *testing.T) {
	in2044, in2094 := int64(2340316800), int64(3934310400)
	early, late := written(in2044, rfc850), written(in2094, rfc850)
	for _, c := range []struct {
		since, last string
		now         int64
		want        bool
	}{
		// 44 stands for 2044 in 1994 and in 2044; in 1970 for 1944, and in 9999 for 10044: both are refused.
		// 94 stands for 2094 in 2044; a year before it stands for 1994, in which that day of the week is another.
		{early, at(in2044), 784111777, true}, {early, at(in2044 + 1), 784111777, false}, {early, at(0), 0, false}, {early, at(0), in2044, true}, {early, at(0), math.MinInt64, false}, {early, at(0), math.MaxInt64, false},
		{at(in2044), early, 784111777, true}, {at(in2044 - 1), early, 784111777, false}, {at(lastTick), early, 0, false}, {at(lastTick), early, in2044, true}, {at(lastTick), early, math.MinInt64, false}, {at(lastTick), early, math.MaxInt64, false},
		{late, at(in2094), in2044, true}, {late, at(in2094), in2044 - 365*86400, false}, {at(in2094), late, in2044, true}, {at(in2094), late, in2044 - 365*86400, false}, {late, early, in2044, true}, {early, late, in2044, false},
	} {
		wantNotModified(t, samples.Fields("If-Modified-Since", c.since), samples.Fields("Last-Modified", c.last), c.now, c.want)
	}
}

// TestTagsFirst: P14.3, where the request names tags, no date counts, whatever they are.
func TestTagsFirst(t *testing.T) {
	newer, older := at(2000), at(500)
	for had, want := range map[string]bool{"*": true, `"a"`: true, `W/"a", "b"`: true, `"b"`: false, "": false, "x": false, `"a", x`: false, newer: false} {
		for _, since := range []string{newer, older, "x", ""} {
			for _, pairs := range [][]string{{"If-None-Match", had, "If-Modified-Since", since}, {"if-modified-since", since, "if-none-match", had}} {
				wantNotModified(t, samples.Fields(pairs...), samples.Fields("ETag", `"a"`, "Last-Modified", at(1000)), 0, want)
				wantNotModified(t, samples.Fields(pairs...), samples.Fields("Last-Modified", at(1000)), 0, had == "*")
			}
		}
	}
	for _, pairs := range [][]string{nil, {"", ""}, {"Host", "h"}, {"ETag", `"a"`}, {"If-Match", "*"}, {"If-Range", `"a"`}, {"X-If-None-Match", "*"}, {"If-None-Match ", "*"}, {"If_None_Match", "*"}} {
		for _, rep := range [][]api.Field{nil, {}, samples.Fields("ETag", `"a"`, "Last-Modified", at(1000)), samples.Fields("ETag", "", "Last-Modified", "")} {
			wantNotModified(t, samples.Fields(pairs...), rep, 0, false)
		}
	}
}

// TestSamples: P14.3, messages of everything at a time, made of their meanings.
func TestSamples(t *testing.T) {
	random := rand.New(rand.NewSource(14))
	ticks := []int64{0, 1, 999, 1000, 1001, 784111777, lastTick}
	date := func() (string, int64, bool) {
		tick := ticks[random.Intn(len(ticks))]
		switch random.Intn(5) {
		case 0:
			return written(tick, asctime), tick, true
		case 1:
			return []string{"", "0", "x", at(tick) + "."}[random.Intn(4)], 0, false
		}
		return at(tick), tick, true
	}
	tags := []string{`"a"`, `W/"a"`, `"b"`, `W/"b,"`, `"b,"`, `""`}
	for range 50000 {
		var req, rep []string
		current, has := tags[random.Intn(len(tags))], random.Intn(3) > 0
		if has {
			rep = append(rep, "ETag", current)
		}
		last, lastTick, dated := date()
		if random.Intn(3) > 0 {
			rep = append(rep, "Last-Modified", last)
		} else {
			dated = false
		}
		since, sinceTick, asked := date()
		want := asked && dated && lastTick <= sinceTick
		if random.Intn(4) > 0 {
			req = append(req, "If-Modified-Since", since)
		} else {
			want = false
		}
		if random.Intn(2) == 0 {
			want = false
			for range 1 + random.Intn(3) {
				tag := tags[random.Intn(len(tags))]
				req = append(req, "If-None-Match", tag)
				want = want || has && strings.TrimPrefix(tag, "W/") == strings.TrimPrefix(current, "W/")
			}
			switch random.Intn(6) {
			case 0:
				req, want = append(req, "If-None-Match", "b"), false
			case 1:
				req = append(req, "If-None-Match", "")
			}
		}
		wantNotModified(t, samples.Fields(req...), samples.Fields(rep...), ticks[random.Intn(len(ticks))], want)
		if t.Failed() {
			return
		}
	}
}

// TestArgumentsStay: P14.5, nothing that comes in is changed or kept, and no answer has a place in common with it or with another answer.
func TestArgumentsStay(t *testing.T) {
	s := string([]byte(`W/"abc"`))
	if _, tag, _ := etag.Parse(s); unsafe.StringData(tag) == unsafe.StringData(s[3:]) {
		t.Errorf("the tag %q has its place in %q", tag, s)
	}
	list := string([]byte(`"abc", "def"`))
	first, _ := etag.List(list)
	second, _ := etag.List(list)
	if unsafe.StringData(first[0]) == unsafe.StringData(list) {
		t.Errorf("the element %q has its place in %q", first[0], list)
	}
	clear(first[:cap(first)])
	if want := []string{`"abc"`, `"def"`}; !slices.Equal(second, want) {
		t.Errorf("changed: %q", second)
	}

	made := func() ([]api.Field, api.Reply) {
		return samples.Fields("If-None-Match", `"a"`, "If-Modified-Since", at(0)), api.Reply{Status: 200, Fields: samples.Fields("Last-Modified", at(1000), "ETag", `W/"a"`), Body: "b"}
	}
	req, rep := made()
	sameReq, sameRep := made()
	for range 2 {
		if !etag.NotModified(req, rep, 0) {
			t.Errorf("NotModified(%s, %s, 0) = false", samples.Told(req), samples.Told(rep.Fields))
		}
	}
	if !reflect.DeepEqual(req, sameReq) || !reflect.DeepEqual(rep, sameRep) {
		t.Errorf("changed: %s, %s", samples.Told(req), samples.Told(rep.Fields))
	}
	req[0].Value = `"b"`
	if etag.NotModified(req, rep, 0) {
		t.Errorf("NotModified(%s, %s, 0) = true", samples.Told(req), samples.Told(rep.Fields))
	}
}

// TestAnyBytes: P14.5, no call panics, whatever it is given.
func TestAnyBytes(t *testing.T) {
	random := rand.New(rand.NewSource(145))
	pieces := []string{`"`, "W/", "W", "a", `"a"`, `\`, ",", ", ", " ", "*", "\x00", "\x7f", "\xff", "\r\n", at(0), written(0, rfc850), ""}
	draw := func() string {
		s := ""
		for range random.Intn(8) {
			s += pieces[random.Intn(len(pieces))]
		}
		return s
	}
	names := []string{"if-none-match", "if-modified-since", "etag", "last-modified", "", "\xff", "If-None-Match"}
	drawFields := func() []api.Field {
		var pairs []string
		for range random.Intn(5) {
			pairs = append(pairs, names[random.Intn(len(names))], draw())
		}
		return samples.Fields(pairs...)
	}
	for range 50000 {
		a, b := draw(), draw()
		wantDefined(t, a)
		wantList(t, a, elements(a)...)
		strong, weak := same(a, b)
		wantSame(t, a, b, strong, weak)
		etag.NotModified(drawFields(), api.Reply{Fields: drawFields()}, random.Int63()-random.Int63())
		if t.Failed() {
			return
		}
	}
	many := slices.Repeat(samples.Fields("If-None-Match", `"b"`, "ETag", `"a"`), 1<<12)
	wantNotModified(t, many, many, math.MaxInt64, false)
}
