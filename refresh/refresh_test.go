package refresh_test

import (
	"math"
	"math/rand"
	"reflect"
	"slices"
	"strconv"
	"strings"
	"testing"
	"time"
	"unsafe"

	"inlay/api"
	"inlay/fields"
	"inlay/refresh"
	"inlay/samples"
	"inlay/text"
)

const (
	lastTick = 253402300799
	fixdate  = "Mon, 02 Jan 2006 15:04:05 GMT"
	rfc850   = "Monday, 02-Jan-06 15:04:05 GMT"
	asctime  = "Mon Jan _2 15:04:05 2006"
	// The names that stay what they were, and those that go no further than one hop in every list.
	five = "content-length content-encoding content-type content-range vary"
	nine = "connection keep-alive proxy-connection te trailer transfer-encoding upgrade proxy-authenticate proxy-authorization"
)

func written(tick int64, form string) string {
	return time.Unix(tick, 0).UTC().Format(form)
}

// entry answers one whose reply has fields of names and values in turn.
func entry(pairs ...string) api.Entry {
	reply := api.Reply{Status: 200, Reason: "OK", Minor: 1, Fields: samples.Fields(pairs...), Body: "b"}
	return api.Entry{Reply: reply, Asked: 100, Got: 110, Vary: samples.Fields("v", "w", "x", "")}
}

func answer(pairs ...string) api.Reply {
	return api.Reply{Status: 304, Reason: "Not Modified", Minor: 0, Fields: samples.Fields(pairs...), Body: "c"}
}

// wantAsk holds the fields that e is asked about with against names and values in turn.
func wantAsk(t *testing.T, e api.Entry, pairs ...string) {
	t.Helper()
	if got, want := refresh.Ask(e), samples.Fields(pairs...); !slices.Equal(got, want) {
		t.Errorf("Ask(%s, got at %d) = %s; want %s", samples.Told(e.Reply.Fields), e.Got, samples.Told(got), samples.Told(want))
	}
}

// wantWith holds the fields that a reply has after a 304 against those wanted, and all else of the entry against what it was.
func wantWith(t *testing.T, e api.Entry, rep api.Reply, want []api.Field) {
	t.Helper()
	got := refresh.With(e, rep, 1000, 2000)
	if !slices.Equal(got.Reply.Fields, want) {
		t.Errorf("With(%s, %s) = %s; want %s", samples.Told(e.Reply.Fields), samples.Told(rep.Fields), samples.Told(got.Reply.Fields), samples.Told(want))
	}
	if !slices.Equal(got.Vary, e.Vary) || got.Asked != 1000 || got.Got != 2000 {
		t.Errorf("With of the Vary %s makes %s of it, asked at %d, got at %d", samples.Told(e.Vary), samples.Told(got.Vary), got.Asked, got.Got)
	}
	if a, b := got.Reply, e.Reply; a.Status != b.Status || a.Reason != b.Reason || a.Minor != b.Minor || a.Body != b.Body {
		t.Errorf("With makes %d %q %d %q of %d %q %d %q", a.Status, a.Reason, a.Minor, a.Body, b.Status, b.Reason, b.Minor, b.Body)
	}
}

// except answers the fields of l that have none of the names.
func except(l []api.Field, names ...string) []api.Field {
	return slices.DeleteFunc(slices.Clone(l), func(f api.Field) bool {
		return slices.ContainsFunc(names, func(name string) bool { return text.Same(f.Name, name) })
	})
}

// defined answers, field by field, what the definitions make of a stored reply's fields and of those of a 304.
func defined(stored, rep []api.Field) (remaining, updates []api.Field) {
	updates = except(rep, slices.Concat(strings.Fields(five), fields.Hop(rep))...)
	remaining = except(stored, "age", "date")
	for _, f := range updates {
		remaining = except(remaining, f.Name)
	}
	return remaining, updates
}

// TestExamples: P20.1, P20.2, the chapter's examples.
func TestExamples(t *testing.T) {
	day := written(784111777, fixdate)
	wantAsk(t, entry("ETag", `"a"`, "Last-Modified", day), "If-None-Match", `"a"`, "If-Modified-Since", day)
	wantAsk(t, entry("ETag", "a"))
	wantAsk(t, entry())
	wantWith(t, entry("A", "1", "Age", "5", "ETag", `"a"`), answer("a", "2", "Date", "d", "Content-Length", "9", "Connection", "x", "X", "1"), samples.Fields("ETag", `"a"`, "a", "2", "Date", "d"))
	wantWith(t, entry("A", "1", "Vary", "b"), answer("Vary", "c"), samples.Fields("A", "1", "Vary", "b"))
}

// TestAsk: P20.1, each field for itself, the tag first, both as they stand in the reply.
func TestAsk(t *testing.T) {
	tags := map[string]bool{
		`"a"`: true, `""`: true, `W/"a"`: true, `W/""`: true, `"W/a"`: true, `"a,b"`: true, `"*"`: true, "\"\xff\x80!#~\"": true, `"\a"`: true, `"` + strings.Repeat("x", 5000) + `"`: true,
		"": false, "a": false, "*": false, `"`: false, `"a`: false, `a"`: false, `w/"a"`: false, `W"a"`: false, `W/ "a"`: false, `W/W/"a"`: false, `"a""`: false, `"a" `: false, ` "a"`: false, `"a b"`: false, `"a", "b"`: false, `"a","b"`: false, `'a'`: false,
	}
	dates := map[string]bool{
		written(0, fixdate): true, written(1000, fixdate): true, written(1000, asctime): true, written(1000, rfc850): true, written(lastTick, fixdate): true, written(784111777, rfc850): true,
		"": false, "0": false, "x": false, "1000": false, written(1000, fixdate) + " ": false, " " + written(1000, fixdate): false, strings.ToLower(written(1000, fixdate)): false, "Fri, 01 Jan 1970 00:16:40 GMT": false, written(lastTick+1, fixdate): false, "Wed, 31 Dec 1969 23:59:59 GMT": false, "Thu, 01 Jan 1970 00:00:60 GMT": false,
	}
	for tag, isTag := range tags {
		for day, isDate := range dates {
			var both, first, second []string
			if isTag {
				first = []string{"If-None-Match", tag}
			}
			if isDate {
				second = []string{"If-Modified-Since", day}
			}
			both = slices.Concat(first, second)
			wantAsk(t, entry("ETag", tag, "Last-Modified", day), both...)
			wantAsk(t, entry("last-modified", day, "A", "1", "etag", tag), both...)
			wantAsk(t, entry("ETAG", tag, "Date", day, "Expires", day), first...)
			wantAsk(t, entry("LAST-MODIFIED", day, "ETag2", tag, "E-Tag", tag), second...)
		}
	}
}

// TestAskEachByte: P20.1, which bytes a tag may have, and no fewer than all of a date.
func TestAskEachByte(t *testing.T) {
	day := written(1000, fixdate)
	samples.EachByte(func(c byte, s string) {
		var want []string
		if c == 33 || 35 <= c && c <= 126 || 128 <= c {
			want = []string{"If-None-Match", `"` + s + `"`}
		}
		wantAsk(t, entry("ETag", `"`+s+`"`), want...)
		if c != '"' {
			wantAsk(t, entry("ETag", s+`"a"`))
		}
		wantAsk(t, entry("ETag", `"a"`+s))
		wantAsk(t, entry("Last-Modified", day+s))
		wantAsk(t, entry("Last-Modified", s+day))
	})
}

// TestAskJoined: P20.1, fields of one name count as the one value that they make together.
func TestAskJoined(t *testing.T) {
	day := written(1000, fixdate)
	wantAsk(t, entry("ETag", `"a"`, "etag", `"b"`, "Last-Modified", day), "If-Modified-Since", day)
	wantAsk(t, entry("ETag", `"a"`, "ETag", `"a"`))
	wantAsk(t, entry("ETag", `"a"`, "ETag", ""))
	wantAsk(t, entry("ETag", "", "ETag", `"a"`))
	wantAsk(t, entry("ETag", `"a`, "ETag", `b"`))
	wantAsk(t, entry("Last-Modified", day, "Last-Modified", day, "ETag", `"a"`), "If-None-Match", `"a"`)
	wantAsk(t, entry("Last-Modified", day, "last-modified", ""))
	wantAsk(t, entry("Last-Modified", "Thu", "a", "b", "LAST-Modified", strings.TrimPrefix(day, "Thu, ")), "If-Modified-Since", day)
	wantAsk(t, entry("Last-Modified", strings.TrimPrefix(day, "Thu, "), "Last-Modified", "Thu"))
}

// TestAskNow: P20.1, a year of two digits is the one that it is when the reply was got.
func TestAskNow(t *testing.T) {
	in2044, in2094 := int64(2340316800), int64(3934310400)
	for _, c := range []struct {
		day string
		got int64
		is  bool
	}{
		// 44 stands for 2044 in 1994 and in 2044; in 1970 for 1944, and in 9999 for 10044: both are refused.
		{written(in2044, rfc850), 784111777, true}, {written(in2044, rfc850), in2044, true}, {written(in2044, rfc850), 0, false}, {written(in2044, rfc850), -1, false}, {written(in2044, rfc850), math.MinInt64, false}, {written(in2044, rfc850), lastTick, false}, {written(in2044, rfc850), math.MaxInt64, false},
		// 94 stands for 2094 in 2044; a year before it stands for 1994, in which that day of the week is another.
		{written(in2094, rfc850), in2044, true}, {written(in2094, rfc850), in2044 - 365*86400, false},
		{written(in2094, fixdate), in2044 - 365*86400, true}, {written(lastTick, fixdate), math.MinInt64, true}, {written(0, asctime), math.MaxInt64, true},
	} {
		for _, asked := range []int64{0, in2044, in2044 - 365*86400, 784111777, math.MinInt64, math.MaxInt64} {
			e := entry("Last-Modified", c.day)
			e.Asked, e.Got = asked, c.got
			if c.is {
				wantAsk(t, e, "If-Modified-Since", c.day)
			} else {
				wantAsk(t, e)
			}
		}
	}
}

// TestAskOfReply: P20.1, the fields of the reply alone tell what is asked.
func TestAskOfReply(t *testing.T) {
	day := written(1000, fixdate)
	all := samples.Fields("ETag", `"a"`, "Last-Modified", day)
	for _, status := range []int{200, 304, 404, 0, -1, math.MaxInt} {
		e := api.Entry{Reply: api.Reply{Status: status, Reason: `"a"`, Body: `"a"`}, Vary: all}
		wantAsk(t, e)
		e.Reply.Fields, e.Vary = all, nil
		wantAsk(t, e, "If-None-Match", `"a"`, "If-Modified-Since", day)
	}
	wantAsk(t, api.Entry{})
	wantAsk(t, entry("If-None-Match", `"a"`, "If-Modified-Since", day))
	wantAsk(t, entry("", `"a"`, "ETag ", `"a"`, "X-ETag", `"a"`, "Last-Modified ", day, "Last_Modified", day, "\xe5tag", `"a"`))
	// That a connection names them makes no difference: they were stored.
	wantAsk(t, entry("Connection", "etag, last-modified", "ETag", `"a"`, "Last-Modified", day), "If-None-Match", `"a"`, "If-Modified-Since", day)
}

// TestNoUpdates: P20.2, P20.4, what of a 304 changes nothing, however its name is written.
func TestNoUpdates(t *testing.T) {
	random := rand.New(rand.NewSource(20))
	for _, name := range strings.Fields(five + " " + nine) {
		for range 20 {
			had, news := samples.Mixed(name, random.Intn), samples.Mixed(name, random.Intn)
			wantWith(t, entry(had, "1", "A", "2"), answer(news, "3"), samples.Fields(had, "1", "A", "2"))
			wantWith(t, entry("A", "2"), answer(news, "3", "B", "4", news, "5"), samples.Fields("A", "2", "B", "4"))
			wantWith(t, entry(had, "1", "B", "2", had, "3"), answer("b", "4", news, "5"), samples.Fields(had, "1", had, "3", "b", "4"))
		}
		// Those that are almost named so are updates as any other.
		for _, other := range []string{"x" + name, name + "x", name[1:], name[:len(name)-1], name + " ", "x-" + name} {
			wantWith(t, entry(other, "1", "A", "2"), answer(strings.ToUpper(other), "3"), samples.Fields("A", "2", strings.ToUpper(other), "3"))
		}
	}
	for _, name := range []string{"content-location", "content-language", "content", "content-md5", "host", "etag", "last-modified", "expires", "cache-control", "surrogate-control", "set-cookie", "allow", "server", "", "x y"} {
		wantWith(t, entry("A", "1", strings.ToUpper(name), "2"), answer(name, "3"), samples.Fields("A", "1", name, "3"))
	}
}

// TestNamedByConnection: P20.2, what the 304's connection names is not passed on; what the stored reply's names is no matter.
func TestNamedByConnection(t *testing.T) {
	wantWith(t, entry("X", "1", "Y", "2", "Z", "3"), answer("Connection", "X, y", "x", "4", "Y", "5", "Z", "6"), samples.Fields("X", "1", "Y", "2", "Z", "6"))
	wantWith(t, entry("X", "1"), answer("X", "4", "X", "5", "connection", `a, "b", close`, "CONNECTION", "x"), samples.Fields("X", "1"))
	wantWith(t, entry("X", "1"), answer("X", "4", "connection", `x, "b`), samples.Fields("X", "4"))
	wantWith(t, entry("X", "1"), answer("X", "4", "connection", `"x"`), samples.Fields("X", "4"))
	wantWith(t, entry("X", "1", "Connection", "X"), answer("X", "4"), samples.Fields("Connection", "X", "X", "4"))
	wantWith(t, entry("X", "1"), answer("X-Connection", "X", "X", "4"), samples.Fields("X-Connection", "X", "X", "4"))
	// The stored age and date are of another time, also where the new ones are not passed on.
	wantWith(t, entry("Date", "1", "Age", "2", "ETag", "3"), answer("Connection", "date, age, etag", "Date", "4", "Age", "5", "ETag", "6"), samples.Fields("ETag", "3"))

	var pairs []string
	var names []string
	for i := range api.MaxList + 1 {
		names = append(names, "n"+strconv.Itoa(i))
		pairs = append(pairs, names[i], "new")
	}
	list := strings.Join(names[:api.MaxList], ",")
	wantWith(t, entry(), answer(append([]string{"Connection", list}, pairs...)...), samples.Fields(names[api.MaxList], "new"))
	// With one more of them the value is no list, and names nothing.
	wantWith(t, entry(), answer(append([]string{"Connection", list + "," + names[api.MaxList]}, pairs...)...), samples.Fields(pairs...))
}

// TestRemaining: P20.2, what stays of a stored reply, and where it stands.
func TestRemaining(t *testing.T) {
	for _, c := range [][3][]string{
		{{"Date", "1", "A", "2", "A", "3"}, nil, {"A", "2", "A", "3"}},
		{{"A", "1", "B", "2"}, {"a", "3", "A", "4"}, {"B", "2", "a", "3", "A", "4"}},
		{{"A", "1", "a", "2", "B", "3", "A", "4"}, {"A", "5"}, {"B", "3", "A", "5"}},
		{{"A", "1", "B", "2", "C", "3"}, {"C", "4", "D", "5", "A", "6"}, {"B", "2", "C", "4", "D", "5", "A", "6"}},
		{{"C", "1", "B", "2", "A", "3"}, {"X", "4"}, {"C", "1", "B", "2", "A", "3", "X", "4"}},
		{{"AGE", "1", "age", "2", "DATE", "3", "date", "4"}, nil, nil},
		{{"Ages", "1", "Dates", "2", "X-Age", "3", "X-Date", "4", "Age ", "5", "", "6", "Ag", "7"}, nil, {"Ages", "1", "Dates", "2", "X-Age", "3", "X-Date", "4", "Age ", "5", "", "6", "Ag", "7"}},
		{{"Age", "1", "Date", "2"}, {"Age", "3", "Date", "4"}, {"Age", "3", "Date", "4"}},
		{{"Date", "1", "A", "2"}, {"Age", "3"}, {"A", "2", "Age", "3"}},
		{{"Age", "1", "A", "2"}, {"DATE", "3", "dAtE", "4"}, {"A", "2", "DATE", "3", "dAtE", "4"}},
		{{"A", "1"}, {"A", ""}, {"A", ""}},
		{{"A", "1"}, {"A", "1"}, {"A", "1"}},
		{{"A", "1", "A", "1"}, {"a", "1"}, {"a", "1"}},
		{{"", "1", "A", "2"}, {"", "3"}, {"A", "2", "", "3"}},
		{{"\xe1", "1", "\xc1", "2"}, {"\xe1", "3"}, {"\xc1", "2", "\xe1", "3"}},
		{{"K", "1", "k", "2", "\u212a", "3"}, {"\u212a", "4"}, {"K", "1", "k", "2", "\u212a", "4"}},
		{{"[", "1", "{", "2", "@", "3", "`", "4"}, {"{", "5", "@", "6"}, {"[", "1", "`", "4", "{", "5", "@", "6"}},
		{{"Content-Length", "1", "Content-Type", "2", "Content-Encoding", "3", "Content-Range", "4", "Vary", "5"}, {"vary", "6", "Content-Type", "7", "Content-Length", "8", "ETag", "9"}, {"Content-Length", "1", "Content-Type", "2", "Content-Encoding", "3", "Content-Range", "4", "Vary", "5", "ETag", "9"}},
		{nil, {"A", "1", "B", "2", "A", "3"}, {"A", "1", "B", "2", "A", "3"}},
		{nil, nil, nil},
	} {
		wantWith(t, entry(c[0]...), answer(c[1]...), samples.Fields(c[2]...))
	}
}

// TestAllElseStays: P20.2, P20.4, of a 304 nothing counts but its fields, and of the entry nothing else is changed but the ticks.
func TestAllElseStays(t *testing.T) {
	ticks := []int64{math.MinInt64, -1, 0, 1, 1000, lastTick, lastTick + 1, math.MaxInt64}
	for i, reply := range []api.Reply{{}, {Status: 200, Reason: "OK", Minor: 1, Body: "body"}, {Status: -5, Reason: "\xff\r\n", Minor: math.MinInt, Body: strings.Repeat("b", api.MaxOut+1)}, {Status: math.MaxInt, Minor: math.MaxInt}} {
		for j, rep := range []api.Reply{{}, {Status: 304, Reason: "Not Modified", Minor: 1}, {Status: 200, Reason: "x", Minor: 0, Body: "another"}, {Status: 500, Reason: "OK", Minor: -1, Body: "\x00"}} {
			for k, vary := range [][]api.Field{nil, {}, samples.Fields("", ""), samples.Fields("Age", "1", "date", "2", "A", "3", "a", "4", "Connection", "x", "Vary", "*")} {
				e := api.Entry{Reply: reply, Asked: ticks[i], Got: ticks[j], Vary: vary}
				e.Reply.Fields, rep.Fields = samples.Fields("Age", "1", "B", "2"), samples.Fields("A", "3")
				wantWith(t, e, rep, samples.Fields("B", "2", "A", "3"))
				asked, got := ticks[i+j], ticks[(i+j+k)%len(ticks)]
				if now := refresh.With(e, rep, asked, got); now.Asked != asked || now.Got != got {
					t.Errorf("With(at %d and %d) is of %d and %d", asked, got, now.Asked, now.Got)
				}
			}
		}
	}
}

// TestEveryPair: P20.2, all short lists of a few fields, held against the definitions.
func TestEveryPair(t *testing.T) {
	meaning := map[rune]api.Field{'a': {Name: "a", Value: "1"}, 'A': {Name: "A", Value: "2"}, 'd': {Name: "Date", Value: "3"}, 'g': {Name: "age", Value: "4"}, 'v': {Name: "Vary", Value: "5"}, 'c': {Name: "Connection", Value: "A"}}
	var lists [][]api.Field
	samples.Words([]string{"a", "A", "d", "g", "v", "c"}, 3, func(s string) {
		var l []api.Field
		for _, c := range s {
			l = append(l, meaning[c])
		}
		lists = append(lists, l)
	})
	for _, stored := range lists {
		for _, rep := range lists {
			remaining, updates := defined(stored, rep)
			wantWith(t, api.Entry{Reply: api.Reply{Fields: stored}}, api.Reply{Fields: rep}, slices.Concat(remaining, updates))
		}
	}
}

// someFields draws a list of fields, some of which are of the same name, or of one that counts.
func someFields(draw func(n int) int) (l []api.Field) {
	for range draw(9) {
		name := samples.Pick(draw, slices.Concat(strings.Fields(five), []string{"age", "date", "a", "b", "connection", "te", "etag", "last-modified", "cache-control", "", "\xff", "a b"})...)
		value := samples.Pick(draw, "", "1", "2", "a", "A, te, date", "b, vary, content-type", `"a"`, `"a", b`, `a, "`, " 1")
		l = samples.Inserted(draw, l, name, value)
	}
	return l
}

// same tells whether two entries are alike in all but ticks; a list that is nil is one that is empty.
func same(a, b api.Entry) bool {
	return slices.Equal(a.Reply.Fields, b.Reply.Fields) && slices.Equal(a.Vary, b.Vary) && a.Reply.Status == b.Reply.Status && a.Reply.Reason == b.Reply.Reason && a.Reply.Minor == b.Reply.Minor && a.Reply.Body == b.Reply.Body
}

// TestProperties: P20.3, P20.4, of lists drawn at random.
func TestProperties(t *testing.T) {
	draw := rand.New(rand.NewSource(203)).Intn
	for range 20000 {
		e, rep := entry(), answer()
		e.Reply.Fields, rep.Fields = someFields(draw), someFields(draw)
		before := e.Reply.Fields
		remaining, updates := defined(before, rep.Fields)
		wantWith(t, e, rep, slices.Concat(remaining, updates))
		wantWith(t, e, answer(), except(before, "age", "date"))

		once := refresh.With(e, rep, 3, 4)
		after := once.Reply.Fields
		for _, f := range updates {
			if got, want := fields.Values(after, f.Name), fields.Values(rep.Fields, f.Name); !slices.Equal(got, want) {
				t.Errorf("With(%s, %s): the values of %q are %q", samples.Told(before), samples.Told(rep.Fields), f.Name, got)
			}
		}
		for _, name := range strings.Fields(five) {
			if got, want := fields.Values(after, name), fields.Values(before, name); !slices.Equal(got, want) {
				t.Errorf("With(%s, %s): the values of %q are %q", samples.Told(before), samples.Told(rep.Fields), name, got)
			}
		}
		if twice := refresh.With(once, rep, 5, 6); !same(once, twice) || twice.Asked != 5 || twice.Got != 6 {
			t.Errorf("With(%s, %s) and again: %s, and %s", samples.Told(before), samples.Told(rep.Fields), samples.Told(after), samples.Told(twice.Reply.Fields))
		}
		if t.Failed() {
			return
		}
	}
}

// TestNewMemory: P20.5, whatever is done to what was passed in shows in no answer.
func TestNewMemory(t *testing.T) {
	bytes := []byte(`reason ETag "a" body vary text Cache-Control news Last-Modified Thu, 01 Jan 1970 00:16:40 GMT`)
	part := func(s string) string {
		return unsafe.String(&bytes[strings.Index(string(bytes), s)], len(s))
	}
	list := func(pairs ...string) []api.Field {
		for i, s := range pairs {
			pairs[i] = part(s)
		}
		return samples.Fields(pairs...)
	}
	day := "Thu, 01 Jan 1970 00:16:40 GMT"
	had, vary, news := list("ETag", `"a"`, "Last-Modified", day), list("vary", "text"), list("Cache-Control", "news")
	e := api.Entry{Reply: api.Reply{Status: 200, Reason: part("reason"), Minor: 1, Fields: had, Body: part("body")}, Vary: vary}
	asked, now := refresh.Ask(e), refresh.With(e, api.Reply{Fields: news}, 7, 8)
	copy(bytes, strings.Repeat("#", len(bytes)))
	for _, l := range [][]api.Field{had, vary, news} {
		clear(l)
	}
	if !slices.Equal(asked, samples.Fields("If-None-Match", `"a"`, "If-Modified-Since", day)) {
		t.Errorf("Ask = %s", samples.Told(asked))
	}
	want := api.Entry{Reply: api.Reply{Status: 200, Reason: "reason", Minor: 1, Fields: samples.Fields("ETag", `"a"`, "Last-Modified", day, "Cache-Control", "news"), Body: "body"}, Asked: 7, Got: 8, Vary: samples.Fields("vary", "text")}
	if !reflect.DeepEqual(now, want) {
		t.Errorf("With = %v; want %v", now, want)
	}
	// Nor do the lists of an answer share anything, with room behind their ends or without.
	now.Reply.Fields = append(now.Reply.Fields, api.Field{Name: "more"})
	now.Vary = append(now.Vary, api.Field{Name: "others"})
	clear(now.Reply.Fields[:cap(now.Reply.Fields)])
	if !slices.Equal(now.Vary, samples.Fields("vary", "text", "others", "")) {
		t.Errorf("the Vary is %s", samples.Told(now.Vary))
	}
}

// TestArgumentsStay: P20.5, nothing that comes in is changed, nor what stands behind the ends of its lists.
func TestArgumentsStay(t *testing.T) {
	draw := rand.New(rand.NewSource(205)).Intn
	roomy := func() (list, room []api.Field) {
		list = someFields(draw)
		room = append(list, slices.Repeat(samples.Fields("room", "room"), 9)...)
		return room[:len(list)], room
	}
	for range 5000 {
		stored, a := roomy()
		vary, b := roomy()
		news, c := roomy()
		was := slices.Concat(a, b, c)
		e := api.Entry{Reply: api.Reply{Fields: stored}, Vary: vary}
		answers := func() []any {
			return []any{refresh.Ask(e), refresh.With(e, api.Reply{Fields: news}, 1, 2)}
		}
		first := answers()
		asked, now := refresh.Ask(e), refresh.With(e, api.Reply{Fields: news}, 1, 2)
		for _, l := range [][]api.Field{asked, now.Reply.Fields, now.Vary} {
			clear(l[:cap(l)])
		}
		if second := answers(); !reflect.DeepEqual(first, second) {
			t.Fatalf("answered %v, and then %v", first, second)
		}
		if !slices.Equal(slices.Concat(a, b, c), was) {
			t.Fatalf("changed: %s, %s, %s", samples.Told(a), samples.Told(b), samples.Told(c))
		}
	}
}

// TestAnyBytes: P20.5, no call panics, and each ends, whatever it is given.
func TestAnyBytes(t *testing.T) {
	random := rand.New(rand.NewSource(2055))
	pieces := []string{`"`, "W/", "a", `"a"`, ",", " ", "*", "\x00", "\x7f", "\xff", "\r\n", ":", written(0, fixdate), written(0, rfc850), "connection", "age", "vary", ""}
	word := func() (s string) {
		for range random.Intn(4) {
			s += samples.Pick(random.Intn, pieces...)
		}
		return s
	}
	list := func() (l []api.Field) {
		for range random.Intn(5) {
			l = append(l, api.Field{Name: samples.Pick(random.Intn, "ETag", "Last-Modified", "connection", word()), Value: word()})
		}
		return l
	}
	for range 20000 {
		e := api.Entry{Reply: api.Reply{Status: random.Int(), Reason: word(), Minor: -random.Int(), Fields: list(), Body: word()}, Asked: random.Int63() - random.Int63(), Got: random.Int63() - random.Int63(), Vary: list()}
		rep := api.Reply{Status: -random.Int(), Reason: word(), Fields: list(), Body: word()}
		refresh.Ask(e)
		remaining, updates := defined(e.Reply.Fields, rep.Fields)
		wantWith(t, e, rep, slices.Concat(remaining, updates))
		if t.Failed() {
			return
		}
	}
	wantWith(t, api.Entry{}, api.Reply{}, nil)
	wantWith(t, api.Entry{Reply: api.Reply{Fields: []api.Field{}}, Vary: []api.Field{}}, api.Reply{Fields: []api.Field{}}, nil)
}

// TestMany: P20.2, P20.5, a great number of fields, each of which is new.
func TestMany(t *testing.T) {
	var had, news []string
	for i := range 1 << 16 {
		had = append(had, "A"+strconv.Itoa(i), "old")
		news = append(news, "a"+strconv.Itoa(i+1), "new")
	}
	start := time.Now()
	wantWith(t, entry(had...), answer(news...), samples.Fields(append([]string{"A0", "old"}, news...)...))
	wantAsk(t, entry(slices.Concat(had, []string{"ETag", `"a"`})...), "If-None-Match", `"a"`)
	if took := time.Since(start); took > 20*time.Second {
		t.Errorf("took %v", took)
	}
}
