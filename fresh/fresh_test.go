package fresh_test

import (
	"math"
	"math/big"
	"math/rand"
	"reflect"
	"slices"
	"strconv"
	"strings"
	"testing"
	"time"

	"inlay/api"
	"inlay/fresh"
	"inlay/samples"
)

const (
	mostList = 64
	most     = 2147483648
	fixdate  = "Mon, 02 Jan 2006 15:04:05 GMT"
	rfc850   = "Monday, 02-Jan-06 15:04:05 GMT"
	asctime  = "Mon Jan _2 15:04:05 2006"
)

// at answers the tick of the beginning of a day.
func at(year int, month time.Month, day int) int64 {
	return time.Date(year, month, day, 0, 0, 0, 0, time.UTC).Unix()
}

func written(tick int64, form string) string {
	return time.Unix(tick, 0).UTC().Format(form)
}

// entry answers one that was requested at 100 and received at 110, with fields of names and values in turn.
func entry(pairs ...string) api.Entry {
	return entryOf(100, 110, pairs...)
}

func entryOf(asked, got int64, pairs ...string) api.Entry {
	return api.Entry{Reply: api.Reply{Status: 200, Minor: 1, Fields: samples.Fields(pairs...)}, Asked: asked, Got: got}
}

// lasting answers an entry with the fields, and with an expires, 1000 after its date, that no directive may fall through to.
func lasting(pairs ...string) api.Entry {
	return entry(append(pairs, "Expires", written(2000, fixdate), "Date", written(1000, fixdate))...)
}

// since answers P2.2's number, by its definition.
func since(from, to int64) int {
	return delta(new(big.Int).Sub(big.NewInt(to), big.NewInt(from)))
}

func delta(n *big.Int) int {
	switch {
	case n.Sign() < 0:
		return 0
	case n.Cmp(big.NewInt(most)) > 0:
		return most
	}
	return int(n.Int64())
}

func sum(a, b int) int {
	return min(a+b, most)
}

func told(e api.Entry) string {
	return strconv.FormatInt(e.Asked, 10) + " " + strconv.FormatInt(e.Got, 10) + " " + samples.Told(e.Reply.Fields)
}

func wantLife(t *testing.T, e api.Entry, device string, want int) {
	t.Helper()
	if got := fresh.Life(e, device); got != want {
		t.Errorf("Life(%s, %q) = %d; want %d", told(e), device, got, want)
	}
}

func wantAge(t *testing.T, e api.Entry, now int64, want int) {
	t.Helper()
	if got := fresh.Age(e, now); got != want {
		t.Errorf("Age(%s, %d) = %d; want %d", told(e), now, got, want)
	}
}

func wantFresh(t *testing.T, e api.Entry, now int64, device string, want bool) {
	t.Helper()
	if got := fresh.Fresh(e, now, device); got != want {
		t.Errorf("Fresh(%s, %d, %q) = %t; want %t", told(e), now, device, got, want)
	}
}

func wantExtra(t *testing.T, e api.Entry, device string, want int) {
	t.Helper()
	if got := fresh.Extra(e, device); got != want {
		t.Errorf("Extra(%s, %q) = %d; want %d", told(e), device, got, want)
	}
}

// TestExamples: P13.1, P13.2, P13.3, the chapter's examples.
func TestExamples(t *testing.T) {
	for _, c := range []struct {
		pairs     []string
		life, age int
		fresh     bool
		extra     int
	}{
		{[]string{"cache-control", "max-age=30"}, 30, 30, false, 0},
		{[]string{"cache-control", "max-age=30, s-maxage=31"}, 31, 30, true, 0},
		{[]string{"cache-control", "max-age=30, no-cache"}, 0, 30, false, 0},
		{[]string{"cache-control", "no-cache", "surrogate-control", "max-age=40+9"}, 40, 30, true, 9},
		{[]string{"cache-control", "max-age=x"}, 0, 30, false, 0},
		{[]string{"age", "5", "expires", "Thu, 01 Jan 1970 00:02:00 GMT", "date", "Thu, 01 Jan 1970 00:01:00 GMT"}, 60, 70, false, 0},
		{[]string{"expires", "0"}, 0, 30, false, 0},
	} {
		e := entry(c.pairs...)
		wantLife(t, e, "d", c.life)
		wantAge(t, e, 130, c.age)
		wantFresh(t, e, 130, "d", c.fresh)
		wantExtra(t, e, "d", c.extra)
	}
}

// TestNothing: P13.1 to P13.3, an entry that says nothing.
func TestNothing(t *testing.T) {
	for _, e := range []api.Entry{{}, entryOf(0, 0, "", ""), entryOf(0, 0, "A", "b", "Last-Modified", written(0, fixdate))} {
		for _, device := range []string{"", "d"} {
			wantLife(t, e, device, 0)
			wantExtra(t, e, device, 0)
			wantFresh(t, e, 0, device, false)
			wantFresh(t, e, -1, device, false)
		}
		wantAge(t, e, 0, 0)
		wantAge(t, e, 7, 7)
	}
}

// TestDirectives: P13.1, what cache-control alone determines, where expires would say 1000.
func TestDirectives(t *testing.T) {
	for value, life := range map[string]int{
		"max-age=0": 0, "max-age=1": 1, "max-age=30": 30, "max-age=007": 7, "Max-AGE=5": 5, `max-age="5"`: 5, `max-age="\5"`: 5, "max-age=5 ": 5, "a, max-age=5,": 5,
		"max-age=2147483647": most - 1, "max-age=2147483648": most, "max-age=2147483649": most, "max-age=" + strings.Repeat("9", 99): most, "max-age=18446744073709551621": most, "s-maxage=4294967301": most, "max-age=" + strings.Repeat("0", 99) + "8": 8,
		// Directives without a number count as 0.
		"max-age": 0, "max-age=x": 0, `max-age=""`: 0, "max-age=-1": 0, "max-age=+5": 0, "max-age=5+6": 0, "max-age=1.5": 0, `max-age="5 "`: 0, `max-age=" 5"`: 0, "max-age=5x": 0, "max-age=0x5": 0, "max-age=\"\xd9\xa5\"": 0, "s-maxage": 0, "s-maxage=x": 0, `s-maxage=""`: 0,
		"s-maxage=0": 0, "s-maxage=31": 31, "S-MaxAge=31": 31, `s-maxage="31"`: 31,
		"no-cache": 0, "No-Cache": 0, "no-cache=x": 0, `no-cache="Set-Cookie"`: 0, `no-cache=""`: 0,
		// The first of a name counts, and s-maxage ahead of max-age, wherever they stand.
		"max-age=5, max-age=6": 5, "max-age=x, max-age=6": 0, "max-age, max-age=6": 0, "s-maxage=5, s-maxage=6": 5, "s-maxage, s-maxage=6": 0, "s-maxage=x, max-age=5": 0, "max-age=5, s-maxage": 0, "max-age=5, s-maxage=0": 0, "max-age=x, s-maxage=5": 5,
		"max-age=30, s-maxage=31": 31, "s-maxage=31, max-age=30": 31, "max-age=31, s-maxage=30": 30, "s-maxage=30, max-age=31, s-maxage=32": 30,
		"max-age=30, no-cache": 0, "no-cache, max-age=30": 0, "s-maxage=30, no-cache, max-age=30": 0, "no-cache, s-maxage=30": 0,
		// What is no directive of these names says nothing: expires is asked.
		"": 1000, "a": 1000, "no-store": 1000, "private, must-revalidate, public": 1000, "max-age=": 1000, "max-age =5": 1000, "max-age= 5": 1000, "max-age=(5)": 1000, "max-age=5;d": 1000, "max-age:5": 1000, "max age=5": 1000, "maxage=5": 1000, "max_age=5": 1000, "xmax-age=5": 1000, "max-agex=5": 1000, "s-max-age=5": 1000, "s_maxage=5": 1000, "no-cache=": 1000, "no cache": 1000, "no-caches": 1000, "nocache": 1000, `"no-cache"`: 1000, `a="no-cache, max-age=5"`: 1000, "age=5": 1000, "expires=5": 1000, "surrogate-control=5": 1000,
		"max-age=, max-age=5": 5, "no-cache=, max-age=5": 5, "no-store, max-age=5": 5, "a=b, private, max-age=5, must-revalidate": 5,
		// A value that cannot be read says no-store alone.
		`max-age=5, "`: 1000, `no-cache, a="`: 1000, strings.Repeat("a,", mostList-1) + "max-age=5": 5, strings.Repeat("a,", mostList) + "max-age=5": 1000, "max-age=5" + strings.Repeat(",a", mostList): 1000,
	} {
		wantLife(t, lasting("Cache-Control", value), "d", life)
		wantExtra(t, lasting("Cache-Control", value), "d", 0)
		if life == 1000 {
			life = 0
		}
		wantLife(t, entry("Cache-Control", value), "d", life)
	}
}

// TestFieldsOfDirectives: P13.1, cache-control in more fields than one, of any case.
func TestFieldsOfDirectives(t *testing.T) {
	for _, c := range []struct {
		pairs []string
		life  int
	}{
		{[]string{"cache-control", "max-age=5", "Cache-Control", "max-age=6"}, 5},
		{[]string{"CACHE-CONTROL", "max-age=5", "cAche-cOntrol", "s-maxage=6"}, 6},
		{[]string{"cache-control", "max-age=5, s-maxage=6", "x", "y", "cache-control", "no-cache"}, 0},
		{[]string{"cache-control", "no-cache", "cache-control", "max-age=5"}, 0},
		{[]string{"cache-control", `max-age=4, "`, "cache-control", "max-age=5"}, 5},
		{[]string{"cache-control", "max-age=5", "cache-control", `"`}, 5},
		{[]string{"cache-control", "", "cache-control", "max-age=5"}, 5},
		{[]string{"cache-control", strings.Repeat("a,", mostList), "cache-control", "max-age=5"}, 5},
		{[]string{"cachecontrol", "max-age=5", "cache_control", "max-age=5", "x-cache-control", "max-age=5", "pragma", "no-cache", "max-age", "5"}, 1000},
	} {
		wantLife(t, lasting(c.pairs...), "d", c.life)
		wantLife(t, lasting(c.pairs...), "", c.life)
	}
}

// TestControl: P13.1, P13.3, what surrogate-control determines, where cache-control would say 20, and expires 1000.
func TestControl(t *testing.T) {
	for value, want := range map[string][2]int{
		"max-age=40": {40, 0}, "max-age=40+9": {40, 9}, "max-age=0": {0, 0}, "max-age=0+9": {0, 9}, "MAX-AGE=7": {7, 0}, `max-age="7+8"`: {7, 8}, "a, max-age=7": {7, 0}, "max-age=7, max-age=8+9": {7, 0},
		"max-age=2147483648+2147483649": {most, most}, "max-age=2147483647+2147483647": {most - 1, most - 1}, "max-age=" + strings.Repeat("9", 99): {most, 0},
		"max-age": {0, 0}, "max-age=x": {0, 0}, "max-age=5+": {0, 0}, "max-age=+5": {0, 0}, "max-age=x+5": {0, 0}, "max-age=5+x": {0, 0}, "max-age=1+2+3": {0, 0}, "max-age, max-age=5": {0, 0},
		"max-age=5;d": {5, 0}, "max-age=60+1, max-age=5+2;d, no-store;e": {5, 2}, "max-age=60+1;e, max-age=5": {5, 0}, "max-age=5;d, max-age=6;e": {5, 0}, "no-store, max-age=5": {5, 0}, `max-age=5, a` + strings.Repeat(";b", mostList): {5, 0}, "max-age=60;d, max-age=5+5": {60, 0},
		"": {20, 0}, "a": {20, 0}, "no-store": {20, 0}, `content="ESI/1.0"`: {20, 0}, "max-age=5+5;e": {20, 0}, "max-age=5;D": {20, 0}, "max-age=": {20, 0}, "max-age=5;d;e": {20, 0}, "s-maxage=5": {20, 0}, "no-cache": {20, 0}, "no-store-remote": {20, 0}, `max-age=5+5, "`: {20, 0}, strings.Repeat("a,", mostList) + "max-age=5+5": {20, 0},
	} {
		for _, e := range []api.Entry{
			lasting("Surrogate-Control", value, "Cache-Control", "max-age=20"),
			lasting("Cache-Control", "max-age=30, s-maxage=20", "SURROGATE-control", value),
		} {
			wantLife(t, e, "d", want[0])
			wantExtra(t, e, "d", want[1])
		}
	}
	both := lasting("surrogate-control", "max-age=7;e, a", "x", "y", "Surrogate-Control", "max-age=8+9", "cache-control", "no-cache")
	wantLife(t, both, "d", 8)
	wantExtra(t, both, "d", 9)
	wantLife(t, both, "e", 7)
	wantExtra(t, both, "e", 0)
	for _, name := range []string{"surrogatecontrol", "surrogate_control", "x-surrogate-control", "surrogate-controls"} {
		wantLife(t, lasting(name, "max-age=7+8"), "d", 1000)
		wantExtra(t, lasting(name, "max-age=7+8"), "d", 0)
	}
}

// TestDevices: P13.1, P13.3, each device has a lifetime of its own.
func TestDevices(t *testing.T) {
	e := lasting("Cache-Control", "max-age=20", "Surrogate-Control", "max-age=5+6;d, max-age=7+8;E")
	for device, want := range map[string][2]int{"d": {5, 6}, "E": {7, 8}, "e": {20, 0}, "D": {20, 0}, "": {20, 0}, " d": {20, 0}, "d;e": {20, 0}, "\xff": {20, 0}} {
		wantLife(t, e, device, want[0])
		wantExtra(t, e, device, want[1])
		wantFresh(t, e, e.Got, device, want[0] > 10)
	}
	e = entry("Cache-Control", "max-age=20", "Surrogate-Control", "max-age=11+90;d, max-age=12;E")
	for device, life := range map[string]int{"d": 11, "E": 12, "": 20, "e": 20} {
		wantFresh(t, e, e.Got+int64(life)-11, device, true)
		wantFresh(t, e, e.Got+int64(life)-10, device, false)
	}
}

// TestExpires: P13.1, the lifetime by expires and date.
func TestExpires(t *testing.T) {
	early, late := written(60, fixdate), written(120, fixdate)
	for _, c := range []struct {
		pairs []string
		life  int
	}{
		{[]string{"expires", late, "date", early}, 60},
		{[]string{"DATE", early, "EXPIRES", late}, 60},
		{[]string{"expires", early, "date", late}, 0},
		{[]string{"expires", late, "date", late}, 0},
		{[]string{"expires", written(121, fixdate), "date", late}, 1},
		// Without a date, it is Got that counts: 110.
		{[]string{"expires", late}, 10},
		{[]string{"expires", written(111, fixdate)}, 1},
		{[]string{"expires", written(110, fixdate)}, 0},
		{[]string{"expires", written(109, fixdate)}, 0},
		{[]string{"expires", early}, 0},
		{[]string{"expires", late, "date", ""}, 10},
		{[]string{"expires", late, "date", "0"}, 10},
		{[]string{"expires", late, "date", "60"}, 10},
		{[]string{"expires", late, "date", early + " "}, 10},
		{[]string{"expires", late, "date", "Fri" + early[3:]}, 10},
		{[]string{"expires", late, "date", early, "date", early}, 10},
		{[]string{"expires", late, "dates", early, "x-date", early, "last-modified", early}, 10},
		// An expires that is no date is past.
		{[]string{"expires", "", "date", early}, 0},
		{[]string{"expires", "0", "date", early}, 0},
		{[]string{"expires", "-1", "date", early}, 0},
		{[]string{"expires", "2000000000", "date", early}, 0},
		{[]string{"expires", strings.ToLower(late), "date", early}, 0},
		{[]string{"expires", late + "x", "date", early}, 0},
		{[]string{"expires", "Thu, 01 Jan 1970 00:02:60 GMT", "date", early}, 0},
		{[]string{"expires", "Thu, 01 Jan 1970 00:02:00 +0000", "date", early}, 0},
		{[]string{"expires", late, "expires", late, "date", early}, 0},
		{[]string{"expires", late, "expires", "", "date", early}, 0},
		{[]string{"date", early, "expire", late, "x-expires", late}, 0},
		// Dates of all forms, and what is beyond 2^31.
		{[]string{"expires", written(120, asctime), "date", written(60, rfc850)}, 60},
		{[]string{"expires", written(120, rfc850), "date", written(60, asctime)}, 60},
		{[]string{"expires", written(most-1, fixdate), "date", written(0, fixdate)}, most - 1},
		{[]string{"expires", written(most, fixdate), "date", written(0, fixdate)}, most},
		{[]string{"expires", written(most+1, fixdate), "date", written(0, fixdate)}, most},
		{[]string{"expires", written(api.LastTick, fixdate), "date", written(0, fixdate)}, most},
		{[]string{"expires", written(api.LastTick, fixdate), "date", written(api.LastTick-1, fixdate)}, 1},
		{[]string{"expires", written(most+111, fixdate)}, most},
		{[]string{"expires", written(most+109, fixdate)}, most - 1},
	} {
		wantLife(t, entry(c.pairs...), "d", c.life)
		wantLife(t, entryOf(0, 110, append(c.pairs, "Age", "5", "Cache-Control", "public", "Surrogate-Control", "no-store")...), "d", c.life)
		wantLife(t, entry(append([]string{"Cache-Control", "max-age=3"}, c.pairs...)...), "d", 3)
	}
}

// TestAnyGot: P13.1, P13.2, ticks of any size, where there is no date.
func TestAnyGot(t *testing.T) {
	expires := []string{"expires", written(1000, fixdate)}
	for _, got := range []int64{math.MinInt64, math.MinInt64 + 1, -most, 1000 - most - 1, 1000 - most, 1000 - most + 1, -1, 0, 999, 1000, 1001, most, math.MaxInt64} {
		wantLife(t, entryOf(0, got, expires...), "d", since(got, 1000))
		wantLife(t, entryOf(got, 1000, expires...), "d", 0)
		for _, now := range []int64{math.MinInt64, -most, -1, 0, 1, most, math.MaxInt64} {
			wantAge(t, entryOf(got, now), now, since(got, now))
			wantAge(t, entryOf(now, got), got, since(now, got))
			wantAge(t, entryOf(now, now), got, since(now, got))
			wantAge(t, entryOf(0, now, "date", written(0, fixdate)), got, sum(since(0, now), since(now, got)))
		}
	}
}

// TestYears: P13.1, P13.2, a year of two digits is told by Got, not by Asked, and not by now.
func TestYears(t *testing.T) {
	asked, got := at(2043, 12, 31), at(2044, 1, 1)
	end := at(2094, 11, 6)
	e := entryOf(asked, got, "expires", written(end, rfc850))
	wantLife(t, e, "d", since(got, end))
	wantLife(t, entryOf(got, asked, "expires", written(end, rfc850)), "d", 0)
	sent := entryOf(asked, got, "expires", written(end, rfc850), "date", written(end-9, rfc850))
	wantLife(t, sent, "d", 9)
	wantLife(t, entryOf(got, asked, "expires", written(end, fixdate), "date", written(end-9, rfc850)), "d", since(asked, end))

	old := at(1994, 11, 6)
	e = entryOf(old+100, old+100, "date", written(old, rfc850))
	for _, now := range []int64{at(1970, 1, 1), old, at(2043, 12, 31), at(2044, 1, 1), at(2094, 1, 1)} {
		wantAge(t, e, now, sum(100, since(old+100, now)))
	}
	e.Got = got
	wantAge(t, e, got+1, since(old+100, got)+1)
}

// TestAge: P13.2.
func TestAge(t *testing.T) {
	date := func(tick int64) string { return written(tick, fixdate) }
	for _, c := range []struct {
		asked, got int64
		pairs      []string
		now        int64
		age        int
	}{
		// Nothing but the ticks: now ahead of Got counts as Got, and Asked behind it, too.
		{100, 110, nil, 130, 30}, {100, 110, nil, 111, 11}, {100, 110, nil, 110, 10}, {100, 110, nil, 109, 10}, {100, 110, nil, 0, 10}, {100, 110, nil, -1000, 10},
		{110, 110, nil, 130, 20}, {111, 110, nil, 130, 20}, {1000, 110, nil, 130, 20}, {-5, 110, nil, 130, 135}, {-10, -5, nil, -1, 9},
		// The age field, and the time that the request took.
		{100, 110, []string{"Age", "0"}, 130, 30}, {100, 110, []string{"AGE", "5"}, 130, 35}, {100, 110, []string{"age", "007"}, 130, 37}, {110, 110, []string{"age", "5"}, 130, 25}, {120, 110, []string{"age", "5"}, 100, 5},
		{100, 110, []string{"age", ""}, 130, 30}, {100, 110, []string{"age", "x"}, 130, 30}, {100, 110, []string{"age", "-5"}, 130, 30}, {100, 110, []string{"age", "+5"}, 130, 30}, {100, 110, []string{"age", "5 "}, 130, 30}, {100, 110, []string{"age", "1.5"}, 130, 30}, {100, 110, []string{"age", `"5"`}, 130, 30}, {100, 110, []string{"age", "5, 5"}, 130, 30},
		{100, 110, []string{"age", "5", "Age", "5"}, 130, 30}, {100, 110, []string{"age", "5", "Age", ""}, 130, 30}, {100, 110, []string{"ages", "5", "x-age", "5"}, 130, 30},
		// The date field.
		{100, 110, []string{"Date", date(60)}, 130, 70}, {100, 110, []string{"DATE", date(60)}, 110, 50}, {100, 110, []string{"date", date(60)}, 0, 50}, {100, 110, []string{"date", date(0)}, 130, 130},
		{100, 110, []string{"date", date(101)}, 130, 30}, {100, 110, []string{"date", date(100)}, 130, 30}, {100, 110, []string{"date", date(99)}, 130, 31}, {100, 110, []string{"date", date(110)}, 130, 30}, {100, 110, []string{"date", date(120)}, 130, 30}, {100, 110, []string{"date", date(api.LastTick)}, 130, 30}, {110, 110, []string{"date", date(120)}, 130, 20},
		{100, 110, []string{"date", ""}, 130, 30}, {100, 110, []string{"date", "0"}, 130, 30}, {100, 110, []string{"date", "60"}, 130, 30}, {100, 110, []string{"date", strings.ToLower(date(60))}, 130, 30}, {100, 110, []string{"date", date(60), "date", date(60)}, 130, 30}, {100, 110, []string{"x-date", date(60), "last-modified", date(60)}, 130, 30},
		{100, 110, []string{"date", written(60, rfc850)}, 130, 70}, {100, 110, []string{"date", written(60, asctime)}, 130, 70},
		// Both: the greater of the two, not their sum.
		{100, 110, []string{"age", "5", "date", date(60)}, 130, 70}, {100, 110, []string{"age", "39", "date", date(60)}, 130, 70}, {100, 110, []string{"age", "40", "date", date(60)}, 130, 70}, {100, 110, []string{"age", "41", "date", date(60)}, 130, 71}, {100, 110, []string{"date", date(60), "age", "500"}, 130, 530},
		// The limits.
		{100, 110, []string{"age", "2147483617"}, 130, most - 1}, {100, 110, []string{"age", "2147483618"}, 130, most}, {100, 110, []string{"age", "2147483619"}, 130, most}, {110, 110, []string{"age", "2147483647"}, 110, most - 1}, {110, 110, []string{"age", "2147483648"}, 110, most}, {110, 110, []string{"age", "2147483649"}, 111, most}, {100, 110, []string{"age", strings.Repeat("9", 99)}, 130, most},
		{110, 110, []string{"age", "4294967301"}, 110, most}, {110, 110, nil, most + 109, most - 1}, {110, 110, nil, most + 110, most}, {110, 110, nil, most + 111, most},
		{110, api.LastTick, []string{"date", date(0)}, api.LastTick, most}, {most + 9, most + 9, []string{"date", date(10)}, most + 9, most - 1}, {most + 9, most + 9, []string{"date", date(9)}, most + 9, most}, {most + 9, most + 9, []string{"date", date(10)}, most + 10, most},
		{math.MinInt64, math.MaxInt64, []string{"age", "5"}, math.MinInt64, most}, {math.MaxInt64, math.MinInt64, []string{"age", "5", "date", date(0)}, math.MinInt64, 5}, {math.MaxInt64, math.MinInt64, []string{"age", "5"}, math.MaxInt64, most}, {0, math.MaxInt64, []string{"date", date(api.LastTick)}, 0, most},
	} {
		wantAge(t, entryOf(c.asked, c.got, c.pairs...), c.now, c.age)
		// P13.5: the lifetime's fields make no difference.
		wantAge(t, entryOf(c.asked, c.got, append(c.pairs, "Surrogate-Control", "max-age=5+5", "Cache-Control", "no-cache, max-age=5", "Expires", date(0))...), c.now, c.age)
	}
}

// TestFresh: P13.3, the age has to be less than the lifetime; the extra time does not count.
func TestFresh(t *testing.T) {
	for _, pairs := range [][]string{{"cache-control", "max-age=30"}, {"cache-control", "no-cache", "surrogate-control", "max-age=30+50"}, {"expires", written(140, fixdate)}} {
		e := entry(pairs...)
		for now, want := range map[int64]bool{math.MinInt64: true, 0: true, 100: true, 110: true, 129: true, 130: false, 131: false, 160: false, math.MaxInt64: false} {
			wantFresh(t, e, now, "d", want)
		}
	}
	for _, c := range []struct {
		pairs []string
		want  bool
	}{
		{[]string{"cache-control", "max-age=0"}, false}, {[]string{"cache-control", "max-age=10"}, false}, {[]string{"cache-control", "max-age=11"}, true},
		{[]string{"cache-control", "max-age=11", "age", "1"}, false}, {[]string{"cache-control", "max-age=51", "date", written(60, fixdate)}, true}, {[]string{"cache-control", "max-age=50", "date", written(60, fixdate)}, false},
		{[]string{"surrogate-control", "max-age=0+99"}, false}, {[]string{"surrogate-control", "max-age=10+99"}, false}, {[]string{"cache-control", "max-age=99", "surrogate-control", "max-age=10"}, false}, {[]string{"surrogate-control", "no-store, max-age=11"}, true}, {[]string{"cache-control", "no-store, max-age=11"}, true},
		{[]string{"cache-control", "max-age=2147483648"}, true}, {[]string{"cache-control", "max-age=2147483648", "age", "2147483637"}, true}, {[]string{"cache-control", "max-age=2147483648", "age", "2147483638"}, false}, {[]string{"cache-control", "max-age=9999999999", "age", "9999999999"}, false},
	} {
		wantFresh(t, entry(c.pairs...), 110, "d", c.want)
	}
}

// A said is a text, and what it says by the definitions: a number, or none.
type said struct {
	text string
	n    int64
	ok   bool
}

func one(random *rand.Rand, l []said) said {
	return l[random.Intn(len(l))]
}

func someDates() []said {
	var out []said
	for _, tick := range []int64{0, 1, 60, 99, 110, 120, 1000, 784111777, most, most + 120, api.LastTick} {
		out = append(out, said{written(tick, fixdate), tick, true}, said{written(tick, asctime), tick, true})
	}
	return append(out, said{}, said{text: "0"}, said{text: "Thu, 01 Jan 1970"}, said{text: written(60, fixdate) + ", " + written(60, fixdate)})
}

func someNumbers() []said {
	return []said{{"", 0, false}, {"0", 0, true}, {"5", 5, true}, {"40", 40, true}, {"007", 7, true}, {"2147483647", most - 1, true}, {"2147483648", most, true}, {"99999999999999999999", most, true}, {"x", 0, false}, {"-1", 0, false}, {"5+5", 0, false}}
}

func someTicks() []int64 {
	return []int64{math.MinInt64, -most, -1, 0, 1, 60, 100, 110, 120, 1000, 784111777, most - 1, most, most + 1, api.LastTick, math.MaxInt64}
}

// A sample is an entry, and what is to come of it for the device d.
type sample struct {
	api.Entry
	life, extra int
	// The first number of P13.2.
	atGot int
}

// someSample answers an entry that was made of its meanings: nothing is read to say what is to come of it.
func someSample(random *rand.Rand) sample {
	ticks := someTicks()
	asked, got := ticks[random.Intn(len(ticks))], ticks[random.Intn(len(ticks))]
	var pairs []string
	add := func(name, value string) {
		pairs = slices.Insert(pairs, random.Intn(len(pairs)/2+1)*2, samples.Mixed(name, random.Intn), value)
	}
	some := func(name string, l []said) (s said, there bool) {
		if random.Intn(2) == 0 {
			return said{}, false
		}
		s = one(random, l)
		add(name, s.text)
		return s, true
	}
	date, _ := some("date", someDates())
	age, _ := some("age", someNumbers())
	expires, hasExpires := some("expires", someDates())
	sent := got
	if date.ok {
		sent = date.n
	}
	life := 0
	if hasExpires && expires.ok {
		life = since(sent, expires.n)
	}
	if words, byWords, there := someDirectives(random); len(words) > 0 {
		add("cache-control", strings.Join(words, ", "))
		if there {
			life = byWords
		}
	}
	extra := 0
	if random.Intn(3) == 0 {
		first, second, end := one(random, someNumbers()[1:4]), one(random, someNumbers()[1:4]), []string{"", ";d", ";e"}[random.Intn(3)]
		add("surrogate-control", "max-age="+first.text+"+"+second.text+end)
		if end != ";e" {
			life, extra = int(first.n), int(second.n)
		}
	}
	return sample{entryOf(asked, got, pairs...), life, extra, max(since(sent, got), sum(int(age.n), since(asked, got)))}
}

// someDirectives answers a few, the lifetime that they determine, and whether they do.
func someDirectives(random *rand.Rand) (words []string, life int, there bool) {
	first := map[string]int{}
	for range random.Intn(5) {
		name := []string{"no-cache", "s-maxage", "max-age", "max-age", "no-store"}[random.Intn(5)]
		n := one(random, someNumbers())
		word := samples.Mixed(name, random.Intn) + `="` + n.text + `"`
		if n.text == "" {
			word = name
		}
		words = append(words, word)
		if _, known := first[name]; !known {
			first[name] = int(n.n)
		}
	}
	for _, name := range []string{"max-age", "s-maxage"} {
		if n, known := first[name]; known {
			life, there = n, true
		}
	}
	if _, known := first["no-cache"]; known {
		life, there = 0, true
	}
	return words, life, there
}

// TestSamples: P13.1 to P13.3, entries of everything at a time.
func TestSamples(t *testing.T) {
	random := rand.New(rand.NewSource(13))
	for range 20000 {
		s := someSample(random)
		wantLife(t, s.Entry, "d", s.life)
		wantExtra(t, s.Entry, "d", s.extra)
		for _, now := range someTicks() {
			age := sum(s.atGot, since(s.Got, now))
			wantAge(t, s.Entry, now, age)
			wantFresh(t, s.Entry, now, "d", age < s.life)
		}
		if t.Failed() {
			return
		}
	}
}

// TestGrows: P13.4, the age grows with time, and what is no longer fresh stays so.
func TestGrows(t *testing.T) {
	random := rand.New(rand.NewSource(134))
	for range 5000 {
		s := someSample(random)
		s.Got, s.Asked = min(s.Got, 1<<61), min(s.Asked, 1<<61)
		first := fresh.Age(s.Entry, s.Got)
		was := fresh.Fresh(s.Entry, s.Got, "d")
		now := s.Got
		for range 20 {
			step := []int64{0, 1, 5, 40, random.Int63n(100), random.Int63n(most), most - 1, most, most + 1, 1 << 33}[random.Intn(10)]
			age := fresh.Age(s.Entry, now)
			now += step
			wantAge(t, s.Entry, now, sum(age, int(min(step, most))))
			wantAge(t, s.Entry, now, sum(first, since(s.Got, now)))
			is := fresh.Fresh(s.Entry, now, "d")
			if is && !was {
				t.Errorf("%s is fresh again at %d", told(s.Entry), now)
			}
			was = is
		}
		if t.Failed() {
			return
		}
	}
}

// TestControlAlone: P13.5, where the control has an age, no other field counts for the lifetime, and it counts for no age.
func TestControlAlone(t *testing.T) {
	random := rand.New(rand.NewSource(135))
	for range 10000 {
		s := someSample(random)
		bare := s.Entry
		bare.Reply.Fields = slices.DeleteFunc(slices.Clone(s.Reply.Fields), func(f api.Field) bool {
			return strings.EqualFold(f.Name, "surrogate-control")
		})
		with := bare
		with.Reply.Fields = append(slices.Clone(bare.Reply.Fields), samples.Fields("Surrogate-Control", "max-age=9+3")...)
		wantLife(t, with, "d", 9)
		wantExtra(t, with, "d", 3)
		wantExtra(t, bare, "d", 0)
		now := someTicks()[random.Intn(len(someTicks()))]
		wantAge(t, with, now, fresh.Age(bare, now))
		if fresh.Life(bare, "d") == 0 {
			wantFresh(t, bare, now, "d", false)
		}
		if t.Failed() {
			return
		}
	}
}

// TestArgumentsStay: nothing that comes in is changed, or kept from call to call.
func TestArgumentsStay(t *testing.T) {
	pairs := []string{"Cache-Control", "Max-Age=20, no-cache", "Surrogate-Control", "max-age=5+6;d", "Date", written(60, fixdate), "Expires", written(120, fixdate), "Age", "5"}
	e, same := entry(pairs...), entry(pairs...)
	e.Vary, same.Vary = samples.Fields("A", "b"), samples.Fields("A", "b")
	e.Reply.Body, same.Reply.Body = "body", "body"
	for range 2 {
		wantLife(t, e, "d", 5)
		wantLife(t, e, "e", 0)
		wantExtra(t, e, "d", 6)
		wantExtra(t, e, "e", 0)
		wantAge(t, e, 130, 70)
		wantFresh(t, e, 130, "d", false)
	}
	if !reflect.DeepEqual(e, same) {
		t.Errorf("changed: %s", told(e))
	}
	e.Reply.Fields[0].Value, e.Reply.Fields[1].Value = "max-age=20", "max-age=99;e"
	wantLife(t, e, "d", 20)
	wantLife(t, e, "e", 99)
}

// TestAnyBytes: no call panics, whatever it is given; what it answers is a delta.
func TestAnyBytes(t *testing.T) {
	random := rand.New(rand.NewSource(1313))
	names := []string{"cache-control", "surrogate-control", "date", "expires", "age", "", "\xff", "vary"}
	pieces := []string{"max-age", "s-maxage", "no-cache", "=", ",", ";", `"`, `\`, "+", "5", " ", "d", "\xff", "\x00", "\r\n", written(60, fixdate), written(60, asctime), "99999999999"}
	ticks := someTicks()
	for range 50000 {
		var pairs []string
		for range random.Intn(6) {
			value := ""
			for range random.Intn(7) {
				value += pieces[random.Intn(len(pieces))]
			}
			pairs = append(pairs, names[random.Intn(len(names))], value)
		}
		e := entryOf(ticks[random.Intn(len(ticks))], random.Int63()-random.Int63(), pairs...)
		now, device := ticks[random.Intn(len(ticks))], pieces[random.Intn(len(pieces))]
		life, age, extra := fresh.Life(e, device), fresh.Age(e, now), fresh.Extra(e, device)
		for _, n := range []int{life, age, extra} {
			if n < 0 || n > most {
				t.Fatalf("%s: %d, %d, %d", told(e), life, age, extra)
			}
		}
		wantFresh(t, e, now, device, age < life)
	}
	many := entry(slices.Repeat([]string{"cache-control", "max-age=5", "surrogate-control", "a;d", "date", "x", "age", "5"}, 1<<12)...)
	wantLife(t, many, "d", 5)
	wantAge(t, many, 110, 10)
}
