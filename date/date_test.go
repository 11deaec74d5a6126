package date_test

import (
	"math"
	"math/rand"
	"regexp"
	"strconv"
	"strings"
	"testing"
	"time"

	"inlay/api"
	"inlay/date"
)

const (
	then = 784111777
	last = 253402300799
)

// The forms, as the library of tests writes them.
const (
	fixdate = "Mon, 02 Jan 2006 15:04:05 GMT"
	rfc850  = "Monday, 02-Jan-06 15:04:05 GMT"
	asctime = "Mon Jan _2 15:04:05 2006"
)

var grammars = []*regexp.Regexp{
	regexp.MustCompile(`\A(?P<w>Mon|Tue|Wed|Thu|Fri|Sat|Sun), (?P<d>[0-9]{2}) ` + month + ` (?P<y>[0-9]{4}) ` + clock + ` GMT\z`),
	regexp.MustCompile(`\A(?P<w>(?:Mon|Tues|Wednes|Thurs|Fri|Satur|Sun)day), (?P<d>[0-9]{2})-` + month + `-(?P<y>[0-9]{2}) ` + clock + ` GMT\z`),
	regexp.MustCompile(`\A(?P<w>Mon|Tue|Wed|Thu|Fri|Sat|Sun) ` + month + ` (?P<d>[0-9]{2}| [0-9]) ` + clock + ` (?P<y>[0-9]{4})\z`),
}

const (
	month = `(?P<m>Jan|Feb|Mar|Apr|May|Jun|Jul|Aug|Sep|Oct|Nov|Dec)`
	clock = `(?P<h>[0-9]{2}):(?P<i>[0-9]{2}):(?P<s>[0-9]{2})`
)

func yearOf(now int64) int {
	return time.Unix(min(max(now, 0), last), 0).UTC().Year()
}

// fullYear answers the year of two digits, searched for from its definition.
func fullYear(digits int, now int64) int {
	year := yearOf(now) + 50
	for year%100 != digits {
		year--
	}
	return year
}

// defined answers what the definitions make of s: by expressions, and by the library's calendar.
func defined(s string, now int64) (int64, api.Errno) {
	for _, g := range grammars {
		found := g.FindStringSubmatch(s)
		if found == nil {
			continue
		}
		part := func(name string) string { return strings.TrimSpace(found[g.SubexpIndex(name)]) }
		num := func(name string) int { n, _ := strconv.Atoi(part(name)); return n }
		year := num("y")
		if len(part("y")) == 2 {
			year = fullYear(year, now)
		}
		m := 1 + strings.Index("JanFebMarAprMayJunJulAugSepOctNovDec", part("m"))/3
		d := time.Date(year, time.Month(m), num("d"), num("h"), num("i"), num("s"), 0, time.UTC)
		if year < 1970 || year > 9999 || d.Day() != num("d") || int(d.Month()) != m ||
			num("h") > 23 || num("i") > 59 || num("s") > 59 || !strings.HasPrefix(d.Weekday().String(), part("w")) {
			return 0, api.ErrForm
		}
		return d.Unix(), api.OK
	}
	return 0, api.ErrForm
}

func check(t *testing.T, s string, now, want int64, wantE api.Errno) {
	t.Helper()
	if got, e := date.Parse(s, now); got != want || e != wantE {
		t.Errorf("Parse(%q, %d) = %d, %d; want %d, %d", s, now, got, e, want, wantE)
	}
}

func checkDefined(t *testing.T, s string, now int64) {
	t.Helper()
	want, e := defined(s, now)
	check(t, s, now, want, e)
}

// written answers a tick by a form of the library of tests.
func written(tick int64, form string) string {
	return time.Unix(tick, 0).UTC().Format(form)
}

// ticks are the edges of days, months, years and of the calendar's rules.
func ticks() []int64 {
	out := []int64{0, 1, 59, 60, 3599, 3600, 86399, 86400, then, 1<<31 - 1, 1 << 31, 1 << 32, last - 86400, last}
	for _, year := range []int{1970, 1972, 1999, 2000, 2001, 2023, 2024, 2099, 2100, 2101, 2400, 2800, 5000, 9996, 9999} {
		for m := range 12 {
			begin := time.Date(year, time.Month(m+1), 1, 0, 0, 0, 0, time.UTC).Unix()
			for _, t := range []int64{begin - 1, begin, begin + 9*86400 - 1, begin + 9*86400 + 45296, begin + 28*86400} {
				if 0 <= t && t <= last {
					out = append(out, t)
				}
			}
		}
	}
	return out
}

func nows() []int64 {
	return []int64{0, 1, then, last, last + 1, -1, -then, math.MinInt64, math.MaxInt64, 1 << 31, 1 << 62}
}

func TestTheLimit(t *testing.T) {
	if api.LastTick != last {
		t.Errorf("LastTick = %d", int64(api.LastTick))
	}
}

// TestExamples: P3.1, P3.2, the chapter's examples.
func TestExamples(t *testing.T) {
	for _, s := range []string{
		"Sun, 06 Nov 1994 08:49:37 GMT", "Sunday, 06-Nov-94 08:49:37 GMT", "Sun Nov  6 08:49:37 1994",
	} {
		check(t, s, then, then, api.OK)
	}
	for _, s := range []string{
		"Mon, 06 Nov 1994 08:49:37 GMT", "Sun, 06 Nov 1994 08:49:60 GMT", "Sun, 6 Nov 1994 08:49:37 GMT",
		"sun, 06 Nov 1994 08:49:37 GMT", "Sun, 06 Nov 1994 08:49:37 UTC", "Thu, 29 Feb 2023 00:00:00 GMT",
	} {
		check(t, s, then, 0, api.ErrForm)
	}
	check(t, "Thu, 29 Feb 2024 00:00:00 GMT", then, 1709164800, api.OK)
	check(t, "Saturday, 06-Nov-44 00:00:00 GMT", then, 0, api.ErrForm)
	check(t, "Saturday, 06-Nov-44 00:00:00 GMT", 0, 0, api.ErrForm)
	for n, want := range map[int64]string{
		0: "Thu, 01 Jan 1970 00:00:00 GMT", then: "Sun, 06 Nov 1994 08:49:37 GMT",
		last: "Fri, 31 Dec 9999 23:59:59 GMT", -1: "",
	} {
		if got := date.Put(n); got != want {
			t.Errorf("Put(%d) = %q; want %q", n, got, want)
		}
	}
}

// TestParse: P3.1, dates of the three forms.
func TestParse(t *testing.T) {
	cases := map[string]int64{
		"Thu, 01 Jan 1970 00:00:00 GMT": 0, "Thursday, 01-Jan-70 00:00:00 GMT": 0,
		"Thu Jan  1 00:00:00 1970": 0, "Thu Jan 01 00:00:00 1970": 0,
		"Thu, 01 Jan 1970 00:00:01 GMT": 1, "Thu, 01 Jan 1970 23:59:59 GMT": 86399,
		"Fri, 31 Dec 9999 23:59:59 GMT": last, "Fri Dec 31 23:59:59 9999": last,
		"Sun Nov 06 08:49:37 1994":      then,
		"Tue, 29 Feb 2000 12:00:00 GMT": 951825600, "Tuesday, 29-Feb-00 12:00:00 GMT": 951825600,
		"Tue Feb 29 12:00:00 2000":      951825600,
		"Mon, 01 Mar 2100 00:00:00 GMT": 4107542400, "Sun, 28 Feb 2100 23:59:59 GMT": 4107542399,
		"Saturday, 31-Dec-94 23:59:59 GMT": 788918399, "Monday, 29-Feb-44 00:00:00 GMT": 2340316800,
	}
	for s, want := range cases {
		check(t, s, then, want, api.OK)
	}
	for _, n := range ticks() {
		for _, form := range []string{fixdate, asctime, strings.Replace(asctime, "_2", "02", 1)} {
			check(t, written(n, form), then, n, api.OK)
		}
		check(t, written(n, rfc850), n, n, api.OK)
	}
}

// TestParseRefuses: P3.1, what has no form, and dates that are not valid.
func TestParseRefuses(t *testing.T) {
	for _, s := range []string{
		"", " ", "0", "784111777", "GMT", "Sun", "Sun,", "Sunday", "Sunday,", "\x00", "\xff", strings.Repeat("Sun, ", 9999),
		// Years ahead of 1970, and of other lengths.
		"Wed, 31 Dec 1969 23:59:59 GMT", "Wed Dec 31 23:59:59 1969", "Sat, 01 Jan 0000 00:00:00 GMT", "Mon, 01 Jan 1900 00:00:00 GMT",
		"Sat, 01 Jan 10000 00:00:00 GMT", "Sat Jan  1 00:00:00 10000", "Sun, 06 Nov 94 08:49:37 GMT", "Sunday, 06-Nov-1994 08:49:37 GMT",
		"Sun Nov  6 08:49:37 94", "Sun, 06 Nov 01994 08:49:37 GMT",
		// Days that are not in their month, by the name of the day before or after.
		"Sun, 00 Nov 1994 00:00:00 GMT", "Mon, 00 Nov 1994 00:00:00 GMT", "Mon Oct  0 00:00:00 1994", "Sun Nov 00 00:00:00 1994",
		"Thu, 31 Nov 1994 00:00:00 GMT", "Wed, 31 Nov 1994 00:00:00 GMT", "Sun, 32 Jan 1995 00:00:00 GMT", "Wed, 32 Jan 1995 00:00:00 GMT",
		"Mon, 29 Feb 2100 00:00:00 GMT", "Sun, 29 Feb 2100 00:00:00 GMT", "Wed, 30 Feb 2000 00:00:00 GMT", "Wed, 29 Feb 2023 00:00:00 GMT",
		"Sun, 99 Nov 1994 00:00:00 GMT",
		// Times.
		"Sun, 06 Nov 1994 24:00:00 GMT", "Mon, 06 Nov 1994 24:00:00 GMT", "Sun, 06 Nov 1994 08:60:00 GMT", "Sun, 06 Nov 1994 08:00:60 GMT",
		"Sun, 06 Nov 1994 23:59:60 GMT", "Sun, 06 Nov 1994 99:99:99 GMT", "Sun Nov  6 24:00:00 1994", "Sunday, 06-Nov-94 24:00:00 GMT",
		"Sun, 06 Nov 1994 8:49:37 GMT", "Sun, 06 Nov 1994 08:49 GMT", "Sun, 06 Nov 1994  8:49:37 GMT", "Sun, 06 Nov 1994 08.49.37 GMT",
		"Sun, 06 Nov 1994 -8:49:37 GMT", "Sun, 06 Nov 1994 +8:49:37 GMT", "Sun, 06 Nov 1994 08:49:37.0 GMT",
		// Blanks, and what stands ahead or behind.
		" Sun, 06 Nov 1994 08:49:37 GMT", "Sun, 06 Nov 1994 08:49:37 GMT ", "Sun,06 Nov 1994 08:49:37 GMT", "Sun,  06 Nov 1994 08:49:37 GMT",
		"Sun,\t06 Nov 1994 08:49:37 GMT", "Sun, 06 Nov 1994 08:49:37GMT", "Sun, 06 Nov 1994 08:49:37  GMT", "Sun, 06 Nov 1994 08:49:37 GMT\n",
		"Sun,  6 Nov 1994 08:49:37 GMT", "Sunday,  6-Nov-94 08:49:37 GMT", "Sun Nov 6 08:49:37 1994", "Sun Nov   6 08:49:37 1994",
		"Sun Nov 6  08:49:37 1994", "Sun Nov    08:49:37 1994", "Sun Nov  6 08:49:37 1994 GMT", "Sun, 06 Nov 1994 08:49:37", "Sun, 06 Nov 1994 08:49:37 GMT GMT",
		// Names.
		"SUN, 06 Nov 1994 08:49:37 GMT", "Sun, 06 nov 1994 08:49:37 GMT", "Sun, 06 NOV 1994 08:49:37 GMT", "Sun, 06 Nov 1994 08:49:37 gmt",
		"Sunday, 06 Nov 1994 08:49:37 GMT", "Sun, 06-Nov-94 08:49:37 GMT", "Sunday Nov  6 08:49:37 1994", "Sun, 06 November 1994 08:49:37 GMT",
		"sunday, 06-Nov-94 08:49:37 GMT", "SUNDAY, 06-Nov-94 08:49:37 GMT", "Tues, 08 Nov 1994 00:00:00 GMT", "Tueday, 08-Nov-94 00:00:00 GMT",
		"Sun, 06 No 1994 08:49:37 GMT", "Sun, 06 11 1994 08:49:37 GMT", ", 06 Nov 1994 08:49:37 GMT", "Sun, 06  1994 08:49:37 GMT",
		"Sun, 06 Nov 1994 08:49:37 Z", "Sun, 06 Nov 1994 08:49:37 +0000", "Sun, 06 Nov 1994 08:49:37 ", "1994-11-06T08:49:37Z",
		// Mixtures of forms.
		"Sun, 06-Nov-1994 08:49:37 GMT", "Sunday, 06 Nov 94 08:49:37 GMT", "Sun Nov  6 1994 08:49:37", "Sun, Nov  6 08:49:37 1994", "Sunday, 06-Nov 94 08:49:37 GMT",
		// Digits of other alphabets are none.
		"Sun, \xd9\xa0\xd9\xa6 Nov 1994 08:49:37 GMT", "Sun, \xef\xbc\x906 Nov 1994 08:49:37 GMT",
		// The letters by which a form may be written within.
		"w, d m Y h:i:s GMT", "Mon, 02 Jan 2006 15:04:05 MST", "Www, DD Mmm YYYY hh:mm:ss GMT",
	} {
		for _, now := range nows() {
			check(t, s, now, 0, api.ErrForm)
		}
	}
}

// TestParseNames: P3.1, each name, and that a day has its own alone.
func TestParseNames(t *testing.T) {
	long := []string{"Monday", "Tuesday", "Wednesday", "Thursday", "Friday", "Saturday", "Sunday"}
	months := []string{"Jan", "Feb", "Mar", "Apr", "May", "Jun", "Jul", "Aug", "Sep", "Oct", "Nov", "Dec"}
	for day := 1; day <= 31; day++ {
		for i, m := range months {
			two := strconv.Itoa(100 + day)[1:]
			valid := 0
			for _, name := range long {
				forms := []string{
					name[:3] + ", " + two + " " + m + " 1994 08:49:37 GMT",
					name + ", " + two + "-" + m + "-94 08:49:37 GMT",
					name[:3] + " " + m + " " + two + " 08:49:37 1994",
				}
				for _, s := range forms {
					checkDefined(t, s, then)
					if _, e := date.Parse(s, then); e == api.OK {
						valid++
					}
				}
			}
			want := 0
			if time.Date(1994, time.Month(1+i), day, 0, 0, 0, 0, time.UTC).Day() == day {
				want = 3
			}
			if valid != want {
				t.Errorf("%d %s: %d valid", day, m, valid)
			}
		}
	}
}

// TestParseTwoDigits: P3.1, the year of two digits: the last one at most 50 above that of now.
func TestParseTwoDigits(t *testing.T) {
	at := func(year int) int64 { return time.Date(year, 7, 1, 0, 0, 0, 0, time.UTC).Unix() }
	cases := []struct {
		digits    string
		now, year int
	}{
		{"44", 1994, 2044}, {"45", 1994, 0}, {"45", 1995, 2045}, {"94", 1994, 1994}, {"00", 1994, 2000},
		{"70", 1994, 1970}, {"69", 1994, 0}, {"20", 1970, 2020}, {"21", 1970, 0}, {"70", 1970, 1970}, {"99", 1970, 1999},
		{"70", 2019, 1970}, {"70", 2020, 2070}, {"69", 2019, 2069}, {"71", 2020, 1971}, {"76", 2026, 2076}, {"77", 2026, 1977},
		{"00", 2049, 2000}, {"00", 2050, 2100}, {"99", 2048, 1999}, {"99", 2049, 2099}, {"50", 2100, 2150}, {"51", 2100, 2051},
		{"99", 9949, 9999}, {"99", 9999, 9999}, {"50", 9999, 9950}, {"49", 9999, 0}, {"00", 9949, 9900}, {"00", 9950, 0},
	}
	for _, c := range cases {
		// Of the names of days, one alone is that of the day in the year: none, if the year may not be.
		found := int64(0)
		for d := range 7 {
			s := time.Weekday(d).String() + ", 03-May-" + c.digits + " 04:05:06 GMT"
			checkDefined(t, s, at(c.now))
			if n, e := date.Parse(s, at(c.now)); e == api.OK {
				found += n
			}
		}
		want := int64(0)
		if c.year != 0 {
			want = time.Date(c.year, 5, 3, 4, 5, 6, 0, time.UTC).Unix()
		}
		if found != want {
			t.Errorf("%s at %d: %d; want %d, in %d", c.digits, c.now, found, want, c.year)
		}
	}
}

// TestParseTwoDigitsAtEdges: P3.1, the first and the last tick of a year, and a now that is not valid.
func TestParseTwoDigitsAtEdges(t *testing.T) {
	first := time.Date(1995, 1, 1, 0, 0, 0, 0, time.UTC).Unix()
	const s = "Monday, 06-Nov-45 00:00:00 GMT"
	in2045 := time.Date(2045, 11, 6, 0, 0, 0, 0, time.UTC).Unix()
	check(t, s, first-1, 0, api.ErrForm)
	check(t, s, first, in2045, api.OK)
	in2020 := time.Date(2020, 11, 6, 0, 0, 0, 0, time.UTC).Unix()
	for _, now := range []int64{0, -1, -1e9, math.MinInt64} {
		check(t, "Friday, 06-Nov-20 00:00:00 GMT", now, in2020, api.OK)
		check(t, "Saturday, 06-Nov-21 00:00:00 GMT", now, 0, api.ErrForm)
		check(t, "Sunday, 06-Nov-21 00:00:00 GMT", now, 0, api.ErrForm)
	}
	in9950 := time.Date(9950, 11, 6, 0, 0, 0, 0, time.UTC)
	for _, now := range []int64{last, last + 1, last + 86400*366*60, math.MaxInt64} {
		check(t, in9950.Format(rfc850), now, in9950.Unix(), api.OK)
		check(t, written(last, rfc850), now, last, api.OK)
	}
	for year := 1970; year <= 9999; year++ {
		now := time.Date(year, 12, 31, 23, 59, 59, 0, time.UTC).Unix()
		for _, digits := range []int{year + 49, year + 50, year + 51, year, 0, 99} {
			then := time.Date(fullYear(digits%100, now), 2, 28, 1, 2, 3, 0, time.UTC)
			checkDefined(t, then.Format(rfc850), now)
		}
	}
}

// TestParseChanged: P3.1, P3.3, each change of a byte, each byte more or less, held against the definitions.
func TestParseChanged(t *testing.T) {
	dates := []string{
		"Sun, 06 Nov 1994 08:49:37 GMT", "Sunday, 06-Nov-94 08:49:37 GMT", "Sun Nov  6 08:49:37 1994",
		"Tue, 29 Feb 2000 23:59:59 GMT", "Wednesday, 31-Dec-80 19:09:00 GMT", "Thu Jan 11 00:00:00 1973",
	}
	try := func(s string) {
		checkDefined(t, s, then)
		n, e := date.Parse(s, then)
		if e == api.OK && len(s) > 4 && s[3] == ',' && date.Put(n) != s {
			t.Errorf("%q: Put(%d) = %q", s, n, date.Put(n))
		}
	}
	for _, s := range dates {
		for i := range len(s) + 1 {
			try(s[:i])
			try(s[i:])
			for c := range 256 {
				try(s[:i] + string([]byte{byte(c)}) + s[i:])
				if i < len(s) {
					try(s[:i] + string([]byte{byte(c)}) + s[i+1:])
				}
			}
			if i < len(s) {
				try(s[:i] + s[i+1:])
			}
		}
	}
}

// TestParseNumbers: P3.1, each number of two digits at each place.
func TestParseNumbers(t *testing.T) {
	dates := []string{"Sun, 06 Nov 1994 08:49:37 GMT", "Sunday, 06-Nov-94 08:49:37 GMT", "Sun Nov 06 08:49:37 1994"}
	for _, s := range dates {
		for i := range len(s) - 1 {
			for n := range 100 {
				checkDefined(t, s[:i]+strconv.Itoa(100 + n)[1:]+s[i+2:], then)
			}
		}
	}
	for year := range 10000 {
		checkDefined(t, "Sun, 06 Nov "+strconv.Itoa(10000 + year)[1:]+" 08:49:37 GMT", then)
		checkDefined(t, "Sat Feb 29 08:49:37 "+strconv.Itoa(10000 + year)[1:], then)
	}
}

// TestPut: P3.2.
func TestPut(t *testing.T) {
	for _, n := range ticks() {
		if got := date.Put(n); got != written(n, fixdate) {
			t.Errorf("Put(%d) = %q; want %q", n, got, written(n, fixdate))
		}
	}
	for _, n := range []int64{-1, -2, -86400, -then, last + 1, last + 2, last + 86400, 1 << 62, math.MinInt64, math.MaxInt64} {
		if got := date.Put(n); got != "" {
			t.Errorf("Put(%d) = %q", n, got)
		}
	}
}

// TestEachDay: P3.2, P3.3, each day of the calendar, at another time each.
func TestEachDay(t *testing.T) {
	for n := int64(0); n <= last; n += 86400 {
		tick := n + n/86400*40503%86400
		s := date.Put(tick)
		if s != written(tick, fixdate) {
			t.Fatalf("Put(%d) = %q; want %q", tick, s, written(tick, fixdate))
		}
		if got, e := date.Parse(s, 0); got != tick || e != api.OK {
			t.Fatalf("Parse(%q) = %d, %d; want %d", s, got, e, tick)
		}
	}
}

// TestThereAndBack: P3.3, whatever now is.
func TestThereAndBack(t *testing.T) {
	for _, n := range ticks() {
		for _, now := range append(nows(), n) {
			check(t, date.Put(n), now, n, api.OK)
		}
	}
}

// TestWithinADay: P3.4, the later time has the greater tick, by the seconds between.
func TestWithinADay(t *testing.T) {
	for _, day := range []string{"Sun, 06 Nov 1994 ", "Thu, 01 Jan 1970 ", "Fri, 31 Dec 9999 ", "Tue, 29 Feb 2000 "} {
		begin, e := date.Parse(day+"00:00:00 GMT", 0)
		if e != api.OK {
			t.Errorf("%s: %d", day, e)
		}
		for n := range int64(86400) {
			s := day + written(n, "15:04:05") + " GMT"
			check(t, s, 0, begin+n, api.OK)
		}
	}
}

// TestAnyBytes: P3.4, whatever comes in: a valid tick, or zero and the error; and no call panics.
func TestAnyBytes(t *testing.T) {
	pieces := []string{
		"Sun", "Sunday", "Mon", ", ", " ", "06", " 6", "6", "29", "Nov", "Feb", "-", "1994", "94", "2000", "08", ":", "08:49:37", "GMT", " GMT", "\xff", "\x00", "",
	}
	random := rand.New(rand.NewSource(3))
	for range 200000 {
		var s strings.Builder
		for range random.Intn(12) {
			s.WriteString(pieces[random.Intn(len(pieces))])
		}
		now := int64(random.Uint64()) >> random.Intn(64)
		checkDefined(t, s.String(), now)
		n, e := date.Parse(s.String(), now)
		if n < 0 || n > last || e != api.OK && (n != 0 || e != api.ErrForm) {
			t.Errorf("Parse(%q, %d) = %d, %d", s.String(), now, n, e)
		}
		if s := date.Put(now); (s == "") != (now < 0 || now > last) {
			t.Errorf("Put(%d) = %q", now, s)
		}
	}
}
