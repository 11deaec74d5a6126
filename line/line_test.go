package line_test

import (
	"fmt"
	"regexp"
	"strconv"
	"strings"
	"testing"

	"inlay/api"
	"inlay/line"
	"inlay/samples"
)

const (
	mostLine = 2048
	mostURI  = 1024
)

// The definitions, as expressions over bytes read as runes.
var (
	token       = "[A-Za-z0-9!#$%&'*+.^_`|~-]+"
	target      = `[\x21-\x7e]+`
	version     = `HTTP/([0-9])\.([0-9])`
	status      = `[1-5][0-9][0-9]`
	reason      = `[\x09\x20-\x7e\x{80}-\x{ff}]*`
	requestLine = regexp.MustCompile(`\A(` + token + `) (` + target + `) ` + version + `\z`)
	statusLine  = regexp.MustCompile(`\A` + version + ` (` + status + `) (` + reason + `)\z`)
)

// matched answers the parts of s by the expression, as bytes: nil if it does not match.
func matched(x *regexp.Regexp, s string) []string {
	var out []string
	for _, part := range x.FindStringSubmatch(samples.Wide(s)) {
		var b []byte
		for _, r := range part {
			b = append(b, byte(r))
		}
		out = append(out, string(b))
	}
	return out
}

// An asked is what Request answers.
type asked struct {
	method, target string
	minor          int
	e              api.Errno
}

// An answered is what Status answers.
type answered struct {
	status int
	reason string
	minor  int
	e      api.Errno
}

func (a asked) String() string {
	return fmt.Sprintf("%.80q, %.80q, %d, %d", a.method, a.target, a.minor, a.e)
}

func (a answered) String() string {
	return fmt.Sprintf("%d, %.80q, %d, %d", a.status, a.reason, a.minor, a.e)
}

func request(s string) (a asked) {
	a.method, a.target, a.minor, a.e = line.Request(s)
	return a
}

func statusOf(s string) (a answered) {
	a.status, a.reason, a.minor, a.e = line.Status(s)
	return a
}

func minorOf(digit string) int {
	if digit == "0" {
		return 0
	}
	return 1
}

// definedRequest: P5.1, from the definitions.
func definedRequest(s string) asked {
	parts := matched(requestLine, s)
	switch {
	case len(s) > mostLine:
		return asked{e: api.ErrLong}
	case parts == nil:
		return asked{e: api.ErrForm}
	case parts[3] != "1":
		return asked{e: api.ErrVersion}
	case len(parts[2]) > mostURI:
		return asked{e: api.ErrLong}
	}
	return asked{method: parts[1], target: parts[2], minor: minorOf(parts[4])}
}

// definedStatus: P5.1, from the definitions.
func definedStatus(s string) answered {
	parts := matched(statusLine, s)
	switch {
	case len(s) > mostLine:
		return answered{e: api.ErrLong}
	case parts == nil:
		return answered{e: api.ErrForm}
	case parts[1] != "1":
		return answered{e: api.ErrVersion}
	}
	n, _ := strconv.Atoi(parts[3])
	return answered{status: n, reason: parts[4], minor: minorOf(parts[2])}
}

// definedPutRequest: P5.2, from the definitions.
func definedPutRequest(method, target string, minor int) (string, api.Errno) {
	s := method + " " + target + " HTTP/1." + strconv.Itoa(minor)
	parts := matched(requestLine, s)
	switch {
	case parts == nil || parts[1] != method || parts[2] != target || minor < 0 || minor > 1:
		return "", api.ErrForm
	case len(target) > mostURI || len(s) > mostLine:
		return "", api.ErrLong
	}
	return s, api.OK
}

// definedPutStatus: P5.2, from the definitions.
func definedPutStatus(status int, reason string, minor int) (string, api.Errno) {
	s := "HTTP/1." + strconv.Itoa(minor) + " " + strconv.Itoa(status) + " " + reason
	switch {
	case matched(statusLine, s) == nil || minor < 0 || minor > 1:
		return "", api.ErrForm
	case len(s) > mostLine:
		return "", api.ErrLong
	}
	return s, api.OK
}

func wantRequest(t *testing.T, s string, want asked) {
	t.Helper()
	if got := request(s); got != want {
		t.Errorf("Request(%.80q) = %v; want %v", s, got, want)
	}
}

func wantStatus(t *testing.T, s string, want answered) {
	t.Helper()
	if got := statusOf(s); got != want {
		t.Errorf("Status(%.80q) = %v; want %v", s, got, want)
	}
}

func wantPutRequest(t *testing.T, method, target string, minor int, want string, wantE api.Errno) {
	t.Helper()
	if s, e := line.PutRequest(method, target, minor); s != want || e != wantE {
		t.Errorf("PutRequest(%.80q, %.80q, %d) = %.80q, %d; want %.80q, %d", method, target, minor, s, e, want, wantE)
	}
}

func wantPutStatus(t *testing.T, status int, reason string, minor int, want string, wantE api.Errno) {
	t.Helper()
	if s, e := line.PutStatus(status, reason, minor); s != want || e != wantE {
		t.Errorf("PutStatus(%d, %.80q, %d) = %.80q, %d; want %.80q, %d", status, reason, minor, s, e, want, wantE)
	}
}

// wantBoth: P5.1, P5.3, P5.4 of a line, whatever it is.
func wantBoth(t *testing.T, s string) {
	t.Helper()
	wantRequest(t, s, definedRequest(s))
	wantStatus(t, s, definedStatus(s))
	a, b := request(s), statusOf(s)
	if a.e == api.OK {
		wantWritten(t, s, func() (string, api.Errno) { return line.PutRequest(a.method, a.target, a.minor) }, func(s string) bool { return request(s) == a })
	}
	if b.e == api.OK {
		wantWritten(t, s, func() (string, api.Errno) { return line.PutStatus(b.status, b.reason, b.minor) }, func(s string) bool { return statusOf(s) == b })
	}
	if a.e == api.OK && b.e == api.OK {
		t.Errorf("%q is of both kinds", s)
	}
}

// wantWritten: P5.4, of a line that was read.
func wantWritten(t *testing.T, s string, put func() (string, api.Errno), same func(s string) bool) {
	t.Helper()
	written, e := put()
	if e != api.OK || !same(written) {
		t.Errorf("%.80q is written as %.80q, %d", s, written, e)
	}
	ordinary := regexp.MustCompile(`\AHTTP/1\.[01] | HTTP/1\.[01]\z`)
	if ordinary.MatchString(s) && written != s {
		t.Errorf("%.80q is written as %.80q", s, written)
	}
}

func x(n int) string {
	return strings.Repeat("x", n)
}

func TestTheLimits(t *testing.T) {
	if api.MaxLine != mostLine || api.MaxURI != mostURI {
		t.Errorf("MaxLine = %d, MaxURI = %d", api.MaxLine, api.MaxURI)
	}
}

// TestExamples: P5.1, P5.2, the chapter's examples.
func TestExamples(t *testing.T) {
	wantRequest(t, "GET /a?b HTTP/1.1", asked{"GET", "/a?b", 1, api.OK})
	wantRequest(t, "GET /a HTTP/1.0", asked{"GET", "/a", 0, api.OK})
	wantRequest(t, "M * HTTP/1.7", asked{"M", "*", 1, api.OK})
	wantRequest(t, "GET /a HTTP/2.0", asked{e: api.ErrVersion})
	for _, s := range []string{"GET /a http/1.1", "GET  /a HTTP/1.1", "GET /a HTTP/1.1 ", "GET /a", "GET /a HTTP/11"} {
		wantRequest(t, s, asked{e: api.ErrForm})
	}
	wantStatus(t, "HTTP/1.1 200 OK", answered{200, "OK", 1, api.OK})
	wantStatus(t, "HTTP/1.1 404 ", answered{404, "", 1, api.OK})
	wantStatus(t, "HTTP/1.1 404", answered{e: api.ErrForm})
	wantStatus(t, "HTTP/1.1 600 x", answered{e: api.ErrForm})
	wantStatus(t, "HTTP/0.9 200 OK", answered{e: api.ErrVersion})
	wantPutRequest(t, "GET", "/a", 1, "GET /a HTTP/1.1", api.OK)
	wantPutRequest(t, "G T", "/a", 1, "", api.ErrForm)
	wantPutRequest(t, "GET", "", 1, "", api.ErrForm)
	wantPutRequest(t, "GET", "/a", 2, "", api.ErrForm)
	wantPutStatus(t, 304, "", 0, "HTTP/1.0 304 ", api.OK)
	wantPutStatus(t, 99, "x", 1, "", api.ErrForm)
	wantPutStatus(t, 200, "\r\n", 1, "", api.ErrForm)
}

// TestRequest: P5.1.
func TestRequest(t *testing.T) {
	for _, c := range []struct {
		s    string
		want asked
	}{
		{"a ! HTTP/1.1", asked{"a", "!", 1, api.OK}}, {"!#$%&'*+-.^_`|~09azAZ ~ HTTP/1.0", asked{"!#$%&'*+-.^_`|~09azAZ", "~", 0, api.OK}},
		{"HTTP HTTP/1.1 HTTP/1.1", asked{"HTTP", "HTTP/1.1", 1, api.OK}}, {"1 200 HTTP/1.9", asked{"1", "200", 1, api.OK}},
		{"get http://h:1/a?b#c%zz\\\"{} HTTP/1.2", asked{"get", "http://h:1/a?b#c%zz\\\"{}", 1, api.OK}},
		{"GET / HTTP/0.0", asked{e: api.ErrVersion}}, {"GET / HTTP/0.9", asked{e: api.ErrVersion}}, {"GET / HTTP/9.1", asked{e: api.ErrVersion}},
	} {
		wantRequest(t, c.s, c.want)
	}
	for _, s := range []string{
		"", " ", "  ", "GET", "GET ", "GET  ", " / HTTP/1.1", " GET / HTTP/1.1", "GET/ HTTP/1.1", "GET  HTTP/1.1", "GET / ", "GET /  HTTP/1.1", "GET / x HTTP/1.1",
		"GET\t/ HTTP/1.1", "GET /\tHTTP/1.1", "GET /\ta HTTP/1.1", "GET / HTTP/1.1\r\n", "GET / HTTP/1.1\n", "GET / HTTP/1.1\r", "GET /\x7f HTTP/1.1", "GET /\xc3\xa9 HTTP/1.1",
		"G(T / HTTP/1.1", "G/T / HTTP/1.1", "G\xc3\x89 / HTTP/1.1", "G\x00 / HTTP/1.1", "\"GET\" / HTTP/1.1",
		"GET / HTTP/", "GET / HTTP/1", "GET / HTTP/1.", "GET / HTTP/.1", "GET / HTTP/1.10", "GET / HTTP/10.1", "GET / HTTP/01.1", "GET / HTTP/1,1", "GET / HTTP/1..1", "GET / HTTP/1.a",
		"GET / HTTP/a.1", "GET / HTTP/-1.1", "GET / HTTP/1.-1", "GET / HTTP/1.+1", "GET / HTTP 1.1", "GET / HTTPS/1.1", "GET / TTP/1.1", "GET / Http/1.1", "GET / HTTP/ 1.1", "GET / HTTP/1.1x",
		// More digits than any number holds.
		"GET / HTTP/1." + strings.Repeat("9", 40), "GET / HTTP/" + strings.Repeat("0", 40) + "1.1",
		// What is not a request line is told so, whatever its version and its length within the limit.
		"GET  / HTTP/2.0", "G T / HTTP/2.0", "GET / HTTP/2.00", "GET / HTTP/2.0 ", "GET / HTTP/22.0", "G( /" + x(mostURI) + " HTTP/1.1",
		"HTTP/1.1 200 OK", "HTTP/1.1 200 ",
	} {
		wantRequest(t, s, asked{e: api.ErrForm})
	}
}

// TestStatus: P5.1.
func TestStatus(t *testing.T) {
	for _, c := range []struct {
		s    string
		want answered
	}{
		{"HTTP/1.0 100 ", answered{100, "", 0, api.OK}}, {"HTTP/1.2 599  ", answered{599, " ", 1, api.OK}}, {"HTTP/1.1 200 \t a\tb ~\x80\xff ", answered{200, "\t a\tb ~\x80\xff ", 1, api.OK}},
		{"HTTP/1.9 503 Service Unavailable", answered{503, "Service Unavailable", 1, api.OK}}, {"HTTP/1.1 200 200 HTTP/1.1", answered{200, "200 HTTP/1.1", 1, api.OK}},
		{"HTTP/0.0 200 ", answered{e: api.ErrVersion}}, {"HTTP/2.0 200 OK", answered{e: api.ErrVersion}}, {"HTTP/9.9 599 ", answered{e: api.ErrVersion}},
	} {
		wantStatus(t, c.s, c.want)
	}
	for _, s := range []string{
		"", " ", "HTTP/1.1", "HTTP/1.1 ", "HTTP/1.1  ", "HTTP/1.1 200", "HTTP/1.1  200 OK", "HTTP/1.1 20 OK", "HTTP/1.1 2000 OK", "HTTP/1.1 0200 OK", "HTTP/1.1 2 0 OK", "HTTP/1.1 20x OK",
		"HTTP/1.1 000 OK", "HTTP/1.1 099 OK", "HTTP/1.1 600 OK", "HTTP/1.1 999 OK", "HTTP/1.1 -20 OK", "HTTP/1.1 +20 OK", "HTTP/1.1 200OK", "HTTP/1.1 200\tOK", "HTTP/1.1\t200 OK",
		"HTTP/1.1200 OK", "HTTP/1.1 OK", "HTTP/1.1 OK 200", " HTTP/1.1 200 OK", "http/1.1 200 OK", "HTTP/1 200 OK", "HTTP/11 200 OK", "HTTP/1.10 200 OK", "HTTP/01.1 200 OK", "HTTP 200 OK",
		"HTTP/1.1 200 OK\r\n", "HTTP/1.1 200 O\nK", "HTTP/1.1 200 \r", "HTTP/1.1 200 O\x00K", "HTTP/1.1 200 \x7f", "HTTP/1.1 200 \x1f",
		"HTTP/1.1 " + strings.Repeat("9", 40) + " OK", "HTTP/1.1 " + strings.Repeat("0", 40) + "200 OK",
		// What is not a status line is told so, whatever its version.
		"HTTP/2.0 200", "HTTP/2.0 600 x", "HTTP/0.9 200 \n", "HTTP/2.0  200 OK", "HTTP/22.0 200 OK",
		"GET / HTTP/1.1",
	} {
		wantStatus(t, s, answered{e: api.ErrForm})
	}
}

// TestRequestLimits: P5.1, which error is the first.
func TestRequestLimits(t *testing.T) {
	for s, want := range map[string]api.Errno{
		"GET " + x(mostURI) + " HTTP/1.1": api.OK, "GET " + x(mostURI+1) + " HTTP/1.1": api.ErrLong, "GET " + x(mostURI+1) + " HTTP/2.1": api.ErrVersion,
		"GET " + x(mostURI+1) + " HTTP/1.": api.ErrForm, "GET " + x(mostURI+1) + "\n HTTP/1.1": api.ErrForm,
		// 10 bytes beside the method and the target.
		x(mostLine-10-mostURI) + " " + x(mostURI) + " HTTP/1.1": api.OK, x(mostLine-9-mostURI) + " " + x(mostURI) + " HTTP/1.1": api.ErrLong,
		x(mostLine-11) + " / HTTP/1.1": api.OK, x(mostLine-10) + " / HTTP/1.1": api.ErrLong, x(mostLine-11) + " / HTTP/2.1": api.ErrVersion, x(mostLine-10) + " / HTTP/2.1": api.ErrLong,
		"G " + x(mostLine-11) + " HTTP/1.1": api.ErrLong, "G " + x(mostLine-11) + " HTTP/2.1": api.ErrVersion, "G " + x(mostLine-10) + " HTTP/2.1": api.ErrLong,
		x(mostLine): api.ErrForm, x(mostLine + 1): api.ErrLong, strings.Repeat("\n", mostLine): api.ErrForm, strings.Repeat("\n", mostLine+1): api.ErrLong, x(1 << 20): api.ErrLong,
	} {
		got := request(s)
		if got.e != want || want != api.OK && got != (asked{e: want}) || got != definedRequest(s) {
			t.Errorf("Request(%.40q, %d bytes) = %v; want %d", s, len(s), got, want)
		}
	}
}

// TestStatusLimits: P5.1, which error is the first; a reason has no limit but the line's.
func TestStatusLimits(t *testing.T) {
	for s, want := range map[string]api.Errno{
		"HTTP/1.1 200 " + x(mostLine-13): api.OK, "HTTP/1.1 200 " + x(mostLine-12): api.ErrLong, "HTTP/2.1 200 " + x(mostLine-13): api.ErrVersion, "HTTP/2.1 200 " + x(mostLine-12): api.ErrLong,
		"HTTP/1.1 600 " + x(mostLine-13): api.ErrForm, "HTTP/1.1 600 " + x(mostLine-12): api.ErrLong, "HTTP/1.1 200 " + x(mostLine-14) + "\n": api.ErrForm, "HTTP/1.1 200 " + x(mostURI+1): api.OK,
		x(mostLine): api.ErrForm, x(mostLine + 1): api.ErrLong, x(1 << 20): api.ErrLong,
	} {
		got := statusOf(s)
		if got.e != want || want != api.OK && got != (answered{e: want}) || got != definedStatus(s) {
			t.Errorf("Status(%.40q, %d bytes) = %v; want %d", s, len(s), got, want)
		}
	}
}

// TestEachByte: P5.1, P5.3, P5.4, every byte at every place of a line: put there, and in place of what stood there.
func TestEachByte(t *testing.T) {
	for _, s := range []string{"GET /a HTTP/1.1", "x * HTTP/1.0", "HTTP/1.1 200 OK", "HTTP/1.0 404 ", "HTTP/2.0 404 x", "GET / HTTP/2.0"} {
		samples.Spoilt(s, func(s string) { wantBoth(t, s) })
	}
}

// TestByDefinition: P5.1, P5.3, P5.4, every text of few pieces.
func TestByDefinition(t *testing.T) {
	samples.Words([]string{" ", "GET", "/a", "HTTP/1.1", "HTTP/1.0", "HTTP/2.0", "HTTP/", "1", ".", "200", "600", "\n"}, 5, func(s string) {
		wantBoth(t, s)
	})
}

// TestVersions: P5.1, P5.4, every version of two digits.
func TestVersions(t *testing.T) {
	for major := range 10 {
		for minor := range 10 {
			v := "HTTP/" + strconv.Itoa(major) + "." + strconv.Itoa(minor)
			ask, answer := asked{"GET", "/", min(minor, 1), api.OK}, answered{200, "OK", min(minor, 1), api.OK}
			if major != 1 {
				ask, answer = asked{e: api.ErrVersion}, answered{e: api.ErrVersion}
			}
			wantRequest(t, "GET / "+v, ask)
			wantStatus(t, v+" 200 OK", answer)
			wantBoth(t, "GET / "+v)
			wantBoth(t, v+" 200 OK")
		}
	}
}

// TestStatuses: P5.1, P5.2, every number of up to four digits, and others.
func TestStatuses(t *testing.T) {
	for n := range 10000 {
		s := strconv.Itoa(n)
		want, written, e := answered{e: api.ErrForm}, "", api.ErrForm
		if 100 <= n && n <= 599 {
			want, written, e = answered{n, "x", 0, api.OK}, "HTTP/1.0 "+s+" x", api.OK
		}
		wantStatus(t, "HTTP/1.0 "+s+" x", want)
		wantPutStatus(t, n, "x", 0, written, e)
	}
	for _, n := range []int{-1, -100, -200, -1 << 63, 1<<63 - 1, 1<<32 + 200, 1 << 31} {
		wantPutStatus(t, n, "x", 1, "", api.ErrForm)
	}
}

// TestPutRequest: P5.2.
func TestPutRequest(t *testing.T) {
	for _, c := range []struct {
		method, target string
		minor          int
	}{
		{"GET", "/", 0}, {"x", "HTTP/1.1", 1}, {"HTTP", "!~", 1}, {"!#$%&'*+-.^_`|~09azAZ", "*", 0},
		{"", "/", 1}, {"", "", 0}, {" ", "/", 1}, {"GET ", "/", 1}, {" GET", "/", 1}, {"G(T", "/", 1}, {"GET /", "/", 1}, {"GET\n", "/", 1}, {"\xc3\x89", "/", 1},
		{"GET", " ", 1}, {"GET", " /", 1}, {"GET", "/ ", 1}, {"GET", "/ /", 1}, {"GET", "/\t", 1}, {"GET", "/\x7f", 1}, {"GET", "/\x80", 1}, {"GET", "/\r\nA: b", 1}, {"GET", "/ HTTP/1.1", 1},
		{"GET", "/", -1}, {"GET", "/", 2}, {"GET", "/", 9}, {"GET", "/", 10}, {"GET", "/", 1 << 32}, {"GET", "/", -1 << 63}, {"GET", "/", 1<<63 - 1},
		{"GET", x(mostURI), 1}, {"GET", x(mostURI + 1), 1}, {"GET", x(mostURI+1) + "\n", 1}, {"GET", x(mostURI + 1), 2}, {"G T", x(mostURI + 1), 1},
		{x(mostLine - 10 - mostURI), x(mostURI), 0}, {x(mostLine - 9 - mostURI), x(mostURI), 0}, {x(mostLine - 11), "/", 1}, {x(mostLine - 10), "/", 1}, {x(mostLine - 10), "/\n", 1},
		{x(mostLine-11) + "\n", "/", 1}, {x(mostLine), "", 1}, {x(mostLine), "/", 3}, {x(1 << 20), x(1 << 20), 1},
	} {
		want, e := definedPutRequest(c.method, c.target, c.minor)
		wantPutRequest(t, c.method, c.target, c.minor, want, e)
		if e == api.OK {
			wantRequest(t, want, asked{c.method, c.target, c.minor, api.OK})
		}
	}
	wantPutRequest(t, "GET", x(mostURI), 1, "GET "+x(mostURI)+" HTTP/1.1", api.OK)
	wantPutRequest(t, "GET", x(mostURI+1), 1, "", api.ErrLong)
	wantPutRequest(t, x(mostLine-11), "/", 0, x(mostLine-11)+" / HTTP/1.0", api.OK)
	wantPutRequest(t, x(mostLine-10), "/", 0, "", api.ErrLong)
	wantPutRequest(t, x(mostLine), "/", -1, "", api.ErrForm)
}

// TestPutStatus: P5.2.
func TestPutStatus(t *testing.T) {
	for _, c := range []struct {
		status int
		reason string
		minor  int
	}{
		{100, "", 0}, {599, "\t ~\x80\xff", 1}, {200, " ", 1}, {200, "OK ", 0}, {99, "", 1}, {600, "", 1}, {0, "", 0},
		{200, "\n", 1}, {200, "a\r\nb: c", 1}, {200, "\x00", 1}, {200, "\x7f", 1}, {200, "OK", -1}, {200, "OK", 2}, {200, "OK", 10}, {200, "OK", 1 << 32}, {200, "OK", 1<<63 - 1},
		{200, x(mostLine - 13), 1}, {200, x(mostLine - 12), 1}, {600, x(mostLine), 1}, {200, x(mostLine) + "\n", 1}, {200, x(mostLine), 2}, {200, x(1 << 20), 0},
	} {
		want, e := definedPutStatus(c.status, c.reason, c.minor)
		wantPutStatus(t, c.status, c.reason, c.minor, want, e)
		if e == api.OK {
			wantStatus(t, want, answered{c.status, c.reason, c.minor, api.OK})
		}
	}
	wantPutStatus(t, 200, x(mostLine-13), 1, "HTTP/1.1 200 "+x(mostLine-13), api.OK)
	wantPutStatus(t, 200, x(mostLine-12), 1, "", api.ErrLong)
	wantPutStatus(t, 99, x(mostLine-12), 1, "", api.ErrForm)
}

// TestPutEachByte: P5.2, P5.3, every byte in a method, a target and a reason.
func TestPutEachByte(t *testing.T) {
	samples.EachByte(func(_ byte, c string) {
		for _, s := range []string{c, c + "x", "x" + c, "x" + c + "x", c + c} {
			for minor := -1; minor <= 2; minor++ {
				wantWayBack(t, s, "/", minor)
				wantWayBack(t, "GET", s, minor)
				want, e := definedPutStatus(200, s, minor)
				wantPutStatus(t, 200, s, minor, want, e)
				if e == api.OK {
					wantStatus(t, want, answered{200, s, minor, api.OK})
				}
			}
		}
	})
}

func wantWayBack(t *testing.T, method, target string, minor int) {
	t.Helper()
	want, e := definedPutRequest(method, target, minor)
	wantPutRequest(t, method, target, minor, want, e)
	if e == api.OK {
		wantRequest(t, want, asked{method, target, minor, api.OK})
	}
}
