package uri_test

import (
	"math/rand"
	"regexp"
	"strconv"
	"strings"
	"testing"

	"inlay/api"
	"inlay/samples"
	"inlay/uri"
)

const (
	mostURI  = 1024
	mostHost = 253
)

// The definitions, as expressions over bytes read as runes.
var (
	hostText   = `[A-Za-z0-9.-]{1,253}`
	pathText   = `/(?:[A-Za-z0-9._~!$&'()*+,;=:@/-]|%[0-9A-Fa-f]{2})*`
	queryText  = `(?:[A-Za-z0-9._~!$&'()*+,;=:@/?-]|%[0-9A-Fa-f]{2})*`
	host       = regexp.MustCompile(`\A` + hostText + `\z`)
	path       = regexp.MustCompile(`\A` + pathText + `\z`)
	query      = regexp.MustCompile(`\A` + queryText + `\z`)
	whole      = regexp.MustCompile(`\A(https?)://(` + hostText + `)(?::([1-9][0-9]{0,4}))?(` + pathText + `)?(\?` + queryText + `)?\z`)
	escape     = regexp.MustCompile(`%[0-9A-Fa-f]{2}`)
	plainBytes = regexp.MustCompile(`\A[A-Za-z0-9._~-]\z`)
)

// A parsed is what Parse answers.
type parsed struct {
	u api.URI
	e api.Errno
}

func parse(s string) (p parsed) {
	p.u, p.e = uri.Parse(s)
	return p
}

func (p parsed) told() string {
	return told(p.u) + ", error " + strconv.Itoa(int(p.e))
}

func told(u api.URI) string {
	return cut(u.Scheme) + " " + cut(u.Host) + " " + strconv.Itoa(u.Port) + " " + cut(u.Path) + " " + strconv.FormatBool(u.HasQuery) + " " + cut(u.Query)
}

func cut(s string) string {
	return strconv.Quote(s[:min(len(s), 80)])
}

// at answers a URI without a query, and asked one with it.
func at(scheme, host string, port int, path string) api.URI {
	return api.URI{Scheme: scheme, Host: host, Port: port, Path: path}
}

func asked(scheme, host string, port int, path, query string) api.URI {
	return api.URI{Scheme: scheme, Host: host, Port: port, Path: path, Query: query, HasQuery: true}
}

// definedText: the text of u, by the definition.
func definedText(u api.URI) string {
	out := []string{u.Scheme, "://", u.Host}
	if u.Port != 0 {
		out = append(out, ":", strconv.Itoa(u.Port))
	}
	out = append(out, u.Path)
	if u.HasQuery {
		out = append(out, "?", u.Query)
	}
	return strings.Join(out, "")
}

// definedCheck: P9.1, from the definitions.
func definedCheck(u api.URI) api.Errno {
	switch {
	case u.Scheme != "http" && u.Scheme != "https", !host.MatchString(samples.Wide(u.Host)), u.Port < 0, u.Port > 65535,
		!path.MatchString(samples.Wide(u.Path)), !query.MatchString(samples.Wide(u.Query)), !u.HasQuery && u.Query != "":
		return api.ErrForm
	case len(definedText(u)) > mostURI:
		return api.ErrLong
	}
	return api.OK
}

// definedParse: P9.1, from the definitions.
func definedParse(s string) parsed {
	parts := whole.FindStringSubmatch(samples.Wide(s))
	switch {
	case len(s) > mostURI:
		return parsed{e: api.ErrLong}
	case parts == nil:
		return parsed{e: api.ErrForm}
	}
	u := at(parts[1], parts[2], 0, parts[4])
	u.Port, _ = strconv.Atoi(parts[3])
	u.Query, u.HasQuery = strings.CutPrefix(parts[5], "?")
	missing := u.Path == ""
	if missing {
		u.Path = "/"
	}
	switch {
	case u.Port > 65535:
		return parsed{e: api.ErrForm}
	case missing && len(s) == mostURI:
		return parsed{e: api.ErrLong}
	}
	return parsed{u: u}
}

// definedNormal: P9.2, from the definitions.
func definedNormal(u api.URI) api.URI {
	if definedCheck(u) != api.OK {
		return api.URI{}
	}
	u.Host = strings.ToLower(u.Host)
	if u.Scheme == "http" && u.Port == 80 || u.Scheme == "https" && u.Port == 443 {
		u.Port = 0
	}
	u.Path, u.Query = definedDots(definedEscapes(u.Path)), definedEscapes(u.Query)
	return u
}

func definedEscapes(s string) string {
	return escape.ReplaceAllStringFunc(s, func(x string) string {
		n, _ := strconv.ParseUint(x[1:], 16, 8)
		if c := string(rune(n)); plainBytes.MatchString(c) {
			return c
		}
		return strings.ToUpper(x)
	})
}

// definedDots: P9.2, in the way of RFC 3986, 5.2.4, which comes to the same for what begins with a slash.
func definedDots(in string) string {
	if !strings.HasPrefix(in, "/") {
		return ""
	}
	var out []string
	for in != "" {
		switch {
		case strings.HasPrefix(in, "/./"):
			in = in[2:]
		case in == "/.":
			in = "/"
		case strings.HasPrefix(in, "/../"), in == "/..":
			in = "/" + strings.TrimPrefix(in[3:], "/")
			out = out[:max(len(out)-1, 0)]
		default:
			end := 1 + len(in[1:])
			if i := strings.Index(in[1:], "/"); i >= 0 {
				end = 1 + i
			}
			out = append(out, in[:end])
			in = in[end:]
		}
	}
	return strings.Join(out, "")
}

func wantCheck(t *testing.T, u api.URI, want api.Errno) {
	t.Helper()
	if got := uri.Check(u); got != want {
		t.Errorf("Check(%s) = %d; want %d", told(u), got, want)
	}
}

func wantParse(t *testing.T, s string, want parsed) {
	t.Helper()
	if got := parse(s); got != want {
		t.Errorf("Parse(%s, %d bytes) = %s; want %s", cut(s), len(s), got.told(), want.told())
	}
}

func wantPut(t *testing.T, u api.URI, want string) {
	t.Helper()
	if got := uri.Put(u); got != want {
		t.Errorf("Put(%s) = %s; want %s", told(u), cut(got), cut(want))
	}
}

func wantNormal(t *testing.T, u, want api.URI) {
	t.Helper()
	if got := uri.Normal(u); got != want {
		t.Errorf("Normal(%s) = %s; want %s", told(u), told(got), told(want))
	}
}

func wantDots(t *testing.T, path, want string) {
	t.Helper()
	if got := uri.Dots(path); got != want {
		t.Errorf("Dots(%s, %d bytes) = %s, %d bytes; want %s", cut(path), len(path), cut(got), len(got), cut(want))
	}
}

// wantAll holds u against the definitions, and P9.3 and P9.4 besides.
func wantAll(t *testing.T, u api.URI) {
	t.Helper()
	e := definedCheck(u)
	wantCheck(t, u, e)
	wantNormal(t, u, definedNormal(u))
	if e != api.OK {
		wantPut(t, u, "")
		return
	}
	wantPut(t, u, definedText(u))
	wantParse(t, definedText(u), parsed{u: u})
	n := uri.Normal(u)
	wantNormal(t, n, n)
	wantCheck(t, n, api.OK)
	if len(uri.Put(n)) > len(uri.Put(u)) {
		t.Errorf("Normal(%s) is longer: %s", told(u), told(n))
	}
}

// wantText holds s against the definitions, and P9.3 besides.
func wantText(t *testing.T, s string) {
	t.Helper()
	wantParse(t, s, definedParse(s))
	p := parse(s)
	if p.e != api.OK {
		return
	}
	wantAll(t, p.u)
	if back := uri.Put(p.u); back != s {
		// The path alone may have been missing.
		bare := p.u
		bare.Path = ""
		if p.u.Path != "/" || definedText(bare) != s {
			t.Errorf("Put of Parse(%s) = %s", cut(s), cut(back))
		}
	}
}

// TestExamples: the chapter's, word for word.
func TestExamples(t *testing.T) {
	wantParse(t, "http://A.b:8080/x?y", parsed{u: asked("http", "A.b", 8080, "/x", "y")})
	wantPut(t, asked("http", "A.b", 8080, "/x", "y"), "http://A.b:8080/x?y")
	wantParse(t, "https://a", parsed{u: at("https", "a", 0, "/")})
	wantParse(t, "http://a?", parsed{u: asked("http", "a", 0, "/", "")})
	wantParse(t, "http://a/%4a", parsed{u: at("http", "a", 0, "/%4a")})
	for _, s := range []string{
		"ftp://a/", "http:///", "http://a:/", "http://a:080/", "http://a:65536/", "http://a/b c", "http://a/%4", "http://u@a/", "http://a/#f", "HTTP://a/",
	} {
		wantParse(t, s, parsed{e: api.ErrForm})
	}
	u := parse("http://A:80/%7eb/%2F/../c/./%2e%2E/d?%61%3d").u
	wantNormal(t, u, asked("http", "a", 0, "/~b/d", "a%3D"))
	for s, want := range map[string]string{"/a/b/c/./../../g": "/a/g", "/a/..": "/", "/a/.": "/a/", "/../a": "/a", "//a/../b": "//b", "/": "/"} {
		wantDots(t, s, want)
	}
}

// TestCheck: P9.1, each part as it must be, and otherwise.
func TestCheck(t *testing.T) {
	good := asked("http", "a", 1, "/", "q")
	wantCheck(t, good, api.OK)
	wantCheck(t, api.URI{}, api.ErrForm)
	for _, s := range []string{"http", "https"} {
		u := good
		u.Scheme = s
		wantCheck(t, u, api.OK)
	}
	for _, s := range []string{"", "ftp", "HTTP", "Https", "http:", "http ", " http", "httpss", "htt", "https\x00", "file"} {
		u := good
		u.Scheme = s
		wantCheck(t, u, api.ErrForm)
	}
	for s, want := range map[string]api.Errno{
		"": api.ErrForm, "a": api.OK, ".": api.OK, "-": api.OK, "..": api.OK, "0.9": api.OK, "Az-Z.a": api.OK, strings.Repeat("a", mostHost): api.OK, strings.Repeat("a", mostHost+1): api.ErrForm,
		"a_b": api.ErrForm, "a~": api.ErrForm, "a%41": api.ErrForm, "%41": api.ErrForm, "a:1": api.ErrForm, "u@a": api.ErrForm, "[::1]": api.ErrForm, "a/": api.ErrForm, "a b": api.ErrForm, "caf\xc3\xa9": api.ErrForm,
	} {
		u := good
		u.Host = s
		wantCheck(t, u, want)
	}
	for _, n := range []int{0, 1, 80, 443, 65535} {
		u := good
		u.Port = n
		wantCheck(t, u, api.OK)
	}
	for _, n := range []int{-1, -80, 65536, 1 << 16, 1<<32 + 80, -1 << 63, 1<<63 - 1} {
		u := good
		u.Port = n
		wantCheck(t, u, api.ErrForm)
	}
	for s, want := range map[string]api.Errno{
		"": api.ErrForm, "a": api.ErrForm, "*": api.ErrForm, "?": api.ErrForm, "%2F": api.ErrForm, "/": api.OK, "//": api.OK, "/a/b.c/": api.OK, "/..": api.OK, "/-._~!$&'()*+,;=:@/": api.OK, "/%00%ff%aF%2F": api.OK,
		"/?": api.ErrForm, "/#": api.ErrForm, "/%": api.ErrForm, "/%4": api.ErrForm, "/%4/": api.ErrForm, "/%%41": api.ErrForm, "/%g1": api.ErrForm, "/%1g": api.ErrForm, "/%+1": api.ErrForm, "/%-1": api.ErrForm, "/% 1": api.ErrForm, "/%0x": api.ErrForm, "/%1_": api.ErrForm, "/%_1": api.ErrForm,
	} {
		u := good
		u.Path = s
		wantCheck(t, u, want)
	}
	for s, want := range map[string]api.Errno{
		"": api.OK, "?": api.OK, "a=b&c": api.OK, "/-._~!$&'()*+,;=:@/?": api.OK, "%00%ff%aF%2F": api.OK, "..": api.OK,
		"#": api.ErrForm, "a b": api.ErrForm, "%": api.ErrForm, "a%4": api.ErrForm, "%4?": api.ErrForm, "%%41": api.ErrForm, "%G1": api.ErrForm, "%1G": api.ErrForm, "\"": api.ErrForm, "<": api.ErrForm, "[": api.ErrForm,
	} {
		u := good
		u.Query = s
		wantCheck(t, u, want)
		u.HasQuery = false
		if s != "" {
			want = api.ErrForm
		}
		wantCheck(t, u, want)
	}
}

// TestPartsEachByte: P9.1, P9.2, every byte at the ends and in the midst of each part, as itself and as an escape.
func TestPartsEachByte(t *testing.T) {
	const small = "0123456789abcdef"
	samples.EachByte(func(c byte, s string) {
		low := "%" + small[c/16:c/16+1] + small[c%16:c%16+1]
		for _, piece := range []string{s, low, strings.ToUpper(low), s + s, "%" + s + "1", "%1" + s, "%" + s} {
			for _, part := range []string{piece, piece + "b", "b" + piece, "b" + piece + "b"} {
				wantAll(t, asked("http", part, 0, "/", ""))
				wantAll(t, asked(part, "a", 0, "/", ""))
				wantAll(t, asked("http", "a", 0, part, ""))
				wantAll(t, asked("https", "a", 0, "/"+part, ""))
				wantAll(t, at("http", "a", 0, "/../"+part+"/.."))
				wantAll(t, asked("http", "a", 0, "/", part))
				wantAll(t, api.URI{Scheme: "http", Host: "a", Path: "/", Query: part})
			}
		}
	})
}

// TestPorts: P9.1, P9.2, every port and some beyond, with each scheme.
func TestPorts(t *testing.T) {
	for n := -2; n <= 65600; n++ {
		for _, scheme := range []string{"http", "https"} {
			u := at(scheme, "a", n, "/")
			s := scheme + "://a:" + strconv.Itoa(n)
			switch {
			case n < 0 || n > 65535:
				wantCheck(t, u, api.ErrForm)
				wantPut(t, u, "")
				wantNormal(t, u, api.URI{})
				wantParse(t, s+"/", parsed{e: api.ErrForm})
			case n == 0:
				wantCheck(t, u, api.OK)
				wantPut(t, u, scheme+"://a/")
				wantNormal(t, u, u)
				wantParse(t, s+"/", parsed{e: api.ErrForm})
			default:
				wantCheck(t, u, api.OK)
				wantPut(t, u, s+"/")
				wantParse(t, s+"/", parsed{u: u})
				wantParse(t, s, parsed{u: u})
				want := u
				if scheme == "http" && n == 80 || scheme == "https" && n == 443 {
					want.Port = 0
				}
				wantNormal(t, u, want)
			}
		}
	}
	for _, s := range []string{
		"", "0", "00", "01", "080", "65536", "99999", "100000", "+80", "-80", " 80", "80 ", "8_0", "0x50", "8a", "a", "80:80", ":80", "80:",
		"9223372036854775807", "9223372036854775808", "18446744073709551696", "4294967376", strings.Repeat("9", 40), strings.Repeat("0", 40) + "80",
	} {
		for _, rest := range []string{"", "/", "?", "?q", "/a?q"} {
			wantParse(t, "http://a:"+s+rest, parsed{e: api.ErrForm})
		}
	}
}

// TestParse: P9.1.
func TestParse(t *testing.T) {
	for s, want := range map[string]api.URI{
		"http://a/": at("http", "a", 0, "/"), "http://a:1": at("http", "a", 1, "/"), "http://a:1?": asked("http", "a", 1, "/", ""), "http://a?b/c?d": asked("http", "a", 0, "/", "b/c?d"),
		"https://a/b?": asked("https", "a", 0, "/b", ""), "http://a??": asked("http", "a", 0, "/", "?"), "http://a//": at("http", "a", 0, "//"), "http://a/://b": at("http", "a", 0, "/://b"), "http://a?://b": asked("http", "a", 0, "/", "://b"),
		// Nothing is made normal.
		"http://A:80/%7e/../%2f?%7E": asked("http", "A", 80, "/%7e/../%2f", "%7E"), "https://a:443": at("https", "a", 443, "/"), "https://-..-/.": at("https", "-..-", 0, "/."),
	} {
		wantParse(t, s, parsed{u: want})
		wantText(t, s)
	}
	for _, s := range []string{
		"", "/", "a", "a/b", "/a", "//a/", "http", "http:", "http:/", "http://", "http:///a", "http://?", "http://?a", "http://:80", "http://:80/", "http:a", "http:/a/", "http//a/", "://a/", "http:://a/",
		"Http://a/", "HTTPS://a/", "httpx://a/", "ws://a/", " http://a/", "http://a/ ", "http://a /", "http://a\n", "http://a/\r\n", "http://a/\x00", "http://a/\xc3\xa9", "http://\xff/",
		"http://a#", "http://a/#", "http://a?#", "http://a/?a#b", "http://a\\b/", "http://a/\\", "http://a/\"", "http://a/<b>", "http://a/{b}", "http://a/|", "http://a/^", "http://a/`", "http://a/[b]",
		"http://[::1]/", "http://a_b/", "http://a%41/", "http://u:p@a/", "http://a/?%", "http://a?%4", "http://a?%zz", "http://a/%zz", "http://a/%",
	} {
		wantParse(t, s, parsed{e: api.ErrForm})
		wantText(t, s)
	}
}

// TestParseEachByte: P9.1, P9.3, every byte at every place of a text: put there, and in place of what stood there.
func TestParseEachByte(t *testing.T) {
	for _, s := range []string{"http://a.B:80/x/%4a?y=%7E", "https://a", "http://a?q", "https://a:9?", "http://a:65535/"} {
		samples.Spoilt(s, func(s string) { wantText(t, s) })
	}
}

// TestParseByDefinition: P9.1, P9.3, P9.4, every text of few pieces.
func TestParseByDefinition(t *testing.T) {
	samples.Words([]string{"http", "https", "://", "/", "?", ":", "a", "B", "0", "80", "443", "..", "%2e", "%", "#"}, 4, func(s string) {
		wantText(t, s)
		wantText(t, "http://a"+s)
		wantText(t, "http://"+s)
		wantText(t, "https://a"+s+"/..?%5a")
	})
}

// TestLimits: P9.1, P9.2, the longest text and one beyond it; which error is the first.
func TestLimits(t *testing.T) {
	x := func(n int) string { return strings.Repeat("x", n) }
	for s, want := range map[string]parsed{
		"http://a/" + x(mostURI-9):           {u: at("http", "a", 0, "/"+x(mostURI-9))},
		"http://a/" + x(mostURI-8):           {e: api.ErrLong},
		"http://a:80/?" + x(mostURI-13):      {u: asked("http", "a", 80, "/", x(mostURI-13))},
		"http://a:80/?" + x(mostURI-12):      {e: api.ErrLong},
		"http://a?" + x(mostURI-10):          {u: asked("http", "a", 0, "/", x(mostURI-10))},
		"http://a?" + x(mostURI-9):           {e: api.ErrLong},
		"http://a?" + x(mostURI-8):           {e: api.ErrLong},
		"http://a:1?" + x(mostURI-11):        {e: api.ErrLong},
		"http://a:1?" + x(mostURI-12):        {u: asked("http", "a", 1, "/", x(mostURI-12))},
		"http://a?" + x(mostURI-10) + "#":    {e: api.ErrForm},
		"http://a:0?" + x(mostURI-11):        {e: api.ErrForm},
		"http://a/" + x(mostURI-10) + "#":    {e: api.ErrForm},
		"http://a/" + x(mostURI-9) + "#":     {e: api.ErrLong},
		x(mostURI):                           {e: api.ErrForm},
		x(mostURI + 1):                       {e: api.ErrLong},
		x(1 << 20):                           {e: api.ErrLong},
		"http://" + x(mostHost):              {u: at("http", x(mostHost), 0, "/")},
		"http://" + x(mostHost+1):            {e: api.ErrForm},
		"http://" + x(mostHost) + ":65535/":  {u: at("http", x(mostHost), 65535, "/")},
		"https://" + x(mostHost+1) + ":1?":   {e: api.ErrForm},
		"http://" + x(mostURI-7):             {e: api.ErrForm},
		"http://a/" + strings.Repeat("%", 9): {e: api.ErrForm},
	} {
		wantParse(t, s, want)
		wantText(t, s)
	}
	for _, c := range []struct {
		u    api.URI
		want api.Errno
	}{
		{at("http", "a", 0, "/"+x(mostURI-9)), api.OK}, {at("http", "a", 0, "/"+x(mostURI-8)), api.ErrLong}, {at("https", "a", 0, "/"+x(mostURI-9)), api.ErrLong}, {at("http", "a", 0, "/"+x(mostURI-8)+"#"), api.ErrForm},
		{at("http", "a", 1, "/"+x(mostURI-11)), api.OK}, {at("http", "a", 10, "/"+x(mostURI-11)), api.ErrLong}, {at("http", "a", 65535, "/"+x(mostURI-15)), api.OK}, {at("http", "a", 65535, "/"+x(mostURI-14)), api.ErrLong},
		{asked("http", "a", 0, "/"+x(mostURI-10), ""), api.OK}, {asked("http", "a", 0, "/"+x(mostURI-9), ""), api.ErrLong}, {asked("http", "a", 0, "/", x(mostURI-10)), api.OK}, {asked("http", "a", 0, "/", x(mostURI-9)), api.ErrLong},
		{asked("http", "a", -1, "/", x(mostURI)), api.ErrForm}, {at("ftp", "a", 0, "/"+x(mostURI)), api.ErrForm}, {at("http", "", 0, "/"+x(mostURI)), api.ErrForm}, {at("http", x(mostHost+1), 0, "/"+x(mostURI)), api.ErrForm},
		{asked("http", "a", 0, "/"+x(mostURI), "#"), api.ErrForm}, {api.URI{Scheme: "http", Host: "a", Path: "/" + x(mostURI), Query: "q"}, api.ErrForm}, {at("http", "a", 0, "/"+x(1<<20)), api.ErrLong}, {at("http", x(1<<20), 0, "/"), api.ErrForm},
		// The text itself has to be short enough, not that of the normal form.
		{at("http", "a", 80, "/"+x(mostURI-9)), api.ErrLong}, {at("http", "a", 0, strings.Repeat("/..", 400)), api.ErrLong}, {at("http", "a", 0, "/"+strings.Repeat("%61", 400)), api.ErrLong},
	} {
		wantCheck(t, c.u, c.want)
		wantAll(t, c.u)
	}
}

// TestNormal: P9.2.
func TestNormal(t *testing.T) {
	for _, c := range []struct{ u, want api.URI }{
		{at("http", "A-Z.0", 443, "/A"), at("http", "a-z.0", 443, "/A")}, {at("https", "A", 80, "/"), at("https", "a", 80, "/")}, {at("https", "A", 443, "/"), at("https", "a", 0, "/")}, {at("http", "a", 80, "/"), at("http", "a", 0, "/")},
		{asked("http", "a", 0, "/", ""), asked("http", "a", 0, "/", "")}, {asked("http", "a", 0, "/%41%5a%61%7A%30%39%2d%2E%5F%7e", "%41%5a%61%7A%30%39%2d%2E%5F%7e"), asked("http", "a", 0, "/AZaz09-._~", "AZaz09-._~")},
		{asked("http", "a", 0, "/%2f%3f%c3%a9%00%25%40%21", "%2f%3f%c3%a9%00%25%40%26"), asked("http", "a", 0, "/%2F%3F%C3%A9%00%25%40%21", "%2F%3F%C3%A9%00%25%40%26")},
		// What an escape stands for begins no other one.
		{asked("http", "a", 0, "/%2541%252e%25%34%31", "%2541%25%34%31"), asked("http", "a", 0, "/%2541%252e%2541", "%2541%2541")},
		// Points and slashes of a path, bare and escaped; those of a query stay.
		{asked("http", "a", 0, "/a/%2e%2e/b/%2E/c", "/a/../%2e%2e/./b"), asked("http", "a", 0, "/b/c", "/a/../.././b")}, {at("http", "a", 0, "/a%2f..%2F../b"), at("http", "a", 0, "/a%2F..%2F../b")},
		{at("http", "a", 0, "/a/.%2e"), at("http", "a", 0, "/")}, {at("http", "a", 0, "/a/%2e"), at("http", "a", 0, "/a/")}, {at("http", "a", 0, "/%2e%2e%2e"), at("http", "a", 0, "/...")}, {at("http", "a", 0, "/a/../..//b/.."), at("http", "a", 0, "//")},
	} {
		wantNormal(t, c.u, c.want)
		wantAll(t, c.u)
	}
	for _, u := range []api.URI{
		{}, at("HTTP", "a", 0, "/"), at("http", "", 0, "/"), at("http", "a", -1, "/"), at("http", "a", 65536, "/"), at("http", "a", 0, ""), at("http", "a", 0, "a"), at("http", "a", 0, "/ "), at("http", "a", 0, "/%"), asked("http", "a", 0, "/", "#"),
		{Scheme: "http", Host: "a", Path: "/", Query: "q"},
	} {
		wantNormal(t, u, api.URI{})
		wantPut(t, u, "")
		wantAll(t, u)
	}
}

// TestDots: P9.2; anything that begins with a slash is a path here.
func TestDots(t *testing.T) {
	for s, want := range map[string]string{
		"": "", "a": "", ".": "", "..": "", "./a": "", "../a": "", "a/../b": "", " /a": "",
		"/.": "/", "/..": "/", "/./": "/", "/../": "/", "/./.": "/", "/../..": "/", "/a": "/a", "/a/": "/a/", "//": "//", "///": "///", "/./a": "/a", "/a/./b": "/a/b", "/a/../b": "/b", "/a/b/..": "/a/", "/a/b/../": "/a/", "/a/./": "/a/", "/a/../": "/", "/a/../..": "/", "/a/../.": "/",
		"//.": "//", "//..": "/", "//../": "/", "//./": "//", "/a//..": "/a/", "/a//../..": "/", "/a//.": "/a//", "/.//": "//", "/..//a": "//a", "/./..//a/": "//a/", "//a/../..": "/", "//a/..": "//", "/a/b/c/../../../../d/.": "/d/",
		// Other segments of points stay, and those with more in them.
		"/...": "/...", "/a/.../b": "/a/.../b", "/.a": "/.a", "/a.": "/a.", "/..a": "/..a", "/a..": "/a..", "/a/..b/..": "/a/", "/. /..": "/", "/.;/..;": "/.;/..;",
		// Escapes stand for themselves, and so does any other byte.
		"/a/%2e%2e/b": "/a/%2e%2e/b", "/%2e": "/%2e", "/?/../#": "/#", "/\x00/./\xff": "/\x00/\xff", "/a b/..": "/", "/a\\..\\b": "/a\\..\\b", "/a?b/..": "/",
	} {
		wantDots(t, s, want)
	}
	samples.Words([]string{"/", "/.", "/..", ".", "a", "/a"}, 7, func(s string) {
		for _, path := range []string{s, "/" + s} {
			got := uri.Dots(path)
			if want := definedDots(path); got != want || len(got) > len(path) || uri.Dots(got) != got {
				t.Errorf("Dots(%q) = %q; want %q", path, got, want)
			}
		}
	})
	samples.EachByte(func(_ byte, s string) {
		for _, path := range []string{s, "/" + s, "/a/" + s + "/..", "/" + s + "/b", "/." + s + "/.", "/b/" + s + ".", "/b/.." + s + "/c"} {
			wantDots(t, path, definedDots(path))
		}
	})
}

// TestLongDots: P9.2, P9.4; Dots has no limit, and paths that go up and down again are no harder than others.
func TestLongDots(t *testing.T) {
	const n = 1 << 18
	deep := strings.Repeat("/a", n)
	wantDots(t, deep, deep)
	wantDots(t, deep+strings.Repeat("/b/..", n), deep+"/")
	wantDots(t, deep+strings.Repeat("/b/c/../..", n)+"/d", deep+"/d")
	wantDots(t, deep+strings.Repeat("/..", n), "/")
	wantDots(t, strings.Repeat("/..", n)+deep, deep)
	wantDots(t, strings.Repeat("/.", n), "/")
	wantDots(t, strings.Repeat("/", n)+".", strings.Repeat("/", n))
	wantDots(t, strings.Repeat("/", n)+"..", strings.Repeat("/", n-1))
}

// TestOneNormalForm: P9.4, what differs in case or in escapes of plain bytes alone.
func TestOneNormalForm(t *testing.T) {
	r := rand.New(rand.NewSource(9))
	pick := func(pieces ...string) string { return pieces[r.Intn(len(pieces))] }
	for range 40000 {
		var a, b, c, d, e, f strings.Builder
		for range 1 + r.Intn(4) {
			s := pick("a", "k", "Z", "0", "-", ".")
			a.WriteString(s)
			b.WriteString(pick(strings.ToLower(s), strings.ToUpper(s)))
		}
		both := func(x, y *strings.Builder) {
			s, t := randomPiece(pick)
			x.WriteString(s)
			y.WriteString(t)
		}
		c.WriteString("/")
		d.WriteString("/")
		for range r.Intn(8) {
			both(&c, &d)
		}
		for range r.Intn(4) {
			both(&e, &f)
		}
		u, v := asked("http", a.String(), 0, c.String(), e.String()), asked("http", b.String(), 0, d.String(), f.String())
		if r.Intn(2) == 0 {
			v.Port = 80
		}
		wantAll(t, u)
		wantAll(t, v)
		if x, y := uri.Normal(u), uri.Normal(v); x != y || x == (api.URI{}) {
			t.Errorf("Normal(%s) = %s, but Normal(%s) = %s", told(u), told(x), told(v), told(y))
		}
	}
}

// randomPiece answers a piece of a path in two ways that come to the same.
func randomPiece(pick func(pieces ...string) string) (string, string) {
	switch pick("plain", "escape", "mark") {
	case "plain":
		s := pick("a", "k", "Z", "0", "-", ".", ".", "_", "~")
		code := "%" + strconv.FormatInt(int64(s[0]), 16)
		return pick(s, code), pick(s, code, strings.ToUpper(code))
	case "escape":
		s := pick("%2f", "%c3", "%00", "%25", "%3a")
		return s, pick(s, strings.ToUpper(s))
	}
	s := pick("/", "/", "/", "/../", "/./", "=", "@", "!")
	return s, s
}

// TestOtherNormalForms: P9.4's other side: what differs in more is another URI.
func TestOtherNormalForms(t *testing.T) {
	seen := map[api.URI]string{}
	for _, s := range []string{
		"http://a/", "https://a/", "http://b/", "http://a:81/", "https://a:80/", "http://a:443/", "http://a/?", "http://a/??", "http://a//", "http://a/b", "http://a/B", "http://a/b/", "http://a/%2F", "http://a/%40", "http://a/@", "http://a/?b", "http://a/?B",
		"http://a/b?", "http://a./", "http://a/%252F", "http://a/;", "http://a/%3B", "http://a/?./b", "http://a/?b/..",
	} {
		n := uri.Normal(parse(s).u)
		if other, there := seen[n]; there {
			t.Errorf("%s and %s have one normal form", s, other)
		}
		seen[n] = s
	}
}
