package resolve_test

import (
	"math/rand"
	"regexp"
	"strconv"
	"strings"
	"testing"
	"unsafe"

	"inlay/api"
	"inlay/resolve"
	"inlay/samples"
	"inlay/uri"
)

const (
	mostURI = 1024
	page    = "http://a/b/c/d;p?q"
)

// split takes a reference apart, without what is ignored, in the way of RFC 3986, appendix B; all of these can be missing, but for the path.
var split = regexp.MustCompile(`(?s)\A(?:([A-Za-z][A-Za-z0-9+.-]*):)?(//[^/?]*)?([^?]*)(\?.*)?\z`)

// An answer is what Ref answers.
type answer struct {
	u api.URI
	e api.Errno
}

var (
	arg  = answer{e: api.ErrArg}
	long = answer{e: api.ErrLong}
	form = answer{e: api.ErrForm}
)

func (a answer) told() string {
	return told(a.u) + ", error " + strconv.Itoa(int(a.e))
}

func told(u api.URI) string {
	return cut(u.Scheme) + " " + cut(u.Host) + " " + strconv.Itoa(u.Port) + " " + cut(u.Path) + " " + strconv.FormatBool(u.HasQuery) + " " + cut(u.Query)
}

func cut(s string) string {
	return strconv.Quote(s[:min(len(s), 80)]) + " of " + strconv.Itoa(len(s))
}

// address answers what s is the text of.
func address(t *testing.T, s string) api.URI {
	t.Helper()
	u, e := uri.Parse(s)
	if e != api.OK {
		t.Fatalf("Parse(%s): error %d", cut(s), e)
	}
	return u
}

// to answers what is to come of a reference whose target is s: a text in normal form.
func to(t *testing.T, s string) answer {
	t.Helper()
	return answer{u: address(t, s)}
}

func ref(base api.URI, s string) (a answer) {
	a.u, a.e = resolve.Ref(base, s)
	return a
}

func want(t *testing.T, base api.URI, s string, want answer) {
	t.Helper()
	if got := ref(base, s); got != want {
		t.Errorf("Ref(%s, %s) = %s; want %s", told(base), cut(s), got.told(), want.told())
	}
}

// wantEach holds each reference, for the base, against the text of its target; "" stands for ErrForm.
func wantEach(t *testing.T, base string, targets map[string]string) {
	t.Helper()
	for s, target := range targets {
		if target == "" {
			want(t, address(t, base), s, form)
		} else {
			want(t, address(t, base), s, to(t, target))
		}
		wantAll(t, address(t, base), s)
	}
}

// defined: P10.1, in the order of the promise, and in the way of RFC 3986, 5.2.2 and 5.3.
func defined(base api.URI, s string) answer {
	switch {
	case len(s) > mostURI:
		return long
	case uri.Check(base) != api.OK:
		return arg
	}
	s, _, _ = strings.Cut(s, "#")
	parts := split.FindStringSubmatch(s)
	scheme, authority, path, query := strings.ToLower(parts[1]), parts[2], parts[3], parts[4]
	if scheme != "" && (authority == "" || scheme != "http" && scheme != "https") {
		return form
	}
	var u api.URI
	var e api.Errno
	if authority != "" {
		if scheme == "" {
			scheme = base.Scheme
		}
		u, e = uri.Parse(scheme + ":" + authority + path + query)
	} else {
		u = within(base, path, query)
		e = uri.Check(u)
	}
	if e != api.OK {
		return answer{e: e}
	}
	return answer{u: uri.Normal(u)}
}

// within answers where path and query lead, at the base's own place; query begins with its mark, if there is one.
func within(base api.URI, path, query string) api.URI {
	u := base
	if path != "" || query != "" {
		u.Query, u.HasQuery = strings.CutPrefix(query, "?")
	}
	switch {
	case path == "":
	case path[0] == '/':
		u.Path = path
	default:
		folders := strings.Split(base.Path, "/")
		folders[len(folders)-1] = path
		u.Path = strings.Join(folders, "/")
	}
	return u
}

// wantAll holds s against the definition, and P10.2 besides.
func wantAll(t *testing.T, base api.URI, s string) {
	t.Helper()
	want(t, base, s, defined(base, s))
	got := ref(base, s)
	if got.e != api.OK {
		return
	}
	if e := uri.Check(got.u); e != api.OK || uri.Normal(got.u) != got.u {
		t.Errorf("Ref(%s, %s) = %s is not valid and normal", told(base), cut(s), got.told())
	}
	want(t, got.u, "", got)
	want(t, base, uri.Put(got.u), got)
	want(t, base, "", answer{u: uri.Normal(base)})
}

// TestExamples: the chapter's, word for word.
func TestExamples(t *testing.T) {
	wantEach(t, page, map[string]string{
		"g": "http://a/b/c/g", "./g": "http://a/b/c/g", "g/": "http://a/b/c/g/", "/g": "http://a/g", "//g": "http://g/",
		"?y": "http://a/b/c/d;p?y", "g?y": "http://a/b/c/g?y", "": "http://a/b/c/d;p?q", "#s": "http://a/b/c/d;p?q", ";x": "http://a/b/c/;x",
		".": "http://a/b/c/", "./": "http://a/b/c/", "..": "http://a/b/", "../": "http://a/b/", "../g": "http://a/b/g", "../..": "http://a/", "../../../g": "http://a/g",
		"g:h": "", "http:g": "", "HTTP://G": "http://g/", "//g:99": "http://g:99/", "/a b": "", "%zz": "",
	})
}

// TestExamplesOfRFC: P10.3, RFC 3986, 5.4.1 and 5.4.2, all of them.
func TestExamplesOfRFC(t *testing.T) {
	wantEach(t, page, map[string]string{
		"g:h": "", "g": "http://a/b/c/g", "./g": "http://a/b/c/g", "g/": "http://a/b/c/g/", "/g": "http://a/g", "//g": "http://g/",
		"?y": "http://a/b/c/d;p?y", "g?y": "http://a/b/c/g?y", "#s": "http://a/b/c/d;p?q", "g#s": "http://a/b/c/g", "g?y#s": "http://a/b/c/g?y",
		";x": "http://a/b/c/;x", "g;x": "http://a/b/c/g;x", "g;x?y#s": "http://a/b/c/g;x?y", "": "http://a/b/c/d;p?q",
		".": "http://a/b/c/", "./": "http://a/b/c/", "..": "http://a/b/", "../": "http://a/b/", "../g": "http://a/b/g", "../..": "http://a/", "../../": "http://a/", "../../g": "http://a/g",
	})
	wantEach(t, page, map[string]string{
		"../../../g": "http://a/g", "../../../../g": "http://a/g", "/./g": "http://a/g", "/../g": "http://a/g", "g.": "http://a/b/c/g.", ".g": "http://a/b/c/.g", "g..": "http://a/b/c/g..", "..g": "http://a/b/c/..g",
		"./../g": "http://a/b/g", "./g/.": "http://a/b/c/g/", "g/./h": "http://a/b/c/g/h", "g/../h": "http://a/b/c/h", "g;x=1/./y": "http://a/b/c/g;x=1/y", "g;x=1/../y": "http://a/b/c/y",
		"g?y/./x": "http://a/b/c/g?y/./x", "g?y/../x": "http://a/b/c/g?y/../x", "g#s/./x": "http://a/b/c/g", "g#s/../x": "http://a/b/c/g", "http:g": "",
	})
}

// TestSchemes: rule 1, and what has no scheme although there is a colon.
func TestSchemes(t *testing.T) {
	wantEach(t, page, map[string]string{
		"http://x": "http://x/", "https://x/": "https://x/", "hTTp://x?y": "http://x/?y", "HTTPS://X:443/%7e/../A": "https://x/A", "http://x:80/": "http://x/", "https://x:80/": "https://x:80/", "http://x/?": "http://x/?", "http://x#//y": "http://x/",
		"http:": "", "https:": "", "http:/g": "", "http:/": "", "http://": "", "http:///g": "", "http://?": "", "http:?y": "", "http:g://x/": "", "http:/://x/": "", "http:#//x": "", "http://x:0/": "", "http://x:/": "", "http://u@x/": "", "http://x/ ": "",
		"a:": "", "a://x/": "", "ftp://x/": "", "httpx://x/": "", "htt://x/": "", "mailto:a": "", "A+-.9:b": "", "z9:": "", "javascript:x()": "", "http+://x/": "", "http.://x/": "", "https-://x/": "", "httpss://x/": "",
		// Without a letter ahead, or with other bytes ahead of the colon, it is a path.
		":": "http://a/b/c/:", ":g": "http://a/b/c/:g", "://x/": "http://a/b/c/://x/", "1:g": "http://a/b/c/1:g", "+a:g": "http://a/b/c/+a:g", "-:g": "http://a/b/c/-:g", ".:g": "http://a/b/c/.:g", "..:/g": "http://a/b/c/..:/g",
		"a_b:g": "http://a/b/c/a_b:g", "a~:g": "http://a/b/c/a~:g", "a%62:g": "http://a/b/c/ab:g", "%61:g": "http://a/b/c/a:g", "a,b:g": "http://a/b/c/a,b:g", "a@b:g": "http://a/b/c/a@b:g", "a/b:g": "http://a/b/c/a/b:g", "./a:g": "http://a/b/c/a:g", "_http://x/": "http://a/b/c/_http://x/",
		"/a:g": "http://a/a:g", "/http://x/": "http://a/http://x/", "?a:g": "http://a/b/c/d;p?a:g", "?http://x/": "http://a/b/c/d;p?http://x/", "#a:g": "http://a/b/c/d;p?q", "a#:g": "http://a/b/c/a", "a?:g": "http://a/b/c/a?:g",
		"h\xc5\xbfttp://x/": "", " http://x/": "", "http ://x/": "", "http\x00://x/": "", "http://x/\n": "", "\xffhttp://x/": "",
	})
}

// TestAuthorities: rule 2: the scheme is the base's, and nothing else of it.
func TestAuthorities(t *testing.T) {
	targets := map[string]string{
		"//x": "://x/", "//x/": "://x/", "//X?y": "://x/?y", "//x:99/%7e/../g?": "://x:99/g?", "//x/a/..//b/.": "://x//b/", "//x#/y": "://x/", "//x.y-z:1?#": "://x.y-z:1/?", "//x/http://y": "://x/http://y",
		"//": "", "///": "", "///g": "", "////": "", "//?y": "", "//#x": "", "//:99": "", "//x:": "", "//x:0": "", "//x:099/": "", "//x:65536": "", "//u@x": "", "//x y": "", "//x/%": "", "//x?%zz": "", "//x_y": "", "//http://x/": "",
	}
	for _, scheme := range []string{"http", "https"} {
		here := map[string]string{}
		for s, target := range targets {
			here[s] = ""
			if target != "" {
				here[s] = scheme + target
			}
		}
		wantEach(t, scheme+"://h:81/b/c?q", here)
	}
	// The port that the scheme has by itself is the base's scheme's.
	wantEach(t, "http://a/", map[string]string{"//x:80": "http://x/", "//x:443": "http://x:443/"})
	wantEach(t, "https://a/", map[string]string{"//x:443": "https://x/", "//x:80": "https://x:80/"})
}

// TestPlaces: rule 3: scheme, host and port are the base's; what of the path and the query is.
func TestPlaces(t *testing.T) {
	wantEach(t, "https://A.b:99/x/%7Ey/z?%61=/../%2f", map[string]string{
		"": "https://a.b:99/x/~y/z?a=/../%2F", "#": "https://a.b:99/x/~y/z?a=/../%2F", "#?a": "https://a.b:99/x/~y/z?a=/../%2F", "##": "https://a.b:99/x/~y/z?a=/../%2F",
		"?": "https://a.b:99/x/~y/z?", "??": "https://a.b:99/x/~y/z??", "?#a": "https://a.b:99/x/~y/z?", "?g/../h": "https://a.b:99/x/~y/z?g/../h", "?%67#": "https://a.b:99/x/~y/z?g", "?/": "https://a.b:99/x/~y/z?/", "?//g": "https://a.b:99/x/~y/z?//g",
		"/": "https://a.b:99/", "/?": "https://a.b:99/?", "/g#h": "https://a.b:99/g", "/g?h": "https://a.b:99/g?h", "/.": "https://a.b:99/", "/..//g": "https://a.b:99//g", "/g//": "https://a.b:99/g//", "/%2F/%2e%2e/%2e/": "https://a.b:99/", "/.//g": "https://a.b:99//g",
		"g": "https://a.b:99/x/~y/g", "g/h?i?j": "https://a.b:99/x/~y/g/h?i?j", "g?": "https://a.b:99/x/~y/g?", "%2e%2E/g": "https://a.b:99/x/g", "./?": "https://a.b:99/x/~y/?", "..?g": "https://a.b:99/x/?g", "g//h": "https://a.b:99/x/~y/g//h", ".//g": "https://a.b:99/x/~y//g", "z": "https://a.b:99/x/~y/z",
		"g h": "", "/ ": "", "?a b": "", "\\": "", "/g\\": "", "g\x00": "", "\xc3\xa9": "", "g?\xff": "", "[": "", "/%": "", "/%4": "", "?%4g": "", "g%": "", " ": "", "\t": "", "\n": "", "|": "", "g?^": "", "\"": "", "<g>": "", "{g}": "", "`": "",
		// What is ignored can be anything.
		"g# \x00\xff%": "https://a.b:99/x/~y/g", "#%zz": "https://a.b:99/x/~y/z?a=/../%2F",
	})
	// The base's last slash tells, and that one alone; points of the base count, escaped or not.
	wantEach(t, "http://a", map[string]string{"": "http://a/", "g": "http://a/g", "?y": "http://a/?y", "..": "http://a/", ".": "http://a/", "../g/": "http://a/g/"})
	wantEach(t, "http://a?", map[string]string{"": "http://a/?", "#": "http://a/?", "g": "http://a/g", "/": "http://a/", "?y": "http://a/?y"})
	wantEach(t, "http://a/b?c/d", map[string]string{"": "http://a/b?c/d", "g": "http://a/g", "./": "http://a/"})
	wantEach(t, "http://a//b//c", map[string]string{"": "http://a//b//c", "g": "http://a//b//g", "..": "http://a//b/", "../..": "http://a//", "../../..": "http://a/", "../../../g": "http://a/g"})
	wantEach(t, "http://a/b/..", map[string]string{"": "http://a/", "g": "http://a/b/g", "?y": "http://a/?y", ".": "http://a/b/", "../g": "http://a/g"})
	wantEach(t, "http://a/b/%2e./c/%2e", map[string]string{"": "http://a/c/", "g": "http://a/c/g", "../g": "http://a/g", "?y": "http://a/c/?y", "%2E": "http://a/c/"})
	wantEach(t, "http://a/b%2fc/d", map[string]string{"": "http://a/b%2Fc/d", "g": "http://a/b%2Fc/g", "..": "http://a/", "%2f..": "http://a/b%2Fc/%2F.."})
	wantEach(t, "http://A:80/b", map[string]string{"": "http://a/b", "g": "http://a/g", "/g": "http://a/g", "//x:80": "http://x/"})
	wantEach(t, "https://A:80/b", map[string]string{"": "https://a:80/b", "g": "https://a:80/g", "//x:80": "https://x:80/"})
}

// TestWhichErrorIsFirst: P10.1: ErrLong, then ErrArg, then those of the target.
func TestWhichErrorIsFirst(t *testing.T) {
	base := address(t, page)
	bad := []api.URI{
		{}, {Scheme: "ftp", Host: "a", Path: "/"}, {Scheme: "HTTP", Host: "a", Path: "/"}, {Scheme: "http", Path: "/"}, {Scheme: "http", Host: "a b", Path: "/"}, {Scheme: "http", Host: "a"}, {Scheme: "http", Host: "a", Path: "b"},
		{Scheme: "http", Host: "a", Path: "/%"}, {Scheme: "http", Host: "a", Path: "/", Port: -1}, {Scheme: "http", Host: "a", Path: "/", Port: 65536}, {Scheme: "http", Host: "a", Path: "/", Query: "q"}, {Scheme: "http", Host: "a", Path: "/", Query: "#", HasQuery: true},
		{Scheme: "http", Host: "a", Path: "/" + strings.Repeat("x", mostURI-len("http://a/")+1)}, {Scheme: "http", Host: "a", Path: strings.Repeat("/..", mostURI)},
	}
	for _, u := range bad {
		for _, s := range []string{"", "g", "/g", "//g", "?y", "#s", "http://g/", "g:h", "%zz", "//", "http:g", strings.Repeat("g", mostURI), "#" + strings.Repeat(" ", mostURI-1)} {
			want(t, u, s, arg)
		}
		for _, s := range []string{strings.Repeat("g", mostURI+1), "#" + strings.Repeat(" ", mostURI), "http://g/" + strings.Repeat("g", mostURI), strings.Repeat("%", 1<<20)} {
			want(t, u, s, long)
			want(t, base, s, long)
		}
	}
	// What has no target, or is not well formed, is so however long it would be.
	x := strings.Repeat("x", mostURI)
	for _, s := range []string{"g:" + x[:mostURI-2], "http:" + x[:mostURI-5], "x " + x[:mostURI-2], "?%" + x[:mostURI-2], "/%" + x[:mostURI-2], x[:mostURI-1] + "%", "http://g?%" + x[:mostURI-10], "http:///" + x[:mostURI-8], "ftp://g?" + x[:mostURI-8]} {
		want(t, base, s, form)
		wantAll(t, base, s)
	}
	// Rule 2 asks uri.Parse, whose first error is that of the length.
	want(t, base, "//g/ "+x[:mostURI-10], form)
	want(t, base, "//g/ "+x[:mostURI-9], long)
	want(t, base, "//"+x[:mostURI-2], long)
	want(t, base, "//"+x[:mostURI-7], form)
}

// TestLimits: P10.1, the longest reference, the longest target before it is made normal, and one beyond each.
func TestLimits(t *testing.T) {
	x := func(n int) string { return strings.Repeat("x", n) }
	base := address(t, page)
	for s, a := range map[string]answer{
		// All of the reference counts, with what is ignored.
		"#" + x(mostURI-1): to(t, page), "#" + x(mostURI): long, "g#" + x(mostURI-2): to(t, "http://a/b/c/g"), "g#" + x(mostURI-1): long, "g?y#" + x(mostURI-3): long,
		"http://g/#" + x(mostURI-10): to(t, "http://g/"), "http://g/#" + x(mostURI-9): long, "//g#" + x(mostURI-4): to(t, "http://g/"), "//g#" + x(mostURI-3): long,
		// Rule 1.
		"http://g/" + x(mostURI-9): to(t, "http://g/"+x(mostURI-9)), "http://g/" + x(mostURI-8): long, "http://g?" + x(mostURI-10): to(t, "http://g/?"+x(mostURI-10)), "http://g?" + x(mostURI-9): long,
		"HTTPS://g:1?" + x(mostURI-13): to(t, "https://g:1/?"+x(mostURI-13)), "HTTPS://g:1?" + x(mostURI-12): long,
		// Rule 2, with the scheme of the base.
		"//g/" + x(mostURI-9): to(t, "http://g/"+x(mostURI-9)), "//g/" + x(mostURI-8): long, "//g?" + x(mostURI-10): to(t, "http://g/?"+x(mostURI-10)), "//g?" + x(mostURI-9): long, "//g/" + x(mostURI-10) + "#": to(t, "http://g/"+x(mostURI-10)), "//g/" + x(mostURI-9) + "#": to(t, "http://g/"+x(mostURI-9)),
		// Rule 3, with what is kept of the base.
		"/" + x(mostURI-9): to(t, "http://a/"+x(mostURI-9)), "/" + x(mostURI-8): long, x(mostURI - 13): to(t, "http://a/b/c/"+x(mostURI-13)), x(mostURI - 12): long, "?" + x(mostURI-17): to(t, "http://a/b/c/d;p?"+x(mostURI-17)), "?" + x(mostURI-16): long,
		x(mostURI): long, x(mostURI + 1): long, x(1 << 20): long,
		// Before it is made normal: what would become shorter is too long.
		strings.Repeat("../", 337): to(t, "http://a/"), strings.Repeat("../", 337) + "..": long, strings.Repeat("%61", 337): to(t, "http://a/b/c/"+strings.Repeat("a", 337)), strings.Repeat("%61", 338): long,
		"/" + strings.Repeat("./", 507) + "x": to(t, "http://a/x"), "/" + strings.Repeat("./", 507) + "xx": long, "//g:80/" + x(mostURI-12): to(t, "http://g/"+x(mostURI-12)), "//g:80/" + x(mostURI-11): long,
	} {
		want(t, base, s, a)
		wantAll(t, base, s)
	}
	most := address(t, "http://a/"+x(mostURI-10)+"/")
	want(t, most, "", answer{u: most})
	want(t, most, "#", answer{u: most})
	want(t, most, ".", long)
	want(t, most, "?", long)
	want(t, most, "/g", to(t, "http://a/g"))
	want(t, most, "//g", to(t, "http://g/"))
	want(t, most, "x%", form)
	// The port of the base counts, although the target has none.
	port := address(t, "http://a:80/")
	want(t, port, x(mostURI-12), to(t, "http://a/"+x(mostURI-12)))
	want(t, port, x(mostURI-11), long)
	query := address(t, "http://a/?"+x(mostURI-10))
	want(t, query, "", answer{u: query})
	want(t, query, "?", to(t, "http://a/?"))
	want(t, query, x(mostURI-9), to(t, "http://a/"+x(mostURI-9)))
}

// TestTextsOfAddresses: P10.2: the text of a valid address leads there, in normal form, whatever the base is; the empty reference leads to the base.
func TestTextsOfAddresses(t *testing.T) {
	texts := []string{
		page, "http://a/", "https://a", "http://a?", "HTTP://A/", "https://A.b:443/%7e/../%2f?%7e", "http://a:80", "http://a//", "http://a/..", "http://a/%2e%2e/b/.", "https://x:65535/?a=/../b", "http://-/;x", "http://a/://b", "http://a?http://b/", "http://a:443/",
		"http://a/" + strings.Repeat("x", mostURI-9), "http://" + strings.Repeat("a", 253) + "/",
	}
	for _, a := range texts {
		base, e := uri.Parse(a)
		if e != api.OK {
			continue
		}
		want(t, base, "", answer{u: uri.Normal(base)})
		want(t, base, "#"+a[:min(len(a), mostURI-1)], answer{u: uri.Normal(base)})
		for _, b := range texts {
			wantAll(t, base, b)
			if u, e := uri.Parse(b); e == api.OK {
				want(t, base, uri.Put(u), answer{u: uri.Normal(u)})
			}
		}
	}
}

// TestEachByte: P10.1, every byte at every place of a reference: put there, and in place of what stood there.
func TestEachByte(t *testing.T) {
	base := address(t, "https://h:8/b/c?q")
	for _, s := range []string{"HTTP://x/y?z#", "//x:1/y?z", "/x/../y?z", "a/./b?c#d", "ab:c", "?x", ""} {
		samples.Spoilt(s, func(s string) { wantAll(t, base, s) })
	}
}

// TestByDefinition: P10.1, P10.2, every reference of few pieces.
func TestByDefinition(t *testing.T) {
	base := address(t, "https://h:8/b/./c/d?q/r")
	bare := address(t, "http://h")
	samples.Words([]string{"http", "HTTPS", ":", "/", "//", "?", "#", "a", "9", "+", "..", ".", "%2e", "%", ";"}, 4, func(s string) {
		wantAll(t, base, s)
		wantAll(t, bare, s)
	})
}

// TestRandom: P10.1, P10.2, longer ones, for bases of all kinds.
func TestRandom(t *testing.T) {
	r := rand.New(rand.NewSource(10))
	text := func(n int, pieces ...string) string {
		var out strings.Builder
		for range r.Intn(n) {
			out.WriteString(pieces[r.Intn(len(pieces))])
		}
		return out.String()
	}
	for range 40000 {
		base := api.URI{Scheme: "http", Host: "a" + text(3, "B", "-", "."), Path: "/" + text(8, "a", "/", "/../", "/./", "%2e", "%2F", ";", ":")}
		if r.Intn(2) == 0 {
			base.Scheme = "https"
		}
		if r.Intn(2) == 0 {
			base.Port = []int{80, 443, 1, 65535}[r.Intn(4)]
		}
		if r.Intn(2) == 0 {
			base.Query, base.HasQuery = text(4, "q", "/", "?", "%7e", ".."), true
		}
		wantAll(t, base, text(9, "a", "/", "/", "..", "../", "./", "?", "#", ":", "%2E", "%2f", "http:", "Z", "@", " "))
	}
}

// TestMemory: P10.4: an answer shares no memory with what was handed in, which stays as it was.
func TestMemory(t *testing.T) {
	for _, s := range []string{"", "g", "g?y", "/long/path?query", "//host/path?query", "HTTP://host/path?query", "?query", "#s"} {
		base := address(t, "https://base.host:8/base/path?base-query")
		same, spare := base, strings.Clone(s)
		u, e := resolve.Ref(base, s)
		if e != api.OK || base != same || s != spare {
			t.Errorf("Ref(base, %q): error %d, and the base is %s", s, e, told(base))
		}
		for _, out := range []string{u.Scheme, u.Host, u.Path, u.Query} {
			for _, in := range []string{base.Scheme, base.Host, base.Path, base.Query, s} {
				if shared(out, in) {
					t.Errorf("Ref(base, %q): %q shares the memory of %q", s, out, in)
				}
			}
		}
	}
}

// shared tells whether two texts have a byte of memory in common.
func shared(a, b string) bool {
	if a == "" || b == "" {
		return false
	}
	x, y := uintptr(unsafe.Pointer(unsafe.StringData(a))), uintptr(unsafe.Pointer(unsafe.StringData(b)))
	return x < y+uintptr(len(b)) && y < x+uintptr(len(a))
}
