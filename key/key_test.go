package key_test

import (
	"fmt"
	"math"
	"math/rand"
	"reflect"
	"slices"
	"strings"
	"testing"
	"unsafe"

	"inlay/api"
	"inlay/key"
	"inlay/samples"
	"inlay/uri"
)

const mostURI = 1024

// address answers what s is the text of.
func address(t *testing.T, s string) api.URI {
	t.Helper()
	u, e := uri.Parse(s)
	if e != api.OK {
		t.Fatalf("Parse(%.90q): error %d", s, e)
	}
	return u
}

// told answers what a failed test says of u.
func told(u api.URI) string {
	return fmt.Sprintf("{%.90q %.90q %d %.90q %t %.90q}", u.Scheme, u.Host, u.Port, u.Path, u.HasQuery, u.Query)
}

func changed(status int, pairs ...string) api.Reply {
	return api.Reply{Status: status, Fields: samples.Fields(pairs...)}
}

// wantKey holds the key of u: GET and HEAD have it, and no other method; of none, no reply makes anything go.
func wantKey(t *testing.T, u api.URI, want string) {
	t.Helper()
	for _, method := range []string{"GET", "HEAD"} {
		if got := key.Of(method, u); got != want {
			t.Errorf("Of(%s, %s) = %.90q; want %.90q", method, told(u), got, want)
		}
	}
	for _, method := range []string{"", "get", "POST", "PUT"} {
		if got := key.Of(method, u); got != "" {
			t.Errorf("Of(%q, %s) = %.90q", method, told(u), got)
		}
	}
	if want == "" {
		wantGone(t, u, changed(204, "Location", "http://a/b", "Content-Location", "/c"))
		return
	}
	wantGone(t, u, changed(204), want)
	wantGone(t, u, changed(204, "Location", "", "Content-Location", want), want)
	// A key is the text of an address that has this key.
	again := address(t, want)
	if uri.Normal(again) != again || key.Of("GET", again) != want {
		t.Errorf("the key %.90q has the key %.90q", want, key.Of("GET", again))
	}
}

// wantGone holds the keys that go; a reply's reason, version and body make no difference, nor do other fields.
func wantGone(t *testing.T, u api.URI, rep api.Reply, want ...string) {
	t.Helper()
	others := samples.Fields("Locations", "/v", "Content-Locatio", "/w", "Content_Location", "/x", "URI", "/y", "Link", "</z>", "", "/", "location ", "/")
	for _, r := range []api.Reply{rep, {Status: rep.Status, Reason: "Location: /x", Minor: 1, Fields: slices.Concat(others, rep.Fields, others), Body: "Location: /x"}} {
		if got := key.Gone(u, r); !slices.Equal(got, want) {
			t.Errorf("Gone(%s, %d %s) = %.90q; want %.90q", told(u), r.Status, samples.Told(r.Fields), got, want)
		}
	}
}

// wantTarget holds what goes by a field that has the value: the key of u, and want, unless that is empty.
func wantTarget(t *testing.T, u api.URI, value, want string) {
	t.Helper()
	keys := []string{key.Of("GET", u)}
	if want != "" {
		keys = append(keys, want)
	}
	for _, name := range []string{"location", "Content-Location"} {
		wantGone(t, u, changed(200, name, value), keys...)
		wantGone(t, u, changed(200, name, value, name, "//", name, value), keys...)
	}
	wantGone(t, u, changed(200, "CONTENT-LOCATION", value, "LOCATION", value), keys...)
}

// TestExamples: P17.1, P17.2, the chapter's examples.
func TestExamples(t *testing.T) {
	wantKey(t, address(t, "http://A:80/x/../y?"), "http://a/y?")
	wantKey(t, api.URI{}, "")
	wantUnsafe(t, "PATCH", true)
	wantUnsafe(t, "patch", false)
	wantUnsafe(t, "GET", false)
	u := address(t, "http://a/b")
	fields := []string{"location", "/c", "content-location", "d", "Location", "http://x/"}
	wantGone(t, u, changed(201, fields...), "http://a/b", "http://a/c", "http://a/d")
	wantGone(t, u, changed(400, fields...))
	wantGone(t, u, changed(204, "location", "b"), "http://a/b")
}

func wantUnsafe(t *testing.T, method string, want bool) {
	t.Helper()
	if got := key.Unsafe(method); got != want {
		t.Errorf("Unsafe(%.90q) = %t", method, got)
	}
}

// TestMethods: P17.1, methods as they are written, and all that are nearly so.
func TestMethods(t *testing.T) {
	u := address(t, "http://a/")
	want := func(method string, stored, unsafe bool) {
		t.Helper()
		wantUnsafe(t, method, unsafe)
		if got := key.Of(method, u) != ""; got != stored {
			t.Errorf("Of(%.90q) answers a key: %t", method, got)
		}
	}
	known := map[string]bool{"GET": true, "HEAD": true, "POST": false, "PUT": false, "DELETE": false, "PATCH": false}
	for method, stored := range known {
		want(method, stored, !stored)
		samples.EachByte(func(_ byte, s string) {
			for i := range len(method) + 1 {
				want(method[:i]+s+method[i:], false, false)
				if i < len(method) {
					want(method[:i]+method[i+1:], false, false)
					other := method[:i] + s + method[i+1:]
					_, same := known[other]
					want(other, same && known[other], same && !known[other])
				}
			}
		})
	}
	for _, method := range []string{"", "OPTIONS", "TRACE", "CONNECT", "PURGE", "*", "GETGET", "GET HEAD", "POSTPUT", strings.Repeat("GET", 1<<16)} {
		want(method, false, false)
	}
}

// TestKeys: P17.1, P17.3, the keys of addresses.
func TestKeys(t *testing.T) {
	for s, want := range map[string]string{
		"http://a": "http://a/", "http://a/": "http://a/", "http://a?": "http://a/?", "https://a": "https://a/", "http://A.b-C": "http://a.b-c/", "http://a./": "http://a./", "http://127.0.0.1/": "http://127.0.0.1/",
		"http://a:80/": "http://a/", "http://a:443/": "http://a:443/", "https://a:443/": "https://a/", "https://a:80/": "https://a:80/", "http://a:8080": "http://a:8080/", "http://a:1/": "http://a:1/", "http://a:65535/": "http://a:65535/",
		"http://a/B": "http://a/B", "http://a/%42": "http://a/B", "http://a/%2f%2F": "http://a/%2F%2F", "http://a/%7E?%7e%c3": "http://a/~?~%C3", "http://a/;p=1?a=b&c?/": "http://a/;p=1?a=b&c?/", "http://a/b+c?d+e": "http://a/b+c?d+e", "http://a/%2B": "http://a/%2B",
		"http://a/.": "http://a/", "http://a/..": "http://a/", "http://a/b/..": "http://a/", "http://a/b/.": "http://a/b/", "http://a/b/%2E%2e/c": "http://a/c", "http://a//": "http://a//", "http://a/b//../c": "http://a/b/c", "http://a/.../b": "http://a/.../b", "http://a?/../b": "http://a/?/../b",
	} {
		wantKey(t, address(t, s), want)
	}
}

// TestNoKeys: P17.1, P17.2, what is not valid has no key, and nothing goes by it.
func TestNoKeys(t *testing.T) {
	valid := api.URI{Scheme: "http", Host: "a", Port: 80, Path: "/b", Query: "c", HasQuery: true}
	wantKey(t, valid, "http://a/b?c")
	for _, spoil := range []func(u *api.URI){
		func(u *api.URI) { u.Scheme = "" }, func(u *api.URI) { u.Scheme = "HTTP" }, func(u *api.URI) { u.Scheme = "ftp" }, func(u *api.URI) { u.Scheme = "http:" },
		func(u *api.URI) { u.Host = "" }, func(u *api.URI) { u.Host = "a_b" }, func(u *api.URI) { u.Host = "a:1" }, func(u *api.URI) { u.Host = strings.Repeat("a", 254) }, func(u *api.URI) { u.Host = "\xff" },
		func(u *api.URI) { u.Port = -1 }, func(u *api.URI) { u.Port = 65536 }, func(u *api.URI) { u.Port = math.MaxInt }, func(u *api.URI) { u.Port = math.MinInt },
		func(u *api.URI) { u.Path = "" }, func(u *api.URI) { u.Path = "b" }, func(u *api.URI) { u.Path = "/?" }, func(u *api.URI) { u.Path = "/%4" }, func(u *api.URI) { u.Path = "/ " },
		func(u *api.URI) { u.Query = "#" }, func(u *api.URI) { u.Query = "%" }, func(u *api.URI) { u.HasQuery = false },
	} {
		u := valid
		spoil(&u)
		wantKey(t, u, "")
	}
}

// TestLimit: P17.1, P17.2, the longest address; what becomes short enough only in its normal form is not valid.
func TestLimit(t *testing.T) {
	x := func(n int) string { return strings.Repeat("x", n) }
	most := address(t, "http://a/"+x(mostURI-9))
	wantKey(t, most, "http://a/"+x(mostURI-9))
	more := most
	more.Path += "x"
	wantKey(t, more, "")
	port := api.URI{Scheme: "http", Host: "a", Port: 80, Path: "/" + x(mostURI-12)}
	wantKey(t, port, "http://a/"+x(mostURI-12))
	port.Path += "x"
	wantKey(t, port, "")
	dots := api.URI{Scheme: "http", Host: "a", Path: "/" + strings.Repeat("../", 338) + "x"}
	wantKey(t, dots, "http://a/x")
	dots.Path += "x"
	wantKey(t, dots, "")
	wantKey(t, api.URI{Scheme: "http", Host: strings.Repeat("A", 253), Path: "/"}, "http://"+strings.Repeat("a", 253)+"/")

	// So it is with what the fields say.
	u := address(t, "http://a/b/c")
	wantTarget(t, u, x(mostURI-11), "http://a/b/"+x(mostURI-11))
	wantTarget(t, u, x(mostURI-10), "")
	wantTarget(t, u, "/"+x(mostURI-9), "http://a/"+x(mostURI-9))
	wantTarget(t, u, "/"+x(mostURI-8), "")
	wantTarget(t, u, "/x#"+x(mostURI-3), "http://a/x")
	wantTarget(t, u, "/x#"+x(mostURI-2), "")
	wantTarget(t, u, "http://a:80/"+x(mostURI-12), "http://a/"+x(mostURI-12))
	wantTarget(t, u, "http://a:80/"+x(mostURI-11), "")
	wantTarget(t, most, "?", "")
	wantTarget(t, most, "/?", "http://a/?")
}

// TestStatus: P17.2, the statuses by which something goes.
func TestStatus(t *testing.T) {
	u := address(t, "http://a/b")
	for status := -1000; status <= 2000; status++ {
		want := []string{"http://a/b", "http://a/c"}
		if status < 200 || status > 399 {
			want = nil
		}
		wantGone(t, u, changed(status, "Location", "c"), want...)
	}
	for _, status := range []int{math.MinInt, math.MinInt32, 1<<32 + 200, math.MaxInt32, math.MaxInt} {
		wantGone(t, u, changed(status, "Location", "c"))
	}
}

// TestTargets: P17.2, what a field's value leads to, by the address as it stands.
func TestTargets(t *testing.T) {
	for base, targets := range map[string]map[string]string{
		"http://a/b/c?d": {
			"": "", "c": "http://a/b/c", "c?d": "", "c?": "http://a/b/c?", "?": "http://a/b/c?", "?d": "", "?e": "http://a/b/c?e", "/": "http://a/", "/c": "http://a/c", "//a": "http://a/", "//a/x": "http://a/x", "http://a": "http://a/", "HTTP://A:80/%78": "http://a/x", "x/../y/.": "http://a/b/y/", "..": "http://a/", "../../x": "http://a/x", ".": "http://a/b/",
			"#x": "", "c?d#x": "", "x#y": "http://a/b/x", "/%2f?%2f": "http://a/%2F?%2F", "./http:g": "http://a/b/http:g", "x,y": "http://a/b/x,y", "/x,": "http://a/x,",
			// No targets.
			"//": "", "http:": "", "http:x": "", "http:///x": "", "mailto:a": "", "ftp://a/x": "", "x y": "", " x": "", "x ": "", "<x>": "", "\"x\"": "", "%": "", "/%4": "", "\xc3\xa9": "", "/x\x00": "", "http://a:080/x": "", "http://u@a/x": "", "http://a:65536/": "", ":x": "http://a/b/:x",
			// Other origins.
			"https://a/x": "", "https://a:80/x": "", "https://a/b/c?d": "", "http://a:81/x": "", "http://a:443/x": "", "//a:81/x": "", "//b/x": "", "http://aa/x": "", "http://a./x": "", "http://a.a/x": "", "http://b/b/c?d": "",
		},
		"https://A:443/b": {"/c": "https://a/c", "https://a/c": "https://a/c", "//A/c": "https://a/c", "//a:443/c": "https://a/c", "https://a:443/%63": "https://a/c", "//a:80/c": "", "http://a/c": "", "http://a:443/c": "", "https://a:444/c": ""},
		"https://a:80/b":  {"/c": "https://a:80/c", "//a:80/c": "https://a:80/c", "//a/c": "", "http://a/c": "", "http://a:80/c": "", "https://a/c": ""},
		"http://a:8080/":  {"c": "http://a:8080/c", "//a:8080/c": "http://a:8080/c", "//a/c": "", "//a:80/c": "", "https://a:8080/c": "", "http://b:8080/c": ""},
		// The address counts as it stands, and not only its normal form.
		"http://a/b/c/..":    {"x": "http://a/b/c/x", "": "", ".": "http://a/b/c/", "../x": "http://a/b/x"},
		"http://a/b/%2E%2e":  {"x": "http://a/b/x", "../x": "http://a/x", "?": "http://a/?"},
		"http://a/b%2fc/%64": {"x": "http://a/b%2Fc/x", "d": ""},
		"http://A?%61":       {"": "", "?a": "", "?%61": "", "/?a": "", "/": "http://a/", "x": "http://a/x"},
	} {
		for value, want := range targets {
			wantTarget(t, address(t, base), value, want)
		}
	}
}

// TestOrder: P17.2, the order of the keys, each of them once, and no more than the two names.
func TestOrder(t *testing.T) {
	u := address(t, "http://a/0")
	for _, c := range []struct {
		pairs []string
		want  string
	}{
		{nil, "0"}, {[]string{"Location", "1"}, "01"}, {[]string{"Content-Location", "1"}, "01"},
		// Location is first, wherever it stands; those of a name are in their order.
		{[]string{"content-location", "1", "location", "2"}, "021"}, {[]string{"content-location", "3", "location", "2", "content-location", "1", "location", "4"}, "02431"}, {[]string{"location", "9", "location", "1", "location", "5"}, "0915"}, {[]string{"CONTENT-LOCATION", "9", "Content-location", "1", "cOnTeNt-LoCaTiOn", "5"}, "0915"}, {[]string{"lOCATION", "1", "LOCATION", "2", "location", "3"}, "0123"},
		// Once, and where it is first.
		{[]string{"location", "0"}, "0"}, {[]string{"location", "1", "location", "1"}, "01"}, {[]string{"location", "1", "content-location", "1"}, "01"}, {[]string{"content-location", "1", "location", "2", "content-location", "2", "location", "1"}, "021"}, {[]string{"location", "1", "location", "2", "location", "1", "location", "3", "location", "0"}, "0123"}, {[]string{"location", "/1", "location", "%31", "location", "./1", "location", "http://A:80/1#2", "location", "x/../1"}, "01"},
		// What leads nowhere, or elsewhere, does not end it; a value is one reference, no list of them.
		{[]string{"location", "//", "location", "1", "location", "//b", "content-location", "a b", "content-location", "2"}, "012"}, {[]string{"location", "1, 2", "location", "3"}, "03"},
		{[]string{"x", "1", "location", "2", "contentlocation", "3", "", "4", "locatio", "5", "location:", "6", "\xff", "7"}, "02"},
	} {
		var want []string
		for _, digit := range c.want {
			want = append(want, "http://a/"+string(digit))
		}
		wantGone(t, u, changed(303, c.pairs...), want...)
	}
	var pairs, want []string
	samples.Words([]string{"a", "b", "c"}, 7, func(s string) {
		pairs = append(pairs, "Location", "/"+s, "Content-Location", "//b/"+s, "location", "/"+s)
		want = append(want, "http://a/"+s)
	})
	wantGone(t, address(t, "http://a"), changed(200, pairs...), want...)
}

// TestSameKeys: P17.3, two addresses have the same key exactly if they have the same normal form.
func TestSameKeys(t *testing.T) {
	var all []api.URI
	for _, scheme := range []string{"http", "https"} {
		for _, place := range []string{"a", "A", "b", "a:80", "a:443", "a:8"} {
			for _, rest := range []string{"", "/", "?", "/?", "//", "/.", "/b", "/B", "/%62", "/%42", "/b/", "/b/.", "/b/c/..", "/%2f", "/%2F", "/b?c", "/b?C", "/b?%63", "/b?c?", "/?b", "/b%3Fc", "/b%3fc"} {
				all = append(all, address(t, scheme+"://"+place+rest))
			}
		}
	}
	for _, u := range all {
		for _, v := range all {
			same := uri.Normal(u) == uri.Normal(v)
			if got := key.Of("GET", u) == key.Of("HEAD", v); got != same {
				t.Errorf("%s and %s have the same key: %t", told(u), told(v), got)
			}
		}
	}
}

// A place is an address as its key tells it: the segments of its path behind the first slash are in normal form, and so is its query.
type place struct {
	scheme, host, port string
	segments           []string
	query              string
}

func (p place) text() string {
	return p.scheme + "://" + p.host + p.port + "/" + strings.Join(p.segments, "/") + p.query
}

// somePlace answers a place of few.
func somePlace(draw func(n int) int) place {
	p := place{
		scheme: samples.Pick(draw, "http", "https"),
		host:   samples.Pick(draw, "a", "b.c"),
		port:   samples.Pick(draw, "", "", ":8", ":65535"),
		query:  samples.Pick(draw, "", "", "?", "?a=~", "?%2F/../b"),
	}
	for range 1 + draw(3) {
		p.segments = append(p.segments, samples.Pick(draw, "", "a", "b.c~", "%2F%C3", "...", "A;b"))
	}
	return p
}

// authority answers where p is, in one of the ways to write it.
func (p place) authority(draw func(n int) int) string {
	usual := map[string]string{"http": ":80", "https": ":443"}[p.scheme]
	port := p.port
	if port == "" {
		port = samples.Pick(draw, "", usual)
	}
	return samples.Mixed(p.host, draw) + port
}

// rest answers the path and the query of p, in one of the ways to write them.
func (p place) rest(draw func(n int) int) string {
	out := ""
	for _, s := range p.segments {
		out += "/" + samples.Pick(draw, "", "", "", "./", "x/../", "%2E/", "x/y/.%2e/../") + escaped(s, draw)
	}
	if strings.HasSuffix(out, "/") {
		out += samples.Pick(draw, "", ".", "x/..")
	}
	return out + escaped(p.query[:min(1, len(p.query))], func(int) int { return 1 }) + escaped(p.query[min(1, len(p.query)):], draw)
}

// escaped answers s with escapes of some of its plain bytes, and with digits of escapes in any case.
func escaped(s string, draw func(n int) int) string {
	out := ""
	for i := 0; i < len(s); i++ {
		switch c := s[i]; {
		case c == '%':
			out += "%" + samples.Pick(draw, s[i+1:i+3], strings.ToLower(s[i+1:i+3]))
			i += 2
		case strings.IndexByte("abcA~.", c) >= 0 && draw(4) == 0:
			const digits = "0123456789abcdef"
			out += "%" + samples.Mixed(string([]byte{digits[c/16], digits[c%16]}), draw)
		default:
			out += string([]byte{c})
		}
	}
	return out
}

// target answers a place, and a reference that leads there from own.
func target(own place, draw func(n int) int) (place, string) {
	p := somePlace(draw)
	rest := p.rest(draw)
	switch {
	case draw(2) == 0 && !strings.HasPrefix(rest, "//"):
		p.scheme, p.host, p.port = own.scheme, own.host, own.port
		return p, rest
	case draw(2) == 0:
		p.scheme = own.scheme
		return p, "//" + p.authority(draw) + rest
	}
	return p, samples.Mixed(p.scheme, draw) + "://" + p.authority(draw) + rest
}

// TestSamples: P17.1, P17.2, P17.4, replies made of their meanings: nothing is read to say what is to come of them.
func TestSamples(t *testing.T) {
	random := rand.New(rand.NewSource(17))
	draw := random.Intn
	for range 30000 {
		own := somePlace(draw)
		u := address(t, own.scheme+"://"+own.authority(draw)+own.rest(draw))
		wantKey(t, u, own.text())
		want := []string{own.text()}
		var l []api.Field
		for _, name := range []string{"location", "content-location"} {
			for range draw(4) {
				p, value := target(own, draw)
				value += samples.Pick(draw, "", "", "#", "#/\xff?")
				l = append(l, api.Field{Name: samples.Mixed(name, draw), Value: value})
				if p.scheme == own.scheme && p.host == own.host && p.port == own.port && !slices.Contains(want, p.text()) {
					want = append(want, p.text())
				}
				if draw(4) == 0 {
					l = append(l, api.Field{Name: samples.Mixed(name, draw), Value: samples.Pick(draw, "//", "ftp:/x", "/ ", "%", "http:x")})
				}
			}
		}
		wantGone(t, u, api.Reply{Status: 200 + draw(200), Fields: l}, want...)
		wantGone(t, u, api.Reply{Status: samples.Pick(draw, 0, 199, 400, 500+draw(100)), Fields: l})
		if t.Failed() {
			return
		}
	}
}

// TestFirstAndOrigins: P17.4, the first key is that of the address itself, and the others have its origin, whatever the fields say.
func TestFirstAndOrigins(t *testing.T) {
	random := rand.New(rand.NewSource(174))
	pieces := []string{"http", "https", ":", "/", "//", "a", "b", "A", ":80", ":443", "..", "%61", "?", "#", " ", "x", "\xff"}
	for range 50000 {
		u := address(t, samples.Pick(random.Intn, "http", "https")+"://"+samples.Pick(random.Intn, "a", "b:80", "A:443", "a:9")+samples.Pick(random.Intn, "", "/", "/x/y?z"))
		var l []api.Field
		for range random.Intn(5) {
			value := ""
			for range random.Intn(8) {
				value += samples.Pick(random.Intn, pieces...)
			}
			l = samples.Inserted(random.Intn, l, samples.Pick(random.Intn, "location", "content-location"), value)
		}
		got := key.Gone(u, api.Reply{Status: 200, Fields: l})
		if len(got) == 0 || got[0] != key.Of("GET", u) {
			t.Fatalf("Gone(%s, %s) = %.90q", told(u), samples.Told(l), got)
		}
		own, _, _ := strings.Cut(strings.TrimPrefix(got[0], u.Scheme+"://"), "/")
		for i, k := range got {
			if !strings.HasPrefix(k, u.Scheme+"://"+own+"/") || slices.Contains(got[:i], k) {
				t.Errorf("Gone(%s, %s) = %.90q", told(u), samples.Told(l), got)
			}
		}
	}
}

// TestArgumentsStay: P17.1, P17.2: nothing that comes in is changed or kept, and an answer shares nothing with it or with another answer.
func TestArgumentsStay(t *testing.T) {
	u := address(t, "http://a/b")
	made := func() api.Reply {
		return changed(200, strings.Clone("Location"), strings.Clone("http://a/c"), "content-location", "d", "X", "e")
	}
	rep := made()
	first, second := key.Gone(u, rep), key.Gone(u, rep)
	if !reflect.DeepEqual(rep, made()) || u != address(t, "http://a/b") {
		t.Errorf("changed: %s, %s", told(u), samples.Told(rep.Fields))
	}
	for i := range first {
		if unsafe.StringData(first[i]) == unsafe.StringData(second[i]) {
			t.Errorf("the key %q has its place in another answer", first[i])
		}
	}
	if unsafe.StringData(first[1]) == unsafe.StringData(rep.Fields[0].Value) {
		t.Errorf("the key %q has its place in the reply", first[1])
	}
	clear(first[:cap(first)])
	rep.Fields[0].Value = "f"
	if want := []string{"http://a/b", "http://a/c", "http://a/d"}; !slices.Equal(second, want) {
		t.Errorf("changed: %q", second)
	}
	wantGone(t, u, rep, "http://a/b", "http://a/f", "http://a/d")
}

// TestAnyBytes: P17.1, P17.2, no call panics, whatever it is given, and each answers the same again.
func TestAnyBytes(t *testing.T) {
	random := rand.New(rand.NewSource(171))
	pieces := []string{"", "http", "https", "a", "/", "%", "%2e", "..", "?", "#", ":", " ", "\x00", "\xff", "\r\n", "GET", "PUT", strings.Repeat("x", 999)}
	drawn := func() string {
		out := ""
		for range random.Intn(4) {
			out += samples.Pick(random.Intn, pieces...)
		}
		return out
	}
	for range 50000 {
		u := api.URI{Scheme: drawn(), Host: drawn(), Port: samples.Pick(random.Intn, 0, 80, -1, 65536, math.MaxInt, math.MinInt), Path: drawn(), Query: drawn(), HasQuery: random.Intn(2) == 0}
		rep := changed(random.Intn(500), "location", drawn(), "content-location", drawn(), drawn(), drawn())
		if method := drawn(); key.Of(method, u) != key.Of(method, u) || key.Unsafe(method) != key.Unsafe(method) {
			t.Errorf("two answers for %.90q, %s", method, told(u))
		}
		wantGone(t, u, rep, key.Gone(u, rep)...)
		if uri.Check(u) != api.OK {
			wantKey(t, u, "")
		}
	}
}
