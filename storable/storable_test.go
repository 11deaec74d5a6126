package storable_test

import (
	"math"
	"math/rand"
	"reflect"
	"slices"
	"strings"
	"testing"
	"time"

	"inlay/api"
	"inlay/samples"
	"inlay/storable"
)

const (
	mostList = 64
	fixdate  = "Mon, 02 Jan 2006 15:04:05 GMT"
	rfc850   = "Monday, 02-Jan-06 15:04:05 GMT"
	asctime  = "Mon Jan _2 15:04:05 2006"
)

func written(tick int64, form string) string {
	return time.Unix(tick, 0).UTC().Format(form)
}

// A question is what May is asked.
type question struct {
	method string
	req    []api.Field
	api.Entry
	device string
}

// plain answers the question that the others are made of: all of it but the reply's fields allows storing.
func plain(pairs ...string) question {
	reply := api.Reply{Status: 200, Reason: "OK", Minor: 1, Fields: samples.Fields(pairs...), Body: "b"}
	return question{"GET", nil, api.Entry{Reply: reply, Asked: 100, Got: 110}, "d"}
}

// asked answers the same question with fields of the request.
func (q question) asked(pairs ...string) question {
	q.req = samples.Fields(pairs...)
	return q
}

// with answers the same question with further fields of the reply.
func (q question) with(pairs ...string) question {
	q.Reply.Fields = slices.Concat(q.Reply.Fields, samples.Fields(pairs...))
	return q
}

func (q question) to(device string) question {
	q.device = device
	return q
}

func (q question) want(t *testing.T, want bool) {
	t.Helper()
	if got := storable.May(q.method, q.req, q.Entry, q.device); got != want {
		t.Errorf("May(%q, %s, %d %s %d %d, %q) = %t", q.method, samples.Told(q.req), q.Reply.Status, samples.Told(q.Reply.Fields), q.Asked, q.Got, q.device, got)
	}
}

// TestExamples: P16.1, the chapter's examples.
func TestExamples(t *testing.T) {
	plain().want(t, false)
	plain("cache-control", "max-age=5").want(t, true)
	plain("cache-control", "max-age=0").want(t, false)
	plain("etag", `"a"`).want(t, true)
	plain("last-modified", "Sun, 06 Nov 1994 08:49:37 GMT").want(t, true)
	plain("etag", "a").want(t, false)
	plain("cache-control", "max-age=5, no-store").want(t, false)
	plain("cache-control", "private, max-age=5").want(t, false)
	plain("cache-control", `max-age=5, "a`).want(t, false)
	plain("surrogate-control", "max-age=5").want(t, true)
	plain("surrogate-control", "max-age=5, no-store;d").want(t, false)
	plain("surrogate-control", "max-age=5, no-store;e").want(t, true)
	plain("cache-control", "max-age=5", "vary", "*").want(t, false)
	plain("cache-control", "max-age=5", "vary", "a").want(t, true)
	plain("cache-control", "max-age=5").asked("authorization", "x").want(t, false)
	plain("cache-control", "max-age=5, public").asked("authorization", "x").want(t, true)
	found := plain("cache-control", "max-age=5")
	found.Reply.Status = 302
	found.want(t, false)
	head := plain("cache-control", "max-age=5")
	head.method = "HEAD"
	head.want(t, false)
	plain("cache-control", "max-age=5").asked("cache-control", "no-store").want(t, false)
}

// TestMethods: P16.1, GET alone, exactly as written.
func TestMethods(t *testing.T) {
	for _, method := range []string{"GET", "", "get", "Get", "GEt", "GET ", " GET", "GET\x00", "GETT", "GE", "G", "HEAD", "POST", "PUT", "PATCH", "DELETE", "OPTIONS", "TRACE", "CONNECT", "QUERY", "\xff"} {
		for _, q := range []question{plain("Cache-Control", "max-age=5, public, s-maxage=5"), plain("Surrogate-Control", "max-age=5"), plain("ETag", `"a"`)} {
			q.method = method
			q.want(t, method == "GET")
		}
	}
}

// TestStatuses: P16.1, four of all.
func TestStatuses(t *testing.T) {
	for _, q := range []question{plain("Cache-Control", "max-age=5, public, s-maxage=5"), plain("Surrogate-Control", "max-age=5"), plain("ETag", `"a"`)} {
		for status := -1000; status <= 1000; status++ {
			q.Reply.Status = status
			q.want(t, status == 200 || status == 301 || status == 404 || status == 410)
		}
		for _, status := range []int{math.MinInt, math.MaxInt, 1<<32 + 200, 1<<16 + 200, 1<<8 + 200, -200, 0} {
			q.Reply.Status = status
			q.want(t, false)
		}
	}
}

// Values of cache-control, and whether each has a no-store.
var noStores = map[string]bool{
	"no-store": true, "No-Store": true, "NO-STORE": true, "no-store, max-age=5": true, "max-age=5, no-store": true, "a, no-store, b": true, ",,no-store,": true, "\tno-store ": true, "no-store=x": true, `no-store=""`: true, `no-store="a, b"`: true,
	// What cannot be understood must not be stored.
	`"`: true, `max-age=5, "`: true, `a="b`: true, `a="\"`: true, `", max-age=5`: true,
	strings.Repeat("a,", mostList) + "b": true, strings.Repeat("(,", mostList+1): true,
	strings.Repeat("a,", mostList-1) + "no-store": true,
	"": false, ",": false, "a": false, "max-age=5": false, "nostore": false, "no_store": false, "no store": false, "no-stores": false, "xno-store": false, "no-store-remote": false, "no-store=": false, "no-store =x": false, "no-store= x": false, "no-store;d": false, "no-store;x=y": false, `"no-store"`: false, `a="no-store"`: false, `a="x, no-store"`: false, "(no-store)": false, "=no-store": false, "a=no-store": false, "no-store\n": false, "no-\xc5\xbftore": false, "no-cache": false, "no-transform": false,
	strings.Repeat("a,", mostList): false, strings.Repeat("(,", mostList): false,
}

// TestNoStore: P16.1, a no-store of the request, or of the reply.
func TestNoStore(t *testing.T) {
	for value, there := range noStores {
		for _, q := range []question{plain("Surrogate-Control", "max-age=5"), plain("ETag", `"a"`), plain("Cache-Control", "max-age=5, public")} {
			q.asked("Cache-Control", value).want(t, !there)
			q.asked("Authorizations", "x", "CACHE-control", "max-age=0, no-cache", "cache-Control", value).want(t, !there)
			q.asked("cache-control", value, "cache-control", "a").want(t, !there)
			q.asked("cache-control", value, "cache-control", `"`).want(t, false)
			q.asked("x-cache-control", value, "cachecontrol", value, "pragma", value, "surrogate-control", value, "no-store", value).want(t, true)
		}
		for _, q := range []question{plain("Surrogate-Control", "max-age=5"), plain("ETag", `"a"`)} {
			q.with("Cache-Control", value).want(t, !there)
			q.with("CACHE-control", "a", "cache-Control", value).want(t, !there)
			q.with("cache-control", value, "cache-control", "a").want(t, !there)
			q.with("x-cache-control", value, "cachecontrol", value, "pragma", value, "no-store", value).want(t, true)
		}
	}
	// No age that the control has, and no validator, makes up for it.
	plain("Surrogate-Control", "max-age=5", "Cache-Control", "no-store, public, max-age=5", "ETag", `"a"`).want(t, false)
}

// TestPrivate: P16.1, a private of the reply, and of nothing else.
func TestPrivate(t *testing.T) {
	for value, there := range map[string]bool{
		"private": true, "Private": true, "PRIVATE": true, "private, max-age=5": true, "max-age=5, private": true, "public, private": true, "private, public": true, "private=x": true, `private=""`: true, `private="Set-Cookie, X"`: true, strings.Repeat("a,", mostList-1) + "private": true,
		"": false, "a": false, "public": false, "privat": false, "privates": false, "x-private": false, "private=": false, "private =x": false, "private;d": false, `"private"`: false, `a="private"`: false, `a="x, private"`: false, "(private)": false, "a=private": false, "private\n": false,
	} {
		for _, q := range []question{plain("Surrogate-Control", "max-age=5"), plain("ETag", `"a"`)} {
			q.with("Cache-Control", value).want(t, !there)
			q.with("Cache-Control", "a, max-age=5", "CACHE-control", value).want(t, !there)
			q.with("Cache-Control", value, "CACHE-control", "public, max-age=5").want(t, !there)
			q.asked("Cache-Control", value).want(t, true)
			q.with("pragma", value, "private", value, "x-cache-control", value).want(t, true)
		}
		plain("ETag", `"a"`, "Surrogate-Control", value).want(t, true)
	}
}

// TestControl: P16.1, a no-store of the control for the device.
func TestControl(t *testing.T) {
	for value, may := range map[string]bool{
		"no-store": false, "No-Store": false, "no-store;d": false, "no-store ; d": false, "NO-STORE;d": false, "max-age=5, no-store": false, "no-store, max-age=5": false, "no-store=x": false, "no-store=x;d": false, "no-store, no-store;d": false, "no-store;d, no-store;e": false, "no-store;e, no-store": false, "no-store, max-age=5;d": false,
		`"`: false, `a="b`: false, `max-age=5, "`: false, "a" + strings.Repeat(";b", mostList): false, strings.Repeat("a,", mostList+1): false, strings.Repeat("a;e,", mostList+1): false,
		"": true, "a": true, "no-store;e": true, "no-store;D": true, "no-store;dd": true, "no-store;": false, "no-store;d;e": true, "no-store;d;": false, "no-store;(d)": true, "no-store;d e": true, "no-store-remote": true, "no-store-remote;d": true, "nostore": true, "no-store=": true, "no-store= x": true, `content="no-store"`: true, `content="ESI/1.0"`: true, "max-age=5": true, "max-age=0": true, "private": true, "no-cache": true, `"no-store"`: true, strings.Repeat("a,", mostList): true, "a" + strings.Repeat(";b", mostList-1): true,
	} {
		for _, q := range []question{plain("Cache-Control", "max-age=5", "ETag", `"a"`), plain("ETag", `"a"`), plain("Last-Modified", written(60, fixdate))} {
			q.with("Surrogate-Control", value).want(t, may)
			q.with("SURROGATE-control", "content=x", "Surrogate-control", value).want(t, may)
			q.with("surrogate-control", value, "surrogate-control", "content=x").want(t, may)
			q.asked("Surrogate-Control", value).want(t, true)
			q.with("x-surrogate-control", value, "surrogatecontrol", value).want(t, true)
		}
	}
}

// TestDevices: P16.1, each device has a control of its own.
func TestDevices(t *testing.T) {
	q := plain("Surrogate-Control", "no-store;d, max-age=5;E, max-age=0;f")
	for device, want := range map[string]bool{"d": false, "E": true, "f": false, "e": false, "D": false, "": false, "g": false, "\xff": false} {
		q.to(device).want(t, want)
		q.with("ETag", `"a"`).to(device).want(t, device != "d")
		q.with("ETag", `"a"`).asked("Authorization", "x").to(device).want(t, device == "E" || device == "f")
	}
	q = plain("Surrogate-Control", "no-store, max-age=5, max-age=0;d")
	for _, device := range []string{"d", "e", ""} {
		q.to(device).want(t, false)
	}
	q = plain("Surrogate-Control", "max-age=5, max-age=0;d")
	for device, want := range map[string]bool{"d": false, "e": true, "D": true, "": true} {
		q.to(device).want(t, want)
	}
}

// TestVary: P16.1, a reply that varies on everything; what else it varies on makes no difference.
func TestVary(t *testing.T) {
	for value, may := range map[string]bool{
		"": true, " ": true, ",": true, "a": true, "Accept, Cookie": true, "a, a": true, "a,,b,": true, "Authorization": true, "a*": true, "**": true, "cache-control": true, strings.Repeat("a,", mostList): true,
		"*": false, "a, *": false, "*, a": false, "*,": false, " * ": false, "(": false, "a, (": false, "a b": false, "a=b": false, "a;b": false, `"a"`: false, `"`: false, `a, "`: false, "a\x00": false, "\xff": false, strings.Repeat("a,", mostList+1): false,
	} {
		for _, q := range []question{plain("Cache-Control", "max-age=5"), plain("Surrogate-Control", "max-age=5"), plain("ETag", `"a"`)} {
			q.with("Vary", value).want(t, may)
			q.with("vary", "x", "VARY", value).want(t, may)
			q.with("vary", value, "VARY", "x").want(t, may)
			q.asked("Vary", value).want(t, true)
			q.with("x-vary", value, "varys", value).want(t, true)
			q.Vary = samples.Fields("vary", value, "*", value, "a", "b")
			q.want(t, true)
		}
	}
}

// TestAuthorization: P16.1, what a request with an authorization needs.
func TestAuthorization(t *testing.T) {
	for value, may := range map[string]bool{
		"public": true, "Public": true, "PUBLIC": true, "public=x": true, `public=""`: true, "a, public": true, "public, max-age=5": true,
		"s-maxage": true, "s-maxage=0": true, "s-maxage=5": true, "S-Maxage=x": true, "max-age=5, s-maxage=7": true,
		"must-revalidate": true, "Must-Revalidate": true, "must-revalidate=x": true, "no-cache, must-revalidate": true, "max-age=0, must-revalidate": true,
		"public, s-maxage=5, must-revalidate":       true,
		strings.Repeat("a,", mostList-1) + "public": true, strings.Repeat("a,", mostList) + "public": false,
		"": false, "a": false, "max-age=5": false, "no-cache": false, "proxy-revalidate": false, "must-understand": false, "immutable": false, "must-revalidate=": false, "must-revalidates": false, "must revalidate": false, "s-maxage=": false, "s-max-age=5": false, "smaxage=5": false, "public=": false, "publics": false, "public;d": false, `"public"`: false, `a="public, s-maxage=5"`: false, "(public)": false, `public, "`: false, "public, no-store": false, "public, private": false, "private, must-revalidate": false,
	} {
		q := plain("ETag", `"a"`)
		for _, name := range []string{"authorization", "Authorization", "AUTHORIZATION", "authorizatioN"} {
			for _, secret := range []string{"Basic YTpi", "x", "", "public"} {
				q.asked(name, secret).with("Cache-Control", value).want(t, may)
				q.asked("a", "b", name, secret, name, secret).with("CACHE-control", "a", "cache-control", value).want(t, may)
				q.asked(name, secret, "cache-control", "public, s-maxage=5, must-revalidate", "surrogate-control", "max-age=5").with("cache-control", value).want(t, may)
			}
		}
	}
	for value, may := range map[string]bool{
		"max-age=5": true, "max-age=0": true, "max-age": true, "max-age=x": true, "MAX-AGE=5": true, "max-age=5+6": true, "max-age=5;d": true, "max-age=5;d, no-store;e": true, "max-age=5, max-age=6;e": true,
		"": false, "a": false, "max-age=5;e": false, "max-age=5;D": false, "max-age=5;d;e": false, "max-age=": false, "s-maxage=5": false, "public": false, "must-revalidate": false, `content="ESI/1.0"`: false, "no-store-remote": false, "max-age=5, no-store": false, `max-age=5, "`: false,
	} {
		plain("ETag", `"a"`, "Surrogate-Control", value).asked("Authorization", "x").want(t, may)
		plain("ETag", `"a"`, "Surrogate-Control", "content=x", "SURROGATE-CONTROL", value).asked("Authorization", "x").want(t, may)
	}
	// What makes up for an authorization makes up for nothing else.
	plain("Cache-Control", "public").asked("Authorization", "x").want(t, false)
	plain("Cache-Control", "must-revalidate, s-maxage=0, max-age=5").asked("Authorization", "x").want(t, false)
	plain("Surrogate-Control", "max-age=0").asked("Authorization", "x").want(t, false)
	plain("Cache-Control", "public").want(t, false)
	// What only looks like it is none.
	plain("ETag", `"a"`).asked("Proxy-Authorization", "x", "Authorizations", "x", "x-authorization", "x", "Authenticate", "x", "Cookie", "authorization=x", "WWW-Authenticate", "x", "", "authorization").want(t, true)
	plain("ETag", `"a"`, "Authorization", "x").want(t, true)
}

// TestLifetime: P16.1, a lifetime above 0, wherever it comes from, and no validator.
func TestLifetime(t *testing.T) {
	early, late := written(60, fixdate), written(120, fixdate)
	for _, c := range []struct {
		pairs []string
		may   bool
	}{
		{[]string{"cache-control", "max-age=1"}, true}, {[]string{"cache-control", "max-age=2147483648"}, true}, {[]string{"cache-control", "max-age=" + strings.Repeat("9", 99)}, true}, {[]string{"cache-control", `max-age="1"`}, true}, {[]string{"CACHE-CONTROL", "a", "cache-control", "Max-Age=1"}, true},
		{[]string{"cache-control", "max-age=0"}, false}, {[]string{"cache-control", "max-age"}, false}, {[]string{"cache-control", "max-age=x"}, false}, {[]string{"cache-control", "max-age=-1"}, false}, {[]string{"cache-control", "max-age=00"}, false}, {[]string{"cache-control", "max-age=0, max-age=5"}, false}, {[]string{"cache-control", "max-age=5, max-age=0"}, true},
		{[]string{"cache-control", "s-maxage=1"}, true}, {[]string{"cache-control", "s-maxage=0, max-age=5"}, false}, {[]string{"cache-control", "max-age=0, s-maxage=5"}, true}, {[]string{"cache-control", "max-age=5, no-cache"}, false}, {[]string{"cache-control", "no-cache"}, false}, {[]string{"cache-control", "public"}, false}, {[]string{"cache-control", "immutable"}, false},
		{[]string{"surrogate-control", "max-age=1"}, true}, {[]string{"surrogate-control", "max-age=0"}, false}, {[]string{"surrogate-control", "max-age=0+5"}, false}, {[]string{"surrogate-control", "max-age=5+0"}, true}, {[]string{"surrogate-control", "max-age=5;e"}, false}, {[]string{"surrogate-control", "max-age=0", "cache-control", "max-age=5"}, false}, {[]string{"surrogate-control", "max-age=5", "cache-control", "max-age=0"}, true}, {[]string{"surrogate-control", "max-age=5", "cache-control", "no-cache"}, true}, {[]string{"surrogate-control", "max-age=0;d, max-age=5"}, false}, {[]string{"surrogate-control", "content=x", "cache-control", "max-age=5"}, true},
		{[]string{"expires", late}, true}, {[]string{"expires", written(111, fixdate)}, true}, {[]string{"expires", written(110, fixdate)}, false}, {[]string{"expires", early}, false}, {[]string{"expires", "0"}, false}, {[]string{"expires", ""}, false},
		{[]string{"expires", late, "date", early}, true}, {[]string{"expires", early, "date", early}, false}, {[]string{"expires", early, "date", late}, false}, {[]string{"expires", late, "date", late}, false}, {[]string{"expires", early, "date", written(59, fixdate)}, true}, {[]string{"expires", late, "cache-control", "max-age=0"}, false}, {[]string{"expires", "0", "cache-control", "max-age=5"}, true}, {[]string{"expires", late, "surrogate-control", "max-age=0"}, false},
		{[]string{"date", early}, false}, {[]string{"age", "5"}, false}, {[]string{"max-age", "5"}, false}, {[]string{"", "max-age=5"}, false}, {nil, false},
	} {
		plain(c.pairs...).want(t, c.may)
		// How old the entry came, and whether it was fresh then, makes no difference.
		old := plain(c.pairs...).with("Age", "2147483648")
		old.Asked = math.MinInt64
		old.want(t, c.may)
		plain(c.pairs...).with("ETag", `"a"`).want(t, true)
		plain(c.pairs...).with("Last-Modified", early).want(t, true)
	}
	// The lifetime is the reply's alone.
	plain().asked("cache-control", "max-age=5", "surrogate-control", "max-age=5", "expires", late, "date", early, "etag", `"a"`, "last-modified", early, "if-none-match", `"a"`, "if-modified-since", early).want(t, false)
}

// TestETag: P16.1, whether the reply has an etag that is an entity tag, and no lifetime.
func TestETag(t *testing.T) {
	for value, may := range map[string]bool{
		`"a"`: true, `W/"a"`: true, `""`: true, `W/""`: true, `"a,b"`: true, `"!#~"`: true, "\"\x80\xff\"": true, `"\"`: true, `"W/"`: true, `"` + strings.Repeat("a", 9999) + `"`: true,
		"": false, "a": false, `"`: false, `"a`: false, `a"`: false, `w/"a"`: false, `W"a"`: false, `W/a`: false, `W/`: false, `W/W/"a"`: false, `"a" `: false, ` "a"`: false, `"a b"`: false, `"a""`: false, `"a", "b"`: false, "\"\x00\"": false, "\"\x7f\"": false, "\"\t\"": false, `'a'`: false, "*": false,
	} {
		for _, name := range []string{"etag", "ETag", "ETAG"} {
			plain(name, value).want(t, may)
			plain("a", "b", "cache-control", "max-age=0", name, value).want(t, may)
			plain("cache-control", "no-cache", "last-modified", "0", name, value).want(t, may)
			// Two fields are joined.
			plain(name, value, "etag", `"b"`).want(t, false)
			plain(name, value, "etag", value).want(t, false)
		}
		plain("e-tag", value, "etags", value, "x-etag", value, "if-none-match", value).want(t, false)
		plain("etag", value, "cache-control", "max-age=5").want(t, true)
	}
	plain("etag", `"a`, "etag", `b"`).want(t, false)
}

// TestLastModified: P16.1, whether the reply has a last-modified that is a date, and no lifetime.
func TestLastModified(t *testing.T) {
	for value, may := range map[string]bool{
		written(0, fixdate): true, written(50, fixdate): true, written(50, rfc850): true, written(50, asctime): true, written(784111777, fixdate): true, written(api.LastTick, fixdate): true, written(api.LastTick, asctime): true,
		written(-1, fixdate): false, written(api.LastTick+1, fixdate): false, "": false, "0": false, "50": false, "yesterday": false, strings.ToLower(written(50, fixdate)): false, written(50, fixdate) + " ": false, " " + written(50, fixdate): false, `"` + written(50, fixdate) + `"`: false, "Fri, 01 Jan 1970 00:00:50 GMT": false, "Thu, 01 Jan 1970 00:00:60 GMT": false, "Thu, 01 Jan 1970 00:00:50 UTC": false, "Thu, 01 Jan 1970": false,
	} {
		for _, name := range []string{"last-modified", "Last-Modified", "LAST-MODIFIED"} {
			plain(name, value).want(t, may)
			plain("a", "b", "cache-control", "max-age=0", name, value).want(t, may)
			plain("cache-control", "no-cache", "etag", "a", name, value).want(t, may)
			// Two fields are joined.
			plain(name, value, "last-modified", value).want(t, false)
			plain(name, value, "last-modified", "").want(t, false)
		}
		plain("lastmodified", value, "last_modified", value, "x-last-modified", value, "date", value, "if-modified-since", value).want(t, false)
		plain("last-modified", value, "cache-control", "max-age=5").want(t, true)
	}
	plain("last-modified", "Thu", "last-modified", "01 Jan 1970 00:00:50 GMT").want(t, true)
}

// TestYears: P16.1, a year of two digits is told by Got, not by Asked, and whether its day has the name depends on that.
func TestYears(t *testing.T) {
	at := func(year int) int64 {
		return time.Date(year, time.June, 1, 0, 0, 0, 0, time.UTC).Unix()
	}
	nov := time.Date(2044, time.November, 6, 0, 0, 0, 0, time.UTC).Unix()
	for got, may := range map[int64]bool{at(1993): false, at(1994): true, at(2024): true, at(2093): true, at(2094): false, at(1970): false, math.MinInt64: false, math.MaxInt64: false} {
		for _, asked := range []int64{got, 100, at(2000), math.MinInt64, math.MaxInt64} {
			q := plain("Last-Modified", written(nov, rfc850))
			q.Asked, q.Got = asked, got
			q.want(t, may)
			q = plain("Last-Modified", written(nov, fixdate))
			q.Asked, q.Got = asked, got
			q.want(t, true)
		}
	}
}

// A said is a value of a field (of none, if there is no text), and what it means.
type said struct {
	text string
	// What it says of the lifetime, if it says anything of it.
	life int
	ages bool
	// Whether it rules storing out, whether it grants it with an authorization, whether it is a validator.
	bars, grants, validates bool
}

func directives() []said {
	return []said{
		{}, {text: "a"}, {text: "max-age=5", life: 5, ages: true}, {text: "max-age=0, a", ages: true}, {text: "no-cache", ages: true}, {text: "s-maxage=7", life: 7, ages: true, grants: true}, {text: "max-age=5, s-maxage=0", ages: true, grants: true}, {text: "public", grants: true}, {text: "must-revalidate, max-age=5", life: 5, ages: true, grants: true},
		{text: "no-store, max-age=5, public", life: 5, ages: true, bars: true, grants: true}, {text: "private, max-age=5", life: 5, ages: true, bars: true}, {text: `private="x", public`, bars: true, grants: true}, {text: `max-age=5, "`, bars: true},
	}
}

func controls() []said {
	return []said{
		{}, {text: `content="ESI/1.0"`}, {text: "max-age=5", life: 5, ages: true, grants: true}, {text: "max-age=5, max-age=0;d", ages: true, grants: true}, {text: "no-store;e, max-age=5;e"}, {text: "no-store", bars: true}, {text: "max-age=5, no-store;d", life: 5, ages: true, bars: true, grants: true}, {text: `a="`, bars: true},
	}
}

// A sample is a question, and the answer to come.
type sample struct {
	question
	may bool
}

// someSample answers a question that was made of its meanings: nothing is read to say what is to come of it.
func someSample(random *rand.Rand) sample {
	q := plain()
	q.method = samples.Pick(random.Intn, "GET", "GET", "GET", "GET", "HEAD", "get")
	q.Reply.Status = samples.Pick(random.Intn, 200, 200, 301, 404, 410, 302, 500)
	may := q.method == "GET" && q.Reply.Status != 302 && q.Reply.Status != 500
	some := func(l *[]api.Field, name string, from ...said) said {
		s := samples.Pick(random.Intn, from...)
		if s.text != "" {
			*l = samples.Inserted(random.Intn, *l, name, s.text)
		}
		may = may && !s.bars
		return s
	}
	some(&q.req, "cache-control", said{}, said{text: "max-age=0, private"}, said{text: "no-cache"}, said{text: "a, no-store", bars: true}, said{text: `"`, bars: true})
	secret := some(&q.req, "authorization", said{}, said{text: "x"})
	told := some(&q.Reply.Fields, "cache-control", directives()...)
	control := some(&q.Reply.Fields, "surrogate-control", controls()...)
	some(&q.Reply.Fields, "vary", said{}, said{}, said{text: "a, b"}, said{text: "a, *", bars: true}, said{text: "(", bars: true})
	tag := some(&q.Reply.Fields, "etag", said{}, said{}, said{}, said{text: "a"}, said{text: `W/"a"`, validates: true})
	last := some(&q.Reply.Fields, "last-modified", said{}, said{}, said{}, said{text: "0"}, said{text: written(50, asctime), validates: true})
	date := some(&q.Reply.Fields, "date", said{}, said{text: "x"}, said{text: written(90, fixdate), ages: true})
	expires := some(&q.Reply.Fields, "expires", said{}, said{}, said{text: "0"}, said{text: written(100, fixdate), ages: true}, said{text: written(120, fixdate), life: 1, ages: true})
	life := expires.life
	if expires.ages && date.ages {
		life = 1
	}
	for _, s := range []said{told, control} {
		if s.ages {
			life = s.life
		}
	}
	may = may && (secret.text == "" || told.grants || control.grants)
	may = may && (life > 0 || tag.validates || last.validates)
	return sample{q, may}
}

// TestSamples: P16.1, questions of everything at a time.
func TestSamples(t *testing.T) {
	random := rand.New(rand.NewSource(16))
	yes := 0
	for range 100000 {
		s := someSample(random)
		s.want(t, s.may)
		if s.may {
			yes++
		}
		if t.Failed() {
			return
		}
	}
	if yes < 2000 {
		t.Errorf("only %d of the samples may be stored", yes)
	}
}

// TestNoDifference: P16.2, what makes no difference.
func TestNoDifference(t *testing.T) {
	random := rand.New(rand.NewSource(162))
	asked := []string{"accept", "cookie", "range", "vary", "if-none-match", "surrogate-control", "surrogate-capability", "etag", "expires", "pragma", "proxy-authorization", "connection", "", "\xff"}
	answered := []string{"age", "set-cookie", "pragma", "authorization", "www-authenticate", "connection", "content-length", "content-range", "transfer-encoding", "warning", "", "\xff"}
	values := []string{"", "no-store", "private", "*", "max-age=5", `"`, `"a"`, written(60, fixdate), "cache-control", "authorization", "5", "\xff", strings.Repeat("a,", mostList+1)}
	for range 20000 {
		s := someSample(random)
		for range random.Intn(4) {
			s.req = samples.Inserted(random.Intn, s.req, samples.Pick(random.Intn, asked...), samples.Pick(random.Intn, values...))
			s.Reply.Fields = samples.Inserted(random.Intn, s.Reply.Fields, samples.Pick(random.Intn, answered...), samples.Pick(random.Intn, values...))
		}
		s.Reply.Reason = samples.Pick(random.Intn, values...)
		s.Reply.Body = samples.Pick(random.Intn, values...)
		s.Reply.Minor = samples.Pick(random.Intn, -1, 0, 1, 2, math.MaxInt)
		s.Asked = samples.Pick[int64](random.Intn, math.MinInt64, 0, 110, 111, math.MaxInt64)
		s.Vary = samples.Fields("*", "*", samples.Pick(random.Intn, asked...), samples.Pick(random.Intn, values...))
		s.want(t, s.may)
		if t.Failed() {
			return
		}
	}
}

// TestAddition: P16.2, one more no-store in any of the three places, or one more private, and nothing may be stored.
func TestAddition(t *testing.T) {
	random := rand.New(rand.NewSource(1622))
	more := func(l []api.Field, name, directive string) []api.Field {
		place := slices.IndexFunc(l, func(f api.Field) bool { return strings.EqualFold(f.Name, name) })
		if place < 0 || random.Intn(2) == 0 {
			return samples.Inserted(random.Intn, l, name, directive)
		}
		out := slices.Clone(l)
		out[place].Value = samples.Pick(random.Intn, out[place].Value+", "+directive, directive+", "+out[place].Value)
		return out
	}
	for range 20000 {
		s := someSample(random)
		q := s.question
		q.req = more(s.req, "cache-control", "no-store")
		q.want(t, false)
		q = s.question
		q.Reply.Fields = more(s.Reply.Fields, "cache-control", samples.Pick(random.Intn, "no-store", "private"))
		q.want(t, false)
		q = s.question
		q.Reply.Fields = more(s.Reply.Fields, "surrogate-control", samples.Pick(random.Intn, "no-store", "no-store;d"))
		q.want(t, false)
		if t.Failed() {
			return
		}
	}
}

// TestArgumentsStay: P16.3, nothing that comes in is changed, or kept from call to call.
func TestArgumentsStay(t *testing.T) {
	made := func() question {
		q := plain("Cache-Control", "Max-Age=20, Public", "Surrogate-Control", "max-age=0;e, no-store;f", "ETag", "a", "Last-Modified", "0", "Date", written(60, fixdate), "Expires", written(120, fixdate), "Vary", "B, a").asked("Authorization", "x", "Cache-Control", "Max-Age=0")
		q.Vary = samples.Fields("A", "b")
		return q
	}
	q := made()
	for range 2 {
		q.to("d").want(t, true)
		q.to("e").want(t, false)
		q.to("f").want(t, false)
	}
	if !reflect.DeepEqual(q, made()) {
		t.Errorf("changed: %s, %s", samples.Told(q.req), samples.Told(q.Reply.Fields))
	}
	q.Reply.Fields[0].Value = "max-age=20"
	q.want(t, false)
	q.req[0].Name = "a"
	q.want(t, true)
	q.req[1].Value = "no-store"
	q.want(t, false)
}

// TestAnyBytes: P16.3, no call panics, whatever it is given.
func TestAnyBytes(t *testing.T) {
	random := rand.New(rand.NewSource(163))
	names := []string{"cache-control", "surrogate-control", "vary", "etag", "last-modified", "expires", "date", "authorization", "", "\xff"}
	pieces := []string{"max-age", "public", "private", "no-store", "=", ",", ";", `"`, `\`, "W/", "*", "5", " ", "d", "\xff", "\x00", "\r\n", written(60, fixdate), "99999999999"}
	drawn := func() []api.Field {
		var out []api.Field
		for range random.Intn(6) {
			value := ""
			for range random.Intn(7) {
				value += samples.Pick(random.Intn, pieces...)
			}
			out = samples.Inserted(random.Intn, out, samples.Pick(random.Intn, names...), value)
		}
		return out
	}
	ticks := []int64{math.MinInt64, -1, 0, 110, api.LastTick, api.LastTick + 1, math.MaxInt64}
	for range 50000 {
		req, e := drawn(), api.Entry{Reply: api.Reply{Status: 200, Fields: drawn()}, Asked: samples.Pick(random.Intn, ticks...), Got: samples.Pick(random.Intn, ticks...), Vary: drawn()}
		device := samples.Pick(random.Intn, pieces...)
		first := storable.May("GET", req, e, device)
		question{"GET", req, e, device}.want(t, first)
		e.Reply.Status = samples.Pick(random.Intn, 0, 199, 201, 302, 500)
		question{"GET", req, e, device}.want(t, false)
	}
	storable.May("", nil, api.Entry{}, "")
	question{}.want(t, false)
	many := slices.Repeat([]string{"cache-control", "a", "surrogate-control", "a;d", "vary", "a", "x", "y"}, 1<<12)
	plain(many...).asked(many...).want(t, false)
	plain(many...).asked(many...).with("cache-control", "max-age=5").want(t, true)
	plain(many...).asked(many...).with("cache-control", "max-age=5, no-store").want(t, false)
}
