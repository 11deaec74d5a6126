package message_test

import (
	"math/rand"
	"slices"
	"strconv"
	"strings"
	"testing"

	"inlay/api"
	"inlay/chunked"
	"inlay/fields"
	"inlay/framing"
	"inlay/line"
	"inlay/message"
	"inlay/samples"
)

const (
	mostHead = 8192
	mostLine = 2048
	mostBody = 65536
	mostOut  = 262144
)

// An answer is what a call makes of bytes; start is what it makes of the start line.
type answer struct {
	start string
	l     []api.Field
	body  string
	used  int
	e     api.Errno
}

var (
	long    = answer{e: api.ErrLong}
	form    = answer{e: api.ErrForm}
	more    = answer{e: api.ErrMore}
	frame   = answer{e: api.ErrFrame}
	version = answer{e: api.ErrVersion}
)

func (a answer) same(b answer) bool {
	return a.start == b.start && slices.Equal(a.l, b.l) && a.body == b.body && a.used == b.used && a.e == b.e
}

func (a answer) told() string {
	return "(" + cut(a.start) + ", " + strconv.Itoa(len(a.l)) + " fields, " + strconv.Quote(cut(a.body)) + " of " + strconv.Itoa(len(a.body)) + ", used " + strconv.Itoa(a.used) + ", error " + strconv.Itoa(int(a.e)) + ")"
}

func cut(s string) string {
	return s[:min(len(s), 80)]
}

// startOf joins what a start line consists of; it is empty if all of it is.
func startOf(a, b string, minor int) string {
	if a == "" && b == "" && minor == 0 {
		return ""
	}
	return a + " " + b + " " + strconv.Itoa(minor)
}

func statusOf(status int) string {
	if status == 0 {
		return ""
	}
	return strconv.Itoa(status)
}

func readRequest(s string) answer {
	r, used, e := message.Request(s)
	return answer{startOf(r.Method, r.Target, r.Minor), r.Fields, r.Body, used, e}
}

func readReply(s string, head bool) answer {
	r, used, e := message.Reply(s, head)
	return answer{startOf(statusOf(r.Status), r.Reason, r.Minor), r.Fields, r.Body, used, e}
}

// A kind is one of messages, with a start line of it, and what that is read as.
type kind struct {
	name        string
	line, start string
	most        int
	none        int // its framing without fields
	read        func(s string) answer
}

var (
	ask  = kind{"Request", "POST /a HTTP/1.1", "POST /a 1", mostBody, framing.None, readRequest}
	tell = kind{"Reply", "HTTP/1.1 200 OK", "200 OK 1", mostOut, framing.Close, func(s string) answer { return readReply(s, false) }}
	bare = kind{"Reply to HEAD", "HTTP/1.1 200 OK", "200 OK 1", mostOut, framing.None, func(s string) answer { return readReply(s, true) }}
)

var kinds = []kind{ask, tell, bare}

func (k kind) want(t *testing.T, s string, want answer) {
	t.Helper()
	if got := k.read(s); !got.same(want) {
		t.Errorf("%s of %.200q of %d = %s; want %s", k.name, s, len(s), got.told(), want.told())
	}
}

// wantRest holds what is to come of the kind's start line with other bytes behind it.
func (k kind) wantRest(t *testing.T, rest string, want answer) {
	t.Helper()
	if want.e == api.OK {
		want.start = k.start
	}
	k.want(t, k.line+rest, want)
}

// of answers what is to come of a message with these fields and this body, that takes up so many bytes.
func of(l []api.Field, body string, used int) answer {
	return answer{l: l, body: body, used: used}
}

// crlf writes the bytes 13 10 where s has a bar.
func crlf(s string) string {
	return strings.ReplaceAll(s, "|", "\r\n")
}

func x(n int) string {
	return strings.Repeat("x", n)
}

// readStart: what the layer below makes of a start line, and the framing of fields behind it.
func (k kind) readStart(s string) (start string, frame func(l []api.Field) (framing.Framing, api.Errno), e api.Errno) {
	if k.name == "Request" {
		method, target, minor, e := line.Request(s)
		return startOf(method, target, minor), framing.Request, e
	}
	status, reason, minor, e := line.Status(s)
	return startOf(statusOf(status), reason, minor), func(l []api.Field) (framing.Framing, api.Errno) {
		return framing.Reply(l, status, k.name != "Reply")
	}, e
}

// defined: P8.1, P8.2, step by step.
func (k kind) defined(s string) answer {
	n := 4
	for n <= len(s) && s[n-4:n] != "\r\n\r\n" {
		n++
	}
	switch {
	case n > mostHead:
		return long
	case n > len(s):
		return more
	}
	lines := strings.SplitAfter(s[:n-2], "\r\n")
	start, frame, e := k.readStart(strings.TrimSuffix(lines[0], "\r\n"))
	if e != api.OK {
		return answer{e: e}
	}
	l, e := fields.Parse(strings.Join(lines[1:], ""))
	if e != api.OK {
		return answer{e: e}
	}
	f, e := frame(l)
	if e != api.OK {
		return answer{e: e}
	}
	body, used, e := definedBody(s[n:], f, k.most)
	if e != api.OK {
		return answer{e: e}
	}
	return answer{start, l, body, n + used, api.OK}
}

func definedBody(s string, f framing.Framing, most int) (string, int, api.Errno) {
	switch {
	case f.Kind == framing.None:
		return "", 0, api.OK
	case f.Kind == framing.Chunked:
		body, used, _, e := chunked.Decode(s, most)
		return body, used, e
	case f.Kind == framing.Close && len(s) > most:
		return "", 0, api.ErrLong
	case f.Kind == framing.Close:
		return s, len(s), api.OK
	case len(s) < f.N:
		return "", 0, api.ErrMore
	}
	return s[:f.N], f.N, api.OK
}

// wantDefined: P8.1, P8.2 of bytes, whatever they are.
func wantDefined(t *testing.T, s string) {
	t.Helper()
	if t.Failed() {
		// A fault that one of many texts shows, all of them would show.
		return
	}
	for _, k := range kinds {
		k.want(t, s, k.defined(s))
	}
}

func TestTheLimits(t *testing.T) {
	if api.MaxHead != mostHead || api.MaxLine != mostLine || api.MaxBody != mostBody || api.MaxOut != mostOut {
		t.Errorf("MaxHead = %d, MaxLine = %d, MaxBody = %d, MaxOut = %d", api.MaxHead, api.MaxLine, api.MaxBody, api.MaxOut)
	}
}

// TestReadingExamples: P8.1, P8.2, the chapter's examples.
func TestReadingExamples(t *testing.T) {
	ask.want(t, crlf("GET /a HTTP/1.1|Host: h||xy"), answer{"GET /a 1", samples.Fields("Host", "h"), "", 28, api.OK})
	post := crlf("POST / HTTP/1.1|Content-Length: 2||ab")
	ask.want(t, post, answer{"POST / 1", samples.Fields("Content-Length", "2"), "ab", 40, api.OK})
	ask.want(t, post[:39], more)
	ask.want(t, "", more)
	ask.want(t, crlf("GET / HTTP/1.1|"), more)
	ask.want(t, x(mostHead), long)
	ask.want(t, crlf("||"), form)
	tell.want(t, crlf("HTTP/1.1 200 OK||abc"), answer{"200 OK 1", nil, "abc", 22, api.OK})
	bare.want(t, crlf("HTTP/1.1 200 OK||abc"), answer{"200 OK 1", nil, "", 19, api.OK})
}

// padded answers field lines of n bytes, and their fields.
func padded(n int) (string, []api.Field) {
	l := slices.Repeat(samples.Fields("A", x(995)), (n-20)/1000)
	l = append(l, samples.Fields("B", x(n-len(fields.Put(l))-5))...)
	return fields.Put(l), l
}

// TestHeads: P8.1, P8.2, how long a head may be.
func TestHeads(t *testing.T) {
	for _, k := range kinds {
		for n := mostHead - 6; n <= mostHead+6; n++ {
			s, l := padded(n - len(k.line) - 4)
			s = "\r\n" + s
			want := of(l, "", n)
			if n > mostHead {
				want = long
			}
			k.wantRest(t, s+"\r\n", want)
			for i := n - 8; i < n; i++ {
				short := more
				if i >= mostHead {
					short = long
				}
				k.wantRest(t, (s + "\r\n")[:i-len(k.line)], short)
			}
		}
		for n, want := range map[int]answer{1: more, 4: more, 100: more, mostHead - 1: more, mostHead: long, mostHead + 1: long, 1 << 20: long} {
			for _, c := range []string{"x", "\r", "\n", "\x00", "\xff"} {
				k.want(t, strings.Repeat(c, n), want)
			}
			k.want(t, strings.Repeat("\n\n\r", n)[:n], want)
			k.want(t, strings.Repeat("x\r\n", n)[:n], want)
			k.want(t, strings.Repeat("\r\n\n", n)[:n], want)
		}
		// The end must lie within the limit as a whole, whatever is wrong ahead of it.
		for n := mostHead - 5; n <= mostHead+1; n++ {
			want := form
			if n+4 > mostHead {
				want = long
			}
			k.want(t, "x\r\n"+x(n-3)+crlf("||"), want)
			k.want(t, "x\r\n"+x(n-3)+crlf("||")+x(mostHead), want)
		}
	}
}

// TestHeadsAreDivided: P8.1, P8.2; the head ends with the first empty line, and the start line with the first line end.
func TestHeadsAreDivided(t *testing.T) {
	for _, k := range []kind{ask, bare} {
		none := of(nil, "", len(k.line)+4)
		for _, after := range []string{"", "x", "\r", "\n", "\r\n", "\r\n\r\n", "A: b\r\n\r\n", "GET / HTTP/1.1\r\n\r\n", "\x00\xff", x(1 << 20)} {
			k.wantRest(t, "\r\n\r\n"+after, none)
			k.wantRest(t, "\r\nA: b\r\n\r\n"+after, of(samples.Fields("A", "b"), "", len(k.line)+10))
			k.wantRest(t, "\r\nA:b\r\na:\r\n\r\n"+after, of(samples.Fields("A", "b", "a", ""), "", len(k.line)+13))
		}
		for _, s := range []string{"", "\r", "\n", "\r\n", "\n\n", "\r\r", "\r\n\n", "\r\n\r", "\n\r\n", "\r\n\n\r\n", "\r\nA: b", "\r\nA: b\r\n", "\r\nA: b\r\n\r", "\r\nA: b\n\n", "\r\nA: b\r\n\n\r", "\n\r\n\n"} {
			k.wantRest(t, s, more)
		}
		for _, s := range []string{"\n\r\n\r\n", "\r\r\n\r\n", "\n\nA: b\r\n\r\n", "\x00\r\n\r\n", "\r\n\n\r\n\r\n", "\r\n\r\r\n\r\n", "\r\nA: b\n\r\n\r\n", "\r\n A: b\r\n\r\n", "\r\nx\r\n\r\n"} {
			k.wantRest(t, s, form)
		}
		for _, s := range []string{"||", "||x", "|A: b||", "|||", " ||", "x||", "\n||", "A: b|" + k.line + "||", "|" + k.line + "||"} {
			k.want(t, crlf(s), form)
		}
	}
}

// TestStartLines: P8.1, P8.2, what the line makes of it.
func TestStartLines(t *testing.T) {
	for s, want := range map[string]answer{
		"GET / HTTP/1.0": {start: "GET / 0"}, "x * HTTP/1.9": {start: "x * 1"}, "GET http://h/a?b HTTP/1.1": {start: "GET http://h/a?b 1"}, "GET / HTTP/2.0": version, "GET / HTTP/0.9": version, "GET / HTTP/1.1 ": form, "GET  / HTTP/1.1": form,
		"GET /": form, "get": form, "HTTP/1.1 200 OK": form, " GET / HTTP/1.1": form, "GET / http/1.1": form, "GET /" + x(1023) + " HTTP/1.1": {start: "GET /" + x(1023) + " 1"}, "GET /" + x(1024) + " HTTP/1.1": long,
		"GET /" + x(1024) + " HTTP/2.0": version, x(mostLine-11) + " / HTTP/1.1": {start: x(mostLine-11) + " / 1"}, x(mostLine-10) + " / HTTP/1.1": long, x(mostLine): form, x(mostLine + 1): long,
	} {
		if want.e == api.OK {
			want.used = len(s) + 4
		}
		ask.want(t, s+"\r\n\r\n", want)
	}
	for s, want := range map[string]answer{
		"HTTP/1.0 200 OK": {start: "200 OK 0"}, "HTTP/1.3 404 ": {start: "404  1"}, "HTTP/1.1 599 a\tb \xff": {start: "599 a\tb \xff 1"}, "HTTP/2.0 200 OK": version, "HTTP/1.1 600 OK": form, "HTTP/1.1 099 OK": form, "HTTP/1.1 200": form,
		"HTTP/1.1 20 OK": form, "GET / HTTP/1.1": form, "": form, "HTTP/1.1 200 \x7f": form, "HTTP/1.1 200 " + x(mostLine-13): {start: "200 " + x(mostLine-13) + " 1"}, "HTTP/1.1 200 " + x(mostLine-12): long, "HTTP/9.1 200 " + x(mostLine-12): long,
	} {
		if want.e == api.OK {
			want.used = len(s) + 4
		}
		tell.want(t, s+"\r\n\r\n", want)
		bare.want(t, s+"\r\n\r\n", want)
	}
}

// TestFieldLines: P8.1, P8.2, what the fields make of it.
func TestFieldLines(t *testing.T) {
	for s, want := range map[string][]api.Field{
		"A: b|": samples.Fields("A", "b"), "A:|": samples.Fields("A", ""), "A:  b\t c |a:d|": samples.Fields("A", "b\t c", "a", "d"), "A: :|B:\xff|": samples.Fields("A", ":", "B", "\xff"), "Connection: close|": samples.Fields("Connection", "close"),
		strings.Repeat("A: b|", 64): slices.Repeat(samples.Fields("A", "b"), 64), "A: " + x(mostLine-3) + "|": samples.Fields("A", x(mostLine-3)),
	} {
		for _, k := range kinds {
			k.wantRest(t, crlf("|"+s+"|"), of(want, "", len(k.line)+len(crlf(s))+4))
		}
	}
	for s, want := range map[string]answer{
		"A b|": form, "A : b|": form, ": b|": form, "A: b| c|": form, "A: \x00|": form, "A: b\n|": form, "A: b|x|": form, "x|" + strings.Repeat("A: b|", 65): form, strings.Repeat("A: b|", 65): long, "A: " + x(mostLine-2) + "|": long, x(mostLine+1) + "|": long,
		"A:" + x(mostLine-2) + "|": long,
	} {
		for _, k := range kinds {
			k.wantRest(t, crlf("|"+s+"|"), want)
		}
	}
}

// TestLengths: P8.1, P8.2, bodies of a length.
func TestLengths(t *testing.T) {
	for _, n := range []int{0, 1, 2, 100, mostBody - 1, mostBody, mostBody + 1, mostOut - 1, mostOut, mostOut + 1} {
		for _, k := range kinds {
			rest := "\r\nContent-Length: " + strconv.Itoa(n) + "\r\n\r\n"
			l := samples.Fields("Content-Length", strconv.Itoa(n))
			if k.name == bare.name {
				k.wantRest(t, rest+x(n), of(l, "", len(k.line+rest)))
				continue
			}
			want := of(l, x(n), len(k.line+rest)+n)
			short := more
			if n > k.most {
				want, short = long, long
			}
			k.wantRest(t, rest+x(n), want)
			k.wantRest(t, rest+x(n)+"\r\n\r\n", want)
			if n > 0 {
				k.wantRest(t, rest+x(n-1), short)
				k.wantRest(t, rest, short)
			}
		}
	}
	for _, k := range []kind{ask, tell} {
		l := samples.Fields("content-length", "03, 3", "A", "b", "Content-Length", "3")
		rest := "\r\n" + fields.Put(l) + "\r\n"
		k.wantRest(t, rest+"\r\n\x00\r\n", of(l, "\r\n\x00", len(k.line+rest)+3))
		k.wantRest(t, crlf("|Content-Length: 4|||"), more)
		k.wantRest(t, crlf("|Content-Length: 2|||"), of(samples.Fields("Content-Length", "2"), "\r\n", len(k.line)+25))
		for s, want := range map[string]answer{"x": form, "": form, "+1": form, "\"": form, "1, 2": frame, "999999999999999999": long, "1000000000000000000": form} {
			k.wantRest(t, "\r\nContent-Length: "+s+"\r\n\r\nabc", want)
		}
	}
	bare.wantRest(t, crlf("|Content-Length: x||"), form)
	bare.wantRest(t, crlf("|Content-Length: 1, 2||"), frame)
}

// TestChunks: P8.1, P8.2, bodies in chunks: joined, and without trailers.
func TestChunks(t *testing.T) {
	coded := samples.Fields("Transfer-Encoding", "Chunked")
	rest := "\r\n" + fields.Put(coded) + "\r\n"
	for _, k := range []kind{ask, tell} {
		head := len(k.line + rest)
		for s, body := range map[string]string{"0||": "", "2|ab|0||": "ab", "2;x=y|ab|01|c|000;z||": "abc", "1|a|0|A: b|C: d||": "a", "2|||0||": "\r\n", "5|0|||0||": "0\r\n\r\n"} {
			s = crlf(s)
			for _, after := range []string{"", "x", "\r\n", "0\r\n\r\n", k.line + rest} {
				k.wantRest(t, rest+s+after, of(coded, body, head+len(s)))
			}
			for i := range len(s) {
				k.wantRest(t, rest+s[:i], more)
			}
		}
		for s, want := range map[string]answer{"g|": form, "|": form, "1|ab|": form, "0|x||": form, "0|" + x(mostLine+1) + "||": long, x(mostLine + 2): long, x(mostLine + 1): more, "0|" + x(mostHead): long, "ffffffff|": long, "1|a": more} {
			k.wantRest(t, rest+crlf(s), want)
		}
		for _, n := range []int{mostBody, mostBody + 1, mostOut, mostOut + 1} {
			s := chunked.Encode(x(n), 1<<15)
			want := of(coded, x(n), head+len(s))
			if n > k.most {
				want = long
			}
			k.wantRest(t, rest+s, want)
		}
	}
	bare.wantRest(t, rest+"x", of(coded, "", len(bare.line+rest)))
	for _, k := range kinds {
		k.wantRest(t, crlf("|Transfer-Encoding: gzip||"), form)
		k.wantRest(t, crlf("|Transfer-Encoding: chunked|Content-Length: 1||0||"), frame)
	}
}

// TestWithoutFraming: P8.1, P8.2; a request without such fields has no body, a reply has all that follows.
func TestWithoutFraming(t *testing.T) {
	for _, n := range []int{0, 1, mostBody, mostBody + 1, mostOut - 1, mostOut, mostOut + 1, 2 * mostOut} {
		ask.wantRest(t, "\r\n\r\n"+x(n), of(nil, "", len(ask.line)+4))
		bare.wantRest(t, "\r\n\r\n"+x(n), of(nil, "", len(bare.line)+4))
		want := of(nil, x(n), len(tell.line)+4+n)
		if n > mostOut {
			want = long
		}
		tell.wantRest(t, "\r\n\r\n"+x(n), want)
	}
	tell.wantRest(t, crlf("|||a||0||\xff"), of(nil, crlf("|a||0||\xff"), len(tell.line)+17))
}

// TestStatuses: P8.2, which replies have no body.
func TestStatuses(t *testing.T) {
	for status := 100; status <= 599; status++ {
		first := "HTTP/1.1 " + strconv.Itoa(status) + " x"
		start := strconv.Itoa(status) + " x 1"
		without := status < 200 || status == 204 || status == 304
		for _, c := range []struct {
			rest, body string
			l          []api.Field
			used       int
		}{
			{"||ab", "ab", nil, 2}, {"|Content-Length: 1||ab", "a", samples.Fields("Content-Length", "1"), 1}, {"|Transfer-Encoding: chunked||1|a|0||b", "a", samples.Fields("Transfer-Encoding", "chunked"), 11},
		} {
			head := len(first) + len(fields.Put(c.l)) + 4
			none := answer{start, c.l, "", head, api.OK}
			want := answer{start, c.l, c.body, head + c.used, api.OK}
			if without {
				want = none
			}
			tell.want(t, first+crlf(c.rest), want)
			bare.want(t, first+crlf(c.rest), none)
		}
		tell.want(t, first+crlf("|Content-Length: 1, 2||"), frame)
	}
}

// TestWhichReadingErrorIsFirst: P8.1, P8.2, of messages with several faults.
func TestWhichReadingErrorIsFirst(t *testing.T) {
	type fault struct {
		s    string
		want answer
	}
	for _, k := range []kind{ask, tell} {
		ends := []fault{{"", long}, {"\r\n", answer{}}}
		starts := []fault{{strings.Replace(k.line, "/1.", "/2.", 1), version}, {x(mostLine + 1), long}, {"x", form}, {k.line, answer{}}}
		lines := []fault{{strings.Repeat("A: b\r\n", 63), long}, {"A: " + x(mostLine-2) + "\r\n", long}, {"x\r\n", form}, {"", answer{}}}
		frames := []fault{{"Content-Length: 1\r\nTransfer-Encoding: chunked\r\n", frame}, {"Content-Length: 1\r\nContent-Length: 2\r\n", frame}, {"Content-Length: 300000\r\nC: d\r\n", long}, {"Content-Length: x\r\nC: d\r\n", form}}
		for _, end := range ends {
			for _, start := range starts {
				for _, l := range lines {
					for _, f := range frames {
						s := start.s + "\r\n" + l.s + f.s + end.s
						want := f.want
						for _, c := range []fault{l, start, end} {
							if c.want.e != api.OK {
								want = c.want
							}
						}
						if end.s == "" {
							// Only what is long enough lacks its end for good.
							k.want(t, s[:min(len(s), mostHead-1)], more)
							s += x(mostHead)
						}
						k.want(t, s, want)
					}
				}
			}
		}
		// What is missing of a body is told last.
		k.wantRest(t, crlf("|Content-Length: 5|x||ab"), form)
		k.wantRest(t, crlf("|Content-Length: 5|Content-Length: 6||ab"), frame)
		k.wantRest(t, crlf("|Content-Length: 5||ab"), more)
		k.wantRest(t, crlf("|Transfer-Encoding: chunked||g"), more)
		k.wantRest(t, crlf("|Transfer-Encoding: chunked||g|"), form)
	}
}

func wantPut(t *testing.T, call string, got, want string, gotError, wantError api.Errno) {
	t.Helper()
	if got != want || gotError != wantError {
		t.Errorf("%s = %.300q of %d, %d; want %.300q of %d, %d", call, got, len(got), gotError, want, len(want), wantError)
	}
}

func wantPutRequest(t *testing.T, r api.Request, want string, e api.Errno) {
	t.Helper()
	got, gotError := message.PutRequest(r)
	wantPut(t, "PutRequest of "+cut(r.Method)+" "+cut(r.Target), got, want, gotError, e)
}

func wantPutReply(t *testing.T, r api.Reply, head bool, want string, e api.Errno) {
	t.Helper()
	got, gotError := message.PutReply(r, head)
	wantPut(t, "PutReply of "+strconv.Itoa(r.Status)+" "+cut(r.Reason)+", "+strconv.FormatBool(head), got, want, gotError, e)
}

func request(method, target, body string, l ...string) api.Request {
	return api.Request{Method: method, Target: target, Minor: 1, Fields: samples.Fields(l...), Body: body}
}

func reply(status int, reason, body string, l ...string) api.Reply {
	return api.Reply{Status: status, Reason: reason, Minor: 1, Fields: samples.Fields(l...), Body: body}
}

// TestWritingExamples: P8.3, P8.4, the chapter's examples.
func TestWritingExamples(t *testing.T) {
	wantPutRequest(t, request("PUT", "/a", "", "Content-Length", "9"), crlf("PUT /a HTTP/1.1|Content-Length: 0||"), api.OK)
	wantPutReply(t, reply(204, "", "x"), false, "", api.ErrArg)
	wantPutReply(t, reply(200, "No", "ab", "X", "y"), true, crlf("HTTP/1.1 200 No|X: y|Content-Length: 2||"), api.OK)
}

// TestPutRequest: P8.3.
func TestPutRequest(t *testing.T) {
	for _, c := range []struct {
		r    api.Request
		want string
	}{
		{request("GET", "/", ""), "GET / HTTP/1.1||"},
		{request("GET", "*", "", "A", "b", "a", "", "Host", "h"), "GET * HTTP/1.1|A: b|a: |Host: h||"},
		{api.Request{Method: "HEAD", Target: "x:/y?z"}, "HEAD x:/y?z HTTP/1.0||"},
		{api.Request{Method: "PUT", Target: "/", Body: "a"}, "PUT / HTTP/1.0|Content-Length: 1||a"},
		{request("POST", "/", ""), "POST / HTTP/1.1|Content-Length: 0||"},
		{request("PUT", "/", ""), "PUT / HTTP/1.1|Content-Length: 0||"},
		{request("PATCH", "/", "", "A", "b"), "PATCH / HTTP/1.1|A: b|Content-Length: 0||"},
		{request("DELETE", "/", ""), "DELETE / HTTP/1.1||"},
		{request("post", "/", ""), "post / HTTP/1.1||"},
		{request("Put", "/", ""), "Put / HTTP/1.1||"},
		{request("PATCHES", "/", ""), "PATCHES / HTTP/1.1||"},
		{request("GET", "/", "0123456789"), "GET / HTTP/1.1|Content-Length: 10||0123456789"},
		{request("POST", "/", "\r\n\r\n\x00\xff", "Host", "h"), "POST / HTTP/1.1|Host: h|Content-Length: 6||||\x00\xff"},
		{request("GET", "/", "", "Content-Length", "5", "A", "b", "content-length", "x", "Transfer-Encoding", "chunked", "TRANSFER-encoding", "\n", "CONTENT-LENGTH", ""), "GET / HTTP/1.1|A: b||"},
		{request("GET", "/", "ab", "transfer-encoding", "chunked", "A", "b", "Content-Length", "2", "C", "d"), "GET / HTTP/1.1|A: b|C: d|Content-Length: 2||ab"},
		{request("GET", "/", "", "Content-Lengt", "5", "XTransfer-Encoding", "x", "Content_Length", "y", "Trailer", "Content-Length", "Connection", "a", "TE", "t"),
			"GET / HTTP/1.1|Content-Lengt: 5|XTransfer-Encoding: x|Content_Length: y|Trailer: Content-Length|Connection: a|TE: t||"},
	} {
		wantPutRequest(t, c.r, crlf(c.want), api.OK)
	}
	for _, c := range []struct {
		r api.Request
		e api.Errno
	}{
		{api.Request{}, api.ErrForm}, {request("", "/", ""), api.ErrForm}, {request("G T", "/", ""), api.ErrForm}, {request("GET", "", ""), api.ErrForm}, {request("GET", "/ ", ""), api.ErrForm}, {request("GET", "/\r\n", ""), api.ErrForm},
		{api.Request{Method: "GET", Target: "/", Minor: 2}, api.ErrForm}, {api.Request{Method: "GET", Target: "/", Minor: -1}, api.ErrForm}, {request("GET", "/"+x(1024), ""), api.ErrLong}, {request(x(mostLine), "/", ""), api.ErrLong},
		{request("GET", "/", "", "A b", "c"), api.ErrForm}, {request("GET", "/", "", "", "c"), api.ErrForm}, {request("GET", "/", "", "A", " c"), api.ErrForm}, {request("GET", "/", "", "A", "c\r\nB: d"), api.ErrForm},
		{request("GET", "/", "", "Content-Length ", "5"), api.ErrForm}, {request("GET", "/", "", "A", x(mostLine-2)), api.ErrLong},
	} {
		wantPutRequest(t, c.r, "", c.e)
	}
}

// TestPutReply: P8.4.
func TestPutReply(t *testing.T) {
	for _, c := range []struct {
		r    api.Reply
		want string
	}{
		{reply(200, "OK", "ab"), "HTTP/1.1 200 OK|Content-Length: 2||ab"},
		{reply(200, "", ""), "HTTP/1.1 200 |Content-Length: 0||"},
		{api.Reply{Status: 599, Reason: "a \xff\t", Body: "\r\n\r\n\x00"}, "HTTP/1.0 599 a \xff\t|Content-Length: 5||||\x00"},
		{reply(404, "No", "0123456789", "A", "b", "a", ""), "HTTP/1.1 404 No|A: b|a: |Content-Length: 10||0123456789"},
		{reply(205, "x", ""), "HTTP/1.1 205 x|Content-Length: 0||"},
		{reply(200, "OK", "x", "content-length", "7", "A", "b", "Transfer-encoding", "chunked", "CONTENT-LENGTH", "\r", "C", "d"), "HTTP/1.1 200 OK|A: b|C: d|Content-Length: 1||x"},
		{reply(204, "x", "", "content-length", "7", "A", "b", "Transfer-Encoding", "chunked"), "HTTP/1.1 204 x|A: b||"},
		{reply(304, "Not Modified", "", "ETag", "\"a\""), "HTTP/1.1 304 Not Modified|ETag: \"a\"||"},
		{reply(100, "x", ""), "HTTP/1.1 100 x||"},
	} {
		want := crlf(c.want)
		wantPutReply(t, c.r, false, want, api.OK)
		wantPutReply(t, c.r, true, strings.TrimSuffix(want, c.r.Body), api.OK)
	}
	for _, c := range []struct {
		r api.Reply
		e api.Errno
	}{
		{api.Reply{}, api.ErrForm}, {reply(99, "x", ""), api.ErrForm}, {reply(600, "x", ""), api.ErrForm}, {reply(-200, "x", ""), api.ErrForm}, {reply(200, "\r\n", ""), api.ErrForm}, {api.Reply{Status: 200, Minor: 2}, api.ErrForm},
		{api.Reply{Status: 200, Minor: -1}, api.ErrForm}, {reply(200, x(mostLine-12), ""), api.ErrLong}, {reply(204, "x", "b"), api.ErrArg}, {reply(200, "x", "", "A b", "c"), api.ErrForm}, {reply(200, "x", "b", "A", "\x7f"), api.ErrForm},
		{reply(304, "x", "", "A", "b "), api.ErrForm}, {reply(200, "x", "", "A", x(mostLine-2)), api.ErrLong},
	} {
		wantPutReply(t, c.r, false, "", c.e)
		wantPutReply(t, c.r, true, "", c.e)
	}
}

// TestWritingStatuses: P8.4, which replies may have a body, and tell its length.
func TestWritingStatuses(t *testing.T) {
	for status := -1; status <= 1000; status++ {
		for _, head := range []bool{false, true} {
			first := "HTTP/1.1 " + strconv.Itoa(status) + " x\r\n"
			switch {
			case status < 100 || status > 599:
				wantPutReply(t, reply(status, "x", ""), head, "", api.ErrForm)
				wantPutReply(t, reply(status, "x", "ab"), head, "", api.ErrForm)
			case status < 200 || status == 204 || status == 304:
				wantPutReply(t, reply(status, "x", ""), head, first+"\r\n", api.OK)
				wantPutReply(t, reply(status, "x", "ab"), head, "", api.ErrArg)
			default:
				body := "ab"
				if head {
					body = ""
				}
				wantPutReply(t, reply(status, "x", ""), head, first+crlf("Content-Length: 0||"), api.OK)
				wantPutReply(t, reply(status, "x", "ab"), head, first+crlf("Content-Length: 2||")+body, api.OK)
			}
		}
	}
}

// TestWritingBodies: P8.3, P8.4, how long a body may be.
func TestWritingBodies(t *testing.T) {
	for _, n := range []int{mostBody - 1, mostBody, mostBody + 1, mostOut - 1, mostOut, mostOut + 1} {
		length := "Content-Length: " + strconv.Itoa(n) + "\r\n\r\n"
		asked, told, bare := "GET / HTTP/1.1\r\n"+length+x(n), "HTTP/1.1 200 OK\r\n"+length+x(n), "HTTP/1.1 200 OK\r\n"+length
		var e, f api.Errno
		if n > mostBody {
			asked, e = "", api.ErrLong
		}
		if n > mostOut {
			told, bare, f = "", "", api.ErrLong
		}
		wantPutRequest(t, request("GET", "/", x(n)), asked, e)
		wantPutReply(t, reply(200, "OK", x(n)), false, told, f)
		wantPutReply(t, reply(200, "OK", x(n)), true, bare, f)
	}
}

// TestWritingFields: P8.3, P8.4, how many fields there may be: those that are written count, and no others.
func TestWritingFields(t *testing.T) {
	some := func(n int) []api.Field { return slices.Repeat(samples.Fields("A", "b"), n) }
	fill := slices.Repeat(samples.Fields("Content-Length", "1", "transfer-encoding", "x"), 40)
	for n := 62; n < 67; n++ {
		bare, sized := "", ""
		var e, f api.Errno
		if n > 64 {
			e = api.ErrLong
		} else {
			bare = "HTTP/1.0 304 \r\n" + fields.Put(some(n)) + "\r\n"
		}
		if n > 63 {
			f = api.ErrLong
		} else {
			sized = "HTTP/1.0 200 \r\n" + fields.Put(some(n)) + crlf("Content-Length: 2||ab")
		}
		for _, l := range [][]api.Field{some(n), append(some(n), fill...), append(slices.Clone(fill), some(n)...)} {
			wantPutRequest(t, api.Request{Method: "GET", Target: "/", Fields: l}, strings.Replace(bare, "HTTP/1.0 304 ", "GET / HTTP/1.0", 1), e)
			wantPutRequest(t, api.Request{Method: "GET", Target: "/", Fields: l, Body: "ab"}, strings.Replace(sized, "HTTP/1.0 200 ", "GET / HTTP/1.0", 1), f)
			wantPutReply(t, api.Reply{Status: 304, Fields: l}, false, bare, e)
			wantPutReply(t, api.Reply{Status: 200, Fields: l, Body: "ab"}, false, sized, f)
			wantPutReply(t, api.Reply{Status: 200, Fields: l, Body: "ab"}, true, strings.TrimSuffix(sized, "ab"), f)
		}
	}
}

// TestWritingHeads: P8.3, P8.4, how long a head may be: the body does not count.
func TestWritingHeads(t *testing.T) {
	for n := mostHead - 3; n <= mostHead+3; n++ {
		var e api.Errno
		if n > mostHead {
			e = api.ErrLong
		}
		whole := func(start, length, body string) (string, []api.Field) {
			s, l := padded(n - len(start+length) - 4)
			if n > mostHead {
				return "", l
			}
			return start + "\r\n" + s + length + "\r\n" + body, l
		}
		s, l := whole("GET / HTTP/1.1", "", "")
		wantPutRequest(t, api.Request{Method: "GET", Target: "/", Minor: 1, Fields: l}, s, e)
		s, l = whole("GET / HTTP/1.1", "Content-Length: 3\r\n", "abc")
		wantPutRequest(t, api.Request{Method: "GET", Target: "/", Minor: 1, Fields: l, Body: "abc"}, s, e)
		s, l = whole("HTTP/1.1 200 OK", "Content-Length: 3\r\n", "abc")
		wantPutReply(t, api.Reply{Status: 200, Reason: "OK", Minor: 1, Fields: l, Body: "abc"}, false, s, e)
		wantPutReply(t, api.Reply{Status: 200, Reason: "OK", Minor: 1, Fields: l, Body: "abc"}, true, strings.TrimSuffix(s, "abc"), e)
		s, l = whole("HTTP/1.1 204 ", "", "")
		wantPutReply(t, api.Reply{Status: 204, Minor: 1, Fields: l}, false, s, e)
	}
}

// TestWhichWritingErrorIsFirst: P8.3, P8.4.
func TestWhichWritingErrorIsFirst(t *testing.T) {
	big, _ := padded(mostHead)
	bigList, _ := fields.Parse(big)
	bad := samples.Fields("A b", "c")
	for _, l := range [][]api.Field{nil, bad, bigList, append(slices.Clone(bigList), bad...)} {
		last := api.OK
		switch {
		case len(l) > 0 && l[len(l)-1] == bad[0]:
			last = api.ErrForm
		case len(l) > 0:
			last = api.ErrLong
		}
		for _, body := range []string{"", x(mostOut + 1)} {
			wantPutRequest(t, api.Request{Method: "G T", Target: "/", Fields: l, Body: body}, "", api.ErrForm)
			wantPutRequest(t, api.Request{Method: "GET", Target: "/" + x(1024), Fields: l, Body: body}, "", api.ErrLong)
			wantPutReply(t, api.Reply{Status: 99, Fields: l, Body: body}, false, "", api.ErrForm)
			wantPutReply(t, api.Reply{Status: 204, Reason: x(mostLine), Fields: l, Body: body}, true, "", api.ErrLong)
			if body != "" {
				wantPutRequest(t, api.Request{Method: "GET", Target: "/", Fields: l, Body: body}, "", api.ErrLong)
				wantPutReply(t, api.Reply{Status: 200, Fields: l, Body: body}, true, "", api.ErrLong)
				wantPutReply(t, api.Reply{Status: 304, Fields: l, Body: body}, true, "", api.ErrArg)
			} else if last != api.OK {
				wantPutRequest(t, api.Request{Method: "GET", Target: "/", Fields: l}, "", last)
				wantPutReply(t, api.Reply{Status: 200, Fields: l}, false, "", last)
				wantPutReply(t, api.Reply{Status: 304, Fields: l}, false, "", last)
			}
		}
	}
}

// TestByDefinition: P8.1, P8.2, every text of few pieces.
func TestByDefinition(t *testing.T) {
	samples.Words([]string{"GET / HTTP/1.1", "HTTP/1.1 200 x", "\r\n", "\r", "\n", "A: b\r\n", " ", "Content-Length: 1\r\n"}, 6, func(s string) {
		wantDefined(t, s)
	})
	samples.Words([]string{"Content-Length: 1\r\n", "content-length: 2\r\n", "Transfer-Encoding: chunked\r\n", "Content-Length: 65537\r\n", "x", "\r\n", "1\r\na\r\n", "0\r\n"}, 5, func(s string) {
		wantDefined(t, "PUT / HTTP/1.1\r\n"+s)
		wantDefined(t, "HTTP/1.1 200 OK\r\n"+s)
		wantDefined(t, "HTTP/1.1 304 x\r\n"+s)
	})
}

// TestEachByte: P8.1, P8.2, every byte at every place of a message: put there, and in place of what stood there; and messages of which some is missing.
func TestEachByte(t *testing.T) {
	for _, s := range []string{"GET /a HTTP/1.1|Host: h||xy", "POST / HTTP/1.1|Content-Length: 2||ab|", "P / HTTP/1.0|Transfer-Encoding: chunked||1|a|0|B:c||d", "HTTP/1.1 200 OK|A:b|Content-Length: 3||abc", "HTTP/1.1 404 ||x", "HTTP/1.0 204 x|transfer-encoding: chunked||1|a|0||"} {
		samples.Spoilt(crlf(s), func(s string) { wantDefined(t, s) })
	}
}

// drawnFields answers fields, valid ones, and of those that tell of the body too.
func drawnFields(random *rand.Rand) []api.Field {
	names := []string{"A", "a", "Host", "Content-Length", "transfer-encoding", "X-Y"}
	values := []string{"", "b", "c d", "5", "chunked", "\xff", "\"q\"", x(40)}
	var l []api.Field
	for range random.Intn(6) {
		l = append(l, samples.Fields(names[random.Intn(len(names))], values[random.Intn(len(values))])...)
	}
	return l
}

func drawnBody(random *rand.Rand) string {
	pieces := []string{"", "a", "\r\n", "\r\n\r\n", "\x00\xff", "0\r\n\r\n", "GET / HTTP/1.1\r\n\r\n", x(100)}
	body := ""
	for range random.Intn(4) {
		body += pieces[random.Intn(len(pieces))]
	}
	return body
}

// wantBack: P8.5 of what was written: it is read as it was, whatever follows it, and its prefixes lack bytes.
func (k kind) wantBack(t *testing.T, s string, want answer) {
	t.Helper()
	for _, after := range []string{"", "x", "\r\n", "\r\n\r\n", "\x00", s, x(mostOut + 1)} {
		got := k.read(s + after)
		got.l = others(got.l)
		if want.l = others(want.l); !got.same(want) {
			t.Errorf("%s of %.200q and %.20q = %s; want %s", k.name, s, after, got.told(), want.told())
		}
	}
	step := 1 + len(s)/1000
	for i := 0; i < len(s); i += step {
		k.want(t, s[:i], more)
	}
	k.want(t, s[:len(s)-1], more)
}

// others answers the fields that do not tell of the body.
func others(l []api.Field) []api.Field {
	return slices.DeleteFunc(slices.Clone(l), func(f api.Field) bool {
		name := strings.ToLower(f.Name)
		return name == "content-length" || name == "transfer-encoding"
	})
}

func wantRequestBack(t *testing.T, r api.Request) {
	t.Helper()
	s, e := message.PutRequest(r)
	if e != api.OK {
		t.Errorf("PutRequest(%s %.80s, %.300q): error %d", r.Method, r.Target, r.Fields, e)
		return
	}
	ask.wantBack(t, s, answer{startOf(r.Method, r.Target, r.Minor), r.Fields, r.Body, len(s), api.OK})
}

func wantReplyBack(t *testing.T, r api.Reply) {
	t.Helper()
	want := answer{start: startOf(statusOf(r.Status), r.Reason, r.Minor), l: r.Fields}
	for k, head := range map[*kind]bool{&tell: false, &bare: true} {
		s, e := message.PutReply(r, head)
		if e != api.OK {
			t.Errorf("PutReply(%d, %.300q, %v): error %d", r.Status, r.Fields, head, e)
			return
		}
		want.body, want.used = r.Body, len(s)
		if head {
			want.body = ""
		}
		k.wantBack(t, s, want)
	}
}

// TestThereAndBack: P8.5.
func TestThereAndBack(t *testing.T) {
	random := rand.New(rand.NewSource(8))
	methods := []string{"GET", "HEAD", "POST", "PUT", "PATCH", "DELETE", "x"}
	statuses := []int{100, 199, 200, 204, 206, 301, 304, 404, 500, 599}
	for range 3000 {
		body := drawnBody(random)
		wantRequestBack(t, api.Request{Method: methods[random.Intn(len(methods))], Target: "/?" + x(random.Intn(9)), Minor: random.Intn(2), Fields: drawnFields(random), Body: body})
		status := statuses[random.Intn(len(statuses))]
		if status < 200 || status == 204 || status == 304 {
			body = ""
		}
		wantReplyBack(t, api.Reply{Status: status, Reason: strings.Repeat(" \x80", random.Intn(3)), Minor: random.Intn(2), Fields: drawnFields(random), Body: body})
		if t.Failed() {
			return
		}
	}
	wantRequestBack(t, request("PUT", "/", x(mostBody)))
	wantReplyBack(t, reply(200, "OK", x(mostOut)))
	_, l := padded(mostHead - len("GET / HTTP/1.1") - 4)
	wantRequestBack(t, api.Request{Method: "GET", Target: "/", Minor: 1, Fields: l})
	_, l = padded(mostHead - len("HTTP/1.1 200 OK\r\nContent-Length: 0\r\n") - 2)
	wantReplyBack(t, api.Reply{Status: 200, Reason: "OK", Minor: 1, Fields: l})
}

// wantAgain: P8.6 of bytes, whatever they are; it answers whether they were read.
func wantAgain(t *testing.T, s string) (read bool) {
	t.Helper()
	if r, _, e := message.Request(s); e == api.OK {
		wantRequestBack(t, r)
		read = true
	}
	for _, head := range []bool{false, true} {
		if r, _, e := message.Reply(s, head); e == api.OK {
			wantReplyBack(t, r)
			read = true
		}
	}
	return read
}

// TestReadAndWritten: P8.6, of messages of every framing, and of those that were damaged.
func TestReadAndWritten(t *testing.T) {
	random := rand.New(rand.NewSource(88))
	starts := []string{"GET / HTTP/1.1", "POST /a HTTP/1.0", "PUT * HTTP/1.7", "HTTP/1.1 200 OK", "HTTP/1.0 404 ", "HTTP/1.5 304 x", "HTTP/1.1 204 \t"}
	read := 0
	for range 3000 {
		body := drawnBody(random)
		l := others(drawnFields(random))
		switch random.Intn(3) {
		case 0:
			l = append(l, samples.Fields("Content-length", "0"+strconv.Itoa(len(body)))...)
		case 1:
			l = append(samples.Fields("transfer-Encoding", "Chunked,"), l...)
			body = chunked.Encode(body, 7)
		}
		s := starts[random.Intn(len(starts))] + "\r\n" + fields.Put(l) + "\r\n" + body
		if random.Intn(2) == 0 {
			i := random.Intn(len(s) + 1)
			s = s[:i] + string([]byte{byte(random.Intn(256))}) + s[min(i+random.Intn(3), len(s)):]
		}
		wantDefined(t, s)
		if wantAgain(t, s) {
			read++
		}
		if t.Failed() {
			return
		}
	}
	if read < 1000 {
		t.Errorf("only %d messages were read", read)
	}
}

// TestAnyBytes: P8.7, the calls answer whatever they are given, and nothing but an error then.
func TestAnyBytes(t *testing.T) {
	for _, c := range []string{"\x00", "\r\n", "\r\n\r\n", "\xff", "GET / HTTP/1.1\r\n", "HTTP/1.1 200 OK\r\n\r\n", "A: b\r\n", ":"} {
		wantDefined(t, strings.Repeat(c, 1<<16))
	}
	samples.EachByte(func(_ byte, c string) {
		for _, s := range []string{c, c + "A", "A" + c, "A" + c + "B"} {
			method, e := message.PutRequest(request(s, "/", ""))
			wantEither(t, method, e)
			target, e := message.PutRequest(request("GET", s, ""))
			wantEither(t, target, e)
			reason, e := message.PutReply(reply(200, s, ""), false)
			wantEither(t, reason, e)
			name, e := message.PutReply(reply(200, "", "", s, "b"), true)
			wantEither(t, name, e)
			value, e := message.PutRequest(request("GET", "/", "", "A", s))
			wantEither(t, value, e)
		}
	})
	least, greatest := -1<<63, 1<<63-1
	for _, n := range []int{least, -1 << 32, -1, 1<<32 + 200, 1<<32 + 1, greatest} {
		wantPutRequest(t, api.Request{Method: "GET", Target: "/", Minor: n}, "", api.ErrForm)
		wantPutReply(t, api.Reply{Status: n}, false, "", api.ErrForm)
		wantPutReply(t, api.Reply{Status: 200, Minor: n}, true, "", api.ErrForm)
	}
	wantPutRequest(t, api.Request{Method: "GET", Target: "/", Fields: make([]api.Field, 100000)}, "", api.ErrLong)
}

// wantEither: an error and nothing, or bytes that are a message.
func wantEither(t *testing.T, s string, e api.Errno) {
	t.Helper()
	if (e == api.OK) != (s != "") || e == api.OK && ask.read(s).used != len(s) && bare.read(s).used != len(s) {
		t.Errorf("%q, %d", s, e)
	}
}

// TestArgumentsStay: P8.7, also of lists with room behind their end; and what is done to one answer does not show in another.
func TestArgumentsStay(t *testing.T) {
	room := samples.Fields("A", "b", "Content-Length", "9", "C", "d", "Transfer-Encoding", "x", "E", "f", "room", "1", "room", "2", "room", "3")
	whole := slices.Clone(room)
	for n := range len(room) {
		l := room[:n]
		first, _ := message.PutRequest(api.Request{Method: "PUT", Target: "/", Fields: l, Body: "ab"})
		second, _ := message.PutReply(api.Reply{Status: 200, Fields: l, Body: "ab"}, false)
		if !slices.Equal(room, whole) {
			t.Fatalf("changed: %q", room)
		}
		wantPutRequest(t, api.Request{Method: "PUT", Target: "/", Fields: l, Body: "ab"}, first, api.OK)
		wantPutReply(t, api.Reply{Status: 200, Fields: l, Body: "ab"}, false, second, api.OK)
	}
	s := crlf("PUT / HTTP/1.1|A: b|Content-Length: 1||x")
	asked, _, _ := message.Request(s)
	clear(asked.Fields)
	ask.want(t, s, answer{"PUT / 1", samples.Fields("A", "b", "Content-Length", "1"), "x", len(s), api.OK})
	told, _, _ := message.Reply(crlf("HTTP/1.1 200 OK|A: b||x"), false)
	clear(told.Fields)
	tell.wantRest(t, crlf("|A: b||x"), of(samples.Fields("A", "b"), "x", 26))
}
