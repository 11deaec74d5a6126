package chunked_test

import (
	"math/rand"
	"regexp"
	"slices"
	"strconv"
	"strings"
	"testing"

	"inlay/api"
	"inlay/chunked"
	"inlay/fields"
	"inlay/samples"
)

const (
	mostLine = 2048
	mostHead = 8192
	mostOut  = 262144
)

// An answer is what Decode makes of a text.
type answer struct {
	body     string
	used     int
	trailers []api.Field
	e        api.Errno
}

var (
	long = answer{e: api.ErrLong}
	form = answer{e: api.ErrForm}
	more = answer{e: api.ErrMore}
)

// ok answers what is to come of a body without trailers.
func ok(body string, used int) answer {
	return answer{body: body, used: used}
}

func decode(s string, most int) (a answer) {
	a.body, a.used, a.trailers, a.e = chunked.Decode(s, most)
	return a
}

func (a answer) same(b answer) bool {
	return a.body == b.body && a.used == b.used && slices.Equal(a.trailers, b.trailers) && a.e == b.e
}

func (a answer) told() string {
	return strconv.Quote(brief(a.body)) + " of " + strconv.Itoa(len(a.body)) + ", used " + strconv.Itoa(a.used) + ", " + strconv.Itoa(len(a.trailers)) + " trailers, error " + strconv.Itoa(int(a.e))
}

func brief(s string) string {
	return s[:min(len(s), 80)]
}

func wantDecode(t *testing.T, s string, most int, want answer) {
	t.Helper()
	if got := decode(s, most); !got.same(want) {
		t.Errorf("Decode(%.80q of %d, %d) = %s; want %s", s, len(s), most, got.told(), want.told())
	}
}

func wantEncode(t *testing.T, want, body string, sizes ...int) {
	t.Helper()
	if got := chunked.Encode(body, sizes...); got != want {
		t.Errorf("Encode(%.80q, %.80v) = %.200q; want %.200q", body, sizes, got, want)
	}
}

// crlf writes the bytes 13 10 where s has a slash, as the chapter's examples do.
func crlf(s string) string {
	return strings.ReplaceAll(s, "/", "\r\n")
}

func x(n int) string {
	return strings.Repeat("x", n)
}

var sizeLine = regexp.MustCompile(`\A([0-9a-fA-F]{1,8})(;[\x09\x20-\x7e]*)?\z`)

// definedSize: the size of a line, from the definitions; below 0, if it is no size line.
func definedSize(line string) int {
	m := sizeLine.FindStringSubmatch(samples.Wide(line))
	if m == nil {
		return -1
	}
	n, _ := strconv.ParseInt(m[1], 16, 64)
	return int(n)
}

// defined: P7.1, step by step.
func defined(s string, most int) answer {
	most = max(0, min(most, mostOut))
	rest, body, total := s, "", 0
	for {
		line, after, found := strings.Cut(rest, "\r\n")
		if !found || len(line) > mostLine {
			if len(rest) >= mostLine+2 {
				return long
			}
			return more
		}
		n := definedSize(line)
		total += n
		switch {
		case n < 0:
			return form
		case total > most:
			return long
		case n == 0:
			return definedEnd(after, ok(body, len(s)-len(after)))
		case len(after) < n, after[n:] == "", after[n:] == "\r":
			return more
		case !strings.HasPrefix(after[n:], "\r\n"):
			return form
		}
		body += after[:n]
		rest = after[n+2:]
	}
}

// definedEnd: P7.1, of what is after the size line of 0, once the chunks are known.
func definedEnd(s string, so answer) answer {
	n := 0
	for _, line := range strings.SplitAfter(s, "\r\n") {
		if line == "\r\n" && n+2 <= mostHead {
			so.used += n + 2
			if so.trailers, so.e = fields.Parse(s[:n]); so.e != api.OK {
				return answer{e: so.e}
			}
			return so
		}
		n += len(line)
	}
	if len(s) >= mostHead {
		return long
	}
	return more
}

// wantDefined: P7.1, P7.4 of a text, whatever it is.
func wantDefined(t *testing.T, s string, most int) {
	t.Helper()
	want := defined(s, most)
	wantDecode(t, s, most, want)
	if want.e == api.OK && want.used < 400 {
		wantPrefixes(t, s, most, want)
	}
}

// wantPrefixes: P7.4, of a text that is decoded.
func wantPrefixes(t *testing.T, s string, most int, want answer) {
	t.Helper()
	for i := range want.used {
		wantDecode(t, s[:i], most, more)
	}
	for _, after := range []string{"", "x", "\r", "\n", "\r\n", "\r\n\r\n", "0\r\n\r\n", "\x00\xff", "A: b\r\n\r\n"} {
		wantDecode(t, s[:want.used]+after, most, want)
	}
}

// definedEncode: P7.2, one byte after the other.
func definedEncode(body string, sizes []int) string {
	var good []int
	for _, n := range sizes {
		if n > 0 {
			good = append(good, n)
		}
	}
	if len(good) == 0 {
		good = []int{max(1, len(body))}
	}
	var chunks []string
	chunk, turn := "", 0
	for i := range len(body) {
		chunk += body[i : i+1]
		if len(chunk) == good[turn%len(good)] {
			chunks = append(chunks, chunk)
			chunk = ""
			turn++
		}
	}
	if chunk != "" {
		chunks = append(chunks, chunk)
	}
	out := ""
	for _, c := range chunks {
		out += strconv.FormatInt(int64(len(c)), 16) + "\r\n" + c + "\r\n"
	}
	return out + "0\r\n\r\n"
}

func TestTheLimits(t *testing.T) {
	if api.MaxLine != mostLine || api.MaxHead != mostHead || api.MaxOut != mostOut {
		t.Errorf("MaxLine = %d, MaxHead = %d, MaxOut = %d", api.MaxLine, api.MaxHead, api.MaxOut)
	}
}

// TestExamples: P7.1, P7.2, the chapter's examples.
func TestExamples(t *testing.T) {
	wantDecode(t, crlf("3/abc/0//x"), 100, ok("abc", 13))
	wantDecode(t, crlf("0//"), 100, ok("", 5))
	wantDecode(t, crlf("3;a=b/abc/00/A: b//"), 100, answer{body: "abc", used: 24, trailers: samples.Fields("A", "b")})
	for _, s := range []string{"3/ab", "3/abc", "3", "", "0/", "0/A: b/"} {
		wantDecode(t, crlf(s), 100, more)
	}
	for _, s := range []string{"3/abcd", "g/", "/", "3 /abc/0//", "123456789/"} {
		wantDecode(t, crlf(s), 100, form)
	}
	wantDecode(t, crlf("65/"), 100, long)
	wantDecode(t, crlf("ffffffff/"), 100, long)
	wantEncode(t, crlf("3/abc/5/defgh/3/ijk/0//"), "abcdefghijk", 3, 0, 5)
	wantEncode(t, crlf("3/abc/0//"), "abc")
	wantEncode(t, crlf("0//"), "")
}

// TestSizeLines: P7.1, what a size line is, and what its size is.
func TestSizeLines(t *testing.T) {
	ten := "0123456789"
	for _, line := range []string{
		"a", "A", "0a", "0000000a", "0000000A", "a;", "a; ", "a;\t", "a;b", "a;b=c;d=\"e\"", "a; b = c", "a;;", "a;\t ~!;", "A;0", "a;a", "a;/ , \\\"",
	} {
		s := line + "\r\n" + ten + "\r\n0\r\n\r\n"
		wantDecode(t, s, 100, ok(ten, len(s)))
		s = "0" + line[strings.IndexAny(line, "aA")+1:] + "\r\n\r\n"
		wantDecode(t, s, 100, ok("", len(s)))
	}
	for _, zero := range []string{"0", "00", "000", "00000000", "0;a", "00000000;"} {
		wantDecode(t, zero+"\r\n\r\n", 0, ok("", len(zero)+4))
		wantDecode(t, "1\r\na\r\n"+zero+"\r\nA: b\r\n\r\n", 1, answer{"a", len(zero) + 16, samples.Fields("A", "b"), api.OK})
	}
	for _, line := range []string{
		"", ";", ";a", " ", "\t", " 1", "1 ", "\t1", "1\t", "1 ;a", "1a=b", "1,", "1=", "-1", "+1", "-0", "+0", "0x1", "0X1", "1h", "1_0", "1.0", "1e+1", "1\r", "\r", "\r1", "1\n", "\n1", "1\n0", "1;\n", "1;a\r", "1;\ra", "1;\x00",
		"1;\x1f", "1;\x7f", "1;\x80", "1;\xff", "1;\xc3\xa9", "1\x00", "\xef\xbc\x91", "\xd9\xa1", "g", "G", "@", "`", "/", ":", "000000001", "000000000", "100000000", "1ffffffff", strings.Repeat("0", 17), strings.Repeat("f", 64),
		strings.Repeat("0", mostLine), "0x", "\"1\"", "1\\", "\v1", "1\f",
	} {
		wantDecode(t, line+"\r\n", 100, form)
		wantDecode(t, line+"\r\na\r\n0\r\n\r\n", mostOut, form)
		wantDecode(t, "2\r\nab\r\n"+line+"\r\na\r\n0\r\n\r\n", 100, form)
	}
}

// TestSizeLineLimits: P7.1, how long a size line may be, and which error one has that does not end.
func TestSizeLineLimits(t *testing.T) {
	for _, ahead := range []string{"", "2\r\nab\r\n"} {
		body := strings.TrimSuffix(strings.TrimPrefix(ahead, "2\r\n"), "\r\n")
		whole := ahead + "1;" + x(mostLine-2) + "\r\nc\r\n0;" + x(mostLine-2) + "\r\n\r\n"
		wantDecode(t, whole+"x", 100, ok(body+"c", len(whole)))
		for _, c := range []struct {
			s    string
			want answer
		}{
			{"1;" + x(mostLine-1) + "\r\nc\r\n0\r\n\r\n", long}, {"0;" + x(mostLine-1) + "\r\n\r\n", long}, {x(mostLine+1) + "\r\n", long}, {x(mostLine) + "\r\n", form}, {x(mostLine-1) + "\r\n", form},
			{x(mostLine), more}, {x(mostLine) + "\r", more}, {x(mostLine + 1), more}, {x(mostLine + 2), long}, {x(mostLine+1) + "\r", long}, {x(mostLine) + "\rx", long}, {x(mostLine) + "\r\r", long},
			{x(mostLine) + "\r\r\n", long}, {x(mostLine-1) + "\r\r\n", form}, {x(1 << 20), long}, {x(1<<20) + "\r\n", long}, {strings.Repeat("\n", mostLine+2), long}, {strings.Repeat("\r", mostLine+2), long},
			{strings.Repeat("\n\r", mostLine), form}, {strings.Repeat("\n", mostLine), more},
			// What no line end follows yet is not judged.
			{"g", more}, {"123456789", more}, {"ffffffff", more}, {"1;\x00", more}, {"\n", more}, {"\r", more}, {"1\r", more}, {"1\n", more},
		} {
			wantDecode(t, ahead+c.s, 100, c.want)
			wantDefined(t, ahead+c.s, 100)
		}
	}
}

// TestMost: P7.1, how long a body may be; what is too long is told before any of its bytes are looked for.
func TestMost(t *testing.T) {
	least, greatest := -1<<63, 1<<63-1
	for _, most := range []int{0, -1, -100, -mostOut, least} {
		wantDecode(t, crlf("0//"), most, ok("", 5))
		wantDecode(t, crlf("1/"), most, long)
		wantDecode(t, crlf("1/a/0//"), most, long)
	}
	for most := range 40 {
		for n := range 40 {
			for _, sizes := range [][]int{nil, {1}, {7}, {3, 5}} {
				want := ok(x(n), len(chunked.Encode(x(n), sizes...)))
				if n > most {
					want = long
				}
				wantDecode(t, chunked.Encode(x(n), sizes...), most, want)
			}
		}
	}
	for _, most := range []int{mostOut - 1, mostOut, mostOut + 1, mostOut * 2, 1 << 31, 1 << 32, greatest} {
		for _, n := range []int{mostOut - 1, mostOut, mostOut + 1} {
			for _, sizes := range [][]int{nil, {1 << 16}, {3, mostOut / 2}} {
				s := chunked.Encode(x(n), sizes...)
				want := ok(x(n), len(s))
				if n > mostOut || n > most {
					want = long
				}
				wantDecode(t, s, most, want)
			}
		}
	}
	for _, size := range []string{"40001", "7fffffff", "80000000", "ffffffff", "fffffffe", "100000", "fffffffF;a"} {
		for _, most := range []int{0, mostOut, greatest} {
			wantDecode(t, size+"\r\n", most, long)
			wantDecode(t, size+"\r\nab", most, long)
		}
		wantDecode(t, crlf("1/a/"+size+"/"), greatest, long)
	}
	wantDecode(t, crlf("40000/"), greatest, more)
	wantDecode(t, crlf("1/a/40000/"), greatest, long)
	wantDecode(t, crlf("1/a/3ffff/"), greatest, more)
	wantDecode(t, crlf("3/abc/2/de/1/"), 5, long)
	wantDecode(t, crlf("3/abc/2/de/0//"), 5, ok("abcde", 20))
	// The error that is met first.
	wantDecode(t, crlf("6/abc"), 5, long)
	wantDecode(t, crlf("3/abcd6/"), 5, form)
	wantDecode(t, crlf("6g/"), 5, form)
	wantDecode(t, crlf("3/abc/6/g"), 5, long)
	wantDecode(t, crlf("3/abc/g/"), 3, form)
}

// TestChunkEnds: P7.1, the bytes of a chunk, and what follows them.
func TestChunkEnds(t *testing.T) {
	for s, want := range map[string]answer{
		"3/": more, "3/a": more, "3/ab": more, "3/abc": more, "3/abc\r": more, "3/abc/": more, "3/abc/0": more, "3/a//": more, "3//": more, "3///": form, "4////": more, "5////": form,
		"3/abcd": form, "3/abc\n": form, "3/abc\n\r": form, "3/abc\r\r": form, "3/abc\r\r\n": form, "3/abc\rx": form, "3/abc /0//": form, "3/abc0//": form, "3/abc\n0//": form, "3/abc\x00": form, "3/abcdefghijk": form,
		"3/abc//": form, "3/abc/3/": more, "3/abc/3/abc": more, "3/abc/3/abcd": form, "a/0123456789\x0d": more, "A/0123456789\x0a": form,
	} {
		wantDecode(t, crlf(s), 100, want)
		wantDecode(t, crlf("1;x/b/"+s), 101, want)
	}
	// Whatever bytes a chunk has, they are its own.
	for _, body := range []string{"\r\n", "\r", "\n", "0\r\n\r\n", "\r\n\r\n", "\x00\xff\x80", "3\r\nabc\r\n", "1;", "\n\r", strings.Repeat("\r\n", 99), strings.Repeat("\x00", 4096)} {
		size := strconv.FormatInt(int64(len(body)), 16)
		s := size + "\r\n" + body + "\r\n0\r\n\r\n"
		wantDecode(t, s, mostOut, ok(body, len(s)))
		s = size + "\r\n" + body + "\r\n" + s
		wantDecode(t, s, mostOut, ok(body+body, len(s)))
	}
	samples.EachByte(func(c byte, b string) {
		wantDecode(t, "1\r\n"+b+"\r\n0\r\n\r\n", 100, ok(b, 11))
		wantFirst, wantSecond := form, form
		if c == '\r' {
			wantFirst = more
		}
		if c == '\n' {
			wantSecond = more
		}
		wantDecode(t, "1\r\na"+b, 100, wantFirst)
		wantDecode(t, "1\r\na\r"+b, 100, wantSecond)
	})
}

// TestTrailers: P7.1, the last lines.
func TestTrailers(t *testing.T) {
	for s, want := range map[string][]api.Field{
		"A: b/": samples.Fields("A", "b"), "A:b/a:  c d  /": samples.Fields("A", "b", "a", "c d"), "A:/": samples.Fields("A", ""), "A: \r\x0a": samples.Fields("A", ""), "Content-Length: 5/": samples.Fields("Content-Length", "5"),
		strings.Repeat("A: b/", 64): slices.Repeat(samples.Fields("A", "b"), 64), "A: \xff\x80\t~/B: :/": samples.Fields("A", "\xff\x80\t~", "B", ":"),
		"A: " + x(mostLine-3) + "/": samples.Fields("A", x(mostLine-3)),
	} {
		last := "0\r\n" + crlf(s) + "\r\n"
		wantDecode(t, last, 100, answer{"", len(last), want, api.OK})
		wantDecode(t, "2\r\nab\r\n"+last+"0", 100, answer{"ab", len(last) + 7, want, api.OK})
	}
	for s, want := range map[string]answer{
		"x/": form, "A : b/": form, ": b/": form, "A b/": form, "A: b\n/": form, " A: b/": form, "A: b/ c/": form, "A: b/c/": form, "\r/": form, "\n/": form, "A: \x00/": form, "A: b\r/": form, "0/": form,
		strings.Repeat("A: b/", 65): long, "A: " + x(mostLine-2) + "/": long, "A:" + x(mostLine-2) + "/": long, x(mostLine+1) + "/": long, x(mostLine) + "/": form, "x/" + x(mostLine+1) + "/": form, x(mostLine+1) + "/x/": long,
		"x/" + strings.Repeat("A: b/", 65): form,
	} {
		wantDecode(t, "0\r\n"+crlf(s)+"\r\n", 100, want)
		wantDecode(t, "2\r\nab\r\n0;x\r\n"+crlf(s)+"\r\n0\r\n\r\n", 100, want)
		// Nothing is told of the lines before the empty one is there.
		wantDecode(t, "0\r\n"+crlf(s), 100, more)
		wantDecode(t, "0\r\n"+crlf(s)+"\r", 100, more)
	}
	for _, s := range []string{"", "\r", "x", "A: b", "A: b\r", "A: b/", "A: b/\r", "A: b/\n", "\n", "\n\r", "\r\r", "A: b\n\n", "A: b\r\r", "A: b/c: d/"} {
		wantDecode(t, "0\r\n"+crlf(s), 100, more)
	}
}

// TestTrailerLimits: P7.1, within how many bytes the empty line ends.
func TestTrailerLimits(t *testing.T) {
	// lines answers field lines of n bytes, and those fields.
	lines := func(n int) (string, []api.Field) {
		l := slices.Repeat(samples.Fields("A", x(997)), (n-50)/1002)
		l = append(l, samples.Fields("B", x(n-len(fields.Put(l))-5))...)
		return fields.Put(l), l
	}
	for n := mostHead - 6; n <= mostHead+4; n++ {
		s, l := lines(n)
		if len(s) != n {
			t.Fatalf("%d bytes of lines; want %d", len(s), n)
		}
		want := answer{"", n + 5, l, api.OK}
		if n+2 > mostHead {
			want = long
		}
		for _, after := range []string{"", "x", x(mostHead)} {
			wantDecode(t, "0\r\n"+s+"\r\n"+after, 100, want)
		}
		short := more
		if n >= mostHead {
			short = long
		}
		wantDecode(t, "0\r\n"+s, 100, short)
		if n == mostHead-1 {
			short = long
		}
		wantDecode(t, "0\r\n"+s+"\r", 100, short)
	}
	for n, want := range map[int]answer{mostHead - 1: more, mostHead: long, mostHead + 1: long, 1 << 20: long} {
		for _, c := range []string{"x", "\r", "\n", "\x00"} {
			wantDecode(t, "0\r\n"+strings.Repeat(c, n), 100, want)
			wantDecode(t, "1\r\na\r\n0;b\r\n"+strings.Repeat(c, n), 100, want)
		}
	}
	// The lines are judged once the empty line is found, and not otherwise.
	wantDecode(t, "0\r\n"+x(mostHead-4)+"\r\n\r\n", 100, long)
	wantDecode(t, "0\r\n"+strings.Repeat("x\r\n", 2730)+"\r\n", 100, form)
	wantDecode(t, "0\r\n"+strings.Repeat("x\r\n", 2731)+"\r\n", 100, long)
	wantDecode(t, "0\r\n"+strings.Repeat("x\r\n", 2730), 100, more)
	// The empty line that counts is the first; how long what is ahead of it is, makes no difference.
	whole := "2\r\nab\r\n0;" + x(mostLine-2) + "\r\nA: b\r\n\r\n"
	wantDecode(t, whole+"C: d\r\n\r\n", 100, answer{"ab", len(whole), samples.Fields("A", "b"), api.OK})
	wantDecode(t, crlf("0///"), 100, ok("", 5))
	wantDecode(t, crlf("0//A: b//"), 100, ok("", 5))
}

// TestByDefinition: P7.1, P7.4, every text of few pieces.
func TestByDefinition(t *testing.T) {
	samples.Words([]string{"0", "1", "2", "g", "\r\n", "\r", "\n", ";", " "}, 6, func(s string) {
		wantDefined(t, s, 3)
	})
	samples.Words([]string{"2\r\n", "1;a\r\n", "0\r\n", "ab", "c", "\r\n", "\r", "\n", "A: b\r\n", "C:\r\n"}, 6, func(s string) {
		wantDefined(t, s, 5)
	})
}

// TestEachByte: P7.1, P7.4, every byte at every place of a body: put there, and in place of what stood there.
func TestEachByte(t *testing.T) {
	for _, s := range []string{crlf("3;a=b/abc/00/A: b//"), crlf("1/a/A;/0123456789/0//"), crlf("0/A:b/c: d//")} {
		wantDefined(t, s, 100)
		samples.Spoilt(s, func(s string) { wantDefined(t, s, 12) })
	}
}

// TestEncode: P7.2.
func TestEncode(t *testing.T) {
	least, greatest := -1<<63, 1<<63-1
	for _, c := range []struct {
		want, body string
		sizes      []int
	}{
		{"0//", "", []int{1}}, {"0//", "", []int{0}}, {"0//", "", []int{-1, 0, 5}}, {"0//", "", []int{least}},
		{"1/a/0//", "a", nil}, {"1/a/0//", "a", []int{1}}, {"1/a/0//", "a", []int{2}}, {"1/a/0//", "a", []int{greatest}}, {"3/abc/0//", "abc", []int{0}}, {"3/abc/0//", "abc", []int{0, -1, least}}, {"3/abc/0//", "abc", []int{3}},
		{"3/abc/0//", "abc", []int{4}}, {"3/abc/0//", "abc", []int{3, 1}}, {"1/a/1/b/1/c/0//", "abc", []int{1}}, {"2/ab/1/c/0//", "abc", []int{2}}, {"1/a/2/bc/0//", "abc", []int{1, 2}}, {"1/a/2/bc/0//", "abc", []int{1, greatest}},
		{"1/a/2/bc/1/d/2/ef/1/g/0//", "abcdefg", []int{1, 2}}, {"2/ab/2/cd/2/ef/0//", "abcdef", []int{-5, 2, 0}}, {"1/a/2/bc/3/def/1/g/1/h/0//", "abcdefgh", []int{0, 1, -1, 2, 0, 3, least}},
		{"a/0123456789/0//", "0123456789", nil}, {"b/0123456789a/0//", "0123456789a", []int{11}}, {"f/0123456789abcde/1/f/0//", "0123456789abcdef", []int{15}}, {"10/0123456789abcdef/0//", "0123456789abcdef", []int{16}},
		{"2/\r\n/1/\x00/0//", "\r\n\x00", []int{2}}, {"2/\xff0/0//", "\xff0", nil},
	} {
		wantEncode(t, crlf(c.want), c.body, c.sizes...)
	}
	wantEncode(t, "abc\r\n"+x(0xabc)+"\r\n0\r\n\r\n", x(0xabc))
	wantEncode(t, "186a0\r\n"+x(100000)+"\r\n0\r\n\r\n", x(100000), 0)
	many := slices.Repeat([]int{0, -1}, 10000)
	wantEncode(t, crlf("2/ab/1/c/0//"), "abc", append(many, 2)...)
	wantEncode(t, crlf("3/abc/0//"), "abc", many...)
	// A body that is too long to be decoded is encoded all the same.
	wantEncode(t, "40000\r\n"+x(mostOut)+"\r\n1\r\nx\r\n0\r\n\r\n", x(mostOut+1), mostOut)
}

// drawn calls f with bodies and sizes, drawn anew each time, till one of them fails.
func drawn(t *testing.T, n int, f func(body string, sizes []int, random *rand.Rand)) {
	t.Helper()
	random := rand.New(rand.NewSource(7))
	pieces := []string{"a", "b", "\r\n", "\r", "\n", "0", "0\r\n\r\n", ";", "\x00", "\xff", "3\r\nabc\r\n", x(20)}
	for range n {
		var body strings.Builder
		for range random.Intn(12) {
			body.WriteString(pieces[random.Intn(len(pieces))])
		}
		var sizes []int
		for range random.Intn(5) {
			sizes = append(sizes, random.Intn(20)-3)
		}
		f(body.String(), sizes, random)
		if t.Failed() {
			return
		}
	}
}

// TestThereAndBack: P7.2, P7.3, P7.4.
func TestThereAndBack(t *testing.T) {
	drawn(t, 5000, func(body string, sizes []int, random *rand.Rand) {
		s := chunked.Encode(body, sizes...)
		wantEncode(t, definedEncode(body, sizes), body, sizes...)
		wantPrefixes(t, s, len(body), ok(body, len(s)))
		wantDecode(t, s+strings.Repeat(s, random.Intn(3)), mostOut, ok(body, len(s)))
		if body != "" {
			wantDecode(t, s, len(body)-1, long)
		}
	})
	for _, n := range []int{1, 15, 16, 17, 255, 256, 4095, 4096, 65535, 65536, mostOut - 1, mostOut} {
		for _, sizes := range [][]int{nil, {0}, {1}, {1, 2}, {15, 16, 17}, {1 << 12}, {mostOut}, {1<<63 - 1}} {
			body := strings.Repeat("\r\n0", n)[:n]
			s := chunked.Encode(body, sizes...)
			wantDecode(t, s, n, ok(body, len(s)))
			wantDecode(t, s+"\r\n", mostOut, ok(body, len(s)))
			wantDecode(t, s[:len(s)-1], mostOut, more)
			wantDecode(t, s, n-1, long)
		}
	}
	s := chunked.Encode(x(mostOut+1), 9)
	wantDecode(t, s, mostOut+1, long)
}

// TestPrefixes: P7.4, of texts with extensions and trailers, and of one at each limit.
func TestPrefixes(t *testing.T) {
	for _, s := range []string{"0//", "3;a=b/abc/00/A: b//", "1;/a/0001; b\t/b/00000000;x/A:/b: c  /D: e//", "2/\r\n/2///A;/0123456789/0/A: b//"} {
		s = crlf(s)
		want := decode(s, 100)
		if want.e != api.OK || want.used != len(s) {
			t.Fatalf("Decode(%q) = %s", s, want.told())
		}
		wantPrefixes(t, s, 100, want)
		wantDefined(t, s, 100)
	}
	trailers := slices.Repeat(samples.Fields("A", x(mostLine-5)), 3)
	trailers = append(trailers, samples.Fields("B", x(mostHead-2-len(fields.Put(trailers))-5))...)
	s := "2;" + x(mostLine-2) + "\r\nab\r\n0;" + x(mostLine-2) + "\r\n" + fields.Put(trailers) + "\r\n"
	wantPrefixes(t, s, 2, answer{"ab", len(s), trailers, api.OK})
}

// TestAnyText: P7.1, P7.4, texts that were damaged.
func TestAnyText(t *testing.T) {
	drawn(t, 10000, func(body string, sizes []int, random *rand.Rand) {
		s := chunked.Encode(body, sizes...)
		if random.Intn(2) == 0 {
			s = strings.TrimSuffix(s, "\r\n") + "A: b\r\nC: " + strings.Map(func(r rune) rune { return max(r, ' ') }, body) + "x\r\n\r\n"
		}
		for range random.Intn(4) {
			s = samples.Damaged(random.Intn, s, "", "\r\n1;x")
		}
		wantDefined(t, s, random.Intn(60))
	})
	for _, c := range []string{"\x00", "\r\n", "0\r\n", "1\r\n", "\xff", "1\r\na\r\n", "0", ";", "f"} {
		wantDefined(t, strings.Repeat(c, 1<<16), mostOut)
	}
}

// TestNothingIsKept: the sizes stay as they are, and what is done to one answer does not show in another.
func TestNothingIsKept(t *testing.T) {
	room := []int{0, 2, -1, 3, 0, 9, 9}
	given := room[:5]
	wantEncode(t, crlf("2/ab/3/cde/1/f/0//"), "abcdef", given...)
	if !slices.Equal(room, []int{0, 2, -1, 3, 0, 9, 9}) {
		t.Errorf("changed: %v", room)
	}
	clear(given)
	wantEncode(t, crlf("6/abcdef/0//"), "abcdef", given...)
	s := crlf("1/a/0/A: b/C: d//")
	first := decode(s, 9)
	clear(first.trailers)
	wantDecode(t, s, 9, answer{"a", len(s), samples.Fields("A", "b", "C", "d"), api.OK})
}
