package framing_test

import (
	"math/big"
	"math/rand"
	"regexp"
	"slices"
	"strings"
	"testing"

	"inlay/api"
	"inlay/framing"
	"inlay/samples"
	"inlay/text"
)

const (
	mostBody = 65536
	mostOut  = 262144
)

// An answer is what a call makes of fields.
type answer struct {
	f framing.Framing
	e api.Errno
}

var (
	none    = answer{}
	chunked = answer{f: framing.Framing{Kind: 2}}
	toEnd   = answer{f: framing.Framing{Kind: 3}}
	long    = answer{e: api.ErrLong}
	form    = answer{e: api.ErrForm}
	frame   = answer{e: api.ErrFrame}
)

func length(n int) answer {
	return answer{f: framing.Framing{Kind: 1, N: n}}
}

func request(l []api.Field) (a answer) {
	a.f, a.e = framing.Request(l)
	return a
}

func reply(l []api.Field, status int, head bool) (a answer) {
	a.f, a.e = framing.Reply(l, status, head)
	return a
}

// sized and coded answer fields of the name, one a value, spelt otherwise every other time.
func sized(values ...string) []api.Field {
	return spelt("Content-Length", values)
}

func coded(values ...string) []api.Field {
	return spelt("Transfer-Encoding", values)
}

func spelt(name string, values []string) []api.Field {
	var out []api.Field
	for i, v := range values {
		if i%2 == 1 {
			name = strings.ToLower(name)
		}
		out = append(out, samples.Fields(name, v)...)
	}
	return out
}

func wantRequest(t *testing.T, l []api.Field, want answer) {
	t.Helper()
	if got := request(l); got != want {
		t.Errorf("Request(%.200q) = %v; want %v", l, got, want)
	}
}

func wantReply(t *testing.T, l []api.Field, status int, head bool, want answer) {
	t.Helper()
	if got := reply(l, status, head); got != want {
		t.Errorf("Reply(%.200q, %d, %v) = %v; want %v", l, status, head, got, want)
	}
}

// wantAll holds l against what Request, and Reply with a body and without one, are to answer.
func wantAll(t *testing.T, l []api.Field, ask, tell, bare answer) {
	t.Helper()
	wantRequest(t, l, ask)
	wantReply(t, l, 200, false, tell)
	wantReply(t, l, 304, false, bare)
	wantReply(t, l, 200, true, bare)
}

// wantFault holds l against a fault that is told whatever the body would be.
func wantFault(t *testing.T, l []api.Field, want answer) {
	t.Helper()
	wantAll(t, l, want, want, want)
}

// said answers how many fields of the name there are, the elements of their values, and whether a value has an error.
func said(l []api.Field, name string) (values int, elements []string, amiss bool) {
	for _, f := range l {
		if text.Lower(f.Name) != name {
			continue
		}
		some, e := text.Split(f.Value, ',')
		values++
		elements = append(elements, some...)
		amiss = amiss || e != api.OK
	}
	return values, elements, amiss
}

var (
	digits = regexp.MustCompile(`\A[0-9]{1,18}\z`)
	coding = regexp.MustCompile(`\A[cC][hH][uU][nN][kK][eE][dD]\z`)
)

// defined: what P6.1 and P6.2 say for a body of at most so many bytes, whose framing is otherwise without fields; without a limit, if most is below 0.
func defined(l []api.Field, most, otherwise int) answer {
	lengths, numbers, badLength := said(l, "content-length")
	codings, names, badCoding := said(l, "transfer-encoding")
	notLength := func(s string) bool { return !digits.MatchString(s) }
	var set []string
	for _, s := range numbers {
		n, _ := new(big.Int).SetString(s, 10)
		set = append(set, n.String())
	}
	slices.Sort(set)
	set = slices.Compact(set)
	switch {
	case lengths > 0 && codings > 0:
		return frame
	case badLength || badCoding, lengths > 0 && len(numbers) == 0, codings > 0 && len(names) == 0, slices.ContainsFunc(numbers, notLength):
		return form
	case codings > 0 && (len(names) != 1 || !coding.MatchString(names[0])):
		return form
	case len(set) > 1:
		return frame
	case codings > 0:
		return chunked
	case lengths == 0:
		return answer{f: framing.Framing{Kind: otherwise}}
	}
	n, _ := new(big.Int).SetString(set[0], 10)
	if most >= 0 && n.Cmp(big.NewInt(int64(most))) > 0 {
		return long
	}
	return length(int(n.Int64()))
}

// wantDefined: P6.1, P6.2 of fields, whatever they are.
func wantDefined(t *testing.T, l []api.Field) {
	t.Helper()
	bare := answer{e: defined(l, -1, 0).e}
	wantAll(t, l, defined(l, mostBody, 0), defined(l, mostOut, 3), bare)
}

// TestTheKinds: the numbers that stand for them, and the limits.
func TestTheKinds(t *testing.T) {
	if kinds := [...]int{framing.None, framing.Length, framing.Chunked, framing.Close}; kinds != [...]int{0, 1, 2, 3} {
		t.Errorf("kinds: %v", kinds)
	}
	if api.MaxBody != mostBody || api.MaxOut != mostOut {
		t.Errorf("MaxBody = %d, MaxOut = %d", api.MaxBody, api.MaxOut)
	}
}

// TestExamples: P6.1, P6.2, the chapter's examples.
func TestExamples(t *testing.T) {
	wantAll(t, nil, none, toEnd, none)
	wantAll(t, samples.Fields("Content-Length", "5"), length(5), length(5), none)
	wantAll(t, samples.Fields("Content-Length", "5, 005", "content-length", "5"), length(5), length(5), none)
	wantFault(t, samples.Fields("Content-Length", "5", "Content-Length", "6"), frame)
	for _, s := range []string{"+5", "", "5;", "5\"", strings.Repeat("5", 19)} {
		wantFault(t, samples.Fields("Content-Length", s), form)
	}
	wantAll(t, samples.Fields("Content-Length", "65537"), long, length(65537), none)
	wantAll(t, samples.Fields("Content-Length", "262145"), long, long, none)
	wantAll(t, samples.Fields("Transfer-Encoding", "Chunked"), chunked, chunked, none)
	wantFault(t, samples.Fields("Transfer-Encoding", "gzip, chunked"), form)
	wantFault(t, samples.Fields("Transfer-Encoding", "chunked, chunked"), form)
	wantFault(t, samples.Fields("Transfer-Encoding", "chunked", "Content-Length", "x"), frame)
}

// TestLengths: P6.1, P6.2, what a length is, and how large it may be.
func TestLengths(t *testing.T) {
	zeros := strings.Repeat("0", 12)
	for s, n := range map[string]int{
		"0": 0, "00": 0, zeros + "000000": 0, "1": 1, zeros + "000001": 1, " 7\t": 7, "9": 9, "08": 8, "65535": mostBody - 1, "65536": mostBody, zeros + "065536": mostBody,
		"3,3": 3, ", ,3,": 3, "3 ,\t03,  003": 3, "0,00": 0,
	} {
		wantAll(t, sized(s), length(n), length(n), none)
	}
	for s, n := range map[string]int{"65537": mostBody + 1, "262143": mostOut - 1, "262144": mostOut, zeros + "262144": mostOut, "65537, 065537": mostBody + 1} {
		wantAll(t, sized(s), long, length(n), none)
	}
	for _, s := range []string{
		"262145", zeros + "262145", "2147483648", "4294967296", "4294967301", strings.Repeat("9", 18), "1" + strings.Repeat("0", 17), "262145,262145",
	} {
		wantAll(t, sized(s), long, long, none)
	}
	for _, s := range []string{
		" ", ",", ", ,\t", "-5", "+0", "-0", "5 5", "5\t5", "5.", "5.0", "0x5", "5e0", "5_0", "5a", "a5", "a", "/", ":", "5\x00", "\x005", "\n5", "5\r", "\"5\"", "5=5", "5;5", "\\5", "chunked",
		"\xd9\xa5", "\xef\xbc\x95", "5\xa0", "\xff", strings.Repeat("0", 19), zeros + "0000005", "18446744073709551621", strings.Repeat("0", 1<<16), "\"", "5,\"", "\"5", "5, \"6",
		"5,+5", "5,x,5", "5,\"\"", "5;q=1,5",
	} {
		wantFault(t, sized(s), form)
	}
}

// TestSeveralLengths: P6.1, of several values, and of several fields.
func TestSeveralLengths(t *testing.T) {
	for _, values := range [][]string{{"4", "4"}, {"4", "", "4"}, {"", "4"}, {",", "4"}, {"4,04", "004", "4"}, slices.Repeat([]string{"4"}, 100), slices.Repeat([]string{"4,4", " "}, 100)} {
		wantAll(t, sized(values...), length(4), length(4), none)
	}
	for _, values := range [][]string{{"", ""}, {",", " ", ", ,"}, {"4", "x"}, {"4", "\"", "4"}, {"x", "4"}, {"4", "4;"}, {"\"4", "4\""}} {
		wantFault(t, sized(values...), form)
	}
	for _, values := range [][]string{{"4,5"}, {"4", "5"}, {"4", "4", "40"}, {"4,4,4", "5"}, {"0", "1"}, {"65537", "65538"}, {"4", "", "262145"}, {"4294967300,4"}, {strings.Repeat("9", 18), "9"}} {
		wantFault(t, sized(values...), frame)
	}
	many := func(n int) string { return strings.Repeat("4,", n) }
	wantAll(t, sized(many(64)), length(4), length(4), none)
	wantAll(t, sized(many(64), many(64), "4"), length(4), length(4), none)
	// More elements in one value than a list may have are an error of Split, and none of how long the body is.
	wantFault(t, sized(many(65)), form)
	wantFault(t, sized("4", many(65)), form)
}

// TestCodings: P6.1, P6.2, the one coding that is known, once.
func TestCodings(t *testing.T) {
	for _, values := range [][]string{{"chunked"}, {"CHUNKED"}, {"chunkeD"}, {" chunked\t"}, {",chunked, ,"}, {"", "chunked"}, {"chunked", ",", " "}} {
		wantAll(t, coded(values...), chunked, chunked, none)
	}
	for _, values := range [][]string{
		{""}, {" "}, {","}, {"", ""}, {"identity"}, {"gzip"}, {"chunke"}, {"chunkedd"}, {"xchunked"}, {"chunked;q=1"}, {"chunked;"}, {"\"chunked\""}, {"chun ked"}, {"chunked\x00"}, {"chunked\n"}, {"\vchunked"},
		{"chun\xe2\x84\xaaed"}, {"chunked\xff"}, {"5"}, {"0"}, {"chunked\""}, {"chunked, \""}, {"\""}, {"chunked,chunked"}, {"chunked", "chunked"}, {"chunked", "Chunked"}, {"chunked,gzip"}, {"gzip", "chunked"},
		{"chunked", "gzip"}, {"chunked", "\""}, {strings.Repeat("chunked,", 64)}, {strings.Repeat("chunked,", 65)}, {"chunked", strings.Repeat("x,", 65)},
	} {
		wantFault(t, coded(values...), form)
	}
}

// TestWhichErrorIsFirst: P6.1, P6.2.
func TestWhichErrorIsFirst(t *testing.T) {
	// Fields of both names, whatever they say.
	for _, size := range []string{"5", "", "x", "\"", "5,6", "65537", "262145"} {
		for _, code := range []string{"chunked", "", "gzip", "\"", "chunked,chunked"} {
			wantFault(t, append(sized(size), coded(code)...), frame)
			wantFault(t, append(coded(code), sized(size)...), frame)
		}
	}
	wantFault(t, append(sized("5", "6"), coded("chunked", "x")...), frame)
	// What is no length is told ahead of lengths that differ, and those ahead of lengths that are too large.
	wantFault(t, sized("5,6,x"), form)
	wantFault(t, sized("5", "6", "\""), form)
	wantFault(t, sized("262145,x"), form)
	wantFault(t, sized("262145", "262146"), frame)
	wantFault(t, sized("262145", "5"), frame)
}

// TestStatuses: P6.2, which replies have no body, whatever their fields say.
func TestStatuses(t *testing.T) {
	statuses := []int{-1 << 63, -1 << 31, -304, -204, -100, 1 << 31, 1<<32 + 100, 1<<32 + 204, 1<<63 - 1}
	for n := range 1100 {
		statuses = append(statuses, n-50)
	}
	for _, n := range statuses {
		bare := 100 <= n && n <= 199 || n == 204 || n == 304
		for _, c := range []struct {
			l    []api.Field
			want answer
		}{
			{nil, toEnd}, {samples.Fields("X", "5"), toEnd}, {sized("5"), length(5)}, {sized("0"), length(0)}, {sized("262144"), length(mostOut)}, {sized("262145"), long}, {coded("chunked"), chunked},
			{sized("x"), form}, {sized("\""), form}, {sized("5,6"), frame}, {coded("x"), form}, {append(coded("chunked"), sized("5")...), frame},
		} {
			without := none
			if c.want == form || c.want == frame {
				without = c.want
			}
			want := c.want
			if bare {
				want = without
			}
			wantReply(t, c.l, n, false, want)
			wantReply(t, c.l, n, true, without)
		}
	}
}

// TestByDefinition: P6.1, P6.2, every value of few pieces, of each name.
func TestByDefinition(t *testing.T) {
	samples.Words([]string{"5", "0", "65536", "2", ",", " ", "\t", "\"", "\\", "x", "+"}, 4, func(s string) {
		wantDefined(t, sized(s))
		wantDefined(t, sized(s, "5"))
		wantDefined(t, sized("05,", s))
	})
	samples.Words([]string{"chunked", "CHUNKED", "gzip", ",", " ", "\t", "\"", "\\", ";"}, 4, func(s string) {
		wantDefined(t, coded(s))
		wantDefined(t, coded(s, "chunked"))
		wantDefined(t, coded(",", s))
	})
	for _, s := range []string{"5", "55", "chunked"} {
		samples.Spoilt(s, func(s string) {
			wantDefined(t, sized(s))
			wantDefined(t, coded(s))
		})
	}
}

// drawn calls f with lists of fields, drawn anew each time, till one of them fails.
func drawn(t *testing.T, n int, f func(l []api.Field, random *rand.Rand)) {
	t.Helper()
	random := rand.New(rand.NewSource(6))
	names := []string{"Content-Length", "content-length", "CONTENT-LENGTH", "Transfer-Encoding", "transfer-encoding"}
	values := []string{"5", "5", "5", "05", "5, 5", "6", "65537", "262145", "", ",", "x", "\"", "chunked", "chunked", "Chunked", "gzip"}
	for range n {
		some := names
		switch random.Intn(3) {
		case 0:
			some = names[:3]
		case 1:
			some = names[3:]
		}
		var l []api.Field
		for range random.Intn(4) {
			l = append(l, samples.Fields(some[random.Intn(len(some))], values[random.Intn(len(values))])...)
		}
		f(l, random)
		if t.Failed() {
			return
		}
	}
}

// wantSame: P6.3, that the calls make the same of two lists.
func wantSame(t *testing.T, l, other []api.Field) {
	t.Helper()
	wantRequest(t, other, request(l))
	for _, status := range []int{100, 200, 204, 304, 500} {
		wantReply(t, other, status, false, reply(l, status, false))
		wantReply(t, other, status, true, reply(l, status, true))
	}
}

// TestOtherFields: P6.3, wherever they stand; names that are nearly those that count are other names.
func TestOtherFields(t *testing.T) {
	others := samples.Fields("Host", "h", "Content-Length ", "7", "Content-Lengt", "x", "XContent-Length", "6", "Content_Length", "6", "", "chunked", "Transfer-Encodin", "x", "Transfer-Encoding:", "gzip", "TE", "\"", "Content-Type", "5",
		"Connection", "Content-Length, Transfer-Encoding", "Trailer", "Content-Length", "Content-\xe2\x84\xaa", "\n", "transfer\xad-encoding", "chunked")
	wantAll(t, others, none, toEnd, none)
	drawn(t, 5000, func(l []api.Field, random *rand.Rand) {
		wantDefined(t, l)
		mixed := slices.Clone(l)
		for range random.Intn(8) {
			mixed = slices.Insert(mixed, random.Intn(len(mixed)+1), others[random.Intn(len(others))])
		}
		wantSame(t, l, mixed)
	})
	// Fields count however many there are beside them.
	wantAll(t, append(slices.Repeat(others, 100), sized("5")...), length(5), length(5), none)
	wantFault(t, append(sized("5"), append(slices.Repeat(others, 100), coded("chunked")...)...), frame)
}

// TestOrderAndRepetition: P6.3; fields may change places, their names may be spelt otherwise, and lengths may be told again.
func TestOrderAndRepetition(t *testing.T) {
	drawn(t, 5000, func(l []api.Field, random *rand.Rand) {
		moved := slices.Clone(l)
		random.Shuffle(len(moved), func(i, j int) { moved[i], moved[j] = moved[j], moved[i] })
		wantSame(t, l, moved)
		shouted := slices.Clone(l)
		for i := range shouted {
			shouted[i].Name = strings.ToUpper(shouted[i].Name)
		}
		wantSame(t, l, shouted)
		for _, f := range l {
			if text.Same(f.Name, "content-length") {
				again := slices.Insert(slices.Clone(l), random.Intn(len(l)+1), f)
				wantSame(t, l, again)
				wantSame(t, l, append(again, slices.Repeat([]api.Field{f}, 70)...))
			}
		}
	})
}

// TestArgumentsStay: P6.4, also of lists with room behind their end; and a list that is nil is one that is empty.
func TestArgumentsStay(t *testing.T) {
	drawn(t, 2000, func(l []api.Field, _ *rand.Rand) {
		room := append(slices.Clone(l), slices.Repeat(samples.Fields("Content-Length", "room"), 8)...)
		whole := slices.Clone(room)
		given := room[:len(l)]
		wantSame(t, l, given)
		first := request(given)
		if !slices.Equal(room, whole) {
			t.Errorf("changed: %q; was %q", room, whole)
		}
		clear(given)
		wantRequest(t, l, first)
	})
	wantSame(t, nil, []api.Field{})
}

// TestAnyBytes: P6.4, lists that no message has.
func TestAnyBytes(t *testing.T) {
	wantFault(t, sized(strings.Repeat("\xff\x00", 1<<16)), form)
	wantFault(t, coded(strings.Repeat("\"", 1<<16+1)), form)
	wantFault(t, sized(strings.Repeat("5,", 1<<16)), form)
	wantAll(t, sized(strings.Repeat(",", 1<<16)+"5"), length(5), length(5), none)
	wantAll(t, sized(slices.Repeat([]string{"5"}, 1<<12)...), length(5), length(5), none)
	wantAll(t, make([]api.Field, 1<<12), none, toEnd, none)
}
