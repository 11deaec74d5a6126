package store_test

import (
	"fmt"
	"math"
	"math/rand"
	"reflect"
	"runtime"
	"slices"
	"strconv"
	"strings"
	"testing"
	"unsafe"

	"inlay/api"
	"inlay/samples"
	"inlay/store"
	"inlay/text"
	"inlay/vary"
)

const (
	mostEntries = 4096
	mostBytes   = 1 << 30
)

// entry answers one with the body, whose Vary has names and values in turn.
func entry(body string, pairs ...string) api.Entry {
	return api.Entry{Reply: api.Reply{Body: body}, Vary: samples.Fields(pairs...)}
}

// A stored is what the model keeps of an entry.
type stored struct {
	key   string
	entry api.Entry
	put   int
}

// A model is a store as the chapter tells it, word by word; the least recently used entry is the first.
type model struct {
	entries, bytes, puts int
	list                 []stored
}

func sameVary(a, b []api.Field) bool {
	return slices.EqualFunc(a, b, func(f, g api.Field) bool { return text.Same(f.Name, g.Name) && f.Value == g.Value })
}

func sizeOf(x stored) int {
	parts := []string{x.key, x.entry.Reply.Reason, x.entry.Reply.Body}
	for _, f := range slices.Concat(x.entry.Reply.Fields, x.entry.Vary) {
		parts = append(parts, f.Name, f.Value)
	}
	return 64 + len(strings.Join(parts, ""))
}

func (m *model) total() int {
	sum := 0
	for _, x := range m.list {
		sum += sizeOf(x)
	}
	return sum
}

// remove takes out those for which gone is true, and answers how many there were.
func (m *model) remove(gone func(x stored) bool) int {
	before := len(m.list)
	m.list = slices.DeleteFunc(m.list, gone)
	return before - len(m.list)
}

func (m *model) removeSame(key string, e api.Entry) bool {
	return m.remove(func(x stored) bool { return x.key == key && sameVary(x.entry.Vary, e.Vary) }) > 0
}

func (m *model) put(key string, e api.Entry) bool {
	m.removeSame(key, e)
	m.puts++
	x := stored{key, e, m.puts}
	if sizeOf(x) > m.bytes {
		return false
	}
	m.list = append(m.list, x)
	for len(m.list) > m.entries || m.total() > m.bytes {
		m.list = m.list[1:]
	}
	return true
}

func (m *model) find(key string, req []api.Field) (api.Entry, bool) {
	best := -1
	for i, x := range m.list {
		if x.key == key && vary.Matches(x.entry, req) && (best < 0 || x.put > m.list[best].put) {
			best = i
		}
	}
	if best < 0 {
		return api.Entry{}, false
	}
	x := m.list[best]
	m.list = append(slices.Delete(m.list, best, best+1), x)
	return x.entry, true
}

func (m *model) names(key string) []string {
	var out []string
	for _, x := range m.list {
		for _, f := range x.entry.Vary {
			if x.key == key && !slices.ContainsFunc(out, func(name string) bool { return text.Same(name, f.Name) }) {
				out = append(out, f.Name)
			}
		}
	}
	return out
}

func (m *model) keys() []string {
	var out []string
	for _, x := range m.list {
		out = append(out, x.key)
	}
	return out
}

// A trial does the same with a store and with the model of it, and tells where they part.
type trial struct {
	*testing.T
	real  *store.Store
	model model
	done  []string
}

func newTrial(t *testing.T, entries, bytes int) *trial {
	t.Helper()
	s := store.New(entries, bytes)
	if s == nil {
		t.Fatalf("New(%d, %d) = nil", entries, bytes)
	}
	return &trial{T: t, real: s, model: model{entries: entries, bytes: bytes}}
}

// says notes a call and what it answered, and reports it, with what was done before, if that is not right.
func (w *trial) says(call string, got, want any) {
	w.Helper()
	w.done = append(w.done, call)
	if fmt.Sprint(got) != fmt.Sprint(want) {
		w.Errorf("store of %d and %d: %s: the last answers %.300v; want %.300v", w.model.entries, w.model.bytes, strings.Join(w.done[max(0, len(w.done)-20):], ", "), got, want)
	}
}

func told(key string, e api.Entry) string {
	return fmt.Sprintf("%.20q, %.20q %s", key, e.Reply.Body, samples.Told(e.Vary))
}

func (w *trial) put(key string, e api.Entry) {
	w.Helper()
	w.says("Put("+told(key, e)+")", w.real.Put(key, e), w.model.put(key, e))
}

// find holds what is found, all of it.
func (w *trial) find(key string, req []api.Field) {
	w.Helper()
	got, ok := w.real.Find(key, req)
	want, found := w.model.find(key, req)
	w.says(fmt.Sprintf("Find(%.20q, %s)", key, samples.Told(req)), told("", got)+strconv.FormatBool(ok), told("", want)+strconv.FormatBool(found))
	if !reflect.DeepEqual(got, want) {
		w.Errorf("%s: %.300v; want %.300v", w.done[len(w.done)-1], got, want)
	}
}

func (w *trial) remove(key string, e api.Entry) {
	w.Helper()
	w.says("Remove("+told(key, e)+")", w.real.Remove(key, e), w.model.removeSame(key, e))
}

func (w *trial) drop(key string) {
	w.Helper()
	w.says(fmt.Sprintf("Drop(%.20q)", key), w.real.Drop(key), w.model.remove(func(x stored) bool { return x.key == key }))
}

func (w *trial) forget(n int) {
	w.Helper()
	want := n >= 0 && n < len(w.model.list)
	if want {
		w.model.list = slices.Delete(w.model.list, n, n+1)
	}
	w.says(fmt.Sprintf("Forget(%d)", n), w.real.Forget(n), want)
}

// state holds all that is told of the store and of the keys, which stays as it is, and that it is within both limits.
func (w *trial) state(keys ...string) {
	w.Helper()
	before := len(w.done)
	for _, key := range keys {
		w.says(fmt.Sprintf("Names(%.20q)", key), fmt.Sprintf("%q", w.real.Names(key)), fmt.Sprintf("%q", w.model.names(key)))
	}
	w.says("Keys()", fmt.Sprintf("%q", w.real.Keys()), fmt.Sprintf("%q", w.model.keys()))
	w.says("Bytes()", w.real.Bytes(), w.model.total())
	w.says("Len()", w.real.Len(), len(w.model.list))
	if w.real.Len() > w.model.entries || w.real.Bytes() > w.model.bytes {
		w.Errorf("%d entries and %d bytes in a store of %d and %d", w.real.Len(), w.real.Bytes(), w.model.entries, w.model.bytes)
	}
	w.done = w.done[:before]
}

// wantStored holds how many entries there are, of how many bytes, and their keys, with blanks between them.
func wantStored(t *testing.T, s *store.Store, bytes int, keys string) {
	t.Helper()
	want := strings.Fields(keys)
	if got := s.Keys(); !slices.Equal(got, want) || s.Len() != len(want) || s.Bytes() != bytes {
		t.Errorf("%d entries, %d bytes, keys %q; want %d, %d, %q", s.Len(), s.Bytes(), got, len(want), bytes, want)
	}
}

// wantFound holds the body of what is found; of nothing, it is -.
func wantFound(t *testing.T, s *store.Store, key, body string, req ...string) {
	t.Helper()
	e, ok := s.Find(key, samples.Fields(req...))
	if ok != (body != "-") || ok && e.Reply.Body != body || !ok && !reflect.DeepEqual(e, api.Entry{}) {
		t.Errorf("Find(%q, %q) = %v, %t; want the body %s", key, req, e, ok, body)
	}
}

func wantNames(t *testing.T, s *store.Store, key string, want ...string) {
	t.Helper()
	if got := s.Names(key); !slices.Equal(got, want) {
		t.Errorf("Names(%q) = %q; want %q", key, got, want)
	}
}

// TestExamples: P19.1 to P19.4, the chapter's examples.
func TestExamples(t *testing.T) {
	s := store.New(2, 1000)
	e, f, g := entry("x"), entry("y", "accept", "a"), entry("z")
	if store.Size("k", e) != 66 || store.Size("k", f) != 73 {
		t.Errorf("sizes %d and %d", store.Size("k", e), store.Size("k", f))
	}
	if !s.Put("k", e) || !s.Put("k", f) {
		t.Errorf("e and f are not stored")
	}
	wantFound(t, s, "k", "y", "accept", "a")
	wantFound(t, s, "k", "x")
	wantStored(t, s, 139, "k k")
	if !s.Put("k", g) {
		t.Errorf("g is not stored")
	}
	wantFound(t, s, "k", "z", "accept", "a")
	wantStored(t, s, 139, "k k")
	if !s.Put("m", e) {
		t.Errorf("e is not stored")
	}
	wantStored(t, s, 132, "k m")
	if !s.Forget(0) {
		t.Errorf("Forget(0) = false")
	}
	wantStored(t, s, 66, "m")
	large := entry(strings.Repeat("x", 937))
	if store.Size("k", large) != 1002 || s.Put("k", large) {
		t.Errorf("1002 bytes are stored")
	}
	wantStored(t, s, 66, "m")
	if n := s.Drop("m"); n != 1 {
		t.Errorf("Drop(m) = %d", n)
	}
	if s.Remove("k", e) {
		t.Errorf("Remove(k, e) = true")
	}
	wantStored(t, s, 0, "")
}

// TestLimits: P19.1, the numbers of which there is a store, and those beside them.
func TestLimits(t *testing.T) {
	may := map[int]bool{1: true, 2: true, 100: true}
	for _, entries := range []int{math.MinInt, -1, 0, 1, 2, 100, mostEntries, mostEntries + 1, math.MaxInt32, 1<<32 + 1, math.MaxInt} {
		for _, bytes := range []int{math.MinInt, -1, 0, 1, 2, 100, mostBytes, mostBytes + 1, 1<<32 + 1, math.MaxInt} {
			want := (may[entries] || entries == mostEntries) && (may[bytes] || bytes == mostBytes)
			s := store.New(entries, bytes)
			if (s != nil) != want {
				t.Errorf("New(%d, %d) is a store: %t", entries, bytes, s != nil)
			}
			wantStored(t, s, 0, "")
			wantFound(t, s, "", "-")
			wantNames(t, s, "")
			if s.Drop("") != 0 || s.Remove("", api.Entry{}) || s.Forget(0) {
				t.Errorf("New(%d, %d): something is removed", entries, bytes)
			}
		}
	}
}

// TestNotMade: P19.1, nil, and stores that are not of New.
func TestNotMade(t *testing.T) {
	for name, s := range map[string]*store.Store{"nil": nil, "zero": {}, "new": new(store.Store), "of New": store.New(0, 1)} {
		for _, key := range []string{"", "a"} {
			for _, e := range []api.Entry{{}, entry("x", "a", "b")} {
				for range 2 {
					if s.Put(key, e) || s.Remove(key, e) || s.Drop(key) != 0 {
						t.Errorf("%s: something is stored", name)
					}
					for _, n := range []int{math.MinInt, -1, 0, 1, math.MaxInt} {
						if s.Forget(n) {
							t.Errorf("%s: Forget(%d) = true", name, n)
						}
					}
					wantFound(t, s, key, "-")
					wantFound(t, s, key, "-", "a", "b")
					wantNames(t, s, key)
					wantStored(t, s, 0, "")
				}
			}
		}
	}
}

// TestCopies: P19.1, P19.6, a copy of a store never makes it store more than it may, or what it does not tell.
func TestCopies(t *testing.T) {
	s := store.New(1, 1000)
	c := *s
	for i, x := range []*store.Store{&c, s, &c, &c, s, s, &c} {
		x.Put(strconv.Itoa(i), entry("x"))
		for _, y := range []*store.Store{s, &c} {
			y.Find("0", nil)
			y.Drop("1")
			if y.Len() != len(y.Keys()) || y.Len() > 1 || y.Bytes() != 66*y.Len() {
				t.Errorf("%d entries, %d bytes, keys %q", y.Len(), y.Bytes(), y.Keys())
			}
		}
	}
}

// TestSize: P19.1, P19.4, what counts; it is what the limit is held against.
func TestSize(t *testing.T) {
	long := strings.Repeat("x", 1000)
	for _, c := range []struct {
		key  string
		e    api.Entry
		want int
	}{
		{"", api.Entry{}, 64},
		{"k", api.Entry{}, 65},
		{long, api.Entry{}, 1064},
		{"", api.Entry{Reply: api.Reply{Reason: "OK"}}, 66},
		{"", api.Entry{Reply: api.Reply{Body: "abc"}}, 67},
		{"", api.Entry{Reply: api.Reply{Fields: samples.Fields("a", "")}}, 65},
		{"", api.Entry{Reply: api.Reply{Fields: samples.Fields("", "ab")}}, 66},
		{"", api.Entry{Reply: api.Reply{Fields: samples.Fields("a", "bc", "def", "ghij")}}, 74},
		{"", api.Entry{Reply: api.Reply{Fields: samples.Fields("", "", "", "")}}, 64},
		{"", entry("", "a", ""), 65},
		{"", entry("", "", "ab"), 66},
		{"", entry("", "a", "bc", "def", "ghij"), 74},
		{"", entry("", "A", "b", "a", "b"), 68},
		{"", entry("", "", ""), 64},
		// Numbers do not count, and bytes do, not runes.
		{"", api.Entry{Reply: api.Reply{Status: 200, Minor: 1}, Asked: 1000, Got: math.MaxInt64}, 64},
		{"\xc3\xa9", api.Entry{Reply: api.Reply{Reason: "\xff", Body: "\x00\r\n"}}, 70},
		{"k", api.Entry{Reply: api.Reply{Status: 404, Reason: "Not Found", Fields: samples.Fields("Vary", "Accept"), Body: long}, Vary: samples.Fields("accept", "text/html")}, 64 + 1 + 9 + 10 + 1000 + 15},
	} {
		if got := store.Size(c.key, c.e); got != c.want {
			t.Errorf("Size(%.20q, %.200v) = %d; want %d", c.key, c.e, got, c.want)
		}
		for _, bytes := range []int{c.want - 1, c.want, c.want + 1} {
			s := store.New(2, bytes)
			if got := s.Put(c.key, c.e); got != (bytes >= c.want) {
				t.Errorf("Put of %d bytes into %d: %t", c.want, bytes, got)
			} else if got != (s.Len() == 1) || got != (s.Bytes() == c.want) {
				t.Errorf("Put of %d bytes into %d: %d entries, %d bytes", c.want, bytes, s.Len(), s.Bytes())
			}
		}
	}
}

// TestPut: P19.2, P19.6, what is stored after one more is put. Those before are a, b and c under k, the latter two with a Vary, and d under m: 268 bytes.
func TestPut(t *testing.T) {
	z := func(size int, pairs ...string) api.Entry {
		e := entry("", pairs...)
		e.Reply.Body = strings.Repeat("z", size-store.Size("k", e))
		return e
	}
	for _, c := range []struct {
		entries, bytes int
		key            string
		e              api.Entry
		ok             bool
		// The keys, the names under k, and what is found under k without fields, with b: 1, with c: 1, and under m.
		keys, names, found string
	}{
		// Within both limits, at them, and one beyond.
		{5, 500, "n", z(66), true, "kkkmn", "bc", "abcd"}, {4, 500, "n", z(66), true, "kkmn", "bc", "-bcd"}, {1, 500, "n", z(66), true, "n", "", "----"}, {9, 334, "n", z(66), true, "kkkmn", "bc", "abcd"}, {9, 333, "n", z(66), true, "kkmn", "bc", "-bcd"}, {9, 268, "n", z(66), true, "kkmn", "bc", "-bcd"}, {9, 268, "n", z(67), true, "kmn", "c", "--cd"}, {9, 268, "n", z(267), true, "n", "", "----"}, {9, 268, "n", z(268), true, "n", "", "----"}, {9, 268, "n", z(269), false, "kkkm", "bc", "abcd"},
		// In place of the one with the same Vary, which counts no more then.
		{4, 500, "k", z(66), true, "kkmk", "bc", "zzzd"}, {4, 500, "k", z(68, "b", "1"), true, "kkmk", "cb", "azcd"}, {4, 500, "k", z(68, "c", "1"), true, "kkmk", "bc", "abzd"}, {4, 500, "m", z(66), true, "kkkm", "bc", "abcz"}, {4, 268, "k", z(68, "b", "1"), true, "kkmk", "cb", "azcd"}, {4, 268, "k", z(69, "b", "1"), true, "kmk", "cb", "-zcd"}, {4, 268, "k", z(268, "b", "1"), true, "k", "b", "-z--"}, {4, 268, "k", z(68, "B", "1"), true, "kkmk", "cB", "azcd"},
		// Another Vary, or another key.
		{4, 500, "k", z(68, "b", "2"), true, "kkmk", "bc", "-bcd"}, {4, 500, "k", z(68, "e", ""), true, "kkmk", "bce", "zzzd"}, {5, 500, "k", z(72, "b", "1", "b", "1"), true, "kkkmk", "bc", "azcd"}, {5, 500, "m", z(68, "b", "1"), true, "kkkmm", "bc", "abcd"}, {5, 500, "K", z(68, "b", "1"), true, "kkkmK", "bc", "abcd"},
		// What is too large is not stored, and takes the one with the same Vary with it, but no other.
		{4, 268, "k", z(269), false, "kkm", "bc", "-bcd"}, {4, 268, "k", z(269, "b", "1"), false, "kkm", "c", "aacd"}, {4, 268, "k", z(269, "B", "1"), false, "kkm", "c", "aacd"}, {4, 268, "m", z(999), false, "kkk", "bc", "abc-"}, {4, 268, "k", z(269, "b", "2"), false, "kkkm", "bc", "abcd"}, {4, 268, "m", z(269, "b", "1"), false, "kkkm", "bc", "abcd"},
	} {
		s := store.New(c.entries, c.bytes)
		s.Put("k", entry("a"))
		s.Put("k", entry("b", "b", "1"))
		s.Put("k", entry("c", "c", "1"))
		s.Put("m", entry("d"))
		if got := s.Put(c.key, c.e); got != c.ok {
			t.Errorf("Put(%s) = %t", told(c.key, c.e), got)
		}
		keys, names, found := strings.Join(s.Keys(), ""), strings.Join(s.Names("k"), ""), ""
		for _, req := range []string{"k", "kb", "kc", "m"} {
			e, ok := s.Find(req[:1], samples.Fields(req[1:], "1"))
			if found += (e.Reply.Body + "-")[:1]; ok && e.Reply.Body == c.e.Reply.Body && !reflect.DeepEqual(e, c.e) {
				t.Errorf("%.200v is put, and %.200v found", c.e, e)
			}
		}
		if keys != c.keys || names != c.names || found != c.found {
			t.Errorf("Put(%s) into %d and %d: keys %s, names %s, found %s; want %s, %s, %s", told(c.key, c.e), c.entries, c.bytes, keys, names, found, c.keys, c.names, c.found)
		}
	}
}

// TestFind: P19.2, P19.5, which entry is found; they are put in order, each with its place as the body.
func TestFind(t *testing.T) {
	for _, c := range []struct {
		// The Vary of each, with a comma between name and value.
		puts []string
		req  []string
		want string
	}{
		{nil, nil, "-"}, {nil, []string{"a", "1"}, "-"},
		{[]string{""}, nil, "0"}, {[]string{""}, []string{"a", "1"}, "0"},
		{[]string{"a,1"}, nil, "-"}, {[]string{"a,1"}, []string{"a", "1"}, "0"}, {[]string{"a,1"}, []string{"a", "2"}, "-"}, {[]string{"a,1"}, []string{"b", "1"}, "-"}, {[]string{"a,1"}, []string{"b", "2", "A", " 1 ", "c", "3"}, "0"}, {[]string{"A,1"}, []string{"a", "1"}, "0"}, {[]string{"a,x"}, []string{"a", "X"}, "-"},
		{[]string{"a,"}, nil, "0"}, {[]string{"a,"}, []string{"a", ""}, "0"}, {[]string{"a,"}, []string{"a", "1"}, "-"},
		{[]string{"a,1,b,2"}, []string{"b", "2", "a", "1"}, "0"}, {[]string{"a,1,b,2"}, []string{"a", "1"}, "-"}, {[]string{"a,1,a,2"}, []string{"a", "1", "a", "2"}, "-"},
		// Of those that match, the last one; it is not the one that says most.
		{[]string{"", "a,1"}, []string{"a", "1"}, "1"}, {[]string{"a,1", ""}, []string{"a", "1"}, "1"}, {[]string{"a,1", ""}, nil, "1"}, {[]string{"", "a,1"}, nil, "0"}, {[]string{"", "a,1"}, []string{"a", "2"}, "0"},
		{[]string{"a,1", "b,1", "a,2"}, []string{"a", "1", "b", "1"}, "1"}, {[]string{"b,1", "a,1", "a,2"}, []string{"a", "1", "b", "1"}, "1"}, {[]string{"a,1,b,1", "b,1,a,1", "c,1"}, []string{"a", "1", "b", "1"}, "1"}, {[]string{"a,1", "b,1", "c,1", "d,1"}, []string{"c", "1", "a", "1"}, "2"},
		// What is put again is put last, in place of what it was.
		{[]string{"a,1", "b,1", "a,1"}, []string{"a", "1", "b", "1"}, "2"}, {[]string{"a,1", "b,1", "a,1", "b,1"}, []string{"a", "1", "b", "1"}, "3"}, {[]string{"", "a,1", ""}, []string{"a", "1"}, "2"}, {[]string{"a,1", "A,1"}, []string{"a", "1"}, "1"},
	} {
		s := store.New(9, 9999)
		for i, l := range c.puts {
			s.Put("k", entry(strconv.Itoa(i), strings.Split(l, ",")...))
			// Neither what is under other keys, nor what is used, makes a difference.
			s.Put("m", entry("m", strings.Split(l, ",")...))
			for _, used := range c.puts[:i] {
				s.Find("k", samples.Fields(strings.Split(used, ",")...))
			}
		}
		for range 2 {
			wantFound(t, s, "k", c.want, c.req...)
			wantFound(t, s, "", "-", c.req...)
			wantFound(t, s, "K", "-", c.req...)
			wantFound(t, s, "k ", "-", c.req...)
		}
	}
}

// TestUse: P19.2, P19.4, what makes an entry the one that was used last, and what does not; a and b are under k, c under m, and d, without a Vary, under n.
func TestUse(t *testing.T) {
	for calls, want := range map[string]string{
		"": "kkmn ab", "Fa": "kmnk ba", "Fb": "kmnk ab", "Fc": "kknm ab", "Fd": "kkmn ab", "FaFb": "mnkk ab", "FbFa": "mnkk ba", "FaFbFc": "nkkm ab", "FdFcFbFa": "nmkk ba", "Fx": "kkmn ab",
		"Pa": "kmnk ba", "Pb": "kmnk ab", "Pc": "kknm ab", "PbPa": "mnkk ba", "FbPa": "mnkk ba", "PbFa": "mnkk ba",
		"Ra": "kmn b", "Rb": "kmn a", "Rx": "kkmn ab", "FaRb": "mnk a", "RaPa": "kmnk ba", "RaRbPaPb": "mnkk ab",
	} {
		s := store.New(9, 9999)
		keys := map[byte]string{'a': "k", 'b': "k", 'c': "m", 'd': "n", 'x': "k"}
		vary := map[byte][]string{'a': {"a", "1"}, 'b': {"b", "1"}, 'c': {"c", "1"}, 'x': {"x", "1"}}
		for _, c := range []byte("abcd") {
			s.Put(keys[c], entry(string(c), vary[c]...))
		}
		for i := 1; i < len(calls); i += 2 {
			c := calls[i]
			switch calls[i-1] {
			case 'F':
				if e, ok := s.Find(keys[c], samples.Fields(vary[c]...)); ok != (c != 'x') || ok && e.Reply.Body != string(c) {
					t.Errorf("%s: found %v, %t", calls, e, ok)
				}
			case 'P':
				s.Put(keys[c], entry(string(c), vary[c]...))
			case 'R':
				if ok := s.Remove(keys[c], entry("", vary[c]...)); ok != (c != 'x') {
					t.Errorf("%s: Remove of %c is %t", calls, c, ok)
				}
			}
		}
		// Telling is no use.
		for range 2 {
			if got := strings.Join(s.Keys(), "") + " " + strings.Join(s.Names("k"), ""); got != want {
				t.Errorf("%s: %s; want %s", calls, got, want)
			}
			s.Len()
			s.Bytes()
		}
	}
}

// TestSameVary: P19.2, P19.3, which entries stand in one another's place: those under the same key with the same Vary, whatever keys, names and values consist of.
func TestSameVary(t *testing.T) {
	type place struct {
		key  string
		vary []api.Field
	}
	same := func(p, q place) bool { return p.key == q.key && sameVary(p.vary, q.vary) }
	var places []place
	pieces := []string{"", "a", "1", ":", "1:a", "A", "0:", "1:1:"}
	for _, key := range pieces {
		places = append(places, place{key, nil}, place{key, []api.Field{}})
		for _, name := range pieces {
			for _, value := range pieces {
				places = append(places, place{key, samples.Fields(name, value)})
			}
		}
	}
	for _, key := range []string{"", "a"} {
		for _, l := range [][]string{{"a", "b", "c", "d"}, {"c", "d", "a", "b"}, {"a", "d", "c", "b"}, {"a", "b", "C", "d"}, {"a", "b", "c", "D"}, {"a", "b", "a", "b"}, {"A", "b", "a", "b"}, {"a", "b", "", ""}, {"", "", "a", "b"}, {"a", "b1:c1:d"}, {"ab", "cd"}, {"abc", "d"}, {"a", "bcd"}, {"", "abcd"}, {"a ", "b"}, {"a", " b"}, {"a\x00", "b"}, {"a", "\xff"}, {"a", "\xfe"}} {
			places = append(places, place{key, samples.Fields(l...)})
		}
		// Letters are A to Z and a to z, and no others: an E with an accent, the sign for kelvins, and what stands beside the letters.
		for _, name := range []string{"\xc3\x89", "\xc3\xa9", "E\xcc\x81", "e\xcc\x81", "\xe2\x84\xaa", "k", "K", "@", "`", "[", "{", "Z", "z", "\xff", "\xfe", "\xef\xbf\xbd"} {
			places = append(places, place{key, samples.Fields(name, "x")})
		}
	}
	all, distinct := store.New(mostEntries, mostBytes), 0
	for i, p := range places {
		all.Put(p.key, api.Entry{Vary: p.vary})
		if !slices.ContainsFunc(places[:i], func(q place) bool { return same(p, q) }) {
			distinct++
		}
		one := store.New(1, mostBytes)
		for _, q := range places {
			one.Put(p.key, api.Entry{Vary: p.vary})
			if got := one.Remove(q.key, api.Entry{Reply: api.Reply{Body: "other"}, Got: 5, Vary: q.vary}); got != same(p, q) {
				t.Fatalf("under %q with %s: Remove(%q, %s) is %t", p.key, samples.Told(p.vary), q.key, samples.Told(q.vary), got)
			}
		}
	}
	if all.Len() != distinct || distinct < 400 {
		t.Errorf("%d entries are stored; want %d", all.Len(), distinct)
	}
}

// TestRemove: P19.3, what is removed, and what stays; a, b and c are under k, with their names, d is under m, and e, without a Vary, too.
func TestRemove(t *testing.T) {
	for _, c := range []struct {
		call func(s *store.Store) any
		want any
		// The keys that stay, and the names of those under k, and under m.
		keys, k, m string
	}{
		{func(s *store.Store) any { return s.Remove("k", entry("x", "b", "1")) }, true, "k k m m", "ac", "d"},
		{func(s *store.Store) any { return s.Remove("k", entry("b", "B", "1")) }, true, "k k m m", "ac", "d"},
		{func(s *store.Store) any { return s.Remove("m", entry("x")) }, true, "k k k m", "abc", "d"},
		{func(s *store.Store) any { return s.Remove("m", api.Entry{}) }, true, "k k k m", "abc", "d"},
		{func(s *store.Store) any { return s.Remove("m", entry("d", "d", "1")) }, true, "k k k m", "abc", ""},
		{func(s *store.Store) any { return s.Remove("k", entry("x")) }, false, "k k k m m", "abc", "d"},
		{func(s *store.Store) any { return s.Remove("k", entry("b", "b", "2")) }, false, "k k k m m", "abc", "d"},
		{func(s *store.Store) any { return s.Remove("k", entry("d", "d", "1")) }, false, "k k k m m", "abc", "d"},
		{func(s *store.Store) any { return s.Remove("k", entry("a", "a", "1", "b", "1")) }, false, "k k k m m", "abc", "d"},
		{func(s *store.Store) any { return s.Remove("K", entry("a", "a", "1")) }, false, "k k k m m", "abc", "d"},
		{func(s *store.Store) any { return s.Drop("k") }, 3, "m m", "", "d"},
		{func(s *store.Store) any { return s.Drop("m") }, 2, "k k k", "abc", ""},
		{func(s *store.Store) any { return s.Drop("k") + s.Drop("m") + 10*s.Drop("k") + 10*s.Drop("m") }, 5, "", "", ""},
		{func(s *store.Store) any { return s.Drop("") + s.Drop("K") + s.Drop("k ") + s.Drop("km") }, 0, "k k k m m", "abc", "d"},
		{func(s *store.Store) any { return s.Forget(0) }, true, "k k m m", "bc", "d"},
		{func(s *store.Store) any { return s.Forget(1) }, true, "k k m m", "ac", "d"},
		{func(s *store.Store) any { return s.Forget(2) }, true, "k k m m", "ab", "d"},
		{func(s *store.Store) any { return s.Forget(3) }, true, "k k k m", "abc", ""},
		{func(s *store.Store) any { return s.Forget(4) }, true, "k k k m", "abc", "d"},
		{func(s *store.Store) any { return s.Forget(5) }, false, "k k k m m", "abc", "d"},
		{func(s *store.Store) any { return s.Forget(-1) }, false, "k k k m m", "abc", "d"},
		{func(s *store.Store) any { return s.Forget(math.MinInt) || s.Forget(math.MaxInt) || s.Forget(1<<32) }, false, "k k k m m", "abc", "d"},
		{func(s *store.Store) any { return s.Forget(1) && s.Forget(1) && s.Forget(2) && !s.Forget(2) }, true, "k m", "a", "d"},
		{func(s *store.Store) any {
			s.Find("k", samples.Fields("a", "1"))
			return s.Forget(4) && s.Forget(0)
		}, true, "k m m", "c", "d"},
	} {
		s := store.New(9, 9999)
		for _, name := range []string{"a", "b", "c"} {
			s.Put("k", entry(name, name, "1"))
		}
		s.Put("m", entry("d", "d", "1"))
		s.Put("m", entry("e"))
		got := c.call(s)
		if got != c.want {
			t.Errorf("%v; want %v", got, c.want)
		}
		keys, k, m := strings.Join(s.Keys(), " "), strings.Join(s.Names("k"), ""), strings.Join(s.Names("m"), "")
		if keys != c.keys || k != c.k || m != c.m {
			t.Errorf("keys %s, names %s and %s; want %s, %s and %s", keys, k, m, c.keys, c.k, c.m)
		}
		if want := 68*(len(k)+len(m)) + 66*(s.Len()-len(k)-len(m)); s.Bytes() != want {
			t.Errorf("%d bytes; want %d", s.Bytes(), want)
		}
		for _, name := range []string{"a", "b", "c"} {
			if e, ok := s.Find("k", samples.Fields(name, "1")); ok != strings.Contains(c.k, name) || ok && e.Reply.Body != name {
				t.Errorf("names %s: Find of %s is %v, %t", c.k, name, e, ok)
			}
		}
	}
}

// TestNames: P19.4, each name once, as it was first told, in the order of use.
func TestNames(t *testing.T) {
	s := store.New(9, 9999)
	wantNames(t, s, "k")
	s.Put("k", entry(""))
	wantNames(t, s, "k")
	s.Put("k", entry("", "b", "1", "a", "1", "B", "2"))
	wantNames(t, s, "k", "b", "a")
	s.Put("k", entry("", "C", "1", "A", "1", "", "1"))
	wantNames(t, s, "k", "b", "a", "C", "")
	s.Put("m", entry("", "d", "1"))
	wantNames(t, s, "k", "b", "a", "C", "")
	wantNames(t, s, "m", "d")
	wantNames(t, s, "M")
	wantNames(t, s, "")
	s.Put("k", entry("", "b", "1", "a", "1", "B", "2"))
	wantNames(t, s, "k", "C", "A", "", "b")
	s.Remove("k", entry("", "c", "1", "a", "1", "", "1"))
	wantNames(t, s, "k", "b", "a")
	s.Put("k", entry("", "\xc3\x89", "", "\xc3\xa9", "", "\xff", "", "\xfe", ""))
	wantNames(t, s, "k", "b", "a", "\xc3\x89", "\xc3\xa9", "\xff", "\xfe")
	s.Drop("k")
	wantNames(t, s, "k")
	wantNames(t, s, "m", "d")
}

// TestKeys: P19.2 to P19.4, keys are any bytes, and different ones are different keys.
func TestKeys(t *testing.T) {
	keys := []string{"", "a", "A", "aa", "a ", " a", "1:", "1:a", "0:", "0:a", ":", "::", "-1:", "9:a", "\x00\x00", "a\x00", "\xff\xfe", "\xc3\xa9", "e\xcc\x81", "http://a/", "http://a/?", strings.Repeat("a", 1<<16), strings.Repeat("1:", 1<<10)}
	samples.EachByte(func(_ byte, s string) {
		if !slices.Contains(keys, s) {
			keys = append(keys, s)
		}
	})
	w := newTrial(t, mostEntries, mostBytes)
	for i, key := range keys {
		w.put(key, entry(strconv.Itoa(i)))
		w.put(key, entry(strconv.Itoa(i), "a", key))
	}
	w.state(keys...)
	for i, key := range keys {
		w.find(key, nil)
		w.find(key, samples.Fields("a", key))
		switch i % 4 {
		case 0:
			w.drop(key)
		case 1:
			w.remove(key, entry("", "a", key))
		case 2:
			w.forget(i)
		}
		w.find(key, nil)
	}
	w.state(keys...)
}

// TestMost: P19.2, P19.4, P19.6, the most entries, under one key and under as many, and one beyond.
func TestMost(t *testing.T) {
	for _, under := range []int{1, 7, mostEntries} {
		s := store.New(mostEntries, mostBytes)
		var keys []string
		for i := range mostEntries {
			keys = append(keys, strconv.Itoa(i%under))
			if !s.Put(keys[i], entry("x", "n", strconv.Itoa(i))) {
				t.Fatalf("%d is not stored", i)
			}
		}
		if !slices.Equal(s.Keys(), keys) || s.Len() != mostEntries {
			t.Errorf("%d entries", s.Len())
		}
		wantFound(t, s, "0", "x", "n", "0")
		if !s.Put("more", entry("y", "n", "0")) || s.Len() != mostEntries {
			t.Errorf("%d entries, with one more", s.Len())
		}
		wantFound(t, s, "0", "x", "n", "0")
		wantFound(t, s, strconv.Itoa(1%under), "-", "n", "1")
		wantFound(t, s, strconv.Itoa(2%under), "x", "n", "2")
		wantFound(t, s, "more", "y", "n", "0")
		if n := s.Drop("0"); n != (mostEntries+under-1)/under-boolean(under == 1) {
			t.Errorf("%d under 0 of %d keys", n, under)
		}
	}
}

func boolean(b bool) int {
	if b {
		return 1
	}
	return 0
}

// TestEverySequence: P19.2 to P19.6, all that can be done in four calls of a few.
func TestEverySequence(t *testing.T) {
	a, b := samples.Fields("a", "1"), samples.Fields("b", "1", "a", "1")
	calls := map[string]func(w *trial){
		"0": func(w *trial) { w.put("k", entry("0")) },
		"1": func(w *trial) { w.put("k", entry("1", "a", "1")) },
		"2": func(w *trial) { w.put("k", entry("22", "b", "1")) },
		"3": func(w *trial) { w.put("m", entry("3", "a", "1")) },
		"4": func(w *trial) { w.put("k", entry(strings.Repeat("4", 500), "A", "1")) },
		"5": func(w *trial) { w.find("k", a) },
		"6": func(w *trial) { w.find("k", nil) },
		"7": func(w *trial) { w.remove("k", entry("7", "a", "1")) },
		"8": func(w *trial) { w.drop("k") },
		"9": func(w *trial) { w.forget(1) },
	}
	var names []string
	for name := range calls {
		names = append(names, name)
	}
	for _, limits := range [][2]int{{1, 400}, {2, 400}, {9, 140}, {9, 400}} {
		samples.Words(names, 4, func(s string) {
			if t.Failed() {
				return
			}
			w := newTrial(t, limits[0], limits[1])
			for i := range len(s) {
				calls[s[i:i+1]](w)
			}
			w.state("k", "m")
			w.find("k", a)
			w.find("k", b)
			w.find("m", b)
		})
	}
}

// anEntry draws one with any fields, reason and numbers; its Vary is of few names and values, so that it comes again.
func anEntry(draw func(n int) int, body string) api.Entry {
	e := api.Entry{Reply: api.Reply{Status: draw(600), Minor: draw(2), Body: body}, Asked: int64(draw(1000)), Got: int64(draw(1000))}
	e.Reply.Reason = samples.Pick(draw, "", "OK", "Not Found")
	for range draw(3) {
		e.Reply.Fields = samples.Inserted(draw, e.Reply.Fields, samples.Pick(draw, "vary", "etag", "x"), samples.Pick(draw, "", "a", "b, c"))
	}
	for range draw(3) {
		e.Vary = samples.Inserted(draw, e.Vary, samples.Pick(draw, "accept", "cookie"), samples.Pick(draw, "", "a", "b"))
	}
	return e
}

func aRequest(draw func(n int) int) (req []api.Field) {
	for range draw(3) {
		req = samples.Inserted(draw, req, samples.Pick(draw, "accept", "cookie", "x"), samples.Pick(draw, "", "a", " b", "A"))
	}
	return req
}

// do does one call, drawn at random, with the store and with the model.
func (w *trial) do(draw func(n int) int, key string) {
	w.Helper()
	switch draw(12) {
	case 0:
		w.remove(key, anEntry(draw, ""))
	case 1:
		if draw(3) == 0 {
			w.drop(key)
		}
	case 2:
		w.forget(draw(len(w.model.list)+3) - 1)
	case 3, 4, 5, 6:
		w.find(key, aRequest(draw))
	default:
		body := strconv.Itoa(len(w.done))
		w.put(key, anEntry(draw, body+strings.Repeat("x", draw(samples.Pick(draw, 1, 40, 400)))))
	}
}

// TestSamples: P19.2 to P19.6, many calls on stores of all kinds.
func TestSamples(t *testing.T) {
	random := rand.New(rand.NewSource(19))
	draw := random.Intn
	for range 2000 {
		w := newTrial(t, samples.Pick(draw, 1, 2, 3, 5, 20, mostEntries), samples.Pick(draw, 1, 63, 64, 90, 200, 600, 3000, mostBytes))
		keys := []string{"", "k", "K", "1:k", "http://a/"}[:1+draw(5)]
		for range 60 {
			w.do(draw, samples.Pick(draw, keys...))
			w.state(keys...)
			if t.Failed() {
				return
			}
		}
	}
}

// TestApart: P19.6, what is under other keys makes no difference to what is found under one, where the limits are far; nor do other stores.
func TestApart(t *testing.T) {
	random := rand.New(rand.NewSource(196))
	draw := random.Intn
	found := 0
	for range 300 {
		both, one := store.New(mostEntries, mostBytes), store.New(mostEntries, mostBytes)
		for i := range 60 {
			key := samples.Pick(draw, "k", "m")
			e, req := anEntry(draw, strconv.Itoa(i)), aRequest(draw)
			stores := []*store.Store{both, one}
			if key == "m" {
				stores = stores[:1]
			}
			call := draw(9)
			for _, s := range stores {
				switch call {
				case 0:
					s.Remove(key, e)
				case 1, 2:
					s.Find(key, req)
				case 3:
					if i%5 == 0 {
						s.Drop(key)
					}
				default:
					s.Put(key, e)
				}
			}
			x, ok := both.Find("k", req)
			y, also := one.Find("k", req)
			if ok != also || !reflect.DeepEqual(x, y) || !slices.Equal(both.Names("k"), one.Names("k")) {
				t.Fatalf("with other keys %v, %t; without %v, %t", x, ok, y, also)
			}
			if ok {
				found++
			}
		}
	}
	if found < 3000 {
		t.Errorf("found %d times only", found)
	}
}

// TestForgetting: P19.5, when an entry is forgotten, all else is found as if it were not.
func TestForgetting(t *testing.T) {
	random := rand.New(rand.NewSource(195))
	draw := random.Intn
	missed, other := 0, 0
	for range 3000 {
		all, fewer := store.New(mostEntries, mostBytes), store.New(mostEntries, mostBytes)
		for i := range 2 + draw(8) {
			key, e, req := samples.Pick(draw, "k", "m"), anEntry(draw, strconv.Itoa(i)), aRequest(draw)
			for _, s := range []*store.Store{all, fewer} {
				s.Put(key, e)
				s.Find(key, req)
			}
		}
		kept := fewer.Keys()
		n := draw(len(kept))
		if !fewer.Forget(n) {
			t.Fatalf("Forget(%d) of %d is false", n, len(kept))
		}
		if got, want := fewer.Keys(), slices.Delete(kept, n, n+1); !slices.Equal(got, want) {
			t.Fatalf("keys %q; want %q", got, want)
		}
		gone := ""
		for range 20 {
			key, req := samples.Pick(draw, "k", "m"), aRequest(draw)
			x, ok := all.Find(key, req)
			y, also := fewer.Find(key, req)
			switch {
			case ok == also && reflect.DeepEqual(x, y):
				other++
			case ok && (gone == "" || gone == x.Reply.Body):
				// Only the one that is forgotten may be missing.
				gone = x.Reply.Body
				missed++
			default:
				t.Fatalf("%v, %t; with one forgotten %v, %t", x, ok, y, also)
			}
		}
	}
	if missed < 1000 || other < 10000 {
		t.Errorf("missing %d times, and the same %d times", missed, other)
	}
}

// bytesAt answers the place of each text of e that is not empty.
func bytesAt(e api.Entry) map[*byte]string {
	out := map[*byte]string{}
	texts := []string{e.Reply.Reason, e.Reply.Body}
	for _, f := range slices.Concat(e.Reply.Fields, e.Vary) {
		texts = append(texts, f.Name, f.Value)
	}
	for _, s := range texts {
		if s != "" {
			out[unsafe.StringData(s)] = s
		}
	}
	return out
}

// TestNewMemory: P19.7, whatever is done to what was passed in, or was returned, the store stays as it is.
func TestNewMemory(t *testing.T) {
	s := store.New(9, 9999)
	bytes := []byte("key reason name value body vary text")
	part := func(i, j int) string { return unsafe.String(&bytes[i], j-i) }
	fields, l := []api.Field{{Name: part(11, 15), Value: part(16, 21)}}, []api.Field{{Name: part(27, 31), Value: part(32, 36)}}
	e := api.Entry{Reply: api.Reply{Status: 200, Reason: part(4, 10), Minor: 1, Fields: fields, Body: part(22, 26)}, Asked: 5, Got: 6, Vary: l}
	want := api.Entry{Reply: api.Reply{Status: 200, Reason: "reason", Minor: 1, Fields: samples.Fields("name", "value"), Body: "body"}, Asked: 5, Got: 6, Vary: samples.Fields("vary", "text")}
	s.Put(part(0, 3), e)
	if !reflect.DeepEqual(e, want) {
		t.Errorf("Put makes %v of what is put", e)
	}
	copy(bytes, strings.Repeat("#", len(bytes)))
	fields[0], l[0] = api.Field{}, api.Field{}
	req := samples.Fields("Vary", "text")
	seen := map[*byte]string{}
	for range 3 {
		got, ok := s.Find("key", req)
		if !ok || !reflect.DeepEqual(got, want) {
			t.Fatalf("Find = %v, %t; want %v", got, ok, want)
		}
		for p, text := range bytesAt(got) {
			if _, is := seen[p]; is {
				t.Errorf("the text %q has its place in another answer", text)
			}
			seen[p] = text
		}
		for _, l := range [][]api.Field{got.Reply.Fields, got.Vary} {
			l = l[:cap(l)]
			for i := range l {
				l[i] = api.Field{Name: "changed", Value: "changed"}
			}
		}
		for _, name := range s.Names("key") {
			if _, is := seen[unsafe.StringData(name)]; is || name != "vary" {
				t.Errorf("the name %q has its place in another answer", name)
			}
			seen[unsafe.StringData(name)] = name
		}
		for _, key := range s.Keys() {
			if _, is := seen[unsafe.StringData(key)]; is || key != "key" {
				t.Errorf("the key %q has its place in another answer", key)
			}
			seen[unsafe.StringData(key)] = key
		}
		names, keys := s.Names("key"), s.Keys()
		clear(names[:cap(names)])
		clear(keys[:cap(keys)])
	}
	if !reflect.DeepEqual(req, samples.Fields("Vary", "text")) {
		t.Errorf("Find makes %v of the fields", req)
	}
	wantNames(t, s, "key", "vary")
	wantStored(t, s, store.Size("key", want), "key")
	if !s.Remove("key", want) {
		t.Errorf("Remove = false")
	}
}

// TestEmptyLists: P19.2, an entry without fields is found as such, whether its lists are nil or not.
func TestEmptyLists(t *testing.T) {
	s := store.New(1, 100)
	for _, l := range [][]api.Field{nil, {}, make([]api.Field, 0, 5)} {
		s.Put("k", api.Entry{Reply: api.Reply{Fields: l}, Vary: l})
		got, ok := s.Find("k", nil)
		if !ok || len(got.Reply.Fields) != 0 || len(got.Vary) != 0 || s.Len() != 1 {
			t.Errorf("Find = %v, %t, of %d", got, ok, s.Len())
		}
		_ = append(got.Vary, api.Field{Name: "a"})
		wantFound(t, s, "k", "")
	}
}

// TestNotRetained: P19.2, P19.3, P19.7, what is no longer stored is nowhere in the store, nor is anything of its key.
func TestNotRetained(t *testing.T) {
	s := store.New(2, 1<<18)
	big := func(c string) string { return strings.Repeat(c, 1<<17/len(c)) }
	heap := func() int {
		var m runtime.MemStats
		runtime.GC()
		runtime.ReadMemStats(&m)
		return int(m.HeapAlloc)
	}
	before := heap()
	for i := range 300 {
		key := strconv.Itoa(i)
		s.Put(key, entry(big("b")))
		s.Put(key, entry(big("c")))
		s.Put(key, entry(big("d")+big("e")))
		s.Put(key, entry("f", "name", big("v")))
		switch i % 3 {
		case 0:
			s.Drop(key)
		case 1:
			s.Remove(key, entry("", "name", big("v")))
		}
		s.Put(big(key), entry("g", big("n"), ""))
		s.Put(big("k")+key, entry("h"))
		s.Find(big("k")+key, samples.Fields(big("n"), big("v")))
		s.Put("k", entry("i", "a", key))
		s.Put("k", entry("j", "a", key+key))
	}
	if grown := heap() - before; grown > 1<<22 {
		t.Errorf("a store of %d bytes takes up %d", s.Bytes(), grown)
	}
	wantStored(t, s, 143, "k k")
	runtime.KeepAlive(s)
}
