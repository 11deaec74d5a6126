package budget_test

import (
	"fmt"
	"math"
	"math/rand"
	"runtime"
	"slices"
	"strconv"
	"strings"
	"testing"
	"unsafe"
	"weak"

	"inlay/budget"
	"inlay/samples"
)

const (
	mostEntries = 4096
	mostBytes   = 1 << 30
)

// A pair is what the model keeps of a key.
type pair struct {
	key         string
	size, value int
}

// A model is a budget as the chapter tells it, word by word; the least recently used pair is the first.
type model struct {
	entries, bytes int
	pairs          []pair
}

// without takes out the pair of the key, and tells whether there was one.
func (m *model) without(key string) (pair, bool) {
	i := slices.IndexFunc(m.pairs, func(p pair) bool { return p.key == key })
	if i < 0 {
		return pair{}, false
	}
	p := m.pairs[i]
	m.pairs = slices.Delete(m.pairs, i, i+1)
	return p, true
}

func (m *model) total() int {
	sum := 0
	for _, p := range m.pairs {
		sum += p.size
	}
	return sum
}

func (m *model) keys() []string {
	var out []string
	for _, p := range m.pairs {
		out = append(out, p.key)
	}
	return out
}

func (m *model) put(p pair) (gone []string) {
	if p.size < 0 {
		p.size = 0
	}
	_, had := m.without(p.key)
	if p.size > m.bytes {
		if had {
			gone = append(gone, p.key)
		}
		return gone
	}
	m.pairs = append(m.pairs, p)
	for len(m.pairs) > m.entries || m.total() > m.bytes {
		gone = append(gone, m.pairs[0].key)
		m.pairs = m.pairs[1:]
	}
	return gone
}

func (m *model) get(key string) (int, bool) {
	p, ok := m.without(key)
	if ok {
		m.pairs = append(m.pairs, p)
	}
	return p.value, ok
}

// A trial does the same with a budget and with the model of it, and tells where they part.
type trial struct {
	*testing.T
	real  *budget.Budget[int]
	model model
	done  []string
	puts  int
}

func newTrial(t *testing.T, entries, bytes int) *trial {
	t.Helper()
	b := budget.New[int](entries, bytes)
	if b == nil {
		t.Fatalf("New(%d, %d) = nil", entries, bytes)
	}
	return &trial{T: t, real: b, model: model{entries: entries, bytes: bytes}}
}

// says notes a call and what it answered, and reports it, with what was done before, if that is not right.
func (w *trial) says(call, got, want string) {
	w.Helper()
	w.done = append(w.done, call)
	if got != want {
		w.Errorf("budget of %d and %d: %s: the last answers %s; want %s", w.model.entries, w.model.bytes, strings.Join(w.done[max(0, len(w.done)-20):], ", "), got, want)
	}
}

// put puts a value of its own under the key.
func (w *trial) put(key string, size int) {
	w.Helper()
	w.puts++
	got := w.real.Put(key, size, w.puts)
	want := w.model.put(pair{key, size, w.puts})
	w.says(fmt.Sprintf("Put(%.20q, %d)", key, size), fmt.Sprintf("%.200q", got), fmt.Sprintf("%.200q", want))
	if last := w.model.pairs; len(last) > 0 && last[len(last)-1].value == w.puts {
		w.wantLast(key)
	}
}

func (w *trial) get(key string) {
	w.Helper()
	got, ok := w.real.Get(key)
	want, found := w.model.get(key)
	w.says(fmt.Sprintf("Get(%.20q)", key), fmt.Sprint(got, ok), fmt.Sprint(want, found))
	if ok {
		w.wantLast(key)
	}
}

func (w *trial) drop(key string) {
	w.Helper()
	got := w.real.Drop(key)
	_, want := w.model.without(key)
	w.says(fmt.Sprintf("Drop(%.20q)", key), fmt.Sprint(got), fmt.Sprint(want))
}

// peek holds the value of the key; all that is told of the budget stays as it is.
func (w *trial) peek(key string) {
	w.Helper()
	got, ok := w.real.Peek(key)
	i := slices.IndexFunc(w.model.pairs, func(p pair) bool { return p.key == key })
	want := 0
	if i >= 0 {
		want = w.model.pairs[i].value
	}
	w.says(fmt.Sprintf("Peek(%.20q)", key), fmt.Sprint(got, ok), fmt.Sprint(want, i >= 0))
}

// wantLast holds that the key is the last one in order.
func (w *trial) wantLast(key string) {
	w.Helper()
	if keys := w.real.Keys(); len(keys) == 0 || keys[len(keys)-1] != key {
		w.Errorf("%s: Keys() = %.90q", w.done[len(w.done)-1], keys)
	}
}

// state holds all that is told of the budget: the model's, each key once, and within both bounds.
func (w *trial) state() {
	w.Helper()
	keys := w.real.Keys()
	w.says("Keys()", fmt.Sprintf("%.200q", keys), fmt.Sprintf("%.200q", w.model.keys()))
	w.says("Bytes()", fmt.Sprint(w.real.Bytes()), fmt.Sprint(w.model.total()))
	w.says("Len()", fmt.Sprint(w.real.Len()), fmt.Sprint(len(w.model.pairs)))
	if w.real.Len() > w.model.entries || w.real.Bytes() > w.model.bytes {
		w.Errorf("%d keys and %d bytes in a budget of %d and %d", w.real.Len(), w.real.Bytes(), w.model.entries, w.model.bytes)
	}
	slices.Sort(keys)
	if once := slices.Compact(slices.Clone(keys)); len(once) != len(keys) {
		w.Errorf("a key is kept twice: %.90q", keys)
	}
	w.done = w.done[:max(0, len(w.done)-3)]
}

// kept answers what is told of a budget: how many keys it keeps, of how many bytes, and which.
func kept[T any](b *budget.Budget[T]) string {
	return fmt.Sprintf("%d %d %q", b.Len(), b.Bytes(), b.Keys())
}

// wantKept holds the keys, of single letters, and the bytes of a budget.
func wantKept[T any](t *testing.T, b *budget.Budget[T], keys string, bytes int) {
	t.Helper()
	if want := fmt.Sprintf("%d %d %q", len(keys), bytes, strings.Split(keys, "")); kept(b) != want {
		t.Errorf("kept: %s; want %s", kept(b), want)
	}
}

// wantPut puts a value, and holds the keys that go, of single letters.
func wantPut[T any](t *testing.T, b *budget.Budget[T], key string, size int, x T, gone string) {
	t.Helper()
	if got := b.Put(key, size, x); strings.Join(got, "") != gone || len(got) != len(gone) {
		t.Errorf("Put(%q, %d) = %q; want %q", key, size, got, gone)
	}
}

// TestExamples: P18.1 to P18.4, the chapter's examples.
func TestExamples(t *testing.T) {
	b := budget.New[string](2, 10)
	wantPut(t, b, "a", 4, "x", "")
	wantPut(t, b, "b", 4, "y", "")
	if x, ok := b.Get("a"); x != "x" || !ok {
		t.Errorf("Get(a) = %q, %t", x, ok)
	}
	wantPut(t, b, "c", 2, "z", "b")
	wantKept(t, b, "ac", 6)
	wantPut(t, b, "a", 9, "w", "c")
	wantKept(t, b, "a", 9)
	wantPut(t, b, "c", 11, "v", "")
	wantKept(t, b, "a", 9)
	wantPut(t, b, "a", 11, "u", "a")
	wantKept(t, b, "", 0)
	wantPut(t, b, "d", -5, "t", "")
	wantKept(t, b, "d", 0)
}

// TestBounds: P18.1, the numbers of which there is a budget, and those beside them.
func TestBounds(t *testing.T) {
	may := func(n, most int) bool { return n >= 1 && n <= most }
	around := func(most int) []int {
		return []int{math.MinInt, math.MinInt32, -most, -1, 0, 1, 2, most / 2, most - 1, most, most + 1, math.MaxInt32, 1<<32 + 1, math.MaxInt}
	}
	for _, entries := range around(mostEntries) {
		for _, bytes := range around(mostBytes) {
			b := budget.New[string](entries, bytes)
			if want := may(entries, mostEntries) && may(bytes, mostBytes); (b != nil) != want {
				t.Errorf("New(%d, %d) is a budget: %t", entries, bytes, b != nil)
			}
			if b != nil {
				wantKept(t, b, "", 0)
			}
			wantNothing(t, b, "")
		}
	}
}

// wantNothing holds that nothing is kept under the key.
func wantNothing(t *testing.T, b *budget.Budget[string], key string) {
	t.Helper()
	if x, ok := b.Get(key); x != "" || ok {
		t.Errorf("Get(%q) = %q, %t", key, x, ok)
	}
	if x, ok := b.Peek(key); x != "" || ok {
		t.Errorf("Peek(%q) = %q, %t", key, x, ok)
	}
	if b.Drop(key) {
		t.Errorf("Drop(%q) = true", key)
	}
}

// TestNotMade: P18.1, nil, and budgets that are not of New.
func TestNotMade(t *testing.T) {
	for name, b := range map[string]*budget.Budget[string]{"nil": nil, "zero": {}, "new": new(budget.Budget[string]), "of New": budget.New[string](0, 0)} {
		for _, size := range []int{0, 1, -1, math.MinInt, math.MaxInt} {
			for _, key := range []string{"", "a"} {
				for range 2 {
					if gone := b.Put(key, size, "x"); len(gone) != 0 {
						t.Errorf("%s: Put(%q, %d) = %q", name, key, size, gone)
					}
					wantNothing(t, b, key)
				}
				wantKept(t, b, "", 0)
			}
		}
	}
}

// TestCopies: P18.1, P18.5, a copy of a budget never makes it keep more than it may, or what it does not tell.
func TestCopies(t *testing.T) {
	b := budget.New[int](1, 10)
	c := *b
	for i, x := range []*budget.Budget[int]{&c, b, &c, &c, b, b, &c} {
		x.Put(strconv.Itoa(i), 10, i)
		for _, y := range []*budget.Budget[int]{b, &c} {
			y.Get("0")
			y.Drop("1")
			if y.Len() != len(y.Keys()) || y.Len() > 1 || y.Bytes() != 10*y.Len() {
				t.Errorf("kept: %s", kept(y))
			}
		}
	}
	if b.Put("a", 0, 7); !slices.Contains(b.Keys(), "a") {
		t.Errorf("kept: %s", kept(b))
	}
}

// TestPut: P18.2, what goes when a value comes.
func TestPut(t *testing.T) {
	for _, c := range []struct {
		entries, bytes int
		// The values that are put first, each of so many bytes; then one more, what goes for it, and what is then kept.
		sizes string
		key   string
		size  int
		gone  string
		keys  string
		total int
	}{
		// Within both bounds, at them, and one beyond.
		{3, 9, "", "x", 0, "", "x", 0}, {3, 9, "", "x", 8, "", "x", 8}, {3, 9, "", "x", 9, "", "x", 9}, {3, 9, "", "x", 10, "", "", 0},
		{3, 9, "33", "x", 2, "", "abx", 8}, {3, 9, "33", "x", 3, "", "abx", 9}, {3, 9, "33", "x", 4, "a", "bx", 7}, {3, 9, "33", "x", 6, "a", "bx", 9}, {3, 9, "33", "x", 7, "ab", "x", 7},
		{3, 9, "111", "x", 1, "a", "bcx", 3}, {3, 9, "000", "x", 0, "a", "bcx", 0}, {3, 9, "333", "x", 3, "a", "bcx", 9}, {3, 9, "333", "x", 4, "ab", "cx", 7}, {3, 9, "333", "x", 9, "abc", "x", 9}, {1, 9, "1", "x", 1, "a", "x", 1}, {1, 1, "1", "x", 1, "a", "x", 1}, {1, 1, "1", "x", 0, "a", "x", 0}, {1, 1, "0", "x", 1, "a", "x", 1},
		// The first in order go, even if that makes no room; those behind stay, even if they are large.
		{9, 9, "0009", "x", 1, "abcd", "x", 1}, {9, 9, "1008", "x", 1, "a", "bcdx", 9}, {9, 9, "0108", "x", 1, "ab", "cdx", 9}, {9, 9, "9", "x", 0, "", "ax", 9}, {9, 9, "90", "x", 1, "a", "bx", 1},
		// What is too large does not come, and nothing else goes.
		{3, 9, "333", "x", 10, "", "abc", 9}, {3, 9, "333", "x", math.MaxInt, "", "abc", 9}, {3, 9, "333", "a", 10, "a", "bc", 6}, {3, 9, "333", "b", 10, "b", "ac", 6}, {3, 9, "333", "c", math.MaxInt, "c", "ab", 6}, {1, 1, "1", "a", 2, "a", "", 0}, {1, 1, "1", "x", 2, "", "a", 1}, {9, 9, "000", "a", 10, "a", "bc", 0},
		// Below 0 is 0.
		{3, 9, "333", "x", -1, "a", "bcx", 6}, {4, 9, "333", "x", -1, "", "abcx", 9}, {4, 9, "333", "x", math.MinInt, "", "abcx", 9}, {3, 9, "333", "b", -9, "", "acb", 6}, {1, 1, "", "x", math.MinInt, "", "x", 0},
		// What the key had before counts no more, and does not go.
		{3, 9, "333", "a", 3, "", "bca", 9}, {3, 9, "333", "b", 3, "", "acb", 9}, {3, 9, "333", "c", 3, "", "abc", 9}, {3, 9, "333", "a", 0, "", "bca", 6}, {3, 9, "333", "a", 4, "b", "ca", 7}, {3, 9, "333", "b", 4, "a", "cb", 7}, {3, 9, "333", "c", 6, "a", "bc", 9}, {3, 9, "333", "c", 7, "ab", "c", 7}, {3, 9, "333", "a", 9, "bc", "a", 9}, {3, 9, "9", "a", 9, "", "a", 9}, {1, 9, "9", "a", 1, "", "a", 1}, {3, 9, "090", "a", 1, "b", "ca", 1},
	} {
		b := budget.New[int](c.entries, c.bytes)
		for i, digit := range c.sizes {
			wantPut(t, b, string(rune('a'+i)), int(digit-'0'), i, "")
		}
		wantPut(t, b, c.key, c.size, 9, c.gone)
		wantKept(t, b, c.keys, c.total)
		if x, ok := b.Get(c.key); ok != strings.Contains(c.keys, c.key) || ok && x != 9 {
			t.Errorf("%s: Get(%s) = %d, %t", c.sizes, c.key, x, ok)
		}
		for i := range c.sizes {
			key := string(rune('a' + i))
			if x, ok := b.Peek(key); key != c.key && (ok != strings.Contains(c.keys, key) || ok && x != i) {
				t.Errorf("%s: Peek(%s) = %d, %t", c.sizes, key, x, ok)
			}
		}
	}
}

// TestUse: P18.3, P18.5, what counts as a use, and what does not.
func TestUse(t *testing.T) {
	for calls, want := range map[string]string{
		"": "abc", "Ga": "bca", "Gb": "acb", "Gc": "abc", "GaGb": "cab", "GaGa": "bca", "GcGbGa": "cba", "GaGbGc": "abc", "Gx": "abc", "G": "abc", "GA": "abc",
		"Pa": "abc", "PaPb": "abc", "Px": "abc", "GaPb": "bca",
		"Da": "bc", "Db": "ac", "Dc": "ab", "DaDb": "c", "DaDbDc": "", "DcDbDa": "", "DaDa": "bc", "Dx": "abc", "D": "abc", "DA": "abc", "DaGa": "bc", "GaDa": "bc", "GaDb": "ca", "DbGa": "ca",
	} {
		b := budget.New[int](9, 99)
		values := map[string]int{}
		for i, key := range []string{"a", "b", "c"} {
			b.Put(key, 10, i+1)
			values[key] = i + 1
		}
		for rest := calls; rest != ""; {
			call := rest[0]
			n := 1 + strings.IndexAny(rest[1:]+"G", "GPD")
			key := rest[1:n]
			rest = rest[n:]
			var x int
			var ok bool
			switch call {
			case 'G':
				x, ok = b.Get(key)
			case 'P':
				x, ok = b.Peek(key)
			case 'D':
				ok = b.Drop(key)
			}
			if had := values[key]; ok != (had != 0) || call != 'D' && x != had {
				t.Errorf("%s: %c(%q) = %d, %t", calls, call, key, x, ok)
			}
			if call == 'D' {
				delete(values, key)
			}
		}
		wantKept(t, b, want, 10*len(want))
		// The order is the one in which they go.
		wantPut(t, b, "z", 99, 0, want)
	}
}

// TestKeys: P18.2 to P18.4, keys are any bytes, and different ones are different keys.
func TestKeys(t *testing.T) {
	w := newTrial(t, mostEntries, mostBytes)
	keys := []string{"", "a", "A", "aa", "a ", " a", "\x00", "\x00\x00", "a\x00", "\xff", "\xff\xfe", "\xc3\xa9", "e\xcc\x81", "http://a/", "http://a/?", strings.Repeat("a", 1<<16), strings.Repeat("a", 1<<16+1)}
	samples.EachByte(func(_ byte, s string) {
		if !slices.Contains(keys, s) {
			keys = append(keys, s)
		}
	})
	for i, key := range keys {
		w.put(key, i)
	}
	w.state()
	for i, key := range keys {
		w.peek(key)
		switch i % 3 {
		case 0:
			w.get(key)
		case 1:
			w.drop(key)
		}
		w.peek(key)
	}
	w.state()
	if want := len(keys) - (len(keys)+1)/3; w.real.Len() != want {
		t.Errorf("%d keys; want %d", w.real.Len(), want)
	}
}

// TestMost: P18.2, P18.5, the greatest budget, filled, and one beyond.
func TestMost(t *testing.T) {
	const size = mostBytes / mostEntries
	b := budget.New[int](mostEntries, mostBytes)
	var keys []string
	for i := range mostEntries {
		keys = append(keys, strconv.Itoa(i))
		wantPut(t, b, keys[i], size, i, "")
	}
	if !slices.Equal(b.Keys(), keys) || b.Len() != mostEntries || b.Bytes() != mostBytes {
		t.Errorf("%d keys, %d bytes", b.Len(), b.Bytes())
	}
	for _, c := range []struct {
		key  string
		size int
		// How many of the first keys go.
		gone, bytes int
	}{
		{"x", 0, 1, mostBytes - size}, {"y", size, 1, mostBytes - size}, {"z", 2*size + 1, 2, mostBytes - size + 1}, {"z", mostBytes + 1, 1, mostBytes - 3*size}, {"x", math.MaxInt, 1, mostBytes - 3*size}, {"x", mostBytes, mostEntries - 3, mostBytes}, {"y", mostBytes, 1, mostBytes}, {"y", mostBytes, 0, mostBytes}, {"y", mostBytes + 1, 1, 0}, {"y", math.MaxInt, 0, 0},
	} {
		had := slices.DeleteFunc(b.Keys(), func(key string) bool { return key == c.key })
		want := had[:min(c.gone, len(had))]
		if c.size > mostBytes {
			want = []string{c.key}[:c.gone]
		}
		if got := b.Put(c.key, c.size, 1); !slices.Equal(got, want) {
			t.Errorf("Put(%s, %d): %d keys go; want %d", c.key, c.size, len(got), len(want))
		}
		if b.Bytes() != c.bytes {
			t.Errorf("Put(%s, %d): %d bytes; want %d", c.key, c.size, b.Bytes(), c.bytes)
		}
	}
	wantKept(t, b, "", 0)
}

// TestEverySequence: P18.2 to P18.5, all that can be done in five calls of a few.
func TestEverySequence(t *testing.T) {
	calls := map[string]func(w *trial){
		"0": func(w *trial) { w.put("a", 0) }, "1": func(w *trial) { w.put("a", 2) }, "2": func(w *trial) { w.put("b", 1) }, "3": func(w *trial) { w.put("b", 3) }, "4": func(w *trial) { w.put("c", -1) }, "5": func(w *trial) { w.put("c", 4) }, "6": func(w *trial) { w.put("d", 2) },
		"7": func(w *trial) { w.get("a") }, "8": func(w *trial) { w.get("b") }, "9": func(w *trial) { w.drop("a") },
	}
	var names []string
	for name := range calls {
		names = append(names, name)
	}
	for _, entries := range []int{1, 2, 3} {
		samples.Words(names, 5, func(s string) {
			if t.Failed() {
				return
			}
			w := newTrial(t, entries, 3)
			for i := range len(s) {
				calls[s[i:i+1]](w)
			}
			w.state()
			w.peek("a")
			w.peek("b")
		})
	}
}

// TestSamples: P18.2 to P18.5, many calls on budgets of all kinds.
func TestSamples(t *testing.T) {
	random := rand.New(rand.NewSource(18))
	draw := random.Intn
	for range 2000 {
		w := newTrial(t, samples.Pick(draw, 1, 2, 3, 5, 20, mostEntries), samples.Pick(draw, 1, 2, 9, 30, 1000, mostBytes))
		keys := 1 + draw(samples.Pick(draw, 3, 8, 40))
		for range 80 {
			key := strconv.Itoa(draw(keys))
			switch draw(6) {
			case 0:
				w.get(key)
			case 1:
				w.drop(key)
			case 2:
				w.peek(key)
			default:
				b := w.model.bytes
				w.put(key, samples.Pick(draw, 0, 1, draw(b+2), draw(b/4+1), draw(b/9+1), b-1, b, b+1, -draw(9), math.MinInt, math.MaxInt))
			}
			w.state()
			if t.Failed() {
				return
			}
		}
	}
}

// TestMoreEntries: P18.6, with more entries, the same calls keep all keys, and more.
func TestMoreEntries(t *testing.T) {
	random := rand.New(rand.NewSource(186))
	draw := random.Intn
	more := 0
	for range 3000 {
		bytes := samples.Pick(draw, 1, 9, mostBytes)
		entries := 1 + draw(8)
		few, many := budget.New[int](entries, bytes), budget.New[int](entries+1+draw(8), bytes)
		keys := 1 + draw(24)
		for range 60 {
			key, call, size := strconv.Itoa(draw(keys)), draw(5), -draw(2)
			for _, b := range []*budget.Budget[int]{few, many} {
				switch call {
				case 0:
					b.Get(key)
				case 1:
					b.Drop(key)
				case 2:
					b.Peek(key)
				default:
					b.Put(key, size, 0)
				}
			}
			for _, key := range few.Keys() {
				if _, ok := many.Peek(key); !ok {
					t.Fatalf("%q is kept of %q, and not in %q", key, few.Keys(), many.Keys())
				}
			}
			if many.Len() > few.Len() {
				more++
			}
		}
	}
	if more < 3000 {
		t.Errorf("more is kept %d times only", more)
	}
}

// TestValues: P18.2, P18.3, values of any type, as they were put; a key's zero value is not the same as none.
func TestValues(t *testing.T) {
	functions := budget.New[func() int](2, 1)
	functions.Put("a", 0, func() int { return 5 })
	functions.Put("b", 0, nil)
	if f, ok := functions.Get("a"); !ok || f() != 5 {
		t.Errorf("Get of a function: %t", ok)
	}
	if f, ok := functions.Peek("b"); !ok || f != nil {
		t.Errorf("Peek of a nil function: %t", ok)
	}
	if f, ok := functions.Get("c"); ok || f != nil {
		t.Errorf("Get of none: %t", ok)
	}
	anything := budget.New[any](9, 1)
	for i, x := range []any{nil, 5, "x", []int{1}, map[string]int{"a": 1}, math.NaN(), func() {}} {
		key := strconv.Itoa(i)
		anything.Put(key, 0, x)
		anything.Put(key, 0, x)
		if got, ok := anything.Get(key); !ok || fmt.Sprint(got) != fmt.Sprint(x) {
			t.Errorf("Get(%s) = %v, %t; want %v", key, got, ok, x)
		}
	}
	type wide struct {
		words [3][]string
		next  *budget.Budget[int]
	}
	structs := budget.New[wide](1, 1)
	next := budget.New[int](1, 1)
	structs.Put("a", 0, wide{[3][]string{{"x"}, nil, {"y", "z"}}, next})
	next.Put("b", 1, 7)
	got, ok := structs.Get("a")
	if !ok || got.words[2][1] != "z" || got.next != next {
		t.Errorf("Get(a) = %v, %t", got, ok)
	}
	wantKept(t, got.next, "b", 1)
	if got, ok := structs.Get("b"); ok || got.next != nil || got.words[0] != nil {
		t.Errorf("Get(b) = %v, %t", got, ok)
	}
	nothing := budget.New[struct{}](2, 1)
	wantPut(t, nothing, "a", 1, struct{}{}, "")
	wantPut(t, nothing, "b", 1, struct{}{}, "a")
	wantKept(t, nothing, "b", 1)
}

// TestApart: P18.2 to P18.4, budgets do not affect each other.
func TestApart(t *testing.T) {
	a, b := budget.New[int](2, 10), budget.New[int](2, 10)
	wantPut(t, a, "a", 10, 1, "")
	wantPut(t, b, "a", 10, 2, "")
	wantPut(t, b, "b", 1, 3, "a")
	wantKept(t, a, "a", 10)
	if x, ok := a.Get("a"); x != 1 || !ok || a.Drop("b") || !a.Drop("a") {
		t.Errorf("Get(a) = %d, %t", x, ok)
	}
	wantKept(t, b, "b", 1)
}

// TestNewMemory: P18.2, P18.4, no list of keys is the budget's own, and no memory of a caller's is kept.
func TestNewMemory(t *testing.T) {
	b := budget.New[int](3, 10)
	bytes := []byte("abc")
	for i := range bytes {
		b.Put(unsafe.String(&bytes[i], 1), 2, i)
	}
	again := b.Keys()
	for i, key := range b.Keys() {
		if unsafe.StringData(key) == unsafe.StringData(again[i]) {
			t.Errorf("the key %q has its place in another answer", key)
		}
	}
	clear(again[:cap(again)])
	copy(bytes, "xyz")
	wantKept(t, b, "abc", 6)
	wantPut(t, b, "d", 2, 3, "a")
	if x, ok := b.Get("b"); x != 1 || !ok || b.Drop("x") {
		t.Errorf("Get(b) = %d, %t", x, ok)
	}
	copy(bytes, "bcd")
	one, two := b.Put(unsafe.String(&bytes[0], 1), 11, 4), b.Put("e", 10, 5)
	copy(bytes, "xyz")
	if !slices.Equal(one, []string{"b"}) || !slices.Equal(two, []string{"c", "d"}) {
		t.Errorf("gone: %q, %q", one, two)
	}
	clear(two[:cap(two)])
	wantKept(t, b, "e", 10)
}

// TestNotRetained: P18.2, P18.3, a value that is replaced, removed, dropped or too large is nowhere in the budget.
func TestNotRetained(t *testing.T) {
	type block [1 << 10]byte
	b := budget.New[*block](2, 10)
	put := func(key string, size int) weak.Pointer[block] {
		x := new(block)
		b.Put(key, size, x)
		return weak.Make(x)
	}
	gone := map[string]weak.Pointer[block]{"too large": put("a", 11), "replaced": put("a", 1), "put out by entries": put("a", 1)}
	put("b", 1)
	gone["put out by bytes"] = put("c", 1)
	put("d", 10)
	gone["dropped"] = put("e", 0)
	b.Drop("e")
	gone["replaced by one too large"] = put("f", 0)
	put("f", 11)
	here := put("g", 0)
	runtime.GC()
	for name, x := range gone {
		if x.Value() != nil {
			t.Errorf("%s: still there", name)
		}
	}
	if x, ok := b.Get("g"); !ok || x != here.Value() {
		t.Errorf("the value of g is lost")
	}
}
