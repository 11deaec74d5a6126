package tick_test

import (
	"math"
	"math/big"
	"strconv"
	"strings"
	"testing"

	"inlay/api"
	"inlay/tick"
)

const most = 2147483648

// numbers are the edges of deltas and of int, and what is around them.
func numbers() []int {
	var out []int
	edges := []int{0, 10, 100, 60, 86400, most / 2, 1 << 32, 1 << 33, api.LastTick}
	for _, n := range append(edges, most, -most, math.MinInt32, math.MaxInt32, math.MaxUint32) {
		out = append(out, n-2, n-1, n, n+1, n+2)
	}
	for n := range 3 {
		out = append(out, math.MinInt+n, math.MaxInt-n, math.MinInt/2+n, math.MaxInt/2-n)
	}
	return out
}

// ticks are the edges of 64-bit numbers and of differences between them.
func ticks() []int64 {
	var out []int64
	for _, n := range numbers() {
		out = append(out, int64(n))
	}
	for d := range int64(3) {
		out = append(out, math.MinInt64+most-1+d, math.MaxInt64-most+1-d)
	}
	return out
}

// delta answers the delta of a number of any size, by the definition.
func delta(n *big.Int) int {
	switch {
	case n.Sign() < 0:
		return 0
	case n.Cmp(big.NewInt(most)) > 0:
		return most
	}
	return int(n.Int64())
}

func deltaOf(n int) int {
	return delta(big.NewInt(int64(n)))
}

func TestTheLimit(t *testing.T) {
	if api.Most != most {
		t.Errorf("Most = %d", api.Most)
	}
}

// TestOf: P2.1.
func TestOf(t *testing.T) {
	cases := []struct{ n, want int }{
		{-5, 0}, {2147483648, most}, {2147483649, most}, {9223372036854775807, most},
		{0, 0}, {1, 1}, {-1, 0}, {5, 5}, {86400, 86400},
		{2147483646, 2147483646}, {2147483647, 2147483647},
		{4294967295, most}, {4294967296, most}, {4294967301, most}, {6442450944, most},
		{-2147483648, 0}, {-4294967291, 0}, {math.MinInt, 0}, {math.MinInt + 1, 0},
	}
	for _, c := range cases {
		if got := tick.Of(c.n); got != c.want {
			t.Errorf("Of(%d) = %d; want %d", c.n, got, c.want)
		}
	}
	for _, n := range numbers() {
		if got := tick.Of(n); got != deltaOf(n) {
			t.Errorf("Of(%d) = %d; want %d", n, got, deltaOf(n))
		}
	}
}

// TestAdd: P2.1.
func TestAdd(t *testing.T) {
	cases := []struct{ a, b, want int }{
		{2147483647, 1, most}, {2147483647, 2, most}, {-5, 7, 7},
		{7, -5, 7}, {-5, -7, 0}, {0, 0, 0}, {3, 4, 7}, {0, 9, 9}, {9, 0, 9},
		{1, 2147483646, 2147483647}, {1073741824, 1073741823, 2147483647}, {1073741824, 1073741824, most},
		{most, 0, most}, {most, 1, most}, {most, most, most}, {most, -1, most}, {-most, most, most},
		{math.MaxInt, math.MaxInt, most}, {math.MaxInt, 1, most}, {1, math.MaxInt, most},
		{math.MinInt, math.MinInt, 0}, {math.MinInt, -1, 0}, {math.MinInt, 3, 3}, {math.MinInt, math.MaxInt, most},
	}
	for _, c := range cases {
		if got := tick.Add(c.a, c.b); got != c.want {
			t.Errorf("Add(%d, %d) = %d; want %d", c.a, c.b, got, c.want)
		}
	}
	for _, a := range numbers() {
		for _, b := range numbers() {
			sum := new(big.Int).Add(big.NewInt(int64(deltaOf(a))), big.NewInt(int64(deltaOf(b))))
			if got := tick.Add(a, b); got != delta(sum) {
				t.Errorf("Add(%d, %d) = %d; want %d", a, b, got, delta(sum))
			}
		}
	}
}

// TestLess: P2.1.
func TestLess(t *testing.T) {
	cases := []struct{ a, b, want int }{
		{3, 5, 0}, {5, 3, 2}, {5, -3, 5},
		{5, 5, 0}, {0, 0, 0}, {0, 1, 0}, {1, 0, 1}, {-5, -3, 0}, {-3, -5, 0}, {-5, 3, 0},
		{most, 0, most}, {most, 1, 2147483647}, {most, most, 0}, {0, most, 0},
		// What is above the limit is the limit ahead of the difference.
		{most + 5, 5, most - 5}, {most + 5, most + 3, 0}, {most + 5, most, 0}, {most, most + 5, 0},
		{most, -1, most}, {math.MaxInt, 1, most - 1}, {math.MaxInt, math.MinInt, most},
		{math.MinInt, math.MaxInt, 0}, {math.MinInt, 1, 0}, {7, math.MinInt, 7}, {math.MaxInt, math.MaxInt, 0},
	}
	for _, c := range cases {
		if got := tick.Less(c.a, c.b); got != c.want {
			t.Errorf("Less(%d, %d) = %d; want %d", c.a, c.b, got, c.want)
		}
	}
	for _, a := range numbers() {
		for _, b := range numbers() {
			gap := new(big.Int).Sub(big.NewInt(int64(deltaOf(a))), big.NewInt(int64(deltaOf(b))))
			if got := tick.Less(a, b); got != delta(gap) {
				t.Errorf("Less(%d, %d) = %d; want %d", a, b, got, delta(gap))
			}
		}
	}
}

// TestSince: P2.2.
func TestSince(t *testing.T) {
	cases := []struct {
		from, to int64
		want     int
	}{
		{-9223372036854775808, 9223372036854775807, most}, {5, 3, 0}, {3, 5, 2},
		{0, 0, 0}, {7, 7, 0}, {0, 1, 1}, {1, 0, 0}, {-3, 4, 7}, {4, -3, 0}, {-9, -4, 5}, {-4, -9, 0},
		{0, 2147483647, 2147483647}, {0, most, most}, {0, most + 1, most}, {0, 4294967296, most},
		{-1, 2147483646, 2147483647}, {-1, 2147483647, most}, {-1, most, most},
		{0, 253402300799, most}, {253402300790, 253402300799, 9}, {253402300799, 0, 0},
		{math.MaxInt64, math.MinInt64, 0}, {math.MinInt64, math.MinInt64, 0}, {math.MaxInt64, math.MaxInt64, 0},
		{math.MinInt64, math.MinInt64 + 9, 9}, {math.MaxInt64 - 9, math.MaxInt64, 9},
		{math.MinInt64, 0, most}, {0, math.MaxInt64, most}, {math.MinInt64, -1, most}, {-1, math.MaxInt64, most},
		{math.MinInt64 + 1, math.MinInt64, 0}, {0, math.MinInt64, 0}, {math.MaxInt64, -1, 0},
	}
	for _, c := range cases {
		if got := tick.Since(c.from, c.to); got != c.want {
			t.Errorf("Since(%d, %d) = %d; want %d", c.from, c.to, got, c.want)
		}
	}
	for _, from := range ticks() {
		for _, to := range ticks() {
			gap := new(big.Int).Sub(big.NewInt(to), big.NewInt(from))
			if got := tick.Since(from, to); got != delta(gap) {
				t.Errorf("Since(%d, %d) = %d; want %d", from, to, got, delta(gap))
			}
		}
	}
}

func checkDelta(t *testing.T, s string, want int, wantOK bool) {
	t.Helper()
	if got, ok := tick.Delta(s); got != want || ok != wantOK {
		t.Errorf("Delta(%.40q) = %d, %v; want %d, %v", s, got, ok, want, wantOK)
	}
}

// TestDelta: P2.3.
func TestDelta(t *testing.T) {
	cases := map[string]int{
		"007": 7, "99999999999999999999": most,
		"0": 0, "00": 0, "9": 9, "10": 10, "1234567890": 1234567890, "0987654321": 987654321,
		"2147483647": 2147483647, "2147483648": most, "2147483649": most, "2147483650": most,
		"4294967296": most, "4294967301": most, "21474836480": most,
		"9223372036854775807": most, "9223372036854775808": most,
		"18446744073709551616": most, "18446744073709551623": most,
		"002147483647": 2147483647, "00000000000000000000000002147483649": most,
	}
	for s, want := range cases {
		checkDelta(t, s, want, true)
	}
	for _, s := range []string{
		"", "+1", "1 ", " 1", "-1", "-0", "\t1", "1\n", "1.0", "1e3", "0x1", "1_0", "1,2", "1;", "a", "1a", "a1",
		"\x00", "1\x00", "\xff", "/", ":", "0/", "9:", "\"1\"",
		// Digits of other alphabets are none.
		"\xd9\xa1", "\xef\xbc\x91", "\xc2\xb2", "1\xd9\xa1",
		"99999999999999999999x", "x99999999999999999999", "99999999999999999999 ", "99999999999-99999999999",
	} {
		checkDelta(t, s, 0, false)
	}
	for i := range 256 {
		c := string([]byte{byte(i)})
		if i < '0' || i > '9' {
			checkDelta(t, c, 0, false)
			checkDelta(t, "1"+c+"2", 0, false)
			continue
		}
		checkDelta(t, c, i-'0', true)
		checkDelta(t, "1"+c+"2", 102+10*(i-'0'), true)
	}
}

// TestDeltaOfManyDigits: P2.3; what has any length may not go round.
func TestDeltaOfManyDigits(t *testing.T) {
	for _, n := range []int{1, 19, 20, 64, 1000, 1 << 16} {
		zeros := strings.Repeat("0", n)
		checkDelta(t, zeros, 0, true)
		checkDelta(t, zeros+"2147483647", 2147483647, true)
		checkDelta(t, zeros+"2147483649", most, true)
		checkDelta(t, "2147483648"+zeros, most, true)
		checkDelta(t, "9999999999"+zeros, most, true)
		checkDelta(t, "9999999999"+zeros+"x", 0, false)
	}
	for n := 10; n <= 200; n++ {
		checkDelta(t, strings.Repeat("9", n), most, true)
		checkDelta(t, "1"+strings.Repeat("0", n), most, true)
	}
}

// TestDeltaByDefinition: P2.3, every text of few bytes.
func TestDeltaByDefinition(t *testing.T) {
	var extend func(s string)
	extend = func(s string) {
		want, wantOK := 0, s != "" && strings.Trim(s, "0123456789") == ""
		if wantOK {
			n, _ := new(big.Int).SetString(s, 10)
			want = delta(n)
		}
		checkDelta(t, s, want, wantOK)
		if len(s) < 4 {
			for _, c := range "0129+- " {
				extend(s + string(c))
			}
		}
	}
	extend("")
	for _, n := range ticks() {
		if n >= 0 {
			checkDelta(t, strconv.FormatInt(n, 10), delta(big.NewInt(n)), true)
		} else {
			checkDelta(t, strconv.FormatInt(n, 10), 0, false)
		}
	}
}

// TestPut: P2.3.
func TestPut(t *testing.T) {
	cases := map[int]string{
		2147483649: "2147483648", -1: "0", 10: "10",
		0: "0", 7: "7", 60: "60", 1234567890: "1234567890",
		2147483647: "2147483647", 2147483648: "2147483648", 4294967296: "2147483648", 4294967303: "2147483648",
		math.MaxInt: "2147483648", math.MinInt: "0", -2147483648: "0", -10: "0",
	}
	for n, want := range cases {
		if got := tick.Put(n); got != want {
			t.Errorf("Put(%d) = %q; want %q", n, got, want)
		}
	}
	for _, n := range numbers() {
		if got, want := tick.Put(n), big.NewInt(int64(deltaOf(n))).String(); got != want {
			t.Errorf("Put(%d) = %q; want %q", n, got, want)
		}
	}
}

// TestThereAndBack: P2.4, Delta of Put.
func TestThereAndBack(t *testing.T) {
	for _, n := range numbers() {
		checkDelta(t, tick.Put(n), deltaOf(n), true)
	}
	for n := range 5000 {
		checkDelta(t, tick.Put(n), n, true)
		checkDelta(t, tick.Put(most-n), most-n, true)
		checkDelta(t, tick.Put(most+n), most, true)
	}
}

// TestAddIsASum: P2.4.
func TestAddIsASum(t *testing.T) {
	all := numbers()
	for _, a := range all {
		for _, b := range all {
			ab := tick.Add(a, b)
			if ba := tick.Add(b, a); ab != ba {
				t.Errorf("Add(%d, %d) = %d; Add(%d, %d) = %d", a, b, ab, b, a, ba)
			}
			if ab < tick.Of(a) || ab < tick.Of(b) {
				t.Errorf("Add(%d, %d) = %d is smaller", a, b, ab)
			}
			for _, c := range all {
				left, right := tick.Add(ab, c), tick.Add(a, tick.Add(b, c))
				if left != right {
					t.Errorf("Add of %d, %d, %d: %d and %d", a, b, c, left, right)
				}
			}
		}
	}
}

// TestSinceIsAdditive: P2.5.
func TestSinceIsAdditive(t *testing.T) {
	all := ticks()
	for _, a := range all {
		for _, b := range all {
			for _, c := range all {
				if a > b || b > c {
					continue
				}
				got, want := tick.Add(tick.Since(a, b), tick.Since(b, c)), tick.Since(a, c)
				if got != want {
					t.Errorf("from %d by %d to %d: %d; want %d", a, b, c, got, want)
				}
			}
		}
	}
}

// TestNoCallPanics: P2.5.
func TestNoCallPanics(t *testing.T) {
	defer func() {
		if r := recover(); r != nil {
			t.Errorf("panic: %v", r)
		}
	}()
	for _, a := range numbers() {
		tick.Of(a)
		tick.Put(a)
		for _, b := range numbers() {
			tick.Add(a, b)
			tick.Less(a, b)
			tick.Since(int64(a), int64(b))
		}
	}
	for i := range 1 << 16 {
		tick.Delta(string([]byte{byte(i), byte(i >> 8)}))
	}
}
