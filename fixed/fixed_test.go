package fixed_test

import (
	"math"
	"math/big"
	"math/rand"
	"slices"
	"testing"

	"bitloft/api"
	"bitloft/fixed"
)

var ends = []int32{math.MinInt32, math.MinInt32 + 1, -65536, -3, -1, 0, 1, 2, 46340, 46341, 65535, 65536, math.MaxInt32 - 1, math.MaxInt32}

func saturated(n *big.Int) int32 {
	if n.Cmp(big.NewInt(math.MaxInt32)) > 0 {
		return math.MaxInt32
	}
	if n.Cmp(big.NewInt(math.MinInt32)) < 0 {
		return math.MinInt32
	}
	return int32(n.Int64())
}

func TestSat(t *testing.T) {
	for _, n := range []int64{math.MinInt64, math.MinInt32 - 1, math.MinInt32, -1, 0, 1, math.MaxInt32, math.MaxInt32 + 1, 1 << 32, math.MaxInt64} {
		if s := fixed.Sat(n); s != saturated(big.NewInt(n)) {
			t.Errorf("%d: %d", n, s)
		}
	}
}

func TestSumsAndProducts(t *testing.T) {
	for _, a := range ends {
		for _, b := range ends {
			x, y := big.NewInt(int64(a)), big.NewInt(int64(b))
			if s := fixed.Add(a, b); s != saturated(new(big.Int).Add(x, y)) {
				t.Errorf("%d + %d: %d", a, b, s)
			}
			if s := fixed.Sub(a, b); s != saturated(new(big.Int).Sub(x, y)) {
				t.Errorf("%d - %d: %d", a, b, s)
			}
			if s := fixed.Mul(a, b); s != saturated(new(big.Int).Mul(x, y)) {
				t.Errorf("%d * %d: %d", a, b, s)
			}
			if fixed.Add(a, b) != fixed.Add(b, a) || fixed.Mul(a, b) != fixed.Mul(b, a) {
				t.Errorf("%d, %d: the order matters", a, b)
			}
		}
	}
	if fixed.Add(2147483647, 1) != 2147483647 || fixed.Mul(-2147483648, -1) != 2147483647 {
		t.Error("examples")
	}
}

func rounded(n int64, k int) int64 {
	if k == 0 {
		return n
	}
	x := big.NewInt(n)
	x.Add(x, new(big.Int).Lsh(big.NewInt(1), uint(k-1)))
	return x.Rsh(x, uint(k)).Int64()
}

func TestRound(t *testing.T) {
	numbers := []int64{math.MinInt64, math.MinInt64 + 1, -6, -5, -4, -3, -2, -1, 0, 1, 2, 3, 4, 5, 6, math.MaxInt64 - 1, math.MaxInt64}
	r := rand.New(rand.NewSource(1))
	for range 200 {
		numbers = append(numbers, int64(r.Uint64())>>r.Intn(60))
	}
	for _, n := range numbers {
		for k := 0; k <= 62; k++ {
			if m, e := fixed.Round(n, k); e != api.OK || m != rounded(n, k) {
				t.Fatalf("%d by %d: %d %v", n, k, m, e)
			}
		}
	}
	for _, k := range []int{-1, 63, 64, math.MinInt64, math.MaxInt64} {
		if m, e := fixed.Round(5, k); e != api.ErrArg || m != 0 {
			t.Errorf("by %d: %d %v", k, m, e)
		}
	}
	if up, _ := fixed.Round(5, 1); up != 3 {
		t.Error(up)
	}
	if down, _ := fixed.Round(-5, 1); down != -2 {
		t.Error(down)
	}
}

func dot(a, b []int32) int32 {
	sum := new(big.Int)
	for i := range a {
		sum.Add(sum, new(big.Int).Mul(big.NewInt(int64(a[i])), big.NewInt(int64(b[i]))))
	}
	return saturated(sum)
}

func TestDotExamples(t *testing.T) {
	if d, e := fixed.Dot([]int32{1, 2, 3}, []int32{4, -5, 6}); e != api.OK || d != 12 {
		t.Error(d, e)
	}
	if d, e := fixed.Dot([]int32{65536, 65536}, []int32{32768, -32768}); e != api.OK || d != 0 {
		t.Error(d, e)
	}
	if d, e := fixed.Dot(nil, []int32{}); e != api.OK || d != 0 {
		t.Error(d, e)
	}
}

func TestDotIsExact(t *testing.T) {
	r := rand.New(rand.NewSource(2))
	for range 5000 {
		n := r.Intn(api.MaxDot + 1)
		a, b := make([]int32, n), make([]int32, n)
		for i := range a {
			a[i], b[i] = int32(r.Uint32())>>r.Intn(32), int32(r.Uint32())>>r.Intn(32)
			if r.Intn(3) == 0 {
				a[i] = ends[r.Intn(len(ends))]
			}
			if r.Intn(3) == 0 {
				b[i] = ends[r.Intn(len(ends))]
			}
		}
		// What is taken away again must not have been cut off in between.
		if n > 1 {
			a[n-1], b[n-1] = a[0], -b[0]
		}
		before := slices.Clone(a)
		if d, e := fixed.Dot(a, b); e != api.OK || d != dot(a, b) {
			t.Fatalf("%v %v: %d %v", a, b, d, e)
		}
		if d, _ := fixed.Dot(b, a); d != dot(a, b) || !slices.Equal(a, before) {
			t.Fatalf("%v %v: %d", a, b, d)
		}
		slices.Reverse(a)
		slices.Reverse(b)
		if d, _ := fixed.Dot(a, b); d != dot(a, b) {
			t.Fatalf("turned %v %v: %d", a, b, d)
		}
		if d, _ := fixed.Dot(a, a); d < 0 {
			t.Fatalf("%v with itself: %d", a, d)
		}
	}
}

func TestDotEnds(t *testing.T) {
	low := slices.Repeat([]int32{math.MinInt32}, 16)
	high := slices.Repeat([]int32{math.MaxInt32}, 16)
	if d, e := fixed.Dot(low, low); e != api.OK || d != math.MaxInt32 {
		t.Error(d, e)
	}
	if d, e := fixed.Dot(low, high); e != api.OK || d != math.MinInt32 {
		t.Error(d, e)
	}
	mixed := slices.Clone(low)
	for i := range 8 {
		mixed[i] = math.MaxInt32
	}
	if d, e := fixed.Dot(low, mixed); e != api.OK || d != math.MaxInt32 {
		t.Error(d, e)
	}
}

func TestDotErrors(t *testing.T) {
	long := make([]int32, 17)
	for _, c := range []struct {
		a, b []int32
		e    api.Errno
	}{
		{long, long, api.ErrMany}, {long, nil, api.ErrMany}, {nil, long, api.ErrMany},
		{long[:16], long, api.ErrMany}, {long[:16], long[:15], api.ErrArg}, {nil, long[:1], api.ErrArg},
	} {
		if d, e := fixed.Dot(c.a, c.b); e != c.e || d != 0 {
			t.Errorf("%d and %d: %d %v", len(c.a), len(c.b), d, e)
		}
	}
}
