package recip_test

import (
	"math"
	"testing"

	"bitloft/api"
	"bitloft/recip"
)

var wrong = []int32{0, -1, 1025, math.MinInt32, math.MaxInt32}

func floor(x, n int64) int64 {
	q := x / n
	if x%n != 0 && x < 0 {
		q--
	}
	return q
}

func TestOf(t *testing.T) {
	for n := int32(1); n <= 1024; n++ {
		if r, e := recip.Of(n); e != api.OK || r != 65536/n {
			t.Fatalf("%d: %d %v", n, r, e)
		}
	}
	for _, n := range wrong {
		if r, e := recip.Of(n); e != api.ErrArg || r != 0 {
			t.Errorf("%d: %d %v", n, r, e)
		}
	}
}

func TestDivExamples(t *testing.T) {
	for _, c := range [][3]int32{{100, 3, 33}, {99, 3, 32}, {-1, 1024, -1}, {0, 7, 0}, {math.MinInt32, 1, math.MinInt32}, {math.MaxInt32, 1, math.MaxInt32}} {
		if q, e := recip.Div(c[0], c[1]); e != api.OK || q != c[2] {
			t.Errorf("%d by %d: %d %v", c[0], c[1], q, e)
		}
	}
	for _, n := range wrong {
		if q, e := recip.Div(100, n); e != api.ErrArg || q != 0 {
			t.Errorf("by %d: %d %v", n, q, e)
		}
	}
}

func TestDiv(t *testing.T) {
	for n := int32(1); n <= 1024; n += 1 + n/9 {
		before := int32(math.MinInt32)
		for x := int32(-65535); x <= 65535; x += 17 {
			q, e := recip.Div(x, n)
			if want := floor(int64(x)*int64(65536/n), 65536); e != api.OK || int64(q) != want {
				t.Fatalf("%d by %d: %d %v, not %d", x, n, q, e, want)
			}
			off := int64(q) - floor(int64(x), int64(n))
			if x >= 0 && off != 0 && off != -1 || x < 0 && off != 0 && off != 1 {
				t.Fatalf("%d by %d: off by %d", x, n, off)
			}
			if q < before {
				t.Fatalf("%d by %d: it falls", x, n)
			}
			before = q
		}
	}
}

func TestDivByPowersOfTwo(t *testing.T) {
	for n := int32(1); n <= 1024; n *= 2 {
		for _, x := range []int32{math.MinInt32, math.MinInt32 + 1, -65537, -1, 0, 1, 1023, 65537, math.MaxInt32 - 1, math.MaxInt32} {
			if q, e := recip.Div(x, n); e != api.OK || int64(q) != floor(int64(x), int64(n)) {
				t.Errorf("%d by %d: %d %v", x, n, q, e)
			}
		}
	}
}

func TestStep(t *testing.T) {
	for _, c := range [][4]int32{{32768, 65535, 2, 49151}, {32768, 0, 4, 24576}, {5, 5, 3, 5}} {
		if p, e := recip.Step(c[0], c[1], c[2]); e != api.OK || p != c[3] {
			t.Errorf("%v: %d %v", c, p, e)
		}
	}
	for n := int32(1); n <= 1024; n += 1 + n/5 {
		for p := int32(0); p <= 65535; p += 771 {
			for target := int32(0); target <= 65535; target += 1285 {
				q, e := recip.Step(p, target, n)
				d, _ := recip.Div(target-p, n)
				if e != api.OK || q != p+d || q < min(p, target) || q > max(p, target) {
					t.Fatalf("%d to %d with %d: %d %v", p, target, n, q, e)
				}
				if n == 1 && q != target || target < p && q >= p {
					t.Fatalf("%d to %d with %d: %d", p, target, n, q)
				}
			}
		}
	}
}

func TestStepErrors(t *testing.T) {
	for _, c := range [][3]int32{
		{-1, 0, 1}, {65536, 0, 1}, {0, -1, 1}, {0, 65536, 1}, {0, 0, 0}, {0, 0, 1025}, {0, 0, -1},
		{math.MinInt32, math.MaxInt32, 5}, {math.MaxInt32, math.MinInt32, 1024},
	} {
		if p, e := recip.Step(c[0], c[1], c[2]); e != api.ErrArg || p != 0 {
			t.Errorf("%v: %d %v", c, p, e)
		}
	}
}
