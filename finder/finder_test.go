package finder_test

import (
	"math"
	"math/rand"
	"slices"
	"testing"

	"bitloft/api"
	"bitloft/finder"
	"bitloft/ring"
)

func fresh(t *testing.T, level int) api.Finder {
	t.Helper()
	f, e := finder.New(level)
	if e != api.OK {
		t.Fatal(level, e)
	}
	return f
}

func with(t *testing.T, level int, b string) api.Ring {
	t.Helper()
	r, _ := ring.New(level)
	for len(b) > api.MaxBytes {
		r, _ = ring.Put(r, []byte(b[:api.MaxBytes]))
		b = b[api.MaxBytes:]
	}
	r, e := ring.Put(r, []byte(b))
	if e != api.OK {
		t.Fatal(e)
	}
	return r
}

func isZero(f api.Finder) bool {
	return f.Level == 0 && len(f.Seen) == 0
}

func TestNew(t *testing.T) {
	for level := 0; level <= 7; level++ {
		f := fresh(t, level)
		if f.Level != level || !slices.Equal(f.Seen, slices.Repeat([]int{-1}, 64<<level)) || finder.Check(f) != api.OK {
			t.Error(level)
		}
	}
	for _, level := range []int{-1, 8, math.MinInt, math.MaxInt} {
		if f, e := finder.New(level); e != api.ErrArg || !isZero(f) {
			t.Error(level, e)
		}
	}
}

func TestCheck(t *testing.T) {
	for _, n := range []int{-1, 0, 1, api.MaxPut} {
		f := fresh(t, 0)
		f.Seen[63] = n
		if e := finder.Check(f); e != api.OK {
			t.Error(n, e)
		}
	}
	spoiled := []api.Finder{
		{}, {Seen: make([]int, 63)}, {Seen: make([]int, 65)}, {Level: 1, Seen: make([]int, 64)},
		{Level: -1, Seen: make([]int, 32)}, {Level: 8, Seen: make([]int, 64<<8)}, {Level: math.MinInt}, {Level: math.MaxInt},
	}
	for _, n := range []int{-2, api.MaxPut + 1, math.MinInt, math.MaxInt} {
		for _, at := range []int{0, 63} {
			f := fresh(t, 0)
			f.Seen[at] = n
			spoiled = append(spoiled, f)
		}
	}
	for i, f := range spoiled {
		if e := finder.Check(f); e != api.ErrBad {
			t.Error(i, e)
		}
		if n, e := finder.Find(f, 1); e != api.ErrBad || n != 0 {
			t.Error(i, n, e)
		}
		if x, e := finder.Put(f, 1, -1); e != api.ErrBad || !isZero(x) {
			t.Error(i, e)
		}
	}
}

func TestPutAndFind(t *testing.T) {
	random := rand.New(rand.NewSource(1))
	for level := 0; level <= 7; level++ {
		f := fresh(t, level)
		put := map[uint32]int{}
		for range 300 {
			h, n := random.Uint32(), random.Intn(api.MaxPut+1)
			before := slices.Clone(f.Seen)
			next, e := finder.Put(f, h, n)
			if e != api.OK || !slices.Equal(f.Seen, before) {
				t.Fatal(h, n, e)
			}
			before[h%(64<<level)] = n
			if next.Level != level || !slices.Equal(next.Seen, before) {
				t.Fatal("another place was changed")
			}
			f.Seen[0] = 99
			if !slices.Equal(next.Seen, before) {
				t.Fatal("memory is shared")
			}
			f = next
			put[h%(64<<level)] = n
			other := random.Uint32()
			want, there := put[other%(64<<level)]
			if !there {
				want = -1
			}
			if got, e := finder.Find(f, other); e != api.OK || got != want {
				t.Fatal(other, got, want, e)
			}
		}
	}
}

func TestPutExamples(t *testing.T) {
	f := fresh(t, 0)
	if n, e := finder.Find(f, 5); e != api.OK || n != -1 {
		t.Error(n, e)
	}
	f, _ = finder.Put(f, 5, 12)
	for h, want := range map[uint32]int{5: 12, 69: 12, 6: -1} {
		if n, e := finder.Find(f, h); e != api.OK || n != want {
			t.Error(h, n, e)
		}
	}
	for _, n := range []int{-1, api.MaxPut + 1, math.MinInt, math.MaxInt} {
		if x, e := finder.Put(f, 5, n); e != api.ErrArg || !isZero(x) {
			t.Error(n, e)
		}
	}
	if x, e := finder.Put(f, 5, api.MaxPut); e != api.OK || x.Seen[5] != api.MaxPut {
		t.Error(e)
	}
	if x, e := finder.Put(f, 5, 0); e != api.OK || x.Seen[5] != 0 {
		t.Error(e)
	}
}

// length is the definition, by ring.At.
func length(r api.Ring, n, most int) int {
	for k := 0; k < most; k++ {
		if n-k-1 < 0 || r.N-k-1 < 0 {
			return k
		}
		a, isA, _ := ring.At(r, n-k-1)
		b, isB, _ := ring.At(r, r.N-k-1)
		if !isA || !isB || a != b {
			return k
		}
	}
	return most
}

func TestLengthExamples(t *testing.T) {
	r := with(t, 0, "xabcyabc")
	for _, c := range [][3]int{{4, 100, 3}, {4, 2, 2}, {4, 3, 3}, {4, 0, 0}, {0, 9, 0}, {8, 100, 8}, {8, 5, 5}, {8, math.MaxInt, 8}, {3, 9, 0}} {
		if n, e := finder.Length(r, c[0], c[1]); e != api.OK || n != c[2] {
			t.Error(c, n, e)
		}
	}
}

func TestLength(t *testing.T) {
	random := rand.New(rand.NewSource(2))
	for range 300 {
		level := random.Intn(3)
		b := make([]byte, random.Intn(600))
		for i := range b {
			b[i] = "ab"[random.Intn(8)/7]
		}
		r := with(t, level, string(b))
		before := slices.Clone(r.Bytes)
		for range 20 {
			n, most := random.Intn(r.N+1), random.Intn(80)
			if random.Intn(2) == 0 {
				n = max(0, r.N-random.Intn(64<<level+3))
			}
			got, e := finder.Length(r, n, most)
			if e != api.OK || got != length(r, n, most) {
				t.Fatal(level, len(b), n, most, got, length(r, n, most), e)
			}
		}
		if !slices.Equal(before, r.Bytes) {
			t.Fatal("the argument was changed")
		}
	}
}

func TestLengthOfOldBytes(t *testing.T) {
	// 70 bytes in 64 places: those before the number 6 are gone, though they were the same.
	r := with(t, 0, string(make([]byte, 70)))
	for n, want := range map[int]int{70: 64, 69: 63, 7: 1, 6: 0, 5: 0, 0: 0} {
		if got, e := finder.Length(r, n, 1000); e != api.OK || got != want {
			t.Error(n, got, e)
		}
	}
	full := api.Ring{Bytes: make([]byte, 64), N: api.MaxPut}
	if got, e := finder.Length(full, api.MaxPut-3, 1000); e != api.OK || got != 61 {
		t.Error(got, e)
	}
}

func TestLengthErrors(t *testing.T) {
	r := with(t, 0, "abab")
	for _, c := range [][2]int{{-1, 5}, {5, 5}, {2, -1}, {math.MinInt, 0}, {math.MaxInt, 0}, {0, math.MinInt}} {
		if n, e := finder.Length(r, c[0], c[1]); e != api.ErrArg || n != 0 {
			t.Error(c, n, e)
		}
	}
	r.N = 1
	if n, e := finder.Length(r, -1, -1); e != api.ErrBad || n != 0 {
		t.Error(n, e)
	}
}
