package ring_test

import (
	"bytes"
	"math"
	"math/rand"
	"testing"

	"bitloft/api"
	"bitloft/ring"
)

func fresh(t *testing.T, level int) api.Ring {
	t.Helper()
	r, e := ring.New(level)
	if e != api.OK {
		t.Fatal(level, e)
	}
	return r
}

func put(t *testing.T, r api.Ring, b []byte) api.Ring {
	t.Helper()
	next, e := ring.Put(r, b)
	if e != api.OK {
		t.Fatal(e)
	}
	return next
}

func isZero(r api.Ring) bool {
	return r.Level == 0 && r.N == 0 && len(r.Bytes) == 0
}

func some(seed int64, n int) []byte {
	b := make([]byte, n)
	rand.New(rand.NewSource(seed)).Read(b)
	return b
}

func TestNew(t *testing.T) {
	for level := 0; level <= 7; level++ {
		r := fresh(t, level)
		if r.Level != level || r.N != 0 || !bytes.Equal(r.Bytes, make([]byte, 64<<level)) || ring.Check(r) != api.OK {
			t.Error(level, r)
		}
	}
	for _, level := range []int{-1, 8, math.MinInt, math.MaxInt} {
		if r, e := ring.New(level); e != api.ErrArg || !isZero(r) {
			t.Error(level, e)
		}
	}
}

func TestCheck(t *testing.T) {
	places := make([]byte, 64)
	last := append(make([]byte, 63), 1)
	for _, c := range []struct {
		r api.Ring
		e api.Errno
	}{
		{api.Ring{Bytes: places}, api.OK},
		{api.Ring{Bytes: last, N: 64}, api.OK},
		{api.Ring{Bytes: last, N: 63}, api.ErrBad},
		{api.Ring{Bytes: last}, api.ErrBad},
		{api.Ring{Bytes: some(1, 64), N: 1000}, api.OK},
		{api.Ring{Bytes: some(1, 64), N: api.MaxPut}, api.OK},
		{api.Ring{Bytes: places, N: api.MaxPut + 1}, api.ErrBad},
		{api.Ring{Bytes: places, N: -1}, api.ErrBad},
		{api.Ring{Bytes: places[:63]}, api.ErrBad},
		{api.Ring{Bytes: make([]byte, 65)}, api.ErrBad},
		{api.Ring{Bytes: places, Level: 1}, api.ErrBad},
		{api.Ring{Bytes: make([]byte, 128), Level: 1}, api.OK},
		{api.Ring{Bytes: make([]byte, 32), Level: -1}, api.ErrBad},
		{api.Ring{Bytes: make([]byte, 64<<8), Level: 8}, api.ErrBad},
		{api.Ring{Level: math.MinInt}, api.ErrBad},
		{api.Ring{Level: math.MaxInt}, api.ErrBad},
		{api.Ring{}, api.ErrBad},
	} {
		if e := ring.Check(c.r); e != c.e {
			t.Errorf("level %d, %d bytes, N %d: %v", c.r.Level, len(c.r.Bytes), c.r.N, e)
		}
		if c.e == api.OK {
			continue
		}
		if r, e := ring.Put(c.r, make([]byte, api.MaxBytes+1)); e != api.ErrBad || !isZero(r) {
			t.Error("Put", e)
		}
		if b, e := ring.Back(c.r, 0); e != api.ErrBad || b != 0 {
			t.Error("Back", e)
		}
		if b, is, e := ring.At(c.r, -1); e != api.ErrBad || b != 0 || is {
			t.Error("At", e)
		}
		if b, e := ring.Last(c.r, -1); e != api.ErrBad || b != nil {
			t.Error("Last", e)
		}
	}
}

func TestExamples(t *testing.T) {
	r := put(t, fresh(t, 0), []byte("abc"))
	for k, want := range map[int]byte{1: 'c', 3: 'a', 4: 0, 64: 0} {
		if b, e := ring.Back(r, k); e != api.OK || b != want {
			t.Error(k, b, e)
		}
	}
	if b, is, e := ring.At(r, 1); e != api.OK || !is || b != 'b' {
		t.Error(b, is, e)
	}
	if b, is, e := ring.At(r, 3); e != api.OK || is || b != 0 {
		t.Error(b, is, e)
	}
	r = put(t, r, bytes.Repeat([]byte{9}, 64))
	if b, is, e := ring.At(r, 2); e != api.OK || is || b != 0 {
		t.Error(b, is, e)
	}
	if b, is, e := ring.At(r, 3); e != api.OK || !is || b != 9 {
		t.Error(b, is, e)
	}
}

// TestAgainstAll puts bytes and compares with all that were put.
func TestAgainstAll(t *testing.T) {
	random := rand.New(rand.NewSource(1))
	for level := 0; level <= 7; level++ {
		places := 64 << level
		r := fresh(t, level)
		var all []byte
		for step := range 12 {
			b := some(int64(step), random.Intn(places/3)+1)
			spare := append(bytes.Clone(b), 77)
			before := bytes.Clone(r.Bytes)
			next := put(t, r, spare[:len(b)])
			if !bytes.Equal(before, r.Bytes) || r.N != len(all) || spare[len(b)] != 77 {
				t.Fatal("an argument was changed")
			}
			r.Bytes[0]++
			r, all = next, append(all, b...)
			compare(t, r, all)
		}
	}
}

func compare(t *testing.T, r api.Ring, all []byte) {
	t.Helper()
	places := len(r.Bytes)
	if r.N != len(all) || ring.Check(r) != api.OK {
		t.Fatal(r.N, len(all))
	}
	for k := 1; k <= places; k += 1 + places/90 {
		want := byte(0)
		if k <= len(all) {
			want = all[len(all)-k]
		}
		b, e := ring.Back(r, k)
		if e != api.OK || b != want {
			t.Fatal("Back", k, b, e)
		}
		a, is, e := ring.At(r, max(0, r.N-k))
		if e != api.OK || k <= r.N && (!is || a != want) {
			t.Fatal("At", k, a, is, e)
		}
		last, e := ring.Last(r, k)
		if k <= len(all) && (e != api.OK || !bytes.Equal(last, all[len(all)-k:])) || k > len(all) && (e != api.ErrShort || last != nil) {
			t.Fatal("Last", k, e)
		}
	}
	for n := range min(len(all), 300) {
		b, is, e := ring.At(r, n)
		there := len(all)-n <= places
		if e != api.OK || is != there || there && b != all[n] || !there && b != 0 {
			t.Fatal("At", n, b, is, e)
		}
	}
}

func TestPuttingInParts(t *testing.T) {
	b := some(5, 300)
	whole := put(t, fresh(t, 1), b)
	for k := 0; k <= 300; k += 13 {
		parts := put(t, put(t, fresh(t, 1), b[:k]), b[k:])
		if parts.N != whole.N || !bytes.Equal(parts.Bytes, whole.Bytes) {
			t.Fatal(k)
		}
	}
	// Bytes older than there are places leave no trace.
	if other := put(t, put(t, fresh(t, 1), some(6, 172)), b[172:]); !bytes.Equal(other.Bytes, whole.Bytes) {
		t.Error("old bytes left a trace")
	}
}

func TestErrors(t *testing.T) {
	long := make([]byte, api.MaxBytes+1)
	full := api.Ring{Bytes: some(1, 64), N: api.MaxPut}
	near := api.Ring{Bytes: some(1, 64), N: api.MaxPut - 5}
	if r, e := ring.Put(near, long[:5]); e != api.OK || r.N != api.MaxPut {
		t.Error(r.N, e)
	}
	if r, e := ring.Put(full, nil); e != api.OK || r.N != api.MaxPut {
		t.Error(r.N, e)
	}
	if r, e := ring.Put(fresh(t, 0), long[1:]); e != api.OK || r.N != api.MaxBytes {
		t.Error(r.N, e)
	}
	for _, c := range []struct {
		r api.Ring
		b []byte
		e api.Errno
	}{{near, long[:6], api.ErrRange}, {full, long[:1], api.ErrRange}, {full, long, api.ErrMany}, {near, long, api.ErrMany}} {
		if r, e := ring.Put(c.r, c.b); e != c.e || !isZero(r) {
			t.Error(len(c.b), e)
		}
	}
	r := put(t, fresh(t, 0), []byte("abc"))
	for _, k := range []int{0, -1, 65, math.MaxInt, math.MinInt} {
		if b, e := ring.Back(r, k); e != api.ErrArg || b != 0 {
			t.Error("Back", k, b, e)
		}
	}
	for _, k := range []int{-1, 65, math.MaxInt, math.MinInt} {
		if b, e := ring.Last(r, k); e != api.ErrArg || b != nil {
			t.Error("Last", k, b, e)
		}
	}
	if b, e := ring.Last(r, 0); e != api.OK || len(b) != 0 {
		t.Error(b, e)
	}
	if b, e := ring.Last(r, 4); e != api.ErrShort || b != nil {
		t.Error(b, e)
	}
	for _, n := range []int{-1, math.MinInt} {
		if b, is, e := ring.At(r, n); e != api.ErrArg || is || b != 0 {
			t.Error(b, is, e)
		}
	}
	for _, n := range []int{3, 1000, math.MaxInt} {
		if b, is, e := ring.At(r, n); e != api.OK || is || b != 0 {
			t.Error(n, b, is, e)
		}
	}
}

func TestResultsShareNoMemory(t *testing.T) {
	r := put(t, fresh(t, 0), []byte("abc"))
	same := put(t, r, nil)
	last, _ := ring.Last(r, 3)
	r.Bytes[0] = 'x'
	if same.Bytes[0] != 'a' || last[0] != 'a' {
		t.Error("memory is shared")
	}
}
