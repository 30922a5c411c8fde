package hashes_test

import (
	"bytes"
	"math"
	"math/rand"
	"testing"

	"bitloft/api"
	"bitloft/hashes"
)

// next is the definition of a step, in numbers of 64 bits.
func next(h uint32, c byte) uint32 {
	x := uint64(h^uint32(c)) * 16777619 % (1 << 32)
	return uint32(x ^ x/32768)
}

func TestStart(t *testing.T) {
	for kind := range api.Kinds {
		want := uint32(uint64(kind+1) * 2654435769 % (1 << 32))
		if h, e := hashes.Start(kind); e != api.OK || h != want {
			t.Errorf("%d: %d %v", kind, h, e)
		}
	}
	if h, _ := hashes.Start(0); h != 2654435769 {
		t.Error(h)
	}
	if h, _ := hashes.Start(1); h != 1013904242 {
		t.Error(h)
	}
	for _, kind := range []int{-1, 8, math.MinInt, math.MaxInt} {
		if h, e := hashes.Start(kind); e != api.ErrArg || h != 0 {
			t.Errorf("%d: %d %v", kind, h, e)
		}
	}
}

func TestStepAndBack(t *testing.T) {
	if hashes.Step(0, 0) != 0 || hashes.Step(0, 1) != 16778131 {
		t.Error("examples")
	}
	r := rand.New(rand.NewSource(1))
	for range 20000 {
		h, c := r.Uint32(), byte(r.Intn(256))
		if s := hashes.Step(h, c); s != next(h, c) || hashes.Back(s, c) != h {
			t.Fatalf("%d %d: %d back %d", h, c, s, hashes.Back(s, c))
		}
		if b := hashes.Back(h, c); next(b, c) != h {
			t.Fatalf("back from %d by %d: %d", h, c, b)
		}
	}
	for _, h := range []uint32{0, 1, 1 << 31, math.MaxUint32} {
		if hashes.Back(hashes.Step(h, 255), 255) != h {
			t.Error(h)
		}
	}
}

func TestOf(t *testing.T) {
	r := rand.New(rand.NewSource(2))
	for n := range 60 {
		b := make([]byte, n, n+10)
		r.Read(b)
		before := bytes.Clone(b[:cap(b)])
		kind := r.Intn(api.Kinds)
		want, _ := hashes.Start(kind)
		for _, c := range b {
			want = next(want, c)
		}
		if h, e := hashes.Of(kind, b); e != api.OK || h != want {
			t.Errorf("%d %v: %d %v", kind, b, h, e)
		}
		if !bytes.Equal(before, b[:cap(b)]) {
			t.Error("the argument was changed")
		}
	}
}

func TestOfErrors(t *testing.T) {
	long := make([]byte, api.MaxBytes+1)
	if _, e := hashes.Of(7, long[1:]); e != api.OK {
		t.Error(e)
	}
	for _, c := range []struct {
		kind int
		b    []byte
		e    api.Errno
	}{{7, long, api.ErrMany}, {8, long, api.ErrArg}, {-1, nil, api.ErrArg}, {8, nil, api.ErrArg}} {
		if h, e := hashes.Of(c.kind, c.b); e != c.e || h != 0 {
			t.Errorf("%d and %d bytes: %d %v", c.kind, len(c.b), h, e)
		}
	}
}

func TestHashesDiffer(t *testing.T) {
	r := rand.New(rand.NewSource(3))
	for range 300 {
		b := make([]byte, 1+r.Intn(20))
		r.Read(b)
		seen := map[uint32]int{}
		for kind := range api.Kinds {
			h, _ := hashes.Of(kind, b)
			seen[h]++
		}
		if len(seen) != api.Kinds {
			t.Fatalf("%v: kinds have the same hash", b)
		}
		clear(seen)
		i := r.Intn(len(b))
		for c := range 256 {
			b[i] = byte(c)
			h, _ := hashes.Of(3, b)
			seen[h]++
		}
		if len(seen) != 256 {
			t.Fatalf("%v: bytes at %d have the same hash", b, i)
		}
	}
}

func TestPlace(t *testing.T) {
	r := rand.New(rand.NewSource(4))
	for size := 1; size <= api.MaxPlaces; size *= 2 {
		for range 100 {
			h := r.Uint32()
			p, e := hashes.Place(h, size)
			if e != api.OK || p != int(h)%size {
				t.Fatalf("%d among %d: %d %v", h, size, p, e)
			}
			if more, e := hashes.Place(h, 2*size); e == api.OK && more%size != p {
				t.Fatalf("%d among %d and twice as many: %d %d", h, size, p, more)
			}
		}
	}
	if p, e := hashes.Place(1013904242, 16); e != api.OK || p != 2 {
		t.Error(p, e)
	}
	for _, size := range []int{0, -1, -2, 3, 5, 6, 7, 15, 17, 1<<20 - 1, 1<<20 + 1, 1 << 21, 1 << 32, math.MinInt, math.MaxInt} {
		if p, e := hashes.Place(77, size); e != api.ErrArg || p != 0 {
			t.Errorf("among %d: %d %v", size, p, e)
		}
	}
}

func TestCheck(t *testing.T) {
	for h, want := range map[uint32]uint8{1013904242: 60, 0: 0, 1 << 24: 1, 1<<24 - 1: 0, math.MaxUint32: 255} {
		if c := hashes.Check(h); c != want {
			t.Errorf("%d: %d", h, c)
		}
	}
}
