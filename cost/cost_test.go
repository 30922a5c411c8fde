package cost_test

import (
	"math"
	"math/big"
	"math/rand"
	"slices"
	"testing"

	"bitloft/api"
	"bitloft/cost"
	"bitloft/encoder"
)

// logarithm is the definition, in numbers without a limit.
func logarithm(n uint64) int {
	h := 0
	for uint64(2)<<h <= n {
		h++
	}
	x := new(big.Int).Lsh(new(big.Int).SetUint64(n), 31)
	x.Rsh(x, uint(h))
	log := h
	for range 16 {
		x.Mul(x, x).Rsh(x, 31)
		log *= 2
		if x.BitLen() > 32 {
			x.Rsh(x, 1)
			log++
		}
	}
	return log
}

func log(t *testing.T, n uint64) int {
	t.Helper()
	l, e := cost.Log(n)
	if e != api.OK {
		t.Fatal(n, e)
	}
	return l
}

func TestLog(t *testing.T) {
	for n, want := range map[uint64]int{1: 0, 2: 65536, 3: 103872, 4096: 786432, 1 << 32: 32 * 65536} {
		if l := log(t, n); l != want {
			t.Error(n, l)
		}
	}
	r := rand.New(rand.NewSource(1))
	for range 3000 {
		n := uint64(r.Uint32())>>r.Intn(32) + 1
		l := log(t, n)
		if l != logarithm(n) || math.Abs(float64(l)-65536*math.Log2(float64(n))) > 3 {
			t.Fatal(n, l, logarithm(n))
		}
		if n < api.MaxLog && log(t, n+1) < l {
			t.Fatal(n, "it falls")
		}
		if 2*n <= api.MaxLog && log(t, 2*n) != l+65536 {
			t.Fatal(n, "twice")
		}
		m := uint64(r.Uint32())>>r.Intn(32) + 1
		if m <= api.MaxLog/n {
			off := log(t, m*n) - l - log(t, m)
			if off > 3 || off < -1 {
				t.Fatal(m, n, off)
			}
		}
	}
	for n := uint64(1); n <= 4096; n++ {
		if log(t, n) != logarithm(n) {
			t.Fatal(n)
		}
	}
	for _, n := range []uint64{0, 1<<32 + 1, math.MaxUint64} {
		if l, e := cost.Log(n); e != api.ErrArg || l != 0 {
			t.Error(n, l, e)
		}
	}
}

func TestBit(t *testing.T) {
	for p := 1; p <= 4095; p++ {
		one, e := cost.Bit(p, true)
		zero, f := cost.Bit(p, false)
		if e != api.OK || f != api.OK || one != 786432-log(t, uint64(p)) || zero != 786432-log(t, uint64(4096-p)) {
			t.Fatal(p, one, zero, e, f)
		}
	}
	for _, c := range []struct {
		p    int
		bit  bool
		want int
	}{{2048, true, 65536}, {2048, false, 65536}, {3072, true, 27200}} {
		if n, e := cost.Bit(c.p, c.bit); e != api.OK || n != c.want {
			t.Error(c, n, e)
		}
	}
	for _, p := range []int{0, -1, 4096, math.MinInt, math.MaxInt} {
		if n, e := cost.Bit(p, true); e != api.ErrArg || n != 0 {
			t.Error(p, n, e)
		}
		if n, e := cost.Step(0, 9, p, true); e != api.ErrArg || n != 0 {
			t.Error(p, n, e)
		}
	}
}

func TestStep(t *testing.T) {
	r := rand.New(rand.NewSource(2))
	for range 20000 {
		x1, x2, p, bit := r.Uint32()>>r.Intn(32), r.Uint32()>>r.Intn(32), 1+r.Intn(4095), r.Intn(2) == 0
		n, e := cost.Step(x1, x2, p, bit)
		if x1 >= x2 {
			if e != api.ErrArg || n != 0 {
				t.Fatal(x1, x2, n, e)
			}
			continue
		}
		middle, _ := encoder.Split(x1, x2, p)
		part := uint64(x2) - uint64(middle)
		if bit {
			part = uint64(middle) - uint64(x1) + 1
		}
		size := uint64(x2) - uint64(x1) + 1
		if e != api.OK || n != log(t, size)-log(t, part) {
			t.Fatal(x1, x2, p, bit, n, e)
		}
		ideal, _ := cost.Bit(p, bit)
		if size >= 1<<24 && n > ideal+4 || n > ideal+65540 {
			t.Fatal(x1, x2, p, bit, n, ideal)
		}
	}
	if n, e := cost.Step(0, math.MaxUint32, 2048, true); e != api.OK || n != 65536 {
		t.Error(n, e)
	}
	if n, e := cost.Step(6, 6, 5, true); e != api.ErrArg || n != 0 {
		t.Error(n, e)
	}
}

func TestLists(t *testing.T) {
	r := rand.New(rand.NewSource(3))
	for round := range 60 {
		n := r.Intn(api.MaxBits + 1)
		p, bits := make([]int, n), make([]bool, n)
		for i := range p {
			p[i] = 1 + r.Intn(4095)
			bits[i] = r.Intn(4096) < p[i]
			if round%3 == 0 {
				p[i], bits[i] = []int{1, 4095}[r.Intn(2)], r.Intn(2) == 0
			}
		}
		pBefore, bitsBefore := slices.Clone(p), slices.Clone(bits)
		ideal, real, bytes := 0, 0, 0
		x := encoder.New()
		for i := range p {
			one, _ := cost.Bit(p[i], bits[i])
			step, _ := cost.Step(x.X1, x.X2, p[i], bits[i])
			ideal, real = ideal+one, real+step
			x, _ = encoder.Put(x, p[i], bits[i])
			bytes += len(x.Out)
			x.Out = nil
		}
		if m, e := cost.Ideal(p, bits); e != api.OK || m != ideal {
			t.Fatal(n, m, ideal, e)
		}
		if m, e := cost.Real(p, bits); e != api.OK || m != real {
			t.Fatal(n, m, real, e)
		}
		if m, e := cost.Bytes(p, bits); e != api.OK || m != bytes {
			t.Fatal(n, m, bytes, e)
		}
		code, _ := encoder.Run(p, bits)
		if len(code) != bytes+4 {
			t.Fatal(n, len(code), bytes)
		}
		if 8*65536*bytes != real-32*65536+log(t, uint64(x.X2)-uint64(x.X1)+1) {
			t.Fatal("bytes do not cost what the bits do", n, bytes, real)
		}
		if !slices.Equal(p, pBefore) || !slices.Equal(bits, bitsBefore) {
			t.Fatal("an argument was changed")
		}
	}
}

func TestListErrors(t *testing.T) {
	long, bits := slices.Repeat([]int{2048}, 2001), make([]bool, 2001)
	bad := slices.Clone(long)
	bad[0] = 0
	for i, c := range []struct {
		p    []int
		bits []bool
		e    api.Errno
	}{
		{long, bits, api.ErrMany}, {long, nil, api.ErrArg}, {nil, bits, api.ErrMany}, {bad, bits, api.ErrMany}, {long, bits[:2000], api.ErrArg},
		{long[:5], bits[:4], api.ErrArg}, {[]int{2048, 0}, bits[:2], api.ErrArg}, {[]int{4096, 5}, bits[:2], api.ErrArg}, {[]int{-1}, bits[:1], api.ErrArg},
		{nil, nil, api.OK}, {long[:2000], bits[:2000], api.OK},
	} {
		for _, f := range []func([]int, []bool) (int, api.Errno){cost.Ideal, cost.Real, cost.Bytes} {
			n, e := f(c.p, c.bits)
			if e != c.e || (c.e != api.OK || c.p == nil) && n != 0 {
				t.Error(i, n, e)
			}
		}
	}
}
