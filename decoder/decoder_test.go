package decoder_test

import (
	"bytes"
	"math"
	"math/rand"
	"slices"
	"testing"

	"bitloft/api"
	"bitloft/decoder"
	"bitloft/encoder"
)

func isZero(x api.Decoder) bool {
	return x.X1 == 0 && x.X2 == 0 && x.X == 0 && x.In == nil && x.Taken == 0
}

func TestNew(t *testing.T) {
	for n, want := range map[int]uint32{0: 0, 1: 0x01000000, 2: 0x01020000, 3: 0x01020300, 4: 0x01020304, 5: 0x01020304, 9: 0x01020304} {
		in := []byte{1, 2, 3, 4, 5, 6, 7, 8, 9}[:n]
		x, e := decoder.New(in)
		if e != api.OK || x.X1 != 0 || x.X2 != math.MaxUint32 || x.X != want || x.Taken != 4 || !bytes.Equal(x.In, in) || decoder.Check(x) != api.OK {
			t.Error(n, x, e)
		}
		if over, e := decoder.Over(x); e != api.OK || over != n-4 {
			t.Error(n, over, e)
		}
		if n > 0 {
			in[0] = 99
			if x.In[0] != 1 {
				t.Error("memory is shared")
			}
		}
	}
	long := make([]byte, api.MaxBytes+1)
	if x, e := decoder.New(long); e != api.ErrMany || !isZero(x) {
		t.Error(e)
	}
	if x, e := decoder.New(long[1:]); e != api.OK || len(x.In) != api.MaxBytes {
		t.Error(e)
	}
}

func TestCheck(t *testing.T) {
	good := api.Decoder{X1: 0x00000010, X2: 0x01000010, X: 0x00000010, In: make([]byte, api.MaxBytes), Taken: 4}
	for i, c := range []struct {
		spoil func(x *api.Decoder)
		e     api.Errno
	}{
		{func(x *api.Decoder) {}, api.OK},
		{func(x *api.Decoder) { x.X = x.X2 }, api.OK},
		{func(x *api.Decoder) { x.Taken = api.MaxTaken }, api.OK},
		{func(x *api.Decoder) { x.X = x.X2 + 1 }, api.ErrBad},
		{func(x *api.Decoder) { x.X = x.X1 - 1 }, api.ErrBad},
		{func(x *api.Decoder) { x.X2 = 0x00ffffff }, api.ErrBad},
		{func(x *api.Decoder) { x.X1, x.X2, x.X = 0x03000000, 0x02000000, 0x02500000 }, api.ErrBad},
		{func(x *api.Decoder) { x.Taken = 3 }, api.ErrBad},
		{func(x *api.Decoder) { x.Taken = -1 }, api.ErrBad},
		{func(x *api.Decoder) { x.Taken = api.MaxTaken + 1 }, api.ErrBad},
		{func(x *api.Decoder) { x.In = make([]byte, api.MaxBytes+1) }, api.ErrBad},
		{func(x *api.Decoder) { *x = api.Decoder{} }, api.ErrBad},
	} {
		x := good
		c.spoil(&x)
		if e := decoder.Check(x); e != c.e {
			t.Error(i, e)
		}
		if c.e == api.OK {
			continue
		}
		if y, bit, e := decoder.Get(x, -1); e != api.ErrBad || bit || !isZero(y) {
			t.Error(i, e)
		}
		if over, e := decoder.Over(x); e != api.ErrBad || over != 0 {
			t.Error(i, over, e)
		}
	}
}

func TestExamples(t *testing.T) {
	for _, c := range []struct {
		in   []byte
		want bool
	}{{[]byte{128}, false}, {[]byte{127}, true}, {nil, true}} {
		if bits, e := decoder.Run(c.in, []int{2048}); e != api.OK || !slices.Equal(bits, []bool{c.want}) {
			t.Error(c.in, bits, e)
		}
	}
}

// TestWhatWasCodedIsDecoded puts bits into an encoder, and gets them again side by side with it.
func TestWhatWasCodedIsDecoded(t *testing.T) {
	r := rand.New(rand.NewSource(1))
	for round := range 60 {
		n := r.Intn(api.MaxBits + 1)
		p, bits := make([]int, n), make([]bool, n)
		for i := range p {
			p[i] = r.Intn(4096)
			bits[i] = r.Intn(4096) < p[i]
			if round%4 == 0 {
				p[i], bits[i] = 4095*r.Intn(2), r.Intn(2) == 0
			}
		}
		code, e := encoder.Run(p, bits)
		if e != api.OK {
			t.Fatal(e)
		}
		behind := make([]byte, r.Intn(3)*r.Intn(40))
		r.Read(behind)
		in := append(bytes.Clone(code), behind...)
		got, e := decoder.Run(in, p)
		if e != api.OK || !slices.Equal(got, bits) {
			t.Fatal(n, e)
		}
		x, _ := decoder.New(in)
		y := encoder.New()
		for i := range p {
			if i > 300 {
				break
			}
			var bit bool
			before := bytes.Clone(x.In)
			next, bit, e := decoder.Get(x, p[i])
			y, _ = encoder.Put(y, p[i], bits[i])
			if e != api.OK || bit != bits[i] || next.X1 != y.X1 || next.X2 != y.X2 || next.Taken != len(y.Out)+4 || decoder.Check(next) != api.OK {
				t.Fatal(n, i, next.Taken, len(y.Out), e)
			}
			if !bytes.Equal(before, x.In) || !bytes.Equal(before, next.In) {
				t.Fatal("bytes were changed")
			}
			x.In[0]++
			if next.In[0] != before[0] {
				t.Fatal("memory is shared")
			}
			x = next
		}
		if n <= 300 {
			if over, e := decoder.Over(x); e != api.OK || over != len(behind) {
				t.Fatal(over, e)
			}
		}
	}
}

func TestAnyBytes(t *testing.T) {
	r := rand.New(rand.NewSource(2))
	for range 50 {
		in := make([]byte, r.Intn(30))
		r.Read(in)
		p := make([]int, 500)
		for i := range p {
			p[i] = r.Intn(4096)
		}
		bits, e := decoder.Run(in, p)
		if e != api.OK || len(bits) != 500 {
			t.Fatal(e)
		}
		x, _ := decoder.New(in)
		for i := range p {
			var bit bool
			if x, bit, e = decoder.Get(x, p[i]); e != api.OK || bit != bits[i] || decoder.Check(x) != api.OK {
				t.Fatal(i, e)
			}
		}
		if over, _ := decoder.Over(x); over != len(in)-x.Taken {
			t.Fatal(over)
		}
	}
}

func TestErrors(t *testing.T) {
	x := api.Decoder{X1: 0x00ffffff, X2: 0x01000000, X: 0x00ffffff, Taken: api.MaxTaken - 4}
	next, bit, e := decoder.Get(x, 7)
	if e != api.OK || !bit || next.Taken != api.MaxTaken || next.X1 != 0 || next.X2 != math.MaxUint32 || next.X != 0 {
		t.Error(next, bit, e)
	}
	x.Taken++
	if y, bit, e := decoder.Get(x, 7); e != api.ErrMany || bit || !isZero(y) {
		t.Error(e)
	}
	for _, p := range []int{-1, 4096, math.MinInt, math.MaxInt} {
		if y, bit, e := decoder.Get(x, p); e != api.ErrArg || bit || !isZero(y) {
			t.Error(p, e)
		}
		if bits, e := decoder.Run(nil, []int{5, p}); e != api.ErrArg || bits != nil {
			t.Error(p, e)
		}
	}
	long, many := make([]byte, api.MaxBytes+1), make([]int, api.MaxBits+1)
	for i, c := range []struct {
		in []byte
		p  []int
		e  api.Errno
	}{{long, many, api.ErrMany}, {long, []int{-1}, api.ErrMany}, {nil, many, api.ErrMany}, {long[1:], many[1:], api.OK}} {
		bits, e := decoder.Run(c.in, c.p)
		if e != c.e || c.e == api.OK && len(bits) != api.MaxBits || c.e != api.OK && bits != nil {
			t.Error(i, len(bits), e)
		}
	}
	many[0] = -1
	if bits, e := decoder.Run(nil, many); e != api.ErrMany || bits != nil {
		t.Error(e)
	}
}
