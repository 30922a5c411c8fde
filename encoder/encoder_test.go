package encoder_test

import (
	"bytes"
	"math"
	"math/rand"
	"reflect"
	"testing"

	"bitloft/api"
	"bitloft/encoder"
)

func isZero(x api.Encoder) bool {
	return x.X1 == 0 && x.X2 == 0 && x.Out == nil
}

func TestNewAndCheck(t *testing.T) {
	if x := encoder.New(); x.X1 != 0 || x.X2 != math.MaxUint32 || len(x.Out) != 0 || encoder.Check(x) != api.OK {
		t.Error(x)
	}
	most := make([]byte, api.MaxBytes+1)
	for _, c := range []struct {
		x api.Encoder
		e api.Errno
	}{
		{api.Encoder{X1: 0x00ffffff, X2: 0x01000000, Out: most[1:]}, api.OK},
		{api.Encoder{X1: 0x00ffffff, X2: 0x01000000, Out: most}, api.ErrBad},
		{api.Encoder{X1: 0x01000000, X2: 0x01ffffff}, api.ErrBad},
		{api.Encoder{X1: 0x02000000, X2: 0x01ffffff}, api.ErrBad},
		{api.Encoder{}, api.ErrBad},
	} {
		if e := encoder.Check(c.x); e != c.e {
			t.Error(c.x.X1, c.x.X2, len(c.x.Out), e)
		}
		if c.e == api.OK {
			continue
		}
		if x, e := encoder.Put(c.x, -1, true); e != api.ErrBad || !isZero(x) {
			t.Error(e)
		}
		if b, e := encoder.End(c.x); e != api.ErrBad || b != nil {
			t.Error(e)
		}
	}
}

func TestSplit(t *testing.T) {
	if m, e := encoder.Split(0, math.MaxUint32, 2048); e != api.OK || m != 2147483647 {
		t.Error(m, e)
	}
	for p := 0; p <= 4095; p++ {
		if m, e := encoder.Split(5, 6, p); e != api.OK || m != 5 {
			t.Error(p, m, e)
		}
	}
	r := rand.New(rand.NewSource(1))
	for range 20000 {
		x1, x2, p := r.Uint32()>>r.Intn(32), r.Uint32()>>r.Intn(32), r.Intn(4096)
		m, e := encoder.Split(x1, x2, p)
		if x1 >= x2 {
			if e != api.ErrArg || m != 0 {
				t.Fatal(x1, x2, p, m, e)
			}
			continue
		}
		w := uint64(x2 - x1)
		want := uint64(x1) + w/4096*uint64(p) + w%4096*uint64(p)/4096
		more, _ := encoder.Split(x1, x2, min(p+1, 4095))
		if e != api.OK || uint64(m) != want || m < x1 || m >= x2 || more < m {
			t.Fatal(x1, x2, p, m, want, e)
		}
	}
	for _, p := range []int{-1, 4096, math.MinInt, math.MaxInt} {
		if m, e := encoder.Split(0, 1, p); e != api.ErrArg || m != 0 {
			t.Error(p, m, e)
		}
	}
	if m, e := encoder.Split(7, 7, 5); e != api.ErrArg || m != 0 {
		t.Error(m, e)
	}
}

// put is the definition of putting a bit.
func put(x api.Encoder, p int, bit bool) api.Encoder {
	m, _ := encoder.Split(x.X1, x.X2, p)
	x.Out = bytes.Clone(x.Out)
	if bit {
		x.X2 = m
	} else {
		x.X1 = m + 1
	}
	for x.X1/(1<<24) == x.X2/(1<<24) {
		x.Out = append(x.Out, byte(x.X1/(1<<24)))
		x.X1, x.X2 = x.X1*256, x.X2*256+255
	}
	return x
}

func TestPut(t *testing.T) {
	r := rand.New(rand.NewSource(2))
	for range 50 {
		x := encoder.New()
		for range 400 {
			p, bit := r.Intn(4096), r.Intn(2) == 1
			switch r.Intn(4) {
			case 0:
				p = 4095 * r.Intn(2)
			case 1:
				bit = r.Intn(4096) < p
			}
			x.Out = append(make([]byte, 0, len(x.Out)+10), x.Out...)
			before := bytes.Clone(x.Out[:cap(x.Out)])
			next, e := encoder.Put(x, p, bit)
			want := put(x, p, bit)
			if e != api.OK || next.X1 != want.X1 || next.X2 != want.X2 || !bytes.Equal(next.Out, want.Out) {
				t.Fatal(x.X1, x.X2, p, bit, next, e)
			}
			if !bytes.Equal(before, x.Out[:cap(x.Out)]) {
				t.Fatal("the argument was changed")
			}
			if encoder.Check(next) != api.OK || !bytes.HasPrefix(next.Out, x.Out) || len(next.Out) > len(x.Out)+4 {
				t.Fatal(next)
			}
			if len(x.Out) > 0 {
				x.Out[0]++
				if next.Out[0] == x.Out[0] {
					t.Fatal("memory is shared")
				}
			}
			x = next
		}
	}
}

func TestEnd(t *testing.T) {
	x := api.Encoder{X1: 0x01020304, X2: 0x05000000, Out: append(make([]byte, 0, 10), 9, 8)}
	b, e := encoder.End(x)
	if e != api.OK || !bytes.Equal(b, []byte{9, 8, 1, 2, 3, 4}) || x.Out[:3][2] != 0 {
		t.Error(b, e)
	}
	b[0] = 77
	if x.Out[0] != 9 {
		t.Error("memory is shared")
	}
}

func TestTooManyBytes(t *testing.T) {
	x := api.Encoder{X1: 0x00ffffff, X2: 0x01000000, Out: make([]byte, api.MaxBytes-4)}
	if b, e := encoder.End(x); e != api.OK || len(b) != api.MaxBytes {
		t.Error(len(b), e)
	}
	if y, e := encoder.Put(x, 5, true); e != api.OK || len(y.Out) != api.MaxBytes {
		t.Error(len(y.Out), e)
	}
	x.Out = append(x.Out, 0)
	if b, e := encoder.End(x); e != api.ErrMany || b != nil {
		t.Error(len(b), e)
	}
	if y, e := encoder.Put(x, 5, true); e != api.ErrMany || !isZero(y) {
		t.Error(e)
	}
	if y, e := encoder.Put(x, 4096, true); e != api.ErrArg || !isZero(y) {
		t.Error(e)
	}
	if y, e := encoder.Put(x, -1, true); e != api.ErrArg || !isZero(y) {
		t.Error(e)
	}
	// Where no byte is given out, there may be as many as there are.
	full := encoder.New()
	full.Out = make([]byte, api.MaxBytes)
	if y, e := encoder.Put(full, 2048, true); e != api.OK || len(y.Out) != api.MaxBytes {
		t.Error(e)
	}
}

func TestRun(t *testing.T) {
	for _, c := range []struct {
		bit  bool
		want []byte
	}{{true, []byte{0, 0, 0, 0}}, {false, []byte{128, 0, 0, 0}}} {
		if b, e := encoder.Run([]int{2048}, []bool{c.bit}); e != api.OK || !bytes.Equal(b, c.want) {
			t.Error(c.bit, b, e)
		}
	}
	if b, e := encoder.Run(nil, nil); e != api.OK || !bytes.Equal(b, []byte{0, 0, 0, 0}) {
		t.Error(b, e)
	}
	r := rand.New(rand.NewSource(3))
	p, bits := make([]int, 2000), make([]bool, 2000)
	x := encoder.New()
	for i := range p {
		p[i], bits[i] = r.Intn(4096), r.Intn(3) == 0
		x = put(x, p[i], bits[i])
	}
	want, _ := encoder.End(x)
	before, bitsBefore := append([]int{}, p...), append([]bool{}, bits...)
	b, e := encoder.Run(p, bits)
	if e != api.OK || !bytes.Equal(b, want) || len(b) > 4*len(bits)+4 {
		t.Error(len(b), e)
	}
	if !reflect.DeepEqual(p, before) || !reflect.DeepEqual(bits, bitsBefore) {
		t.Error("an argument was changed")
	}
}

func TestWorstRun(t *testing.T) {
	// Each bit is the one that was thought not to come.
	p, bits := make([]int, 2000), make([]bool, 2000)
	for i := range bits {
		bits[i] = true
	}
	b, e := encoder.Run(p, bits)
	if e != api.OK || len(b) > 8004 || len(b) < 2000 {
		t.Error(len(b), e)
	}
}

func TestRunErrors(t *testing.T) {
	long, bits := make([]int, 2001), make([]bool, 2001)
	for i, c := range []struct {
		p    []int
		bits []bool
		e    api.Errno
	}{
		{long, bits, api.ErrMany}, {nil, bits, api.ErrMany}, {long, bits[:2000], api.ErrArg}, {long[:3], bits[:4], api.ErrArg},
		{[]int{5, 4096}, bits[:2], api.ErrArg}, {[]int{-1, 5}, bits[:2], api.ErrArg},
	} {
		if b, e := encoder.Run(c.p, c.bits); e != c.e || b != nil {
			t.Error(i, b, e)
		}
	}
}
