package twin_test

import (
	"bytes"
	"encoding/binary"
	"math"
	"math/rand"
	"slices"
	"testing"

	"bitloft/api"
	"bitloft/codec"
	"bitloft/context"
	"bitloft/encoder"
	"bitloft/final"
	"bitloft/hashes"
	"bitloft/predict"
	"bitloft/twin"
)

func after(t *testing.T, level int, bits []bool) api.Predictor {
	t.Helper()
	x, _ := predict.New(level)
	x, _, e := predict.Run(x, bits)
	if e != api.OK {
		t.Fatal(e)
	}
	return x
}

func bitsOf(t *testing.T, b []byte) []bool {
	t.Helper()
	bits, e := codec.Bits(b)
	if e != api.OK {
		t.Fatal(e)
	}
	return bits
}

// sum is the definition.
func sum(x api.Predictor) uint32 {
	var b []byte
	number := func(n int) { b = binary.BigEndian.AppendUint32(b, uint32(n)) }
	number(x.Level)
	number(x.Ring.N)
	number(x.Walk.Part)
	number(x.Match.At + 1)
	number(x.Match.Len)
	for _, m := range x.Marks {
		number(int(m))
	}
	for _, s := range x.Slots {
		number(s)
	}
	for i, s := range x.Slots {
		for _, state := range x.Tables[i].Slots[s].States {
			b = append(b, state)
		}
	}
	for _, w := range x.Mixer.Sets[x.Walk.Part] {
		number(int(w))
	}
	one, two, _ := context.Recent(x.Ring)
	rows, _ := final.Rows(one, two, x.Walk.Part)
	for _, p := range x.Final.First.Rows[rows[0]] {
		number(int(p))
	}
	for _, p := range x.Final.Second.Rows[rows[1]] {
		number(int(p))
	}
	h, _ := hashes.Of(7, b)
	return h
}

func TestSum(t *testing.T) {
	bits := bitsOf(t, []byte("banana bandana banana"))
	for level := 0; level <= 7; level += 2 {
		for _, n := range []int{0, 1, 3, 4, 5, 7, 8, 60, 100, len(bits)} {
			x := after(t, level, bits[:n])
			if s, e := twin.Sum(x); e != api.OK || s != sum(x) {
				t.Fatal(level, n, s, e)
			}
		}
	}
	x := after(t, 0, bits)
	x.Mixer.Sets[1][3] = math.MinInt32
	x.Match = api.Match{At: -1}
	if s, e := twin.Sum(x); e != api.OK || s != sum(x) {
		t.Error(s, e)
	}
	x.Slots[2] = 16
	if s, e := twin.Sum(x); e != api.ErrBad || s != 0 {
		t.Error(s, e)
	}
	if s, e := twin.Sum(api.Predictor{}); e != api.ErrBad || s != 0 {
		t.Error(s, e)
	}
}

func TestTraces(t *testing.T) {
	r := rand.New(rand.NewSource(1))
	for _, b := range [][]byte{nil, {128}, []byte("mississippi mississippi"), bytes.Repeat([]byte{0, 1}, 60)} {
		level := r.Intn(8)
		before := bytes.Clone(b)
		traces, e := twin.Encoding(level, b)
		bits := bitsOf(t, b)
		probs, _ := codec.Probs(level, b)
		if e != api.OK || len(traces) != len(bits) || !bytes.Equal(b, before) {
			t.Fatal(level, len(traces), e)
		}
		x, _ := predict.New(level)
		for i, trace := range traces {
			x, _ = predict.Update(x, bits[i])
			if trace != (api.Trace{P: probs[i], Bit: bits[i], Sum: sum(x)}) {
				t.Fatal(level, i, trace)
			}
		}
		first, e := twin.Encoding(level, b[:len(b)/2])
		if e != api.OK || !slices.Equal(first, traces[:len(b)/2*8]) {
			t.Fatal("first traces", e)
		}
		code, _ := codec.Encode(level, b)
		if run, _ := encoder.Run(probs, bits); !bytes.Equal(run, code) {
			t.Fatal("coded bytes")
		}
		decoded, e := twin.Decoding(level, append(code, 1, 2, 3), len(b))
		if e != api.OK || !slices.Equal(decoded, traces) {
			t.Fatal("equal states at each bit", e)
		}
	}
}

func TestDecodingAnyBytes(t *testing.T) {
	in := []byte{200, 3, 77, 5, 9}
	traces, e := twin.Decoding(2, in, 20)
	if e != api.OK || len(traces) != 160 {
		t.Fatal(len(traces), e)
	}
	b, _ := codec.Decode(2, in, 20)
	want, e := twin.Encoding(2, b)
	if e != api.OK || !slices.Equal(traces, want) {
		t.Error(e)
	}
}

func TestSame(t *testing.T) {
	bits := bitsOf(t, []byte("banana bandana banana"))[:155]
	a := after(t, 1, bits)
	if !twin.Same(a, after(t, 1, bits)) || !twin.Same(api.Predictor{}, api.Predictor{}) {
		t.Error("the same predictors differ")
	}
	if twin.Same(a, api.Predictor{}) || twin.Same(api.Predictor{}, a) {
		t.Error("none is the same")
	}
	for i, change := range []func(x *api.Predictor){
		func(x *api.Predictor) { x.Level++ },
		func(x *api.Predictor) { x.Ring.Level++ },
		func(x *api.Predictor) { x.Ring.N++ },
		func(x *api.Predictor) { x.Ring.Bytes[127]++ },
		func(x *api.Predictor) { x.Ring.Bytes = x.Ring.Bytes[:127] },
		func(x *api.Predictor) { x.Tables[5].Level++ },
		func(x *api.Predictor) { x.Tables[5].Slots[31].Check++ },
		func(x *api.Predictor) { x.Tables[0].Slots[0].States[14]++ },
		func(x *api.Predictor) { x.Tables[0].Slots = nil },
		func(x *api.Predictor) { x.Tables = x.Tables[:5] },
		func(x *api.Predictor) { x.Maps[5].Limit++ },
		func(x *api.Predictor) { x.Maps[5].P[192]++ },
		func(x *api.Predictor) { x.Maps[0].N[0]++ },
		func(x *api.Predictor) { x.Maps[0].N = x.Maps[0].N[:192] },
		func(x *api.Predictor) { x.Maps = nil },
		func(x *api.Predictor) { x.Mixer.Sets[255][7]++ },
		func(x *api.Predictor) { x.Mixer.Sets[255] = x.Mixer.Sets[255][:7] },
		func(x *api.Predictor) { x.Mixer.Sets = x.Mixer.Sets[:255] },
		func(x *api.Predictor) { x.Final.First.Rows[255][32]++ },
		func(x *api.Predictor) { x.Final.Second.Rows[0][0]++ },
		func(x *api.Predictor) { x.Final.Second.Rows = nil },
		func(x *api.Predictor) { x.Finder.Level++ },
		func(x *api.Predictor) { x.Finder.Seen[127]++ },
		func(x *api.Predictor) { x.Match.At++ },
		func(x *api.Predictor) { x.Match.Len++ },
		func(x *api.Predictor) { x.Walk.Part++ },
		func(x *api.Predictor) { x.Marks[5]++ },
		func(x *api.Predictor) { x.Slots[0]++ },
	} {
		b := after(t, 1, bits)
		change(&b)
		if twin.Same(a, b) || twin.Same(b, a) {
			t.Error(i)
		}
	}
	// Nil and empty lists are equal, and predictors need not be valid.
	empty := api.Predictor{Tables: []api.Table{}, Maps: []api.Adapt{}}
	empty.Mixer.Sets, empty.Ring.Bytes, empty.Finder.Seen = [][]int32{}, []byte{}, []int{}
	if !twin.Same(api.Predictor{}, empty) {
		t.Error("nil and empty differ")
	}
	if !twin.Same(api.Predictor{Mixer: api.Mixer{Sets: [][]int32{nil}}}, api.Predictor{Mixer: api.Mixer{Sets: [][]int32{{}}}}) {
		t.Error("nil and empty differ")
	}
}

func TestDiffer(t *testing.T) {
	l := make([]api.Trace, 2001)
	for i := range l {
		l[i] = api.Trace{P: i, Bit: i%2 == 0, Sum: uint32(i * i)}
	}
	other := func(change func(x *api.Trace)) []api.Trace {
		c := slices.Clone(l[:10])
		change(&c[6])
		return c
	}
	for i, c := range []struct {
		a, b []api.Trace
		want int
		e    api.Errno
	}{
		{l[:10], l[:10], 0, api.ErrNone}, {nil, []api.Trace{}, 0, api.ErrNone}, {l[:2000], l[:2000], 0, api.ErrNone},
		{l[:10], l[:7], 7, api.OK}, {nil, l[:7], 0, api.OK}, {l[:1], nil, 0, api.OK},
		{l[:10], other(func(x *api.Trace) { x.P++ }), 6, api.OK},
		{l[:9], other(func(x *api.Trace) { x.Bit = !x.Bit }), 6, api.OK},
		{l[:10], other(func(x *api.Trace) { x.Sum++ }), 6, api.OK},
		{l, l, 0, api.ErrMany}, {l, nil, 0, api.ErrMany}, {nil, l, 0, api.ErrMany},
	} {
		if n, e := twin.Differ(c.a, c.b); e != c.e || n != c.want {
			t.Error(i, n, e)
		}
	}
}

func TestErrors(t *testing.T) {
	long := make([]byte, api.MaxBytes+1)
	for _, level := range []int{-1, 8, math.MinInt, math.MaxInt} {
		if l, e := twin.Encoding(level, long); e != api.ErrArg || l != nil {
			t.Error(level, e)
		}
		if l, e := twin.Decoding(level, long, -1); e != api.ErrArg || l != nil {
			t.Error(level, e)
		}
	}
	if l, e := twin.Encoding(0, long[:251]); e != api.ErrMany || l != nil {
		t.Error(e)
	}
	if l, e := twin.Encoding(0, long[:250]); e != api.OK || len(l) != 2000 {
		t.Error(e)
	}
	for _, n := range []int{-1, 251, math.MinInt, math.MaxInt} {
		if l, e := twin.Decoding(0, long, n); e != api.ErrArg || l != nil {
			t.Error(n, e)
		}
	}
	if l, e := twin.Decoding(0, long, 250); e != api.ErrMany || l != nil {
		t.Error(e)
	}
	if l, e := twin.Decoding(0, long[1:], 2); e != api.OK || len(l) != 16 {
		t.Error(e)
	}
	if l, e := twin.Decoding(0, nil, 250); e != api.OK || len(l) != 2000 {
		t.Error(e)
	}
}
