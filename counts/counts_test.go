package counts_test

import (
	"bytes"
	"math"
	"math/rand"
	"slices"
	"testing"

	"bitloft/api"
	"bitloft/counts"
)

// all are the valid counts.
func all() []api.Count {
	l := []api.Count{{}}
	for m := int32(1); m <= 12; m++ {
		for o := int32(0); o <= 7; o++ {
			l = append(l, api.Count{N0: m, N1: o, Last: 0}, api.Count{N0: o, N1: m, Last: 1})
		}
	}
	return l
}

func TestCheck(t *testing.T) {
	valid := all()
	for n0 := int32(-2); n0 <= 14; n0++ {
		for n1 := int32(-2); n1 <= 14; n1++ {
			for last := range uint8(4) {
				c := api.Count{N0: n0, N1: n1, Last: last}
				want := api.ErrBad
				if slices.Contains(valid, c) {
					want = api.OK
				}
				if e := counts.Check(c); e != want {
					t.Errorf("%v: %v", c, e)
				}
			}
		}
	}
	for _, c := range []api.Count{{N0: math.MinInt32}, {N1: math.MaxInt32, Last: 1}, {N0: 1, Last: 255}} {
		if e := counts.Check(c); e != api.ErrBad {
			t.Errorf("%v: %v", c, e)
		}
	}
}

func TestNext(t *testing.T) {
	shrunk := []int32{0, 1, 2, 2, 3, 3, 4, 4, 5, 5, 6, 6, 7}
	for _, c := range all() {
		zero, e := counts.Next(c, 0)
		if want := (api.Count{N0: min(c.N0+1, 12), N1: shrunk[c.N1], Last: 0}); e != api.OK || zero != want {
			t.Errorf("%v and 0: %v %v", c, zero, e)
		}
		one, e := counts.Next(c, 1)
		if want := (api.Count{N0: shrunk[c.N0], N1: min(c.N1+1, 12), Last: 1}); e != api.OK || one != want {
			t.Errorf("%v and 1: %v %v", c, one, e)
		}
		if counts.Check(zero) != api.OK || counts.Check(one) != api.OK {
			t.Errorf("%v: not valid any more", c)
		}
		turned, e := counts.Turn(c)
		if e != api.OK {
			t.Fatal(e)
		}
		after, _ := counts.Next(turned, 1)
		if want, _ := counts.Turn(zero); after != want {
			t.Errorf("%v: zeros and ones are not alike", c)
		}
	}
}

func TestTurnAndTotal(t *testing.T) {
	for _, c := range all() {
		turned, e := counts.Turn(c)
		want := api.Count{N0: c.N1, N1: c.N0, Last: 1 - c.Last}
		if c == (api.Count{}) {
			want = c
		}
		if e != api.OK || turned != want {
			t.Errorf("%v: %v %v", c, turned, e)
		}
		if n, e := counts.Total(c); e != api.OK || n != c.N0+c.N1 {
			t.Errorf("%v: %v %v", c, n, e)
		}
	}
}

func TestRunExamples(t *testing.T) {
	c, e := counts.Run(api.Count{}, []uint8{1, 1, 1, 0})
	if e != api.OK || c != (api.Count{N0: 1, N1: 2, Last: 0}) {
		t.Error(c, e)
	}
	c, e = counts.Run(api.Count{}, append(bytes.Repeat([]byte{1}, 12), 0))
	if e != api.OK || c != (api.Count{N0: 1, N1: 7, Last: 0}) {
		t.Error(c, e)
	}
	if c, e := counts.Turn(c); e != api.OK || c != (api.Count{N0: 7, N1: 1, Last: 1}) {
		t.Error(c, e)
	}
	for _, c := range all() {
		if d, e := counts.Run(c, nil); e != api.OK || d != c {
			t.Error(c, d, e)
		}
		ones, _ := counts.Run(c, bytes.Repeat([]byte{1}, 12))
		four, _ := counts.Run(c, bytes.Repeat([]byte{1}, 4))
		if ones.N1 != 12 || four.N0 > 2 || four.N0 > c.N0 {
			t.Error(c, ones, four)
		}
	}
}

func TestRunInParts(t *testing.T) {
	r := rand.New(rand.NewSource(1))
	for _, c := range all() {
		bits := make([]byte, r.Intn(40), 50)
		for i := range bits {
			bits[i] = byte(r.Intn(2))
		}
		before := bytes.Clone(bits[:cap(bits)])
		want := c
		for _, bit := range bits {
			want, _ = counts.Next(want, bit)
		}
		d, e := counts.Run(c, bits)
		if e != api.OK || d != want || !bytes.Equal(before, bits[:cap(bits)]) {
			t.Fatal(c, bits, d, e)
		}
		k := r.Intn(len(bits) + 1)
		half, _ := counts.Run(c, bits[:k])
		if d, e := counts.Run(half, bits[k:]); e != api.OK || d != want {
			t.Fatal(c, bits, k, d, e)
		}
	}
}

func TestErrors(t *testing.T) {
	none := api.Count{}
	bad := api.Count{N0: 1, N1: 8}
	long := make([]byte, api.MaxBytes+1)
	long[0] = 2
	if _, e := counts.Run(none, make([]byte, api.MaxBytes)); e != api.OK {
		t.Error(e)
	}
	for _, c := range []struct {
		c    api.Count
		bits []uint8
		e    api.Errno
	}{
		{bad, long, api.ErrBad}, {none, long, api.ErrMany}, {none, []byte{0, 1, 2}, api.ErrArg},
		{none, []byte{255, 0}, api.ErrArg}, {none, long[:5], api.ErrArg}, {bad, nil, api.ErrBad},
	} {
		if d, e := counts.Run(c.c, c.bits); e != c.e || d != none {
			t.Errorf("%v and %d bits: %v %v", c.c, len(c.bits), d, e)
		}
	}
	if d, e := counts.Next(none, 2); e != api.ErrArg || d != none {
		t.Error(d, e)
	}
	if d, e := counts.Next(bad, 2); e != api.ErrBad || d != none {
		t.Error(d, e)
	}
	if n, e := counts.Total(bad); e != api.ErrBad || n != 0 {
		t.Error(n, e)
	}
	if d, e := counts.Turn(bad); e != api.ErrBad || d != none {
		t.Error(d, e)
	}
}
