package states_test

import (
	"bytes"
	"math/rand"
	"testing"

	"bitloft/api"
	"bitloft/counts"
	"bitloft/states"
)

// ordered are the valid counts in the order of their states.
func ordered() []api.Count {
	l := []api.Count{{}}
	for last := range uint8(2) {
		for m := int32(1); m <= 12; m++ {
			for o := int32(0); o <= 7; o++ {
				c := api.Count{N0: m, N1: o, Last: last}
				if last == 1 {
					c = api.Count{N0: o, N1: m, Last: last}
				}
				l = append(l, c)
			}
		}
	}
	return l
}

func TestStatesAreCounts(t *testing.T) {
	l := ordered()
	if states.Size() != 193 || len(l) != 193 {
		t.Fatal(states.Size(), len(l))
	}
	for s, want := range l {
		c, e := states.Count(uint8(s))
		if e != api.OK || c != want {
			t.Errorf("%d: %v %v", s, c, e)
		}
		if n, e := states.Number(want); e != api.OK || n != uint8(s) {
			t.Errorf("%v: %d %v", want, n, e)
		}
		if n, e := states.Total(uint8(s)); e != api.OK || n != want.N0+want.N1 {
			t.Errorf("%d: total %d %v", s, n, e)
		}
	}
}

func TestNext(t *testing.T) {
	for s, c := range ordered() {
		for bit := range uint8(2) {
			next, e := states.Next(uint8(s), bit)
			after, _ := counts.Next(c, bit)
			want, _ := states.Number(after)
			if e != api.OK || next != want || next == 0 {
				t.Errorf("%d and %d: %d %v", s, bit, next, e)
			}
			if n := [2]int32{after.N0, after.N1}; n[bit] < 1 {
				t.Errorf("%d and %d: %v", s, bit, after)
			}
		}
	}
	for _, c := range [][3]uint8{{0, 0, 1}, {0, 1, 97}, {1, 0, 9}, {1, 1, 98}, {192, 1, 189}, {192, 0, 64}} {
		if s, e := states.Next(c[0], c[1]); e != api.OK || s != c[2] {
			t.Errorf("%v: %d %v", c, s, e)
		}
	}
}

func TestRun(t *testing.T) {
	r := rand.New(rand.NewSource(1))
	for s := range uint8(193) {
		bits := make([]byte, r.Intn(30), 40)
		for i := range bits {
			bits[i] = byte(r.Intn(2))
		}
		before := bytes.Clone(bits[:cap(bits)])
		want := s
		for _, bit := range bits {
			want, _ = states.Next(want, bit)
		}
		if n, e := states.Run(s, bits); e != api.OK || n != want || !bytes.Equal(before, bits[:cap(bits)]) {
			t.Fatalf("%d %v: %d %v", s, bits, n, e)
		}
	}
	if s, e := states.Run(3, nil); e != api.OK || s != 3 {
		t.Error(s, e)
	}
}

func TestErrors(t *testing.T) {
	for s := 193; s <= 255; s++ {
		if n, e := states.Next(uint8(s), 2); e != api.ErrArg || n != 0 {
			t.Errorf("%d: Next %d %v", s, n, e)
		}
		if c, e := states.Count(uint8(s)); e != api.ErrArg || c != (api.Count{}) {
			t.Errorf("%d: Count %v %v", s, c, e)
		}
		if n, e := states.Total(uint8(s)); e != api.ErrArg || n != 0 {
			t.Errorf("%d: Total %d %v", s, n, e)
		}
		if n, e := states.Run(uint8(s), make([]byte, api.MaxBytes+1)); e != api.ErrArg || n != 0 {
			t.Errorf("%d: Run %d %v", s, n, e)
		}
	}
	for _, c := range []api.Count{{N0: 13}, {N0: 1, N1: 8}, {Last: 1}, {N1: 1}, {N0: -1, N1: 1, Last: 1}, {N0: 1, Last: 2}} {
		if n, e := states.Number(c); e != api.ErrBad || n != 0 {
			t.Errorf("%v: %d %v", c, n, e)
		}
	}
	if n, e := states.Next(5, 2); e != api.ErrArg || n != 0 {
		t.Error(n, e)
	}
	long := make([]byte, api.MaxBytes+1)
	long[3] = 2
	if n, e := states.Run(5, long); e != api.ErrMany || n != 0 {
		t.Error(n, e)
	}
	if n, e := states.Run(5, long[:api.MaxBytes]); e != api.ErrArg || n != 0 {
		t.Error(n, e)
	}
	long[3] = 0
	if n, e := states.Run(5, long[:api.MaxBytes]); e != api.OK || n != 91 {
		t.Error(n, e)
	}
}
