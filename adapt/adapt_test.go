package adapt_test

import (
	"math/rand"
	"reflect"
	"slices"
	"testing"

	"bitloft/adapt"
	"bitloft/api"
	"bitloft/recip"
	"bitloft/states"
)

func fresh(t *testing.T, limit int) api.Adapt {
	t.Helper()
	m, e := adapt.New(limit)
	if e != api.OK {
		t.Fatal(limit, e)
	}
	return m
}

func copied(m api.Adapt) api.Adapt {
	return api.Adapt{Limit: m.Limit, P: slices.Clone(m.P), N: slices.Clone(m.N)}
}

func isZero(m api.Adapt) bool {
	return m.Limit == 0 && len(m.P) == 0 && len(m.N) == 0
}

func TestNew(t *testing.T) {
	for _, limit := range []int{1, 2, 255, 1000} {
		m := fresh(t, limit)
		if m.Limit != int32(limit) || len(m.P) != 193 || len(m.N) != 193 || adapt.Check(m) != api.OK {
			t.Fatal(m)
		}
		for s := range uint8(193) {
			if p, e := adapt.P(m, s); e != api.OK || p != 32768 || m.N[s] != 0 {
				t.Fatal(s, p, e, m.N[s])
			}
		}
	}
	for _, limit := range []int{0, -1, 1001, 1 << 32, 1<<32 + 1, -1 << 63} {
		if m, e := adapt.New(limit); e != api.ErrArg || !isZero(m) {
			t.Error(limit, m, e)
		}
	}
}

// spoiled are maps that are not valid, each for one reason.
func spoiled(t *testing.T) []api.Adapt {
	var l []api.Adapt
	for _, spoil := range []func(m *api.Adapt){
		func(m *api.Adapt) { m.Limit = 0 },
		func(m *api.Adapt) { m.Limit = 1001 },
		func(m *api.Adapt) { m.Limit = -5 },
		func(m *api.Adapt) { m.P = m.P[:192] },
		func(m *api.Adapt) { m.N = m.N[:192] },
		func(m *api.Adapt) { m.P = append(m.P, 0) },
		func(m *api.Adapt) { m.N = append(m.N, 0) },
		func(m *api.Adapt) { m.P[0] = -1 },
		func(m *api.Adapt) { m.P[192] = 65536 },
		func(m *api.Adapt) { m.N[0] = -1 },
		func(m *api.Adapt) { m.N[192] = 8 },
		func(m *api.Adapt) { m.P, m.N = nil, nil },
	} {
		m := fresh(t, 7)
		spoil(&m)
		l = append(l, m)
	}
	return append(l, api.Adapt{})
}

func TestCheck(t *testing.T) {
	for i, m := range spoiled(t) {
		if e := adapt.Check(m); e != api.ErrBad {
			t.Error(i, e)
		}
		if p, e := adapt.P(m, 255); e != api.ErrBad || p != 0 {
			t.Error(i, p, e)
		}
		if n, e := adapt.Update(m, 255, 2); e != api.ErrBad || !isZero(n) {
			t.Error(i, n, e)
		}
		if n, s, e := adapt.Run(m, 255, []byte{2}); e != api.ErrBad || s != 0 || !isZero(n) {
			t.Error(i, n, s, e)
		}
	}
	m := fresh(t, 7)
	m.P[3], m.P[4], m.N[5] = 0, 65535, 7
	if e := adapt.Check(m); e != api.OK {
		t.Error(e)
	}
}

func TestUpdateExamples(t *testing.T) {
	m := fresh(t, 3)
	for _, want := range []int32{49151, 54612} {
		next, e := adapt.Update(m, 0, 1)
		if p, f := adapt.P(next, 0); e != api.OK || f != api.OK || p != want {
			t.Error(p, e, f)
		}
		if p, _ := adapt.P(next, 1); p != 32768 {
			t.Error(p)
		}
		m = next
	}
	m = fresh(t, 1)
	for _, want := range []int32{49151, 57343} {
		next, _ := adapt.Update(m, 0, 1)
		if p, _ := adapt.P(next, 0); p != want {
			t.Error(p)
		}
		m = next
	}
}

func TestUpdate(t *testing.T) {
	r := rand.New(rand.NewSource(1))
	m := fresh(t, 9)
	for range 3000 {
		s, bit := uint8(r.Intn(193)), uint8(r.Intn(2))
		if r.Intn(2) == 0 {
			s = 192
		}
		before := copied(m)
		next, e := adapt.Update(m, s, bit)
		if e != api.OK || !reflect.DeepEqual(m, before) || adapt.Check(next) != api.OK {
			t.Fatal(s, bit, e)
		}
		want := copied(m)
		want.N[s] = min(want.N[s]+1, 9)
		want.P[s], _ = recip.Step(want.P[s], 65535*int32(bit), want.N[s]+1)
		if !reflect.DeepEqual(next, want) {
			t.Fatal(s, bit)
		}
		if bit == 0 && next.P[s] > m.P[s] || bit == 1 && next.P[s] < m.P[s] {
			t.Fatal(s, bit, m.P[s], next.P[s])
		}
		m.P[s], m.N[s] = -1, -1
		if !reflect.DeepEqual(next, want) {
			t.Fatal("the result shares memory with the argument")
		}
		m = next
	}
}

func TestAverage(t *testing.T) {
	r := rand.New(rand.NewSource(2))
	for range 20 {
		m := fresh(t, 1000)
		ones := 0
		for k := 1; k < 1000; k++ {
			bit := uint8(r.Intn(4) / 3)
			ones += int(bit)
			m, _ = adapt.Update(m, 7, bit)
			off := int(m.P[7])*(k+1) - (api.HalfProb + 65535*ones)
			if off < -(k+1)*(k+2) || off > (k+1)*(k+2) {
				t.Fatal(k, ones, m.P[7], off)
			}
		}
	}
}

func TestRun(t *testing.T) {
	r := rand.New(rand.NewSource(3))
	for range 100 {
		m := fresh(t, 1+r.Intn(20))
		bits := make([]byte, r.Intn(200))
		for i := range bits {
			bits[i] = byte(r.Intn(2))
		}
		s := uint8(r.Intn(193))
		want, at := copied(m), s
		for _, bit := range bits {
			want, _ = adapt.Update(want, at, bit)
			at, _ = states.Next(at, bit)
		}
		before := copied(m)
		next, end, e := adapt.Run(m, s, bits)
		if e != api.OK || end != at || !reflect.DeepEqual(next, want) || !reflect.DeepEqual(m, before) {
			t.Fatal(s, bits, end, e)
		}
		k := r.Intn(len(bits) + 1)
		half, middle, _ := adapt.Run(m, s, bits[:k])
		if next, end, _ = adapt.Run(half, middle, bits[k:]); end != at || !reflect.DeepEqual(next, want) {
			t.Fatal(s, bits, k, end)
		}
	}
	m := fresh(t, 5)
	same, s, e := adapt.Run(m, 9, nil)
	if e != api.OK || s != 9 || !reflect.DeepEqual(same, m) {
		t.Error(s, e)
	}
	same.P[0] = 1
	if m.P[0] != 32768 {
		t.Error("the result shares memory with the argument")
	}
}

func TestErrors(t *testing.T) {
	m := fresh(t, 5)
	long := make([]byte, api.MaxBytes+1)
	if _, s, e := adapt.Run(m, 0, long[1:]); e != api.OK || s != 89 {
		t.Error(s, e)
	}
	long[7] = 2
	for _, c := range []struct {
		state uint8
		bits  []byte
		e     api.Errno
	}{{193, nil, api.ErrArg}, {255, long, api.ErrArg}, {192, long, api.ErrMany}, {192, long[:9], api.ErrArg}, {0, []byte{0, 255}, api.ErrArg}} {
		if n, s, e := adapt.Run(m, c.state, c.bits); e != c.e || s != 0 || !isZero(n) {
			t.Error(c.state, len(c.bits), n, s, e)
		}
	}
	if p, e := adapt.P(m, 193); e != api.ErrArg || p != 0 {
		t.Error(p, e)
	}
	if n, e := adapt.Update(m, 193, 0); e != api.ErrArg || !isZero(n) {
		t.Error(e)
	}
	if n, e := adapt.Update(m, 0, 2); e != api.ErrArg || !isZero(n) {
		t.Error(e)
	}
	for _, p := range m.P {
		if p != 32768 {
			t.Fatal("a call with an error had an effect")
		}
	}
}
