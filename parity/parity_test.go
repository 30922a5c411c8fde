package parity_test

import (
	"bytes"
	"math"
	"math/rand"
	"slices"
	"testing"

	"bitloft/api"
	"bitloft/parity"
)

func strings(l ...string) [][]byte {
	var b [][]byte
	for _, s := range l {
		b = append(b, []byte(s))
	}
	return b
}

func some(r *rand.Rand, n, most int) [][]byte {
	l := make([][]byte, n)
	for i := range l {
		l[i] = make([]byte, r.Intn(most+1))
		r.Read(l[i])
	}
	return l
}

func cloned(l [][]byte) [][]byte {
	c := make([][]byte, len(l))
	for i := range l {
		c[i] = bytes.Clone(l[i])
	}
	return c
}

func same(a, b [][]byte) bool { return slices.EqualFunc(a, b, bytes.Equal) }

// of is the definition.
func of(l [][]byte) []byte {
	w := 0
	for _, s := range l {
		w = max(w, len(s))
	}
	p := make([]byte, w+2)
	for _, s := range l {
		frame := make([]byte, w+2)
		frame[0], frame[1] = byte(len(s)/256), byte(len(s)%256)
		copy(frame[2:], s)
		for i := range p {
			p[i] ^= frame[i]
		}
	}
	return p
}

func TestExample(t *testing.T) {
	l := strings("ab", "c")
	p, e := parity.Of(l)
	if e != api.OK || !bytes.Equal(p, []byte{0, 3, 2, 98}) {
		t.Error(p, e)
	}
	if s, e := parity.Repair([][]byte{nil, []byte("c")}, 0, p); e != api.OK || string(s) != "ab" {
		t.Error(s, e)
	}
	if s, e := parity.Repair([][]byte{[]byte("ab"), []byte("whatever")}, 1, p); e != api.OK || string(s) != "c" {
		t.Error(s, e)
	}
	if s, e := parity.Repair(strings("zz", ""), 1, p); e != api.ErrForm || s != nil {
		t.Error(s, e)
	}
	if p, e := parity.Of(nil); e != api.OK || !bytes.Equal(p, []byte{0, 0}) {
		t.Error(p, e)
	}
	if p, e := parity.Of(strings("one")); e != api.OK || string(p) != "\x00\x03one" {
		t.Error(p, e)
	}
}

func TestOfAndRepair(t *testing.T) {
	r := rand.New(rand.NewSource(1))
	for range 300 {
		l := some(r, r.Intn(17), 300*r.Intn(2)+5)
		before := cloned(l)
		p, e := parity.Of(l)
		if e != api.OK || !bytes.Equal(p, of(l)) || !same(l, before) {
			t.Fatal(len(l), p, e)
		}
		turned := cloned(l)
		r.Shuffle(len(l), func(i, k int) { turned[i], turned[k] = turned[k], turned[i] })
		if q, _ := parity.Of(turned); !bytes.Equal(p, q) {
			t.Fatal("the order matters")
		}
		keep := bytes.Clone(p)
		for i := range l {
			harmed := cloned(l)
			harmed[i] = make([]byte, r.Intn(9000))
			s, e := parity.Repair(harmed, i, p)
			if e != api.OK || !bytes.Equal(s, l[i]) || !bytes.Equal(p, keep) || !same(slices.Delete(cloned(harmed), i, i+1), slices.Delete(cloned(l), i, i+1)) {
				t.Fatal(len(l), i, e)
			}
		}
	}
}

func TestOfLimits(t *testing.T) {
	if p, e := parity.Of(make([][]byte, 17)); e != api.ErrMany || p != nil {
		t.Error(e)
	}
	if p, e := parity.Of(make([][]byte, 16)); e != api.OK || len(p) != 2 {
		t.Error(e)
	}
	if p, e := parity.Of([][]byte{nil, make([]byte, 5001)}); e != api.ErrMany || p != nil {
		t.Error(e)
	}
	if p, e := parity.Of([][]byte{nil, make([]byte, 5000)}); e != api.OK || len(p) != 5002 {
		t.Error(e)
	}
}

func TestRepairErrors(t *testing.T) {
	l := strings("ab", "c")
	wide := make([]byte, 5003)
	long := [][]byte{make([]byte, 5001), nil}
	for i, c := range []struct {
		l    [][]byte
		lost int
		p    []byte
		e    api.Errno
	}{
		{make([][]byte, 18), -1, nil, api.ErrMany}, {make([][]byte, 18), 3, nil, api.ErrMany}, {long, 1, nil, api.ErrMany}, {long, 2, nil, api.ErrMany}, {long, 0, []byte{0, 0}, api.OK},
		{l, -1, nil, api.ErrArg}, {l, 2, nil, api.ErrArg}, {nil, 0, []byte{0, 0}, api.ErrArg}, {l, math.MaxInt, nil, api.ErrArg}, {l, math.MinInt, nil, api.ErrArg},
		{l, 0, nil, api.ErrForm}, {l, 0, []byte{0}, api.ErrForm}, {l, 0, []byte{0, 0}, api.ErrForm}, {l, 1, []byte{0, 0, 0}, api.ErrForm}, {[][]byte{nil}, 0, wide, api.ErrForm}, {[][]byte{nil}, 0, wide[1:], api.OK},
		{[][]byte{nil}, 0, []byte{0, 3, 1, 2}, api.ErrForm}, {[][]byte{nil}, 0, []byte{1, 2, 1, 2}, api.ErrForm}, {[][]byte{nil}, 0, []byte{0, 1, 7, 0}, api.OK}, {[][]byte{nil}, 0, []byte{0, 1, 7, 1}, api.ErrForm},
		{[][]byte{nil}, 0, []byte{0, 1, 7, 0, 0, 1}, api.ErrForm}, {[][]byte{nil}, 0, []byte{0, 0}, api.OK},
	} {
		s, e := parity.Repair(c.l, c.lost, c.p)
		if e != c.e || e != api.OK && s != nil {
			t.Error(i, s, e)
		}
	}
}

func TestProtectAndRight(t *testing.T) {
	r := rand.New(rand.NewSource(2))
	for range 200 {
		l := some(r, r.Intn(40), 60)
		group := 1 + r.Intn(16)
		var want [][]byte
		for from := 0; from < len(l); from += group {
			want = append(want, of(l[from:min(from+group, len(l))]))
		}
		p, e := parity.Protect(l, group)
		if e != api.OK || !same(p, want) {
			t.Fatal(len(l), group, e)
		}
		if is, e := parity.Right(l, group, p); e != api.OK || !is {
			t.Fatal(is, e)
		}
		if is, e := parity.Right(l, group, append(p, nil)); e != api.OK || is {
			t.Fatal(is, e)
		}
		if len(p) > 0 {
			if is, e := parity.Right(l, group, p[1:]); e != api.OK || is {
				t.Fatal(is, e)
			}
			p[0][0]++
			if is, e := parity.Right(l, group, p); e != api.OK || is {
				t.Fatal(is, e)
			}
		}
	}
	for i, c := range []struct {
		n, wide, group int
		e              api.Errno
	}{{101, 0, 0, api.ErrArg}, {101, 0, 17, api.ErrArg}, {3, 0, -1, api.ErrArg}, {3, 0, math.MaxInt, api.ErrArg}, {101, 0, 16, api.ErrMany}, {100, 0, 1, api.OK}, {3, 5001, 16, api.ErrMany}, {3, 5000, 2, api.OK}} {
		l := make([][]byte, c.n)
		l[1] = make([]byte, c.wide)
		p, e := parity.Protect(l, c.group)
		if e != c.e || e != api.OK && p != nil {
			t.Error(i, e)
		}
		if is, e := parity.Right(l, c.group, nil); e != c.e || is {
			t.Error(i, e)
		}
	}
}

func TestRecover(t *testing.T) {
	r := rand.New(rand.NewSource(3))
	for range 300 {
		l := some(r, r.Intn(40), 60)
		group := 1 + r.Intn(16)
		p, _ := parity.Protect(l, group)
		lost := make([]bool, len(l))
		harmed := cloned(l)
		for from := 0; from < len(l); from += group {
			i := from + r.Intn(group+1)
			if i < min(from+group, len(l)) {
				lost[i] = true
				harmed[i] = make([]byte, r.Intn(7000))
			}
		}
		keep, keepP := cloned(harmed), cloned(p)
		got, e := parity.Recover(harmed, lost, group, p)
		if e != api.OK || !same(got, l) || !same(harmed, keep) || !same(p, keepP) {
			t.Fatal(len(l), group, e)
		}
		for i := range got {
			for k := range got[i] {
				got[i][k]++
			}
		}
		if !same(harmed, keep) || !same(p, keepP) {
			t.Fatal("memory is shared")
		}
	}
}

func TestRecoverErrors(t *testing.T) {
	l := strings("ab", "c", "def", "", "g")
	p, _ := parity.Protect(l, 2)
	none := make([]bool, 5)
	with := func(lost ...int) []bool {
		b := make([]bool, 5)
		for _, i := range lost {
			b[i] = true
		}
		return b
	}
	bad := cloned(p)
	bad[1] = []byte{0}
	long := cloned(l)
	long[3] = make([]byte, 5001)
	for i, c := range []struct {
		l     [][]byte
		lost  []bool
		group int
		p     [][]byte
		e     api.Errno
	}{
		{l, none, 0, p, api.ErrArg}, {l, none, 17, p, api.ErrArg}, {l, none[:4], 2, p, api.ErrArg}, {l, append(none[:5:5], false), 2, p, api.ErrArg}, {make([][]byte, 101), nil, 2, p, api.ErrArg},
		{make([][]byte, 101), make([]bool, 101), 2, nil, api.ErrMany}, {make([][]byte, 100), make([]bool, 100), 2, make([][]byte, 50), api.OK},
		{[][]byte{make([]byte, 5000), nil}, none[:2], 2, make([][]byte, 1), api.OK}, {long, none, 2, nil, api.ErrMany}, {long, with(2), 2, p, api.ErrMany}, {long, with(3), 2, p, api.OK},
		{l, none, 2, p[:2], api.ErrLost}, {l, none, 2, append(p[:3:3], nil), api.ErrLost}, {l, with(2, 3), 2, p, api.ErrLost}, {l, with(1, 2), 2, p, api.OK}, {l, with(0, 1, 4), 2, p, api.ErrLost},
		{l, with(2), 2, bad, api.ErrForm}, {l, with(0, 4), 2, bad, api.OK}, {l, none, 2, bad, api.OK}, {l, with(0, 3), 2, bad, api.ErrForm}, {nil, nil, 5, nil, api.OK}, {nil, nil, 5, p, api.ErrLost},
		{l, with(2, 3), 2, bad, api.ErrLost},
	} {
		got, e := parity.Recover(c.l, c.lost, c.group, c.p)
		if e != c.e || e != api.OK && got != nil {
			t.Error(i, e)
		}
	}
}
