package filter_test

import (
	"bytes"
	"math"
	"math/rand"
	"slices"
	"testing"

	"bitloft/api"
	"bitloft/filter"
)

var (
	front = api.Filter{Kind: api.FilterFront}
	runs  = api.Filter{Kind: api.FilterRuns}
)

func delta(n int) api.Filter { return api.Filter{Kind: api.FilterDelta, N: n} }

func all() []api.Filter {
	l := []api.Filter{front, runs}
	for n := 1; n <= 8; n++ {
		l = append(l, delta(n))
	}
	return l
}

func TestCheck(t *testing.T) {
	for kind := range 256 {
		for _, n := range []int{math.MinInt, -1, 0, 1, 2, 8, 9, math.MaxInt} {
			f := api.Filter{Kind: uint8(kind), N: n}
			want := api.ErrBad
			if kind == 1 && n >= 1 && n <= 8 || (kind == 2 || kind == 3) && n == 0 {
				want = api.OK
			}
			if e := filter.Check(f); e != want {
				t.Error(f, e)
			}
			if want == api.OK {
				continue
			}
			long := make([]byte, api.MaxWide+1)
			for i, call := range []func([]byte) ([]byte, api.Errno){
				func(b []byte) ([]byte, api.Errno) { return filter.One(f, b) },
				func(b []byte) ([]byte, api.Errno) { return filter.Back(f, b) },
				func(b []byte) ([]byte, api.Errno) { return filter.Apply([]api.Filter{front, f}, b) },
				func(b []byte) ([]byte, api.Errno) { return filter.Undo([]api.Filter{front, f}, b) },
			} {
				if b, e := call(long); e != api.ErrBad || b != nil {
					t.Error(f, i, e)
				}
			}
		}
	}
}

func TestExamples(t *testing.T) {
	b := []byte{5, 7, 7, 7, 7}
	for _, c := range []struct {
		f    api.Filter
		b    []byte
		want []byte
	}{
		{delta(1), b, []byte{5, 2, 0, 0, 0}}, {front, b, []byte{5, 7, 0, 0, 0}}, {runs, b, []byte{5, 7, 7, 2}}, {runs, []byte{9, 9}, []byte{9, 9, 0}},
		{delta(2), []byte{5, 7, 4, 7, 9}, []byte{5, 7, 255, 0, 5}}, {delta(8), b, b}, {front, []byte{1, 0, 1, 255, 255, 0}, []byte{1, 1, 1, 255, 0, 2}},
		{runs, bytes.Repeat([]byte{4}, 257), []byte{4, 4, 255}}, {runs, bytes.Repeat([]byte{4}, 258), []byte{4, 4, 255, 4}}, {runs, bytes.Repeat([]byte{4}, 259), []byte{4, 4, 255, 4, 4, 0}},
		{runs, []byte{1, 2, 3}, []byte{1, 2, 3}}, {runs, nil, nil}, {front, nil, nil}, {delta(3), nil, nil},
	} {
		if got, e := filter.One(c.f, c.b); e != api.OK || !bytes.Equal(got, c.want) {
			t.Error(c, got, e)
		}
		if got, e := filter.Back(c.f, c.want); e != api.OK || !bytes.Equal(got, c.b) {
			t.Error(c, got, e)
		}
	}
	for _, b := range [][]byte{{9, 9}, {9, 9, 0, 9}, {9, 9, 0, 9, 9, 0}, {9, 9, 254, 9}, {1, 9, 9}, {9, 9, 1, 9, 5}} {
		if got, e := filter.Back(runs, b); e != api.ErrForm || got != nil {
			t.Error(b, got, e)
		}
		if got, e := filter.Undo([]api.Filter{runs}, b); e != api.ErrForm || got != nil {
			t.Error(b, got, e)
		}
	}
	for _, b := range [][]byte{{9, 9, 9}, {9, 9, 255, 9}, {9, 9, 255, 9, 9, 255, 9, 8}} {
		if _, e := filter.Back(runs, b); e != api.OK {
			t.Error(b, e)
		}
	}
}

// some are bytes with runs.
func some(r *rand.Rand, n int) []byte {
	b := make([]byte, n)
	for i := range b {
		b[i] = byte(r.Intn(256))
		if i > 0 && r.Intn(3) > 0 {
			b[i] = b[i-1]
		}
		if r.Intn(300) == 0 {
			copy(b[i:], bytes.Repeat([]byte{b[i]}, 600))
			return append(b[:i], some(r, n-i)...)
		}
	}
	return b
}

// made is the definition of each filter.
func made(f api.Filter, b []byte) []byte {
	var out []byte
	switch f.Kind {
	case api.FilterDelta:
		for i, c := range b {
			before := byte(0)
			if i >= f.N {
				before = b[i-f.N]
			}
			out = append(out, c-before)
		}
	case api.FilterFront:
		var list []byte
		for i := range 256 {
			list = append(list, byte(i))
		}
		for _, c := range b {
			i := bytes.IndexByte(list, c)
			out = append(out, byte(i))
			list = slices.Concat([]byte{c}, list[:i], list[i+1:])
		}
	case api.FilterRuns:
		for len(b) > 0 {
			n := 1
			for n < len(b) && n < 257 && b[n] == b[0] {
				n++
			}
			if n == 1 {
				out = append(out, b[0])
			} else {
				out = append(out, b[0], b[0], byte(n-2))
			}
			b = b[n:]
		}
	}
	return out
}

func TestOneAndBack(t *testing.T) {
	r := rand.New(rand.NewSource(1))
	for range 300 {
		b := some(r, r.Intn(700))
		before := bytes.Clone(b)
		for _, f := range all() {
			got, e := filter.One(f, b)
			if e != api.OK || !bytes.Equal(got, made(f, b)) || !bytes.Equal(b, before) {
				t.Fatal(f, b, got, e)
			}
			keep := bytes.Clone(got)
			back, e := filter.Back(f, got)
			if e != api.OK || !bytes.Equal(back, b) || !bytes.Equal(got, keep) {
				t.Fatal(f, b, back, e)
			}
			if f.Kind == api.FilterRuns && 2*len(got) > 3*len(b) {
				t.Fatal("too many bytes more", len(b), len(got))
			}
			// Any bytes are what a filter makes of some, or of none.
			of, e := filter.Back(f, b)
			if e == api.OK {
				if again, _ := filter.One(f, of); !bytes.Equal(again, b) {
					t.Fatal(f, b, of)
				}
			} else if e != api.ErrForm || f.Kind != api.FilterRuns || of != nil {
				t.Fatal(f, b, e)
			}
			if len(got) > 0 && len(back) > 0 {
				got[0]++
				back[0]++
				if !bytes.Equal(b, before) {
					t.Fatal("memory is shared")
				}
			}
		}
	}
}

func TestWideBytes(t *testing.T) {
	most := make([]byte, api.MaxWide+1)
	for i := range most {
		most[i] = byte(i / 2 * 7)
	}
	for _, f := range all() {
		if b, e := filter.One(f, most); e != api.ErrMany || b != nil {
			t.Error(f, e)
		}
		if b, e := filter.Back(f, most); e != api.ErrMany || b != nil {
			t.Error(f, e)
		}
		b, e := filter.One(f, most[1:])
		if e != api.OK || len(b) < api.MaxWide {
			t.Error(f, len(b), e)
		}
		if f.Kind != api.FilterRuns {
			if back, e := filter.Back(f, b); e != api.OK || !bytes.Equal(back, most[1:]) {
				t.Error(f, e)
			}
		}
	}
	// 39 runs of 257 bytes are 10,023, and 102 bytes more are as many as may be.
	wide := bytes.Repeat([]byte{5, 5, 255}, 39)
	if b, e := filter.Back(runs, append(wide, 5, 5, 100)); e != api.OK || len(b) != api.MaxWide {
		t.Error(len(b), e)
	}
	if b, e := filter.Back(runs, append(wide, 5, 5, 101)); e != api.ErrForm || b != nil {
		t.Error(len(b), e)
	}
}

func TestChains(t *testing.T) {
	r := rand.New(rand.NewSource(2))
	for range 400 {
		var l []api.Filter
		for range r.Intn(5) {
			l = append(l, all()[r.Intn(10)])
		}
		b := some(r, r.Intn(400))
		want := b
		for _, f := range l {
			want = made(f, want)
		}
		before, keep := bytes.Clone(b), slices.Clone(l)
		got, e := filter.Apply(l, b)
		if e != api.OK || !bytes.Equal(got, want) || !bytes.Equal(b, before) || !slices.Equal(l, keep) {
			t.Fatal(l, b, got, e)
		}
		back, e := filter.Undo(l, got)
		if e != api.OK || !bytes.Equal(back, b) {
			t.Fatal(l, b, back, e)
		}
		k := r.Intn(len(l) + 1)
		half, _ := filter.Apply(l[:k], b)
		if both, e := filter.Apply(l[k:], half); e != api.OK || !bytes.Equal(both, got) {
			t.Fatal("a chain in two parts", l, k, e)
		}
		of, e := filter.Undo(l, b)
		if e == api.OK {
			if again, _ := filter.Apply(l, of); !bytes.Equal(again, b) {
				t.Fatal(l, b, of)
			}
		} else if e != api.ErrForm || of != nil {
			t.Fatal(l, b, e)
		}
		if len(b) > 0 {
			back[0]++
			if !bytes.Equal(got, want) {
				t.Fatal("memory is shared")
			}
			got[0]++
			if !bytes.Equal(b, before) {
				t.Fatal("memory is shared")
			}
		}
	}
}

func TestChainLimits(t *testing.T) {
	pairs := make([]byte, 2001)
	for i := range pairs {
		pairs[i] = byte(i / 2 % 256)
	}
	four := []api.Filter{runs, runs, runs, runs}
	b, e := filter.Apply(four, pairs[:2000])
	if e != api.OK || len(b) > api.MaxWide {
		t.Error(len(b), e)
	}
	if back, e := filter.Undo(four, b); e != api.OK || !bytes.Equal(back, pairs[:2000]) {
		t.Error(e)
	}
	five := append(four, api.Filter{})
	for i, c := range []struct {
		l []api.Filter
		n int
		e api.Errno
	}{{five, 20000, api.ErrMany}, {four, 2001, api.ErrMany}, {nil, 2001, api.ErrMany}, {nil, 2000, api.OK}} {
		if b, e := filter.Apply(c.l, make([]byte, c.n)); e != c.e || e != api.OK && b != nil {
			t.Error(i, e)
		}
	}
	for i, c := range []struct {
		l []api.Filter
		n int
		e api.Errno
	}{{five, 20000, api.ErrMany}, {four, api.MaxWide + 1, api.ErrMany}, {nil, api.MaxWide, api.ErrForm}, {nil, 2001, api.ErrForm}, {nil, 2000, api.OK}, {[]api.Filter{front}, 2001, api.ErrForm}} {
		if b, e := filter.Undo(c.l, make([]byte, c.n)); e != c.e || e != api.OK && b != nil {
			t.Error(i, e)
		}
	}
	// 8 runs of 257 bytes are more than a chain filters.
	if b, e := filter.Undo([]api.Filter{runs}, bytes.Repeat([]byte{5, 5, 255}, 8)); e != api.ErrForm || b != nil {
		t.Error(e)
	}
}
