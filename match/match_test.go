package match_test

import (
	"bytes"
	"math"
	"math/rand"
	"reflect"
	"slices"
	"testing"

	"bitloft/api"
	"bitloft/finder"
	"bitloft/hashes"
	"bitloft/match"
	"bitloft/nibble"
	"bitloft/ring"
)

type all struct {
	m api.Match
	r api.Ring
	f api.Finder
}

func fresh(t *testing.T, level int) all {
	t.Helper()
	r, e := ring.New(level)
	f, g := finder.New(level)
	if e != api.OK || g != api.OK {
		t.Fatal(e, g)
	}
	return all{match.New(), r, f}
}

func (x all) come(t *testing.T, s string) all {
	t.Helper()
	for _, b := range []byte(s) {
		m, r, f, e := match.Byte(x.m, x.r, x.f, b)
		if e != api.OK {
			t.Fatal(e)
		}
		x = all{m, r, f}
	}
	return x
}

func TestExamples(t *testing.T) {
	if m := match.New(); m != (api.Match{At: -1}) {
		t.Error(m)
	}
	x := fresh(t, 7).come(t, "abcdeabc")
	if b, is, e := match.Expect(x.m, x.r); e != api.OK || is || b != 0 || x.m != match.New() {
		t.Error(x.m, b, is, e)
	}
	x = x.come(t, "d")
	if b, is, e := match.Expect(x.m, x.r); e != api.OK || !is || b != 'e' || x.m != (api.Match{At: 4, Len: 4}) {
		t.Error(x.m, b, is, e)
	}
	if n, e := match.Input(x.m, x.r, nibble.New()); e != api.OK || n != -200 {
		t.Error(n, e)
	}
	x = x.come(t, "e")
	if x.m != (api.Match{At: 5, Len: 5}) {
		t.Error(x.m)
	}
	x = x.come(t, "z")
	if x.m != match.New() {
		t.Error(x.m)
	}
}

func TestCheck(t *testing.T) {
	for m, want := range map[api.Match]api.Errno{
		{At: -1}:                         api.OK,
		{At: 0, Len: 1}:                  api.OK,
		{At: api.MaxPut, Len: 40}:        api.OK,
		{}:                               api.ErrBad,
		{At: -1, Len: 1}:                 api.ErrBad,
		{At: -2}:                         api.ErrBad,
		{At: -2, Len: 3}:                 api.ErrBad,
		{At: 5, Len: 0}:                  api.ErrBad,
		{At: 5, Len: -1}:                 api.ErrBad,
		{At: 5, Len: 41}:                 api.ErrBad,
		{At: api.MaxPut + 1, Len: 1}:     api.ErrBad,
		{At: math.MinInt, Len: 5}:        api.ErrBad,
		{At: 3, Len: math.MaxInt}:        api.ErrBad,
		{At: math.MaxInt, Len: 5}:        api.ErrBad,
		{At: api.MaxPut, Len: 1}:         api.OK,
		{At: api.MaxPut - 1, Len: 40}:    api.OK,
		{At: 0, Len: math.MinInt}:        api.ErrBad,
		{At: api.MaxPut, Len: 0}:         api.ErrBad,
		{At: -1, Len: math.MinInt}:       api.ErrBad,
		{At: 1 << 40, Len: api.MaxMatch}: api.ErrBad,
	} {
		if e := match.Check(m); e != want {
			t.Errorf("%v: %v", m, e)
		}
	}
}

func TestExpect(t *testing.T) {
	x := fresh(t, 0).come(t, "abc")
	for at, want := range map[int]byte{0: 'a', 2: 'c'} {
		if b, is, e := match.Expect(api.Match{At: at, Len: 5}, x.r); e != api.OK || !is || b != want {
			t.Error(at, b, is, e)
		}
	}
	for _, at := range []int{3, 4, 1000, api.MaxPut} {
		if b, is, e := match.Expect(api.Match{At: at, Len: 5}, x.r); e != api.OK || is || b != 0 {
			t.Error(at, b, is, e)
		}
		if n, e := match.Input(api.Match{At: at, Len: 5}, x.r, nibble.New()); e != api.OK || n != 0 {
			t.Error(at, n, e)
		}
	}
	old := fresh(t, 0)
	old.r, _ = ring.Put(old.r, make([]byte, 70))
	if _, is, e := match.Expect(api.Match{At: 5, Len: 5}, old.r); e != api.OK || is {
		t.Error(is, e)
	}
	if _, is, e := match.Expect(api.Match{At: 6, Len: 5}, old.r); e != api.OK || !is {
		t.Error(is, e)
	}
}

func TestInput(t *testing.T) {
	for c := range 256 {
		r, _ := ring.New(0)
		r, _ = ring.Put(r, []byte{byte(c)})
		for part := 1; part <= 255; part++ {
			w := api.Walk{Part: part}
			bits, _ := nibble.Bits(w)
			want := int32(0)
			if (256|c)>>(8-len(bits)) == part {
				want = -50 * 13
				if c>>(7-len(bits))&1 == 1 {
					want = 50 * 13
				}
			}
			if n, e := match.Input(api.Match{At: 0, Len: 13}, r, w); e != api.OK || n != want {
				t.Fatal(c, part, n, want, e)
			}
		}
		if n, _ := match.Input(match.New(), r, nibble.New()); n != 0 {
			t.Fatal(n)
		}
	}
	r, _ := ring.New(0)
	r, _ = ring.Put(r, []byte{255})
	if n, e := match.Input(api.Match{At: 0, Len: 40}, r, nibble.New()); e != api.OK || n != 2000 {
		t.Error(n, e)
	}
}

// after is the definition of a byte that comes.
func (x all) after(b byte) all {
	expected, is, _ := match.Expect(x.m, x.r)
	r, _ := ring.Put(x.r, []byte{b})
	m := match.New()
	if is && expected == b {
		m = api.Match{At: x.m.At + 1, Len: min(x.m.Len+1, 40)}
	}
	var four [4]byte
	for k := range 4 {
		four[3-k], _ = ring.Back(r, k+1)
	}
	h, _ := hashes.Of(6, four[:])
	if n, _ := finder.Find(x.f, h); m.At == -1 && n >= 0 && n <= r.N {
		if k, _ := finder.Length(r, n, 40); k >= 3 {
			m = api.Match{At: n, Len: k}
		}
	}
	f, _ := finder.Put(x.f, h, r.N)
	return all{m, r, f}
}

func (x all) copied() all {
	return all{x.m, api.Ring{Level: x.r.Level, Bytes: bytes.Clone(x.r.Bytes), N: x.r.N}, api.Finder{Level: x.f.Level, Seen: slices.Clone(x.f.Seen)}}
}

func TestByte(t *testing.T) {
	random := rand.New(rand.NewSource(1))
	for round := range 12 {
		x := fresh(t, round%3)
		var put []byte
		found := 0
		for range 700 {
			b := "abc"[random.Intn(3)]
			if random.Intn(3) > 0 && len(put) > 30 {
				b = put[len(put)-30]
			}
			before, want := x.copied(), x.after(b)
			m, r, f, e := match.Byte(x.m, x.r, x.f, b)
			got := all{m, r, f}
			if e != api.OK || !reflect.DeepEqual(got, want) || !reflect.DeepEqual(x, before) {
				t.Fatal(round, len(put), m, want.m, e)
			}
			x.r.Bytes[0]++
			x.f.Seen[0]++
			if !reflect.DeepEqual(got, want) {
				t.Fatal("memory is shared")
			}
			x = got
			put = append(put, b)
			isTrue(t, x, put)
			found = max(found, x.m.Len)
		}
		if found < 10 {
			t.Error("no matches", found)
		}
	}
}

// isTrue checks that as many bytes as the match says are the same, as far as they are there.
func isTrue(t *testing.T, x all, put []byte) {
	t.Helper()
	for i := 1; i <= x.m.Len; i++ {
		if x.m.At-i < len(put)-len(x.r.Bytes) {
			break
		}
		if put[x.m.At-i] != put[len(put)-i] {
			t.Fatal("not a true match", x.m, i)
		}
	}
}

func TestRepeating(t *testing.T) {
	x := fresh(t, 3)
	for i := range 200 {
		b := "the cat sat."[i%12]
		if want, is, e := match.Expect(x.m, x.r); i > 30 && (e != api.OK || !is || want != b) {
			t.Fatal(i, want, is, e)
		}
		x = x.come(t, string([]byte{b}))
	}
	if x.m.Len != 40 {
		t.Error(x.m)
	}
}

func TestFoundAtTheEndItself(t *testing.T) {
	// A finder may also have the number that the ring has then: a match with itself.
	x := fresh(t, 0).come(t, "abc")
	for i := range x.f.Seen {
		x.f.Seen[i] = 4
	}
	x = x.come(t, "d")
	if x.m != (api.Match{At: 4, Len: 4}) {
		t.Error(x.m)
	}
	for i := range x.f.Seen {
		x.f.Seen[i] = 6
	}
	x.m = match.New()
	x = x.come(t, "e")
	if x.m != match.New() {
		t.Error(x.m)
	}
}

func TestErrors(t *testing.T) {
	x := fresh(t, 0)
	badMatch, badRing, badFinder := api.Match{}, api.Ring{}, api.Finder{}
	full := api.Ring{Bytes: make([]byte, 64), N: api.MaxPut}
	for _, c := range []struct {
		all
		e api.Errno
	}{
		{all{badMatch, x.r, x.f}, api.ErrBad}, {all{x.m, badRing, x.f}, api.ErrBad}, {all{x.m, x.r, badFinder}, api.ErrBad},
		{all{x.m, full, badFinder}, api.ErrBad}, {all{badMatch, full, x.f}, api.ErrBad}, {all{x.m, full, x.f}, api.ErrRange},
	} {
		m, r, f, e := match.Byte(c.m, c.r, c.f, 1)
		if e != c.e || m != (api.Match{}) || r.Bytes != nil || r.N != 0 || f.Seen != nil {
			t.Error(m, e)
		}
	}
	near := api.Ring{Bytes: make([]byte, 64), N: api.MaxPut - 1}
	if m, r, _, e := match.Byte(api.Match{At: api.MaxPut - 2, Len: 1}, near, x.f, 0); e != api.OK || r.N != api.MaxPut || m != (api.Match{At: api.MaxPut - 1, Len: 2}) {
		t.Error(m, r.N, e)
	}
	if b, is, e := match.Expect(badMatch, x.r); e != api.ErrBad || is || b != 0 {
		t.Error(b, is, e)
	}
	if b, is, e := match.Expect(x.m, badRing); e != api.ErrBad || is || b != 0 {
		t.Error(b, is, e)
	}
	for _, c := range []struct {
		m api.Match
		r api.Ring
		w api.Walk
	}{{badMatch, x.r, nibble.New()}, {x.m, badRing, nibble.New()}, {x.m, x.r, api.Walk{}}, {x.m, x.r, api.Walk{Part: 256}}} {
		if n, e := match.Input(c.m, c.r, c.w); e != api.ErrBad || n != 0 {
			t.Error(n, e)
		}
	}
}
