package damage_test

import (
	"bytes"
	"math"
	"math/rand"
	"slices"
	"strings"
	"testing"

	"bitloft/api"
	"bitloft/damage"
	"bitloft/list"
	"bitloft/pack"
	"bitloft/salvage"
)

func set(at, n int) api.Harm          { return api.Harm{Kind: 1, At: at, N: n} }
func cut(at, n int) api.Harm          { return api.Harm{Kind: 2, At: at, N: n} }
func put(at int, s string) api.Harm   { return api.Harm{Kind: 3, At: at, Bytes: []byte(s)} }
func end(at int) api.Harm             { return api.Harm{Kind: 4, At: at} }
func script(l ...api.Harm) []api.Harm { return l }

func TestExample(t *testing.T) {
	l := script(put(1, "x"), cut(2, 1), set(0, 'y'))
	if b, e := damage.Apply([]byte("abcd"), l); e != api.OK || string(b) != "yxcd" {
		t.Errorf("%q %v", b, e)
	}
	if o, e := damage.Origins(4, l); e != api.OK || !slices.Equal(o, []int{-1, -1, 2, 3}) {
		t.Error(o, e)
	}
	s, e := damage.Survivors([]api.Piece{{Offset: 2, Raw: 2}, {Offset: 1, Raw: 2}}, 4, l)
	if e != api.OK || !slices.Equal(s, []api.Piece{{Member: 0, Offset: 2, Raw: 2}}) {
		t.Error(s, e)
	}
}

func TestCheck(t *testing.T) {
	long := strings.Repeat("p", 201)
	good := script(set(0, 0), set(math.MaxInt, 255), cut(0, 0), cut(5, math.MaxInt), put(0, ""), put(9, long[1:]), end(0), end(math.MaxInt))
	if e := damage.Check(good); e != api.OK {
		t.Error(e)
	}
	if e := damage.Check(nil); e != api.OK {
		t.Error(e)
	}
	if e := damage.Check(slices.Repeat(script(cut(0, 0)), 20)); e != api.OK {
		t.Error(e)
	}
	many := make([]api.Harm, 21)
	bad := []api.Harm{
		{}, {Kind: 5}, {Kind: 255}, set(-1, 0), set(0, -1), set(0, 256), set(0, math.MaxInt), cut(-1, 0), cut(0, -1), put(-1, "x"), put(0, long), end(-1), end(math.MinInt),
		{Kind: 1, Bytes: []byte{1}}, {Kind: 2, Bytes: []byte{1}}, {Kind: 3, N: 1}, {Kind: 3, N: 1, Bytes: []byte{1}}, {Kind: 4, N: 1}, {Kind: 4, Bytes: []byte{1}},
	}
	scripts := [][]api.Harm{many}
	for _, h := range bad {
		scripts = append(scripts, script(cut(0, 0), h))
	}
	for i, l := range scripts {
		want := api.ErrBad
		if i == 0 {
			want = api.ErrMany
		}
		if e := damage.Check(l); e != want {
			t.Error(i, e)
		}
		if b, e := damage.Apply(make([]byte, api.MaxArchive+1), l); e != want || b != nil {
			t.Error(i, e)
		}
		if o, e := damage.Origins(-1, l); e != want || o != nil {
			t.Error(i, e)
		}
		if s, e := damage.Survivors(make([]api.Piece, 601), -1, l); e != want || s != nil {
			t.Error(i, e)
		}
		if s, e := damage.Blocks(nil, l); e != want || s != nil {
			t.Error(i, e)
		}
	}
}

func TestPossible(t *testing.T) {
	most := api.MaxArchive
	for i, c := range []struct {
		n int
		l []api.Harm
		e api.Errno
	}{
		{4, script(set(3, 0)), api.OK}, {4, script(set(4, 0)), api.ErrRange}, {0, script(set(0, 0)), api.ErrRange},
		{4, script(cut(4, 0)), api.OK}, {4, script(cut(0, 4)), api.OK}, {4, script(cut(0, 5)), api.ErrRange}, {4, script(cut(5, 0)), api.ErrRange},
		{4, script(cut(2, 3)), api.ErrRange}, {4, script(cut(4, 1)), api.ErrRange}, {4, script(cut(2, 2)), api.OK}, {4, script(cut(1, math.MaxInt)), api.ErrRange}, {4, script(cut(math.MaxInt, math.MaxInt)), api.ErrRange},
		{4, script(put(4, "x")), api.OK}, {4, script(put(5, "x")), api.ErrRange}, {4, script(put(5, "")), api.ErrRange}, {0, script(put(0, "x")), api.OK},
		{most - 1, script(put(0, "x")), api.OK}, {most, script(put(0, "x")), api.ErrRange}, {most, script(put(0, "")), api.OK}, {most, script(cut(9, 1), put(0, "x")), api.OK},
		{4, script(end(4)), api.OK}, {4, script(end(5)), api.ErrRange}, {4, script(end(0), end(0)), api.OK}, {4, script(end(0), set(0, 1)), api.ErrRange},
		{4, script(end(math.MaxInt)), api.ErrRange}, {4, script(cut(0, 2), set(2, 1)), api.ErrRange}, {4, script(put(2, "xy"), set(5, 1)), api.OK},
	} {
		b, e := damage.Apply(make([]byte, c.n), c.l)
		if e != c.e || e != api.OK && b != nil {
			t.Error(i, e)
		}
		o, e := damage.Origins(c.n, c.l)
		if e != c.e || e != api.OK && o != nil {
			t.Error(i, e)
		}
		s, e := damage.Survivors(nil, c.n, c.l)
		if e != c.e || len(s) != 0 {
			t.Error(i, e)
		}
	}
	if b, e := damage.Apply(make([]byte, most+1), script(set(most+5, 0))); e != api.ErrMany || b != nil {
		t.Error(e)
	}
	for _, n := range []int{-1, most + 1, math.MinInt, math.MaxInt} {
		if o, e := damage.Origins(n, script(set(0, 0))); e != api.ErrArg || o != nil {
			t.Error(n, e)
		}
		if s, e := damage.Survivors(make([]api.Piece, 601), n, nil); e != api.ErrArg || s != nil {
			t.Error(n, e)
		}
	}
}

// random is a script that is possible for n bytes.
func random(r *rand.Rand, n int) []api.Harm {
	var l []api.Harm
	for range r.Intn(8) {
		switch r.Intn(5) {
		case 0:
			if n > 0 {
				l = append(l, set(r.Intn(n), r.Intn(256)))
			}
		case 1:
			at := r.Intn(n + 1)
			k := r.Intn(min(n-at, 20) + 1)
			l = append(l, cut(at, k))
			n -= k
		case 2, 3:
			s := strings.Repeat("p", r.Intn(30))
			l = append(l, put(r.Intn(n+1), s))
			n += len(s)
		case 4:
			if r.Intn(4) == 0 {
				n -= r.Intn(n + 1)
				l = append(l, end(n))
			}
		}
	}
	return l
}

func TestApplyAndOrigins(t *testing.T) {
	r := rand.New(rand.NewSource(1))
	for range 2000 {
		b := make([]byte, r.Intn(80), 120)
		r.Read(b)
		l := random(r, len(b))
		before := bytes.Clone(b[:cap(b)])
		left, e := damage.Apply(b, l)
		origins, f := damage.Origins(len(b), l)
		if e != api.OK || f != api.OK || len(left) != len(origins) || !bytes.Equal(before, b[:cap(b)]) {
			t.Fatal(l, e, f)
		}
		last := -1
		for i, origin := range origins {
			if origin == -1 {
				continue
			}
			if origin <= last || left[i] != b[origin] {
				t.Fatal(l, i, origin)
			}
			last = origin
		}
		k := r.Intn(len(l) + 1)
		half, _ := damage.Apply(b, l[:k])
		if both, e := damage.Apply(half, l[k:]); e != api.OK || !bytes.Equal(both, left) {
			t.Fatal("a script in two parts is no script", l, k, e)
		}
		for i := range left {
			left[i]++
		}
		if !bytes.Equal(before, b[:cap(b)]) {
			t.Fatal("memory is shared")
		}
		survive(t, r, len(b), l, origins)
	}
	b := []byte("abc")
	if left, e := damage.Apply(b, nil); e != api.OK || string(left) != "abc" {
		t.Error(left, e)
	}
	in := put(1, "xyz")
	left, _ := damage.Apply(b, script(in, set(1, 'q')))
	if string(in.Bytes) != "xyz" || string(left) != "aqyzbc" {
		t.Error("the bytes of a harm were changed")
	}
}

func survive(t *testing.T, r *rand.Rand, n int, l []api.Harm, origins []int) {
	t.Helper()
	if n == 0 {
		return
	}
	var ranges, want []api.Piece
	for i := range r.Intn(12) {
		offset := r.Intn(n)
		one := api.Piece{Member: r.Intn(100) - 50, Offset: offset, Raw: 1 + r.Intn(min(9, n-offset))}
		ranges = append(ranges, one)
		for at := range origins {
			is := true
			for k := range one.Raw {
				is = is && at+k < len(origins) && origins[at+k] == offset+k
			}
			if is {
				want = append(want, api.Piece{Member: i, Offset: at, Raw: one.Raw})
			}
		}
	}
	before := slices.Clone(ranges)
	if s, e := damage.Survivors(ranges, n, l); e != api.OK || !slices.Equal(s, want) || !slices.Equal(ranges, before) {
		t.Fatal(l, ranges, s, want, e)
	}
}

func TestSetTouches(t *testing.T) {
	// A byte that is set is not there any more, also if it is set to what it was.
	s, e := damage.Survivors([]api.Piece{{Raw: 3}}, 3, script(set(1, 0)))
	if e != api.OK || len(s) != 0 {
		t.Error(s, e)
	}
	o, e := damage.Origins(3, script(set(1, 0), cut(1, 1), put(1, "z")))
	if e != api.OK || !slices.Equal(o, []int{0, -1, 2}) {
		t.Error(o, e)
	}
}

func TestRanges(t *testing.T) {
	for i, bad := range []api.Piece{{Raw: 0}, {Raw: -1}, {Raw: 5}, {Offset: 4, Raw: 1}, {Offset: 3, Raw: 2}, {Offset: -1, Raw: 2}, {Offset: math.MaxInt, Raw: math.MaxInt}, {Offset: 1, Raw: math.MaxInt}, {Offset: math.MinInt, Raw: 1}} {
		if s, e := damage.Survivors([]api.Piece{{Raw: 4}, bad}, 4, nil); e != api.ErrBad || s != nil {
			t.Error(i, s, e)
		}
	}
	many := slices.Repeat([]api.Piece{{Offset: 1, Raw: 3}}, 601)
	if s, e := damage.Survivors(many[1:], 4, nil); e != api.OK || len(s) != 600 || s[599] != (api.Piece{Member: 599, Offset: 1, Raw: 3}) {
		t.Error(len(s), e)
	}
	many[3].Raw = 0
	if s, e := damage.Survivors(many, 4, nil); e != api.ErrMany || s != nil {
		t.Error(len(s), e)
	}
	if s, e := damage.Survivors(many, 4, script(set(9, 9))); e != api.ErrRange || s != nil {
		t.Error(len(s), e)
	}
}

func archive(t *testing.T) ([]byte, []int) {
	t.Helper()
	noise := make([]byte, 100)
	rand.New(rand.NewSource(1)).Read(noise)
	b, e := pack.Pack(api.Settings{Level: 1, Block: 32}, []api.Member{{Name: "t", Data: bytes.Repeat([]byte("text "), 13)}, {Name: "n", Data: noise}})
	if e != api.OK {
		t.Fatal(e)
	}
	l, _ := list.List(b)
	places, _ := list.Places(l)
	return b, append(places, len(b))
}

func TestBlocks(t *testing.T) {
	b, at := archive(t)
	n := len(at) - 1
	whole := func(shift func(i int) (int, bool)) []api.Piece {
		var l []api.Piece
		for i := range n {
			if by, is := shift(i); is {
				l = append(l, api.Piece{Member: i, Offset: at[i] + by, Raw: at[i+1] - at[i]})
			}
		}
		return l
	}
	for i, c := range []struct {
		l    []api.Harm
		want []api.Piece
	}{
		{nil, whole(func(int) (int, bool) { return 0, true })},
		{script(put(0, "abc"), cut(10, 5)), whole(func(int) (int, bool) { return -2, true })},
		{script(set(at[1], 5)), whole(func(i int) (int, bool) { return 0, i != 1 })},
		{script(set(at[2]-1, 5)), whole(func(i int) (int, bool) { return 0, i != 1 })},
		{script(put(at[2], "xy")), whole(func(i int) (int, bool) { return 2 * min(1, i/2), true })},
		{script(put(at[2]+1, "xy")), whole(func(i int) (int, bool) { return 2 * min(1, i/2), i != 2 })},
		{script(end(at[3])), whole(func(i int) (int, bool) { return 0, i < 3 })},
		{script(end(at[3] - 1)), whole(func(i int) (int, bool) { return 0, i < 2 })},
		{script(cut(0, at[0])), whole(func(i int) (int, bool) { return -at[0], true })},
	} {
		if s, e := damage.Blocks(b, c.l); e != api.OK || !slices.Equal(s, c.want) {
			t.Error(i, s, c.want, e)
		}
	}
	for i, c := range []struct {
		b []byte
		l []api.Harm
		e api.Errno
	}{
		{b[:len(b)-1], script(set(9999, 0)), api.ErrShort}, {nil, nil, api.ErrShort}, {append(bytes.Clone(b), 0), nil, api.ErrForm}, {b, script(set(len(b), 0)), api.ErrRange},
	} {
		if s, e := damage.Blocks(c.b, c.l); e != c.e || s != nil {
			t.Error(i, e)
		}
	}
}

func TestSurvivorsAreSalvaged(t *testing.T) {
	b, at := archive(t)
	r := rand.New(rand.NewSource(2))
	for range 60 {
		l := random(r, len(b))
		left, e := damage.Apply(b, l)
		survivors, f := damage.Blocks(b, l)
		found, g := salvage.Salvage(1, left)
		if e != api.OK || f != api.OK || g != api.OK {
			t.Fatal(e, f, g)
		}
		// A block that was set to what it was, or of which a piece was put in again, is found, too.
		for i, s := range survivors {
			k := slices.IndexFunc(found, func(x api.Found) bool { return x.At == s.Offset })
			if k < 0 || !bytes.Equal(left[s.Offset:s.Offset+s.Raw], b[at[s.Member]:at[s.Member]+s.Raw]) {
				t.Fatal(l, i, s)
			}
		}
		for _, x := range found {
			if !slices.ContainsFunc(survivors, func(s api.Piece) bool { return s.Offset == x.At }) && !bytes.Contains(b, left[x.At:x.At+41]) {
				t.Fatal(l, x)
			}
		}
	}
}
