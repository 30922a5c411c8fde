package split_test

import (
	"bytes"
	"math"
	"math/rand"
	"reflect"
	"slices"
	"testing"

	"bitloft/api"
	"bitloft/member"
	"bitloft/split"
)

func members(seed int64, sizes ...int) []api.Member {
	r := rand.New(rand.NewSource(seed))
	var l []api.Member
	for i, size := range sizes {
		b := make([]byte, size)
		r.Read(b)
		l = append(l, api.Member{Name: string(rune('a' + i)), Data: b})
	}
	return l
}

func records(t *testing.T, l []api.Member) []api.Record {
	t.Helper()
	r, e := member.Of(l)
	if e != api.OK {
		t.Fatal(e)
	}
	return r
}

func cut(t *testing.T, l []api.Member, block int) []api.Part {
	t.Helper()
	p, e := split.Cut(l, block)
	if e != api.OK {
		t.Fatal(e)
	}
	return p
}

func piecesOf(parts []api.Part) []api.Piece {
	var l []api.Piece
	for _, p := range parts {
		l = append(l, p.Piece)
	}
	return l
}

func sameMembers(a, b []api.Member) bool {
	return slices.EqualFunc(a, b, func(x, y api.Member) bool { return x.Name == y.Name && bytes.Equal(x.Data, y.Data) })
}

func TestExample(t *testing.T) {
	sizes := []int{40, 0, 5}
	l, e := split.Pieces(sizes, 16)
	want := []api.Piece{{Member: 0, Offset: 0, Raw: 16}, {Member: 0, Offset: 16, Raw: 16}, {Member: 0, Offset: 32, Raw: 8}, {Member: 2, Offset: 0, Raw: 5}}
	if e != api.OK || !slices.Equal(l, want) {
		t.Error(l, e)
	}
	for _, c := range []struct {
		without []int
		want    []api.Piece
	}{{nil, nil}, {[]int{1}, want[1:2]}, {[]int{1, 2}, []api.Piece{{Member: 0, Offset: 16, Raw: 24}}}, {[]int{2, 3}, want[2:]}, {[]int{0, 2}, []api.Piece{want[0], want[2]}}} {
		var rest []api.Piece
		for i, p := range want {
			if !slices.Contains(c.without, i) {
				rest = append(rest, p)
			}
		}
		if m, e := split.Missing(sizes, rest); e != api.OK || !slices.Equal(m, c.want) {
			t.Error(c, m, e)
		}
	}
}

func TestPieces(t *testing.T) {
	r := rand.New(rand.NewSource(1))
	for range 300 {
		var sizes []int
		for range r.Intn(17) {
			sizes = append(sizes, r.Intn(500)*r.Intn(2))
		}
		block := 16 + r.Intn(200)
		if r.Intn(5) == 0 {
			block = []int{16, 4096}[r.Intn(2)]
		}
		l, e := split.Pieces(sizes, block)
		if e != api.OK {
			t.Fatal(sizes, e)
		}
		var want []api.Piece
		for i, size := range sizes {
			for at := 0; at < size; at += block {
				want = append(want, api.Piece{Member: i, Offset: at, Raw: min(block, size-at)})
			}
		}
		if !slices.Equal(l, want) {
			t.Fatal(sizes, block, l)
		}
		if m, e := split.Missing(sizes, l); e != api.OK || len(m) != 0 {
			t.Fatal(sizes, block, m, e)
		}
	}
	if l, e := split.Pieces([]int{8192}, 16); e != api.OK || len(l) != 512 {
		t.Error(len(l), e)
	}
	if l, e := split.Pieces(nil, 16); e != api.OK || len(l) != 0 {
		t.Error(len(l), e)
	}
}

func TestSizes(t *testing.T) {
	for i, c := range []struct {
		sizes []int
		block int
		e     api.Errno
	}{
		{[]int{-1}, 16, api.ErrBad}, {append(make([]int, 17), -1), 0, api.ErrBad}, {[]int{9000, -1}, 16, api.ErrBad}, {[]int{math.MinInt}, 16, api.ErrBad},
		{make([]int, 17), 0, api.ErrMany}, {[]int{8193}, 16, api.ErrMany}, {[]int{8192, 1}, 16, api.ErrMany}, {[]int{math.MaxInt, math.MaxInt}, 0, api.ErrMany},
		{[]int{1, 8192}, 16, api.ErrMany}, {[]int{5}, 15, api.ErrArg}, {[]int{5}, 4097, api.ErrArg}, {nil, math.MinInt, api.ErrArg}, {nil, math.MaxInt, api.ErrArg},
		{[]int{8191, 1}, 4096, api.OK}, {make([]int, 16), 16, api.OK},
	} {
		l, e := split.Pieces(c.sizes, c.block)
		if e != c.e || e != api.OK && l != nil {
			t.Error(i, l, e)
		}
		if c.e == api.ErrArg || c.e == api.OK {
			continue
		}
		if m, e := split.Missing(c.sizes, make([]api.Piece, 601)); e != c.e || m != nil {
			t.Error(i, m, e)
		}
	}
}

func TestCut(t *testing.T) {
	l := members(1, 100, 0, 16, 33)
	before := members(1, 100, 0, 16, 33)
	for _, block := range []int{16, 17, 32, 100, 4096} {
		parts := cut(t, l, block)
		want, _ := split.Pieces([]int{100, 0, 16, 33}, block)
		if !slices.Equal(piecesOf(parts), want) {
			t.Fatal(block, parts)
		}
		for _, p := range parts {
			if !bytes.Equal(p.Data, l[p.Piece.Member].Data[p.Piece.Offset:p.Piece.Offset+p.Piece.Raw]) {
				t.Fatal(block, p)
			}
			p.Data[0]++
			_ = append(p.Data, 99)
		}
		if !sameMembers(l, before) {
			t.Fatal("memory is shared")
		}
	}
	for i, c := range []struct {
		l     []api.Member
		block int
		e     api.Errno
	}{
		{members(1, 8193), 0, api.ErrMany}, {[]api.Member{{Name: ""}}, 0, api.ErrBad}, {[]api.Member{{Name: "a"}, {Name: "a"}}, 0, api.ErrTwice},
		{l, 15, api.ErrArg}, {l, 4097, api.ErrArg},
	} {
		if p, e := split.Cut(c.l, c.block); e != c.e || p != nil {
			t.Error(i, e)
		}
	}
}

func TestPut(t *testing.T) {
	r := rand.New(rand.NewSource(2))
	for seed := range int64(50) {
		l := members(seed, r.Intn(200), 0, r.Intn(100), 50)
		parts := cut(t, l, 16+r.Intn(40))
		for range r.Intn(4) {
			parts = append(parts, parts[r.Intn(len(parts))])
		}
		// Another cut of the same bytes agrees, too.
		parts = append(parts, cut(t, l, 16+r.Intn(40))[:2]...)
		r.Shuffle(len(parts), func(i, k int) { parts[i], parts[k] = parts[k], parts[i] })
		got, e := split.Put(records(t, l), parts)
		if e != api.OK || !sameMembers(got, l) {
			t.Fatal(seed, e)
		}
		parts[0].Data[0]++
		if !sameMembers(got, l) {
			t.Fatal("memory is shared")
		}
	}
	if got, e := split.Put(nil, nil); e != api.OK || len(got) != 0 {
		t.Error(got, e)
	}
}

func TestWithoutOnePart(t *testing.T) {
	l := members(3, 70, 20, 16)
	all := cut(t, l, 16)
	for i := range all {
		rest := slices.Concat(all[:i], all[i+1:])
		if got, e := split.Put(records(t, l), rest); e != api.ErrLost || got != nil {
			t.Fatal(i, e)
		}
		m, e := split.Missing([]int{70, 20, 16}, piecesOf(rest))
		if e != api.OK || !slices.Equal(m, []api.Piece{all[i].Piece}) {
			t.Fatal(i, m, e)
		}
		if m, e := split.Missing([]int{70, 20, 16}, append(piecesOf(rest), m...)); e != api.OK || len(m) != 0 {
			t.Fatal(i, m, e)
		}
	}
}

func TestMissing(t *testing.T) {
	r := rand.New(rand.NewSource(4))
	for range 500 {
		sizes := []int{r.Intn(60), r.Intn(60), r.Intn(60)}
		var pieces []api.Piece
		for range r.Intn(6) {
			i := r.Intn(3)
			if sizes[i] == 0 {
				continue
			}
			offset := r.Intn(sizes[i])
			pieces = append(pieces, api.Piece{Member: i, Offset: offset, Raw: 1 + r.Intn(sizes[i]-offset)})
		}
		var want []api.Piece
		for i, size := range sizes {
			last := false
			for at := range size {
				is := slices.ContainsFunc(pieces, func(p api.Piece) bool { return p.Member == i && p.Offset <= at && at < p.Offset+p.Raw })
				if !is && last {
					want[len(want)-1].Raw++
				} else if !is {
					want = append(want, api.Piece{Member: i, Offset: at, Raw: 1})
				}
				last = !is
			}
		}
		before := slices.Clone(pieces)
		if m, e := split.Missing(sizes, pieces); e != api.OK || !slices.Equal(m, want) || !slices.Equal(before, pieces) {
			t.Fatal(sizes, pieces, m, want, e)
		}
	}
}

func TestInvalidPieces(t *testing.T) {
	l := members(5, 30, 0)
	for i, p := range []api.Piece{
		{Member: -1, Raw: 1}, {Member: 2, Raw: 1}, {Member: 1, Raw: 1}, {Offset: -1, Raw: 1}, {Raw: 0}, {Raw: -1}, {Raw: 31}, {Offset: 30, Raw: 1}, {Offset: 15, Raw: 16},
		{Offset: math.MaxInt, Raw: 1}, {Offset: 1, Raw: math.MaxInt}, {Offset: math.MaxInt, Raw: math.MaxInt}, {Offset: math.MinInt, Raw: 5}, {Member: math.MaxInt, Raw: 1},
	} {
		if m, e := split.Missing([]int{30, 0}, []api.Piece{{Raw: 30}, p}); e != api.ErrBad || m != nil {
			t.Error(i, m, e)
		}
		part := api.Part{Piece: p, Data: make([]byte, max(0, min(p.Raw, 100)))}
		if got, e := split.Put(records(t, l), []api.Part{part}); e != api.ErrBad || got != nil {
			t.Error(i, e)
		}
	}
	many := slices.Repeat([]api.Piece{{Raw: 30}}, 601)
	if m, e := split.Missing([]int{30}, many[1:]); e != api.OK || len(m) != 0 {
		t.Error(m, e)
	}
	many[5].Raw = 0
	if m, e := split.Missing([]int{30}, many); e != api.ErrMany || m != nil {
		t.Error(m, e)
	}
}

func TestPutErrors(t *testing.T) {
	l := members(6, 40, 20)
	good := records(t, l)
	all := cut(t, l, 16)
	part := func(i, offset int, data ...byte) api.Part {
		return api.Part{Piece: api.Piece{Member: i, Offset: offset, Raw: len(data)}, Data: data}
	}
	long := part(0, 0, 1, 2)
	long.Data = append(long.Data, 3)
	wrong := slices.Clone(good)
	wrong[1].Sum[3]++
	differs := part(1, 3, l[1].Data[3], l[1].Data[4]+1)
	for i, c := range []struct {
		l     []api.Record
		parts []api.Part
		e     api.Errno
	}{
		{make([]api.Record, 17), make([]api.Part, 700), api.ErrMany}, {[]api.Record{{Name: "a"}}, nil, api.ErrBad}, {append(good[:1:1], good[0]), nil, api.ErrTwice},
		{good, make([]api.Part, 601), api.ErrMany}, {good, append(slices.Clone(all), long), api.ErrBad}, {good, append(slices.Clone(all), api.Part{Piece: api.Piece{Raw: 3}}), api.ErrBad},
		{good, append(slices.Clone(all), differs, part(2, 0, 1)), api.ErrBad}, {good, append(slices.Clone(all), differs), api.ErrTwice}, {good, append(slices.Clone(all[1:]), differs), api.ErrTwice},
		{good, all[1:], api.ErrLost}, {wrong, all[1:], api.ErrLost}, {good, nil, api.ErrLost}, {wrong, all, api.ErrSum},
	} {
		if got, e := split.Put(c.l, c.parts); e != c.e || got != nil {
			t.Error(i, e)
		}
	}
	if got, e := split.Put(good, append(slices.Clone(all), part(1, 3, l[1].Data[3], l[1].Data[4]))); e != api.OK || !reflect.DeepEqual(got, l) {
		t.Error(e)
	}
}
