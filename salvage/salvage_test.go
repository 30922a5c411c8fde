package salvage_test

import (
	"bytes"
	"math"
	"math/rand"
	"reflect"
	"slices"
	"strings"
	"testing"

	"bitloft/api"
	"bitloft/block"
	"bitloft/header"
	"bitloft/list"
	"bitloft/marker"
	"bitloft/member"
	"bitloft/pack"
	"bitloft/salvage"
)

var settings = api.Settings{Level: 2, Block: 64}

func noise(seed int64, n int) []byte {
	b := make([]byte, n)
	rand.New(rand.NewSource(seed)).Read(b)
	return b
}

func sample() []api.Member {
	return []api.Member{
		{Name: "text", Data: []byte(strings.Repeat("some easy text, ", 8))}, {Name: "none"}, {Name: "noise", Data: noise(1, 150)},
	}
}

func archive(t *testing.T, s api.Settings, l []api.Member) ([]byte, []int) {
	t.Helper()
	b, e := pack.Pack(s, l)
	if e != api.OK {
		t.Fatal(e)
	}
	listing, _ := list.List(b)
	places, _ := list.Places(listing)
	return b, places
}

func records(t *testing.T, l []api.Member) []api.Record {
	t.Helper()
	r, e := member.Of(l)
	if e != api.OK {
		t.Fatal(e)
	}
	return r
}

func found(t *testing.T, level int, b []byte) []api.Found {
	t.Helper()
	before := bytes.Clone(b)
	f, e := salvage.Salvage(level, b)
	if e != api.OK || !bytes.Equal(before, b) {
		t.Fatal(e)
	}
	return f
}

func at(l []api.Found) []int {
	var a []int
	for _, f := range l {
		a = append(a, f.At)
	}
	return a
}

func same(a, b []api.Member) bool {
	return slices.EqualFunc(a, b, func(x, y api.Member) bool { return x.Name == y.Name && bytes.Equal(x.Data, y.Data) })
}

func TestUndamaged(t *testing.T) {
	for _, s := range []api.Settings{settings, {Level: 0, Block: 16}, {Level: 7, Block: 4096}} {
		b, places := archive(t, s, sample())
		f := found(t, s.Level, b)
		if !slices.Equal(at(f), places) {
			t.Fatal(s, at(f), places)
		}
		for i := range f {
			x, _ := list.Block(b, i)
			raw, _ := block.Raw(s.Level, x)
			if f[i].Head != x.Head || !bytes.Equal(f[i].Data, raw) {
				t.Fatal(s, i)
			}
		}
		m, whole, e := salvage.Rebuild(records(t, sample()), f)
		if e != api.OK || !same(m, sample()) || !slices.Equal(whole, []bool{true, true, true}) {
			t.Fatal(s, whole, e)
		}
		for i := range f {
			f[i].Data[0]++
		}
		if !same(m, sample()) {
			t.Fatal("memory is shared")
		}
	}
}

func TestExample(t *testing.T) {
	a := []api.Member{{Name: "a", Data: []byte{7}}}
	b, _ := archive(t, settings, a)
	f := found(t, 2, b)
	if len(f) != 1 || f[0].At != 52 || !bytes.Equal(f[0].Data, []byte{7}) {
		t.Error(f)
	}
	if f := found(t, 2, append(make([]byte, 10), b...)); len(f) != 1 || f[0].At != 62 {
		t.Error(f)
	}
	b[93] = 8
	f = found(t, 2, b)
	m, whole, e := salvage.Rebuild(records(t, a), f)
	if len(f) != 0 || e != api.OK || !same(m, []api.Member{{Name: "a", Data: []byte{0}}}) || !slices.Equal(whole, []bool{false}) {
		t.Error(f, m, whole, e)
	}
}

func TestDamaged(t *testing.T) {
	b, places := archive(t, settings, sample())
	part := func(i int) []byte {
		end := append(slices.Clone(places), len(b))
		return b[places[i]:end[i+1]]
	}
	spoiled := bytes.Clone(part(1))
	spoiled[40]++
	inner := append(marker.Bytes(), part(3)...)
	for i, c := range []struct {
		b    []byte
		want []int
	}{
		{slices.Concat(part(2), part(0), []byte("rest"), part(4)), []int{0, len(part(2)), len(part(2)) + len(part(0)) + 4}},
		{slices.Concat(spoiled, part(3)), []int{len(spoiled)}},
		{slices.Concat(inner, part(0)), []int{13, 13 + len(part(3))}},
		{slices.Concat(part(0), part(0)), []int{0, len(part(0))}},
		{part(0)[:len(part(0))-1], nil}, {part(0)[1:], nil}, {nil, nil}, {bytes.Repeat(marker.Bytes(), 100), nil},
		{slices.Concat(part(2)[:50], part(3)), []int{50}},
	} {
		if f := found(t, 2, c.b); !slices.Equal(at(f), c.want) {
			t.Error(i, at(f), c.want)
		}
	}
	// Blocks that were coded with another level have no raw bytes with this one.
	if f := found(t, 3, b); !slices.Equal(at(f), places[2:]) {
		t.Error(at(f), places)
	}
}

func TestLookingGoesOnBehindABlock(t *testing.T) {
	inner, _ := block.Make(2, 0, 5, []byte("x"))
	w, _ := block.Write(inner)
	outer := api.Block{Head: api.BlockHead{Mode: 1, Raw: len(w), Length: len(w)}, Bytes: w}
	outer.Head, _ = header.Seal(outer.Head, w)
	b, _ := block.Write(outer)
	if f := found(t, 2, b); len(f) != 1 || f[0].At != 0 || !bytes.Equal(f[0].Data, w) {
		t.Error(at(f))
	}
	// Where the outer one is not found, the inner one is.
	b[20]++
	b[len(b)-1]++
	if f := found(t, 2, b); len(f) != 0 {
		t.Error(at(f))
	}
	b[len(b)-1]--
	if f := found(t, 2, b); len(f) != 1 || f[0].At != 41 || string(f[0].Data) != "x" {
		t.Error(at(f))
	}
}

// piece is something found, with a right header.
func piece(t *testing.T, member, offset int, data string) api.Found {
	t.Helper()
	h, e := header.Seal(api.BlockHead{Mode: 1, Member: member, Offset: offset, Raw: len(data), Length: len(data)}, []byte(data))
	if e != api.OK {
		t.Fatal(e)
	}
	return api.Found{At: 3, Head: h, Data: []byte(data)}
}

func TestPartsThatFit(t *testing.T) {
	l := records(t, []api.Member{{Name: "a", Data: []byte("abcdefgh")}, {Name: "b", Data: []byte("xyz")}, {Name: "e"}})
	p := func(member, offset int, data string) api.Found { return piece(t, member, offset, data) }
	f := []api.Found{
		p(0, 2, "cde"), p(0, 4, "eF"), p(0, 4, "fg"), p(0, 5, "fghi"), p(1, 0, "xy"), p(3, 0, "q"), p(2, 0, "q"), p(0, 3, "de"), p(1, 1, "zz"),
		p(0, 6, "gh"), p(1, 2, "z"), p(0, 2, "cdx"), p(1, 0, "xy"), p(0, 8, "i"), p(0, 0, "ab"),
	}
	want := []api.Found{f[0], f[1], f[4], f[7], f[9], f[10], f[12], f[14]}
	var parts []api.Part
	for _, one := range want {
		parts = append(parts, api.Part{Piece: api.Piece{Member: one.Head.Member, Offset: one.Head.Offset, Raw: one.Head.Raw}, Data: one.Data})
	}
	got, e := salvage.Parts(l, f)
	if e != api.OK || !reflect.DeepEqual(got, parts) {
		t.Error(got, e)
	}
	got[0].Data[0]++
	if string(f[0].Data) != "cde" {
		t.Error("memory is shared")
	}
	m, whole, e := salvage.Rebuild(l, f)
	if e != api.OK || string(m[0].Data) != "abcdeFgh" || string(m[1].Data) != "xyz" || len(m[2].Data) != 0 || !slices.Equal(whole, []bool{false, true, true}) {
		t.Error(m, whole, e)
	}
	m, whole, e = salvage.Rebuild(l, f[4:11])
	if e != api.OK || string(m[0].Data) != "\x00\x00\x00de\x00gh" || string(m[1].Data) != "xyz" || !slices.Equal(whole, []bool{false, true, true}) {
		t.Error(m, whole, e)
	}
	m, whole, e = salvage.Rebuild(l, nil)
	if e != api.OK || string(m[0].Data) != "\x00\x00\x00\x00\x00\x00\x00\x00" || !slices.Equal(whole, []bool{false, false, true}) || m[1].Name != "b" {
		t.Error(m, whole, e)
	}
}

func TestZerosThatAreMissing(t *testing.T) {
	// A member of zeros is not whole while a byte of it is missing, though its digest is right.
	l := records(t, []api.Member{{Name: "z", Data: make([]byte, 4)}})
	m, whole, e := salvage.Rebuild(l, []api.Found{piece(t, 0, 0, "\x00\x00\x00")})
	if e != api.OK || !bytes.Equal(m[0].Data, make([]byte, 4)) || whole[0] {
		t.Error(m, whole, e)
	}
	_, whole, e = salvage.Rebuild(l, []api.Found{piece(t, 0, 0, "\x00\x00\x00"), piece(t, 0, 2, "\x00\x00")})
	if e != api.OK || !whole[0] {
		t.Error(whole, e)
	}
}

func TestErrors(t *testing.T) {
	for _, level := range []int{-1, 8, math.MinInt, math.MaxInt} {
		if f, e := salvage.Salvage(level, make([]byte, api.MaxArchive+1)); e != api.ErrArg || f != nil {
			t.Error(level, e)
		}
	}
	if f, e := salvage.Salvage(0, make([]byte, api.MaxArchive+1)); e != api.ErrMany || f != nil {
		t.Error(e)
	}
	if f, e := salvage.Salvage(0, make([]byte, api.MaxArchive)); e != api.OK || len(f) != 0 {
		t.Error(e)
	}
	l := records(t, []api.Member{{Name: "a", Data: []byte("ab")}})
	good := piece(t, 0, 0, "ab")
	away, wrong, short, mode := good, good, good, good
	first := good
	first.At = 0
	if parts, e := salvage.Parts(l, []api.Found{first}); e != api.OK || len(parts) != 1 {
		t.Error(e)
	}
	away.At = -1
	wrong.Head.Sum[3]++
	short.Data = short.Data[:1]
	mode.Head.Mode = 3
	for i, c := range []struct {
		l []api.Record
		f []api.Found
		e api.Errno
	}{
		{make([]api.Record, 17), make([]api.Found, 700), api.ErrMany}, {[]api.Record{{Name: ""}}, make([]api.Found, 700), api.ErrBad}, {append(l[:1:1], l[0]), nil, api.ErrTwice},
		{l, make([]api.Found, 601), api.ErrMany}, {l, slices.Repeat([]api.Found{good}, 600), api.OK},
		{l, []api.Found{good, away}, api.ErrBad}, {l, []api.Found{wrong}, api.ErrBad}, {l, []api.Found{good, short}, api.ErrBad}, {l, []api.Found{mode}, api.ErrBad}, {l, []api.Found{{}}, api.ErrBad},
	} {
		parts, e := salvage.Parts(c.l, c.f)
		if e != c.e || e != api.OK && parts != nil {
			t.Error(i, e)
		}
		m, whole, e := salvage.Rebuild(c.l, c.f)
		if e != c.e || e != api.OK && (m != nil || whole != nil) {
			t.Error(i, e)
		}
	}
}
