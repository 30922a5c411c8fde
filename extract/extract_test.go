package extract_test

import (
	"bytes"
	"math"
	"math/rand"
	"slices"
	"strings"
	"testing"

	"bitloft/api"
	"bitloft/block"
	"bitloft/extract"
	"bitloft/header"
	"bitloft/list"
	"bitloft/pack"
)

var settings = api.Settings{Level: 2, Block: 64}

func sample() []api.Member {
	noise := make([]byte, 150)
	rand.New(rand.NewSource(1)).Read(noise)
	return []api.Member{
		{Name: "text", Data: []byte(strings.Repeat("some easy text, ", 20))}, {Name: "none"}, {Name: "noise", Data: noise},
	}
}

func archive(t *testing.T, s api.Settings, l []api.Member) []byte {
	t.Helper()
	b, e := pack.Pack(s, l)
	if e != api.OK {
		t.Fatal(e)
	}
	return b
}

func placesOf(t *testing.T, b []byte) []int {
	t.Helper()
	l, e := list.List(b)
	if e != api.OK {
		t.Fatal(e)
	}
	p, _ := list.Places(l)
	return p
}

func same(a, b []api.Member) bool {
	return slices.EqualFunc(a, b, func(x, y api.Member) bool { return x.Name == y.Name && bytes.Equal(x.Data, y.Data) })
}

func TestExtractedIsWhatWasPacked(t *testing.T) {
	for _, s := range []api.Settings{settings, {Level: 0, Block: 16}, {Level: 7, Block: 4096}, {Level: 5, Block: 100}} {
		b := archive(t, s, sample())
		before := bytes.Clone(b)
		got, e := extract.Extract(b)
		if e != api.OK || !same(got, sample()) {
			t.Fatal(s, e)
		}
		if again := archive(t, s, got); !bytes.Equal(again, b) {
			t.Fatal("packed again it is another archive", s)
		}
		for i, m := range sample() {
			one, e := extract.One(b, m.Name)
			if e != api.OK || !same([]api.Member{one}, got[i:i+1]) {
				t.Fatal(s, m.Name, e)
			}
			ranges(t, b, m)
		}
		for i := range got {
			for k := range got[i].Data {
				got[i].Data[k]++
			}
		}
		if !bytes.Equal(b, before) {
			t.Fatal("the argument was changed")
		}
	}
}

func ranges(t *testing.T, b []byte, m api.Member) {
	t.Helper()
	r := rand.New(rand.NewSource(2))
	for range 12 {
		to := r.Intn(len(m.Data) + 1)
		from := r.Intn(to + 1)
		if r.Intn(3) == 0 {
			from, to = from/64*64, to/64*64
		}
		if got, e := extract.Range(b, m.Name, from, to); e != api.OK || !bytes.Equal(got, m.Data[from:to]) {
			t.Fatal(m.Name, from, to, e)
		}
	}
	if got, e := extract.Range(b, m.Name, 0, len(m.Data)); e != api.OK || !bytes.Equal(got, m.Data) {
		t.Fatal(m.Name, e)
	}
	n := len(m.Data)
	for _, c := range [][2]int{{-1, 0}, {0, n + 1}, {n + 1, n + 1}, {1, 0}, {math.MinInt, 0}, {0, math.MaxInt}, {math.MaxInt, math.MinInt}} {
		if got, e := extract.Range(b, m.Name, c[0], c[1]); e != api.ErrArg || got != nil {
			t.Fatal(m.Name, c, e)
		}
	}
}

func TestExamples(t *testing.T) {
	none := archive(t, settings, nil)
	if l, e := extract.Extract(none); e != api.OK || len(l) != 0 {
		t.Error(l, e)
	}
	if m, e := extract.One(none, "a"); e != api.ErrNone || m.Name != "" || m.Data != nil {
		t.Error(m, e)
	}
	b := archive(t, settings, []api.Member{{Name: "a", Data: []byte{7, 8, 9}}})
	if r, e := extract.Range(b, "a", 1, 3); e != api.OK || !bytes.Equal(r, []byte{8, 9}) {
		t.Error(r, e)
	}
	if r, e := extract.Range(b, "a", 3, 3); e != api.OK || len(r) != 0 {
		t.Error(r, e)
	}
	if r, e := extract.Range(b, "a", 1, 4); e != api.ErrArg || r != nil {
		t.Error(r, e)
	}
	if r, e := extract.Range(b, "b", -1, 4); e != api.ErrNone || r != nil {
		t.Error(r, e)
	}
}

func TestListErrorsComeFirst(t *testing.T) {
	good := archive(t, settings, sample())
	for i, c := range []struct {
		b []byte
		e api.Errno
	}{{nil, api.ErrShort}, {append(bytes.Clone(good), 0), api.ErrForm}, {good[:len(good)-1], api.ErrShort}, {make([]byte, api.MaxArchive+1), api.ErrMany}, {append([]byte("X"), good...), api.ErrForm}} {
		if l, e := extract.Extract(c.b); e != c.e || l != nil {
			t.Error(i, e)
		}
		if m, e := extract.One(c.b, ""); e != c.e || m.Data != nil {
			t.Error(i, e)
		}
		if r, e := extract.Range(c.b, "", -1, -2); e != c.e || r != nil {
			t.Error(i, e)
		}
	}
}

// harmed has other bytes in some blocks: the block's digest is wrong there, or it has no raw bytes.
func harmed(t *testing.T, b []byte, blocks ...int) []byte {
	t.Helper()
	b = bytes.Clone(b)
	places := placesOf(t, b)
	for _, i := range blocks {
		b[places[i]+41]++
	}
	return b
}

func TestBlocksWithoutRawBytes(t *testing.T) {
	good := archive(t, settings, sample())
	l, _ := list.List(good)
	if l.Heads[0].Mode != api.ModeCoded || l.Heads[5].Mode != api.ModeStored || l.Heads[5].Member != 2 {
		t.Fatal(l.Heads)
	}
	first, _ := list.Block(harmed(t, good, 0), 0)
	_, coded := block.Raw(2, first)
	if coded == api.OK {
		t.Fatal("not harmed")
	}
	for i, c := range []struct {
		blocks []int
		all    api.Errno
		text   api.Errno
		noise  api.Errno
	}{
		{[]int{0}, coded, coded, api.OK}, {[]int{5}, api.ErrSum, api.OK, api.ErrSum}, {[]int{6}, api.ErrSum, api.OK, api.ErrSum},
		{[]int{0, 5}, coded, coded, api.ErrSum}, {[]int{5, 6, 7}, api.ErrSum, api.OK, api.ErrSum},
	} {
		b := harmed(t, good, c.blocks...)
		got, e := extract.Extract(b)
		if e != c.all || got != nil {
			t.Error(i, e)
		}
		text, e := extract.One(b, "text")
		if e != c.text || e == api.OK && !bytes.Equal(text.Data, sample()[0].Data) || e != api.OK && (text.Data != nil || text.Name != "") {
			t.Error(i, e)
		}
		noise, e := extract.One(b, "noise")
		if e != c.noise || e == api.OK && !bytes.Equal(noise.Data, sample()[2].Data) {
			t.Error(i, e)
		}
		if none, e := extract.One(b, "none"); e != api.OK || none.Name != "none" || len(none.Data) != 0 {
			t.Error(i, e)
		}
	}
	b := harmed(t, good, 6)
	for _, c := range []struct {
		from, to int
		e        api.Errno
	}{{0, 64, api.OK}, {0, 65, api.ErrSum}, {127, 128, api.ErrSum}, {128, 150, api.OK}, {64, 64, api.OK}, {100, 100, api.OK}, {63, 64, api.OK}, {100, 101, api.ErrSum}} {
		if r, e := extract.Range(b, "noise", c.from, c.to); e != c.e || e == api.OK && !bytes.Equal(r, sample()[2].Data[c.from:c.to]) || e != api.OK && r != nil {
			t.Error(c, e)
		}
	}
}

// replaced is an archive with another block, which is right, in the place of one of its stored blocks.
func replaced(t *testing.T, b []byte, i int) []byte {
	t.Helper()
	x, e := list.Block(b, i)
	if e != api.OK || x.Head.Mode != api.ModeStored {
		t.Fatal(e)
	}
	x.Bytes[0]++
	x.Head, _ = header.Seal(x.Head, x.Bytes)
	w, _ := block.Write(x)
	at := placesOf(t, b)[i]
	return slices.Concat(b[:at], w, b[at+len(w):])
}

func TestDigestOfAMember(t *testing.T) {
	b := replaced(t, archive(t, settings, sample()), 5)
	if l, e := extract.Extract(b); e != api.ErrSum || l != nil {
		t.Error(e)
	}
	if m, e := extract.One(b, "noise"); e != api.ErrSum || m.Data != nil || m.Name != "" {
		t.Error(e)
	}
	if _, e := extract.One(b, "text"); e != api.OK {
		t.Error(e)
	}
	want := bytes.Clone(sample()[2].Data)
	want[0]++
	if r, e := extract.Range(b, "noise", 0, 150); e != api.OK || !bytes.Equal(r, want) {
		t.Error(e)
	}
}
