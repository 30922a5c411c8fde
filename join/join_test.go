package join_test

import (
	"bytes"
	"math/rand"
	"slices"
	"strings"
	"testing"

	"bitloft/api"
	"bitloft/block"
	"bitloft/extract"
	"bitloft/header"
	"bitloft/join"
	"bitloft/list"
	"bitloft/member"
	"bitloft/pack"
)

var (
	s1 = api.Settings{Level: 1, Block: 32}
	s2 = api.Settings{Level: 4, Block: 100}
)

func noise(seed int64, n int) []byte {
	b := make([]byte, n)
	rand.New(rand.NewSource(seed)).Read(b)
	return b
}

func of(name string) api.Member {
	return api.Member{Name: name, Data: append([]byte(strings.Repeat(name+" is here. ", 9)), noise(int64(len(name)), 20)...)}
}

func archive(t *testing.T, s api.Settings, l ...api.Member) []byte {
	t.Helper()
	b, e := pack.Pack(s, l)
	if e != api.OK {
		t.Fatal(e)
	}
	return b
}

func is(t *testing.T, what string, got []byte, e api.Errno, want []byte) {
	t.Helper()
	if e != api.OK || !bytes.Equal(got, want) {
		t.Error(what, e)
	}
}

func TestExample(t *testing.T) {
	ab := archive(t, s1, of("a"), of("b"))
	all, e := join.Join(ab, archive(t, s1, of("c")))
	if e != api.OK {
		t.Fatal(e)
	}
	if n, e := join.Names(all); e != api.OK || !slices.Equal(n, []string{"a", "b", "c"}) {
		t.Error(n, e)
	}
	if b, e := join.Join(ab, ab); e != api.ErrTwice || b != nil {
		t.Error(e)
	}
	b, e := join.Drop(ab, "a")
	if e != api.OK {
		t.Fatal(e)
	}
	b, e = join.Rename(b, "b", "a")
	is(t, "renamed", b, e, archive(t, s1, api.Member{Name: "a", Data: of("b").Data}))
}

func TestJoin(t *testing.T) {
	a, b, c := archive(t, s1, of("x"), api.Member{Name: "none"}), archive(t, s2, of("yy")), archive(t, s1, of("zzz"))
	none := archive(t, s2)
	before := bytes.Clone(a)
	ab, e := join.Join(a, b)
	is(t, "both", ab, e, archive(t, s1, of("x"), api.Member{Name: "none"}, of("yy")))
	ba, e := join.Join(b, a)
	is(t, "other settings", ba, e, archive(t, s2, of("yy"), of("x"), api.Member{Name: "none"}))
	left, e := join.Join(ab, c)
	bc, f := join.Join(b, c)
	if e != api.OK || f != api.OK {
		t.Fatal(e, f)
	}
	right, e := join.Join(a, bc)
	is(t, "three", left, e, right)
	same, e := join.Join(a, none)
	is(t, "with none", same, e, a)
	if !bytes.Equal(a, before) {
		t.Error("an argument was changed")
	}
}

func TestPutDropRename(t *testing.T) {
	a := archive(t, s1, of("x"), of("yy"))
	before := bytes.Clone(a)
	m := of("zzz")
	put, e := join.Put(a, m)
	is(t, "put", put, e, archive(t, s1, of("x"), of("yy"), of("zzz")))
	dropped, e := join.Drop(put, "zzz")
	is(t, "dropped", dropped, e, a)
	middle, e := join.Drop(put, "yy")
	is(t, "dropped in the middle", middle, e, archive(t, s1, of("x"), of("zzz")))
	there, e := join.Rename(put, "x", "other")
	is(t, "renamed", there, e, archive(t, s1, api.Member{Name: "other", Data: of("x").Data}, of("yy"), of("zzz")))
	back, e := join.Rename(there, "other", "x")
	is(t, "renamed back", back, e, put)
	same, e := join.Rename(put, "x", "x")
	is(t, "the same name", same, e, put)
	if !bytes.Equal(a, before) || !bytes.Equal(m.Data, of("zzz").Data) {
		t.Error("an argument was changed")
	}
}

func TestRepack(t *testing.T) {
	a := archive(t, s1, of("x"), of("yy"))
	other, e := join.Repack(a, s2)
	is(t, "other settings", other, e, archive(t, s2, of("x"), of("yy")))
	back, e := join.Repack(other, s1)
	is(t, "back", back, e, a)
	same, e := join.Repack(a, s1)
	is(t, "the same settings", same, e, a)
	for _, s := range []api.Settings{{}, {Level: 8, Block: 64}, {Block: 4097}} {
		if b, e := join.Repack(a, s); e != api.ErrArg || b != nil {
			t.Error(s, e)
		}
	}
}

func TestErrors(t *testing.T) {
	a := archive(t, s1, of("x"), of("yy"))
	var sixteen []api.Member
	for i := range 16 {
		sixteen = append(sixteen, api.Member{Name: strings.Repeat("n", i+1)})
	}
	full := archive(t, s1, sixteen...)
	wide := archive(t, api.Settings{Block: 4096}, api.Member{Name: "w", Data: noise(1, 8192)})
	for i, c := range []struct {
		b []byte
		m api.Member
		e api.Errno
	}{
		{a, of("x"), api.ErrTwice}, {a, api.Member{}, api.ErrBad}, {a, api.Member{Name: "z", Data: make([]byte, 8192)}, api.ErrMany}, {full, of("z"), api.ErrMany},
		{wide, api.Member{Name: "z", Data: []byte{1}}, api.ErrMany}, {a, api.Member{Name: "", Data: make([]byte, 8192)}, api.ErrMany},
	} {
		if b, e := join.Put(c.b, c.m); e != c.e || b != nil {
			t.Error(i, e)
		}
	}
	if b, e := join.Put(wide, api.Member{Name: "z"}); e != api.OK || len(b) != len(wide)+24 {
		t.Error(e)
	}
	for i, c := range []struct {
		a, b []byte
		e    api.Errno
	}{{full, a, api.ErrMany}, {a, full, api.ErrMany}, {wide, a, api.ErrMany}, {a, archive(t, s2, of("x")), api.ErrTwice}, {nil, full[1:], api.ErrShort}, {a, nil, api.ErrShort}, {a[1:], nil, api.ErrForm}} {
		if b, e := join.Join(c.a, c.b); e != c.e || b != nil {
			t.Error(i, e)
		}
	}
	for _, name := range []string{"", "y", "z z"} {
		if b, e := join.Drop(a, name); e != api.ErrNone || b != nil {
			t.Error(e)
		}
		if b, e := join.Rename(a, name, ""); e != api.ErrNone || b != nil {
			t.Error(e)
		}
	}
	if b, e := join.Rename(a, "x", "yy"); e != api.ErrTwice || b != nil {
		t.Error(e)
	}
	if b, e := join.Rename(a, "x", "a b"); e != api.ErrBad || b != nil {
		t.Error(e)
	}
}

func TestExtractErrorsComeFirst(t *testing.T) {
	a := archive(t, s1, api.Member{Name: "n", Data: noise(2, 60)})
	harmed := bytes.Clone(a)
	harmed[len(a)-1]++
	if n, e := join.Names(harmed); e != api.OK || !slices.Equal(n, []string{"n"}) {
		t.Error(n, e)
	}
	for i, c := range []struct {
		b []byte
		e api.Errno
	}{{harmed, api.ErrSum}, {a[:len(a)-1], api.ErrShort}, {append(bytes.Clone(a), 0), api.ErrForm}, {make([]byte, api.MaxArchive+1), api.ErrMany}} {
		for k, f := range []func() ([]byte, api.Errno){
			func() ([]byte, api.Errno) { return join.Put(c.b, api.Member{}) },
			func() ([]byte, api.Errno) { return join.Drop(c.b, "?") },
			func() ([]byte, api.Errno) { return join.Rename(c.b, "?", "") },
			func() ([]byte, api.Errno) { return join.Join(c.b, nil) },
			func() ([]byte, api.Errno) { return join.Join(a, c.b) },
			func() ([]byte, api.Errno) { return join.Repack(c.b, api.Settings{}) },
		} {
			if b, e := f(); e != c.e || b != nil {
				t.Error(i, k, e)
			}
		}
		if i == 0 {
			continue
		}
		if n, e := join.Names(c.b); e != c.e || n != nil {
			t.Error(i, e)
		}
	}
}

func TestOthersAreMadeAnew(t *testing.T) {
	// Bytes that can be extracted, in which a block is stored though its code is shorter.
	m := api.Member{Name: "z", Data: make([]byte, 200)}
	packed := archive(t, api.Settings{Level: 1, Block: 200}, m)
	records, _ := member.Of([]api.Member{m})
	head, _ := pack.Head(api.Settings{Level: 1, Block: 200}, records)
	x := api.Block{Head: api.BlockHead{Mode: 1, Raw: 200, Length: 200}, Bytes: m.Data}
	x.Head, _ = header.Seal(x.Head, m.Data)
	w, _ := block.Write(x)
	stored := append(head, w...)
	if _, e := list.List(stored); e != api.OK || len(stored) <= len(packed) {
		t.Fatal(e)
	}
	if _, e := extract.Extract(stored); e != api.OK {
		t.Fatal(e)
	}
	again, e := join.Rename(stored, "z", "z")
	is(t, "made anew", again, e, packed)
}
