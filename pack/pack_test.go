package pack_test

import (
	"bytes"
	"crypto/sha1"
	"math"
	"math/rand"
	"reflect"
	"strings"
	"testing"

	"bitloft/api"
	"bitloft/block"
	"bitloft/member"
	"bitloft/pack"
	"bitloft/split"
)

func noise(seed int64, n int) []byte {
	b := make([]byte, n)
	rand.New(rand.NewSource(seed)).Read(b)
	return b
}

func sample() []api.Member {
	return []api.Member{
		{Name: "text", Data: []byte(strings.Repeat("some easy text, ", 20))}, {Name: "none"},
		{Name: "noise", Data: noise(1, 150)}, {Name: "zeros", Data: make([]byte, 500)},
	}
}

func TestCheck(t *testing.T) {
	for _, s := range []api.Settings{{Level: 0, Block: 16}, {Level: 7, Block: 4096}, {Level: 3, Block: 1000}} {
		if e := pack.Check(s); e != api.OK {
			t.Error(s, e)
		}
	}
	for _, s := range []api.Settings{{}, {Level: -1, Block: 16}, {Level: 8, Block: 16}, {Block: 15}, {Block: 4097}, {Block: math.MinInt}, {Block: math.MaxInt}, {Level: math.MaxInt, Block: 16}} {
		if e := pack.Check(s); e != api.ErrArg {
			t.Error(s, e)
		}
		bad := make([]api.Member, 20)
		if b, e := pack.Head(s, make([]api.Record, 20)); e != api.ErrArg || b != nil {
			t.Error(s, e)
		}
		if l, e := pack.Blocks(s, bad); e != api.ErrArg || l != nil {
			t.Error(s, e)
		}
		if b, e := pack.Pack(s, bad); e != api.ErrArg || b != nil {
			t.Error(s, e)
		}
		if n, e := pack.Longest(s, make([]api.Record, 20)); e != api.ErrArg || n != 0 {
			t.Error(s, e)
		}
	}
}

func TestExamples(t *testing.T) {
	front := []byte{66, 76, 70, 1, 2, 0, 16, 0}
	sum := sha1.Sum(front)
	none, e := pack.Pack(api.Settings{Level: 2, Block: 16}, nil)
	if e != api.OK || !bytes.Equal(none, append(front, sum[:]...)) {
		t.Error(none, e)
	}
	one, e := pack.Pack(api.Settings{Level: 2, Block: 16}, []api.Member{{Name: "a", Data: []byte{7}}})
	if e != api.OK || len(one) != 94 {
		t.Error(len(one), e)
	}
	if n, e := pack.Longest(api.Settings{Level: 2, Block: 16}, nil); e != api.OK || n != 28 {
		t.Error(n, e)
	}
}

func TestHead(t *testing.T) {
	records, _ := member.Of(sample())
	table, _ := member.Write(records)
	want := append([]byte{66, 76, 70, 1, 5, 3, 232, 4}, table...)
	sum := sha1.Sum(want)
	if b, e := pack.Head(api.Settings{Level: 5, Block: 1000}, records); e != api.OK || !bytes.Equal(b, append(want, sum[:]...)) {
		t.Error(b, e)
	}
}

func TestBlocks(t *testing.T) {
	for _, s := range []api.Settings{{Level: 0, Block: 16}, {Level: 2, Block: 33}, {Level: 7, Block: 4096}} {
		l := sample()
		parts, _ := split.Cut(l, s.Block)
		var want []api.Block
		for _, p := range parts {
			b, e := block.Make(s.Level, p.Piece.Member, p.Piece.Offset, p.Data)
			if e != api.OK {
				t.Fatal(e)
			}
			want = append(want, b)
		}
		got, e := pack.Blocks(s, l)
		if e != api.OK || !reflect.DeepEqual(got, want) {
			t.Fatal(s, e)
		}
		for i := range got {
			got[i].Bytes[0]++
		}
		if !reflect.DeepEqual(l, sample()) {
			t.Fatal("memory is shared")
		}
	}
}

func TestPack(t *testing.T) {
	for _, s := range []api.Settings{{Level: 0, Block: 16}, {Level: 4, Block: 100}, {Level: 6, Block: 512}, {Level: 1, Block: 4096}} {
		l := sample()
		records, _ := member.Of(l)
		want, _ := pack.Head(s, records)
		blocks, _ := pack.Blocks(s, l)
		stored := true
		for _, b := range blocks {
			w, _ := block.Write(b)
			want = append(want, w...)
			stored = stored && b.Head.Mode == api.ModeStored
		}
		for range 3 {
			if b, e := pack.Pack(s, l); e != api.OK || !bytes.Equal(b, want) {
				t.Fatal(s, e)
			}
		}
		longest(t, s, l, len(want), len(blocks), stored)
	}
	stored := []api.Member{{Name: "n", Data: noise(3, 100)}, {Name: "m", Data: noise(4, 7)}}
	s := api.Settings{Level: 3, Block: 40}
	b, _ := pack.Pack(s, stored)
	longest(t, s, stored, len(b), 4, true)
}

func longest(t *testing.T, s api.Settings, l []api.Member, length, blocks int, stored bool) {
	t.Helper()
	records, _ := member.Of(l)
	bytes, names := 0, 0
	for _, r := range records {
		bytes, names = bytes+r.Size, names+len(r.Name)
	}
	want := 28 + 23*len(l) + names + 41*blocks + bytes
	n, e := pack.Longest(s, records)
	if e != api.OK || n != want || length > n || (length == n) != stored || n > bytes+64*blocks+32*len(l)+names+32 {
		t.Error(s, n, want, length, stored, e)
	}
}

func TestErrors(t *testing.T) {
	s := api.Settings{Level: 1, Block: 64}
	for i, c := range []struct {
		l []api.Member
		e api.Errno
	}{
		{make([]api.Member, 17), api.ErrMany}, {[]api.Member{{Name: "a", Data: make([]byte, 8193)}}, api.ErrMany},
		{[]api.Member{{Name: " "}}, api.ErrBad}, {[]api.Member{{Name: "a"}, {Name: "a"}}, api.ErrTwice},
	} {
		if l, e := pack.Blocks(s, c.l); e != c.e || l != nil {
			t.Error(i, e)
		}
		if b, e := pack.Pack(s, c.l); e != c.e || b != nil {
			t.Error(i, e)
		}
	}
	sum := api.Sum(sha1.Sum(nil))
	for i, c := range []struct {
		l []api.Record
		e api.Errno
	}{
		{make([]api.Record, 17), api.ErrMany}, {[]api.Record{{Name: "a"}}, api.ErrBad}, {[]api.Record{{Name: "a", Size: 8192}, {Name: "b", Size: 1}}, api.ErrMany},
		{[]api.Record{{Name: "a", Sum: sum}, {Name: "a", Sum: sum}}, api.ErrTwice},
	} {
		if b, e := pack.Head(s, c.l); e != c.e || b != nil {
			t.Error(i, e)
		}
		if n, e := pack.Longest(s, c.l); e != c.e || n != 0 {
			t.Error(i, e)
		}
	}
}

func TestMostBlocks(t *testing.T) {
	var l []api.Member
	for i := range 16 {
		l = append(l, api.Member{Name: string(rune('a' + i)), Data: noise(int64(i), 511)})
	}
	b, e := pack.Pack(api.Settings{Level: 0, Block: 16}, l)
	if want := 28 + 16*24 + 512*41 + 16*511; e != api.OK || len(b) != want || len(b) > api.MaxArchive {
		t.Error(len(b), want, e)
	}
}
