package list_test

import (
	"bytes"
	"crypto/sha1"
	"math"
	"math/rand"
	"reflect"
	"slices"
	"strings"
	"testing"

	"bitloft/api"
	"bitloft/block"
	"bitloft/list"
	"bitloft/member"
	"bitloft/pack"
)

var settings = api.Settings{Level: 2, Block: 64}

func sample() []api.Member {
	noise := make([]byte, 150)
	rand.New(rand.NewSource(1)).Read(noise)
	return []api.Member{
		{Name: "text", Data: []byte(strings.Repeat("some easy text, ", 20))}, {Name: "none"}, {Name: "noise", Data: noise},
	}
}

func archive(t *testing.T, s api.Settings, l []api.Member) []byte {
	t.Helper()
	b, e := pack.Pack(s, l)
	if e != api.OK {
		t.Fatal(e)
	}
	return b
}

func isZero(l api.Listing) bool {
	return reflect.DeepEqual(l, api.Listing{})
}

func TestListing(t *testing.T) {
	for _, s := range []api.Settings{settings, {Level: 0, Block: 16}, {Level: 7, Block: 4096}, {Level: 1, Block: 300}} {
		b := archive(t, s, sample())
		before := bytes.Clone(b)
		records, _ := member.Of(sample())
		blocks, _ := pack.Blocks(s, sample())
		head, _ := pack.Head(s, records)
		want := api.Listing{Settings: s, Records: records}
		var wantPlaces []int
		at := len(head)
		for _, x := range blocks {
			want.Heads = append(want.Heads, x.Head)
			wantPlaces = append(wantPlaces, at)
			at += 41 + x.Head.Length
		}
		gotS, gotR, n, e := list.Head(b)
		if e != api.OK || gotS != s || !slices.Equal(gotR, records) || n != len(head) {
			t.Fatal(s, gotS, n, e)
		}
		l, e := list.List(b)
		if e != api.OK || !reflect.DeepEqual(l, want) || list.Check(l) != api.OK || at != len(b) {
			t.Fatal(s, l, e)
		}
		places, e := list.Places(l)
		if e != api.OK || !slices.Equal(places, wantPlaces) {
			t.Fatal(s, places, e)
		}
		for i := range blocks {
			x, e := list.Block(b, i)
			if e != api.OK || !reflect.DeepEqual(x, blocks[i]) {
				t.Fatal(s, i, e)
			}
			w, _ := block.Write(x)
			if !bytes.HasPrefix(b[places[i]:], w) {
				t.Fatal(s, i)
			}
			x.Bytes[0]++
		}
		if !bytes.Equal(b, before) {
			t.Fatal("memory is shared")
		}
		for _, i := range []int{-1, len(blocks), math.MinInt, math.MaxInt} {
			if x, e := list.Block(b, i); e != api.ErrArg || x.Bytes != nil || x.Head != (api.BlockHead{}) {
				t.Error(i, e)
			}
		}
	}
}

func TestExamples(t *testing.T) {
	b := archive(t, api.Settings{Level: 1, Block: 16}, nil)
	l, e := list.List(b)
	if e != api.OK || len(l.Records) != 0 || len(l.Heads) != 0 || l.Settings != (api.Settings{Level: 1, Block: 16}) {
		t.Error(l, e)
	}
	if p, e := list.Places(l); e != api.OK || len(p) != 0 {
		t.Error(p, e)
	}
	if l, e := list.List(append(bytes.Clone(b), 0)); e != api.ErrForm || !isZero(l) {
		t.Error(e)
	}
	if l, e := list.List(b[:27]); e != api.ErrShort || !isZero(l) {
		t.Error(e)
	}
	b[4] = 2
	if l, e := list.List(b); e != api.ErrSum || !isZero(l) {
		t.Error(e)
	}
	if x, e := list.Block(b, 0); e != api.ErrSum || x.Bytes != nil {
		t.Error(e)
	}
}

// signed puts the right digest behind the head of an archive that was changed.
func signed(b []byte, head int) []byte {
	sum := sha1.Sum(b[:head-20])
	copy(b[head-20:], sum[:])
	return b
}

func TestHeadErrors(t *testing.T) {
	good := archive(t, settings, sample())
	_, _, size, _ := list.Head(good)
	for i, c := range []struct {
		change func(b []byte) []byte
		e      api.Errno
	}{
		{func(b []byte) []byte { return append(b, make([]byte, api.MaxArchive)...) }, api.ErrMany},
		{func(b []byte) []byte { return b[:7] }, api.ErrShort},
		{func(b []byte) []byte { return nil }, api.ErrShort},
		{func(b []byte) []byte { b[0] = 'b'; return b[:7] }, api.ErrShort},
		{func(b []byte) []byte { b[0] = 'b'; return b[:8] }, api.ErrForm},
		{func(b []byte) []byte { b[3] = 2; return signed(b, size) }, api.ErrForm},
		{func(b []byte) []byte { b[4] = 8; return signed(b, size) }, api.ErrForm},
		{func(b []byte) []byte { b[6] = 15; return signed(b, size) }, api.ErrForm},
		{func(b []byte) []byte { b[5], b[6] = 16, 1; return signed(b, size) }, api.ErrForm},
		{func(b []byte) []byte { b[7] = 17; return b }, api.ErrForm},
		{func(b []byte) []byte { b[7] = 17; return b[:8] }, api.ErrForm},
		{func(b []byte) []byte { b[7] = 16; return b[:size] }, api.ErrShort},
		{func(b []byte) []byte { return b[:8] }, api.ErrShort},
		{func(b []byte) []byte { return b[:size-20] }, api.ErrShort},
		{func(b []byte) []byte { return b[:size-1] }, api.ErrShort},
		{func(b []byte) []byte { b[9] = ' '; return b }, api.ErrForm},
		{func(b []byte) []byte { b[9] = ' '; return b[:size-1] }, api.ErrForm},
		{func(b []byte) []byte { b[9] = 'T'; return b }, api.ErrSum},
		{func(b []byte) []byte { b[9] = 'T'; return b[:size-1] }, api.ErrShort},
		{func(b []byte) []byte { b[size-1]++; return b }, api.ErrSum},
		{func(b []byte) []byte { b[size-20]++; return b }, api.ErrSum},
	} {
		b := c.change(bytes.Clone(good))
		s, r, n, e := list.Head(b)
		if e != c.e || s != (api.Settings{}) || r != nil || n != 0 {
			t.Error(i, e)
		}
		if l, e := list.List(b); e != c.e || !isZero(l) {
			t.Error(i, e)
		}
		if x, e := list.Block(b, -1); e != c.e || x.Bytes != nil {
			t.Error(i, e)
		}
	}
	whole := append(bytes.Clone(good), make([]byte, api.MaxArchive+1-len(good))...)
	if _, _, n, e := list.Head(whole[:api.MaxArchive]); e != api.OK || n != size {
		t.Error(n, e)
	}
	if _, _, n, e := list.Head(whole); e != api.ErrMany || n != 0 {
		t.Error(n, e)
	}
	if _, _, n, e := list.Head(good[:size]); e != api.OK || n != size {
		t.Error(n, e)
	}
	if _, _, n, e := list.Head(append(bytes.Clone(good), 1, 2)); e != api.OK || n != size {
		t.Error(n, e)
	}
}

func TestListErrors(t *testing.T) {
	good := archive(t, settings, sample())
	l, _ := list.List(good)
	at, _ := list.Places(l)
	swapped := slices.Concat(good[:at[0]], good[at[1]:at[2]], good[at[0]:at[1]], good[at[2]:])
	for i, c := range []struct {
		b []byte
		e api.Errno
	}{
		{good[:len(good)-1], api.ErrShort}, {good[:at[2]], api.ErrShort}, {good[:at[0]], api.ErrShort}, {good[:at[1]+41], api.ErrShort},
		{append(bytes.Clone(good), 0), api.ErrForm}, {append(bytes.Clone(good), good[at[0]:at[1]]...), api.ErrForm},
		{swapped, api.ErrOrder}, {swapped[:at[2]-1], api.ErrOrder}, {slices.Concat(good[:at[1]], good[at[2]:]), api.ErrOrder},
		{slices.Concat(good[:at[1]], []byte{0}, good[at[1]:]), api.ErrForm},
	} {
		if got, e := list.List(c.b); e != c.e || !isZero(got) {
			t.Error(i, e)
		}
	}
	for _, field := range []int{1, 3, 5} {
		b := bytes.Clone(good)
		b[at[0]+13+field]++
		if _, e := list.List(b); e != api.ErrOrder && e != api.ErrForm {
			t.Error(field, e)
		}
	}
	for n := range good {
		if l, e := list.List(good[:n]); e == api.OK || !isZero(l) {
			t.Fatal("a first part has a listing", n)
		}
	}
}

func TestCheck(t *testing.T) {
	good, _ := list.List(archive(t, settings, sample()))
	for i, spoil := range []func(l *api.Listing){
		func(l *api.Listing) { *l = api.Listing{} },
		func(l *api.Listing) { l.Settings.Level = 8 },
		func(l *api.Listing) { l.Settings.Block = 63 },
		func(l *api.Listing) { l.Settings.Block = 15 },
		func(l *api.Listing) { l.Records[0].Name = "" },
		func(l *api.Listing) { l.Records[0].Name = "none" },
		func(l *api.Listing) { l.Records[0].Size = 9000 },
		func(l *api.Listing) { l.Records[0].Size-- },
		func(l *api.Listing) { l.Records = l.Records[:2] },
		func(l *api.Listing) { l.Heads = l.Heads[1:] },
		func(l *api.Listing) { l.Heads = append(l.Heads, l.Heads[0]) },
		func(l *api.Listing) { l.Heads[0], l.Heads[1] = l.Heads[1], l.Heads[0] },
		func(l *api.Listing) { l.Heads[0].Mode = 3 },
		func(l *api.Listing) { l.Heads[0].Length = 64 },
		func(l *api.Listing) { l.Heads[2].Member = 1 },
		func(l *api.Listing) { l.Heads[2].Offset++ },
		func(l *api.Listing) { l.Heads[0].Raw-- },
	} {
		l := api.Listing{Settings: good.Settings, Records: slices.Clone(good.Records), Heads: slices.Clone(good.Heads)}
		spoil(&l)
		if e := list.Check(l); e != api.ErrBad {
			t.Error(i, e)
		}
		if p, e := list.Places(l); e != api.ErrBad || p != nil {
			t.Error(i, e)
		}
	}
	good.Heads[0].Sum[0]++
	good.Records[0].Sum[0]++
	if e := list.Check(good); e != api.OK {
		t.Error(e)
	}
}
