package verify_test

import (
	"bytes"
	"math/rand"
	"slices"
	"strings"
	"testing"

	"bitloft/api"
	"bitloft/block"
	"bitloft/extract"
	"bitloft/header"
	"bitloft/list"
	"bitloft/marker"
	"bitloft/pack"
	"bitloft/verify"
)

var settings = api.Settings{Level: 2, Block: 64}

func sample() []api.Member {
	noise := make([]byte, 150)
	rand.New(rand.NewSource(1)).Read(noise)
	return []api.Member{
		{Name: "text", Data: []byte(strings.Repeat("some easy text, ", 8))}, {Name: "none"}, {Name: "noise", Data: noise},
	}
}

func archive(t *testing.T, s api.Settings, l []api.Member) []byte {
	t.Helper()
	b, e := pack.Pack(s, l)
	if e != api.OK {
		t.Fatal(e)
	}
	return b
}

const fine, sum, lost = api.BlockFine, api.BlockSum, api.BlockLost

func check(t *testing.T, what string, b []byte, states []uint8, members []bool, isFine bool) {
	t.Helper()
	before := bytes.Clone(b)
	if s, e := verify.States(b); e != api.OK || !slices.Equal(s, states) {
		t.Error(what, s, e)
	}
	if m, e := verify.Members(b); e != api.OK || !slices.Equal(m, members) {
		t.Error(what, m, e)
	}
	if is, e := verify.Fine(b); e != api.OK || is != isFine {
		t.Error(what, is, e)
	}
	i, e := verify.First(b)
	want := slices.IndexFunc(states, func(s uint8) bool { return s != fine })
	if want < 0 && (e != api.ErrNone || i != 0) || want >= 0 && (e != api.OK || i != want) {
		t.Error(what, i, e)
	}
	if !bytes.Equal(before, b) {
		t.Error(what, "the argument was changed")
	}
}

func TestExamples(t *testing.T) {
	check(t, "no members", archive(t, settings, nil), nil, nil, true)
	b := archive(t, settings, []api.Member{{Name: "a", Data: []byte{7}}})
	check(t, "one", b, []uint8{fine}, []bool{true}, true)
	check(t, "cut", b[:len(b)-1], []uint8{lost}, []bool{false}, false)
	b[len(b)-1] = 8
	check(t, "changed", b, []uint8{sum}, []bool{false}, false)
}

func TestPacked(t *testing.T) {
	for _, s := range []api.Settings{settings, {Level: 0, Block: 16}, {Level: 7, Block: 4096}} {
		b := archive(t, s, sample())
		l, _ := list.List(b)
		check(t, "packed", b, slices.Repeat([]uint8{fine}, len(l.Heads)), []bool{true, true, true}, true)
	}
}

func TestDamaged(t *testing.T) {
	good := archive(t, settings, sample())
	l, _ := list.List(good)
	at, _ := list.Places(l)
	end := append(slices.Clone(at), len(good))
	if len(at) != 5 || l.Heads[0].Mode != api.ModeCoded || l.Heads[4].Mode != api.ModeStored {
		t.Fatal(l.Heads)
	}
	all := []uint8{fine, fine, fine, fine, fine}
	with := func(state uint8, pieces ...int) []uint8 {
		s := slices.Clone(all)
		for _, i := range pieces {
			s[i] = state
		}
		return s
	}
	changed := func(i int) []byte {
		b := bytes.Clone(good)
		b[i]++
		return b
	}
	part := func(i int) []byte { return good[at[i]:end[i+1]] }
	had := []bool{true, true, true}
	check(t, "a coded byte", changed(at[0]+45), with(sum, 0), []bool{false, true, true}, false)
	check(t, "a stored byte", changed(end[5]-1), with(sum, 4), []bool{true, true, false}, false)
	check(t, "a digest", changed(at[1]+40), with(sum, 1), []bool{false, true, true}, false)
	check(t, "a marker", changed(at[2]+3), with(lost, 2), []bool{true, true, false}, false)
	check(t, "a mode", changed(at[3]+13), with(lost, 3), []bool{true, true, false}, false)
	check(t, "a byte behind", append(bytes.Clone(good), 9), all, had, false)
	check(t, "a byte between", slices.Concat(good[:at[2]], []byte{1}, good[at[2]:]), all, had, false)
	check(t, "another order", slices.Concat(good[:at[0]], part(4), part(2), part(3), part(0), part(1)), all, had, false)
	check(t, "a block is away", slices.Concat(good[:at[1]], good[at[2]:]), with(lost, 1), []bool{false, true, true}, false)
	check(t, "only the head", good[:at[0]], slices.Repeat([]uint8{lost}, 5), []bool{false, true, false}, false)
	twice := slices.Concat(changed(at[1] + 45)[:at[2]], part(1), good[at[2]:])
	check(t, "a bad one and a good one", twice, all, had, false)
	twice = slices.Concat(good, changed(at[1] + 45)[at[1]:at[2]])
	check(t, "a good one and a bad one", twice, all, had, false)
	other := archive(t, api.Settings{Level: 3, Block: 64}, sample())
	head := len(good[:at[0]])
	check(t, "blocks of another level", append(bytes.Clone(good[:head]), other[head:]...), with(sum, 0, 1), []bool{false, true, true}, false)
}

func TestAnotherDigestOfAMember(t *testing.T) {
	good := archive(t, settings, sample())
	l, _ := list.List(good)
	at, _ := list.Places(l)
	x, _ := list.Block(good, 4)
	x.Bytes[0]++
	x.Head, _ = header.Seal(x.Head, x.Bytes)
	w, _ := block.Write(x)
	b := slices.Concat(good[:at[4]], w)
	check(t, "sealed anew", b, slices.Repeat([]uint8{fine}, 5), []bool{true, true, true}, false)
	if _, e := extract.Extract(b); e != api.ErrSum {
		t.Error(e)
	}
}

func TestMarkersInBlocks(t *testing.T) {
	// A block that stands in the bytes of another one is a candidate, too.
	inner, _ := block.Make(2, 0, 64, []byte("x"))
	w, _ := block.Write(inner)
	noise := make([]byte, 30)
	rand.New(rand.NewSource(3)).Read(noise)
	outer := append(append(bytes.Clone(noise[:20]), w...), noise[20:]...)[:64]
	data := append(outer, 'x')
	b := archive(t, settings, []api.Member{{Name: "m", Data: data}})
	l, _ := list.List(b)
	at, _ := list.Places(l)
	if l.Heads[0].Mode != api.ModeStored || bytes.Count(b, marker.Bytes()) != 3 {
		t.Skip("the outer block is coded")
	}
	check(t, "without the outer one", b[:at[1]], []uint8{fine, fine}, []bool{true}, false)
}

func TestErrors(t *testing.T) {
	good := archive(t, settings, sample())
	bad := bytes.Clone(good)
	bad[4]++
	for i, c := range []struct {
		b []byte
		e api.Errno
	}{{nil, api.ErrShort}, {good[:20], api.ErrShort}, {bad, api.ErrSum}, {make([]byte, 100), api.ErrForm}, {make([]byte, api.MaxArchive+1), api.ErrMany}} {
		if s, e := verify.States(c.b); e != c.e || s != nil {
			t.Error(i, e)
		}
		if m, e := verify.Members(c.b); e != c.e || m != nil {
			t.Error(i, e)
		}
		if is, e := verify.Fine(c.b); e != c.e || is {
			t.Error(i, e)
		}
		if n, e := verify.First(c.b); e != c.e || n != 0 {
			t.Error(i, e)
		}
	}
}
