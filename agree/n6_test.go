package agree

import (
	"bytes"
	"math/rand"
	"slices"
	"strings"
	"testing"

	"bitloft/api"
	"bitloft/damage"
	"bitloft/extract"
	"bitloft/list"
	"bitloft/member"
	"bitloft/pack"
	"bitloft/salvage"
	"bitloft/verify"
)

func members() []api.Member {
	return []api.Member{
		{Name: "story", Data: []byte(strings.Repeat("once upon a time, ", 15))}, {Name: "empty"}, {Name: "noise", Data: some(4, 130)}, {Name: "zeros", Data: make([]byte, 200)},
	}
}

func equal(a, b []api.Member) bool {
	return slices.EqualFunc(a, b, func(x, y api.Member) bool { return x.Name == y.Name && bytes.Equal(x.Data, y.Data) })
}

func TestWhatWasPackedIsListedExtractedAndFine(t *testing.T) {
	for level := 0; level <= 7; level++ {
		s := api.Settings{Level: level, Block: 16 + 30*level}
		b, e := pack.Pack(s, members())
		if e != api.OK {
			t.Fatal(e)
		}
		l, e := list.List(b)
		records, _ := member.Of(members())
		if e != api.OK || l.Settings != s || !slices.Equal(l.Records, records) {
			t.Fatal(level, e)
		}
		got, e := extract.Extract(b)
		if e != api.OK || !equal(got, members()) {
			t.Fatal(level, e)
		}
		if fine, e := verify.Fine(b); e != api.OK || !fine {
			t.Fatal(level, e)
		}
		if _, e := verify.First(b); e != api.ErrNone {
			t.Fatal(level, e)
		}
	}
}

func TestWhatSurvivesIsSalvaged(t *testing.T) {
	s := api.Settings{Level: 3, Block: 40}
	b, _ := pack.Pack(s, members())
	records, _ := member.Of(members())
	r := rand.New(rand.NewSource(1))
	for range 30 {
		var l []api.Harm
		for range 1 + r.Intn(6) {
			at := r.Intn(len(b) / 2)
			l = append(l, []api.Harm{
				{Kind: api.HarmSet, At: at, N: r.Intn(256)}, {Kind: api.HarmCut, At: at, N: r.Intn(20)},
				{Kind: api.HarmPut, At: at, Bytes: some(5, r.Intn(20))}, {Kind: api.HarmEnd, At: len(b) - 200},
			}[min(r.Intn(13)/4, 3)])
		}
		left, e := damage.Apply(b, l)
		if e == api.ErrRange {
			continue
		}
		survivors, f := damage.Blocks(b, l)
		if e != api.OK || f != api.OK {
			t.Fatal(e, f)
		}
		found, _ := salvage.Salvage(s.Level, left)
		for _, one := range survivors {
			if !slices.ContainsFunc(found, func(x api.Found) bool { return x.At == one.Offset }) {
				t.Fatal(l, one)
			}
		}
		got, whole, e := salvage.Rebuild(records, found)
		if e != api.OK {
			t.Fatal(e)
		}
		for i := range got {
			if whole[i] && !bytes.Equal(got[i].Data, members()[i].Data) {
				t.Fatal(l, got[i].Name, "is whole, and another one")
			}
		}
		if states, e := verify.States(left); e == api.OK && slices.Contains(states, api.BlockFine) && len(found) == 0 {
			t.Fatal(l, states)
		}
	}
}
