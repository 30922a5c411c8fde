package agree

import (
	"bytes"
	"testing"

	"bitloft/api"
	"bitloft/block"
	"bitloft/bound"
	"bitloft/choose"
	"bitloft/differ"
	"bitloft/extract"
	"bitloft/filter"
	"bitloft/join"
	"bitloft/list"
	"bitloft/member"
	"bitloft/pack"
	"bitloft/parity"
	"bitloft/tree"
)

func TestToolsHoldForArchives(t *testing.T) {
	choices := []api.Settings{{Level: 2, Block: 32}, {Level: 2, Block: 256}, {Level: 5, Block: 1024}}
	i, b, e := choose.Settings(choices, members())
	if e != api.OK {
		t.Fatal(e)
	}
	s := choices[i]
	records, _ := member.Of(members())
	least, _ := bound.Least(s, records)
	greatest, e := bound.Greatest(s, records)
	l, f := list.List(b)
	saved, g := bound.Saved(l)
	if e != api.OK || f != api.OK || g != api.OK || len(b) < least || len(b)+saved != greatest {
		t.Fatal(least, len(b), greatest, saved, e, f, g)
	}
	more, e := join.Put(b, api.Member{Name: "more", Data: []byte("more bytes")})
	if e != api.OK {
		t.Fatal(e)
	}
	p, e := differ.Diff(b, more)
	w, f := differ.Write(p)
	read, g := differ.Read(w)
	if e != api.OK || f != api.OK || g != api.OK || len(w) > 100 {
		t.Fatal(len(w), e, f, g)
	}
	if again, e := differ.Apply(b, read); e != api.OK || !bytes.Equal(again, more) {
		t.Fatal(e)
	}
}

func TestBlocksAreProvedAndRepaired(t *testing.T) {
	b, e := pack.Pack(api.Settings{Level: 1, Block: 48}, members())
	if e != api.OK {
		t.Fatal(e)
	}
	l, _ := list.List(b)
	var strings [][]byte
	for i := range l.Heads {
		one, _ := list.Block(b, i)
		w, _ := block.Write(one)
		strings = append(strings, w)
	}
	root, e := tree.Root(strings)
	parities, f := parity.Protect(strings, 5)
	if e != api.OK || f != api.OK {
		t.Fatal(e, f)
	}
	for i := range strings {
		proof, _ := tree.Prove(strings, i)
		lost := make([]bool, len(strings))
		lost[i] = true
		harmed := append([][]byte{}, strings...)
		harmed[i] = nil
		got, e := parity.Recover(harmed, lost, 5, parities)
		if e != api.OK {
			t.Fatal(i, e)
		}
		if is, e := tree.Verify(root, len(strings), i, got[i], proof); e != api.OK || !is {
			t.Fatal(i, is, e)
		}
	}
}

func TestFilteredMembersComeBack(t *testing.T) {
	chains := [][]api.Filter{nil, {{Kind: api.FilterDelta, N: 1}}, {{Kind: api.FilterFront}, {Kind: api.FilterRuns}}}
	for _, m := range members() {
		i, n, e := choose.Chain(3, chains, m.Data)
		if e != api.OK || n < 4 {
			t.Fatal(n, e)
		}
		made, _ := filter.Apply(chains[i], m.Data)
		b, e := pack.Pack(api.Settings{Level: 3, Block: 4096}, []api.Member{{Name: m.Name, Data: made}})
		if e != api.OK {
			t.Fatal(e)
		}
		one, _ := extract.One(b, m.Name)
		if back, e := filter.Undo(chains[i], one.Data); e != api.OK || !bytes.Equal(back, m.Data) {
			t.Fatal(m.Name, e)
		}
	}
}
