package agree

import (
	"bytes"
	"slices"
	"testing"

	"bitloft/api"
	"bitloft/block"
	"bitloft/marker"
	"bitloft/member"
	"bitloft/split"
)

// TestWhatWasCutIsPutTogetherAgain cuts members, makes blocks of the pieces, writes them one behind the other, and goes all the way back.
func TestWhatWasCutIsPutTogetherAgain(t *testing.T) {
	l := []api.Member{{Name: "one", Data: bytes.Repeat([]byte("abc "), 40)}, {Name: "none"}, {Name: "two", Data: some(1, 77)}}
	for level := 0; level <= 7; level += 3 {
		parts, e := split.Cut(l, 64)
		if e != api.OK {
			t.Fatal(e)
		}
		var all []byte
		for _, p := range parts {
			b, e := block.Make(level, p.Piece.Member, p.Piece.Offset, p.Data)
			if e != api.OK {
				t.Fatal(e)
			}
			w, _ := block.Write(b)
			all = append(all, w...)
		}
		pieces, e := marker.Cut(all)
		if e != api.OK || len(pieces) != len(parts)+1 {
			t.Fatal(len(pieces), e)
		}
		var read []api.Part
		for _, piece := range pieces[1:] {
			b, n, e := block.Read(piece)
			if e != api.OK || n != len(piece) {
				t.Fatal(n, e)
			}
			raw, e := block.Raw(level, b)
			if e != api.OK {
				t.Fatal(e)
			}
			read = append(read, api.Part{Piece: api.Piece{Member: b.Head.Member, Offset: b.Head.Offset, Raw: b.Head.Raw}, Data: raw})
		}
		records, _ := member.Of(l)
		table, _ := member.Write(records)
		records, n, e := member.Read(append(table, all...), 3)
		if e != api.OK || n != len(table) {
			t.Fatal(n, e)
		}
		slices.Reverse(read)
		got, e := split.Put(records, read)
		if e != api.OK || len(got) != 3 {
			t.Fatal(e)
		}
		for i, m := range got {
			if m.Name != l[i].Name || !bytes.Equal(m.Data, l[i].Data) {
				t.Fatal(level, i)
			}
		}
	}
}
