package marker_test

import (
	"bytes"
	"math"
	"math/rand"
	"slices"
	"testing"

	"bitloft/api"
	"bitloft/marker"
)

var mark = []byte{183, 98, 105, 116, 108, 111, 102, 116, 32, 98, 108, 107, 10}

func join(l ...[]byte) []byte {
	return slices.Concat(l...)
}

func TestBytes(t *testing.T) {
	b := marker.Bytes()
	if !bytes.Equal(b, mark) || len(b) != api.MarkerSize {
		t.Error(b)
	}
	b[0] = 0
	if !bytes.Equal(marker.Bytes(), mark) {
		t.Error("memory is shared")
	}
}

func TestExample(t *testing.T) {
	b := join([]byte{1}, mark, mark)
	if l, e := marker.All(b); e != api.OK || !slices.Equal(l, []int{1, 14}) {
		t.Error(l, e)
	}
	l, e := marker.Cut(b)
	if e != api.OK || len(l) != 3 || len(l[0]) != 1 || len(l[1]) != 13 || len(l[2]) != 13 {
		t.Error(l, e)
	}
	for _, c := range []struct {
		b    []byte
		want int
	}{{[]byte{183, 98}, 2}, {[]byte{98, 183}, 1}, {mark, 0}, {nil, 0}, {mark[:12], 12}, {mark[1:], 0}, {join(mark, mark[:5]), 5}, {join([]byte{183}, mark[:12]), 12}, {[]byte{183, 98, 106}, 0}} {
		if n, e := marker.Partial(c.b); e != api.OK || n != c.want {
			t.Error(c.b, n, e)
		}
	}
}

// some are bytes with markers, and beginnings and ends of them.
func some(r *rand.Rand) []byte {
	var b []byte
	for range r.Intn(9) {
		switch r.Intn(5) {
		case 0, 1:
			b = append(b, mark...)
		case 2:
			b = append(b, mark[:r.Intn(13)]...)
		case 3:
			b = append(b, mark[r.Intn(13):]...)
		case 4:
			b = append(b, byte(r.Intn(256)), 183)
		}
	}
	return b
}

func TestAllAndCut(t *testing.T) {
	r := rand.New(rand.NewSource(1))
	for range 2000 {
		b := some(r)
		before := bytes.Clone(b)
		var want []int
		for i := range b {
			if bytes.HasPrefix(b[i:], mark) {
				want = append(want, i)
			}
		}
		l, e := marker.All(b)
		if e != api.OK || !slices.Equal(l, want) {
			t.Fatal(b, l, e)
		}
		for i := range len(b) + 1 {
			if is, e := marker.At(b, i); e != api.OK || is != slices.Contains(want, i) {
				t.Fatal(b, i, is, e)
			}
			at := slices.IndexFunc(want, func(k int) bool { return k >= i })
			n, e := marker.Find(b, i)
			if at < 0 && (e != api.ErrNone || n != 0) || at >= 0 && (e != api.OK || n != want[at]) {
				t.Fatal(b, i, n, e)
			}
		}
		pieces, e := marker.Cut(b)
		if e != api.OK || len(pieces) != len(want)+1 || !bytes.Equal(join(pieces...), b) || !bytes.Equal(b, before) {
			t.Fatal(b, pieces, e)
		}
		for i, piece := range pieces {
			if i > 0 && !bytes.HasPrefix(piece, mark) || bytes.Contains(piece[min(i, 1)*13:], mark) {
				t.Fatal(b, i, piece)
			}
		}
		partial(t, b)
		if len(pieces[0]) > 0 {
			pieces[0][0]++
			if b[0] == pieces[0][0] {
				t.Fatal("memory is shared")
			}
		}
	}
}

func partial(t *testing.T, b []byte) {
	t.Helper()
	want := 0
	for n := 1; n <= min(12, len(b)); n++ {
		if bytes.HasSuffix(b, mark[:n]) {
			want = n
		}
	}
	if n, e := marker.Partial(b); e != api.OK || n != want {
		t.Fatal(b, n, want, e)
	}
}

func TestMarkersOfTwoStrings(t *testing.T) {
	r := rand.New(rand.NewSource(2))
	for range 1000 {
		a, b := some(r), some(r)
		both, _ := marker.All(join(a, b))
		first, _ := marker.All(a)
		second, _ := marker.All(b)
		part, _ := marker.Partial(a)
		for _, i := range second {
			first = append(first, len(a)+i)
		}
		for _, i := range both {
			if !slices.Contains(first, i) && (part == 0 || i != len(a)-part) {
				t.Fatal(a, b, i)
			}
		}
		if len(both) < len(first) || len(both) > len(first)+1 {
			t.Fatal(a, b, both, first)
		}
	}
}

func TestErrors(t *testing.T) {
	long := make([]byte, api.MaxArchive+1)
	if is, e := marker.At(long, -1); e != api.ErrMany || is {
		t.Error(e)
	}
	if n, e := marker.Find(long, -1); e != api.ErrMany || n != 0 {
		t.Error(e)
	}
	if l, e := marker.All(long); e != api.ErrMany || l != nil {
		t.Error(e)
	}
	if l, e := marker.Cut(long); e != api.ErrMany || l != nil {
		t.Error(e)
	}
	if n, e := marker.Partial(long); e != api.ErrMany || n != 0 {
		t.Error(e)
	}
	most := long[1:]
	if is, e := marker.At(most, api.MaxArchive); e != api.OK || is {
		t.Error(e)
	}
	if l, e := marker.All(most); e != api.OK || len(l) != 0 {
		t.Error(e)
	}
	if l, e := marker.Cut(most); e != api.OK || len(l) != 1 {
		t.Error(e)
	}
	copy(most[len(most)-13:], mark)
	if n, e := marker.Find(most, 5); e != api.OK || n != len(most)-13 {
		t.Error(n, e)
	}
	if n, e := marker.Partial(most); e != api.OK || n != 0 {
		t.Error(n, e)
	}
	for _, i := range []int{-1, 14, math.MinInt, math.MaxInt} {
		if is, e := marker.At(mark, i); e != api.ErrArg || is {
			t.Error(i, e)
		}
		if n, e := marker.Find(mark, i); e != api.ErrArg || n != 0 {
			t.Error(i, e)
		}
	}
	if is, e := marker.At(mark, 13); e != api.OK || is {
		t.Error(is, e)
	}
	if n, e := marker.Find(mark, 13); e != api.ErrNone || n != 0 {
		t.Error(n, e)
	}
	if l, e := marker.Cut(nil); e != api.OK || len(l) != 1 || len(l[0]) != 0 {
		t.Error(l, e)
	}
}
