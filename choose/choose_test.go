package choose_test

import (
	"bytes"
	"math"
	"math/rand"
	"slices"
	"strings"
	"testing"

	"bitloft/api"
	"bitloft/choose"
	"bitloft/codec"
	"bitloft/extract"
	"bitloft/filter"
	"bitloft/pack"
)

func noise(seed int64, n int) []byte {
	b := make([]byte, n)
	rand.New(rand.NewSource(seed)).Read(b)
	return b
}

func sample() []api.Member {
	return []api.Member{{Name: "text", Data: []byte(strings.Repeat("some easy text, ", 20))}, {Name: "noise", Data: noise(1, 90)}, {Name: "none"}}
}

func TestLeast(t *testing.T) {
	for i, c := range []struct {
		l    []int
		want int
		e    api.Errno
	}{
		{[]int{5, 3, 4, 3}, 1, api.OK}, {nil, 0, api.ErrNone}, {[]int{}, 0, api.ErrNone}, {[]int{7}, 0, api.OK}, {[]int{7, 7, 7}, 0, api.OK},
		{[]int{math.MaxInt, math.MinInt, 0, math.MinInt}, 1, api.OK}, {[]int{3, 2, 1}, 2, api.OK},
	} {
		before := slices.Clone(c.l)
		if n, e := choose.Least(c.l); e != c.e || n != c.want || !slices.Equal(before, c.l) {
			t.Error(i, n, e)
		}
	}
}

func TestSettings(t *testing.T) {
	l := []api.Settings{{Level: 0, Block: 16}, {Level: 3, Block: 64}, {Level: 3, Block: 4096}, {Level: 0, Block: 128}, {Level: 3, Block: 4096}, {Level: 7, Block: 300}}
	lengths, e := choose.Lengths(l, sample())
	if e != api.OK || len(lengths) != len(l) {
		t.Fatal(e)
	}
	for i, s := range l {
		if b, _ := pack.Pack(s, sample()); len(b) != lengths[i] {
			t.Error(i, lengths[i], len(b))
		}
	}
	for n := 1; n <= len(l); n++ {
		i, b, e := choose.Settings(l[:n], sample())
		want, _ := choose.Least(lengths[:n])
		archive, _ := pack.Pack(l[want], sample())
		if e != api.OK || i != want || !bytes.Equal(b, archive) {
			t.Fatal(n, i, want, e)
		}
		if got, e := extract.Extract(b); e != api.OK || len(got) != 3 || !bytes.Equal(got[1].Data, sample()[1].Data) {
			t.Fatal(e)
		}
	}
}

func TestBlockSizes(t *testing.T) {
	for _, c := range []struct {
		n, want int
	}{{16, 0}, {17, 1}} {
		m := []api.Member{{Name: "n", Data: noise(2, c.n)}}
		if i, _, e := choose.Settings([]api.Settings{{Block: 16}, {Block: 4096}}, m); e != api.OK || i != c.want {
			t.Error(c, i, e)
		}
	}
}

func TestSettingsErrors(t *testing.T) {
	good := api.Settings{Block: 64}
	bad := api.Settings{Block: 5}
	for i, c := range []struct {
		l []api.Settings
		m []api.Member
		e api.Errno
	}{
		{slices.Repeat([]api.Settings{bad}, 9), make([]api.Member, 17), api.ErrMany},
		{[]api.Settings{good, bad}, []api.Member{{Name: " "}}, api.ErrArg},
		{[]api.Settings{good}, []api.Member{{Name: " "}}, api.ErrBad}, {[]api.Settings{good}, make([]api.Member, 17), api.ErrMany},
		{[]api.Settings{good}, []api.Member{{Name: "a"}, {Name: "a"}}, api.ErrTwice},
	} {
		if l, e := choose.Lengths(c.l, c.m); e != c.e || l != nil {
			t.Error(i, e)
		}
		if n, b, e := choose.Settings(c.l, c.m); e != c.e || n != 0 || b != nil {
			t.Error(i, e)
		}
	}
	if l, e := choose.Lengths(nil, sample()); e != api.OK || len(l) != 0 {
		t.Error(l, e)
	}
	if l, e := choose.Lengths(nil, []api.Member{{}}); e != api.ErrBad || l != nil {
		t.Error(l, e)
	}
	if n, b, e := choose.Settings(nil, []api.Member{{}}); e != api.ErrNone || n != 0 || b != nil {
		t.Error(e)
	}
	if l, e := choose.Lengths(slices.Repeat([]api.Settings{good}, 8), nil); e != api.OK || !slices.Equal(l, slices.Repeat([]int{28}, 8)) {
		t.Error(l, e)
	}
}

var (
	front = api.Filter{Kind: api.FilterFront}
	runs  = api.Filter{Kind: api.FilterRuns}
	delta = api.Filter{Kind: api.FilterDelta, N: 2}
)

func TestChain(t *testing.T) {
	ramp := make([]byte, 300)
	for i := range ramp {
		ramp[i] = byte(i * i / 40 * (1 + i%2))
	}
	for _, b := range [][]byte{nil, ramp, noise(3, 100), bytes.Repeat([]byte{9}, 1000), []byte(strings.Repeat("abc ", 40))} {
		l := [][]api.Filter{{front, runs}, nil, {delta}, {delta, runs}, {front}, nil, {runs}, {delta, delta, front, runs}}
		var lengths []int
		for i, chain := range l {
			made, _ := filter.Apply(chain, b)
			code, _ := codec.Encode(4, made)
			n, e := choose.Coded(4, chain, b)
			if e != api.OK || n != len(code) {
				t.Fatal(i, n, e)
			}
			lengths = append(lengths, n)
		}
		for n := 1; n <= len(l); n++ {
			want, _ := choose.Least(lengths[:n])
			if i, length, e := choose.Chain(4, l[:n], b); e != api.OK || i != want || length != lengths[want] {
				t.Fatal(n, i, length, e)
			}
		}
	}
}

func TestChainErrors(t *testing.T) {
	bad, long := []api.Filter{{}}, make([]api.Filter, 5)
	wide := make([]byte, 2000)
	for i := range wide {
		wide[i] = byte(i / 2 % 256)
	}
	widened := []api.Filter{runs, runs, runs, runs}
	for i, c := range []struct {
		level int
		chain []api.Filter
		b     []byte
		e     api.Errno
	}{
		{-1, bad, nil, api.ErrArg}, {8, long, nil, api.ErrArg}, {0, long, nil, api.ErrMany}, {0, bad, make([]byte, 2001), api.ErrBad}, {0, nil, make([]byte, 2001), api.ErrMany},
		{0, widened, wide, api.ErrMany},
	} {
		if n, e := choose.Coded(c.level, c.chain, c.b); e != c.e || n != 0 {
			t.Error(i, n, e)
		}
		if k, n, e := choose.Chain(c.level, [][]api.Filter{c.chain}, c.b); e != c.e || k != 0 || n != 0 {
			t.Error(i, k, n, e)
		}
		if k, n, e := choose.Chain(c.level, [][]api.Filter{nil, c.chain, bad}, c.b[:min(len(c.b), 2000)]); e != c.e && len(c.b) != 2001 || k != 0 || n != 0 {
			t.Error(i, k, n, e)
		}
	}
	if k, n, e := choose.Chain(0, make([][]api.Filter, 9), make([]byte, 2001)); e != api.ErrMany || k != 0 || n != 0 {
		t.Error(e)
	}
	if k, n, e := choose.Chain(0, slices.Repeat([][]api.Filter{bad}, 9), nil); e != api.ErrMany || k != 0 || n != 0 {
		t.Error(e)
	}
	if k, n, e := choose.Chain(8, nil, nil); e != api.ErrArg || k != 0 || n != 0 {
		t.Error(e)
	}
	if k, n, e := choose.Chain(0, nil, make([]byte, 2001)); e != api.ErrNone || k != 0 || n != 0 {
		t.Error(e)
	}
	if k, n, e := choose.Chain(7, make([][]api.Filter, 1), nil); e != api.OK || k != 0 || n != 4 {
		t.Error(e)
	}
	if n, e := choose.Coded(7, nil, nil); e != api.OK || n != 4 {
		t.Error(e)
	}
	if k, n, e := choose.Chain(0, make([][]api.Filter, 8), nil); e != api.OK || k != 0 || n != 4 {
		t.Error(e)
	}
	if k, n, e := choose.Chain(0, [][]api.Filter{nil, bad, long}, nil); e != api.ErrBad || k != 0 || n != 0 {
		t.Error(e)
	}
}
