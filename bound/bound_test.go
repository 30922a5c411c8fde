package bound_test

import (
	"crypto/sha1"
	"math"
	"math/rand"
	"slices"
	"strings"
	"testing"

	"bitloft/api"
	"bitloft/bound"
	"bitloft/list"
	"bitloft/member"
	"bitloft/pack"
)

func record(name string, size int) api.Record {
	r := api.Record{Name: name, Size: size}
	if size == 0 {
		r.Sum = sha1.Sum(nil)
	}
	return r
}

func TestExample(t *testing.T) {
	s := api.Settings{Block: 16}
	l := []api.Record{record("a", 40)}
	for i, f := range []func(api.Settings, []api.Record) (int, api.Errno){bound.Count, bound.Greatest, bound.Least} {
		if n, e := f(s, l); e != api.OK || n != []int{3, 215, 187}[i] {
			t.Error(i, n, e)
		}
	}
	for _, c := range []struct {
		name       string
		most, want int
		e          api.Errno
	}{{"a", 215, 40, api.OK}, {"ab", 215, 39, api.OK}, {"a", 51, 0, api.ErrNone}, {"a", 52, 0, api.OK}, {"a", 93, 0, api.OK}, {"a", 94, 1, api.OK}} {
		if n, e := bound.Room(s, c.name, c.most); e != c.e || n != c.want {
			t.Error(c, n, e)
		}
	}
	if n, e := bound.Greatest(s, nil); e != api.OK || n != 28 {
		t.Error(n, e)
	}
	if n, e := bound.Least(s, nil); e != api.OK || n != 28 {
		t.Error(n, e)
	}
	if n, e := bound.Sizes(s, []api.Record{record("a", 40), record("b", 0), record("c", 16)}); e != api.OK || !slices.Equal(n, []int{3, 0, 1}) {
		t.Error(n, e)
	}
}

// records are some valid ones.
func records(r *rand.Rand) []api.Record {
	var l []api.Record
	for i := range r.Intn(17) {
		l = append(l, record(strings.Repeat("n", r.Intn(39))+string(rune('A'+i)), r.Intn(510)*r.Intn(2)))
	}
	return l
}

func TestLengths(t *testing.T) {
	r := rand.New(rand.NewSource(1))
	for range 300 {
		l := records(r)
		before := slices.Clone(l)
		s := api.Settings{Level: r.Intn(8), Block: 16 + r.Intn(100)*r.Intn(40)}
		greatest, least, count := 28, 28, 0
		var sizes []int
		for _, one := range l {
			greatest, least = greatest+23+len(one.Name), least+23+len(one.Name)
			pieces := 0
			for left := one.Size; left > 0; left -= s.Block {
				raw := min(left, s.Block)
				greatest += 41 + raw
				if raw >= 5 {
					least += 45
				} else {
					least += 41 + raw
				}
				pieces++
			}
			sizes = append(sizes, pieces)
			count += pieces
		}
		if n, e := bound.Count(s, l); e != api.OK || n != count {
			t.Fatal(s, l, n, e)
		}
		if n, e := bound.Sizes(s, l); e != api.OK || !slices.Equal(n, sizes) {
			t.Fatal(s, l, n, e)
		}
		longest, _ := pack.Longest(s, l)
		if n, e := bound.Greatest(s, l); e != api.OK || n != greatest || n != longest {
			t.Fatal(s, l, n, e)
		}
		if n, e := bound.Least(s, l); e != api.OK || n != least {
			t.Fatal(s, l, n, e)
		}
		wider := s
		wider.Block = min(s.Block+1+r.Intn(50), 4096)
		if n, _ := bound.Count(wider, l); n > count {
			t.Fatal("more pieces")
		}
		if n, _ := bound.Greatest(wider, l); n > greatest {
			t.Fatal("a greater length")
		}
		if n, _ := bound.Least(wider, l); n > least {
			t.Fatal("a greater length")
		}
		if !slices.Equal(l, before) {
			t.Fatal("the argument was changed")
		}
	}
}

func TestArchivesAreWithinTheirLengths(t *testing.T) {
	noise := make([]byte, 100)
	rand.New(rand.NewSource(2)).Read(noise)
	for i, l := range [][]api.Member{
		nil, {{Name: "a", Data: make([]byte, 1000)}}, {{Name: "a", Data: noise}}, {{Name: "a", Data: noise}, {Name: "b", Data: []byte(strings.Repeat("text", 50))}, {Name: "c"}},
	} {
		for _, block := range []int{16, 50, 4096} {
			s := api.Settings{Level: 3, Block: block}
			b, e := pack.Pack(s, l)
			if e != api.OK {
				t.Fatal(e)
			}
			r, _ := member.Of(l)
			greatest, _ := bound.Greatest(s, r)
			least, _ := bound.Least(s, r)
			listing, _ := list.List(b)
			saved, e := bound.Saved(listing)
			stored := !slices.ContainsFunc(listing.Heads, func(h api.BlockHead) bool { return h.Mode == api.ModeCoded })
			if e != api.OK || saved != greatest-len(b) || saved < 0 || (saved == 0) != stored || len(b) < least {
				t.Error(i, block, saved, greatest, least, len(b), e)
			}
		}
	}
}

func TestRoom(t *testing.T) {
	r := rand.New(rand.NewSource(3))
	for range 200 {
		s := api.Settings{Block: 16 + r.Intn(4081)}
		name := strings.Repeat("x", 1+r.Intn(40))
		most := r.Intn(12000)
		n, e := bound.Room(s, name, most)
		empty := 51 + len(name)
		if most < empty {
			if e != api.ErrNone || n != 0 {
				t.Fatal(most, n, e)
			}
			continue
		}
		here, _ := bound.Greatest(s, []api.Record{record(name, n)})
		if e != api.OK || here > most {
			t.Fatal(s, most, n, here, e)
		}
		if n < api.MaxData {
			if more, _ := bound.Greatest(s, []api.Record{record(name, n+1)}); more <= most {
				t.Fatal(s, most, n, more)
			}
		}
	}
	s := api.Settings{Block: 4096}
	if n, e := bound.Room(s, "a", math.MaxInt); e != api.OK || n != api.MaxData {
		t.Error(n, e)
	}
	for i, c := range []struct {
		s    api.Settings
		name string
		most int
		e    api.Errno
	}{
		{api.Settings{}, "", 0, api.ErrArg}, {s, "", 0, api.ErrBad}, {s, "a b", 9999, api.ErrBad}, {s, strings.Repeat("x", 41), 9999, api.ErrBad},
		{s, "a", -1, api.ErrNone}, {s, "a", math.MinInt, api.ErrNone}, {s, "a", 51, api.ErrNone},
	} {
		if n, e := bound.Room(c.s, c.name, c.most); e != c.e || n != 0 {
			t.Error(i, n, e)
		}
	}
}

func TestErrors(t *testing.T) {
	good := api.Settings{Block: 16}
	for i, c := range []struct {
		s api.Settings
		l []api.Record
		e api.Errno
	}{
		{api.Settings{Block: 15}, make([]api.Record, 17), api.ErrArg}, {api.Settings{Level: 8, Block: 16}, nil, api.ErrArg}, {good, make([]api.Record, 17), api.ErrMany},
		{good, []api.Record{{Name: "a"}}, api.ErrBad}, {good, []api.Record{record("a", 8193)}, api.ErrBad}, {good, []api.Record{record("a", 8000), record("b", 193)}, api.ErrMany},
		{good, []api.Record{record("a", 1), record("a", 2)}, api.ErrTwice},
	} {
		for _, f := range []func(api.Settings, []api.Record) (int, api.Errno){bound.Count, bound.Greatest, bound.Least} {
			if n, e := f(c.s, c.l); e != c.e || n != 0 {
				t.Error(i, n, e)
			}
		}
		if n, e := bound.Sizes(c.s, c.l); e != c.e || n != nil {
			t.Error(i, n, e)
		}
	}
	if n, e := bound.Saved(api.Listing{}); e != api.ErrBad || n != 0 {
		t.Error(n, e)
	}
}
