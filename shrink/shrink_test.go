package shrink_test

import (
	"bytes"
	"math"
	"math/rand"
	"reflect"
	"slices"
	"strings"
	"testing"

	"bitloft/api"
	"bitloft/block"
	"bitloft/damage"
	"bitloft/list"
	"bitloft/pack"
	"bitloft/salvage"
	"bitloft/shrink"
)

func set(at, n int) api.Harm          { return api.Harm{Kind: 1, At: at, N: n} }
func cut(at, n int) api.Harm          { return api.Harm{Kind: 2, At: at, N: n} }
func put(at int, b []byte) api.Harm   { return api.Harm{Kind: 3, At: at, Bytes: b} }
func end(at int) api.Harm             { return api.Harm{Kind: 4, At: at} }
func script(l ...api.Harm) []api.Harm { return l }

func noise(seed int64, n int) []byte {
	b := make([]byte, n)
	rand.New(rand.NewSource(seed)).Read(b)
	return b
}

// archive is one with two stored blocks, two coded ones, and a stored one, and where they begin and end.
func archive(t *testing.T) ([]byte, []int) {
	t.Helper()
	b, e := pack.Pack(api.Settings{Level: 1, Block: 60}, []api.Member{
		{Name: "n", Data: noise(1, 100)}, {Name: "t", Data: []byte(strings.Repeat("la ", 35))}, {Name: "m", Data: noise(2, 9)},
	})
	if e != api.OK {
		t.Fatal(e)
	}
	l, _ := list.List(b)
	at, _ := list.Places(l)
	if len(at) != 5 || l.Heads[0].Mode != 1 || l.Heads[2].Mode != 2 {
		t.Fatal(l.Heads)
	}
	return b, append(at, len(b))
}

func TestExample(t *testing.T) {
	b, at := archive(t)
	l := script(set(at[0]+45, int(b[at[0]+45])^1), cut(at[0]+50, 1), set(3, int(b[3])))
	if lost, e := shrink.Lost(b, l); e != api.OK || !slices.Equal(lost, []int{0}) {
		t.Error(lost, e)
	}
	kept, e := shrink.Shrink(b, l)
	if e != api.OK || !slices.Equal(kept, []int{1}) {
		t.Error(kept, e)
	}
	for _, c := range []struct {
		kept         []int
		keeps, least bool
	}{{[]int{1}, true, true}, {[]int{0}, true, true}, {nil, false, false}, {[]int{2}, false, false}, {[]int{0, 1}, true, false}, {[]int{1, 2}, true, false}, {[]int{0, 1, 2}, true, false}} {
		if is, e := shrink.Keeps(b, l, c.kept); e != api.OK || is != c.keeps {
			t.Error(c, is, e)
		}
		if is, e := shrink.Least(b, l, c.kept); e != api.OK || is != c.least {
			t.Error(c, is, e)
		}
	}
}

// lost is the definition.
func lost(t *testing.T, b []byte, l []api.Harm) ([]int, bool) {
	t.Helper()
	left, e := damage.Apply(b, l)
	if e != api.OK {
		return nil, false
	}
	before, _ := salvage.Salvage(1, b)
	after, _ := salvage.Salvage(1, left)
	var lost []int
	for i, x := range before {
		same := func(y api.Found) bool {
			return x.Head.Member == y.Head.Member && x.Head.Offset == y.Head.Offset && x.Head.Raw == y.Head.Raw && bytes.Equal(x.Data, y.Data)
		}
		if !slices.ContainsFunc(after, same) {
			lost = append(lost, i)
		}
	}
	return lost, true
}

func pick(l []api.Harm, kept []int) []api.Harm {
	var p []api.Harm
	for _, i := range kept {
		p = append(p, l[i])
	}
	return p
}

func random(r *rand.Rand, b []byte, at []int) []api.Harm {
	n := len(b)
	var l []api.Harm
	for range r.Intn(6) {
		where := r.Intn(n)
		switch r.Intn(6) {
		case 0, 1:
			v := r.Intn(256)
			if r.Intn(2) == 0 && where < len(b) {
				v = int(b[where])
			}
			l = append(l, set(where, v))
		case 2:
			k := min(r.Intn(30), n-where)
			l = append(l, cut(where, k))
			n -= k
		case 3:
			l = append(l, put(where, noise(int64(where), 1+r.Intn(9))))
			n += len(l[len(l)-1].Bytes)
		case 4:
			// A whole block, put in again: it is not lost then.
			i := r.Intn(len(at) - 1)
			l = append(l, put(where, b[at[i]:at[i+1]]))
			n += at[i+1] - at[i]
		case 5:
			if r.Intn(3) == 0 {
				l = append(l, end(where))
				n = where
			}
		}
		if n == 0 {
			break
		}
	}
	return l
}

func TestAgainstDefinitions(t *testing.T) {
	b, at := archive(t)
	r := rand.New(rand.NewSource(1))
	for range 30 {
		l := random(r, b, at)
		before, keep := bytes.Clone(b), slices.Clone(l)
		want, possible := lost(t, b, l)
		if !possible {
			t.Fatal(l)
		}
		got, e := shrink.Lost(b, l)
		if e != api.OK || !slices.Equal(got, want) {
			t.Fatal(l, got, want, e)
		}
		keeps := func(kept []int) bool {
			now, possible := lost(t, b, pick(l, kept))
			return possible && slices.Equal(now, want)
		}
		isLeast := func(kept []int) bool {
			for i := range kept {
				if keeps(slices.Concat(kept[:i], kept[i+1:])) {
					return false
				}
			}
			return keeps(kept)
		}
		var some []int
		for i := range l {
			if r.Intn(3) > 0 {
				some = append(some, i)
			}
		}
		if is, e := shrink.Keeps(b, l, some); e != api.OK || is != keeps(some) {
			t.Fatal(l, some, is, e)
		}
		if is, e := shrink.Least(b, l, some); e != api.OK || is != isLeast(some) {
			t.Fatal(l, some, is, e)
		}
		kept, e := shrink.Shrink(b, l)
		if e != api.OK || !slices.Equal(kept, shrunk(len(l), keeps)) || !isLeast(kept) {
			t.Fatal(l, kept, e)
		}
		chosen, e := shrink.Pick(l, kept)
		if e != api.OK || !reflect.DeepEqual(chosen, append([]api.Harm{}, pick(l, kept)...)) {
			t.Fatal(l, kept, e)
		}
		again, e := shrink.Shrink(b, chosen)
		if e != api.OK || len(again) != len(chosen) {
			t.Fatal("shrinking the chosen script leaves something out", l, kept, again, e)
		}
		if !bytes.Equal(before, b) || !reflect.DeepEqual(keep, l) {
			t.Fatal("an argument was changed")
		}
	}
}

// shrunk is the definition of shrinking.
func shrunk(n int, keeps func([]int) bool) []int {
	var choice []int
	for i := range n {
		choice = append(choice, i)
	}
	for {
		left := false
		for _, i := range slices.Clone(choice) {
			without := slices.DeleteFunc(slices.Clone(choice), func(k int) bool { return k == i })
			if keeps(without) {
				choice, left = without, true
			}
		}
		if !left {
			return choice
		}
	}
}

func TestPassesAreRepeated(t *testing.T) {
	// Two harms that undo each other cannot be left out one by one.
	b, at := archive(t)
	l := script(cut(at[1]+3, 2), put(at[1]+3, b[at[1]+3:at[1]+5]), set(at[0]+45, int(b[at[0]+45])^1))
	kept, e := shrink.Shrink(b, l)
	if is, f := shrink.Least(b, l, kept); e != api.OK || f != api.OK || !is || !slices.Equal(kept, []int{0, 1, 2}) {
		t.Error(kept, is, e, f)
	}
	// The first harm is needed as long as the second one is there, which is left out later in the first pass.
	l = script(put(len(b), make([]byte, 5)), set(len(b)+4, 1), set(at[4]+42, int(b[at[4]+42])^1))
	kept, e = shrink.Shrink(b, l)
	if e != api.OK || !slices.Equal(kept, []int{2}) {
		t.Error(kept, e)
	}
	if is, e := shrink.Keeps(b, l, []int{1, 2}); e != api.OK || is {
		t.Error(is, e)
	}
}

func TestLost(t *testing.T) {
	b, at := archive(t)
	for i, c := range []struct {
		l    []api.Harm
		want []int
	}{
		{nil, nil}, {script(end(0)), []int{0, 1, 2, 3, 4}}, {script(cut(0, at[0])), nil}, {script(put(at[2], []byte("between"))), nil},
		{script(set(at[1]+42, int(b[at[1]+42]))), nil}, {script(cut(at[3], 1)), []int{3}}, {script(end(at[3] + 5)), []int{3, 4}},
		{script(cut(at[3], at[4]-at[3]), put(0, b[at[3]:at[4]])), nil},
	} {
		if lost, e := shrink.Lost(b, c.l); e != api.OK || !slices.Equal(lost, c.want) {
			t.Error(i, lost, e)
		}
	}
	kept, e := shrink.Shrink(b, nil)
	if e != api.OK || len(kept) != 0 {
		t.Error(kept, e)
	}
	if is, e := shrink.Least(b, nil, nil); e != api.OK || !is {
		t.Error(is, e)
	}
}

func TestBlocksThatAreAlike(t *testing.T) {
	// The same bytes in another member are not this block, nor are other bytes in its place.
	b, e := pack.Pack(api.Settings{Level: 1, Block: 60}, []api.Member{{Name: "a", Data: noise(1, 30)}, {Name: "b", Data: noise(1, 30)}})
	if e != api.OK {
		t.Fatal(e)
	}
	l, _ := list.List(b)
	at, _ := list.Places(l)
	if lost, e := shrink.Lost(b, script(cut(at[0], at[1]-at[0]))); e != api.OK || !slices.Equal(lost, []int{0}) {
		t.Error(lost, e)
	}
	other, _ := block.Make(1, 0, 0, noise(2, 30))
	w, _ := block.Write(other)
	if lost, e := shrink.Lost(b, script(cut(at[0], at[1]-at[0]), put(at[0], w))); e != api.OK || !slices.Equal(lost, []int{0}) {
		t.Error(lost, e)
	}
	if lost, e := shrink.Lost(b, script(put(at[0], w))); e != api.OK || len(lost) != 0 {
		t.Error(lost, e)
	}
}

func TestPick(t *testing.T) {
	l := script(set(1, 2), put(3, []byte("abc")), end(9))
	for _, kept := range [][]int{nil, {0}, {1}, {0, 2}, {0, 1, 2}} {
		if p, e := shrink.Pick(l, kept); e != api.OK || len(p) != len(kept) || len(kept) > 0 && !reflect.DeepEqual(p, pick(l, kept)) {
			t.Error(kept, p, e)
		}
	}
	p, _ := shrink.Pick(l, []int{1})
	p[0].Bytes[0] = 'x'
	if string(l[1].Bytes) != "abc" {
		t.Error("memory is shared")
	}
}

func TestErrors(t *testing.T) {
	b, at := archive(t)
	harmed := bytes.Clone(b)
	harmed[at[1]+45]++
	good := script(set(1, 2), set(2, 3))
	nine := slices.Repeat(script(cut(0, 0)), 9)
	eight := []int{0, 1, 2, 3, 4, 5, 6, 7}
	if is, e := shrink.Keeps(b, nine[:8], eight); e != api.OK || !is {
		t.Error(is, e)
	}
	if p, e := shrink.Pick(nine[:8], eight); e != api.OK || len(p) != 8 {
		t.Error(e)
	}
	if kept, e := shrink.Shrink(b, nine[:8]); e != api.OK || len(kept) != 0 {
		t.Error(kept, e)
	}
	for i, c := range []struct {
		b    []byte
		l    []api.Harm
		kept []int
		e    api.Errno
		pick api.Errno
	}{
		{harmed, nine, nil, api.ErrSum, api.ErrMany}, {b[:len(b)-1], good, nil, api.ErrShort, api.OK}, {nil, script(api.Harm{}), nil, api.ErrShort, api.ErrBad},
		{b, slices.Repeat(script(api.Harm{}), 9), nil, api.ErrMany, api.ErrMany}, {b, script(set(9, 9), api.Harm{}), []int{5}, api.ErrBad, api.ErrBad},
		{b, script(set(len(b), 9)), []int{5}, api.ErrRange, api.ErrArg},
		{b, good, make([]int, 9), api.ErrMany, api.ErrMany}, {b, good, []int{1, 0, 2}, api.ErrArg, api.ErrArg}, {b, good, []int{-1}, api.ErrArg, api.ErrArg}, {b, good, []int{math.MaxInt}, api.ErrArg, api.ErrArg},
		{b, good, []int{1, 0}, api.ErrOrder, api.ErrOrder}, {b, good, []int{1, 1}, api.ErrOrder, api.ErrOrder}, {b, nil, []int{0}, api.ErrArg, api.ErrArg},
	} {
		if is, e := shrink.Keeps(c.b, c.l, c.kept); e != c.e || is {
			t.Error(i, e)
		}
		if is, e := shrink.Least(c.b, c.l, c.kept); e != c.e || is {
			t.Error(i, e)
		}
		if p, e := shrink.Pick(c.l, c.kept); e != c.pick || e != api.OK && p != nil {
			t.Error(i, e)
		}
		if i > 5 {
			continue
		}
		if lost, e := shrink.Lost(c.b, c.l); e != c.e || lost != nil {
			t.Error(i, e)
		}
		if kept, e := shrink.Shrink(c.b, c.l); e != c.e || kept != nil {
			t.Error(i, e)
		}
	}
}
