package mixer_test

import (
	"math"
	"math/big"
	"math/rand"
	"reflect"
	"slices"
	"testing"

	"bitloft/api"
	"bitloft/mixer"
	"bitloft/squash"
)

func fresh(t *testing.T, sets int, weight int32) api.Mixer {
	t.Helper()
	m, e := mixer.New(sets, weight)
	if e != api.OK {
		t.Fatal(sets, e)
	}
	return m
}

func copied(m api.Mixer) api.Mixer {
	var c api.Mixer
	for _, set := range m.Sets {
		c.Sets = append(c.Sets, slices.Clone(set))
	}
	return c
}

func TestNew(t *testing.T) {
	for _, sets := range []int{1, 2, 256} {
		m := fresh(t, sets, -77)
		if len(m.Sets) != sets || mixer.Check(m) != api.OK {
			t.Fatal(sets)
		}
		for _, set := range m.Sets {
			if !slices.Equal(set, slices.Repeat([]int32{-77}, 8)) {
				t.Fatal(set)
			}
		}
		m.Sets[0] = append(m.Sets[0], 5)
		m.Sets[0][1] = 1
		if sets > 1 && !slices.Equal(m.Sets[1], slices.Repeat([]int32{-77}, 8)) {
			t.Fatal("sets share memory")
		}
	}
	for _, sets := range []int{0, -1, 257, math.MinInt, math.MaxInt} {
		if m, e := mixer.New(sets, 1); e != api.ErrArg || m.Sets != nil {
			t.Error(sets, e)
		}
	}
}

func TestExample(t *testing.T) {
	m := fresh(t, 1, 16384)
	in := []int32{400, -100, 0, 0, 0, 0, 0, 256}
	d, p, e := mixer.Mix(m, 0, in)
	if e != api.OK || d != 139 || p != 2587 {
		t.Error(d, p, e)
	}
	if wrong, e := mixer.Wrong(p, true); e != api.OK || wrong != 1508 {
		t.Error(wrong, e)
	}
	m, e = mixer.Learn(m, 0, in, p, true)
	if e != api.OK || !slices.Equal(m.Sets[0], []int32{16642, 16320, 16384, 16384, 16384, 16384, 16384, 16549}) {
		t.Error(m, e)
	}
}

func TestWrong(t *testing.T) {
	for p := int32(0); p <= 4095; p++ {
		one, e := mixer.Wrong(p, true)
		zero, f := mixer.Wrong(p, false)
		if e != api.OK || f != api.OK || one != 4095-p || zero != -p {
			t.Fatal(p, one, zero, e, f)
		}
	}
	for _, p := range []int32{-1, 4096, math.MinInt32, math.MaxInt32} {
		if wrong, e := mixer.Wrong(p, false); e != api.ErrArg || wrong != 0 {
			t.Error(p, wrong, e)
		}
	}
}

func inputs(r *rand.Rand) []int32 {
	in := make([]int32, 8)
	for i := range in {
		in[i] = int32(r.Intn(4095)) - 2047
		if r.Intn(4) == 0 {
			in[i] = []int32{-2047, 0, 2047}[r.Intn(3)]
		}
	}
	return in
}

func weights(r *rand.Rand, sets int) api.Mixer {
	var m api.Mixer
	for range sets {
		set := make([]int32, 8)
		for i := range set {
			set[i] = int32(r.Uint32()) >> r.Intn(32)
			if r.Intn(5) == 0 {
				set[i] = []int32{math.MinInt32, math.MaxInt32}[r.Intn(2)]
			}
		}
		m.Sets = append(m.Sets, set)
	}
	return m
}

// mixed is the definition of mixing, in numbers without a limit.
func mixed(set, in []int32) int32 {
	sum := new(big.Int)
	for i := range set {
		sum.Add(sum, big.NewInt(int64(set[i])*int64(in[i])))
	}
	if sum.Cmp(big.NewInt(math.MaxInt32)) > 0 {
		sum.SetInt64(math.MaxInt32)
	}
	if sum.Cmp(big.NewInt(math.MinInt32)) < 0 {
		sum.SetInt64(math.MinInt32)
	}
	return int32(min(max(sum.Int64()>>16, -2047), 2047))
}

// learned is the definition of learning.
func learned(set, in []int32, p int32, bit bool) []int32 {
	wrong := -int64(p)
	if bit {
		wrong += 4095
	}
	l := slices.Clone(set)
	for i := range l {
		step := int64(math.Floor(float64(int64(in[i])*wrong*7)/16384 + 0.5))
		l[i] = int32(min(max(int64(l[i])+step, math.MinInt32), math.MaxInt32))
	}
	return l
}

func TestMixAndLearn(t *testing.T) {
	r := rand.New(rand.NewSource(1))
	for range 5000 {
		m, in := weights(r, 3), inputs(r)
		set, bit := r.Intn(3), r.Intn(2) == 1
		before, inBefore := copied(m), slices.Clone(in)
		d, p, e := mixer.Mix(m, set, in)
		if e != api.OK || d != mixed(m.Sets[set], in) || p != squash.Squash(d) {
			t.Fatal(m.Sets[set], in, d, p, e)
		}
		next, e := mixer.Learn(m, set, in, p, bit)
		want := copied(m)
		want.Sets[set] = learned(want.Sets[set], in, p, bit)
		if e != api.OK || !reflect.DeepEqual(next, want) || !reflect.DeepEqual(m, before) || !slices.Equal(in, inBefore) {
			t.Fatal(m.Sets[set], in, p, bit, next.Sets[set], want.Sets[set])
		}
		d2, p2, _ := mixer.Mix(next, set, in)
		if bit && (d2 < d || p2 < p) || !bit && (d2 > d || p2 > p) {
			t.Fatal("a step makes the error greater", m.Sets[set], in, bit, d, d2)
		}
		for i := range m.Sets {
			m.Sets[i][0]++
		}
		if !reflect.DeepEqual(next, want) {
			t.Fatal("memory is shared")
		}
	}
}

func TestZerosTeachNothing(t *testing.T) {
	r := rand.New(rand.NewSource(2))
	m := weights(r, 2)
	in := make([]int32, 8)
	if d, p, e := mixer.Mix(m, 1, in); e != api.OK || d != 0 || p != 2047 {
		t.Error(d, p, e)
	}
	if next, e := mixer.Learn(m, 1, in, 5, true); e != api.OK || !reflect.DeepEqual(next, m) {
		t.Error(e)
	}
	// Any probability can be learned, not only the one that was mixed.
	in[3] = 2047
	for _, p := range []int32{0, 4095} {
		next, e := mixer.Learn(m, 0, in, p, false)
		if e != api.OK || !slices.Equal(next.Sets[0], learned(m.Sets[0], in, p, false)) {
			t.Error(p, e)
		}
	}
}

func TestErrors(t *testing.T) {
	in := make([]int32, 8)
	bad := []api.Mixer{{}, {Sets: make([][]int32, 257)}, {Sets: make([][]int32, 1)}, {Sets: [][]int32{in, in[:7]}}, {Sets: [][]int32{make([]int32, 9), in}}}
	for i := range bad[1].Sets {
		bad[1].Sets[i] = in
	}
	for i, m := range bad {
		if e := mixer.Check(m); e != api.ErrBad {
			t.Error(i, e)
		}
		if d, p, e := mixer.Mix(m, -1, nil); e != api.ErrBad || d != 0 || p != 0 {
			t.Error(i, d, p, e)
		}
		if n, e := mixer.Learn(m, -1, nil, -1, true); e != api.ErrBad || n.Sets != nil {
			t.Error(i, e)
		}
	}
	if e := mixer.Check(api.Mixer{Sets: bad[1].Sets[:256]}); e != api.OK {
		t.Error(e)
	}
	m := fresh(t, 2, 16384)
	for i, c := range []struct {
		set int
		in  []int32
	}{
		{-1, in}, {2, in}, {math.MaxInt, in}, {0, nil}, {0, in[:7]}, {0, make([]int32, 9)},
		{0, []int32{0, 0, 0, 0, 0, 0, 0, 2048}}, {0, []int32{-2048, 0, 0, 0, 0, 0, 0, 0}}, {1, []int32{0, 0, 0, math.MinInt32, 0, 0, 0, 0}},
	} {
		if d, p, e := mixer.Mix(m, c.set, c.in); e != api.ErrArg || d != 0 || p != 0 {
			t.Error(i, d, p, e)
		}
		if n, e := mixer.Learn(m, c.set, c.in, 5, true); e != api.ErrArg || n.Sets != nil {
			t.Error(i, e)
		}
	}
	for _, p := range []int32{-1, 4096} {
		if n, e := mixer.Learn(m, 0, in, p, true); e != api.ErrArg || n.Sets != nil {
			t.Error(p, e)
		}
	}
	ends := []int32{2047, -2047, 2047, -2047, 2047, -2047, 2047, -2047}
	if _, _, e := mixer.Mix(m, 1, ends); e != api.OK {
		t.Error(e)
	}
}
