package predict_test

import (
	"math"
	"math/rand"
	"reflect"
	"slices"
	"testing"

	"bitloft/adapt"
	"bitloft/api"
	"bitloft/context"
	"bitloft/final"
	"bitloft/finder"
	"bitloft/match"
	"bitloft/mixer"
	"bitloft/nibble"
	"bitloft/predict"
	"bitloft/ring"
	"bitloft/slots"
	"bitloft/squash"
)

func fresh(t *testing.T, level int) api.Predictor {
	t.Helper()
	x, e := predict.New(level)
	if e != api.OK {
		t.Fatal(level, e)
	}
	return x
}

func rows(l [][]int32) [][]int32 {
	var c [][]int32
	for _, row := range l {
		c = append(c, slices.Clone(row))
	}
	return c
}

func copied(x api.Predictor) api.Predictor {
	c := x
	c.Ring.Bytes = slices.Clone(x.Ring.Bytes)
	c.Finder.Seen = slices.Clone(x.Finder.Seen)
	c.Tables, c.Maps = nil, nil
	for i := range x.Tables {
		c.Tables = append(c.Tables, api.Table{Level: x.Tables[i].Level, Slots: slices.Clone(x.Tables[i].Slots)})
	}
	for i := range x.Maps {
		c.Maps = append(c.Maps, api.Adapt{Limit: x.Maps[i].Limit, P: slices.Clone(x.Maps[i].P), N: slices.Clone(x.Maps[i].N)})
	}
	c.Mixer.Sets = rows(x.Mixer.Sets)
	c.Final.First.Rows, c.Final.Second.Rows = rows(x.Final.First.Rows), rows(x.Final.Second.Rows)
	return c
}

func isZero(x api.Predictor) bool {
	return reflect.DeepEqual(x, api.Predictor{})
}

func bitsOf(s string) []bool {
	var l []bool
	for _, c := range []byte(s) {
		for k := range 8 {
			l = append(l, c>>(7-k)&1 == 1)
		}
	}
	return l
}

// model is the definition, by the functions of the layers below, with all of their copies.
type model struct {
	t *testing.T
	x api.Predictor
}

func (m *model) must(e api.Errno) {
	m.t.Helper()
	if e != api.OK {
		m.t.Fatal(e)
	}
}

func newModel(t *testing.T, level int) *model {
	m := &model{t: t}
	var e api.Errno
	m.x.Level, m.x.Match, m.x.Walk, m.x.Final = level, match.New(), nibble.New(), final.New()
	m.x.Ring, e = ring.New(level)
	m.must(e)
	m.x.Finder, e = finder.New(level)
	m.must(e)
	m.x.Mixer, e = mixer.New(256, 16384)
	m.must(e)
	for range 6 {
		table, e := slots.New(level)
		m.must(e)
		a, e := adapt.New(255)
		m.must(e)
		m.x.Tables, m.x.Maps = append(m.x.Tables, table), append(m.x.Maps, a)
	}
	m.x.Marks, e = context.Of(m.x.Ring)
	m.must(e)
	m.find()
	return m
}

func (m *model) find() {
	for i, mark := range m.x.Marks {
		second, e := nibble.Second(m.x.Walk)
		m.must(e)
		if second {
			mark, e = context.Deep(mark, m.x.Walk.Part)
			m.must(e)
		}
		m.x.Tables[i], m.x.Slots[i], e = slots.Find(m.x.Tables[i], mark)
		m.must(e)
	}
}

func (m *model) inputs() []int32 {
	var in []int32
	node, e := nibble.Node(m.x.Walk)
	m.must(e)
	for i := range 6 {
		s, e := slots.Get(m.x.Tables[i], m.x.Slots[i], node)
		m.must(e)
		p, e := adapt.P(m.x.Maps[i], s)
		m.must(e)
		in = append(in, squash.Stretch(p/16))
	}
	n, e := match.Input(m.x.Match, m.x.Ring, m.x.Walk)
	m.must(e)
	return append(in, n, 256)
}

func (m *model) update(bit bool) int {
	in := m.inputs()
	d, p, e := mixer.Mix(m.x.Mixer, m.x.Walk.Part, in)
	m.must(e)
	one, two, e := context.Recent(m.x.Ring)
	m.must(e)
	rows, e := final.Rows(one, two, m.x.Walk.Part)
	m.must(e)
	q, chosen, e := final.Look(m.x.Final, rows, d, p)
	m.must(e)
	number := uint8(0)
	if bit {
		number = 1
	}
	node, _ := nibble.Node(m.x.Walk)
	for i := range 6 {
		s, _ := slots.Get(m.x.Tables[i], m.x.Slots[i], node)
		m.x.Maps[i], e = adapt.Update(m.x.Maps[i], s, number)
		m.must(e)
		m.x.Tables[i], e = slots.Bit(m.x.Tables[i], m.x.Slots[i], node, number)
		m.must(e)
	}
	m.x.Mixer, e = mixer.Learn(m.x.Mixer, m.x.Walk.Part, in, p, bit)
	m.must(e)
	m.x.Final, e = final.Learn(m.x.Final, chosen, bit)
	m.must(e)
	next, done, b, e := nibble.Step(m.x.Walk, bit)
	m.must(e)
	m.x.Walk = next
	if done {
		m.x.Match, m.x.Ring, m.x.Finder, e = match.Byte(m.x.Match, m.x.Ring, m.x.Finder, b)
		m.must(e)
		m.x.Marks, e = context.Of(m.x.Ring)
		m.must(e)
	}
	if bits, _ := nibble.Bits(next); done || len(bits) == 4 {
		m.find()
	}
	return int(q)
}

func TestAgainstTheLayersBelow(t *testing.T) {
	r := rand.New(rand.NewSource(1))
	noise := make([]byte, 40)
	r.Read(noise)
	for level, text := range []string{"the cat and the hat and the cat and " + string(noise), string(noise) + string(noise), "aaaaaaaaaaaaaaabaaaaaaaaaaaaaaab", "The thE"} {
		level *= 2
		m, x := newModel(t, level), fresh(t, level)
		if !reflect.DeepEqual(m.x, x) {
			t.Fatal("a new predictor", level)
		}
		for i, bit := range bitsOf(text) {
			in, e := predict.Inputs(x)
			if e != api.OK || !slices.Equal(in, m.inputs()) {
				t.Fatal(level, i, in, e)
			}
			p, e := predict.P(x)
			next, f := predict.Update(x, bit)
			if want := m.update(bit); e != api.OK || f != api.OK || p != want {
				t.Fatal(level, i, p, want, e, f)
			}
			if !reflect.DeepEqual(next, m.x) {
				t.Fatal("another state", level, i)
			}
			x = next
		}
	}
}

func TestNew(t *testing.T) {
	for level := 0; level <= 7; level++ {
		x := fresh(t, level)
		if e := predict.Check(x); e != api.OK || x.Level != level || !reflect.DeepEqual(x, newModel(t, level).x) {
			t.Fatal(level, e)
		}
		in, e := predict.Inputs(x)
		if e != api.OK || !slices.Equal(in, []int32{1, 1, 1, 1, 1, 1, 0, 256}) {
			t.Error(in, e)
		}
		if p, e := predict.P(x); e != api.OK || p < 2048-300 || p > 2048+300 {
			t.Error(p, e)
		}
	}
	for _, level := range []int{-1, 8, math.MinInt, math.MaxInt} {
		if x, e := predict.New(level); e != api.ErrArg || !isZero(x) {
			t.Error(level, e)
		}
	}
}

func TestLongRunsOfOneBit(t *testing.T) {
	for level := 0; level <= 7; level += 7 {
		for _, bit := range []bool{false, true} {
			x, probs, e := predict.Run(fresh(t, level), slices.Repeat([]bool{bit}, 200))
			p, f := predict.P(x)
			if e != api.OK || f != api.OK || len(probs) != 200 || !bit && p >= 300 || bit && p <= 3700 {
				t.Error(level, bit, p, e, f)
			}
		}
	}
}

func TestRunInParts(t *testing.T) {
	r := rand.New(rand.NewSource(3))
	bits := make([]bool, api.MaxBits)
	for i := range bits {
		bits[i] = r.Intn(3) == 0
	}
	x := fresh(t, 1)
	start := copied(x)
	whole, probs, e := predict.Run(x, bits)
	if e != api.OK || !reflect.DeepEqual(x, start) || len(probs) != len(bits) || predict.Check(whole) != api.OK {
		t.Fatal(e)
	}
	for _, p := range probs {
		if p < 1 || p > 4095 {
			t.Fatal(p)
		}
	}
	for _, k := range []int{0, 1, 777, 2000} {
		half, first, e := predict.Run(x, bits[:k])
		if e != api.OK {
			t.Fatal(e)
		}
		other, second, e := predict.Run(half, bits[k:])
		if e != api.OK || !reflect.DeepEqual(other, whole) || !slices.Equal(append(first, second...), probs) {
			t.Fatal(k, e)
		}
	}
	one := x
	for i, bit := range bits[:100] {
		if p, _ := predict.P(one); p != probs[i] {
			t.Fatal(i, p)
		}
		one, _ = predict.Update(one, bit)
	}
	if want, _, _ := predict.Run(x, bits[:100]); !reflect.DeepEqual(one, want) {
		t.Error("updates are not a run")
	}
	if y, probs, e := predict.Run(x, append(bits, true)); e != api.ErrMany || probs != nil || !isZero(y) {
		t.Error(e)
	}
}

func TestNoSharedMemory(t *testing.T) {
	for _, n := range []int{1, 4, 8, 16, 60} {
		x, _, _ := predict.Run(fresh(t, 0), bitsOf("abcabcab"))
		before := copied(x)
		next, _, e := predict.Run(x, bitsOf("cabcabca")[:n])
		if e != api.OK || !reflect.DeepEqual(x, before) {
			t.Fatal(n, e)
		}
		want := copied(next)
		for i := range 6 {
			for j := range x.Tables[i].Slots {
				x.Tables[i].Slots[j].Check++
			}
			for j := range x.Maps[i].P {
				x.Maps[i].P[j]++
				x.Maps[i].N[j]++
			}
			x.Tables[i].Level, x.Maps[i].Limit = 77, 77
		}
		for i := range 256 {
			for j := range 8 {
				x.Mixer.Sets[i][j]++
			}
			for j := range 33 {
				x.Final.First.Rows[i][j]++
				x.Final.Second.Rows[i][j]++
			}
		}
		for i := range 64 {
			x.Ring.Bytes[i]++
			x.Finder.Seen[i]++
		}
		x.Mixer.Sets[3], x.Final.First.Rows[3], x.Final.Second.Rows[3] = nil, nil, nil
		if !reflect.DeepEqual(next, want) {
			t.Fatal("memory is shared", n)
		}
	}
	x := fresh(t, 0)
	x.Mixer.Sets[0][0], x.Final.First.Rows[0][0] = 5, 5
	if x.Mixer.Sets[1][0] != 16384 || x.Final.Second.Rows[0][0] == 5 || x.Final.First.Rows[1][0] == 5 {
		t.Error("parts share memory")
	}
}

func TestCheck(t *testing.T) {
	start, _, e := predict.Run(fresh(t, 1), bitsOf("abcdabcdabcd")[:93])
	if e != api.OK {
		t.Fatal(e)
	}
	for i, spoil := range []func(x *api.Predictor){
		func(x *api.Predictor) { *x = api.Predictor{} },
		func(x *api.Predictor) { x.Level = 2 },
		func(x *api.Predictor) { x.Level = -1 },
		func(x *api.Predictor) { x.Level = math.MaxInt },
		func(x *api.Predictor) { x.Ring, _ = ring.New(2) },
		func(x *api.Predictor) { x.Ring.N = -1 },
		func(x *api.Predictor) { x.Ring.Bytes[127] = 1 },
		func(x *api.Predictor) { x.Ring.Bytes[10]++ },
		func(x *api.Predictor) { x.Finder, _ = finder.New(2) },
		func(x *api.Predictor) { x.Finder.Seen[5] = -2 },
		func(x *api.Predictor) { x.Tables = x.Tables[:5] },
		func(x *api.Predictor) { x.Tables = append(x.Tables, x.Tables[0]) },
		func(x *api.Predictor) { x.Tables = nil },
		func(x *api.Predictor) { x.Tables[5], _ = slots.New(0) },
		func(x *api.Predictor) { x.Tables[0], _ = slots.New(2) },
		func(x *api.Predictor) { x.Tables[3].Slots[31].States[14] = 193 },
		func(x *api.Predictor) { x.Maps = x.Maps[:5] },
		func(x *api.Predictor) { x.Maps = append(x.Maps, x.Maps[0]) },
		func(x *api.Predictor) { x.Maps[0].Limit = 254 },
		func(x *api.Predictor) { x.Maps[5].Limit = 256 },
		func(x *api.Predictor) { x.Maps[5].P[192] = 65536 },
		func(x *api.Predictor) { x.Mixer, _ = mixer.New(255, 16384) },
		func(x *api.Predictor) { x.Mixer.Sets = nil },
		func(x *api.Predictor) { x.Mixer.Sets[255] = x.Mixer.Sets[255][:7] },
		func(x *api.Predictor) { x.Final.First.Rows = x.Final.First.Rows[:255] },
		func(x *api.Predictor) { x.Final.Second.Rows[255][32] = -1 },
		func(x *api.Predictor) { x.Match = api.Match{} },
		func(x *api.Predictor) { x.Match = api.Match{At: 3, Len: 41} },
		func(x *api.Predictor) { x.Walk = api.Walk{} },
		func(x *api.Predictor) { x.Walk.Part = 256 },
		func(x *api.Predictor) { x.Marks[0]++ },
		func(x *api.Predictor) { x.Marks[5]++ },
		func(x *api.Predictor) { x.Slots[0] = -1 },
		func(x *api.Predictor) { x.Slots[5] = 32 },
	} {
		x := copied(start)
		spoil(&x)
		if e := predict.Check(x); e != api.ErrBad {
			t.Error(i, e)
		}
		if p, e := predict.P(x); e != api.ErrBad || p != 0 {
			t.Error(i, p, e)
		}
		if in, e := predict.Inputs(x); e != api.ErrBad || in != nil {
			t.Error(i, in, e)
		}
		if y, e := predict.Update(x, true); e != api.ErrBad || !isZero(y) {
			t.Error(i, e)
		}
		if y, probs, e := predict.Run(x, make([]bool, 3000)); e != api.ErrBad || probs != nil || !isZero(y) {
			t.Error(i, e)
		}
	}
	if e := predict.Check(start); e != api.OK {
		t.Error(e)
	}
}

func TestOtherValidStates(t *testing.T) {
	// Slots need not be those that were found, and weights may be any numbers.
	r := rand.New(rand.NewSource(4))
	x := fresh(t, 0)
	for i := range 6 {
		x.Slots[i] = r.Intn(16)
		for j := range x.Tables[i].Slots {
			x.Tables[i].Slots[j] = api.Slot{Check: uint8(r.Intn(256)), States: [15]uint8{uint8(r.Intn(193)), uint8(r.Intn(193)), 192}}
		}
	}
	for i := range x.Mixer.Sets {
		for j := range 8 {
			x.Mixer.Sets[i][j] = int32(r.Uint32())
		}
	}
	x.Match = api.Match{At: 1000, Len: 40}
	m := &model{t: t, x: copied(x)}
	for i, bit := range bitsOf("some text") {
		p, e := predict.P(x)
		next, f := predict.Update(x, bit)
		if want := m.update(bit); e != api.OK || f != api.OK || p != want || !reflect.DeepEqual(next, m.x) {
			t.Fatal(i, p, want, e, f)
		}
		x = next
	}
}

func TestFullRing(t *testing.T) {
	x := fresh(t, 0)
	x.Ring.N = api.MaxPut - 1
	x, _, e := predict.Run(x, bitsOf("\x00"))
	if e != api.OK || x.Ring.N != api.MaxPut {
		t.Fatal(x.Ring.N, e)
	}
	x, probs, e := predict.Run(x, make([]bool, 7))
	if e != api.OK || len(probs) != 7 {
		t.Fatal(e)
	}
	if y, e := predict.Update(x, true); e != api.ErrRange || !isZero(y) {
		t.Error(e)
	}
	if y, probs, e := predict.Run(x, make([]bool, 5)); e != api.ErrRange || probs != nil || !isZero(y) {
		t.Error(e)
	}
	if p, e := predict.P(x); e != api.OK || p < 1 {
		t.Error(p, e)
	}
}
