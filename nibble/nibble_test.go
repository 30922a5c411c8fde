package nibble_test

import (
	"math"
	"slices"
	"strings"
	"testing"

	"bitloft/api"
	"bitloft/nibble"
)

// read are the bits of a walk, from its definition.
func read(part int) []bool {
	var l []bool
	for ; part > 1; part /= 2 {
		l = append([]bool{part%2 == 1}, l...)
	}
	return l
}

// number is a 1 with some bits behind it.
func number(bits []bool) int {
	n := 1
	for _, bit := range bits {
		n *= 2
		if bit {
			n++
		}
	}
	return n
}

func TestWalks(t *testing.T) {
	if w := nibble.New(); w != (api.Walk{Part: 1}) {
		t.Error(w)
	}
	for part := 1; part <= 255; part++ {
		w := api.Walk{Part: part}
		if e := nibble.Check(w); e != api.OK {
			t.Error(part, e)
		}
		bits := read(part)
		nibbleBits := bits
		if len(bits) >= 4 {
			nibbleBits = bits[4:]
		}
		if n, e := nibble.Node(w); e != api.OK || n != number(nibbleBits) || n < 1 || n > 15 {
			t.Error(part, n, e)
		}
		if second, e := nibble.Second(w); e != api.OK || second != (len(bits) >= 4) {
			t.Error(part, second, e)
		}
		got, e := nibble.Bits(w)
		if e != api.OK || !slices.Equal(got, bits) {
			t.Error(part, got, e)
		}
		if back, e := nibble.Of(got); e != api.OK || back != w {
			t.Error(part, back, e)
		}
	}
}

func TestInvalidWalks(t *testing.T) {
	for _, part := range []int{0, -1, 256, 257, math.MinInt, math.MaxInt} {
		w := api.Walk{Part: part}
		if e := nibble.Check(w); e != api.ErrBad {
			t.Error(part, e)
		}
		if next, done, b, e := nibble.Step(w, true); e != api.ErrBad || next != (api.Walk{}) || done || b != 0 {
			t.Error(part, next, done, b, e)
		}
		if n, e := nibble.Node(w); e != api.ErrBad || n != 0 {
			t.Error(part, n, e)
		}
		if second, e := nibble.Second(w); e != api.ErrBad || second {
			t.Error(part, second, e)
		}
		if bits, e := nibble.Bits(w); e != api.ErrBad || bits != nil {
			t.Error(part, bits, e)
		}
	}
}

func TestStep(t *testing.T) {
	for part := 1; part <= 255; part++ {
		for _, bit := range []bool{false, true} {
			next, done, b, e := nibble.Step(api.Walk{Part: part}, bit)
			want := number(append(read(part), bit))
			if e != api.OK || done != (part >= 128) {
				t.Fatal(part, done, e)
			}
			if done && (next != api.Walk{Part: 1} || int(b) != want-256) || !done && (next.Part != want || b != 0) {
				t.Error(part, bit, next, b)
			}
		}
	}
}

func TestEightStepsGiveTheByte(t *testing.T) {
	for c := range 256 {
		w := nibble.New()
		path := nibble.Path(byte(c))
		for i := range 8 {
			if n, _ := nibble.Node(w); n != path[i] {
				t.Fatal(c, i, n, path)
			}
			next, done, b, e := nibble.Step(w, c>>(7-i)&1 == 1)
			if e != api.OK || done != (i == 7) || done && int(b) != c {
				t.Fatal(c, i, done, b, e)
			}
			w = next
		}
		if w != nibble.New() {
			t.Fatal(c, w)
		}
	}
}

func TestExamples(t *testing.T) {
	if p := nibble.Path(165); p != [8]int{1, 3, 6, 13, 1, 2, 5, 10} {
		t.Error(p)
	}
	w, e := nibble.Of([]bool{true, false, true, false, false})
	if e != api.OK || w.Part != 52 {
		t.Error(w, e)
	}
	if n, _ := nibble.Node(w); n != 2 {
		t.Error(n)
	}
	if second, _ := nibble.Second(w); !second {
		t.Error(second)
	}
}

func TestOf(t *testing.T) {
	seven := slices.Repeat([]bool{true}, 8)
	before := slices.Clone(seven)
	if w, e := nibble.Of(seven[:7]); e != api.OK || w.Part != 255 {
		t.Error(w, e)
	}
	if w, e := nibble.Of(nil); e != api.OK || w.Part != 1 {
		t.Error(w, e)
	}
	if w, e := nibble.Of(seven); e != api.ErrMany || w != (api.Walk{}) {
		t.Error(w, e)
	}
	if !slices.Equal(seven, before) {
		t.Error("the argument was changed")
	}
}

func TestNodesOfANibbleDiffer(t *testing.T) {
	seen := map[string]bool{}
	for part := 1; part <= 255; part++ {
		w := api.Walk{Part: part}
		second, _ := nibble.Second(w)
		n, _ := nibble.Node(w)
		bits := read(part)
		first := ""
		if second {
			for _, bit := range bits[:4] {
				first += map[bool]string{false: "0", true: "1"}[bit]
			}
		}
		key := first + "/" + strings.Repeat("x", n)
		if seen[key] {
			t.Error("two walks of a nibble have the same node", part)
		}
		seen[key] = true
	}
}
