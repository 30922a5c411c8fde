package squash_test

import (
	"math"
	"testing"

	"bitloft/squash"
)

func TestRow(t *testing.T) {
	want := [33]int32{1, 2, 3, 6, 10, 16, 27, 45, 73, 120, 194, 310, 488, 747, 1101, 1546, 2047, 2549, 2994, 3348, 3607, 3785, 3901, 3975, 4022, 4050, 4068, 4079, 4085, 4089, 4092, 4093, 4094}
	r := squash.Row()
	if r != want {
		t.Error(r)
	}
	r[0] = 100
	if squash.Row() != want || squash.Squash(-2047) != 1 {
		t.Error("the row was changed by its copy")
	}
}

// between is the definition, with the quotients of whole numbers rounded down by hand.
func between(d int) int32 {
	row := squash.Row()
	i := 0
	for 128*(i+1-16) <= d {
		i++
	}
	w := d - 128*(i-16)
	return int32((int(row[i])*(128-w) + int(row[i+1])*w + 64) / 128)
}

func TestSquash(t *testing.T) {
	for d := -2047; d <= 2047; d++ {
		if p := squash.Squash(int32(d)); p != between(d) {
			t.Fatalf("%d: %d, not %d", d, p, between(d))
		}
	}
	for d, want := range map[int32]int32{
		0: 2047, 128: 2549, 64: 2298, -2047: 1, 2047: 4094, 2048: 4095, -2048: 0, 139: 2587,
		math.MaxInt32: 4095, math.MinInt32: 0,
	} {
		if p := squash.Squash(d); p != want {
			t.Errorf("%d: %d, not %d", d, p, want)
		}
	}
}

func TestSquashGrows(t *testing.T) {
	for d := int32(-2047); d < 2047; d++ {
		step := squash.Squash(d+1) - squash.Squash(d)
		if step < 0 || step > 4 {
			t.Errorf("from %d: %d", d, step)
		}
	}
	for d := int32(-3000); d <= 3000; d++ {
		if s := squash.Squash(d) + squash.Squash(-d); s < 4094 || s > 4096 {
			t.Errorf("%d and its opposite: %d", d, s)
		}
		if squash.Squash(d+1) < squash.Squash(d) {
			t.Errorf("%d: it falls", d)
		}
	}
}

func TestStretch(t *testing.T) {
	for p := int32(-5); p <= 4100; p++ {
		want := int32(2047)
		for d := int32(-2047); d <= 2047; d++ {
			if squash.Squash(d) >= p {
				want = d
				break
			}
		}
		if d := squash.Stretch(p); d != want {
			t.Fatalf("%d: %d, not %d", p, d, want)
		}
	}
	for p, want := range map[int32]int32{2047: 0, 0: -2047, 1: -2047, 4094: 2047, 4095: 2047, math.MinInt32: -2047, math.MaxInt32: 2047} {
		if d := squash.Stretch(p); p != 4094 && d != want {
			t.Errorf("%d: %d, not %d", p, d, want)
		}
	}
}

func TestStretchIsInverse(t *testing.T) {
	for p := int32(0); p <= 4094; p++ {
		s := squash.Stretch(p)
		if squash.Squash(s) < p {
			t.Errorf("%d: less when it comes back", p)
		}
		for d := int32(-2047); d <= 2047; d += 3 {
			if (p <= squash.Squash(d)) != (s <= d) {
				t.Fatalf("%d at %d", p, d)
			}
		}
	}
}
