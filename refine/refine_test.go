package refine_test

import (
	"math"
	"math/rand"
	"reflect"
	"slices"
	"testing"

	"bitloft/api"
	"bitloft/refine"
	"bitloft/squash"
)

func fresh(t *testing.T, rows int) api.Refiner {
	t.Helper()
	r, e := refine.New(rows)
	if e != api.OK {
		t.Fatal(rows, e)
	}
	return r
}

func copied(r api.Refiner) api.Refiner {
	var c api.Refiner
	for _, row := range r.Rows {
		c.Rows = append(c.Rows, slices.Clone(row))
	}
	return c
}

func filled(random *rand.Rand, rows int) api.Refiner {
	var r api.Refiner
	for range rows {
		row := make([]int32, 33)
		for j := range row {
			row[j] = int32(random.Intn(65536))
			if random.Intn(4) == 0 {
				row[j] = []int32{0, 1, 63, 64, 65471, 65472, 65535}[random.Intn(7)]
			}
		}
		r.Rows = append(r.Rows, row)
	}
	return r
}

func TestNew(t *testing.T) {
	for _, rows := range []int{1, 5, 256} {
		r := fresh(t, rows)
		if len(r.Rows) != rows || refine.Check(r) != api.OK {
			t.Fatal(rows)
		}
		for _, row := range r.Rows {
			if len(row) != 33 {
				t.Fatal(len(row))
			}
			for j, p := range row {
				if p != 16*squash.Squash(int32(128*(j-16))) {
					t.Fatal(j, p)
				}
			}
		}
		r.Rows[0][0] = 99
		if rows > 1 && r.Rows[1][0] == 99 {
			t.Fatal("rows share memory")
		}
	}
	r := fresh(t, 1)
	if r.Rows[0][0] != 0 || r.Rows[0][16] != 32752 || r.Rows[0][32] != 65520 {
		t.Error(r)
	}
	for _, rows := range []int{0, -1, 257, math.MinInt, math.MaxInt} {
		if r, e := refine.New(rows); e != api.ErrArg || r.Rows != nil {
			t.Error(rows, e)
		}
	}
}

func TestExample(t *testing.T) {
	r := fresh(t, 1)
	if p, near, e := refine.Look(r, 0, 0); e != api.OK || p != 2047 || near != 16 {
		t.Error(p, near, e)
	}
	r, e := refine.Learn(r, 0, 16, true)
	if e != api.OK || r.Rows[0][16] != 33264 {
		t.Error(r.Rows[0][16], e)
	}
	if p, near, e := refine.Look(r, 0, 0); e != api.OK || p != 2079 || near != 16 {
		t.Error(p, near, e)
	}
}

func TestLook(t *testing.T) {
	random := rand.New(rand.NewSource(1))
	for range 10 {
		r := filled(random, 4)
		before := copied(r)
		for d := int32(-2047); d <= 2047; d++ {
			row := random.Intn(4)
			p, near, e := refine.Look(r, row, d)
			j, w := (int(d)+2048)/128, (int(d)+2048)%128
			a, b := int(r.Rows[row][j]), int(r.Rows[row][j+1])
			wantNear := j
			if w >= 64 {
				wantNear++
			}
			if e != api.OK || int(p) != ((128-w)*a+w*b)/2048 || near != wantNear {
				t.Fatal(d, p, near, e)
			}
			if int(p) < min(a, b)/16 || int(p) > max(a, b)/16+1 || p < 0 || p > 4095 {
				t.Fatal(d, p, a, b)
			}
		}
		if !reflect.DeepEqual(r, before) {
			t.Fatal("the argument was changed")
		}
	}
	r := fresh(t, 2)
	last := int32(-1)
	for d := int32(-2047); d <= 2047; d++ {
		p, _, _ := refine.Look(r, 1, d)
		if p < last {
			t.Fatal(d, "it falls")
		}
		last = p
	}
}

func TestLearn(t *testing.T) {
	random := rand.New(rand.NewSource(2))
	r := filled(random, 3)
	for range 5000 {
		row, near, bit := random.Intn(3), random.Intn(33), random.Intn(3) == 0
		before := copied(r)
		next, e := refine.Learn(r, row, near, bit)
		want := copied(r)
		p := float64(r.Rows[row][near])
		if bit {
			want.Rows[row][near] += int32(math.Trunc((65535 - p) / 64))
		} else {
			want.Rows[row][near] += int32(math.Trunc(-p / 64))
		}
		if e != api.OK || !reflect.DeepEqual(next, want) || !reflect.DeepEqual(r, before) || refine.Check(next) != api.OK {
			t.Fatal(row, near, bit, p, next.Rows[row][near], e)
		}
		r.Rows[row][0]++
		r.Rows[(row+1)%3][0]++
		if !reflect.DeepEqual(next, want) {
			t.Fatal("memory is shared")
		}
		r = next
	}
}

func TestErrors(t *testing.T) {
	row := make([]int32, 33)
	bad := []api.Refiner{{}, {Rows: make([][]int32, 257)}, {Rows: [][]int32{row, row[:32]}}, {Rows: [][]int32{make([]int32, 34)}}, {Rows: make([][]int32, 1)}}
	for i := range bad[1].Rows {
		bad[1].Rows[i] = row
	}
	for _, p := range []int32{-1, 65536, math.MinInt32, math.MaxInt32} {
		for _, at := range []int{0, 32} {
			spoiled := slices.Clone(row)
			spoiled[at] = p
			bad = append(bad, api.Refiner{Rows: [][]int32{row, spoiled}})
		}
	}
	for i, r := range bad {
		if e := refine.Check(r); e != api.ErrBad {
			t.Error(i, e)
		}
		if p, near, e := refine.Look(r, -1, 5000); e != api.ErrBad || p != 0 || near != 0 {
			t.Error(i, p, near, e)
		}
		if x, e := refine.Learn(r, -1, -1, true); e != api.ErrBad || x.Rows != nil {
			t.Error(i, e)
		}
	}
	if e := refine.Check(api.Refiner{Rows: bad[1].Rows[:256]}); e != api.OK {
		t.Error(e)
	}
	r := fresh(t, 2)
	for _, c := range [][2]int{{-1, 0}, {2, 0}, {math.MaxInt, 0}, {0, -2048}, {0, 2048}, {1, math.MinInt32}} {
		if p, near, e := refine.Look(r, c[0], int32(c[1])); e != api.ErrArg || p != 0 || near != 0 {
			t.Error(c, p, near, e)
		}
	}
	for _, c := range [][2]int{{-1, 0}, {2, 0}, {0, -1}, {0, 33}, {1, math.MaxInt}} {
		if x, e := refine.Learn(r, c[0], c[1], true); e != api.ErrArg || x.Rows != nil {
			t.Error(c, e)
		}
	}
	for _, near := range []int{0, 32} {
		if _, e := refine.Learn(r, 1, near, false); e != api.OK {
			t.Error(near, e)
		}
	}
}
