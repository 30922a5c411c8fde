package final_test

import (
	"math"
	"math/rand"
	"reflect"
	"slices"
	"testing"

	"bitloft/api"
	"bitloft/final"
	"bitloft/hashes"
	"bitloft/refine"
)

func copied(f api.Final) api.Final {
	var c api.Final
	for _, row := range f.First.Rows {
		c.First.Rows = append(c.First.Rows, slices.Clone(row))
	}
	for _, row := range f.Second.Rows {
		c.Second.Rows = append(c.Second.Rows, slices.Clone(row))
	}
	return c
}

func isZero(f api.Final) bool {
	return f.First.Rows == nil && f.Second.Rows == nil
}

func TestNewAndCheck(t *testing.T) {
	f := final.New()
	want, _ := refine.New(256)
	if !reflect.DeepEqual(f.First, want) || !reflect.DeepEqual(f.Second, want) || final.Check(f) != api.OK {
		t.Error("New")
	}
	f.First.Rows[0][0] = 7
	if f.Second.Rows[0][0] == 7 {
		t.Error("the maps share memory")
	}
	short, _ := refine.New(255)
	spoiled := final.New().First
	spoiled.Rows[255][32] = 65536
	for i, bad := range []api.Final{
		{}, {First: want}, {Second: want}, {First: short, Second: want}, {First: want, Second: short},
		{First: spoiled, Second: want}, {First: want, Second: spoiled},
	} {
		if e := final.Check(bad); e != api.ErrBad {
			t.Error(i, e)
		}
		if p, c, e := final.Look(bad, [2]int{-1, 0}, 0, 0); e != api.ErrBad || p != 0 || c != (api.Chosen{}) {
			t.Error(i, p, c, e)
		}
		if x, e := final.Learn(bad, api.Chosen{Rows: [2]int{-1, 0}}, true); e != api.ErrBad || !isZero(x) {
			t.Error(i, e)
		}
	}
}

func TestJoin(t *testing.T) {
	for _, c := range [][4]int32{{2000, 1000, 3000, 1875}, {0, 0, 0, 1}, {4095, 4095, 4095, 4095}, {0, 0, 1, 1}, {1, 1, 1, 1}, {3, 0, 4, 2}} {
		if p, e := final.Join(c[0], c[1], c[2]); e != api.OK || p != c[3] {
			t.Error(c, p, e)
		}
	}
	for p := int32(0); p <= 4095; p += 65 {
		for a := int32(0); a <= 4095; a += 63 {
			last := int32(0)
			for b := int32(0); b <= 4095; b += 91 {
				q, e := final.Join(p, a, b)
				want := min(max(((p+3*a)/4+(p+b)/2+1)/2, 1), 4095)
				more, _ := final.Join(min(p+1, 4095), a, b)
				moreA, _ := final.Join(p, min(a+1, 4095), b)
				if e != api.OK || q != want || q < last || more < q || moreA < q {
					t.Fatal(p, a, b, q, e)
				}
				last = q
			}
		}
	}
	for _, bad := range []int32{-1, 4096, math.MinInt32, math.MaxInt32} {
		for i := range 3 {
			args := [3]int32{5, 6, 7}
			args[i] = bad
			if p, e := final.Join(args[0], args[1], args[2]); e != api.ErrArg || p != 0 {
				t.Error(args, p, e)
			}
		}
	}
}

func TestRows(t *testing.T) {
	r := rand.New(rand.NewSource(1))
	for part := 1; part <= 255; part++ {
		one, two := byte(r.Intn(256)), byte(r.Intn(256))
		h, _ := hashes.Of(7, []byte{two, one, byte(part)})
		if rows, e := final.Rows(one, two, part); e != api.OK || rows != [2]int{part, int(h % 256)} {
			t.Error(one, two, part, rows, e)
		}
	}
	for _, part := range []int{0, -1, 256, math.MinInt, math.MaxInt} {
		if rows, e := final.Rows(1, 2, part); e != api.ErrArg || rows != [2]int{} {
			t.Error(part, rows, e)
		}
	}
}

func TestExample(t *testing.T) {
	p, c, e := final.Look(final.New(), [2]int{1, 1}, 0, 2047)
	if e != api.OK || p != 2047 || c != (api.Chosen{Rows: [2]int{1, 1}, Near: [2]int{16, 16}}) {
		t.Error(p, c, e)
	}
}

func TestLookAndLearn(t *testing.T) {
	r := rand.New(rand.NewSource(2))
	f := final.New()
	for i := range 256 {
		for j := range 33 {
			f.First.Rows[i][j], f.Second.Rows[i][j] = int32(r.Intn(65536)), int32(r.Intn(65536))
		}
	}
	for range 300 {
		rows := [2]int{r.Intn(256), r.Intn(256)}
		d, p, bit := int32(r.Intn(4095))-2047, int32(r.Intn(4096)), r.Intn(2) == 1
		before := copied(f)
		q, c, e := final.Look(f, rows, d, p)
		a, nearA, _ := refine.Look(f.First, rows[0], d)
		b, nearB, _ := refine.Look(f.Second, rows[1], d)
		want, _ := final.Join(p, a, b)
		if e != api.OK || q != want || c != (api.Chosen{Rows: rows, Near: [2]int{nearA, nearB}}) {
			t.Fatal(rows, d, p, q, c, e)
		}
		next, e := final.Learn(f, c, bit)
		first, _ := refine.Learn(f.First, rows[0], nearA, bit)
		second, _ := refine.Learn(f.Second, rows[1], nearB, bit)
		if e != api.OK || !reflect.DeepEqual(next, api.Final{First: first, Second: second}) || !reflect.DeepEqual(f, before) {
			t.Fatal(rows, c, bit, e)
		}
		again, _, _ := final.Look(next, rows, d, p)
		if bit && again < q || !bit && again > q {
			t.Fatal("further away", rows, d, p, bit, q, again)
		}
		f.First.Rows[0][0]++
		f.Second.Rows[0][0]++
		if next.First.Rows[0][0] != first.Rows[0][0] || next.Second.Rows[0][0] != second.Rows[0][0] {
			t.Fatal("memory is shared")
		}
		f = next
	}
}

func TestErrors(t *testing.T) {
	f := final.New()
	for i, c := range []struct {
		rows [2]int
		d, p int32
	}{
		{[2]int{-1, 0}, 0, 0}, {[2]int{256, 0}, 0, 0}, {[2]int{0, -1}, 0, 0}, {[2]int{0, 256}, 0, 0},
		{[2]int{0, 0}, -2048, 0}, {[2]int{0, 0}, 2048, 0}, {[2]int{0, 0}, 0, -1}, {[2]int{0, 0}, 0, 4096},
	} {
		if p, chosen, e := final.Look(f, c.rows, c.d, c.p); e != api.ErrArg || p != 0 || chosen != (api.Chosen{}) {
			t.Error(i, p, chosen, e)
		}
	}
	for i, c := range []api.Chosen{
		{Rows: [2]int{-1, 0}}, {Rows: [2]int{256, 0}}, {Rows: [2]int{0, -1}}, {Rows: [2]int{0, 256}},
		{Near: [2]int{-1, 0}}, {Near: [2]int{33, 0}}, {Near: [2]int{0, -1}}, {Near: [2]int{0, 33}},
	} {
		if x, e := final.Learn(f, c, true); e != api.ErrArg || !isZero(x) {
			t.Error(i, e)
		}
	}
	if p, _, e := final.Look(f, [2]int{255, 255}, 2047, 4095); e != api.OK || p != 4094 {
		t.Error(p, e)
	}
	if p, _, e := final.Look(f, [2]int{255, 255}, -2047, 0); e != api.OK || p != 1 {
		t.Error(p, e)
	}
	if _, e := final.Learn(f, api.Chosen{Rows: [2]int{255, 0}, Near: [2]int{32, 0}}, true); e != api.OK {
		t.Error(e)
	}
}
