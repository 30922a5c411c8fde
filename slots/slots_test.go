package slots_test

import (
	"math"
	"math/rand"
	"slices"
	"testing"

	"bitloft/api"
	"bitloft/slots"
	"bitloft/states"
)

func fresh(t *testing.T, level int) api.Table {
	t.Helper()
	table, e := slots.New(level)
	if e != api.OK {
		t.Fatal(level, e)
	}
	return table
}

func copied(t api.Table) api.Table {
	return api.Table{Level: t.Level, Slots: slices.Clone(t.Slots)}
}

func same(a, b api.Table) bool {
	return a.Level == b.Level && slices.Equal(a.Slots, b.Slots)
}

func isZero(t api.Table) bool {
	return t.Level == 0 && len(t.Slots) == 0
}

// filled is a table of any checks and states.
func filled(t *testing.T, level int, seed int64) api.Table {
	t.Helper()
	r := rand.New(rand.NewSource(seed))
	table := fresh(t, level)
	for i := range table.Slots {
		table.Slots[i].Check = uint8(r.Intn(6))
		for j := range table.Slots[i].States {
			table.Slots[i].States[j] = uint8(r.Intn(193))
		}
	}
	return table
}

func TestNew(t *testing.T) {
	for level := 0; level <= 7; level++ {
		table := fresh(t, level)
		if table.Level != level || !slices.Equal(table.Slots, make([]api.Slot, 16<<level)) || slots.Check(table) != api.OK {
			t.Error(level)
		}
	}
	for _, level := range []int{-1, 8, math.MinInt, math.MaxInt} {
		if table, e := slots.New(level); e != api.ErrArg || !isZero(table) {
			t.Error(level, e)
		}
	}
}

func TestCheck(t *testing.T) {
	spoiled := []api.Table{
		{}, {Level: 1, Slots: make([]api.Slot, 16)}, {Slots: make([]api.Slot, 15)}, {Slots: make([]api.Slot, 17)},
		{Level: -1, Slots: make([]api.Slot, 8)}, {Level: 8, Slots: make([]api.Slot, 4096)}, {Level: math.MinInt}, {Level: math.MaxInt},
	}
	for _, at := range [][2]int{{0, 0}, {15, 14}, {7, 3}} {
		table := fresh(t, 0)
		table.Slots[at[0]].States[at[1]] = 193
		spoiled = append(spoiled, table)
		table = copied(table)
		table.Slots[at[0]].States[at[1]] = 192
		if e := slots.Check(table); e != api.OK {
			t.Error(at, e)
		}
	}
	for i, table := range spoiled {
		if e := slots.Check(table); e != api.ErrBad {
			t.Error(i, e)
		}
		if x, p, e := slots.Find(table, 5); e != api.ErrBad || p != 0 || !isZero(x) {
			t.Error(i, "Find", p, e)
		}
		if s, e := slots.Get(table, -1, 0); e != api.ErrBad || s != 0 {
			t.Error(i, "Get", s, e)
		}
		if x, e := slots.Set(table, -1, 0, 255); e != api.ErrBad || !isZero(x) {
			t.Error(i, "Set", e)
		}
		if x, e := slots.Bit(table, -1, 0, 2); e != api.ErrBad || !isZero(x) {
			t.Error(i, "Bit", e)
		}
	}
}

func TestExample(t *testing.T) {
	table, p, e := slots.Find(fresh(t, 0), 1<<24+5)
	if e != api.OK || p != 5 || table.Slots[5] != (api.Slot{Check: 1}) {
		t.Fatal(p, e)
	}
	table, e = slots.Bit(table, 5, 1, 1)
	if e != api.OK {
		t.Fatal(e)
	}
	table, p, e = slots.Find(table, 1<<25+5)
	if e != api.OK || p != 4 || table.Slots[4] != (api.Slot{Check: 2}) {
		t.Fatal(p, e)
	}
	table, p, e = slots.Find(table, 1<<24+5)
	if s, _ := slots.Get(table, p, 1); e != api.OK || p != 5 || s != 97 {
		t.Fatal(p, e, s)
	}
}

// wanted is the definition of finding.
func wanted(t api.Table, h uint32) (api.Table, int) {
	p := int(h % uint32(len(t.Slots)))
	q := p + 1 - 2*(p%2)
	check := uint8(h / (1 << 24))
	if t.Slots[p].Check == check {
		return t, p
	}
	if t.Slots[q].Check == check {
		return t, q
	}
	a, _ := states.Total(t.Slots[p].States[0])
	b, _ := states.Total(t.Slots[q].States[0])
	if b < a {
		p = q
	}
	x := copied(t)
	x.Slots[p] = api.Slot{Check: check}
	return x, p
}

func TestFind(t *testing.T) {
	r := rand.New(rand.NewSource(1))
	for level := 0; level <= 7; level++ {
		table := filled(t, level, int64(level))
		for range 400 {
			h := uint32(r.Intn(9))<<24 | uint32(r.Intn(1<<24))
			before := copied(table)
			next, p, e := slots.Find(table, h)
			want, place := wanted(table, h)
			if e != api.OK || p != place || !same(next, want) || !same(table, before) {
				t.Fatal(level, h, p, place, e)
			}
			again, q, e := slots.Find(next, h)
			if e != api.OK || q != p || !same(again, next) || next.Slots[p].Check != uint8(h>>24) {
				t.Fatal(level, h, p, q, e)
			}
			table.Slots[p].Check++
			if !same(next, want) && !same(want, table) {
				t.Fatal("memory is shared")
			}
			table = next
		}
	}
}

func TestEqualPriority(t *testing.T) {
	// Where both have the same priority, the slot at the place itself is cleared.
	for _, place := range []uint32{6, 7} {
		table := fresh(t, 0)
		table.Slots[6] = api.Slot{Check: 1, States: [15]uint8{1, 192}}
		table.Slots[7] = api.Slot{Check: 2, States: [15]uint8{97, 1}}
		next, p, e := slots.Find(table, 3<<24+place)
		if e != api.OK || p != int(place) || next.Slots[p] != (api.Slot{Check: 3}) || next.Slots[p^1] != table.Slots[p^1] {
			t.Error(place, p, e)
		}
	}
}

func TestGetSetBit(t *testing.T) {
	r := rand.New(rand.NewSource(2))
	table := filled(t, 1, 9)
	for range 1000 {
		place, node, state, bit := r.Intn(32), 1+r.Intn(15), uint8(r.Intn(193)), uint8(r.Intn(2))
		before := copied(table)
		old, e := slots.Get(table, place, node)
		if e != api.OK || old != table.Slots[place].States[node-1] {
			t.Fatal(place, node, old, e)
		}
		set, e := slots.Set(table, place, node, state)
		want := copied(table)
		want.Slots[place].States[node-1] = state
		if e != api.OK || !same(set, want) || !same(table, before) {
			t.Fatal(place, node, state, e)
		}
		moved, e := slots.Bit(table, place, node, bit)
		want.Slots[place].States[node-1], _ = states.Next(old, bit)
		if e != api.OK || !same(moved, want) || !same(table, before) {
			t.Fatal(place, node, bit, e)
		}
		table.Slots[0].Check++
		if !same(moved, want) || set.Slots[0].Check != before.Slots[0].Check {
			t.Fatal("memory is shared")
		}
		table = moved
	}
}

func TestErrors(t *testing.T) {
	table := fresh(t, 0)
	for _, at := range [][2]int{{-1, 1}, {16, 1}, {0, 0}, {0, 16}, {0, -1}, {math.MaxInt, 1}, {3, math.MinInt}} {
		if s, e := slots.Get(table, at[0], at[1]); e != api.ErrArg || s != 0 {
			t.Error(at, s, e)
		}
		if x, e := slots.Set(table, at[0], at[1], 0); e != api.ErrArg || !isZero(x) {
			t.Error(at, e)
		}
		if x, e := slots.Bit(table, at[0], at[1], 0); e != api.ErrArg || !isZero(x) {
			t.Error(at, e)
		}
	}
	for _, at := range [][2]int{{0, 1}, {15, 15}} {
		if _, e := slots.Get(table, at[0], at[1]); e != api.OK {
			t.Error(at, e)
		}
	}
	if x, e := slots.Set(table, 0, 1, 193); e != api.ErrArg || !isZero(x) {
		t.Error(e)
	}
	if x, e := slots.Set(table, 0, 1, 192); e != api.OK || x.Slots[0].States[0] != 192 {
		t.Error(e)
	}
	if x, e := slots.Bit(table, 0, 1, 2); e != api.ErrArg || !isZero(x) {
		t.Error(e)
	}
}
