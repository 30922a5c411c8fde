package agree

import (
	"math/rand"
	"testing"

	"bitloft/adapt"
	"bitloft/api"
	"bitloft/finder"
	"bitloft/hashes"
	"bitloft/ring"
	"bitloft/slots"
)

func TestWhatIsFoundWasPut(t *testing.T) {
	r, _ := ring.New(2)
	f, _ := finder.New(2)
	random := rand.New(rand.NewSource(1))
	var all []byte
	for range 2000 {
		b := "abc"[random.Intn(3)]
		all = append(all, b)
		r, _ = ring.Put(r, []byte{b})
		last, e := ring.Last(r, min(3, r.N))
		if e != api.OK {
			t.Fatal(e)
		}
		h, _ := hashes.Of(6, last)
		n, e := finder.Find(f, h)
		if e != api.OK || n < -1 || n >= len(all) {
			t.Fatal(n, e)
		}
		if n >= 0 {
			k, e := finder.Length(r, n, 10)
			if e != api.OK || string(all[n-k:n]) != string(all[len(all)-k:]) {
				t.Fatal(n, k, e)
			}
		}
		f, _ = finder.Put(f, h, r.N)
	}
}

func TestWhatIsLearnedGoesTowardsItsBit(t *testing.T) {
	m, _ := adapt.New(255)
	table, _ := slots.New(0)
	table, place, e := slots.Find(table, 12345)
	if e != api.OK {
		t.Fatal(e)
	}
	random := rand.New(rand.NewSource(2))
	for range 2000 {
		bit := uint8(random.Intn(5) / 4)
		state, _ := slots.Get(table, place, 1)
		before, _ := adapt.P(m, state)
		m, _ = adapt.Update(m, state, bit)
		after, _ := adapt.P(m, state)
		if bit == 1 && after < before || bit == 0 && after >= before && before > 0 {
			t.Fatal(state, bit, before, after)
		}
		var e api.Errno
		if table, e = slots.Bit(table, place, 1, bit); e != api.OK {
			t.Fatal(e)
		}
		if _, again, _ := slots.Find(table, 12345); again != place {
			t.Fatal(again)
		}
	}
}
