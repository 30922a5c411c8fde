package agree

import (
	"testing"

	"bitloft/api"
	"bitloft/context"
	"bitloft/final"
	"bitloft/finder"
	"bitloft/match"
	"bitloft/mixer"
	"bitloft/nibble"
	"bitloft/ring"
	"bitloft/squash"
)

// TestMixingLearnsARepeatedText puts the layers 13 to 18 together, without slots: the match alone has to teach the mixer.
func TestMixingLearnsARepeatedText(t *testing.T) {
	r, _ := ring.New(3)
	f, _ := finder.New(3)
	m := match.New()
	mix, _ := mixer.New(api.MaxSets, 16384)
	last := final.New()
	text := []byte("one two three, ")
	wrong := 0
	for i := range 25 * len(text) {
		b := text[i%len(text)]
		one, two, e := context.Recent(r)
		if e != api.OK {
			t.Fatal(e)
		}
		w := nibble.New()
		for k := range 8 {
			bit := b>>(7-k)&1 == 1
			n, e := match.Input(m, r, w)
			if e != api.OK || n < -2000 || n > 2000 {
				t.Fatal(n, e)
			}
			in := []int32{0, 0, 0, 0, 0, 0, n, 256}
			d, p, e := mixer.Mix(mix, w.Part, in)
			if e != api.OK || p != squash.Squash(d) {
				t.Fatal(d, p, e)
			}
			rows, _ := final.Rows(one, two, w.Part)
			q, chosen, e := final.Look(last, rows, d, p)
			if e != api.OK || q < 1 || q > api.MaxProb {
				t.Fatal(q, e)
			}
			if i >= 20*len(text) && (q >= 2048) != bit {
				wrong++
			}
			mix, _ = mixer.Learn(mix, w.Part, in, p, bit)
			if last, e = final.Learn(last, chosen, bit); e != api.OK {
				t.Fatal(e)
			}
			if again, _, _ := final.Look(last, rows, d, p); bit && again < q || !bit && again > q {
				t.Fatal("a step went away from its bit")
			}
			w, _, _, _ = nibble.Step(w, bit)
		}
		var e2 api.Errno
		if m, r, f, e2 = match.Byte(m, r, f, b); e2 != api.OK {
			t.Fatal(e2)
		}
	}
	if wrong > 0 {
		t.Error("bits of the repeated text that were not predicted:", wrong)
	}
}
