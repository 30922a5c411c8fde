// Package agree has the tests of the promises that join several layers.
package agree

import (
	"bytes"
	"math/rand"
	"testing"

	"bitloft/api"
	"bitloft/counts"
	"bitloft/fixed"
	"bitloft/hashes"
	"bitloft/octet"
	"bitloft/recip"
	"bitloft/sha"
	"bitloft/squash"
	"bitloft/states"
)

// some returns n bytes that are the same for the same seed.
func some(seed int64, n int) []byte {
	b := make([]byte, n)
	rand.New(rand.NewSource(seed)).Read(b)
	return b
}

func TestStringsAndDigestsAgree(t *testing.T) {
	// A string that was written and read has the digest of the string, in whatever pieces.
	for seed := range int64(50) {
		s := some(seed, int(seed*13))
		text, e := octet.String(s, 2)
		if e != api.OK {
			t.Fatal(e)
		}
		c, e := octet.New(text)
		if e != api.OK {
			t.Fatal(e)
		}
		_, got, e := octet.ReadString(c, 2, len(s))
		if e != api.OK || !bytes.Equal(got, s) {
			t.Fatal(seed, e)
		}
		whole, _ := sha.Sum(text)
		pieces, e := sha.Pieces([][]byte{text[:2], got})
		if e != api.OK || whole != pieces {
			t.Fatal(seed, e)
		}
	}
}

func TestStatesAndHashesAgree(t *testing.T) {
	// A state by numbers and a count by its parts come to the same, also where both are hashed.
	r := rand.New(rand.NewSource(1))
	state, count := uint8(0), api.Count{}
	for range 5000 {
		bit := uint8(r.Intn(2))
		var e, f api.Errno
		state, e = states.Next(state, bit)
		count, f = counts.Next(count, bit)
		number, g := states.Number(count)
		if e != api.OK || f != api.OK || g != api.OK || number != state {
			t.Fatal(state, count, e, f, g)
		}
		a, _ := hashes.Of(1, []byte{state})
		b, _ := hashes.Of(1, []byte{number})
		if start, _ := hashes.Start(1); a != b || hashes.Back(a, state) != start {
			t.Fatal(a, b)
		}
	}
}

func TestProbabilitiesAgree(t *testing.T) {
	// A step towards a bit never leaves the probabilities that can be stretched, and never turns back.
	for n := int32(1); n <= api.MaxRecip; n += 93 {
		p := int32(api.HalfProb)
		for range 40 {
			next, e := recip.Step(p, 65535, n)
			if e != api.OK || next < p || next > 65535 {
				t.Fatal(n, p, next, e)
			}
			if squash.Stretch(next/16) < squash.Stretch(p/16) {
				t.Fatal(n, p, next)
			}
			if d := fixed.Sub(next, p); d < 0 || fixed.Add(p, d) != next {
				t.Fatal(n, p, d)
			}
			p = next
		}
	}
}
