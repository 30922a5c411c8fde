package agree

import (
	"bytes"
	"slices"
	"strings"
	"testing"

	"bitloft/api"
	"bitloft/codec"
	"bitloft/cost"
	"bitloft/decoder"
	"bitloft/encoder"
	"bitloft/predict"
	"bitloft/twin"
)

// TestBothSidesAgree codes and decodes bit by bit, with two predictors that stay the same, and asks what it costs.
func TestBothSidesAgree(t *testing.T) {
	for level, text := range []string{"she sells sea shells; she sells", string(some(1, 40)), strings.Repeat("ab", 30)} {
		b := []byte(text)
		code, e := codec.Encode(level, b)
		if e != api.OK {
			t.Fatal(e)
		}
		bits, _ := codec.Bits(b)
		left, _ := predict.New(level)
		right, _ := predict.New(level)
		out := encoder.New()
		in, _ := decoder.New(code)
		var probs []int
		for i, bit := range bits {
			p, _ := predict.P(left)
			q, _ := predict.P(right)
			if out, e = encoder.Put(out, p, bit); e != api.OK {
				t.Fatal(e)
			}
			next, got, e := decoder.Get(in, q)
			if e != api.OK || p != q || got != bit {
				t.Fatal(level, i, p, q, got, e)
			}
			in = next
			left, _ = predict.Update(left, bit)
			right, _ = predict.Update(right, got)
			if !twin.Same(left, right) {
				t.Fatal(level, i, "the states are not equal")
			}
			probs = append(probs, p)
		}
		end, _ := encoder.End(out)
		if over, _ := decoder.Over(in); !bytes.Equal(end, code) || over != 0 {
			t.Fatal(level, over)
		}
		n, e := cost.Bytes(probs, bits)
		real, f := cost.Real(probs, bits)
		if e != api.OK || f != api.OK || n+4 != len(code) || 8*api.OneBit*n > real || real >= 8*api.OneBit*(n+4) {
			t.Fatal(level, n, real, len(code), e, f)
		}
		if same, _ := codec.Probs(level, b); !slices.Equal(same, probs) {
			t.Fatal(level, "other probabilities")
		}
	}
}
