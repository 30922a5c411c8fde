package codec_test

import (
	"bytes"
	"math"
	"math/rand"
	"slices"
	"strings"
	"testing"

	"bitloft/api"
	"bitloft/codec"
	"bitloft/encoder"
	"bitloft/predict"
)

func noise(seed int64, n int) []byte {
	b := make([]byte, n)
	rand.New(rand.NewSource(seed)).Read(b)
	return b
}

// texts are byte strings of several kinds.
func texts() [][]byte {
	return [][]byte{
		nil, {0}, {255}, []byte("a"), []byte("abracadabra"), noise(1, 100), noise(2, 700),
		bytes.Repeat([]byte{0}, 300), bytes.Repeat([]byte{255}, 300), []byte(strings.Repeat("the quick brown fox. ", 30)),
		append(noise(3, 200), noise(3, 200)...), []byte(strings.Repeat("ab", 250) + strings.Repeat("ba", 100)),
	}
}

func TestBits(t *testing.T) {
	bits, e := codec.Bits([]byte{165, 1})
	want := []bool{true, false, true, false, false, true, false, true, false, false, false, false, false, false, false, true}
	if e != api.OK || !slices.Equal(bits, want) {
		t.Error(bits, e)
	}
	if bits, e := codec.Bits(nil); e != api.OK || len(bits) != 0 {
		t.Error(bits, e)
	}
	b := noise(1, api.MaxBlock+1)
	if bits, e := codec.Bits(b[1:]); e != api.OK || len(bits) != 8*api.MaxBlock {
		t.Error(len(bits), e)
	}
	if bits, e := codec.Bits(b); e != api.ErrMany || bits != nil {
		t.Error(e)
	}
}

func TestDecodingIsTheInverse(t *testing.T) {
	for level := 0; level <= 7; level++ {
		for i, b := range texts() {
			if level%3 != 0 && len(b) > 350 {
				continue
			}
			before := bytes.Clone(b)
			code, e := codec.Encode(level, b)
			if e != api.OK || !bytes.Equal(b, before) || len(code) > 32*len(b)+4 || len(code) < 4 {
				t.Fatal(level, i, len(code), e)
			}
			codeBefore := bytes.Clone(code)
			got, e := codec.Decode(level, code, len(b))
			if e != api.OK || !bytes.Equal(got, b) || !bytes.Equal(code, codeBefore) {
				t.Fatal(level, i, e)
			}
			if got, e := codec.Decode(level, append(code, noise(int64(i), 20)...), len(b)); e != api.OK || !bytes.Equal(got, b) {
				t.Fatal(level, i, "with bytes behind", e)
			}
		}
	}
}

func TestGreatestBlock(t *testing.T) {
	b := append(bytes.Repeat([]byte("0123456789abcde\n"), 192), noise(5, 1024)...)
	code, e := codec.Encode(5, b)
	if e != api.OK || len(code) > 1400 {
		t.Fatal(len(code), e)
	}
	if got, e := codec.Decode(5, code, len(b)); e != api.OK || !bytes.Equal(got, b) {
		t.Error(e)
	}
	if code, e := codec.Encode(0, append(b, 1)); e != api.ErrMany || code != nil {
		t.Error(e)
	}
	if probs, e := codec.Probs(0, append(b, 1)); e != api.ErrMany || probs != nil {
		t.Error(e)
	}
	if probs, e := codec.Probs(0, b); e != api.OK || len(probs) != 8*api.MaxBlock {
		t.Error(len(probs), e)
	}
}

func TestCodingIsAFunction(t *testing.T) {
	for level := 0; level <= 7; level++ {
		for i, b := range texts() {
			if len(b) > 250 {
				b = b[:250]
			}
			probs, e := codec.Probs(level, b)
			bits, f := codec.Bits(b)
			if e != api.OK || f != api.OK || len(probs) != len(bits) {
				t.Fatal(level, i, e, f)
			}
			x, _ := predict.New(level)
			_, want, e := predict.Run(x, bits)
			if e != api.OK || !slices.Equal(probs, want) {
				t.Fatal(level, i, e)
			}
			code, _ := codec.Encode(level, b)
			if run, e := encoder.Run(probs, bits); e != api.OK || !bytes.Equal(run, code) {
				t.Fatal(level, i, e)
			}
			if first, _ := codec.Probs(level, b[:len(b)/2]); !slices.Equal(first, probs[:len(b)/2*8]) {
				t.Fatal("later bytes change first probabilities", level, i)
			}
		}
	}
}

func TestExamples(t *testing.T) {
	for level := 0; level <= 7; level++ {
		if code, e := codec.Encode(level, nil); e != api.OK || !bytes.Equal(code, []byte{0, 0, 0, 0}) {
			t.Error(code, e)
		}
		for _, b := range [][]byte{nil, {1, 2, 3}} {
			if got, e := codec.Decode(level, b, 0); e != api.OK || len(got) != 0 {
				t.Error(got, e)
			}
		}
		if code, e := codec.Encode(level, bytes.Repeat([]byte{97}, 40)); e != api.OK || len(code) >= 20 {
			t.Error(len(code), e)
		}
	}
}

func TestAnyBytesAreDecoded(t *testing.T) {
	for seed := range int64(10) {
		b := noise(seed, int(seed*9))
		got, e := codec.Decode(int(seed%8), b, 60)
		if e != api.OK || len(got) != 60 {
			t.Fatal(len(got), e)
		}
		// What was read behind the end were zeros.
		if same, e := codec.Decode(int(seed%8), append(b, make([]byte, 300)...), 60); e != api.OK || !bytes.Equal(got, same) {
			t.Fatal(e)
		}
	}
	long := noise(4, api.MaxBytes+1)
	if got, e := codec.Decode(0, long[1:], 3); e != api.OK || len(got) != 3 {
		t.Error(e)
	}
}

func TestErrors(t *testing.T) {
	long := make([]byte, api.MaxBytes+1)
	for _, level := range []int{-1, 8, math.MinInt, math.MaxInt} {
		if b, e := codec.Encode(level, long); e != api.ErrArg || b != nil {
			t.Error(level, e)
		}
		if p, e := codec.Probs(level, long); e != api.ErrArg || p != nil {
			t.Error(level, e)
		}
		if b, e := codec.Decode(level, long, -1); e != api.ErrArg || b != nil {
			t.Error(level, e)
		}
	}
	for _, n := range []int{-1, api.MaxBlock + 1, math.MinInt, math.MaxInt} {
		if b, e := codec.Decode(0, long, n); e != api.ErrArg || b != nil {
			t.Error(n, e)
		}
	}
	if b, e := codec.Decode(0, long, 5); e != api.ErrMany || b != nil {
		t.Error(e)
	}
	if b, e := codec.Decode(0, nil, api.MaxBlock); e != api.OK || len(b) != api.MaxBlock {
		t.Error(e)
	}
}
