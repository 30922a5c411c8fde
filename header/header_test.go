package header_test

import (
	"bytes"
	"crypto/sha1"
	"math"
	"math/rand"
	"testing"

	"bitloft/api"
	"bitloft/header"
)

func stored(member, offset, raw int) api.BlockHead {
	return api.BlockHead{Mode: 1, Member: member, Offset: offset, Raw: raw, Length: raw}
}

func coded(member, offset, raw, length int) api.BlockHead {
	return api.BlockHead{Mode: 2, Member: member, Offset: offset, Raw: raw, Length: length}
}

func some(n int) []byte {
	b := make([]byte, n)
	rand.New(rand.NewSource(int64(n))).Read(b)
	return b
}

func TestCheck(t *testing.T) {
	for i, h := range []api.BlockHead{
		stored(0, 0, 1), stored(15, 8191, 1), stored(0, 4096, 4096), stored(3, 0, 4096), coded(0, 0, 2, 1), coded(15, 4096, 4096, 4095), coded(1, 8190, 2, 1),
	} {
		if e := header.Check(h); e != api.OK {
			t.Error(i, e)
		}
	}
	for i, h := range []api.BlockHead{
		{}, stored(-1, 0, 1), stored(16, 0, 1), stored(0, -1, 1), stored(0, 8192, 1), stored(0, 4097, 4096), stored(0, 0, 0), stored(0, 0, -1),
		stored(0, 0, 4097), stored(0, math.MaxInt, 1), stored(0, math.MinInt, 1), stored(0, 0, math.MaxInt), stored(0, math.MaxInt, math.MaxInt),
		coded(0, 0, 16, 16), coded(0, 0, 16, 0), coded(0, 0, 16, -1), coded(0, 0, 1, 1), coded(0, 0, 1, 0), coded(0, 0, 16, 17), coded(0, 0, 4097, 5),
		{Mode: 0, Raw: 5, Length: 5}, {Mode: 3, Raw: 5, Length: 5}, {Mode: 255, Raw: 5, Length: 4}, {Mode: 1, Raw: 5, Length: 4}, {Mode: 1, Raw: 5, Length: 6},
	} {
		if e := header.Check(h); e != api.ErrBad {
			t.Error(i, e)
		}
		if b, e := header.Encode(h); e != api.ErrBad || b != nil {
			t.Error(i, e)
		}
		if d, e := header.Digest(h, nil); e != api.ErrBad || d != (api.Sum{}) {
			t.Error(i, e)
		}
		if s, e := header.Seal(h, nil); e != api.ErrBad || s != (api.BlockHead{}) {
			t.Error(i, e)
		}
		if is, e := header.Right(h, nil); e != api.ErrBad || is {
			t.Error(i, e)
		}
	}
}

func TestExample(t *testing.T) {
	b, e := header.Encode(stored(3, 512, 16))
	if e != api.OK || !bytes.Equal(b, append([]byte{1, 3, 2, 0, 0, 16, 0, 16}, make([]byte, 20)...)) {
		t.Error(b, e)
	}
	if e := header.Check(coded(3, 512, 16, 16)); e != api.ErrBad {
		t.Error(e)
	}
	if h, e := header.Parse(b[:27]); e != api.ErrForm || h != (api.BlockHead{}) {
		t.Error(h, e)
	}
	if h, e := header.Parse(append(b, 0)); e != api.ErrForm || h != (api.BlockHead{}) {
		t.Error(h, e)
	}
	if h, e := header.Parse(nil); e != api.ErrForm || h != (api.BlockHead{}) {
		t.Error(h, e)
	}
}

func heads(r *rand.Rand) api.BlockHead {
	raw := 1 + r.Intn(4096)
	h := stored(r.Intn(16), r.Intn(8192-raw+1), raw)
	if raw > 1 && r.Intn(2) == 0 {
		h = coded(h.Member, h.Offset, raw, 1+r.Intn(raw-1))
	}
	copy(h.Sum[:], some(20))
	h.Sum[r.Intn(20)] = byte(r.Intn(256))
	return h
}

func TestParseAndEncode(t *testing.T) {
	r := rand.New(rand.NewSource(1))
	for range 3000 {
		h := heads(r)
		b, e := header.Encode(h)
		if e != api.OK || len(b) != api.HeadSize {
			t.Fatal(h, e)
		}
		want := []byte{h.Mode, byte(h.Member), byte(h.Offset / 256), byte(h.Offset % 256), byte(h.Raw / 256), byte(h.Raw % 256), byte(h.Length / 256), byte(h.Length % 256)}
		if !bytes.Equal(b, append(want, h.Sum[:]...)) {
			t.Fatal(h, b)
		}
		if got, e := header.Parse(b); e != api.OK || got != h {
			t.Fatal(h, got, e)
		}
		b[r.Intn(8)] = byte(r.Intn(256))
		got, e := header.Parse(b)
		if e == api.OK {
			if back, e := header.Encode(got); e != api.OK || !bytes.Equal(back, b) {
				t.Fatal(b, got, e)
			}
		} else if e != api.ErrForm || got != (api.BlockHead{}) {
			t.Fatal(b, got, e)
		}
	}
}

func TestDigestAndSeal(t *testing.T) {
	r := rand.New(rand.NewSource(2))
	for range 200 {
		h := heads(r)
		raw := some(h.Raw)
		before := bytes.Clone(raw)
		b, _ := header.Encode(h)
		want := api.Sum(sha1.Sum(append(bytes.Clone(b[:8]), raw...)))
		if d, e := header.Digest(h, raw); e != api.OK || d != want {
			t.Fatal(h, d, e)
		}
		sealed, e := header.Seal(h, raw)
		h.Sum = want
		if e != api.OK || sealed != h || !bytes.Equal(raw, before) {
			t.Fatal(h, sealed, e)
		}
		if is, e := header.Right(sealed, raw); e != api.OK || !is {
			t.Fatal(is, e)
		}
		sealed.Sum[r.Intn(20)] ^= 1 << r.Intn(8)
		if is, e := header.Right(sealed, raw); e != api.OK || is {
			t.Fatal(is, e)
		}
		raw[r.Intn(len(raw))]++
		if is, e := header.Right(h, raw); e != api.OK || is {
			t.Fatal(is, e)
		}
	}
}

func TestRawOfOtherLengths(t *testing.T) {
	h, _ := header.Seal(stored(1, 2, 16), some(16))
	for _, n := range []int{0, 15, 17, 30000} {
		if is, e := header.Right(h, some(n)); e != api.OK || is {
			t.Error(n, is, e)
		}
		if d, e := header.Digest(h, some(n)); e != api.ErrArg || d != (api.Sum{}) {
			t.Error(n, e)
		}
		if s, e := header.Seal(h, some(n)); e != api.ErrArg || s != (api.BlockHead{}) {
			t.Error(n, e)
		}
	}
}
