package sha_test

import (
	"bytes"
	"crypto/sha1"
	"testing"

	"bitloft/api"
	"bitloft/sha"
)

// spare returns n bytes with more memory behind them, all of it filled.
func spare(n int) []byte {
	b := make([]byte, n+100)
	for i := range b {
		b[i] = byte(i*i*7 + i>>3 + 11)
	}
	return b[:n]
}

func TestSumIsSHA1(t *testing.T) {
	for n := 0; n <= 300; n++ {
		b := spare(n)
		before := bytes.Clone(b[:cap(b)])
		d, e := sha.Sum(b)
		if e != api.OK || d != api.Sum(sha1.Sum(b)) {
			t.Fatalf("%d bytes: %x %v", n, d, e)
		}
		if !bytes.Equal(before, b[:cap(b)]) {
			t.Fatalf("%d bytes: the argument was changed", n)
		}
	}
}

func TestSumOfExamples(t *testing.T) {
	d, e := sha.Sum(nil)
	want := api.Sum{0xda, 0x39, 0xa3, 0xee, 0x5e, 0x6b, 0x4b, 0x0d, 0x32, 0x55, 0xbf, 0xef, 0x95, 0x60, 0x18, 0x90, 0xaf, 0xd8, 0x07, 0x09}
	if e != api.OK || d != want {
		t.Errorf("no bytes: %x %v", d, e)
	}
	d, e = sha.Sum([]byte("abc"))
	if e != api.OK || d[0] != 0xa9 || d[1] != 0x99 || d[2] != 0x3e || d[3] != 0x36 {
		t.Errorf("abc: %x %v", d, e)
	}
	p, e := sha.Pieces([][]byte{[]byte("a"), nil, []byte("bc")})
	if e != api.OK || p != d {
		t.Errorf("pieces of abc: %x %v", p, e)
	}
}

func TestSumLimit(t *testing.T) {
	b := spare(api.MaxBytes + 1)
	if d, e := sha.Sum(b[:api.MaxBytes]); e != api.OK || d != api.Sum(sha1.Sum(b[:api.MaxBytes])) {
		t.Errorf("greatest: %x %v", d, e)
	}
	if d, e := sha.Sum(b); e != api.ErrMany || d != (api.Sum{}) {
		t.Errorf("too many: %x %v", d, e)
	}
}

func TestPiecesAgreeWithWholes(t *testing.T) {
	for n := 0; n <= 200; n += 7 {
		b := spare(n)
		want := api.Sum(sha1.Sum(b))
		for first := 0; first <= n; first += 3 {
			for second := first; second <= n; second += 11 {
				l := [][]byte{b[:first], b[first:second], b[second:]}
				if d, e := sha.Pieces(l); e != api.OK || d != want {
					t.Fatalf("%d cut at %d, %d: %x %v", n, first, second, d, e)
				}
			}
		}
	}
}

func TestPiecesLimits(t *testing.T) {
	b := spare(api.MaxBytes)
	most := make([][]byte, api.MaxPieces)
	for i := range most {
		most[i] = b[i*1000 : (i+1)*1000]
	}
	if d, e := sha.Pieces(most); e != api.OK || d != api.Sum(sha1.Sum(b)) {
		t.Errorf("most pieces: %x %v", d, e)
	}
	if d, e := sha.Pieces(make([][]byte, api.MaxPieces+1)); e != api.ErrMany || d != (api.Sum{}) {
		t.Errorf("too many pieces: %x %v", d, e)
	}
	if d, e := sha.Pieces([][]byte{b, nil, {1}}); e != api.ErrMany || d != (api.Sum{}) {
		t.Errorf("too many bytes: %x %v", d, e)
	}
	if d, e := sha.Pieces(nil); e != api.OK || d != api.Sum(sha1.Sum(nil)) {
		t.Errorf("no pieces: %x %v", d, e)
	}
}

func TestPiecesLeaveArguments(t *testing.T) {
	a, b := spare(10), spare(90)
	before := [][]byte{bytes.Clone(a[:cap(a)]), bytes.Clone(b[:cap(b)])}
	if _, e := sha.Pieces([][]byte{a, b}); e != api.OK {
		t.Fatal(e)
	}
	if !bytes.Equal(before[0], a[:cap(a)]) || !bytes.Equal(before[1], b[:cap(b)]) {
		t.Error("an argument was changed")
	}
}

func TestPad(t *testing.T) {
	for _, n := range []int{0, 1, 54, 55, 56, 63, 64, 119, 120, 1000, 19999, api.MaxBytes} {
		p, e := sha.Pad(n)
		if e != api.OK || len(p) < 9 || len(p) > 72 || (n+len(p))%64 != 0 {
			t.Fatalf("%d: %d bytes, %v", n, len(p), e)
		}
		want := make([]byte, len(p))
		want[0] = 128
		for i, bits := len(want)-1, 8*n; bits > 0; i, bits = i-1, bits/256 {
			want[i] = byte(bits)
		}
		if !bytes.Equal(p, want) {
			t.Errorf("%d: %v", n, p)
		}
	}
	for n, want := range map[int]int{55: 9, 56: 72} {
		if p, e := sha.Pad(n); e != api.OK || len(p) != want {
			t.Errorf("%d: %d bytes, %v", n, len(p), e)
		}
	}
	for _, n := range []int{-1, -1 << 63, api.MaxBytes + 1, 1<<63 - 1} {
		if p, e := sha.Pad(n); e != api.ErrArg || p != nil {
			t.Errorf("%d: %v %v", n, p, e)
		}
	}
}

func TestBlocksMakeTheDigest(t *testing.T) {
	for n := 0; n <= 200; n++ {
		b := spare(n)
		p, _ := sha.Pad(n)
		all := append(bytes.Clone(b), p...)
		h := [5]uint32{0x67452301, 0xefcdab89, 0x98badcfe, 0x10325476, 0xc3d2e1f0}
		for at := 0; at < len(all); at += 64 {
			next, e := sha.Block(h, all[at:at+64])
			if e != api.OK {
				t.Fatal(e)
			}
			h = next
		}
		var d api.Sum
		for i := range d {
			d[i] = byte(h[i/4] >> (24 - i%4*8))
		}
		if d != api.Sum(sha1.Sum(b)) {
			t.Fatalf("%d bytes: %x", n, d)
		}
	}
}

func TestBlockOfOtherWords(t *testing.T) {
	// The words of any state are added at the end, and the steps depend on all of them.
	b := spare(64)
	zero, e := sha.Block([5]uint32{}, b)
	if e != api.OK {
		t.Fatal(e)
	}
	for i := range 5 {
		var h [5]uint32
		h[i] = 1 << 31
		other, e := sha.Block(h, b)
		if e != api.OK || other == zero {
			t.Errorf("word %d: %v %v", i, other, e)
		}
	}
}

func TestBlockErrors(t *testing.T) {
	for _, n := range []int{0, 1, 63, 65, 128} {
		if h, e := sha.Block([5]uint32{1, 2, 3, 4, 5}, make([]byte, n)); e != api.ErrArg || h != [5]uint32{} {
			t.Errorf("%d: %v %v", n, h, e)
		}
	}
}
