package block_test

import (
	"bytes"
	"crypto/sha1"
	"math"
	"math/rand"
	"strings"
	"testing"

	"bitloft/api"
	"bitloft/block"
	"bitloft/codec"
	"bitloft/header"
	"bitloft/marker"
)

func noise(seed int64, n int) []byte {
	b := make([]byte, n)
	rand.New(rand.NewSource(seed)).Read(b)
	return b
}

func text(n int) []byte {
	return []byte(strings.Repeat("a text that is easy. ", n/20+1))[:n]
}

func made(t *testing.T, level, member, offset int, raw []byte) api.Block {
	t.Helper()
	b, e := block.Make(level, member, offset, raw)
	if e != api.OK {
		t.Fatal(e)
	}
	return b
}

func isZero(b api.Block) bool {
	return b.Head == (api.BlockHead{}) && b.Bytes == nil
}

func same(a, b api.Block) bool {
	return a.Head == b.Head && bytes.Equal(a.Bytes, b.Bytes)
}

func TestExample(t *testing.T) {
	b := made(t, 0, 0, 0, []byte{7})
	w, e := block.Write(b)
	front := []byte{1, 0, 0, 0, 0, 1, 0, 1}
	sum := sha1.Sum(append(bytes.Clone(front), 7))
	want := append(append(append(marker.Bytes(), front...), sum[:]...), 7)
	if e != api.OK || len(w) != 42 || !bytes.Equal(w, want) {
		t.Error(w, e)
	}
}

func TestMake(t *testing.T) {
	for level := 0; level <= 7; level++ {
		for i, raw := range [][]byte{{7}, text(4), text(40), text(300), noise(1, 300), bytes.Repeat([]byte{5}, 700), noise(2, 16)} {
			before := bytes.Clone(raw)
			b := made(t, level, i, 100*i, raw)
			code, e := codec.Encode(level, raw)
			want := api.Block{Head: api.BlockHead{Mode: 1, Member: i, Offset: 100 * i, Raw: len(raw), Length: len(raw)}, Bytes: raw}
			if e == api.OK && len(code) < len(raw) {
				want.Head.Mode, want.Head.Length, want.Bytes = 2, len(code), code
			}
			want.Head, _ = header.Seal(want.Head, raw)
			if !same(b, want) || block.Check(b) != api.OK {
				t.Fatal(level, i, b)
			}
			got, e := block.Raw(level, b)
			if e != api.OK || !bytes.Equal(got, raw) {
				t.Fatal(level, i, e)
			}
			b.Bytes[0]++
			got[0]++
			if !bytes.Equal(raw, before) {
				t.Fatal("memory is shared")
			}
			b.Bytes[0]--
			if again, _ := block.Raw(level, b); !bytes.Equal(again, raw) {
				t.Fatal("memory is shared")
			}
		}
	}
}

func TestBothModesAreThere(t *testing.T) {
	if b := made(t, 2, 0, 0, text(200)); b.Head.Mode != api.ModeCoded || b.Head.Length > 60 {
		t.Error(b.Head)
	}
	if b := made(t, 2, 0, 0, noise(3, 200)); b.Head.Mode != api.ModeStored || b.Head.Length != 200 {
		t.Error(b.Head)
	}
	if b := made(t, 7, 15, 4096, text(4096)); b.Head.Mode != api.ModeCoded {
		t.Error(b.Head)
	}
	if b := made(t, 0, 15, 8191, text(1)); b.Head.Mode != api.ModeStored {
		t.Error(b.Head)
	}
}

func TestCodesAsLongAsTheRawBytesAreStored(t *testing.T) {
	seen := 0
	for seed := range int64(400) {
		raw := append(noise(seed, 3), bytes.Repeat([]byte{byte(seed)}, int(seed%9))...)
		code, _ := codec.Encode(2, raw)
		b := made(t, 2, 0, 0, raw)
		if stored := b.Head.Mode == api.ModeStored; stored != (len(code) >= len(raw)) {
			t.Fatal(raw, len(code), b.Head)
		}
		if len(code) == len(raw) {
			seen++
		}
	}
	if seen == 0 {
		t.Error("no code is as long as the raw bytes")
	}
}

func TestMakeErrors(t *testing.T) {
	for i, c := range []struct {
		level, member, offset, n int
	}{
		{-1, 0, 0, 5}, {8, 0, 0, 5}, {0, -1, 0, 5}, {0, 16, 0, 5}, {0, 0, -1, 5}, {0, 0, 8188, 5}, {0, 0, 0, 0}, {0, 0, 0, 4097},
		{math.MaxInt, 0, 0, 5}, {0, math.MinInt, 0, 5}, {0, 0, math.MaxInt, 5},
	} {
		if b, e := block.Make(c.level, c.member, c.offset, make([]byte, c.n)); e != api.ErrArg || !isZero(b) {
			t.Error(i, b, e)
		}
	}
}

func TestInvalidBlocks(t *testing.T) {
	good := made(t, 1, 2, 3, text(100))
	for i, spoil := range []func(b *api.Block){
		func(b *api.Block) { *b = api.Block{} },
		func(b *api.Block) { b.Bytes = b.Bytes[1:] },
		func(b *api.Block) { b.Bytes = append(b.Bytes, 0) },
		func(b *api.Block) { b.Head.Mode = 1 },
		func(b *api.Block) { b.Head.Member = 16 },
		func(b *api.Block) { b.Head.Length++ },
		func(b *api.Block) { b.Head.Raw = b.Head.Length },
	} {
		b := api.Block{Head: good.Head, Bytes: bytes.Clone(good.Bytes)}
		spoil(&b)
		if e := block.Check(b); e != api.ErrBad {
			t.Error(i, e)
		}
		if raw, e := block.Raw(-1, b); e != api.ErrBad || raw != nil {
			t.Error(i, e)
		}
		if w, e := block.Write(b); e != api.ErrBad || w != nil {
			t.Error(i, e)
		}
	}
}

func TestRawErrors(t *testing.T) {
	good := made(t, 1, 2, 3, text(100))
	for _, level := range []int{-1, 8, math.MinInt, math.MaxInt} {
		if raw, e := block.Raw(level, good); e != api.ErrArg || raw != nil {
			t.Error(level, e)
		}
	}
	// A code that is not the one that coding gives has no raw bytes, though it could be decoded.
	long := api.Block{Head: good.Head, Bytes: append(bytes.Clone(good.Bytes), 0)}
	long.Head.Length++
	long.Head, _ = header.Seal(long.Head, text(100))
	if raw, e := block.Raw(1, long); e != api.ErrForm || raw != nil {
		t.Error(e)
	}
	for i := range good.Bytes {
		b := api.Block{Head: good.Head, Bytes: bytes.Clone(good.Bytes)}
		b.Bytes[i] ^= 64
		raw, e := block.Raw(1, b)
		if e != api.ErrForm && e != api.ErrSum || raw != nil {
			t.Fatal(i, e)
		}
	}
	// Other bytes that were coded, under a header that is not right for them.
	other := text(100)
	other[3]++
	code, _ := codec.Encode(1, other)
	b := api.Block{Head: good.Head, Bytes: code}
	b.Head.Length = len(code)
	if raw, e := block.Raw(1, b); e != api.ErrSum || raw != nil {
		t.Error(e)
	}
	stored := made(t, 1, 2, 3, noise(1, 50))
	stored.Bytes[0]++
	if raw, e := block.Raw(1, stored); e != api.ErrSum || raw != nil {
		t.Error(e)
	}
	stored.Bytes[0]--
	stored.Head.Member++
	if raw, e := block.Raw(1, stored); e != api.ErrSum || raw != nil {
		t.Error(e)
	}
}

func TestWriteAndRead(t *testing.T) {
	for i, raw := range [][]byte{{7}, text(90), noise(1, 90), text(4000)} {
		b := made(t, 3, i, 5*i, raw)
		w, e := block.Write(b)
		if e != api.OK || len(w) != 41+len(b.Bytes) {
			t.Fatal(e)
		}
		head, _ := header.Encode(b.Head)
		if !bytes.Equal(w[:13], marker.Bytes()) || !bytes.Equal(w[13:41], head) || !bytes.Equal(w[41:], b.Bytes) {
			t.Fatal(i, w)
		}
		for _, behind := range [][]byte{nil, {0}, w} {
			in := append(bytes.Clone(w), behind...)
			got, n, e := block.Read(in)
			if e != api.OK || n != len(w) || !same(got, b) {
				t.Fatal(i, n, e)
			}
			in[41]++
			if got.Bytes[0] != b.Bytes[0] {
				t.Fatal("memory is shared")
			}
		}
		for n := range w {
			if got, m, e := block.Read(w[:n]); e != api.ErrShort || m != 0 || !isZero(got) {
				t.Fatal(i, n, m, e)
			}
		}
	}
}

func TestReadErrors(t *testing.T) {
	w, _ := block.Write(made(t, 0, 0, 0, noise(1, 20)))
	for _, c := range []struct {
		at   int
		with byte
		n    int
		e    api.Errno
	}{
		{0, 182, len(w), api.ErrForm}, {12, 11, len(w), api.ErrForm}, {12, 11, 41, api.ErrForm}, {12, 11, 40, api.ErrShort},
		{13, 3, 41, api.ErrForm}, {13, 3, 40, api.ErrShort}, {14, 16, 41, api.ErrForm}, {19, 1, 41, api.ErrForm}, {18, 21, len(w), api.ErrForm},
		{41, 99, len(w), api.OK}, {22, 99, len(w), api.OK},
	} {
		b := bytes.Clone(w)
		b[c.at] = c.with
		got, n, e := block.Read(b[:c.n])
		if e != c.e || e != api.OK && (n != 0 || !isZero(got)) {
			t.Error(c, n, e)
		}
		if e == api.OK {
			if back, e := block.Write(got); e != api.OK || !bytes.Equal(back, b) {
				t.Error(c, e)
			}
		}
	}
	long := append(bytes.Clone(w), make([]byte, api.MaxArchive)...)
	if b, n, e := block.Read(long[:api.MaxArchive+1]); e != api.ErrMany || n != 0 || !isZero(b) {
		t.Error(n, e)
	}
	if _, n, e := block.Read(long[:api.MaxArchive]); e != api.OK || n != len(w) {
		t.Error(n, e)
	}
	if b, n, e := block.Read(nil); e != api.ErrShort || n != 0 || !isZero(b) {
		t.Error(n, e)
	}
}

func TestDamageIsSeen(t *testing.T) {
	for _, raw := range [][]byte{text(60), noise(1, 60)} {
		b := made(t, 2, 1, 7, raw)
		w, _ := block.Write(b)
		for i := 13; i < len(w); i++ {
			for _, change := range []byte{1, 2, 128} {
				x := bytes.Clone(w)
				x[i] ^= change
				got, _, e := block.Read(x)
				if e != api.OK {
					continue
				}
				if raw, e := block.Raw(2, got); e == api.OK {
					t.Fatal(i, change, raw)
				}
			}
		}
	}
}
