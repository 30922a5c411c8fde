package octet_test

import (
	"bytes"
	"math/rand"
	"testing"

	"bitloft/api"
	"bitloft/octet"
)

func cursor(t *testing.T, b []byte, at int) api.Cursor {
	t.Helper()
	c, e := octet.New(b)
	if e != api.OK || c.At != 0 || !bytes.Equal(c.Bytes, b) {
		t.Fatalf("New: %v %v", c, e)
	}
	c.At = at
	return c
}

func isZero(c api.Cursor) bool {
	return len(c.Bytes) == 0 && c.At == 0
}

func TestNumber(t *testing.T) {
	for _, c := range []struct {
		n     uint64
		width int
		want  []byte
		e     api.Errno
	}{
		{258, 2, []byte{1, 2}, api.OK},
		{258, 3, []byte{0, 1, 2}, api.OK},
		{258, 1, nil, api.ErrRange},
		{255, 1, []byte{255}, api.OK},
		{256, 1, nil, api.ErrRange},
		{0, 1, []byte{0}, api.OK},
		{1<<56 - 1, 7, []byte{255, 255, 255, 255, 255, 255, 255}, api.OK},
		{1 << 56, 7, nil, api.ErrRange},
		{1<<64 - 1, 8, []byte{255, 255, 255, 255, 255, 255, 255, 255}, api.OK},
		{0x0102030405060708, 8, []byte{1, 2, 3, 4, 5, 6, 7, 8}, api.OK},
		{0, 0, nil, api.ErrArg},
		{0, -1, nil, api.ErrArg},
		{0, 9, nil, api.ErrArg},
		{300, 0, nil, api.ErrArg},
	} {
		b, e := octet.Number(c.n, c.width)
		if e != c.e || !bytes.Equal(b, c.want) {
			t.Errorf("%d in %d: %v %v", c.n, c.width, b, e)
		}
	}
}

func TestNumbersAreOrdered(t *testing.T) {
	r := rand.New(rand.NewSource(1))
	for range 2000 {
		width := 1 + r.Intn(8)
		a, b := r.Uint64()>>(64-8*width), r.Uint64()>>(64-8*width)
		x, _ := octet.Number(a, width)
		y, _ := octet.Number(b, width)
		want := 0
		if a < b {
			want = -1
		} else if a > b {
			want = 1
		}
		if len(x) != width || bytes.Compare(x, y) != want {
			t.Fatalf("%d %d in %d: %v %v", a, b, width, x, y)
		}
	}
}

func TestString(t *testing.T) {
	long := make([]byte, api.MaxBytes+1)
	for _, c := range []struct {
		s     []byte
		width int
		e     api.Errno
	}{
		{[]byte("ab"), 1, api.OK},
		{nil, 1, api.OK},
		{nil, 8, api.OK},
		{long[:255], 1, api.OK},
		{long[:256], 1, api.ErrRange},
		{long[:256], 2, api.OK},
		{long[:api.MaxBytes], 2, api.OK},
		{long[:api.MaxBytes], 1, api.ErrRange},
		{long, 2, api.ErrMany},
		{long, 1, api.ErrMany},
		{long, 0, api.ErrArg},
		{long, 9, api.ErrArg},
	} {
		b, e := octet.String(c.s, c.width)
		if e != c.e {
			t.Fatalf("%d bytes in %d: %v", len(c.s), c.width, e)
		}
		if e != api.OK {
			if b != nil {
				t.Errorf("%d bytes in %d: %v with an error", len(c.s), c.width, b)
			}
			continue
		}
		n, _ := octet.Number(uint64(len(c.s)), c.width)
		if !bytes.Equal(b, append(n, c.s...)) {
			t.Errorf("%d bytes in %d: %v", len(c.s), c.width, b)
		}
	}
	if b, _ := octet.String([]byte("ab"), 1); !bytes.Equal(b, []byte{2, 97, 98}) {
		t.Error(b)
	}
}

func TestNewAndLeft(t *testing.T) {
	b := make([]byte, api.MaxArchive+1)
	c, e := octet.New(b[:api.MaxArchive])
	if n, f := octet.Left(c); e != api.OK || f != api.OK || n != api.MaxArchive {
		t.Error(e, n, f)
	}
	b[0] = 1
	if c.Bytes[0] != 0 {
		t.Error("a cursor shares memory with the argument")
	}
	if c, e := octet.New(b); e != api.ErrMany || !isZero(c) {
		t.Error(e)
	}
	if n, e := octet.Left(cursor(t, []byte("abc"), 2)); e != api.OK || n != 1 {
		t.Error(n, e)
	}
	if n, e := octet.Left(cursor(t, []byte("abc"), 3)); e != api.OK || n != 0 {
		t.Error(n, e)
	}
}

func TestInvalidCursors(t *testing.T) {
	for _, c := range []api.Cursor{
		{At: -1}, {At: 1}, {Bytes: []byte("ab"), At: 3}, {Bytes: []byte("ab"), At: -1},
		{Bytes: make([]byte, api.MaxArchive+1)}, {At: 1<<63 - 1}, {At: -1 << 63},
	} {
		if e := octet.Check(c); e != api.ErrBad {
			t.Errorf("At %d: Check %v", c.At, e)
		}
		if n, e := octet.Left(c); e != api.ErrBad || n != 0 {
			t.Errorf("At %d: Left %v %v", c.At, n, e)
		}
		if x, n, e := octet.Read(c, 0, 0); e != api.ErrBad || n != 0 || !isZero(x) {
			t.Errorf("At %d: Read %v %v", c.At, n, e)
		}
		if x, b, e := octet.Take(c, -1); e != api.ErrBad || b != nil || !isZero(x) {
			t.Errorf("At %d: Take %v %v", c.At, b, e)
		}
		if x, b, e := octet.ReadString(c, 0, -1); e != api.ErrBad || b != nil || !isZero(x) {
			t.Errorf("At %d: ReadString %v %v", c.At, b, e)
		}
	}
	for _, c := range []api.Cursor{{}, {Bytes: []byte("ab"), At: 2}, {Bytes: make([]byte, api.MaxArchive), At: api.MaxArchive}} {
		if e := octet.Check(c); e != api.OK {
			t.Errorf("At %d: %v", c.At, e)
		}
	}
}

func TestRead(t *testing.T) {
	for _, c := range []struct {
		b         []byte
		at, width int
		most      uint64
		want      uint64
		e         api.Errno
	}{
		{[]byte{1, 2, 3}, 0, 2, 258, 258, api.OK},
		{[]byte{1, 2, 3}, 0, 2, 257, 0, api.ErrRange},
		{[]byte{1, 2, 3}, 1, 2, 1000, 515, api.OK},
		{[]byte{1, 2, 3}, 2, 2, 0, 0, api.ErrShort},
		{[]byte{1, 2, 3}, 3, 1, 0, 0, api.ErrShort},
		{[]byte{1, 2, 3}, 0, 0, 0, 0, api.ErrArg},
		{[]byte{1, 2, 3}, 3, 9, 0, 0, api.ErrArg},
		{[]byte{0}, 0, 1, 0, 0, api.OK},
		{bytes.Repeat([]byte{255}, 8), 0, 8, 1<<64 - 1, 1<<64 - 1, api.OK},
		{bytes.Repeat([]byte{255}, 8), 0, 8, 1<<64 - 2, 0, api.ErrRange},
	} {
		x, n, e := octet.Read(cursor(t, c.b, c.at), c.width, c.most)
		if e != c.e || n != c.want {
			t.Fatalf("%v: %d %v", c, n, e)
		}
		if e != api.OK {
			if !isZero(x) {
				t.Errorf("%v: %v with an error", c, x)
			}
		} else if x.At != c.at+c.width || !bytes.Equal(x.Bytes, c.b) {
			t.Errorf("%v: %v", c, x)
		}
	}
}

func TestTake(t *testing.T) {
	for _, c := range []struct {
		at, n int
		want  string
		e     api.Errno
	}{
		{0, 3, "abc", api.OK}, {1, 1, "b", api.OK}, {3, 0, "", api.OK}, {0, 0, "", api.OK},
		{1, 3, "", api.ErrShort}, {3, 1, "", api.ErrShort}, {0, 1<<63 - 1, "", api.ErrShort},
		{0, -1, "", api.ErrArg}, {3, -1 << 63, "", api.ErrArg},
	} {
		x, b, e := octet.Take(cursor(t, []byte("abc"), c.at), c.n)
		if e != c.e || string(b) != c.want {
			t.Fatalf("%v: %q %v", c, b, e)
		}
		if e != api.OK && !isZero(x) || e == api.OK && (x.At != c.at+c.n || string(x.Bytes) != "abc") {
			t.Errorf("%v: %v", c, x)
		}
	}
}

func TestReadString(t *testing.T) {
	for _, c := range []struct {
		b               []byte
		at, width, most int
		want            string
		e               api.Errno
	}{
		{[]byte{2, 97, 98, 99}, 0, 1, 2, "ab", api.OK},
		{[]byte{2, 97, 98, 99}, 0, 1, 1, "", api.ErrRange},
		{[]byte{2, 97}, 0, 1, 1, "", api.ErrRange},
		{[]byte{2, 97}, 0, 1, 2, "", api.ErrShort},
		{[]byte{0, 2, 97, 98}, 0, 2, 5, "ab", api.OK},
		{[]byte{9, 0}, 1, 1, 0, "", api.OK},
		{[]byte{9, 0}, 1, 2, 0, "", api.ErrShort},
		{[]byte{9, 0}, 1, 2, -1, "", api.ErrArg},
		{[]byte{9, 0}, 0, 0, 3, "", api.ErrArg},
		{[]byte{9, 0}, 0, 9, 3, "", api.ErrArg},
		{bytes.Repeat([]byte{255}, 9), 0, 8, 1<<63 - 1, "", api.ErrRange},
		{append([]byte{127}, bytes.Repeat([]byte{255}, 9)...), 0, 8, 1<<63 - 1, "", api.ErrShort},
	} {
		x, b, e := octet.ReadString(cursor(t, c.b, c.at), c.width, c.most)
		if e != c.e || string(b) != c.want {
			t.Fatalf("%v: %q %v", c, b, e)
		}
		if e != api.OK && !isZero(x) || e == api.OK && (x.At != c.at+c.width+len(b) || !bytes.Equal(x.Bytes, c.b)) {
			t.Errorf("%v: %v", c, x)
		}
	}
}

func TestWhatWasWrittenIsRead(t *testing.T) {
	r := rand.New(rand.NewSource(2))
	for range 500 {
		width := 1 + r.Intn(8)
		n := r.Uint64() >> (64 - 8*width) >> r.Intn(8*width)
		s := make([]byte, r.Intn(200))
		r.Read(s)
		number, _ := octet.Number(n, width)
		text, e := octet.String(s, width)
		if e != api.OK {
			t.Fatal(e)
		}
		b := append(append(number, text...), s[:len(s)/2]...)
		c, _ := octet.New(b)
		c, m, e := octet.Read(c, width, n)
		if e != api.OK || m != n || c.At != width {
			t.Fatal(m, e, c.At)
		}
		c, got, e := octet.ReadString(c, width, len(s))
		if e != api.OK || !bytes.Equal(got, s) || c.At != width+len(text) || !bytes.Equal(c.Bytes, b) {
			t.Fatal(got, e, c.At)
		}
		c, got, e = octet.Take(c, len(s)/2)
		if left, _ := octet.Left(c); e != api.OK || !bytes.Equal(got, s[:len(s)/2]) || left != 0 {
			t.Fatal(got, e, left)
		}
	}
}

func TestResultsShareNoMemory(t *testing.T) {
	b := append(make([]byte, 0, 20), 1, 7, 8, 9)
	c := api.Cursor{Bytes: b}
	x, _, _ := octet.Read(c, 1, 9)
	y, got, _ := octet.Take(c, 2)
	z, s, _ := octet.ReadString(c, 1, 9)
	for i := range b {
		b[i] = 100
	}
	for _, v := range [][]byte{x.Bytes, y.Bytes, z.Bytes} {
		if !bytes.Equal(v, []byte{1, 7, 8, 9}) {
			t.Error("a cursor shares memory with the one before", v)
		}
	}
	y.Bytes[0], z.Bytes[1] = 50, 50
	if !bytes.Equal(got, []byte{1, 7}) || !bytes.Equal(s, []byte{7}) {
		t.Error("bytes share memory with a cursor", got, s)
	}
	text := append(make([]byte, 0, 20), 5, 6)
	u, _ := octet.String(text, 1)
	text[0] = 9
	if !bytes.Equal(u, []byte{2, 5, 6}) || text[:3][2] != 0 {
		t.Error(u, text[:3])
	}
}
