package member_test

import (
	"bytes"
	"crypto/sha1"
	"math"
	"math/rand"
	"reflect"
	"slices"
	"strings"
	"testing"

	"bitloft/api"
	"bitloft/member"
)

var empty = api.Sum(sha1.Sum(nil))

func of(name string, data []byte) api.Record {
	return api.Record{Name: name, Size: len(data), Sum: sha1.Sum(data)}
}

// named are n members with one byte each.
func named(n int) []api.Member {
	var l []api.Member
	for i := range n {
		l = append(l, api.Member{Name: strings.Repeat("m", i+1), Data: []byte{byte(i)}})
	}
	return l
}

func TestCheck(t *testing.T) {
	most := make([]byte, api.MaxData+1)
	for i, c := range []struct {
		l []api.Member
		e api.Errno
	}{
		{nil, api.OK}, {named(16), api.OK}, {named(17), api.ErrMany},
		{[]api.Member{{Name: "a", Data: most[1:]}}, api.OK},
		{[]api.Member{{Name: "a", Data: most}}, api.ErrMany},
		{[]api.Member{{Name: "a", Data: most[1:]}, {Name: "b"}}, api.OK},
		{[]api.Member{{Name: "a", Data: most[1:]}, {Name: "b", Data: most[:1]}}, api.ErrMany},
		{[]api.Member{{Name: "a b", Data: most}}, api.ErrMany},
		{[]api.Member{{Name: strings.Repeat("x", 40)}}, api.OK},
		{[]api.Member{{Name: strings.Repeat("x", 41)}}, api.ErrBad},
		{[]api.Member{{Name: ""}}, api.ErrBad},
		{[]api.Member{{Name: "a b"}}, api.ErrBad},
		{[]api.Member{{Name: "!~"}}, api.OK},
		{[]api.Member{{Name: "\x7f"}}, api.ErrBad},
		{[]api.Member{{Name: "\xc3\xa4"}}, api.ErrBad},
		{[]api.Member{{Name: "a\n"}}, api.ErrBad},
		{[]api.Member{{Name: "a"}, {Name: "b"}, {Name: "a"}}, api.ErrTwice},
		{[]api.Member{{Name: "a"}, {Name: "a"}, {Name: ""}}, api.ErrBad},
		{[]api.Member{{Name: "a"}, {Name: "A"}}, api.OK},
	} {
		if e := member.Check(c.l); e != c.e {
			t.Error(i, e)
		}
		l, e := member.Of(c.l)
		if e != c.e || e != api.OK && l != nil || e == api.OK && len(l) != len(c.l) {
			t.Error(i, e)
		}
	}
}

func TestOf(t *testing.T) {
	l, e := member.Of([]api.Member{{Name: "x", Data: []byte("abc")}, {Name: "y"}})
	if e != api.OK || !slices.Equal(l, []api.Record{of("x", []byte("abc")), of("y", nil)}) {
		t.Error(l, e)
	}
	if member.Valid(l) != api.OK {
		t.Error("records of valid members are not valid")
	}
}

func TestValid(t *testing.T) {
	many := make([]api.Record, 17)
	for i := range many {
		many[i] = of(strings.Repeat("m", i+1), []byte{1})
	}
	sized := func(name string, size int) api.Record { return api.Record{Name: name, Size: size, Sum: empty} }
	for i, c := range []struct {
		l []api.Record
		e api.Errno
	}{
		{nil, api.OK}, {many[:16], api.OK}, {many, api.ErrMany},
		{[]api.Record{sized("a", 8192)}, api.OK}, {[]api.Record{sized("a", 8193)}, api.ErrBad}, {[]api.Record{sized("a", -1)}, api.ErrBad},
		{[]api.Record{sized("a", math.MaxInt), sized("b", math.MaxInt)}, api.ErrBad}, {[]api.Record{sized("a", math.MinInt)}, api.ErrBad},
		{[]api.Record{sized("a", 8192), sized("b", 1)}, api.ErrMany}, {[]api.Record{sized("a", 8192), sized("", 1)}, api.ErrBad},
		{[]api.Record{sized("a", 8192), sized("a", 8192)}, api.ErrMany},
		{[]api.Record{sized("a", 4096), sized("b", 4096), sized("c", 0)}, api.OK},
		{[]api.Record{{Name: "a"}}, api.ErrBad}, {[]api.Record{sized("a", 0)}, api.OK}, {[]api.Record{{Name: "a", Size: 1}}, api.OK},
		{[]api.Record{sized("a b", 1)}, api.ErrBad}, {[]api.Record{sized(strings.Repeat("n", 41), 1)}, api.ErrBad},
		{[]api.Record{sized("a", 1), sized("b", 2), sized("a", 3)}, api.ErrTwice},
		{[]api.Record{sized("a", 1), sized("a", 2), sized("b", -3)}, api.ErrBad},
	} {
		if e := member.Valid(c.l); e != c.e {
			t.Error(i, e)
		}
		b, e := member.Write(c.l)
		if e != c.e || e != api.OK && b != nil {
			t.Error(i, e)
		}
		if n, e := member.Find(c.l, "?"); c.e != api.OK && e != c.e || c.e == api.OK && e != api.ErrNone || n != 0 {
			t.Error(i, n, e)
		}
	}
}

func TestExample(t *testing.T) {
	l, _ := member.Of([]api.Member{{Name: "a"}})
	b, e := member.Write(l)
	if e != api.OK || !bytes.Equal(b, append([]byte{1, 97, 0, 0}, empty[:]...)) {
		t.Error(b, e)
	}
}

// tables are lists of valid records.
func tables() [][]api.Record {
	r := rand.New(rand.NewSource(1))
	var all [][]api.Record
	for n := range 17 {
		var l []api.Record
		for i := range n {
			data := make([]byte, r.Intn(500))
			r.Read(data)
			l = append(l, of(strings.Repeat("n", 1+r.Intn(20))+string(rune('A'+i)), data))
		}
		all = append(all, l)
	}
	return all
}

func TestWriteAndRead(t *testing.T) {
	for n, l := range tables() {
		b, e := member.Write(l)
		if e != api.OK {
			t.Fatal(e)
		}
		var want []byte
		for _, r := range l {
			want = append(want, byte(len(r.Name)))
			want = append(want, r.Name...)
			want = append(want, byte(r.Size/256), byte(r.Size%256))
			want = append(want, r.Sum[:]...)
		}
		if !bytes.Equal(b, want) {
			t.Fatal(n, b)
		}
		for _, behind := range [][]byte{nil, {255}, make([]byte, 20000)} {
			in := append(bytes.Clone(b), behind...)
			before := bytes.Clone(in)
			got, size, e := member.Read(in, n)
			if e != api.OK || size != len(b) || len(got) != n || n > 0 && !reflect.DeepEqual(got, l) || !bytes.Equal(in, before) {
				t.Fatal(n, size, e)
			}
		}
		for k := range b {
			if got, size, e := member.Read(b[:k], n); e != api.ErrShort || size != 0 || got != nil {
				t.Fatal(n, k, size, e)
			}
		}
	}
}

func TestReadErrors(t *testing.T) {
	good, _ := member.Write([]api.Record{of("ab", []byte{1}), of("cd", []byte{2})})
	for _, n := range []int{-1, 17, math.MinInt, math.MaxInt} {
		if l, k, e := member.Read(make([]byte, api.MaxArchive+1), n); e != api.ErrArg || l != nil || k != 0 {
			t.Error(n, e)
		}
	}
	if l, k, e := member.Read(make([]byte, api.MaxArchive+1), 0); e != api.ErrMany || l != nil || k != 0 {
		t.Error(e)
	}
	if l, k, e := member.Read(make([]byte, api.MaxArchive), 0); e != api.OK || len(l) != 0 || k != 0 {
		t.Error(l, k, e)
	}
	if l, k, e := member.Read(good, 3); e != api.ErrShort || l != nil || k != 0 {
		t.Error(e)
	}
	for _, c := range []struct {
		at   int
		with byte
		e    api.Errno
	}{
		{1, ' ', api.ErrForm}, {1, 127, api.ErrForm}, {3, 32, api.ErrForm}, {26, 'a', api.OK}, {0, 255, api.ErrShort}, {0, 0, api.ErrShort},
		{3, 255, api.ErrForm}, {25, 3, api.ErrShort}, {4, 0, api.ErrForm}, {10, 77, api.OK},
	} {
		b := bytes.Clone(good)
		b[c.at] = c.with
		l, k, e := member.Read(b, 2)
		if e != c.e || e != api.OK && (l != nil || k != 0) {
			t.Error(c, l, k, e)
		}
		if e == api.OK {
			if back, e := member.Write(l); e != api.OK || !bytes.Equal(back, b) {
				t.Error(c, e)
			}
		}
	}
	same := bytes.Clone(good)
	same[26], same[27] = 'a', 'b'
	if l, k, e := member.Read(same, 2); e != api.ErrForm || l != nil || k != 0 {
		t.Error(l, k, e)
	}
	// A record that is not valid is of no matter where a later one is cut.
	same[1] = ' '
	if _, _, e := member.Read(same[:len(same)-1], 2); e != api.ErrShort {
		t.Error(e)
	}
	// The greatest names that can be told are read to their end, also those of the last record.
	long := append([]byte{255}, bytes.Repeat([]byte{'x'}, 255+22)...)
	if _, _, e := member.Read(bytes.Repeat(long, 16), 16); e != api.ErrForm {
		t.Error(e)
	}
	if _, _, e := member.Read(bytes.Repeat(long, 16)[:16*len(long)-1], 16); e != api.ErrShort {
		t.Error(e)
	}
}

func TestFind(t *testing.T) {
	l, _ := member.Of(named(16))
	for i, r := range l {
		if n, e := member.Find(l, r.Name); e != api.OK || n != i {
			t.Error(i, n, e)
		}
	}
	for _, name := range []string{"", "M", "n", strings.Repeat("m", 17)} {
		if n, e := member.Find(l, name); e != api.ErrNone || n != 0 {
			t.Error(name, n, e)
		}
	}
}

func TestRight(t *testing.T) {
	m := api.Member{Name: "a", Data: []byte("data")}
	good := of("a", m.Data)
	if is, e := member.Right(good, m); e != api.OK || !is {
		t.Error(is, e)
	}
	if is, e := member.Right(of("b", nil), api.Member{Name: "b"}); e != api.OK || !is {
		t.Error(is, e)
	}
	for i, c := range []struct {
		r api.Record
		m api.Member
		e api.Errno
	}{
		{of("b", m.Data), m, api.OK}, {of("a", []byte("dato")), m, api.OK}, {of("a", nil), m, api.OK}, {api.Record{Name: "a", Size: 3, Sum: good.Sum}, m, api.OK},
		{good, api.Member{Name: "a b", Data: m.Data}, api.OK}, {good, api.Member{Name: "a", Data: make([]byte, 30000)}, api.OK}, {good, api.Member{}, api.OK},
		{api.Record{Name: "a"}, m, api.ErrBad}, {api.Record{Name: "a b", Size: 4, Sum: good.Sum}, m, api.ErrBad}, {api.Record{Name: "a", Size: -1}, m, api.ErrBad},
		{api.Record{Name: "a", Size: 8193}, m, api.ErrBad},
	} {
		if is, e := member.Right(c.r, c.m); e != c.e || is {
			t.Error(i, is, e)
		}
	}
}
