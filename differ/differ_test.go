package differ_test

import (
	"bytes"
	"math/rand"
	"reflect"
	"slices"
	"strings"
	"testing"

	"bitloft/api"
	"bitloft/differ"
	"bitloft/pack"
)

var (
	s1 = api.Settings{Level: 1, Block: 16}
	s2 = api.Settings{Level: 3, Block: 100}
)

func noise(seed int64, n int) []byte {
	b := make([]byte, n)
	rand.New(rand.NewSource(seed)).Read(b)
	return b
}

func keep(name string) api.Change             { return api.Change{Kind: 1, Name: name} }
func anew(name string, s string) api.Change   { return api.Change{Kind: 2, Name: name, Data: []byte(s)} }
func member(name string, s string) api.Member { return api.Member{Name: name, Data: []byte(s)} }
func patch(s api.Settings, l ...api.Change) api.Patch {
	return api.Patch{Settings: s, Changes: l}
}

func archive(t *testing.T, s api.Settings, l ...api.Member) []byte {
	t.Helper()
	b, e := pack.Pack(s, l)
	if e != api.OK {
		t.Fatal(e)
	}
	return b
}

func same(a, b api.Patch) bool {
	return a.Settings == b.Settings && slices.EqualFunc(a.Changes, b.Changes, func(x, y api.Change) bool {
		return x.Kind == y.Kind && x.Name == y.Name && bytes.Equal(x.Data, y.Data)
	})
}

func isZero(p api.Patch) bool { return reflect.DeepEqual(p, api.Patch{}) }

func TestExample(t *testing.T) {
	a := archive(t, s1, member("a", "first"), member("b", "second"))
	b := archive(t, s2, member("b", "second"), member("c", "third"))
	p, e := differ.Diff(a, b)
	if e != api.OK || !same(p, patch(s2, keep("b"), anew("c", "third"))) {
		t.Error(p, e)
	}
	w, e := differ.Write(patch(s1, keep("b")))
	if e != api.OK || !bytes.Equal(w, []byte{80, 1, 0, 16, 1, 1, 1, 98}) {
		t.Error(w, e)
	}
}

func TestDiffAndApply(t *testing.T) {
	all := [][]byte{
		archive(t, s1), archive(t, s2, member("a", "x")), archive(t, s1, member("a", "x"), member("b", "")), archive(t, s2, member("b", ""), member("a", "y")),
		archive(t, s1, member("c", strings.Repeat("long text ", 40)), member("a", "x")), archive(t, s2, member("c", strings.Repeat("long text ", 40)), member("b", "n"), member("d", string(noise(1, 70)))),
	}
	for i, a := range all {
		for k, b := range all {
			before, after := bytes.Clone(a), bytes.Clone(b)
			p, e := differ.Diff(a, b)
			if e != api.OK || differ.Check(p) != api.OK {
				t.Fatal(i, k, e)
			}
			got, e := differ.Apply(a, p)
			if e != api.OK || !bytes.Equal(got, b) || !bytes.Equal(a, before) {
				t.Fatal(i, k, e)
			}
			if i == k && slices.ContainsFunc(p.Changes, func(c api.Change) bool { return c.Kind != api.ChangeKeep }) {
				t.Error(i, "not all members are kept")
			}
			w, e := differ.Write(p)
			none, _ := differ.Diff(all[0], b)
			full, _ := differ.Write(none)
			if e != api.OK || len(w) > len(full) {
				t.Error(i, k, len(w), len(full), e)
			}
			for c, x := range all {
				q, _ := differ.Diff(b, x)
				both, e := differ.Then(p, q)
				if e != api.OK {
					t.Fatal(i, k, c, e)
				}
				if got, e := differ.Apply(a, both); e != api.OK || !bytes.Equal(got, x) {
					t.Fatal(i, k, c, e)
				}
			}
			for j := range p.Changes {
				if len(p.Changes[j].Data) > 0 {
					p.Changes[j].Data[0]++
				}
			}
			if !bytes.Equal(b, after) {
				t.Fatal("memory is shared")
			}
		}
	}
}

func TestDiffDetails(t *testing.T) {
	a := archive(t, s1, member("a", "x"), member("b", "y"), member("n", ""))
	b := archive(t, s2, member("n", ""), member("a", "y"), member("y", "y"), member("b", "y"))
	p, e := differ.Diff(a, b)
	if e != api.OK || !same(p, patch(s2, keep("n"), anew("a", "y"), anew("y", "y"), keep("b"))) {
		t.Error(p, e)
	}
	harmed := bytes.Clone(a)
	harmed[len(a)-1]++
	for i, c := range []struct {
		a, b []byte
		e    api.Errno
	}{{harmed, nil, api.ErrSum}, {a, harmed, api.ErrSum}, {nil, harmed, api.ErrShort}, {a, a[1:], api.ErrForm}} {
		if p, e := differ.Diff(c.a, c.b); e != c.e || !isZero(p) {
			t.Error(i, e)
		}
	}
}

func TestCheck(t *testing.T) {
	var many []api.Change
	for i := range 17 {
		many = append(many, keep(strings.Repeat("n", i+1)))
	}
	wide := string(make([]byte, 8192))
	for i, c := range []struct {
		p api.Patch
		e api.Errno
	}{
		{patch(s1), api.OK}, {patch(s1, many[:16]...), api.OK}, {patch(s1, many...), api.ErrMany}, {patch(api.Settings{}, many...), api.ErrArg},
		{patch(api.Settings{Level: 8, Block: 16}), api.ErrArg}, {patch(api.Settings{Level: 7, Block: 4096}), api.OK},
		{patch(s1, anew("a", wide)), api.OK}, {patch(s1, anew("a", wide), anew("b", "x")), api.ErrMany}, {patch(s1, anew("a", wide+"x")), api.ErrMany},
		{patch(s1, anew("a", wide), anew("", "x")), api.ErrMany}, {patch(s1, api.Change{Kind: 1, Name: "a", Data: []byte(wide + "x")}), api.ErrMany},
		{patch(s1, keep("")), api.ErrBad}, {patch(s1, anew("a b", "")), api.ErrBad}, {patch(s1, keep(strings.Repeat("n", 41))), api.ErrBad}, {patch(s1, keep(strings.Repeat("n", 40))), api.OK},
		{patch(s1, api.Change{Name: "a"}), api.ErrBad}, {patch(s1, api.Change{Kind: 3, Name: "a"}), api.ErrBad}, {patch(s1, api.Change{Kind: 1, Name: "a", Data: []byte{1}}), api.ErrBad},
		{patch(s1, keep("a"), anew("a", "")), api.ErrTwice}, {patch(s1, keep("a"), keep("a"), api.Change{Kind: 3, Name: "b"}), api.ErrBad}, {patch(s1, keep("a"), keep("a"), keep("")), api.ErrBad},
		{patch(s1, anew("a", "")), api.OK}, {patch(s1, api.Change{Kind: 1, Name: "a", Data: []byte{}}), api.OK},
	} {
		if e := differ.Check(c.p); e != c.e {
			t.Error(i, e)
		}
		w, e := differ.Write(c.p)
		if e != c.e || e != api.OK && w != nil {
			t.Error(i, e)
		}
		if c.e == api.OK {
			continue
		}
		if b, e := differ.Apply(archive(t, s1), c.p); e != c.e || b != nil {
			t.Error(i, e)
		}
		if q, e := differ.Then(c.p, patch(api.Settings{Level: -1})); e != c.e || !isZero(q) {
			t.Error(i, e)
		}
		if q, e := differ.Then(patch(s1), c.p); e != c.e || !isZero(q) {
			t.Error(i, e)
		}
	}
}

func TestApplyErrors(t *testing.T) {
	a := archive(t, s1, member("a", string(noise(1, 5000))), member("b", "x"))
	wide := string(noise(2, 8192))
	for i, c := range []struct {
		a []byte
		p api.Patch
		e api.Errno
	}{
		{nil, api.Patch{}, api.ErrShort}, {a, api.Patch{}, api.ErrArg}, {a, patch(s1, keep("c")), api.ErrNone}, {a, patch(s1, anew("d", wide), keep("a"), keep("c")), api.ErrNone},
		{a, patch(s1, anew("d", wide), keep("b")), api.ErrMany}, {a, patch(s1, anew("d", wide[:8192-5000]), keep("a")), api.OK}, {a, patch(s1, anew("d", wide[:8193-5000]), keep("a")), api.ErrMany},
	} {
		b, e := differ.Apply(c.a, c.p)
		if e != c.e || e != api.OK && b != nil {
			t.Error(i, e)
		}
	}
	got, e := differ.Apply(a, patch(s2, anew("a", "new"), keep("b")))
	if e != api.OK || !bytes.Equal(got, archive(t, s2, member("a", "new"), member("b", "x"))) {
		t.Error(e)
	}
}

func TestWriteAndRead(t *testing.T) {
	var most []api.Change
	for i := range 16 {
		most = append(most, anew(strings.Repeat("n", 39)+string(rune('A'+i)), string(noise(int64(i), 512))))
	}
	for i, p := range []api.Patch{
		patch(s1), patch(s2, keep("b")), patch(s2, keep("b"), anew("c", ""), anew("dd", "text\x00\xff"), keep("~")), patch(api.Settings{Level: 7, Block: 4096}, anew("w", string(noise(1, 8192)))), patch(s1, most...),
	} {
		w, e := differ.Write(p)
		want := []byte{80, byte(p.Settings.Level), byte(p.Settings.Block / 256), byte(p.Settings.Block % 256), byte(len(p.Changes))}
		for _, c := range p.Changes {
			want = append(append(want, c.Kind, byte(len(c.Name))), c.Name...)
			if c.Kind == api.ChangeNew {
				want = append(append(want, byte(len(c.Data)/256), byte(len(c.Data)%256)), c.Data...)
			}
		}
		if e != api.OK || !bytes.Equal(w, want) {
			t.Fatal(i, e)
		}
		keepW := bytes.Clone(w)
		got, e := differ.Read(w)
		if e != api.OK || !same(got, p) || !bytes.Equal(w, keepW) {
			t.Fatal(i, e)
		}
		for k := range w {
			w[k]++
		}
		if !same(got, p) {
			t.Fatal("memory is shared")
		}
		for k := 0; k < len(keepW); k += 1 + len(keepW)/50 {
			if q, e := differ.Read(keepW[:k]); e != api.ErrForm || !isZero(q) {
				t.Fatal(i, k, e)
			}
		}
		if q, e := differ.Read(append(keepW, 0)); e != api.ErrForm || !isZero(q) {
			t.Fatal(i, e)
		}
	}
}

func TestReadErrors(t *testing.T) {
	good := []byte{80, 1, 0, 16, 2, 1, 1, 98, 2, 1, 99, 0, 2, 7, 8}
	if p, e := differ.Read(good); e != api.OK || !same(p, patch(s1, keep("b"), anew("c", "\x07\x08"))) {
		t.Error(p, e)
	}
	for _, c := range []struct {
		at   int
		with byte
	}{{0, 81}, {1, 8}, {3, 15}, {2, 17}, {4, 1}, {4, 3}, {4, 255}, {5, 0}, {5, 3}, {5, 2}, {6, 0}, {6, 255}, {7, 32}, {8, 1}, {10, 98}, {11, 1}, {12, 3}, {12, 1}} {
		b := bytes.Clone(good)
		b[c.at] = c.with
		if p, e := differ.Read(b); e != api.ErrForm || !isZero(p) {
			t.Error(c, p, e)
		}
	}
	if p, e := differ.Read(make([]byte, 9001)); e != api.ErrMany || !isZero(p) {
		t.Error(e)
	}
	if p, e := differ.Read(make([]byte, 9000)); e != api.ErrForm || !isZero(p) {
		t.Error(e)
	}
}

func TestThen(t *testing.T) {
	p := patch(s1, keep("a"), anew("b", "bee"), anew("c", "sea"))
	q := patch(s2, keep("b"), anew("c", "see"), keep("a"), anew("d", "dee"))
	both, e := differ.Then(p, q)
	if e != api.OK || !same(both, patch(s2, anew("b", "bee"), anew("c", "see"), keep("a"), anew("d", "dee"))) {
		t.Error(both, e)
	}
	both.Changes[0].Data[0], both.Changes[1].Data[0] = 'x', 'x'
	if string(p.Changes[1].Data) != "bee" || string(q.Changes[1].Data) != "see" {
		t.Error("memory is shared")
	}
	wide := string(make([]byte, 5000))
	for i, c := range []struct {
		p, q api.Patch
		e    api.Errno
	}{
		{p, patch(s2, keep("d")), api.ErrNone}, {patch(s1), patch(s2, keep("a")), api.ErrNone},
		{patch(s1, anew("a", wide)), patch(s2, keep("a"), anew("b", wide)), api.ErrMany}, {patch(s1, anew("a", wide)), patch(s2, keep("a"), anew("b", wide), keep("c")), api.ErrNone},
		{patch(s1, anew("a", wide)), patch(s2, keep("a"), anew("b", wide[:3192])), api.OK}, {patch(s1, anew("a", wide)), patch(s2, anew("b", wide)), api.OK},
	} {
		got, e := differ.Then(c.p, c.q)
		if e != c.e || e != api.OK && !isZero(got) {
			t.Error(i, e)
		}
	}
}
