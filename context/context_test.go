package context_test

import (
	"bytes"
	"math"
	"math/rand"
	"strings"
	"testing"

	"bitloft/api"
	"bitloft/context"
	"bitloft/hashes"
	"bitloft/ring"
)

func with(t *testing.T, level int, s string) api.Ring {
	t.Helper()
	r, _ := ring.New(level)
	r, e := ring.Put(r, []byte(s))
	if e != api.OK {
		t.Fatal(e)
	}
	return r
}

func hash(t *testing.T, kind int, s string) uint32 {
	t.Helper()
	h, e := hashes.Of(kind, []byte(s))
	if e != api.OK {
		t.Fatal(e)
	}
	return h
}

func TestExamples(t *testing.T) {
	r := with(t, 0, "Go 2GO")
	if w, e := context.Word(r); e != api.OK || string(w) != "go" {
		t.Errorf("%q %v", w, e)
	}
	if one, two, e := context.Recent(r); e != api.OK || one != 79 || two != 71 {
		t.Error(one, two, e)
	}
	r = with(t, 0, "")
	if w, e := context.Word(r); e != api.OK || len(w) != 0 {
		t.Errorf("%q %v", w, e)
	}
	if one, two, e := context.Recent(r); e != api.OK || one != 0 || two != 0 {
		t.Error(one, two, e)
	}
	if m, e := context.Of(r); e != api.OK || m[0] != hash(t, 0, "\x00") {
		t.Error(m, e)
	}
	if one, two, e := context.Recent(with(t, 0, "x")); e != api.OK || one != 'x' || two != 0 {
		t.Error(one, two, e)
	}
}

func TestWord(t *testing.T) {
	for s, want := range map[string]string{
		"abc":                                 "abc",
		"AZaz":                                "azaz",
		"@AZ[":                                "",
		"[AZ":                                 "az",
		"@az":                                 "az",
		"`az":                                 "az",
		"a{Zz":                                "zz",
		"word ":                               "",
		"\x00a":                               "a",
		"\xe1b":                               "b",
		"aBcDeFgHiJkLm":                       "abcdefghijklm",
		"1" + strings.Repeat("Q", 15) + "r":   strings.Repeat("q", 15) + "r",
		"ab" + strings.Repeat("Q", 15) + "r":  strings.Repeat("q", 15) + "r",
		strings.Repeat("abcdefghij", 10):      "efghijabcdefghij",
		"x" + strings.Repeat("y", 15):         "x" + strings.Repeat("y", 15),
		strings.Repeat("z", 60) + "-" + "end": "end",
	} {
		for level := range 3 {
			if w, e := context.Word(with(t, level, s)); e != api.OK || string(w) != want {
				t.Errorf("%q: %q %v", s, w, e)
			}
		}
	}
}

func TestOf(t *testing.T) {
	random := rand.New(rand.NewSource(1))
	for range 300 {
		b := make([]byte, random.Intn(150))
		for i := range b {
			b[i] = "aB9 \x00zZ\xff"[random.Intn(8)]
		}
		r := with(t, random.Intn(3), string(b))
		before := bytes.Clone(r.Bytes)
		m, e := context.Of(r)
		w, _ := context.Word(r)
		padded := strings.Repeat("\x00", 6) + string(b)
		for kind, order := range []int{1, 2, 3, 4, 6} {
			if want := hash(t, kind, padded[len(padded)-order:]); e != api.OK || m[kind] != want {
				t.Fatalf("%q: order %d: %d %v", b, order, m[kind], e)
			}
		}
		if m[5] != hash(t, 5, string(w)) || !bytes.Equal(before, r.Bytes) {
			t.Fatalf("%q: word %q", b, w)
		}
		one, two, e := context.Recent(r)
		if e != api.OK || one != padded[len(padded)-1] || two != padded[len(padded)-2] {
			t.Fatalf("%q: %d %d %v", b, one, two, e)
		}
	}
}

func TestDependsOnLastBytesAlone(t *testing.T) {
	a, _ := context.Of(with(t, 0, "qqq 4 Houses"))
	b, _ := context.Of(with(t, 5, strings.Repeat("-", 500)+"4 hOuses"))
	if a[0] != b[0] || a[1] != b[1] || a[2] != b[2] || a[3] != b[3] || a[4] == b[4] || a[5] != b[5] {
		t.Error(a, b)
	}
	c, _ := context.Of(with(t, 3, "xouses"))
	if a[3] != c[3] || a[4] == c[4] || a[5] == c[5] {
		t.Error(a, c)
	}
	sixteen := "0123456789abcdef"
	d, _ := context.Of(with(t, 1, "abc"+sixteen))
	e, _ := context.Of(with(t, 6, sixteen))
	if d != e {
		t.Error(d, e)
	}
}

func TestDeep(t *testing.T) {
	seen := map[uint32]bool{}
	for part := 16; part <= 31; part++ {
		h, e := context.Deep(123456789, part)
		if e != api.OK || h != hashes.Step(123456789, byte(part)) || seen[h] {
			t.Error(part, h, e)
		}
		seen[h] = true
	}
	for _, part := range []int{15, 32, 0, -1, 272, math.MinInt, math.MaxInt} {
		if h, e := context.Deep(5, part); e != api.ErrArg || h != 0 {
			t.Error(part, h, e)
		}
	}
}

func TestInvalidRings(t *testing.T) {
	for _, r := range []api.Ring{{}, {Bytes: make([]byte, 64), N: -1}, {Level: 1, Bytes: make([]byte, 64)}, {Bytes: bytes.Repeat([]byte{1}, 64), N: 5}} {
		if m, e := context.Of(r); e != api.ErrBad || m != [api.Contexts]uint32{} {
			t.Error(m, e)
		}
		if w, e := context.Word(r); e != api.ErrBad || w != nil {
			t.Error(w, e)
		}
		if one, two, e := context.Recent(r); e != api.ErrBad || one != 0 || two != 0 {
			t.Error(one, two, e)
		}
	}
}

func TestWordSharesNoMemory(t *testing.T) {
	r := with(t, 0, "abc")
	w, _ := context.Word(r)
	w[0] = 'x'
	if string(r.Bytes[:3]) != "abc" {
		t.Error("memory is shared")
	}
}
