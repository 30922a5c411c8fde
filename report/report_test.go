package report_test

import (
	"bytes"
	"encoding/hex"
	"fmt"
	"math/rand"
	"reflect"
	"strings"
	"testing"

	"bitloft/api"
	"bitloft/list"
	"bitloft/pack"
	"bitloft/report"
	"bitloft/verify"
)

func noise(seed int64, n int) []byte {
	b := make([]byte, n)
	rand.New(rand.NewSource(seed)).Read(b)
	return b
}

func archive(t *testing.T, s api.Settings, l ...api.Member) []byte {
	t.Helper()
	b, e := pack.Pack(s, l)
	if e != api.OK {
		t.Fatal(e)
	}
	return b
}

func sample() []api.Member {
	return []api.Member{{Name: "text", Data: []byte(strings.Repeat("easy ", 40))}, {Name: "none~!"}, {Name: "noise", Data: noise(1, 90)}}
}

func listing(t *testing.T, b []byte) api.Listing {
	t.Helper()
	l, e := list.List(b)
	if e != api.OK {
		t.Fatal(e)
	}
	return l
}

func isZero(l api.Listing) bool { return reflect.DeepEqual(l, api.Listing{}) }

func TestSum(t *testing.T) {
	for seed := range int64(50) {
		d := api.Sum(noise(seed, 20))
		s := report.Sum(d)
		if s != hex.EncodeToString(d[:]) {
			t.Fatal(s)
		}
		if got, e := report.ReadSum(s); e != api.OK || got != d {
			t.Fatal(got, e)
		}
		for i := range s {
			for _, c := range "gAF/:` \x00" {
				if got, e := report.ReadSum(s[:i] + string(c) + s[i+1:]); e != api.ErrForm || got != (api.Sum{}) {
					t.Fatal(i, c, e)
				}
			}
		}
	}
	zeros := strings.Repeat("0", 42)
	for _, n := range []int{0, 1, 38, 39, 41, 42} {
		if got, e := report.ReadSum(zeros[:n]); e != api.ErrForm || got != (api.Sum{}) {
			t.Error(n, e)
		}
	}
	if got, e := report.ReadSum(zeros[:40]); e != api.OK || got != (api.Sum{}) {
		t.Error(e)
	}
}

func TestExample(t *testing.T) {
	b := archive(t, api.Settings{Level: 1, Block: 16})
	if s, e := report.Text(listing(t, b)); e != api.OK || s != "archive 1 16\n" {
		t.Errorf("%q %v", s, e)
	}
	if s, e := report.Brief(b); e != api.OK || s != "bytes 28 members 0 blocks 0 fine 0 sum 0 lost 0 good\n" {
		t.Errorf("%q %v", s, e)
	}
}

func TestText(t *testing.T) {
	for _, s := range []api.Settings{{Level: 1, Block: 32}, {Level: 7, Block: 4096}, {Level: 0, Block: 100}} {
		l := listing(t, archive(t, s, sample()...))
		var want strings.Builder
		fmt.Fprintf(&want, "archive %d %d\n", s.Level, s.Block)
		for _, r := range l.Records {
			fmt.Fprintf(&want, "member %s %d %x\n", r.Name, r.Size, r.Sum)
		}
		modes := map[uint8]string{1: "stored", 2: "coded"}
		seen := map[uint8]bool{}
		for _, h := range l.Heads {
			fmt.Fprintf(&want, "%s %d %d %d %d %x\n", modes[h.Mode], h.Member, h.Offset, h.Raw, h.Length, h.Sum)
			seen[h.Mode] = true
		}
		text, e := report.Text(l)
		if e != api.OK || text != want.String() || strings.Count(text, "\n") != 1+len(l.Records)+len(l.Heads) || len(seen) != 2 && s.Block != 4096 {
			t.Fatal(text, e)
		}
		if got, e := report.Parse(text); e != api.OK || !reflect.DeepEqual(got, l) {
			t.Fatal(got, e)
		}
	}
	if s, e := report.Text(api.Listing{}); e != api.ErrBad || s != "" {
		t.Error(s, e)
	}
	l := listing(t, archive(t, api.Settings{Block: 64}, sample()...))
	l.Heads[0].Offset++
	if s, e := report.Text(l); e != api.ErrBad || s != "" {
		t.Error(s, e)
	}
}

func TestLongestText(t *testing.T) {
	var l []api.Member
	for i := range 16 {
		l = append(l, api.Member{Name: strings.Repeat("n", 39) + string(rune('a'+i)), Data: make([]byte, 512)})
	}
	text, e := report.Text(listing(t, archive(t, api.Settings{Block: 16}, l...)))
	if e != api.OK || len(text) > api.MaxReport {
		t.Fatal(len(text), e)
	}
	if got, e := report.Parse(text); e != api.OK || len(got.Heads) != 512 {
		t.Error(e)
	}
}

func TestParseErrors(t *testing.T) {
	good, _ := report.Text(listing(t, archive(t, api.Settings{Level: 1, Block: 64}, sample()...)))
	lines := strings.SplitAfter(good, "\n")
	swapped := strings.Join([]string{lines[0], lines[2], lines[1]}, "") + strings.Join(lines[3:], "")
	for i, s := range []string{
		"", "\n", "archive 1 16", "archive 1 16\n\n", "archive  1 16\n", "archive 1 16 \n", "archive 01 16\n", "archive +1 16\n", "archive 1 15\n", "archive 8 16\n", "archive 1\n", "archive 1 16 2\n",
		"Archive 1 16\n", "archive 1 99999999999999999999\n", "archive -0 16\n", "archive 0x1 16\n", "archive 1 16\r\n", "archive 1 16\narchive 1 16\n", "member a 0 da39a3ee5e6b4b0d3255bfef95601890afd80709\n",
		"archive 1 16\nmember a 0 0000000000000000000000000000000000000000\n", "archive 1 16\nmember  0 da39a3ee5e6b4b0d3255bfef95601890afd80709\n", "archive 1 16\nmember a 5 da39a3ee5e6b4b0d3255bfef95601890afd80709\n",
		"archive 1 16\nmember a 0 DA39a3ee5e6b4b0d3255bfef95601890afd80709\n", "archive 1 16\nmember a 0 da39a3ee5e6b4b0d3255bfef95601890afd8070\n",
		swapped + "x", good[1:], good[:len(good)-1], good + lines[len(lines)-2], strings.Join(lines[:len(lines)-2], ""), strings.Replace(good, "stored", "coded", 1), strings.Replace(good, "coded", "stored", 1),
		strings.ReplaceAll(good, "\n", "\r\n"), strings.Replace(good, "member", "members", 1), strings.Join(append(lines[3:4:4], append(lines[:3:3], lines[4:]...)...), ""),
	} {
		if l, e := report.Parse(s); e != api.ErrForm || !isZero(l) {
			t.Errorf("%d %q: %v", i, s, e)
		}
	}
	if l, e := report.Parse("archive 1 16\nmember a 0 da39a3ee5e6b4b0d3255bfef95601890afd80709\n"); e != api.OK || len(l.Records) != 1 {
		t.Error(e)
	}
	long := strings.Repeat("x", api.MaxReport+1)
	if l, e := report.Parse(long); e != api.ErrMany || !isZero(l) {
		t.Error(e)
	}
	if l, e := report.Parse(long[1:]); e != api.ErrForm || !isZero(l) {
		t.Error(e)
	}
	r := rand.New(rand.NewSource(1))
	for range 300 {
		b := []byte(good)
		b[r.Intn(len(b))] = "019 af\nm"[r.Intn(8)]
		l, e := report.Parse(string(b))
		if e == api.OK {
			if text, e := report.Text(l); e != api.OK || text != string(b) {
				t.Fatalf("%q", b)
			}
		} else if e != api.ErrForm || !isZero(l) {
			t.Fatalf("%q %v", b, e)
		}
	}
}

func TestBrief(t *testing.T) {
	good := archive(t, api.Settings{Level: 1, Block: 64}, sample()...)
	l := listing(t, good)
	at, _ := list.Places(l)
	spoiled := bytes.Clone(good)
	spoiled[at[2]+50]++
	spoiled[at[4]]++
	for i, b := range [][]byte{good, spoiled, good[:at[3]+7], good[:at[0]], append(bytes.Clone(good), 0)} {
		states, _ := verify.States(b)
		fine, _ := verify.Fine(b)
		counts := map[uint8]int{}
		for _, s := range states {
			counts[s]++
		}
		want := fmt.Sprintf("bytes %d members 3 blocks %d fine %d sum %d lost %d %s\n", len(b), len(l.Heads), counts[1], counts[2], counts[3], map[bool]string{true: "good", false: "bad"}[fine])
		if s, e := report.Brief(b); e != api.OK || s != want || counts[1]+counts[2]+counts[3] != len(l.Heads) {
			t.Errorf("%d %q %q %v", i, s, want, e)
		}
	}
	spoiled[4] = 2
	for i, c := range []struct {
		b []byte
		e api.Errno
	}{{nil, api.ErrShort}, {spoiled, api.ErrSum}, {make([]byte, 50), api.ErrForm}, {make([]byte, api.MaxArchive+1), api.ErrMany}, {good[:at[0]-1], api.ErrShort}} {
		if s, e := report.Brief(c.b); e != c.e || s != "" {
			t.Error(i, s, e)
		}
	}
}
