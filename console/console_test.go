package console_test

import (
	"bytes"
	"fmt"
	"math/rand"
	"strings"
	"testing"

	"bitloft/api"
	"bitloft/block"
	"bitloft/console"
	"bitloft/filter"
	"bitloft/list"
	"bitloft/pack"
	"bitloft/report"
	"bitloft/sha"
	"bitloft/tree"
)

// script is one with each order on a line of its own.
func script(orders ...string) string {
	if len(orders) == 0 {
		return ""
	}
	return strings.Join(orders, "\n") + "\n"
}

func run(t *testing.T, orders ...string) []string {
	t.Helper()
	out, e := console.Run(script(orders...))
	if e != api.OK {
		t.Fatal(e)
	}
	if len(orders) == 0 {
		return nil
	}
	l := strings.Split(out, "\n")
	if len(l) != len(orders)+1 || l[len(orders)] != "" {
		t.Fatalf("%q", out)
	}
	return l[:len(orders)]
}

func said(t *testing.T, order, want string, before ...string) {
	t.Helper()
	out := run(t, append(before, order)...)
	if got := out[len(out)-1]; got != want {
		t.Errorf("%q behind %q: %q, not %q", order, before, got, want)
	}
}

func TestExample(t *testing.T) {
	orders := []string{"put a 1 abc", "put b 1 z", "pack", "get a", "brief", "set 76 0", "brief", "salvage", "filter runs", "get b", "drop c", "get", "put a 300 x"}
	want := []string{"3", "4", "162", "3 a9993e36", "bytes 162 members 2 blocks 2 fine 2 sum 0 lost 0 good", "ok", "bytes 162 members 2 blocks 2 fine 1 sum 0 lost 1 bad", "found 1 whole 1", "ok", "bad", "none", "what", "many"}
	for i, got := range run(t, orders...) {
		if got != want[i] {
			t.Errorf("%q: %q, not %q", orders[i], got, want[i])
		}
	}
}

func TestScripts(t *testing.T) {
	long := strings.Repeat("x", 3999) + "\n"
	for _, c := range []struct {
		s string
		n int
		e api.Errno
	}{
		{"", 0, api.OK}, {"\n", 1, api.OK}, {"pack\n", 1, api.OK}, {strings.Repeat("\n", 40), 40, api.OK}, {strings.Repeat("\n", 41), 0, api.ErrMany}, {strings.Repeat("\n", 41) + "x", 0, api.ErrMany},
		{long, 1, api.OK}, {"x" + long, 0, api.ErrMany}, {long + "x", 0, api.ErrMany}, {"pack", 0, api.ErrForm}, {"pack\npack", 0, api.ErrForm}, {"\r", 0, api.ErrForm},
	} {
		if n, e := console.Lines(c.s); e != c.e || n != c.n {
			t.Error(len(c.s), n, e)
		}
		out, e := console.Run(c.s)
		if e != c.e || strings.Count(out, "\n") != c.n {
			t.Errorf("%d bytes: %q %v", len(c.s), out, e)
		}
	}
}

func TestRecipeOrders(t *testing.T) {
	for _, order := range []string{"level 7", "block 4096", "block 16", "group 16", "filter delta 8", "filter front", "filter runs", "plain"} {
		said(t, order, "ok")
	}
	for _, order := range []string{"level 8", "block 15", "group 17", "filter", "filter delta 9", "plain 1", "level  1"} {
		said(t, order, "what")
	}
	four := []string{"filter runs", "filter front", "filter delta 1", "filter runs"}
	said(t, "filter front", "many", four...)
	said(t, "filter delta 9", "what", four...)
	said(t, "plain", "ok", four...)
	said(t, "filter front", "ok", append(four, "plain")...)
	said(t, "pack", "28")
	said(t, "list", "archive 0 64", "pack")
	said(t, "list", "archive 3 100", "level 3", "block 100", "pack")
	said(t, "list", "archive 0 64", "pack", "level 3", "block 100")
}

func TestPut(t *testing.T) {
	said(t, "put a 200 x", "200")
	said(t, "put a 201 x", "many")
	said(t, "put a 100 xyz", "many")
	said(t, "put a 100000 xx", "many")
	said(t, "put a 0 xyz", "0")
	said(t, "put a 100000 ", "0")
	said(t, "put a 3 ", "0")
	said(t, "put a 99 x", "99")
	said(t, "put a 109 x", "109")
	said(t, "put b 1 x", "many", "put a 200 x")
	said(t, "put a 5 x", "5", "put a 200 x")
	said(t, "put b 100 x", "105", "put a 200 x", "put a 5 x")
	said(t, "put a 101 x", "many", "put a 50 x", "put b 100 x")
	said(t, "put a 100 x", "200", "put a 50 x", "put b 100 x")
	said(t, "put b 0 x", "50", "put a 50 x", "put b 201 x")
	for _, order := range []string{
		"put", "put a", "put a 1", "put a 1 x y", "put  1 x", "put a  x", "put a 01 x", "put a -1 x", "put a +1 x", "put a 100001 x", "put a 1000000 x", "put a 1e1 x", "put a : x", "put a 1: x", "put a 2/ x", "put a  x y", "put a 1 x  ", "put " + strings.Repeat("n", 41) + " 1 x",
		"put \x7f 1 x", "put \xff 1 x", "Put a 1 x", " put a 1 x", "put a 1 x ", "put a 99999999999999999999 x", "puta 1 x", "put ä 1 x",
	} {
		said(t, order, "what")
	}
	var full []string
	for i := range 16 {
		full = append(full, fmt.Sprintf("put n%d 1 x", i))
	}
	said(t, "put z 1 x", "many", full...)
	said(t, "put z 0 x", "many", full...)
	said(t, "put n3 2 x", "17", full...)
	said(t, "put z 2 x", "17", append(full, "drop n5")...)
	said(t, "get a", "6 "+digits(t, "\xff\xc3\xff\xc3\xff\xc3"), "put a 3 \xff\xc3", "pack")
}

func digits(t *testing.T, s string) string {
	t.Helper()
	d, e := sha.Sum([]byte(s))
	if e != api.OK {
		t.Fatal(e)
	}
	return report.Sum(d)[:8]
}

func TestDrop(t *testing.T) {
	said(t, "drop a", "none")
	said(t, "drop a", "ok", "put a 1 x")
	said(t, "drop a", "none", "put a 1 x", "drop a")
	said(t, "drop b", "none", "put a 1 x")
	said(t, "drop", "what")
	said(t, "drop a b", "what", "put a 1 x")
	said(t, "drop ", "what")
	three := []string{"put a 1 x", "put b 2 y", "put c 3 z"}
	said(t, "put d 0 x", "4", append(three, "drop b")...)
	said(t, "list", "archive 0 64 / member a 1 "+report.Sum(sum(t, "x"))+" / member c 3 "+report.Sum(sum(t, "zzz"))+" / stored 0 0 1 1 "+blockSum(t, 0, "x")+" / stored 1 0 3 3 "+blockSum(t, 1, "zzz"), append(three, "drop b", "pack")...)
}

func sum(t *testing.T, s string) api.Sum {
	t.Helper()
	d, e := sha.Sum([]byte(s))
	if e != api.OK {
		t.Fatal(e)
	}
	return d
}

func blockSum(t *testing.T, member int, s string) string {
	t.Helper()
	b, e := block.Make(0, member, 0, []byte(s))
	if e != api.OK {
		t.Fatal(e)
	}
	return report.Sum(b.Head.Sum)
}

func TestNothingIsHeld(t *testing.T) {
	for _, order := range []string{"brief", "list", "get a", "set 0 0", "cut 0 0", "end 0", "salvage", "root"} {
		said(t, order, "none")
		said(t, order, "none", "put a 1 x", "level 2")
	}
	for _, order := range []string{"brief 1", "list ", "get", "get a b", "get ", "set 0", "set 0 0 0", "set 00 0", "set 0 100001", "set a 0", "cut 0", "cut 1 01", "end", "end 1 1", "end x", "salvage 1", "root root", "pack 1", "", " ", "xyz", "PACK", "pack\r", "bri\x00ef"} {
		said(t, order, "what")
		said(t, order, "what", "put a 1 x", "pack")
	}
}

var story = []string{"put a 30 ab", "put b 1 somethingelse", "put c 0 x", "block 16", "level 1"}

// packed is the archive that story makes with some filters.
func packed(t *testing.T, chain ...api.Filter) []byte {
	t.Helper()
	l := []api.Member{{Name: "a", Data: []byte(strings.Repeat("ab", 30))}, {Name: "b", Data: []byte("somethingelse")}, {Name: "c"}}
	for i := range l {
		l[i].Data, _ = filter.Apply(chain, l[i].Data)
	}
	b, e := pack.Pack(api.Settings{Level: 1, Block: 16}, l)
	if e != api.OK {
		t.Fatal(e)
	}
	return b
}

func TestArchiveOrders(t *testing.T) {
	b := packed(t)
	l, _ := list.List(b)
	text, _ := report.Text(l)
	brief, _ := report.Brief(b)
	var leaves [][]byte
	for i := range l.Heads {
		one, _ := list.Block(b, i)
		w, _ := block.Write(one)
		leaves = append(leaves, w)
	}
	root, _ := tree.Root(leaves)
	held := append(story[:5:5], "pack")
	said(t, "pack", fmt.Sprint(len(b)), story...)
	said(t, "list", strings.ReplaceAll(strings.TrimSuffix(text, "\n"), "\n", " / "), held...)
	said(t, "brief", strings.TrimSuffix(brief, "\n"), held...)
	said(t, "root", report.Sum(root), held...)
	said(t, "get a", "60 "+digits(t, strings.Repeat("ab", 30)), held...)
	said(t, "get b", "13 "+digits(t, "somethingelse"), held...)
	said(t, "get c", "0 da39a3ee", held...)
	said(t, "get d", "bad", held...)
	said(t, "salvage", fmt.Sprintf("found %d whole 3", len(l.Heads)), held...)
	said(t, "root", strings.Repeat("0", 40), "pack")
	said(t, "salvage", "found 0 whole 0", "pack")
	said(t, "salvage", "found 0 whole 1", "pack", "put a 0 x", "put b 1 x")
	// What is held does not change with the members, nor with the recipe.
	said(t, "get b", "13 "+digits(t, "somethingelse"), append(held, "drop b", "level 5", "block 100")...)
	said(t, "get b", "13 "+digits(t, "somethingelse"), append(held, "put b 1 other")...)
	said(t, "salvage", fmt.Sprintf("found %d whole 2", len(l.Heads)), append(held, "drop b")...)
	said(t, "salvage", fmt.Sprintf("found %d whole 2", len(l.Heads)), append(held, "put b 1 other")...)
}

func TestDamage(t *testing.T) {
	b := packed(t)
	l, _ := list.List(b)
	at, _ := list.Places(l)
	n := len(b)
	held := append(story[:5:5], "pack")
	for order, want := range map[string]string{
		fmt.Sprintf("set %d 255", n-1): "ok", fmt.Sprintf("set %d 0", n): "range", "set 0 256": "range", "set 0 255": "ok", "set 100000 0": "range",
		fmt.Sprintf("cut 0 %d", n): "ok", fmt.Sprintf("cut 1 %d", n): "range", fmt.Sprintf("cut %d 0", n): "ok", fmt.Sprintf("cut %d 0", n+1): "range",
		fmt.Sprintf("end %d", n): "ok", fmt.Sprintf("end %d", n+1): "range", "end 0": "ok",
	} {
		said(t, order, want, held...)
	}
	said(t, "brief", "bad", append(held, "end 0")...)
	said(t, "list", "bad", append(held, "end 0")...)
	said(t, "root", "bad", append(held, "end 0")...)
	said(t, "get a", "bad", append(held, "end 0")...)
	said(t, "salvage", "found 0 whole 1", append(held, "end 0")...)
	said(t, "set 0 0", "range", append(held, "end 0")...)
	said(t, "pack", fmt.Sprint(n), append(held, "end 0")...)
	said(t, "get a", "60 "+digits(t, strings.Repeat("ab", 30)), append(held, "end 0", "pack")...)
	hurt := append(held, fmt.Sprintf("set %d %d", at[0]+41, b[at[0]+41]^1))
	said(t, "get a", "bad", hurt...)
	said(t, "get b", "13 "+digits(t, "somethingelse"), hurt...)
	said(t, "salvage", fmt.Sprintf("found %d whole 2", len(at)-1), hurt...)
	said(t, "brief", fmt.Sprintf("bytes %d members 3 blocks %d fine %d sum 1 lost 0 bad", n, len(at), len(at)-1), hurt...)
	gone := append(held, fmt.Sprintf("cut %d %d", at[1], at[2]-at[1]))
	said(t, "brief", fmt.Sprintf("bytes %d members 3 blocks %d fine %d sum 0 lost 1 bad", n-at[2]+at[1], len(at), len(at)-1), gone...)
	said(t, "list", "bad", gone...)
	said(t, "salvage", fmt.Sprintf("found %d whole 2", len(at)-1), gone...)
	said(t, "end 100", "ok", append(gone, "end 200")...)
	// Blocks that are coded with another level have no raw bytes with the one of the recipe.
	long := []string{"put a 5 thequickbrownfoxjumpsoverthelazydog", "block 256", "pack"}
	said(t, "salvage", "found 1 whole 1", long...)
	said(t, "salvage", "found 0 whole 0", append(long, "level 7")...)
	said(t, "salvage", "found 1 whole 1", append(long, "level 7", "level 0")...)
}

func TestFiltersOfMembers(t *testing.T) {
	chain := []api.Filter{{Kind: 1, N: 2}, {Kind: 3}}
	b := packed(t, chain...)
	held := append(story[:5:5], "filter delta 2", "filter runs", "pack")
	out := run(t, held...)
	if out[7] != fmt.Sprint(len(b)) || bytes.Equal(b, packed(t)) {
		t.Error(out)
	}
	l, _ := list.List(b)
	said(t, "get a", "60 "+digits(t, strings.Repeat("ab", 30)), held...)
	said(t, "salvage", fmt.Sprintf("found %d whole 3", len(l.Heads)), held...)
	filtered, _ := filter.Apply(chain, []byte(strings.Repeat("ab", 30)))
	said(t, "get a", fmt.Sprintf("%d %s", len(filtered), digits(t, string(filtered))), append(held, "plain")...)
	said(t, "salvage", fmt.Sprintf("found %d whole 1", len(l.Heads)), append(held, "plain")...)
	// What no filter makes is bad.
	said(t, "get x", "bad", "put x 1 aa", "pack", "filter runs")
	said(t, "get x", "1 "+digits(t, "a"), "put x 1 a", "pack", "filter runs")
}

func TestConsequences(t *testing.T) {
	r := rand.New(rand.NewSource(1))
	all := []string{"put a 5 xy", "put b 1 abc", "put a 200 q", "drop a", "pack", "brief", "list", "get a", "get b", "set 30 1", "cut 90 2", "end 120", "salvage", "root", "filter runs", "plain", "level 2", "block 16", "nonsense"}
	idle := map[string]bool{"brief": true, "list": true, "get a": true, "get b": true, "salvage": true, "root": true, "nonsense": true}
	for range 40 {
		var orders []string
		for range 1 + r.Intn(20) {
			orders = append(orders, all[r.Intn(len(all))])
		}
		out := run(t, orders...)
		first := run(t, orders[:len(orders)/2]...)
		if strings.Join(first, "\n") != strings.Join(out[:len(orders)/2], "\n") {
			t.Fatal("the output of the first orders", orders)
		}
		var rest, want []string
		for i, order := range orders {
			if !idle[order] {
				rest, want = append(rest, order), append(want, out[i])
			}
		}
		if got := run(t, rest...); strings.Join(got, "\n") != strings.Join(want, "\n") {
			t.Fatal("orders that do nothing change the output", orders)
		}
	}
}
