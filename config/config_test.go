package config_test

import (
	"math"
	"math/rand"
	"reflect"
	"slices"
	"strconv"
	"strings"
	"testing"

	"bitloft/api"
	"bitloft/config"
)

var (
	front = api.Filter{Kind: api.FilterFront}
	runs  = api.Filter{Kind: api.FilterRuns}
)

func delta(n int) api.Filter { return api.Filter{Kind: api.FilterDelta, N: n} }

func recipe(level, block, group int, chain ...api.Filter) api.Recipe {
	return api.Recipe{Settings: api.Settings{Level: level, Block: block}, Chain: chain, Group: group}
}

func same(a, b api.Recipe) bool {
	return a.Settings == b.Settings && a.Group == b.Group && slices.Equal(a.Chain, b.Chain)
}

func isZero(x api.Recipe) bool { return reflect.DeepEqual(x, api.Recipe{}) }

func random(r *rand.Rand) api.Recipe {
	x := recipe(r.Intn(8), 16+r.Intn(4081), r.Intn(17))
	for range r.Intn(5) {
		x.Chain = append(x.Chain, []api.Filter{front, runs, delta(1 + r.Intn(8))}[r.Intn(3)])
	}
	return x
}

// lines are the lines of the text of a recipe.
func lines(x api.Recipe) []string {
	l := []string{"level " + strconv.Itoa(x.Settings.Level), "block " + strconv.Itoa(x.Settings.Block), "group " + strconv.Itoa(x.Group)}
	for _, f := range x.Chain {
		l = append(l, map[uint8]string{1: "filter delta " + strconv.Itoa(f.N), 2: "filter front", 3: "filter runs"}[f.Kind])
	}
	return l
}

func TestCheck(t *testing.T) {
	four := []api.Filter{front, runs, delta(1), delta(8)}
	for i, c := range []struct {
		x api.Recipe
		e api.Errno
	}{
		{recipe(0, 16, 0), api.OK}, {recipe(7, 4096, 16, four...), api.OK},
		{api.Recipe{}, api.ErrArg}, {recipe(-1, 16, 0), api.ErrArg}, {recipe(8, 16, 0), api.ErrArg}, {recipe(0, 15, 0), api.ErrArg}, {recipe(0, 4097, 0), api.ErrArg},
		{recipe(0, 16, -1), api.ErrArg}, {recipe(0, 16, 17), api.ErrArg}, {recipe(math.MaxInt, math.MinInt, math.MaxInt), api.ErrArg}, {recipe(0, 16, 17, make([]api.Filter, 5)...), api.ErrArg},
		{recipe(0, 16, 0, append(four, front)...), api.ErrMany}, {recipe(0, 16, 0, make([]api.Filter, 5)...), api.ErrMany},
		{recipe(0, 16, 0, api.Filter{}), api.ErrBad}, {recipe(0, 16, 0, front, delta(9)), api.ErrBad}, {recipe(0, 16, 0, api.Filter{Kind: 2, N: 1}), api.ErrBad},
	} {
		if e := config.Check(c.x); e != c.e {
			t.Error(i, e)
		}
		text, e := config.Text(c.x)
		if e != c.e || e != api.OK && text != "" {
			t.Error(i, e)
		}
		if c.e == api.OK {
			continue
		}
		if y, e := config.Set(c.x, "?"); e != c.e || !isZero(y) {
			t.Error(i, e)
		}
		if y, e := config.Sets(c.x, make([]string, 21)); e != c.e || !isZero(y) {
			t.Error(i, e)
		}
		if l, e := config.Differ(c.x, api.Recipe{}); e != c.e || l != nil {
			t.Error(i, e)
		}
		if l, e := config.Differ(recipe(0, 16, 0), c.x); e != c.e || l != nil {
			t.Error(i, e)
		}
	}
}

func TestExample(t *testing.T) {
	x := recipe(2, 64, 0, delta(3))
	if s, e := config.Text(x); e != api.OK || s != "level 2\nblock 64\ngroup 0\nfilter delta 3\n" {
		t.Errorf("%q %v", s, e)
	}
	y, e := config.Sets(x, []string{"plain", "block 128", "filter runs"})
	if e != api.OK || !same(y, recipe(2, 128, 0, runs)) {
		t.Error(y, e)
	}
}

func TestSetLines(t *testing.T) {
	x := recipe(2, 64, 5, delta(3))
	for line, want := range map[string]api.Recipe{
		"level 0": recipe(0, 64, 5, delta(3)), "level 7": recipe(7, 64, 5, delta(3)), "block 16": recipe(2, 16, 5, delta(3)), "block 4096": recipe(2, 4096, 5, delta(3)),
		"group 0": recipe(2, 64, 0, delta(3)), "group 16": recipe(2, 64, 16, delta(3)), "plain": recipe(2, 64, 5), "filter delta 1": recipe(2, 64, 5, delta(3), delta(1)),
		"filter delta 8": recipe(2, 64, 5, delta(3), delta(8)), "filter front": recipe(2, 64, 5, delta(3), front), "filter runs": recipe(2, 64, 5, delta(3), runs),
	} {
		if y, e := config.Set(x, line); e != api.OK || !same(y, want) {
			t.Error(line, y, e)
		}
	}
	for _, line := range []string{
		"", " ", "filter delta", "level 02", "level 8", "block 15", "block 4097", "group 17", "level", "level ", "level  2", " level 2", "level 2 ", "level 2\n", "level -1", "level +1",
		"level 1x", "Level 1", "level 00", "block 064", "block 99999999999999999999", "group 1 6", "filter", "filter ", "filter delta ", "filter delta 0", "filter delta 9", "filter delta 01",
		"filter delta 1 ", "filter delta1", "filter front ", "filter front 1", "filter runs 0", "filter fronts", "filter run", "plain ", "plainer", " plain", "plain 1", "filter  runs", "levels 3", "level\t2", "\xff", "group :", "block 1:0", "block 2/5", "filter delta /", "level 1/", "block 1/99",
	} {
		if y, e := config.Set(x, line); e != api.ErrForm || !isZero(y) {
			t.Errorf("%q: %v %v", line, y, e)
		}
		if y, e := config.Sets(x, []string{"level 1", line}); e != api.ErrForm || !isZero(y) {
			t.Errorf("%q: %v %v", line, y, e)
		}
	}
}

func TestFullChain(t *testing.T) {
	full := recipe(2, 64, 5, delta(3), front, runs, delta(4))
	for _, line := range []string{"filter front", "filter runs", "filter delta 2"} {
		if y, e := config.Set(full, line); e != api.ErrMany || !isZero(y) {
			t.Error(line, e)
		}
	}
	for _, line := range []string{"filter delta 9", "filter", "level 9"} {
		if y, e := config.Set(full, line); e != api.ErrForm || !isZero(y) {
			t.Error(line, e)
		}
	}
	if y, e := config.Set(full, "plain"); e != api.OK || !same(y, recipe(2, 64, 5)) {
		t.Error(y, e)
	}
	if y, e := config.Sets(full, []string{"group 3", "filter runs", "?"}); e != api.ErrMany || !isZero(y) {
		t.Error(e)
	}
	if y, e := config.Sets(full, slices.Repeat([]string{"plain"}, 20)); e != api.OK || len(y.Chain) != 0 {
		t.Error(e)
	}
	if y, e := config.Sets(full, slices.Repeat([]string{"?"}, 21)); e != api.ErrMany || !isZero(y) {
		t.Error(e)
	}
	if y, e := config.Sets(full, nil); e != api.OK || !same(y, full) {
		t.Error(y, e)
	}
}

func TestTextAndParse(t *testing.T) {
	r := rand.New(rand.NewSource(1))
	for range 500 {
		x := random(r)
		s, e := config.Text(x)
		if e != api.OK || s != strings.Join(lines(x), "\n")+"\n" || len(s) > api.MaxRecipe {
			t.Fatalf("%v: %q %v", x, s, e)
		}
		if y, e := config.Parse(s); e != api.OK || !same(x, y) {
			t.Fatalf("%q: %v %v", s, y, e)
		}
		for k := range s {
			if y, e := config.Parse(s[:k]); e == api.OK && !strings.HasSuffix(s[:k], "\n") || e != api.OK && (e != api.ErrForm || !isZero(y)) {
				t.Fatalf("%q: %v", s[:k], e)
			}
		}
		b := []byte(s)
		b[r.Intn(len(b))] = "0129 \nlf"[r.Intn(8)]
		if y, e := config.Parse(string(b)); e == api.OK {
			if again, e := config.Text(y); e != api.OK || again != string(b) {
				t.Fatalf("%q: %v", b, y)
			}
		} else if e != api.ErrForm || !isZero(y) {
			t.Fatalf("%q: %v", b, e)
		}
	}
}

func TestParseErrors(t *testing.T) {
	good := "level 2\nblock 64\ngroup 0\n"
	for _, s := range []string{
		"", "\n", "level 2\n", "level 2\nblock 64\n", "level 2\nblock 64\ngroup 0", good + "\n", "\n" + good, "block 64\nlevel 2\ngroup 0\n", good + "level 2\n", "level 1\n" + good,
		good + "plain\n", good + "filter runs", good + "filter runs\r\n", strings.ReplaceAll(good, "\n", "\r\n"), good + strings.Repeat("filter runs\n", 5), "level 02\nblock 64\ngroup 0\n", "block 16\ngroup 0\n", "group 0\n",
		"filter runs\n" + good, good + "filter runs\nplain\n",
	} {
		if x, e := config.Parse(s); e != api.ErrForm || !isZero(x) {
			t.Errorf("%q: %v %v", s, x, e)
		}
	}
	if x, e := config.Parse(strings.Repeat("x", 301)); e != api.ErrMany || !isZero(x) {
		t.Error(e)
	}
	if x, e := config.Parse(strings.Repeat("x", 300)); e != api.ErrForm || !isZero(x) {
		t.Error(e)
	}
	if x, e := config.Parse(good + strings.Repeat("filter runs\n", 4)); e != api.OK || len(x.Chain) != 4 {
		t.Error(e)
	}
}

func TestDiffer(t *testing.T) {
	r := rand.New(rand.NewSource(2))
	for range 500 {
		a, b := random(r), random(r)
		if r.Intn(3) == 0 {
			b.Chain = slices.Clone(a.Chain)
		}
		if r.Intn(3) == 0 {
			b.Settings = a.Settings
		}
		var want []string
		for i, line := range lines(b)[:3] {
			if line != lines(a)[i] {
				want = append(want, line)
			}
		}
		if !slices.Equal(a.Chain, b.Chain) {
			if len(a.Chain) > 0 {
				want = append(want, "plain")
			}
			want = append(want, lines(b)[3:]...)
		}
		l, e := config.Differ(a, b)
		if e != api.OK || !slices.Equal(l, want) {
			t.Fatal(a, b, l, e)
		}
		if y, e := config.Sets(a, l); e != api.OK || !same(y, b) {
			t.Fatal(a, b, y, e)
		}
		plain := recipe(0, 16, 0)
		if y, e := config.Sets(plain, lines(b)); e != api.OK || !same(y, b) {
			t.Fatal(b, y, e)
		}
	}
	a := recipe(2, 64, 0, runs)
	if l, e := config.Differ(a, a); e != api.OK || len(l) != 0 {
		t.Error(l, e)
	}
}

func TestNoSharedMemory(t *testing.T) {
	chain := append(make([]api.Filter, 0, 4), delta(1))
	x := recipe(2, 64, 0)
	x.Chain = chain
	for _, line := range []string{"level 3", "filter runs"} {
		y, e := config.Set(x, line)
		if e != api.OK {
			t.Fatal(e)
		}
		y.Chain[0].N = 7
		if x.Chain[0].N != 1 || chain[:2][1] != (api.Filter{}) {
			t.Error("memory is shared", line)
		}
	}
	y, _ := config.Sets(x, nil)
	y.Chain[0].N = 7
	if x.Chain[0].N != 1 {
		t.Error("memory is shared")
	}
}
