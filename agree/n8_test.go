package agree

import (
	"bytes"
	"fmt"
	"slices"
	"strings"
	"testing"

	"bitloft/api"
	"bitloft/config"
	"bitloft/console"
	"bitloft/damage"
	"bitloft/list"
	"bitloft/pack"
	"bitloft/report"
	"bitloft/shrink"
	"bitloft/verify"
)

func TestShrunkScriptsAndReportsAgree(t *testing.T) {
	b, e := pack.Pack(api.Settings{Level: 1, Block: 64}, members())
	if e != api.OK {
		t.Fatal(e)
	}
	l, _ := list.List(b)
	at, _ := list.Places(l)
	script := []api.Harm{
		{Kind: api.HarmSet, At: at[1] + 50, N: int(b[at[1]+50]) ^ 1}, {Kind: api.HarmSet, At: at[3] + 50, N: int(b[at[3]+50])}, {Kind: api.HarmSet, At: at[2] + 5, N: 0},
	}
	kept, e := shrink.Shrink(b, script)
	chosen, f := shrink.Pick(script, kept)
	if e != api.OK || f != api.OK || !slices.Equal(kept, []int{0, 2}) {
		t.Fatal(kept, e, f)
	}
	left, _ := damage.Apply(b, chosen)
	lost, _ := shrink.Lost(b, script)
	states, e := verify.States(left)
	brief, f := report.Brief(left)
	if e != api.OK || f != api.OK || !slices.Equal(lost, []int{1, 2}) || states[1] != api.BlockSum || states[2] != api.BlockLost {
		t.Fatal(lost, states, e, f)
	}
	if want := fmt.Sprintf(" fine %d sum 1 lost 1 bad\n", len(states)-2); !strings.HasSuffix(brief, want) {
		t.Error(brief)
	}
}

func TestRecipesAndTheConsoleAgree(t *testing.T) {
	start := api.Recipe{Settings: api.Settings{Block: 64}}
	goal, e := config.Parse("level 2\nblock 48\ngroup 3\nfilter delta 1\nfilter runs\n")
	if e != api.OK {
		t.Fatal(e)
	}
	lines, e := config.Differ(start, goal)
	if e != api.OK {
		t.Fatal(e)
	}
	orders := append(lines, "put a 40 abc", "pack", "get a", "list", "brief")
	out, e := console.Run(strings.Join(orders, "\n") + "\n")
	said := strings.Split(out, "\n")
	if n, f := console.Lines(strings.Join(orders, "\n") + "\n"); e != api.OK || f != api.OK || n != len(orders) || len(said) != n+1 {
		t.Fatal(n, e, f)
	}
	text := strings.ReplaceAll(said[len(lines)+3], " / ", "\n") + "\n"
	l, e := report.Parse(text)
	if e != api.OK || l.Settings != goal.Settings || len(l.Records) != 1 || !strings.HasPrefix(said[len(lines)+2], "120 ") || !strings.HasSuffix(said[len(lines)+4], " good") {
		t.Fatal(said, e)
	}
	if !bytes.HasPrefix([]byte(said[len(lines)+4]), []byte("bytes "+said[len(lines)+1])) {
		t.Error(said)
	}
}
