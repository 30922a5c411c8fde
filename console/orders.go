package console

import (
	"strconv"
	"strings"

	"bitloft/api"
	"bitloft/block"
	"bitloft/config"
	"bitloft/damage"
	"bitloft/extract"
	"bitloft/filter"
	"bitloft/list"
	"bitloft/member"
	"bitloft/pack"
	"bitloft/report"
	"bitloft/salvage"
	"bitloft/sha"
	"bitloft/tree"
)

// state is what a script holds.
type state struct {
	recipe  api.Recipe
	members []api.Member
	archive []byte
	isHeld  bool
}

// arguments are what stands behind the word of an order.
type arguments struct {
	name, word string
	numbers    []int
}

// order is a row of the orders: its word, its arguments (a name, a number or a word each), and what is done.
type order struct {
	word, wants string
	needsHeld   bool
	run         func(*state, arguments) string
}

const (
	aName   = 'm'
	aNumber = 'n'
	aWord   = 'w'
)

func orders() []order {
	return []order{
		{"put", "mnw", false, (*state).put},
		{"drop", "m", false, (*state).drop},
		{"pack", "", false, (*state).pack},
		{"brief", "", true, (*state).brief},
		{"list", "", true, (*state).list},
		{"get", "m", true, (*state).get},
		{"set", "nn", true, func(s *state, a arguments) string {
			return s.harm(api.Harm{Kind: api.HarmSet, At: a.numbers[0], N: a.numbers[1]})
		}},
		{"cut", "nn", true, func(s *state, a arguments) string {
			return s.harm(api.Harm{Kind: api.HarmCut, At: a.numbers[0], N: a.numbers[1]})
		}},
		{"end", "n", true, func(s *state, a arguments) string {
			return s.harm(api.Harm{Kind: api.HarmEnd, At: a.numbers[0]})
		}},
		{"salvage", "", true, (*state).salvage},
		{"root", "", true, (*state).root},
	}
}

// do does the order of a line, and returns its output.
func (s *state) do(line string) string {
	switch x, e := config.Set(s.recipe, line); e {
	case api.OK:
		s.recipe = x
		return saidOK
	case api.ErrMany:
		return saidMany
	}
	l := words(line)
	rows, i := orders(), 0
search:
	if i == len(rows) {
		return saidWhat
	}
	if rows[i].word != l[0] {
		i++
		goto search
	}
	a, is := read(rows[i].wants, l[1:])
	if !is {
		return saidWhat
	}
	if rows[i].needsHeld && !s.isHeld {
		return saidNone
	}
	return rows[i].run(s, a)
}

// read reads the arguments that an order wants, and reports whether there are just these.
func read(wants string, l []string) (arguments, bool) {
	if len(wants) != len(l) {
		return arguments{}, false
	}
	var a arguments
	for i, kind := range wants {
		switch kind {
		case aName:
			a.name = l[i]
			if member.Check([]api.Member{{Name: a.name}}) != api.OK {
				return arguments{}, false
			}
		case aNumber:
			n, is := number(l[i])
			if !is {
				return arguments{}, false
			}
			a.numbers = append(a.numbers, n)
		case aWord:
			a.word = l[i]
		}
	}
	return a, true
}

func (s *state) put(a arguments) string {
	at, sum := len(s.members), a.numbers[0]*len(a.word)
	for i, m := range s.members {
		if m.Name == a.name {
			at = i
		} else {
			sum += len(m.Data)
		}
	}
	if sum > api.MaxHeld || at == api.MaxMembers {
		return saidMany
	}
	m := api.Member{Name: a.name, Data: []byte(strings.Repeat(a.word, a.numbers[0]))}
	if at == len(s.members) {
		s.members = append(s.members, m)
	} else {
		s.members[at] = m
	}
	return strconv.Itoa(sum)
}

func (s *state) drop(a arguments) string {
	for i, m := range s.members {
		if m.Name == a.name {
			s.members = append(s.members[:i], s.members[i+1:]...)
			return saidOK
		}
	}
	return saidNone
}

// filtered are what the members are filtered to.
func (s *state) filtered() ([]api.Member, api.Errno) {
	l := make([]api.Member, len(s.members))
	for i, m := range s.members {
		data, e := filter.Apply(s.recipe.Chain, m.Data)
		if e != api.OK {
			return nil, e
		}
		l[i] = api.Member{Name: m.Name, Data: data}
	}
	return l, api.OK
}

func (s *state) pack(arguments) string {
	l, e := s.filtered()
	if e != api.OK {
		return saidBad
	}
	b, e := pack.Pack(s.recipe.Settings, l)
	if e != api.OK {
		return saidBad
	}
	s.archive, s.isHeld = b, true
	return strconv.Itoa(len(b))
}

func (s *state) brief(arguments) string {
	text, e := report.Brief(s.archive)
	if e != api.OK {
		return saidBad
	}
	return onOneLine(text)
}

func (s *state) list(arguments) string {
	l, e := list.List(s.archive)
	if e != api.OK {
		return saidBad
	}
	text, e := report.Text(l)
	if e != api.OK {
		return saidBad
	}
	return onOneLine(text)
}

func (s *state) get(a arguments) string {
	m, e := extract.One(s.archive, a.name)
	if e != api.OK {
		return saidBad
	}
	data, e := filter.Undo(s.recipe.Chain, m.Data)
	if e != api.OK {
		return saidBad
	}
	sum, e := sha.Sum(data)
	if e != api.OK {
		return saidBad
	}
	return strconv.Itoa(len(data)) + " " + report.Sum(sum)[:8]
}

func (s *state) harm(h api.Harm) string {
	b, e := damage.Apply(s.archive, []api.Harm{h})
	if e != api.OK {
		return saidRange
	}
	s.archive = b
	return saidOK
}

func (s *state) salvage(arguments) string {
	found, e := salvage.Salvage(s.recipe.Settings.Level, s.archive)
	if e != api.OK {
		return saidBad
	}
	l, e := s.filtered()
	if e != api.OK {
		return saidBad
	}
	records, e := member.Of(l)
	if e != api.OK {
		return saidBad
	}
	_, whole, e := salvage.Rebuild(records, found)
	if e != api.OK {
		return saidBad
	}
	n := 0
	for _, is := range whole {
		if is {
			n++
		}
	}
	return "found " + strconv.Itoa(len(found)) + " whole " + strconv.Itoa(n)
}

func (s *state) root(arguments) string {
	l, e := list.List(s.archive)
	if e != api.OK {
		return saidBad
	}
	leaves := make([][]byte, len(l.Heads))
	for i := range leaves {
		one, e := list.Block(s.archive, i)
		if e != api.OK {
			return saidBad
		}
		if leaves[i], e = block.Write(one); e != api.OK {
			return saidBad
		}
	}
	sum, e := tree.Root(leaves)
	if e != api.OK {
		return saidBad
	}
	return report.Sum(sum)
}

// onOneLine is a text without its last line feed, and with other ends for its other lines.
func onOneLine(text string) string {
	return strings.ReplaceAll(strings.TrimSuffix(text, "\n"), "\n", " / ")
}
