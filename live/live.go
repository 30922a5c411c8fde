// Package live does the steps of the predictor (layer 19) in place, for those that have a predictor to themselves.
//
// A predictor has up to some hundred thousand numbers, and a bit changes few of them. To leave all others alone, each
// step gives the layers below just the row, the set or the slots that it is about.
package live

import (
	"bitloft/adapt"
	"bitloft/api"
	"bitloft/context"
	"bitloft/final"
	"bitloft/finder"
	"bitloft/match"
	"bitloft/mixer"
	"bitloft/nibble"
	"bitloft/recip"
	"bitloft/refine"
	"bitloft/ring"
	"bitloft/slots"
	"bitloft/squash"
	"bitloft/states"
)

const (
	// Limit is that of the maps of a predictor.
	Limit       = 255
	firstWeight = 16384
	constant    = 256
	toProb      = 16
	window      = 16
)

// Live is a predictor that is changed in place.
type Live struct {
	x        api.Predictor
	one, two byte
}

// Look is what a predictor says of the next bit, and how it comes to this.
type Look struct {
	In     [api.Inputs]int32
	Mixed  int32
	P      int32
	Chosen api.Chosen
}

// New returns a new predictor of a level.
func New(level int) (*Live, api.Errno) {
	x := api.Predictor{Level: level, Final: final.New(), Match: match.New(), Walk: nibble.New()}
	var e [5]api.Errno
	x.Ring, e[0] = ring.New(level)
	x.Finder, e[1] = finder.New(level)
	x.Mixer, e[2] = mixer.New(api.MaxSets, firstWeight)
	x.Tables = make([]api.Table, api.Contexts)
	x.Maps = make([]api.Adapt, api.Contexts)
	for i := range api.Contexts {
		x.Tables[i], e[3] = slots.New(level)
		x.Maps[i], e[4] = adapt.New(Limit)
	}
	for _, one := range e {
		if one != api.OK {
			return nil, one
		}
	}
	l := &Live{x: x}
	return l, l.begin()
}

// Take makes a valid predictor live, and takes its memory over.
func Take(x api.Predictor) (*Live, api.Errno) {
	l := &Live{x: x}
	var e api.Errno
	l.one, l.two, e = context.Recent(x.Ring)
	return l, e
}

// Value returns the predictor, which shares memory with the live one.
func (l *Live) Value() api.Predictor {
	return l.x
}

// Look looks at the next bit.
func (l *Live) Look() (Look, api.Errno) {
	in, e := l.inputs()
	if e != api.OK {
		return Look{}, e
	}
	part := l.x.Walk.Part
	d, p, e := mixer.Mix(l.set(part), 0, in[:])
	if e != api.OK {
		return Look{}, e
	}
	rows, e := final.Rows(l.one, l.two, part)
	if e != api.OK {
		return Look{}, e
	}
	look := Look{In: in, Mixed: p, Chosen: api.Chosen{Rows: rows}}
	var refined [2]int32
	for i, maps := range l.refiners() {
		q, near, e := refine.Look(row(maps, rows[i]), 0, d)
		if e != api.OK {
			return Look{}, e
		}
		refined[i], look.Chosen.Near[i] = q, near
	}
	look.P, e = final.Join(p, refined[0], refined[1])
	return look, e
}

// Learn updates the predictor by a bit that was looked at. With an error nothing is changed.
func (l *Live) Learn(look Look, bit bool) api.Errno {
	next, done, b, e := nibble.Step(l.x.Walk, bit)
	if e != api.OK {
		return e
	}
	if done && l.x.Ring.N >= api.MaxPut {
		return api.ErrRange
	}
	if e := l.learnContexts(bit); e != api.OK {
		return e
	}
	if e := l.learnMixed(look, bit); e != api.OK {
		return e
	}
	l.x.Walk = next
	if done {
		return l.finish(b)
	}
	if next.Part >= 16 && next.Part < 32 {
		return l.findContexts()
	}
	return api.OK
}

func (l *Live) inputs() ([api.Inputs]int32, api.Errno) {
	var in [api.Inputs]int32
	node, e := nibble.Node(l.x.Walk)
	if e != api.OK {
		return in, e
	}
	for i := range api.Contexts {
		state := l.slot(i).States[node-1]
		in[i] = squash.Stretch(l.x.Maps[i].P[state] / toProb)
	}
	in[api.Contexts], e = match.Input(l.x.Match, l.x.Ring, l.x.Walk)
	in[api.Contexts+1] = constant
	return in, e
}

func (l *Live) learnContexts(bit bool) api.Errno {
	node, e := nibble.Node(l.x.Walk)
	if e != api.OK {
		return e
	}
	for i := range api.Contexts {
		state := &l.slot(i).States[node-1]
		next, e := states.Next(*state, number(bit))
		if e != api.OK {
			return e
		}
		if e := change(&l.x.Maps[i], *state, bit); e != api.OK {
			return e
		}
		*state = next
	}
	return api.OK
}

// change does what adapt.Update does, without a copy of all other states.
func change(m *api.Adapt, state uint8, bit bool) api.Errno {
	n := min(m.N[state]+1, m.Limit)
	target := int32(0)
	if bit {
		target = 2*api.HalfProb - 1
	}
	p, e := recip.Step(m.P[state], target, n+1)
	if e != api.OK {
		return e
	}
	m.N[state], m.P[state] = n, p
	return api.OK
}

func (l *Live) learnMixed(look Look, bit bool) api.Errno {
	part := l.x.Walk.Part
	m, e := mixer.Learn(l.set(part), 0, look.In[:], look.Mixed, bit)
	if e != api.OK {
		return e
	}
	l.x.Mixer.Sets[part] = m.Sets[0]
	for i, maps := range l.refiners() {
		at := look.Chosen.Rows[i]
		learned, e := refine.Learn(row(maps, at), 0, look.Chosen.Near[i], bit)
		if e != api.OK {
			return e
		}
		maps.Rows[at] = learned.Rows[0]
	}
	return api.OK
}

// finish takes a byte that was read to its end.
func (l *Live) finish(b byte) api.Errno {
	m, r, f, e := match.Byte(l.x.Match, l.x.Ring, l.x.Finder, b)
	if e != api.OK {
		return e
	}
	l.x.Match, l.x.Ring, l.x.Finder = m, r, f
	return l.begin()
}

// begin begins a byte.
func (l *Live) begin() api.Errno {
	var e api.Errno
	if l.one, l.two, e = context.Recent(l.x.Ring); e != api.OK {
		return e
	}
	if l.x.Marks, e = context.Of(l.x.Ring); e != api.OK {
		return e
	}
	return l.findContexts()
}

func (l *Live) findContexts() api.Errno {
	for i, mark := range l.x.Marks {
		if l.x.Walk.Part >= 16 {
			deep, e := context.Deep(mark, l.x.Walk.Part)
			if e != api.OK {
				return e
			}
			mark = deep
		}
		if e := l.find(i, mark); e != api.OK {
			return e
		}
	}
	return api.OK
}

// find finds a number in the table of a context. Both slots that may have it are in one window of slots, and the
// place in the window is the place among so few slots.
func (l *Live) find(i int, mark uint32) api.Errno {
	all := l.x.Tables[i].Slots
	from := int(mark) & (len(all) - 1) &^ (window - 1)
	few, place, e := slots.Find(api.Table{Slots: all[from : from+window]}, mark)
	if e != api.OK {
		return e
	}
	all[from+place] = few.Slots[place]
	l.x.Slots[i] = from + place
	return api.OK
}

func (l *Live) slot(i int) *api.Slot {
	return &l.x.Tables[i].Slots[l.x.Slots[i]]
}

// set is a mixer of one set alone.
func (l *Live) set(i int) api.Mixer {
	return api.Mixer{Sets: l.x.Mixer.Sets[i : i+1]}
}

func (l *Live) refiners() [2]api.Refiner {
	return [2]api.Refiner{l.x.Final.First, l.x.Final.Second}
}

// row is a refiner of one row alone.
func row(r api.Refiner, i int) api.Refiner {
	return api.Refiner{Rows: r.Rows[i : i+1]}
}

func number(bit bool) uint8 {
	if bit {
		return 1
	}
	return 0
}
