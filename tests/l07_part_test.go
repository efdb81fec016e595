package tests

import (
	"math/rand/v2"
	"reflect"
	"slices"
	"strconv"
	"testing"

	"loop.example/g00603/impl"
)

const maxNextTag = 100000 - 8

// outcome is what a function of parts answers; what it does not answer is its zero value.
type outcome struct {
	Part   impl.Part
	Events []impl.Event
	Past   []impl.Past
	Event  impl.Event
	Number int
	Ok     bool
}

// refused is what Work answers where something is not as it wants it.
var refused = outcome{Number: -3}

func mayBe(t *testing.T, name string, p impl.Part, want bool) {
	t.Helper()
	p = roomy(p)
	answers(t, name+": PartOk", want, func() bool { return impl.PartOk(p) }, p)
}

func starts(t *testing.T, name string, m impl.Model, lp int, want outcome) {
	t.Helper()
	m = roomy(m)
	answers(t, name+": PartNew", want, func() outcome {
		p, ok := impl.PartNew(m, lp)
		return outcome{Part: p, Ok: ok}
	}, m)
}

func works(t *testing.T, name string, m impl.Model, d []int, p impl.Part, tag int, want outcome) {
	t.Helper()
	m, d, p = roomy(m), roomy(d), roomy(p)
	answers(t, name+": Work", want, func() outcome {
		p, sent, n := impl.Work(m, d, p, tag)
		return outcome{Part: p, Events: sent, Number: n}
	}, m, d, p)
}

func goesBack(t *testing.T, name string, p impl.Part, e impl.Event, want outcome) {
	t.Helper()
	p = roomy(p)
	answers(t, name+": Back", want, func() outcome {
		p, undone := impl.Back(p, e)
		return outcome{Part: p, Events: undone}
	}, p)
}

func hears(t *testing.T, name string, p impl.Part, e impl.Event, want outcome) {
	t.Helper()
	p = roomy(p)
	answers(t, name+": Hear", want, func() outcome {
		p, undone, ok := impl.Hear(p, e)
		return outcome{Part: p, Events: undone, Ok: ok}
	}, p)
}

func unhears(t *testing.T, name string, p impl.Part, e impl.Event, want outcome) {
	t.Helper()
	p = roomy(p)
	answers(t, name+": Unhear", want, func() outcome {
		p, undone, ok := impl.Unhear(p, e)
		return outcome{Part: p, Events: undone, Ok: ok}
	}, p)
}

func trims(t *testing.T, name string, p impl.Part, e impl.Event, want outcome) {
	t.Helper()
	p = roomy(p)
	answers(t, name+": Trim", want, func() outcome {
		p, trimmed := impl.Trim(p, e)
		return outcome{Part: p, Past: trimmed}
	}, p)
}

func keeps(t *testing.T, name string, p impl.Part, last outcome, saved int) {
	t.Helper()
	p = roomy(p)
	answers(t, name+": Last", last, func() outcome {
		e, ok := impl.Last(p)
		return outcome{Event: e, Ok: ok}
	}, p)
	answers(t, name+": Saved", saved, func() int { return impl.Saved(p) }, p)
}

// isPart tells PartOk anew, by the words of the document.
func isPart(p impl.Part) bool {
	if p.Lp < 0 || p.Lp > 3 || !impl.StateOk(p.State) || len(p.Past) > 200 || len(p.Todo) > 2000 || len(p.Antis) > 2000 {
		return false
	}
	tags := map[int]int{}
	for i, x := range p.Past {
		tags[x.E.Tag]++
		if !isPast(x, p.Lp) || i > 0 && !ahead(p.Past[i-1].E, x.E) {
			return false
		}
	}
	for i, e := range p.Todo {
		tags[e.Tag]++
		if !impl.EventOk(e) || e.Dst != p.Lp || i > 0 && !ahead(p.Todo[i-1], e) {
			return false
		}
		for _, x := range p.Past {
			if !ahead(x.E, e) {
				return false
			}
		}
	}
	for i, tag := range p.Antis {
		if tag < 0 || tag > 100000 || i > 0 && p.Antis[i-1] >= tag {
			return false
		}
	}
	return len(tags) == len(p.Past)+len(p.Todo)
}

func isPast(x impl.Past, lp int) bool {
	if !impl.EventOk(x.E) || x.E.Dst != lp || !impl.StateOk(x.Before) || len(x.Sent) > 8 || len(x.Emits) > 8 {
		return false
	}
	for _, e := range x.Sent {
		if !impl.EventOk(e) || e.Src != lp || e.Time <= x.E.Time {
			return false
		}
	}
	for _, m := range x.Emits {
		if m.Time < 0 || m.Time > 1000 || m.Lp < 0 || m.Lp > 3 || m.Val < 0 || m.Val > 999 {
			return false
		}
	}
	return true
}

// wentBack tells what it is to go back anew, by the words of the document.
func wentBack(p impl.Part, e impl.Event) (impl.Part, []impl.Event) {
	p = plain(p)
	var undone []impl.Event
	for n := len(p.Past) - 1; n >= 0 && !ahead(p.Past[n].E, e); n-- {
		last := p.Past[n]
		p.Past = p.Past[:n]
		p.State = last.Before
		p.Todo = sorted(append(p.Todo, last.E))
		undone = append(undone, backwards(last.Sent)...)
	}
	return plain(p), undone
}

// The following tell what is answered to arguments that are fine each by itself.

func newOf(m impl.Model, lp int) outcome {
	p := impl.Part{Lp: lp, State: stateWith(m.Init[lp], 0, 0, 0)}
	for _, e := range m.Start {
		if e.Dst == lp {
			p.Todo = append(p.Todo, e)
		}
	}
	p.Todo = sorted(p.Todo)
	return outcome{Part: p, Ok: true}
}

func workOf(m impl.Model, d []int, p impl.Part, tag int) outcome {
	if len(p.Past) == 200 {
		return refused
	}
	if len(p.Todo) == 0 {
		return outcome{Part: p, Number: -2}
	}
	e := p.Todo[0]
	x := handled(m, d, p.State, e)
	if x.Asks >= 0 {
		return outcome{Part: p, Number: x.Asks}
	}
	var sent []impl.Event
	for _, s := range x.Sends {
		if s.Time <= m.End {
			s.Tag = tag
			tag++
			sent = append(sent, s)
		}
	}
	after := plain(p)
	after.Past = append(after.Past, impl.Past{E: e, Before: after.State, Sent: sent, Emits: x.Emits})
	after.Todo = after.Todo[1:]
	after.State = x.State
	if !isPart(after) {
		return outcome{Part: p, Number: -3}
	}
	return outcome{Part: after, Events: sent, Number: -1}
}

func backOf(p impl.Part, e impl.Event) outcome {
	after, undone := wentBack(p, e)
	if !isPart(after) {
		return outcome{Part: p}
	}
	return outcome{Part: after, Events: undone}
}

func eventsIn(p impl.Part) []impl.Event {
	var l []impl.Event
	for _, x := range p.Past {
		l = append(l, x.E)
	}
	return append(l, p.Todo...)
}

func hearOf(p impl.Part, e impl.Event) outcome {
	if e.Dst != p.Lp || hasTag(eventsIn(p), e.Tag) {
		return outcome{}
	}
	after, undone := plain(p), []impl.Event(nil)
	if at := slices.Index(p.Antis, e.Tag); at >= 0 {
		after.Antis = slices.Delete(after.Antis, at, at+1)
	} else {
		after, undone = wentBack(p, e)
		after.Todo = sorted(append(after.Todo, e))
	}
	if !isPart(after) {
		return outcome{Part: p}
	}
	return outcome{Part: after, Events: undone, Ok: true}
}

func unhearOf(p impl.Part, e impl.Event) outcome {
	if e.Dst != p.Lp {
		return outcome{}
	}
	after, undone := plain(p), []impl.Event(nil)
	if hasTag(eventsIn(p)[:len(p.Past)], e.Tag) {
		after, undone = wentBack(p, e)
	}
	if hasTag(after.Todo, e.Tag) {
		after.Todo = slices.DeleteFunc(after.Todo, func(x impl.Event) bool { return x.Tag == e.Tag })
	} else if !slices.Contains(after.Antis, e.Tag) {
		after.Antis = append(after.Antis, e.Tag)
		slices.Sort(after.Antis)
	}
	if !isPart(after) {
		return outcome{Part: p}
	}
	return outcome{Part: after, Events: undone, Ok: true}
}

func trimOf(p impl.Part, e impl.Event) outcome {
	after := plain(p)
	var trimmed []impl.Past
	for len(after.Past) > 0 && ahead(after.Past[0].E, e) {
		trimmed = append(trimmed, after.Past[0])
		after.Past = after.Past[1:]
	}
	return outcome{Part: after, Past: trimmed}
}

func lastOf(p impl.Part) outcome {
	if len(p.Past) == 0 {
		return outcome{}
	}
	return outcome{Event: p.Past[len(p.Past)-1].E, Ok: true}
}

func savedOf(p impl.Part) int {
	n := 0
	for _, x := range p.Past {
		n += 1 + len(x.Sent)
	}
	return n
}

// somePart has done four, of which two are at the same time from the same part, and has three to do.
func somePart() impl.Part {
	return impl.Part{
		Lp:    2,
		State: stateWith(40, 41, 7, 3),
		Past: []impl.Past{
			{
				E:      impl.Event{Time: 10, Src: -1, Seq: 3, Dst: 2, Kind: 1, Val: 5, Tag: 3},
				Before: stateWith(10, 11, 2, 0),
				Sent:   []impl.Event{{Time: 11, Src: 2, Seq: 2, Dst: 0, Val: 15, Tag: 50}, {Time: 60, Src: 2, Seq: 3, Dst: 2, Kind: 3, Val: 15, Tag: 51}},
				Emits:  []impl.Emit{{Time: 10, Lp: 2, Val: 15}},
			},
			{
				E:      impl.Event{Time: 20, Src: 0, Seq: 8, Dst: 2, Kind: 0, Val: 6, Tag: 61},
				Before: stateWith(20, 21, 4, 1),
			},
			{
				E:      impl.Event{Time: 20, Src: 0, Seq: 8, Dst: 2, Kind: 2, Val: 7, Tag: 63},
				Before: stateWith(25, 26, 4, 1),
				Sent:   []impl.Event{{Time: 22, Src: 2, Seq: 4, Dst: 1, Kind: 1, Val: 32, Tag: 52}, {Time: 21, Src: 2, Seq: 5, Dst: 3, Val: 33, Tag: 53}, {Time: 22, Src: 2, Seq: 6, Dst: 1, Val: 34, Tag: 54}},
				Emits:  []impl.Emit{{Time: 20, Lp: 2, Val: 1}, {Time: 20, Lp: 2, Val: 2}},
			},
			{
				E:      impl.Event{Time: 30, Src: 3, Seq: 0, Dst: 2, Kind: 0, Val: 4, Tag: 9},
				Before: stateWith(30, 31, 7, 2),
				Emits:  []impl.Emit{{Time: 30, Lp: 2, Val: 3}},
			},
		},
		Todo: []impl.Event{
			{Time: 30, Src: 3, Seq: 1, Dst: 2, Kind: 0, Val: 8, Tag: 8},
			{Time: 40, Src: -1, Seq: 1, Dst: 2, Kind: 0, Val: 9, Tag: 1},
			{Time: 60, Src: 2, Seq: 3, Dst: 2, Kind: 3, Val: 15, Tag: 51},
		},
		Antis: []int{0, 7, 70},
	}
}

// longPart has so many of each, all of them in order and with Tags of their own.
func longPart(past int, todo int, antis int) impl.Part {
	p := impl.Part{Lp: 1, State: stateWith(1, 2, 3, 4)}
	for i := range past {
		p.Past = append(p.Past, impl.Past{
			E:      impl.Event{Time: i / 4, Src: 0, Seq: i, Dst: 1, Tag: i},
			Before: stateWith(i%1000, 5, i, 0),
			Sent:   []impl.Event{{Time: 900, Src: 1, Seq: i, Tag: 50000 + i}},
		})
	}
	for i := range todo {
		p.Todo = append(p.Todo, impl.Event{Time: 300 + i/4, Src: 0, Seq: i, Dst: 1, Tag: 1000 + i})
	}
	for i := range antis {
		p.Antis = append(p.Antis, 30000+i)
	}
	return p
}

// number is one of a part's, a kernel's or a world's, and where it may be.
type number struct {
	name string
	span
	x *int
}

var partSpans = map[string]span{
	"Part.Lp": {0, 3}, "Part.Antis": {0, 100000},
	"State.Regs": {0, 999}, "State.Seq": {0, maxCount}, "State.Draws": {0, maxCount},
	"Event.Time": {0, 1000}, "Event.Src": {-1, 3}, "Event.Seq": {0, 100000}, "Event.Dst": {0, 3},
	"Event.Kind": {0, 3}, "Event.Val": {0, 999}, "Event.Tag": {0, 100000},
	"Emit.Time": {0, 1000}, "Emit.Lp": {0, 3}, "Emit.Val": {0, 999},
	"Kernel.D": {-1, 1}, "Kernel.Tag": {6, maxNextTag}, "Kernel.Asks": {-1, 3},
	"World.Cut": {-1, 1},
}

// numbersOf are all numbers of a part, a kernel or a world but for those of its model, wherever they stand in it.
func numbersOf[T any](p *T) []number {
	var l []number
	var walk func(v reflect.Value, name string)
	walk = func(v reflect.Value, name string) {
		switch v.Kind() {
		case reflect.Struct:
			for i := range v.NumField() {
				if v.Field(i).Type() != reflect.TypeFor[impl.Model]() {
					walk(v.Field(i), v.Type().Name()+"."+v.Type().Field(i).Name)
				}
			}
		case reflect.Slice:
			for i := range v.Len() {
				walk(v.Index(i), name)
			}
		case reflect.Int:
			l = append(l, number{name, partSpans[name], v.Addr().Interface().(*int)})
		}
	}
	walk(reflect.ValueOf(p).Elem(), "")
	return l
}

// withNumber is p with its k-th number changed.
func withNumber[T any](p T, k int, x int) T {
	p = plain(p)
	*numbersOf(&p)[k].x = x
	return p
}

// changed is p, as change leaves it.
func changed[T any](p T, change func(p *T)) T {
	p = plain(p)
	change(&p)
	return p
}

// wrongShapes are parts of which each number by itself may be.
func wrongShapes() map[string]impl.Part {
	l := map[string]impl.Part{
		"the zero value":           {},
		"no Regs":                  {Lp: 1},
		"one too many Past":        longPart(201, 3, 3),
		"one too many Todo":        longPart(3, 2001, 3),
		"one too many Antis":       longPart(3, 3, 2001),
		"far too many Past":        longPart(456, 0, 0),
		"one too many Todo alone":  longPart(0, 2001, 0),
		"one too many Antis alone": longPart(0, 0, 2001),
	}
	for name, change := range map[string]func(p *impl.Part){
		"Past not in order by Time":        func(p *impl.Part) { p.Past[1].E.Time = 9 },
		"Past not in order by Src":         func(p *impl.Part) { p.Past[1].E.Src = 1 },
		"Past not in order by Seq":         func(p *impl.Part) { p.Past[1].E.Seq = 9 },
		"Past not in order by Tag":         func(p *impl.Part) { p.Past[1].E.Tag = 64 },
		"Past not in order at its end":     func(p *impl.Part) { p.Past[3].E.Time = 19 },
		"Past changed over":                func(p *impl.Part) { p.Past[1], p.Past[2] = p.Past[2], p.Past[1] },
		"Past twice":                       func(p *impl.Part) { p.Past[2] = p.Past[1] },
		"a Tag twice in Past":              func(p *impl.Part) { p.Past[3].E.Tag = 3 },
		"a Tag twice in Todo":              func(p *impl.Part) { p.Todo[2].Tag = 8 },
		"a Tag in Past and Todo":           func(p *impl.Part) { p.Todo[1].Tag = 61 },
		"a Tag in the last and the last":   func(p *impl.Part) { p.Todo[2].Tag = 9 },
		"the last of Past in Todo":         func(p *impl.Part) { p.Todo[0] = p.Past[3].E },
		"the first of Past for another":    func(p *impl.Part) { p.Past[0].E.Dst = 1 },
		"the last of Past for another":     func(p *impl.Part) { p.Past[3].E.Dst = 3 },
		"all for another":                  func(p *impl.Part) { p.Lp = 1 },
		"Sent by another":                  func(p *impl.Part) { p.Past[2].Sent[1].Src = 1 },
		"Sent from outside":                func(p *impl.Part) { p.Past[0].Sent[0].Src = -1 },
		"the last Sent by another":         func(p *impl.Part) { p.Past[2].Sent[2].Src = 3 },
		"Sent at its own time":             func(p *impl.Part) { p.Past[2].Sent[1].Time = 20 },
		"Sent ahead of its time":           func(p *impl.Part) { p.Past[2].Sent[2].Time = 19 },
		"the first Sent at its time":       func(p *impl.Part) { p.Past[0].Sent[0].Time = 10 },
		"Todo not in order":                func(p *impl.Part) { p.Todo[1].Time = 61 },
		"Todo not in order by Src":         func(p *impl.Part) { p.Todo[1].Src, p.Todo[2].Time = 3, 40 },
		"Todo twice":                       func(p *impl.Part) { p.Todo[1] = p.Todo[2] },
		"the first of Todo for another":    func(p *impl.Part) { p.Todo[0].Dst = 3 },
		"the last of Todo for another":     func(p *impl.Part) { p.Todo[2].Dst = 1 },
		"Todo at a time of Past":           func(p *impl.Part) { p.Todo[0].Time = 20 },
		"Todo ahead of the last by Src":    func(p *impl.Part) { p.Todo[0].Src = 2 },
		"Todo ahead of the last by Seq":    func(p *impl.Part) { p.Past[3].E.Seq = 2 },
		"Todo ahead of the last by Tag":    func(p *impl.Part) { p.Past[3].E.Seq, p.Past[3].E.Tag = 1, 10 },
		"Todo ahead of all Past":           func(p *impl.Part) { p.Todo[0].Time = 0 },
		"Antis changed over":               func(p *impl.Part) { p.Antis[0], p.Antis[1] = 7, 0 },
		"Antis not ascending at their end": func(p *impl.Part) { p.Antis[2] = 6 },
		"Antis twice":                      func(p *impl.Part) { p.Antis[2] = 7 },
		"Antis twice at the beginning":     func(p *impl.Part) { p.Antis[1] = 0 },
		"one of Regs":                      func(p *impl.Part) { p.State.Regs = []int{1} },
		"three of Regs":                    func(p *impl.Part) { p.State.Regs = []int{1, 2, 3} },
		"no Regs of the first Before":      func(p *impl.Part) { p.Past[0].Before.Regs = nil },
		"three Regs of the last Before":    func(p *impl.Part) { p.Past[3].Before.Regs = []int{1, 2, 3} },
		"nine Sent":                        func(p *impl.Part) { p.Past[1].Sent = slices.Repeat(p.Past[0].Sent[1:], 9) },
		"nine Emits":                       func(p *impl.Part) { p.Past[1].Emits = make([]impl.Emit, 9) },
		"far too many Sent":                func(p *impl.Part) { p.Past[0].Sent = slices.Repeat(p.Past[0].Sent, 132) },
		"far too many Emits":               func(p *impl.Part) { p.Past[3].Emits = make([]impl.Emit, 264) },
	} {
		l[name] = changed(somePart(), change)
	}
	return l
}

// wrongParts are parts that may not be, each for one reason.
func wrongParts() map[string]impl.Part {
	l := wrongShapes()
	p := somePart()
	for k, n := range numbersOf(&p) {
		for _, x := range n.beyond() {
			l[n.name+", number "+strconv.Itoa(k)+": "+strconv.Itoa(x)] = withNumber(p, k, x)
		}
	}
	return l
}

// fineParts are all sorts of parts, with each limit met.
func fineParts() map[string]impl.Part {
	some := somePart()
	l := map[string]impl.Part{
		"some":                     some,
		"the longest":              longPart(200, 2000, 2000),
		"the longest Past":         longPart(200, 0, 0),
		"the longest Todo":         longPart(0, 2000, 0),
		"the longest Antis":        longPart(0, 0, 2000),
		"no Past":                  changed(some, func(p *impl.Part) { p.Past = nil }),
		"no Todo":                  changed(some, func(p *impl.Part) { p.Todo = nil }),
		"no Antis":                 changed(some, func(p *impl.Part) { p.Antis = nil }),
		"empty lists":              {Lp: 2, State: stateWith(0, 0, 0, 0), Past: []impl.Past{}, Todo: []impl.Event{}, Antis: []int{}},
		"empty lists in Past":      changed(some, func(p *impl.Part) { p.Past[1].Sent, p.Past[1].Emits = []impl.Event{}, []impl.Emit{} }),
		"eight Sent":               changed(some, func(p *impl.Part) { p.Past[1].Sent = slices.Repeat(p.Past[0].Sent[1:], 8) }),
		"eight Emits":              changed(some, func(p *impl.Part) { p.Past[1].Emits = make([]impl.Emit, 8) }),
		"eight of both":            changed(some, func(p *impl.Part) { p.Past[3] = fullPast(p.Past[3].E) }),
		"Todo behind by Tag alone": changed(some, func(p *impl.Part) { p.Past[3].E.Seq, p.Past[3].E.Tag = 1, 7 }),
		"Emits of another":         changed(some, func(p *impl.Part) { p.Past[0].Emits[0] = impl.Emit{Time: 1000, Lp: 3, Val: 999} }),
		"Antis of what is there":   changed(some, func(p *impl.Part) { p.Antis = []int{1, 3, 8, 9, 50, 51, 61, 100000} }),
		"Tags of what was sent":    changed(some, func(p *impl.Part) { p.Past[0].E.Tag, p.Todo[1].Tag = 52, 50 }),
		"Tags at their bounds":     changed(some, func(p *impl.Part) { p.Past[0].E.Tag, p.Todo[1].Tag = 0, 100000 }),
		"Sent not in order":        changed(some, func(p *impl.Part) { slices.Reverse(p.Past[2].Sent) }),
	}
	for lp := range 4 {
		l["empty, of part "+strconv.Itoa(lp)] = impl.Part{Lp: lp, State: stateWith(999, 999, maxCount, maxCount)}
		l["some, of part "+strconv.Itoa(lp)] = ofPart(some, lp)
	}
	return l
}

func fullPast(e impl.Event) impl.Past {
	x := impl.Past{E: e, Before: stateWith(999, 0, maxCount, 0)}
	for i := range 8 {
		x.Sent = append(x.Sent, impl.Event{Time: 1000 - i, Src: e.Dst, Seq: i, Tag: 90 + i})
		x.Emits = append(x.Emits, impl.Emit{Time: i, Lp: i % 4, Val: i})
	}
	return x
}

// ofPart is p, with all that was for it, or from it, for and from lp.
func ofPart(p impl.Part, lp int) impl.Part {
	p = plain(p)
	for i := range p.Past {
		p.Past[i].E.Dst = lp
		for j := range p.Past[i].Sent {
			p.Past[i].Sent[j].Src = lp
		}
	}
	for i := range p.Todo {
		p.Todo[i].Dst = lp
	}
	p.Lp = lp
	return p
}

func TestMaxPast(t *testing.T) {
	if impl.MaxPast != 200 {
		t.Fatal(impl.MaxPast)
	}
}

func TestPartOk(t *testing.T) {
	for name, p := range fineParts() {
		if !isPart(p) {
			t.Fatal("no part:", name)
		}
		mayBe(t, name, p, true)
	}
}

func TestPartOkOfEachNumber(t *testing.T) {
	p := somePart()
	fine := 0
	for k, n := range numbersOf(&p) {
		for _, x := range []int{n.low, n.low + 1, (n.low + n.high) / 2, n.high - 1, n.high} {
			q := withNumber(p, k, x)
			mayBe(t, n.name+" "+strconv.Itoa(x), q, isPart(q))
			if isPart(q) {
				fine++
			}
		}
	}
	if fine < 200 {
		t.Error("only", fine, "may be")
	}
}

// Where nothing else hangs on a number, both its bounds are accepted.
func TestPartOkAtTheBounds(t *testing.T) {
	p := changed(somePart(), func(p *impl.Part) { p.Todo, p.Antis = nil, []int{5} })
	for k, n := range numbersOf(&p) {
		switch n.name {
		case "Event.Kind", "Event.Val", "Emit.Time", "Emit.Lp", "Emit.Val", "State.Regs", "State.Seq", "State.Draws", "Part.Antis":
			mayBe(t, n.name, withNumber(p, k, n.low), true)
			mayBe(t, n.name, withNumber(p, k, n.high), true)
		}
	}
	for _, lp := range []int{0, 3} {
		first := impl.Event{Time: 0, Src: -1, Dst: lp, Tag: 0}
		last := impl.Event{Time: 1000, Src: 3, Seq: 100000, Dst: lp, Kind: 3, Val: 999, Tag: 100000}
		sent := impl.Event{Time: 1, Src: lp, Seq: 100000, Dst: 3, Kind: 3, Val: 999, Tag: 100000}
		mayBe(t, "the soonest and the last", impl.Part{
			Lp:    lp,
			State: stateWith(0, 999, 0, maxCount),
			Past:  []impl.Past{{E: first, Before: stateWith(999, 0, maxCount, 0), Sent: []impl.Event{sent}}},
			Todo:  []impl.Event{last},
			Antis: []int{0, 100000},
		}, true)
	}
}

func TestPartOkOfFarTooMany(t *testing.T) {
	const many = 1000000
	p := somePart()
	for name, p := range map[string]impl.Part{
		"Past":  {Lp: 2, State: p.State, Past: make([]impl.Past, many)},
		"Todo":  {Lp: 2, State: p.State, Todo: make([]impl.Event, many)},
		"Antis": {Lp: 2, State: p.State, Antis: make([]int, many)},
		"Regs":  {Lp: 2, State: impl.State{Regs: make([]int, many)}},
		"Sent":  changed(p, func(p *impl.Part) { p.Past[0].Sent = make([]impl.Event, many) }),
		"Emits": changed(p, func(p *impl.Part) { p.Past[0].Emits = make([]impl.Emit, many) }),
	} {
		if impl.PartOk(p) {
			t.Errorf("a million of %s are accepted", name)
		}
	}
}

// Every function gives its fixed answer to a part that may not be.
func TestWrongParts(t *testing.T) {
	m, d := workshop(), []int{0, 1, 0, 1}
	for name, p := range wrongParts() {
		e := impl.Event{Time: 15, Src: 1, Dst: 2, Tag: 777}
		mayBe(t, name, p, false)
		works(t, name, m, d, p, 500, refused)
		goesBack(t, name, p, e, outcome{})
		hears(t, name, p, e, outcome{})
		unhears(t, name, p, e, outcome{})
		trims(t, name, p, e, outcome{})
		keeps(t, name, p, outcome{}, 0)
	}
	works(t, "some", m, d, somePart(), 500, workOf(m, d, somePart(), 500))
}

// Whoever is given an event that may not be, or one that is not for the part, gives the fixed answer.
func TestPartsAndWrongEvents(t *testing.T) {
	p := somePart()
	for _, base := range []impl.Event{{Time: 15, Src: 1, Dst: 2, Tag: 777}, p.Past[0].E, p.Past[3].E, p.Todo[0], {Time: 50, Dst: 2, Tag: 70}} {
		for _, f := range fields() {
			for _, x := range (span{f.low, f.high}).beyond() {
				e := f.with(base, x)
				name := f.name + " " + strconv.Itoa(x)
				goesBack(t, name, p, e, outcome{})
				hears(t, name, p, e, outcome{})
				unhears(t, name, p, e, outcome{})
				trims(t, name, p, e, outcome{})
			}
		}
		for _, dst := range []int{0, 1, 3} {
			e := base
			e.Dst = dst
			hears(t, "for another", p, e, outcome{})
			unhears(t, "for another", p, e, outcome{})
			// A place is one, whomever it is for.
			goesBack(t, "a place", p, e, backOf(p, e))
			trims(t, "a place", p, e, trimOf(p, e))
		}
	}
}

// randomPart has few events at few times, but any numbers else.
func randomPart(r *rand.Rand) impl.Part {
	p := impl.Part{Lp: r.IntN(4), State: randomState(r)}
	tags := append(r.Perm(20), 100000)
	var l []impl.Event
	for i := range r.IntN(9) {
		e := randomEvent(r, 1)
		e.Dst, e.Tag = p.Lp, tags[20-i]
		l = append(l, e)
	}
	l = sorted(l)
	done := r.IntN(len(l) + 1)
	for _, e := range l[:done] {
		x := impl.Past{E: e, Before: randomState(r)}
		for range r.IntN(4) {
			sent := randomEvent(r, 100000)
			sent.Time, sent.Src = e.Time+1+r.IntN(5), p.Lp
			x.Sent = append(x.Sent, sent)
		}
		for range r.IntN(3) {
			x.Emits = append(x.Emits, impl.Emit{Time: r.IntN(1001), Lp: r.IntN(4), Val: r.IntN(1000)})
		}
		p.Past = append(p.Past, x)
	}
	p.Todo = l[done:]
	p.Antis = r.Perm(20)[:r.IntN(4)]
	slices.Sort(p.Antis)
	return plain(p)
}

// somewhere is an event that the part knows, or nearly, or any other.
func somewhere(r *rand.Rand, p impl.Part) impl.Event {
	e := randomEvent(r, 22)
	if r.IntN(8) > 0 {
		e.Dst = p.Lp
	}
	if l := eventsIn(p); len(l) > 0 && r.IntN(2) == 0 {
		known := l[r.IntN(len(l))]
		switch r.IntN(3) {
		case 0:
			e.Tag = known.Tag
		case 1:
			known.Tag = e.Tag
			return known
		default:
			return known
		}
	}
	return e
}

func TestPartOkByItsWords(t *testing.T) {
	r := newRandom(71)
	accepted, rest := 0, 0
	for range 4000 {
		p := randomPart(r)
		if !isPart(p) {
			t.Fatal("no part:", p)
		}
		l := numbersOf(&p)
		for range 1 + r.IntN(2) {
			n := l[r.IntN(len(l))]
			*n.x = n.any(r)
			if r.IntN(2) == 0 {
				*n.x = *l[r.IntN(len(l))].x
			}
		}
		mayBe(t, "changed", p, isPart(p))
		if isPart(p) {
			accepted++
		} else {
			rest++
		}
	}
	if min(accepted, rest) < 800 {
		t.Error("not much was tried:", accepted, rest)
	}
}

func TestPartsByTheirWords(t *testing.T) {
	r := newRandom(72)
	var undone, anti, dropped, trimmed int
	for range 600 {
		p := randomPart(r)
		for range 3 {
			e := somewhere(r, p)
			goesBack(t, "any", p, e, backOf(p, e))
			hears(t, "any", p, e, hearOf(p, e))
			unhears(t, "any", p, e, unhearOf(p, e))
			trims(t, "any", p, e, trimOf(p, e))
			undone += min(len(hearOf(p, e).Events), 1)
			trimmed += min(len(trimOf(p, e).Past), 1)
			if x := unhearOf(p, e); len(x.Part.Antis) > len(p.Antis) {
				anti++
			} else if x.Ok && len(eventsIn(x.Part)) < len(eventsIn(p)) {
				dropped++
			}
		}
		keeps(t, "any", p, lastOf(p), savedOf(p))
	}
	if min(undone, anti, dropped, trimmed) < 150 {
		t.Error("not much was tried:", undone, anti, dropped, trimmed)
	}
}

func TestPartNew(t *testing.T) {
	for _, m := range fineModels() {
		for lp := range m.Lps {
			starts(t, "a model", m, lp, newOf(m, lp))
			if p := newOf(m, lp).Part; !isPart(p) {
				t.Fatal("no part:", p)
			}
		}
		for _, lp := range (span{0, m.Lps - 1}).beyond() {
			starts(t, "no such part", m, lp, outcome{})
		}
	}
}

// Whatever a model begins with stands in order, with its Tags, and each with whom it is for.
func TestPartNewOfTheWorkshop(t *testing.T) {
	m := workshop()
	starts(t, "part 2", m, 2, outcome{Ok: true, Part: impl.Part{Lp: 2, State: stateWith(3, 0, 0, 0), Todo: []impl.Event{
		{Time: 5, Src: -1, Seq: 2, Dst: 2, Kind: 0, Val: 11, Tag: 2},
		{Time: 5, Src: -1, Seq: 4, Dst: 2, Kind: 1, Val: 12, Tag: 4},
		{Time: 9, Src: -1, Seq: 0, Dst: 2, Kind: 0, Val: 10, Tag: 0},
	}}})
	starts(t, "part 0", m, 0, outcome{Ok: true, Part: impl.Part{State: stateWith(1, 0, 0, 0), Todo: []impl.Event{{Time: 7, Src: -1, Seq: 1, Kind: 3, Tag: 1}}}})
	starts(t, "part 1", m, 1, outcome{Ok: true, Part: impl.Part{Lp: 1, State: stateWith(2, 0, 0, 0)}})
	starts(t, "part 3", m, 3, outcome{Ok: true, Part: impl.Part{Lp: 3, State: stateWith(4, 0, 0, 0), Todo: []impl.Event{
		{Time: 0, Src: -1, Seq: 5, Dst: 3, Kind: 2, Val: 999, Tag: 5},
		{Time: 100, Src: -1, Seq: 3, Dst: 3, Kind: 2, Val: 1, Tag: 3},
	}}})
}

func TestPartNewOfWrongModels(t *testing.T) {
	for _, m := range []impl.Model{everyOp(), sizedModel(1, 1, 0, 0), sizedModel(4, 4, 8, 6), workshop()} {
		for _, f := range modelFields(m) {
			for _, x := range f.beyond() {
				starts(t, f.name+" "+strconv.Itoa(x), f.with(m, x), m.Lps-1, outcome{})
			}
		}
	}
	for name, m := range wrongSizes() {
		if len(m.Handlers) > 0 && len(m.Handlers[0]) > 1000 {
			continue // Asked for elsewhere: too long to look through again and again.
		}
		for _, lp := range []int{-1, 0, 1, 3, 4} {
			starts(t, name, m, lp, outcome{})
		}
	}
	if p, ok := impl.PartNew(sizedModel(2, 1, 1000000, 1), 0); ok || !same(p, impl.Part{}) {
		t.Error("a million ops:", p, ok)
	}
}

// workshop has a kind of its own for each thing that Work has to heed: 0 sends up to End and above it,
// 1 asks, 2 sends as many as there may be, and 3 tells as many.
func workshop() impl.Model {
	return impl.Model{
		Lps:  4,
		Seed: 99,
		Init: []int{1, 2, 3, 4},
		Handlers: [][]impl.Op{
			{{Code: impl.OpTake}, {Code: impl.OpSend, A: 1, B: 2, C: 1}, {Code: impl.OpEmit}, {Code: impl.OpSend, A: 3, B: 50, C: 2}, {Code: impl.OpDraw, A: 1, B: 100}, {Code: impl.OpSend, A: 2, B: 1}, {Code: impl.OpEmit, A: 1}},
			{{Code: impl.OpAdd, A: 1, B: 1}, {Code: impl.OpEmit, A: 1}, {Code: impl.OpAsk, A: 2, B: 1}, {Code: impl.OpEmit, A: 1}, {Code: impl.OpSend, A: 0, B: 3}},
			slices.Repeat([]impl.Op{{Code: impl.OpSend, A: 1, B: 1, C: 3}}, 8),
			slices.Repeat([]impl.Op{{Code: impl.OpEmit}}, 8),
		},
		Start: []impl.Event{
			{Time: 9, Src: -1, Seq: 0, Dst: 2, Kind: 0, Val: 10, Tag: 0},
			{Time: 7, Src: -1, Seq: 1, Dst: 0, Kind: 3, Val: 0, Tag: 1},
			{Time: 5, Src: -1, Seq: 2, Dst: 2, Kind: 0, Val: 11, Tag: 2},
			{Time: 100, Src: -1, Seq: 3, Dst: 3, Kind: 2, Val: 1, Tag: 3},
			{Time: 5, Src: -1, Seq: 4, Dst: 2, Kind: 1, Val: 12, Tag: 4},
			{Time: 0, Src: -1, Seq: 5, Dst: 3, Kind: 2, Val: 999, Tag: 5},
		},
		End: 100,
	}
}

// One behind the other is done; each keeps what was before it, what it sent and what it told.
func TestWorkThroughTodo(t *testing.T) {
	m, d := workshop(), []int{-1, -1, 1, -1}
	p := newOf(m, 2).Part
	first, second, third := p.Todo[0], p.Todo[1], p.Todo[2]
	draw := func(n int) int { return impl.RandBelow(99, 2, n, 100) }

	sent := []impl.Event{
		{Time: 7, Src: 2, Seq: 0, Dst: 1, Kind: 1, Val: 14, Tag: 20},
		{Time: 55, Src: 2, Seq: 1, Dst: 3, Kind: 2, Val: 14, Tag: 21},
		{Time: 6, Src: 2, Seq: 2, Dst: 2, Kind: 0, Val: 14, Tag: 22},
	}
	after := impl.Part{Lp: 2, State: stateWith(14, draw(0), 3, 1), Todo: []impl.Event{second, third}, Past: []impl.Past{
		{E: first, Before: stateWith(3, 0, 0, 0), Sent: sent, Emits: []impl.Emit{{Time: 5, Lp: 2, Val: 14}, {Time: 5, Lp: 2, Val: draw(0)}}},
	}}
	works(t, "the first", m, d, p, 20, outcome{Part: after, Events: sent, Number: -1})

	p = plain(after)
	sent = []impl.Event{{Time: 8, Src: 2, Seq: 3, Dst: 0, Val: 14, Tag: 7}}
	after.State = stateWith(14, 1, 4, 1)
	after.Todo = []impl.Event{third}
	after.Past = append(after.Past, impl.Past{E: second, Before: stateWith(14, draw(0), 3, 1), Sent: sent, Emits: []impl.Emit{{Time: 5, Lp: 2, Val: draw(0) + 1}, {Time: 5, Lp: 2, Val: 1}}})
	works(t, "the second", m, d, p, 7, outcome{Part: after, Events: sent, Number: -1})

	p = plain(after)
	sent = []impl.Event{
		{Time: 11, Src: 2, Seq: 4, Dst: 1, Kind: 1, Val: 24, Tag: 0},
		{Time: 59, Src: 2, Seq: 5, Dst: 3, Kind: 2, Val: 24, Tag: 1},
		{Time: 10, Src: 2, Seq: 6, Dst: 2, Kind: 0, Val: 24, Tag: 2},
	}
	after.State = stateWith(24, draw(1), 7, 2)
	after.Todo = nil
	after.Past = append(after.Past, impl.Past{E: third, Before: stateWith(14, 1, 4, 1), Sent: sent, Emits: []impl.Emit{{Time: 9, Lp: 2, Val: 24}, {Time: 9, Lp: 2, Val: draw(1)}}})
	works(t, "the third", m, d, p, 0, outcome{Part: after, Events: sent, Number: -1})
	works(t, "none", m, d, after, 0, outcome{Part: after, Number: -2})
	keeps(t, "all", after, outcome{Event: third, Ok: true}, 3+7)
}

// What is sent above End is left out: it has no Tag, but has had its Seq. What is sent at End is not.
func TestWorkUpToEnd(t *testing.T) {
	m := workshop()
	for time, left := range map[int][]int{97: {0, 2}, 98: {0, 2}, 99: {2}, 100: nil, 50: {0, 1, 2}, 51: {0, 2}} {
		p := impl.Part{Lp: 0, State: stateWith(5, 0, 60, 0), Todo: []impl.Event{{Time: time, Src: 3, Tag: 9}}}
		want := workOf(m, undecided, p, 30)
		for i, sent := range want.Events {
			if sent.Tag != 30+i || sent.Seq != 60+left[i] {
				t.Fatal(time, want)
			}
		}
		if len(want.Events) != len(left) || want.Part.State.Seq != 63 || want.Number != -1 {
			t.Fatal(time, want)
		}
		works(t, "at "+strconv.Itoa(time), m, undecided, p, 30, want)
	}
}

// The first of Todo that asks leaves the part as it was; what is told is what it asks for.
func TestWorkThatAsks(t *testing.T) {
	for dec := range 4 {
		m := workshop()
		m.Handlers[1][2].A = dec
		for _, p := range []impl.Part{
			changed(somePart(), func(p *impl.Part) { p.Todo[0].Kind = 1 }),
			{State: stateWith(1, 2, 3, 4), Todo: []impl.Event{{Time: 3, Kind: 1, Tag: 5}}},
			changed(longPart(199, 2000, 2000), func(p *impl.Part) { p.Todo[0].Kind = 1; m.End = 950 }),
		} {
			d := with([]int{1, 0, 1, 0}, dec, -1)
			works(t, "asks", m, d, p, 6, outcome{Part: p, Number: dec})
			for way := range 2 {
				want := workOf(m, with(undecided, dec, way), p, 6)
				if want.Number != -1 || want.Part.State.Regs[1] != way {
					t.Fatal(want)
				}
				works(t, "decided", m, with(undecided, dec, way), p, 6, want)
			}
		}
		// One that is not the first may ask: it is not its turn.
		later := changed(somePart(), func(p *impl.Part) { p.Todo[1].Kind = 1 })
		if want := workOf(m, undecided, later, 6); want.Number != -1 {
			t.Fatal(want)
		}
		works(t, "asks later", m, undecided, later, 6, workOf(m, undecided, later, 6))
	}
}

func TestWorkAtTheBounds(t *testing.T) {
	m := workshop()
	m.End = 950
	for kind := range m.Handlers {
		for _, lp := range []int{0, 3} {
			for _, tag := range []int{0, 1, 50000, maxNextTag - 1, maxNextTag} {
				p := ofPart(somePart(), lp)
				p.Todo[0].Kind = kind
				want := workOf(m, []int{0, 0, 0, 0}, p, tag)
				if want.Number != -1 || kind == 2 && want.Events[7].Tag != tag+7 || kind == 3 && len(want.Part.Past[4].Emits) != 8 {
					t.Fatal(want)
				}
				works(t, "tag "+strconv.Itoa(tag), m, []int{0, 0, 0, 0}, p, tag, want)
			}
		}
	}
	for _, row := range []struct{ past, todo, antis int }{{199, 2000, 2000}, {0, 2000, 0}, {199, 1, 0}, {198, 2, 1}, {0, 1, 2000}} {
		p := longPart(row.past, row.todo, row.antis)
		want := workOf(m, undecided, p, 0)
		if want.Number != -1 || len(want.Part.Past) != row.past+1 {
			t.Fatal(want)
		}
		works(t, "a long one", m, undecided, p, 0, want)
	}
	for _, row := range []struct{ past, todo int }{{200, 2000}, {200, 1}, {200, 0}} {
		works(t, "MaxPast", m, undecided, longPart(row.past, row.todo, 0), 0, refused)
	}
	works(t, "nothing to do", m, undecided, longPart(199, 0, 5), 0, outcome{Part: longPart(199, 0, 5), Number: -2})
}

// Where what comes of it has counts that may not be, nothing is done, and the part stays.
func TestWorkBeyondTheCounts(t *testing.T) {
	m := workshop()
	m.Handlers[3] = slices.Repeat([]impl.Op{{Code: impl.OpDraw, B: 5}}, 8)
	for kind, counts := range map[int][2]int{0: {3, 1}, 1: {1, 0}, 2: {8, 0}, 3: {0, 8}} {
		for less := range 10 {
			seq := somePart()
			seq.Todo[0].Kind = kind
			draws := plain(seq)
			seq.State.Seq = maxCount - less
			draws.State.Draws = maxCount - less
			for at, p := range []impl.Part{seq, draws} {
				want := workOf(m, []int{0, 0, 1, 0}, p, 900)
				fits := counts[at] <= less
				if fits != (want.Number == -1) || !fits && (want.Number != -3 || !same(want.Part, p) || len(want.Events) > 0) {
					t.Fatal(kind, less, want)
				}
				works(t, "less "+strconv.Itoa(less), m, []int{0, 0, 1, 0}, p, 900, want)
			}
		}
	}
}

func TestWorkOfWrongArguments(t *testing.T) {
	m, d := workshop(), []int{0, 1, 0, 1}
	idle := changed(somePart(), func(p *impl.Part) { p.Todo = nil })
	asks := changed(somePart(), func(p *impl.Part) { p.Todo[0].Kind = 1 })
	// What is not as Work wants it counts ahead of there being nothing to do, and of asking.
	for _, p := range []impl.Part{somePart(), idle, asks} {
		for _, f := range modelFields(m) {
			for _, x := range f.beyond() {
				works(t, f.name+" "+strconv.Itoa(x), f.with(m, x), undecided, p, 5, refused)
			}
		}
		for name, m := range wrongSizes() {
			if name != "a million ops" {
				works(t, name, m, undecided, p, 5, refused)
			}
		}
		for _, wrong := range wrongVectors() {
			works(t, "a vector", m, wrong, p, 5, refused)
		}
		for _, tag := range (span{0, maxNextTag}).beyond() {
			works(t, "tag "+strconv.Itoa(tag), m, undecided, p, tag, refused)
		}
		works(t, "tag and vector", m, nil, p, -1, refused)
	}
	works(t, "nothing to do", m, undecided, idle, 5, outcome{Part: idle, Number: -2})
	works(t, "asks", m, undecided, asks, 5, outcome{Part: asks, Number: 2})
	works(t, "fine", m, d, somePart(), 5, workOf(m, d, somePart(), 5))
}

// The part, and all of Todo, are to be of the model; of what is done already nothing is asked.
func TestWorkOfPartsOfAnotherModel(t *testing.T) {
	m := workshop()
	for lps := 1; lps <= 4; lps++ {
		small := sizedModel(lps, 4, 1, 0)
		small.End = 100
		for lp := range 4 {
			idle := impl.Part{Lp: lp, State: stateWith(1, 2, 3, 4)}
			busy := ofPart(somePart(), lp)
			if lp >= lps {
				works(t, "no such part", small, undecided, idle, 5, refused)
				works(t, "no such part", small, undecided, busy, 5, refused)
			} else {
				works(t, "such a part", small, undecided, idle, 5, outcome{Part: idle, Number: -2})
				works(t, "such a part", small, undecided, busy, 5, workOf(small, undecided, busy, 5))
			}
		}
	}
	for kinds := 1; kinds <= 4; kinds++ {
		few := sizedModel(4, kinds, 1, 0)
		few.End = 100
		for at := range 3 {
			for kind := range 4 {
				p := changed(somePart(), func(p *impl.Part) { p.Todo[2].Kind = 0; p.Todo[at].Kind = kind })
				want := refused
				if kind < kinds {
					want = workOf(few, undecided, p, 5)
				}
				works(t, "kind "+strconv.Itoa(kind)+" of "+strconv.Itoa(kinds), few, undecided, p, 5, want)
			}
		}
	}
	m.Start = nil
	for end := 0; end <= 100; end++ {
		m.End = end
		want := refused
		if end >= 60 {
			want = workOf(m, undecided, somePart(), 5)
		}
		works(t, "end "+strconv.Itoa(end), m, undecided, somePart(), 5, want)
		idle := changed(somePart(), func(p *impl.Part) { p.Todo = nil })
		works(t, "end "+strconv.Itoa(end), m, undecided, idle, 5, outcome{Part: idle, Number: -2})
	}
}

func TestWorkOfAnyModel(t *testing.T) {
	r := newRandom(73)
	var asked, done, stuck, idle int
	for _, m := range fineModels() {
		for range 4 {
			p := randomPart(r)
			p = ofPart(p, r.IntN(m.Lps))
			var todo []impl.Event
			for _, e := range p.Todo {
				e.Kind, e.Time = span{0, len(m.Handlers) - 1}.any(r), min(e.Time, m.End)
				if len(p.Past) == 0 || ahead(p.Past[len(p.Past)-1].E, e) {
					todo = append(todo, e)
				}
			}
			p.Todo = sorted(todo)
			d, tag := randomVector(r), span{0, maxNextTag}.any(r)
			want := workOf(m, d, p, tag)
			works(t, "any", m, d, p, tag, want)
			switch {
			case want.Number == -1:
				done++
			case want.Number == -2:
				idle++
			case want.Number == -3:
				stuck++
			default:
				asked++
			}
		}
	}
	if min(asked, done, stuck, idle) < 100 {
		t.Error("not much was tried:", asked, done, stuck, idle)
	}
}

// A million ops are refused, and not looked through by the checks of memory.
func TestWorkOfAMillionOps(t *testing.T) {
	p, sent, n := impl.Work(sizedModel(2, 1, 1000000, 1), undecided, longPart(1, 1, 1), 5)
	if n != -3 || len(sent) > 0 || !same(p, impl.Part{}) {
		t.Error(p, sent, n)
	}
}

// places of somePart, with how many of Past are ahead of each.
func places() map[impl.Event]int {
	return map[impl.Event]int{
		{}:                                   0,
		{Time: 10, Src: -1, Seq: 3, Tag: 2}:  0,
		{Time: 10, Src: -1, Seq: 3, Tag: 3}:  0,
		{Time: 10, Src: -1, Seq: 3, Tag: 4}:  1,
		{Time: 10, Src: -1, Seq: 4, Tag: 0}:  1,
		{Time: 15, Src: 3, Seq: 9}:           1,
		{Time: 20, Src: 0, Seq: 8, Tag: 60}:  1,
		{Time: 20, Src: 0, Seq: 8, Tag: 61}:  1,
		{Time: 20, Src: 0, Seq: 8, Tag: 62}:  2,
		{Time: 20, Src: 0, Seq: 8, Tag: 63}:  2,
		{Time: 20, Src: 0, Seq: 8, Tag: 64}:  3,
		{Time: 20, Src: 1}:                   3,
		{Time: 25, Src: -1}:                  3,
		{Time: 30, Src: 2, Seq: 100000}:      3,
		{Time: 30, Src: 3, Seq: 0, Tag: 9}:   3,
		{Time: 30, Src: 3, Seq: 0, Tag: 10}:  4,
		{Time: 30, Src: 3, Seq: 1, Tag: 8}:   4,
		{Time: 31}:                           4,
		{Time: 1000, Src: 3, Tag: 100000}:    4,
		{Time: 60, Src: 2, Seq: 3, Tag: 51}:  4,
		{Time: 9, Src: 3, Seq: 9, Tag: 9999}: 0,
	}
}

// cutBack is somePart with only so many done, and what is undone by going back to there.
func cutBack(n int) (impl.Part, []impl.Event) {
	p := somePart()
	first, second, third, last := p.Past[0], p.Past[1], p.Past[2], p.Past[3]
	undone := []impl.Event{third.Sent[2], third.Sent[1], third.Sent[0], first.Sent[1], first.Sent[0]}
	all := []impl.Event{first.E, second.E, third.E, last.E, p.Todo[0], p.Todo[1], p.Todo[2]}
	p.State = []impl.State{first.Before, second.Before, third.Before, last.Before, p.State}[n]
	p.Past = p.Past[:n]
	p.Todo = all[n:]
	return p, undone[:[]int{5, 3, 3, 0, 0}[n]]
}

func TestBack(t *testing.T) {
	for e, n := range places() {
		p, undone := cutBack(n)
		for dst := range 4 {
			e.Dst, e.Kind, e.Val = dst, 3-dst, 7*dst
			goesBack(t, "back to "+string(impl.EventText(e)), somePart(), e, outcome{Part: p, Events: undone})
		}
		keeps(t, "back", p, lastOf(p), []int{0, 3, 4, 8, 9}[n])
	}
}

// Whoever goes back to where there is no room in Todo stays as he is.
func TestBackBeyondMaxQueue(t *testing.T) {
	for _, row := range []struct{ past, todo, undone int }{
		{200, 1800, 200}, {200, 1801, 200}, {200, 1801, 199}, {200, 2000, 1}, {1, 2000, 1}, {1, 1999, 1}, {3, 1998, 2}, {3, 1998, 3}, {200, 2000, 0}, {200, 0, 200},
	} {
		p := longPart(row.past, row.todo, 2000)
		e := impl.Event{Time: 299}
		if row.undone > 0 {
			e = p.Past[row.past-row.undone].E
		}
		want := backOf(p, e)
		if fits := row.todo+row.undone <= 2000; fits && len(want.Events) != row.undone || !fits && (len(want.Events) > 0 || !same(want.Part, p)) {
			t.Fatal(row)
		}
		goesBack(t, "back", p, e, want)
	}
}

// An event that is heard stands in its place; what was done at or behind that is undone.
func TestHear(t *testing.T) {
	for e, n := range places() {
		e.Dst, e.Kind, e.Val = 2, 3, 7
		if hasTag(eventsIn(somePart()), e.Tag) {
			hears(t, "it is there", somePart(), e, outcome{})
			continue
		}
		p, undone := cutBack(n)
		if e.Tag == 0 {
			// That is in Antis: it is not heard, and nothing is undone.
			p, undone = somePart(), nil
			p.Antis = p.Antis[1:]
		} else {
			p.Todo = sorted(append(p.Todo, e))
		}
		hears(t, "hear "+string(impl.EventText(e)), somePart(), e, outcome{Part: p, Events: undone, Ok: true})
	}
}

// Whose Tag is in Past or Todo is not heard, wherever it would stand; whose Tag was sent, or is nearly one of these, is.
func TestHearOfTags(t *testing.T) {
	p := somePart()
	p.Antis = nil
	for _, e := range []impl.Event{{Dst: 2}, {Time: 15, Src: 1, Dst: 2}, {Time: 35, Dst: 2}, {Time: 1000, Src: 3, Seq: 100000, Dst: 2}} {
		for _, known := range eventsIn(p) {
			e.Tag = known.Tag
			hears(t, "it is there", p, e, outcome{})
			hears(t, "it is there", p, known, outcome{})
		}
		for _, tag := range []int{0, 2, 4, 7, 10, 50, 52, 53, 54, 60, 62, 64, 99999, 100000} {
			e.Tag = tag
			want := hearOf(p, e)
			if !want.Ok || !hasTag(want.Part.Todo, tag) {
				t.Fatal(want)
			}
			hears(t, "tag "+strconv.Itoa(tag), p, e, want)
		}
	}
}

func TestHearOfAntis(t *testing.T) {
	for _, antis := range [][]int{{0}, {100000}, {0, 100000}, {5, 6, 70}, {70, 71, 99999}} {
		for at, tag := range antis {
			p := somePart()
			p.Antis = antis
			want := plain(p)
			want.Antis = slices.Delete(slices.Clone(antis), at, at+1)
			for _, e := range []impl.Event{{Dst: 2, Tag: tag}, {Time: 15, Src: 1, Dst: 2, Tag: tag}, {Time: 1000, Src: 3, Dst: 2, Tag: tag}} {
				hears(t, "an anti", p, e, outcome{Part: want, Ok: true})
			}
		}
	}
	// What is there counts ahead of Antis.
	p := somePart()
	p.Antis = []int{8, 9}
	hears(t, "in Todo and Antis", p, p.Todo[0], outcome{})
	hears(t, "in Past and Antis", p, p.Past[3].E, outcome{})
	full := longPart(200, 2000, 2000)
	for _, at := range []int{0, 1000, 1999} {
		want := plain(full)
		want.Antis = slices.Delete(want.Antis, at, at+1)
		hears(t, "of full ones", full, impl.Event{Dst: 1, Tag: 30000 + at}, outcome{Part: want, Ok: true})
	}
}

// Where Todo has no room for what is heard, with all that is undone for it, the part stays as it is.
func TestHearBeyondMaxQueue(t *testing.T) {
	for _, row := range []struct{ past, todo, undone int }{
		{0, 1999, 0}, {0, 2000, 0}, {200, 1999, 0}, {200, 2000, 0}, {200, 1799, 200}, {200, 1800, 200}, {1, 1998, 1}, {1, 1999, 1}, {200, 1997, 2}, {200, 1998, 2},
	} {
		p := longPart(row.past, row.todo, 2000)
		e := impl.Event{Time: 299, Dst: 1, Tag: 999}
		if row.undone > 0 {
			e = p.Past[row.past-row.undone].E
			e.Seq, e.Src, e.Tag = 0, -1, 999
			e.Time = p.Past[row.past-row.undone].E.Time
			if row.undone < row.past && p.Past[row.past-row.undone-1].E.Time == e.Time {
				e = p.Past[row.past-row.undone-1].E
				e.Tag = 999
			}
		}
		want := hearOf(p, e)
		if fits := row.todo+row.undone+1 <= 2000; fits != want.Ok || fits && len(want.Events) != row.undone || !fits && !same(want.Part, p) {
			t.Fatal(row, want.Ok, len(want.Events))
		}
		hears(t, "heard", p, e, want)
	}
}

// What is taken back goes from where it is: from Todo, or, behind going back to it, from Past.
func TestUnhear(t *testing.T) {
	for n, e := range eventsIn(somePart()) {
		p, undone := cutBack(min(n, 4))
		p.Todo = slices.Delete(slices.Clone(p.Todo), n-min(n, 4), n-min(n, 4)+1)
		unhears(t, "unhear "+string(impl.EventText(e)), somePart(), e, outcome{Part: p, Events: undone, Ok: true})
		// Kind and Val have no place.
		e.Kind, e.Val = 2, 998
		unhears(t, "unhear "+string(impl.EventText(e)), somePart(), e, outcome{Part: p, Events: undone, Ok: true})
	}
}

// What is taken back ahead of its coming stands in Antis, once, in its place, and nothing is undone.
func TestUnhearAheadOfItsComing(t *testing.T) {
	for tag, antis := range map[int][]int{
		0: {0, 7, 70}, 7: {0, 7, 70}, 70: {0, 7, 70}, 2: {0, 2, 7, 70}, 6: {0, 6, 7, 70}, 10: {0, 7, 10, 70}, 50: {0, 7, 50, 70}, 69: {0, 7, 69, 70},
		71: {0, 7, 70, 71}, 100000: {0, 7, 70, 100000},
	} {
		want := somePart()
		want.Antis = antis
		for _, e := range []impl.Event{{Dst: 2}, {Time: 15, Src: 1, Dst: 2}, {Time: 20, Seq: 8, Dst: 2}, {Time: 1000, Src: 3, Seq: 100000, Dst: 2}} {
			e.Tag = tag
			unhears(t, "tag "+strconv.Itoa(tag), somePart(), e, outcome{Part: want, Ok: true})
		}
	}
	empty := impl.Part{Lp: 3, State: stateWith(1, 2, 3, 4)}
	for _, tag := range []int{0, 100000} {
		want := plain(empty)
		want.Antis = []int{tag}
		unhears(t, "of nothing", empty, impl.Event{Dst: 3, Tag: tag}, outcome{Part: want, Ok: true})
	}
}

// What is taken back is told by its Tag, the place to go back to by the event that is given.
func TestUnhearAtAnotherPlace(t *testing.T) {
	p := somePart()
	// In Todo: wherever the event stands, nothing is undone.
	for at, known := range p.Todo {
		want := plain(p)
		want.Todo = slices.Delete(want.Todo, at, at+1)
		for _, time := range []int{0, 15, 30, 35, 1000} {
			unhears(t, "in Todo", p, impl.Event{Time: time, Dst: 2, Tag: known.Tag}, outcome{Part: want, Ok: true})
		}
	}
	// In Past, and the event sooner: it goes back as far as that.
	want, undone := cutBack(1)
	want.Todo = slices.Delete(slices.Clone(want.Todo), 2, 3)
	unhears(t, "sooner", p, impl.Event{Time: 15, Dst: 2, Tag: 9}, outcome{Part: want, Events: undone, Ok: true})
	// In Past, and the event later: it does not come as far as to undo it, and its Tag is in Antis.
	want, undone = cutBack(3)
	want.Antis = []int{0, 3, 7, 70}
	unhears(t, "later", p, impl.Event{Time: 25, Dst: 2, Tag: 3}, outcome{Part: want, Events: undone, Ok: true})
	want, undone = cutBack(4)
	want.Antis = []int{0, 7, 9, 70}
	unhears(t, "later than all", p, impl.Event{Time: 31, Dst: 2, Tag: 9}, outcome{Part: want, Events: undone, Ok: true})
	// In Todo and in Antis, or in Past and in Antis: that stays there.
	p.Antis = []int{1, 61}
	want = plain(p)
	want.Todo = slices.Delete(want.Todo, 1, 2)
	unhears(t, "in both", p, p.Todo[1], outcome{Part: want, Ok: true})
	want, undone = cutBack(1)
	want.Todo, want.Antis = want.Todo[1:], p.Antis
	unhears(t, "in both", p, p.Past[1].E, outcome{Part: want, Events: undone, Ok: true})
}

// On the way there may be more in Todo than there is room for; in the end there may not.
func TestUnhearBeyondMaxQueue(t *testing.T) {
	for _, row := range []struct{ past, todo, undone int }{
		{200, 2000, 1}, {1, 2000, 1}, {200, 2000, 2}, {200, 1999, 2}, {200, 1800, 200}, {200, 1801, 200}, {200, 1802, 200}, {3, 2000, 3},
	} {
		p := longPart(row.past, row.todo, 2000)
		e := p.Past[row.past-row.undone].E
		want := unhearOf(p, e)
		if fits := row.todo+row.undone-1 <= 2000; fits != want.Ok || fits && len(want.Events) != row.undone || !fits && !same(want.Part, p) {
			t.Fatal(row, want.Ok, len(want.Events))
		}
		unhears(t, "unheard", p, e, want)
	}
	for antis, room := range map[int]bool{1998: true, 1999: true, 2000: false} {
		p := longPart(5, 2000, antis)
		for _, tag := range []int{0, 29999, 40000, 100000} {
			e := impl.Event{Time: 500, Dst: 1, Tag: tag}
			if tag == 0 {
				// The first of Past: later than that, so its Tag is to be in Antis.
				e.Time = 299
			}
			want := unhearOf(p, e)
			if want.Ok != room || !room && !same(want.Part, p) || room && len(want.Part.Antis) != antis+1 {
				t.Fatal(antis, tag, want.Ok)
			}
			unhears(t, "antis", p, e, want)
		}
		there := impl.Event{Dst: 1, Tag: 30000}
		unhears(t, "in Antis already", p, there, outcome{Part: p, Ok: true})
		last := p.Todo[1999]
		want := plain(p)
		want.Todo = want.Todo[:1999]
		unhears(t, "from Todo", p, last, outcome{Part: want, Ok: true})
	}
}

func TestTrim(t *testing.T) {
	for e, n := range places() {
		p := somePart()
		want := outcome{Part: plain(p), Past: p.Past[:n]}
		want.Part.Past = p.Past[n:]
		for dst := range 4 {
			e.Dst = dst
			trims(t, "trim to "+string(impl.EventText(e)), p, e, want)
		}
		keeps(t, "trimmed", want.Part, lastOf(want.Part), []int{9, 6, 5, 1, 0}[n])
	}
}

func TestTrimOfLongOnes(t *testing.T) {
	p := longPart(200, 2000, 2000)
	for _, n := range []int{0, 1, 100, 199} {
		trims(t, "trimmed", p, p.Past[n].E, outcome{Part: changed(p, func(p *impl.Part) { p.Past = p.Past[n:] }), Past: p.Past[:n]})
	}
	trims(t, "trimmed", p, p.Todo[0], outcome{Part: changed(p, func(p *impl.Part) { p.Past = nil }), Past: p.Past})
}

func TestLastAndSaved(t *testing.T) {
	for name, p := range fineParts() {
		keeps(t, name, p, lastOf(p), savedOf(p))
	}
	keeps(t, "some", somePart(), outcome{Event: somePart().Past[3].E, Ok: true}, 9)
	keeps(t, "none", impl.Part{State: stateWith(1, 2, 3, 4)}, outcome{}, 0)
	full := longPart(200, 0, 0)
	for i := range full.Past {
		full.Past[i] = fullPast(full.Past[i].E)
	}
	keeps(t, "as many as there may be", full, outcome{Event: full.Past[199].E, Ok: true}, 1800)
}

// untagged is p but for the Tags of what was sent, which are others each time it is.
func untagged(p impl.Part) impl.Part {
	p = plain(p)
	for i := range p.Past {
		for j := range p.Past[i].Sent {
			p.Past[i].Sent[j].Tag = 0
		}
	}
	return p
}

// visitors are events for a part of the model from all others, with Tags of their own; no two have the same place.
func visitors(r *rand.Rand, m impl.Model, lp int, n int) []impl.Event {
	var l []impl.Event
	for i := range n {
		l = append(l, impl.Event{
			Time: r.IntN(m.End + 1), Src: r.IntN(4), Seq: r.IntN(5), Dst: lp,
			Kind: r.IntN(len(m.Handlers)), Val: r.IntN(1000), Tag: 1000 + i,
		})
	}
	return l
}

// workedFor is p behind so many times of Work, or as far as it comes, and what that sent.
func workedFor(t *testing.T, m impl.Model, d []int, p impl.Part, tag int, times int) (impl.Part, []impl.Event) {
	t.Helper()
	var all []impl.Event
	for range times {
		after, sent, n := impl.Work(m, d, p, tag+len(all))
		if n == -3 {
			t.Fatal("stuck:", p)
		}
		if n != -1 {
			break
		}
		p = after
		all = append(all, sent...)
	}
	return p, all
}

func heard(t *testing.T, p impl.Part, l ...impl.Event) impl.Part {
	t.Helper()
	for _, e := range l {
		after, _, ok := impl.Hear(p, e)
		if !ok {
			t.Fatal("not heard:", e, p)
		}
		p = after
	}
	return p
}

// eachPart calls try with parts of all sorts of models, by all sorts of vectors, with a few visitors in Todo.
func eachPart(t *testing.T, seed uint64, try func(r *rand.Rand, m impl.Model, d []int, p impl.Part)) {
	t.Helper()
	r := newRandom(seed)
	for _, m := range livelyModels() {
		lp := r.IntN(m.Lps)
		p, ok := impl.PartNew(m, lp)
		if !ok {
			t.Fatal(m)
		}
		d := randomVector(r)
		if r.IntN(2) == 0 {
			d = []int{r.IntN(2), r.IntN(2), r.IntN(2), r.IntN(2)}
		}
		try(r, m, d, heard(t, p, visitors(r, m, lp, r.IntN(12))...))
	}
}

// What a part did and undid was not done: it is as it was, and all that was sent is undone, the last one first.
func TestWhatIsUndoneWasNotDone(t *testing.T) {
	moved := 0
	eachPart(t, 74, func(r *rand.Rand, m impl.Model, d []int, p impl.Part) {
		before, _ := workedFor(t, m, d, p, 2000, r.IntN(5))
		after, sent := workedFor(t, m, d, before, 3000, r.IntN(8))
		if len(before.Todo) == 0 {
			return
		}
		back, undone := impl.Back(after, before.Todo[0])
		if !same(back, before) || !slices.Equal(undone, backwards(sent)) {
			t.Fatalf("%v, not %v, and %v for %v", back, before, undone, sent)
		}
		moved += len(sent)
		again, sentAgain := workedFor(t, m, d, back, 3000, len(after.Past)-len(before.Past))
		if !same(again, after) || !slices.Equal(sentAgain, sent) {
			t.Fatalf("%v, not %v", again, after)
		}
	})
	if moved < 300 {
		t.Error("only", moved, "were sent")
	}
}

// Back at a place it has done only what is ahead of that, and has the rest to do.
func TestBackAtAPlaceOnlyWhatIsAheadIsDone(t *testing.T) {
	eachPart(t, 75, func(r *rand.Rand, m impl.Model, d []int, p impl.Part) {
		after, _ := workedFor(t, m, d, p, 2000, r.IntN(12))
		for _, e := range append(visitors(r, m, r.IntN(4), 4), eventsIn(after)...) {
			back, undone := impl.Back(after, e)
			if !impl.PartOk(back) || !slices.Equal(eventsIn(back), eventsIn(after)) || !same(back.Antis, after.Antis) {
				t.Fatalf("%v is not %v", back, after)
			}
			for i, done := range eventsIn(back) {
				if (i < len(back.Past)) != (i < len(after.Past) && ahead(done, e)) {
					t.Fatalf("back at %v: %v of %v", e, done, back)
				}
			}
			again, redone := workedFor(t, m, d, back, 5000, len(after.Past)-len(back.Past))
			if !same(untagged(again), untagged(after)) || len(redone) != len(undone) {
				t.Fatalf("%v, not %v", again, after)
			}
		}
	})
}

// Who hears late, and does all again, is as who heard in time, where it has done as much.
func TestWhoHearsLateIsAsWhoHeardInTime(t *testing.T) {
	late := 0
	eachPart(t, 76, func(r *rand.Rand, m impl.Model, d []int, p impl.Part) {
		coming := visitors(r, m, p.Lp, 1+r.IntN(8))
		for i := range coming {
			coming[i].Tag += 1000
		}
		inTime := heard(t, p, coming...)
		tag := 10000
		for _, i := range r.Perm(len(coming)) {
			p, _ = workedFor(t, m, d, p, tag, r.IntN(6))
			after, undone, ok := impl.Hear(p, coming[i])
			if !ok || !hasTag(after.Todo, coming[i].Tag) {
				t.Fatal(p, coming[i])
			}
			late += len(undone)
			p, tag = after, tag+100
		}
		for range 40 {
			asFar, _ := workedFor(t, m, d, inTime, 20000, len(p.Past))
			if !same(untagged(asFar), untagged(p)) {
				t.Fatalf("%v, not %v", p, asFar)
			}
			p, _ = workedFor(t, m, d, p, tag, 1)
			tag += 8
		}
	})
	if late < 300 {
		t.Error("only", late, "were undone")
	}
}

// What is taken back is nowhere, whichever comes first: it is as if it had never been heard.
func TestWhatIsTakenBackIsNowhere(t *testing.T) {
	var first, later int
	eachPart(t, 77, func(r *rand.Rand, m impl.Model, d []int, p impl.Part) {
		never := p
		coming := visitors(r, m, p.Lp, 1+r.IntN(6))
		for i := range coming {
			coming[i].Tag += 1000
		}
		// Each comes twice, as itself and to be taken back, in any order.
		met := map[int]int{}
		for step, i := range r.Perm(2 * len(coming)) {
			e, taken := coming[i/2], i%2 == 1
			p, _ = workedFor(t, m, d, p, 10000+100*step, r.IntN(5))
			deed := impl.Hear
			if taken {
				deed = impl.Unhear
			}
			after, _, ok := deed(p, e)
			if !ok || !impl.PartOk(after) {
				t.Fatal(p, e)
			}
			met[e.Tag]++
			if there := hasTag(eventsIn(after), e.Tag); there != (met[e.Tag] == 1 && !taken) || slices.Contains(after.Antis, e.Tag) != (met[e.Tag] == 1 && taken) {
				t.Fatalf("%v in %v", e, after)
			}
			if met[e.Tag] == 2 && taken {
				later++
			} else if met[e.Tag] == 2 {
				first++
				if !same(p.Past, after.Past) || !same(p.State, after.State) || !same(p.Todo, after.Todo) {
					t.Fatal("what was taken back already is done something for:", p, after)
				}
			}
			p = after
		}
		asFar, _ := workedFor(t, m, d, never, 20000, len(p.Past))
		if !same(untagged(asFar), untagged(p)) {
			t.Fatalf("%v, not %v", p, asFar)
		}
	})
	if min(first, later) < 200 {
		t.Error("not much was tried:", first, later)
	}
}

// What a part is trimmed of is all ahead; to there, and to what is behind that, it goes back as before.
func TestWhoIsTrimmedGoesBackAsBefore(t *testing.T) {
	cut := 0
	eachPart(t, 78, func(r *rand.Rand, m impl.Model, d []int, p impl.Part) {
		p, _ = workedFor(t, m, d, p, 2000, 20)
		l := append(visitors(r, m, r.IntN(4), 3), eventsIn(p)...)
		e := l[r.IntN(len(l))]
		short, trimmed := impl.Trim(p, e)
		if !impl.PartOk(short) || !same(slices.Concat(trimmed, short.Past), p.Past) || !same(short.State, p.State) || !same(short.Todo, p.Todo) || !same(short.Antis, p.Antis) {
			t.Fatalf("%v of %v", short, p)
		}
		if len(trimmed) > 0 && !ahead(trimmed[len(trimmed)-1].E, e) || len(short.Past) > 0 && ahead(short.Past[0].E, e) {
			t.Fatalf("trimmed to %v: %v", e, trimmed)
		}
		cut += len(trimmed)
		for _, to := range append(l, e) {
			if ahead(to, e) {
				continue
			}
			back, undone := impl.Back(p, to)
			shortBack, shortUndone := impl.Back(short, to)
			back.Past = back.Past[len(trimmed):]
			if !same(back, shortBack) || !slices.Equal(undone, shortUndone) {
				t.Fatalf("to %v: %v, not %v", to, shortBack, back)
			}
		}
		again, _ := workedFor(t, m, d, short, 5000, 5)
		whole, _ := workedFor(t, m, d, p, 5000, 5)
		whole.Past = whole.Past[len(trimmed):]
		if !same(again, whole) {
			t.Fatalf("%v, not %v", again, whole)
		}
	})
	if cut < 200 {
		t.Error("only", cut, "were trimmed")
	}
}

// Whatever is done to a part, in any order, is what the words of the document say of it.
func TestPartsStepByStep(t *testing.T) {
	eachPart(t, 79, func(r *rand.Rand, m impl.Model, d []int, p impl.Part) {
		coming := visitors(r, m, p.Lp, 12)
		for step := range 25 {
			e := coming[r.IntN(12)]
			var next outcome
			switch r.IntN(8) {
			case 0:
				next = hearOf(p, e)
				hears(t, "heard", p, e, next)
			case 1:
				next = unhearOf(p, e)
				unhears(t, "unheard", p, e, next)
			case 2:
				next = backOf(p, e)
				goesBack(t, "back", p, e, next)
			case 3:
				next = trimOf(p, e)
				trims(t, "trimmed", p, e, next)
			default:
				next = workOf(m, d, p, 2000+8*step)
				works(t, "worked", m, d, p, 2000+8*step, next)
			}
			if isPart(next.Part) {
				p = next.Part
			}
		}
		keeps(t, "in the end", p, lastOf(p), savedOf(p))
	})
}
