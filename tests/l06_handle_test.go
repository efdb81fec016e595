package tests

import (
	"math"
	"math/rand/v2"
	"slices"
	"strconv"
	"strings"
	"testing"

	"loop.example/g00603/impl"
)

// behindEmit and overEmit are no emits: the one stands in the room behind an argument, the other is written over an answer.
var behindEmit = impl.Emit{Time: -70, Lp: -71, Val: -72}
var overEmit = impl.Emit{Time: -80, Lp: -81, Val: -82}

var undecided = []int{-1, -1, -1, -1}

const maxCount = 100000 - 8

func stateWith(first int, second int, seq int, draws int) impl.State {
	return impl.State{Regs: []int{first, second}, Seq: seq, Draws: draws}
}

func copyState(s impl.State) impl.State {
	s.Regs = slices.Clone(s.Regs)
	return s
}

func sameState(a impl.State, b impl.State) bool {
	return slices.Equal(a.Regs, b.Regs) && a.Seq == b.Seq && a.Draws == b.Draws
}

func sameEffect(a impl.Effect, b impl.Effect) bool {
	return sameState(a.State, b.State) && slices.Equal(a.Sends, b.Sends) && slices.Equal(a.Emits, b.Emits) && a.Asks == b.Asks
}

func sameHistory(a impl.History, b impl.History) bool {
	return slices.Equal(a.Events, b.Events) && slices.Equal(a.Emits, b.Emits) && a.Asks == b.Asks && a.Full == b.Full
}

// stateField is a number of a state, and where it may be.
type stateField struct {
	name string
	span
	set func(s *impl.State, x int)
}

func stateFields() []stateField {
	return []stateField{
		{"register 0", span{0, 999}, func(s *impl.State, x int) { s.Regs[0] = x }},
		{"register 1", span{0, 999}, func(s *impl.State, x int) { s.Regs[1] = x }},
		{"Seq", span{0, maxCount}, func(s *impl.State, x int) { s.Seq = x }},
		{"Draws", span{0, maxCount}, func(s *impl.State, x int) { s.Draws = x }},
	}
}

func (f stateField) with(s impl.State, x int) impl.State {
	s = copyState(s)
	f.set(&s, x)
	return s
}

// wrongStates are each wrong in one number alone, or in how many Regs there are.
func wrongStates() map[string]impl.State {
	l := map[string]impl.State{
		"the zero value": {},
		"a million Regs": {Regs: make([]int, 1000000)},
		"negative Regs":  stateWith(-1, -1, 0, 0),
	}
	for _, n := range []int{0, 1, 3, 4, 258} {
		l[strconv.Itoa(n)+" Regs"] = impl.State{Regs: slices.Repeat([]int{5}, n)}
	}
	for _, s := range []impl.State{stateWith(0, 0, 0, 0), stateWith(500, 400, 300, 200), stateWith(999, 999, maxCount, maxCount)} {
		for _, f := range stateFields() {
			for _, x := range f.beyond() {
				l[f.name+" "+strconv.Itoa(x)+" and "+strconv.Itoa(s.Seq)] = f.with(s, x)
			}
		}
	}
	return l
}

func guardedState(s impl.State) (impl.State, func(t *testing.T, answers ...[]int)) {
	regs, check := guardedWith(s.Regs, -77, -87)
	s.Regs = regs
	return s, check
}

// handled tells what Handle answers anew, by the words of the document.
func handled(m impl.Model, d []int, s impl.State, e impl.Event) impl.Effect {
	x := impl.Effect{State: copyState(s), Asks: -1}
	passed := 0
	for _, o := range m.Handlers[e.Kind] {
		if passed > 0 {
			passed--
			continue
		}
		regs := x.State.Regs
		switch o.Code {
		case impl.OpAdd:
			if regs[o.A] += o.B; regs[o.A] > 999 {
				regs[o.A] -= 1000
			}
		case impl.OpTake:
			if regs[o.A] += e.Val; regs[o.A] > 999 {
				regs[o.A] -= 1000
			}
		case impl.OpSend:
			x.Sends = append(x.Sends, impl.Event{Time: e.Time + o.B, Src: e.Dst, Seq: x.State.Seq, Dst: o.A, Kind: o.C, Val: regs[0]})
			x.State.Seq++
		case impl.OpSkip:
			if regs[o.A] < o.B {
				passed = o.C
			}
		case impl.OpAsk:
			if d[o.A] < 0 {
				return impl.Effect{State: copyState(s), Asks: o.A}
			}
			regs[o.B] = d[o.A]
		case impl.OpEmit:
			x.Emits = append(x.Emits, impl.Emit{Time: e.Time, Lp: e.Dst, Val: regs[o.A]})
		case impl.OpDraw:
			regs[o.A] = randBig(place{m.Seed, e.Dst, x.State.Draws}) % o.B
			x.State.Draws++
		}
	}
	return x
}

// sequenced tells what Sequence answers anew, with a plain list of what is to be done.
func sequenced(m impl.Model, d []int, end int) impl.History {
	h := impl.History{Asks: -1}
	var states []impl.State
	for _, x := range m.Init {
		states = append(states, stateWith(x, 0, 0, 0))
	}
	todo := slices.Clone(m.Start)
	for i := range todo {
		todo[i].Tag = 0
	}
	for {
		slices.SortFunc(todo, compareByAhead)
		if len(todo) == 0 || todo[0].Time > end {
			return h
		}
		if len(h.Events) == 150 {
			h.Full = true
			return h
		}
		e := todo[0]
		x := handled(m, d, states[e.Dst], e)
		if x.Asks >= 0 {
			h.Asks = x.Asks
			return h
		}
		todo = todo[1:]
		states[e.Dst] = x.State
		for _, sent := range x.Sends {
			if sent.Time <= m.End {
				todo = append(todo, sent)
			}
		}
		h.Events = append(h.Events, e)
		h.Emits = append(h.Emits, x.Emits...)
	}
}

// oneHandler is a model of three parts and two kinds, of which kind 1 does nothing but this.
func oneHandler(ops ...impl.Op) impl.Model {
	return impl.Model{Lps: 3, Seed: 4711, Init: []int{3, 4, 5}, Handlers: [][]impl.Op{{{Code: impl.OpEmit}}, ops}, End: 60}
}

// toPart is an event for the handler of oneHandler.
var toPart = impl.Event{Time: 40, Src: 3, Seq: 9, Dst: 2, Kind: 1, Val: 70, Tag: 77}

// does fails where Handle answers anything but want, or does anything to its arguments.
func does(t *testing.T, m impl.Model, d []int, s impl.State, e impl.Event, want impl.Effect) impl.Effect {
	t.Helper()
	gm, checkModel := guardedModel(m)
	gd, checkVector := guardedVector(d)
	gs, checkState := guardedState(s)
	got, ok := impl.Handle(gm, gd, gs, e)
	if !ok || !sameEffect(got, want) {
		t.Fatalf("%v by %v in %v at %v: %v %v, not %v", m.Handlers[e.Kind], d, s, e, got, ok, want)
	}
	answer := impl.Effect{State: copyState(got.State), Sends: slices.Clone(got.Sends), Emits: slices.Clone(got.Emits), Asks: got.Asks}
	checkModel(t)
	checkVector(t)
	checkState(t, got.State.Regs)
	checkModel(t)
	checkVector(t)
	return answer
}

func TestMaxEvents(t *testing.T) {
	if impl.MaxEvents != 150 {
		t.Fatal(impl.MaxEvents)
	}
}

func TestStateOk(t *testing.T) {
	for _, s := range []impl.State{stateWith(0, 0, 0, 0), stateWith(999, 999, maxCount, maxCount), stateWith(7, 8, 9, 10)} {
		for _, f := range stateFields() {
			for _, x := range []int{f.low, f.low + 1, f.high - 1, f.high} {
				g, check := guardedState(f.with(s, x))
				if !impl.StateOk(g) {
					t.Errorf("%s %d of %v is refused", f.name, x, s)
				}
				check(t)
			}
		}
	}
	for name, s := range wrongStates() {
		g, check := guardedState(s)
		if impl.StateOk(g) {
			t.Errorf("%s is accepted", name)
		}
		check(t)
	}
}

// Two of more registers are two, and one of two is one.
func TestStatesEndWhereTheirListEnds(t *testing.T) {
	room := []int{5, 6, -1}
	for n := range len(room) + 1 {
		if impl.StateOk(impl.State{Regs: room[:n]}) != (n == 2) {
			t.Errorf("%d of %v", n, room)
		}
		if _, ok := impl.Handle(oneHandler(), undecided, impl.State{Regs: room[:n]}, toPart); ok != (n == 2) {
			t.Errorf("%d of %v", n, room)
		}
	}
}

func TestHandleOfNoOps(t *testing.T) {
	s := stateWith(1, 2, 3, 4)
	does(t, oneHandler(), undecided, s, toPart, impl.Effect{State: s, Asks: -1})
}

func TestHandleOpAdd(t *testing.T) {
	for _, x := range []int{0, 1, 500, 998, 999} {
		for _, b := range []int{0, 1, 2, 499, 500, 501, 999} {
			sum := (x + b) % 1000
			m := oneHandler(impl.Op{Code: impl.OpAdd, B: b})
			does(t, m, undecided, stateWith(x, 333, 3, 4), toPart, impl.Effect{State: stateWith(sum, 333, 3, 4), Asks: -1})
			m = oneHandler(impl.Op{Code: impl.OpAdd, A: 1, B: b})
			does(t, m, undecided, stateWith(333, x, 3, 4), toPart, impl.Effect{State: stateWith(333, sum, 3, 4), Asks: -1})
		}
	}
}

func TestHandleOpTake(t *testing.T) {
	for _, x := range []int{0, 1, 500, 998, 999} {
		for _, val := range []int{0, 1, 2, 499, 500, 501, 999} {
			e := toPart
			e.Val = val
			sum := (x + val) % 1000
			m := oneHandler(impl.Op{Code: impl.OpTake})
			does(t, m, undecided, stateWith(x, 333, 3, 4), e, impl.Effect{State: stateWith(sum, 333, 3, 4), Asks: -1})
			m = oneHandler(impl.Op{Code: impl.OpTake, A: 1})
			does(t, m, undecided, stateWith(333, x, 3, 4), e, impl.Effect{State: stateWith(333, sum, 3, 4), Asks: -1})
		}
	}
}

func TestHandleBeyondThousandTwice(t *testing.T) {
	full := impl.Op{Code: impl.OpAdd, A: 1, B: 999}
	m := oneHandler(full, full, full, full, impl.Op{Code: impl.OpTake, A: 1}, full, full, full)
	does(t, m, undecided, stateWith(0, 999, 0, 0), toPart, impl.Effect{State: stateWith(0, (8*999+70)%1000, 0, 0), Asks: -1})
}

func TestHandleOpEmit(t *testing.T) {
	s := stateWith(0, 999, 3, 4)
	for a, val := range s.Regs {
		for dst := range 3 {
			e := toPart
			e.Dst = dst
			want := impl.Effect{State: s, Emits: []impl.Emit{{Time: 40, Lp: dst, Val: val}}, Asks: -1}
			does(t, oneHandler(impl.Op{Code: impl.OpEmit, A: a}), undecided, s, e, want)
		}
	}
	tell := impl.Op{Code: impl.OpEmit}
	m := oneHandler(tell, impl.Op{Code: impl.OpAdd, B: 10}, tell, impl.Op{Code: impl.OpEmit, A: 1}, tell)
	does(t, m, undecided, stateWith(1, 2, 3, 4), toPart, impl.Effect{
		State: stateWith(11, 2, 3, 4),
		Emits: []impl.Emit{{Time: 40, Lp: 2, Val: 1}, {Time: 40, Lp: 2, Val: 11}, {Time: 40, Lp: 2, Val: 2}, {Time: 40, Lp: 2, Val: 11}},
		Asks:  -1,
	})
}

func TestHandleOpDraw(t *testing.T) {
	for _, seed := range []int{0, 1, 4711, 65535} {
		for _, draws := range []int{0, 1, 500, maxCount} {
			for _, b := range []int{1, 2, 100, 998, 999} {
				for dst := range 3 {
					m := oneHandler(impl.Op{Code: impl.OpDraw, A: dst % 2, B: b})
					m.Seed = seed
					e := toPart
					e.Dst = dst
					want := impl.Effect{State: stateWith(333, 444, 3, draws+1), Asks: -1}
					want.State.Regs[dst%2] = impl.RandBelow(seed, dst, draws, b)
					does(t, m, undecided, stateWith(333, 444, 3, draws), e, want)
				}
			}
		}
	}
}

// Several draws are one behind the other, whoever tells or sends them on.
func TestHandleDrawsInARow(t *testing.T) {
	for _, draws := range []int{0, 7, maxCount} {
		draw := impl.Op{Code: impl.OpDraw, B: 999}
		tell := impl.Op{Code: impl.OpEmit}
		m := oneHandler(draw, tell, draw, tell, impl.Op{Code: impl.OpSend, B: 1}, draw, impl.Op{Code: impl.OpDraw, A: 1, B: 50}, tell)
		r := func(n int, below int) int { return impl.RandBelow(4711, 2, draws+n, below) }
		does(t, m, undecided, stateWith(1, 2, 3, draws), toPart, impl.Effect{
			State: stateWith(r(2, 999), r(3, 50), 4, draws+4),
			Sends: []impl.Event{{Time: 41, Src: 2, Seq: 3, Val: r(1, 999)}},
			Emits: []impl.Emit{{Time: 40, Lp: 2, Val: r(0, 999)}, {Time: 40, Lp: 2, Val: r(1, 999)}, {Time: 40, Lp: 2, Val: r(2, 999)}},
			Asks:  -1,
		})
	}
}

func TestHandleOpSend(t *testing.T) {
	for _, a := range []int{0, 1, 2} {
		for _, b := range []int{1, 2, 20, 21, 50} {
			for _, c := range []int{0, 1} {
				m := oneHandler(impl.Op{Code: impl.OpSend, A: a, B: b, C: c})
				// Beyond End it is sent too: who is to do it is said elsewhere.
				does(t, m, undecided, stateWith(123, 456, 3, 4), toPart, impl.Effect{
					State: stateWith(123, 456, 4, 4),
					Sends: []impl.Event{{Time: 40 + b, Src: 2, Seq: 3, Dst: a, Kind: c, Val: 123}},
					Asks:  -1,
				})
			}
		}
	}
}

// What is sent has register 0 as it is by then, not as it was or will be; each has a Seq of its own.
func TestHandleSendsInARow(t *testing.T) {
	m := oneHandler(
		impl.Op{Code: impl.OpSend, A: 1, B: 50, C: 1},
		impl.Op{Code: impl.OpAdd, B: 900},
		impl.Op{Code: impl.OpAdd, A: 1, B: 1},
		impl.Op{Code: impl.OpSend, A: 2, B: 1},
		impl.Op{Code: impl.OpSend, A: 0, B: 1, C: 1},
		impl.Op{Code: impl.OpTake},
		impl.Op{Code: impl.OpSend, A: 2, B: 30},
		impl.Op{Code: impl.OpAdd, B: 1},
	)
	does(t, m, undecided, stateWith(123, 456, 30, 4), toPart, impl.Effect{
		State: stateWith(94, 457, 34, 4),
		Sends: []impl.Event{
			{Time: 90, Src: 2, Seq: 30, Dst: 1, Kind: 1, Val: 123},
			{Time: 41, Src: 2, Seq: 31, Dst: 2, Kind: 0, Val: 23},
			{Time: 41, Src: 2, Seq: 32, Dst: 0, Kind: 1, Val: 23},
			{Time: 70, Src: 2, Seq: 33, Dst: 2, Kind: 0, Val: 93},
		},
		Asks: -1,
	})
}

// At the greatest Seq and Draws that may be, a handler with nothing but sends still sends what is EventOk.
func TestHandleAtTheGreatestCounts(t *testing.T) {
	for _, dst := range []int{0, 3} {
		m := sizedModel(4, 4, 8, 0)
		m.End = 950
		e := impl.Event{Time: 950, Src: 3, Seq: 100000, Dst: dst, Kind: 3, Val: 999, Tag: 100000}
		for i := range m.Handlers[3] {
			m.Handlers[3][i] = impl.Op{Code: impl.OpSend, A: 3, B: 50, C: 3}
		}
		want := impl.Effect{State: stateWith(999, 0, 100000, maxCount), Asks: -1}
		for i := range 8 {
			want.Sends = append(want.Sends, impl.Event{Time: 1000, Src: dst, Seq: maxCount + i, Dst: 3, Kind: 3, Val: 999})
		}
		got := does(t, m, undecided, stateWith(999, 0, maxCount, maxCount), e, want)
		for _, sent := range got.Sends {
			if !impl.EventOk(sent) {
				t.Errorf("%v is not EventOk", sent)
			}
		}
		for i := range m.Handlers[3] {
			m.Handlers[3][i] = impl.Op{Code: impl.OpDraw, A: 1, B: 999}
		}
		want = impl.Effect{State: stateWith(999, impl.RandBelow(0, dst, 99999, 999), maxCount, 100000), Asks: -1}
		does(t, m, undecided, stateWith(999, 0, maxCount, maxCount), e, want)
	}
}

// skipped has a skip of count, by B against register A, ahead of seven that add one and tell it, in turn.
func skipped(a int, b int, count int) impl.Model {
	tell := impl.Op{Code: impl.OpEmit, A: 1}
	one := impl.Op{Code: impl.OpAdd, A: 1, B: 1}
	return oneHandler(impl.Op{Code: impl.OpSkip, A: a, B: b, C: count}, one, tell, one, tell, one, tell, one)
}

func TestHandleOpSkip(t *testing.T) {
	for _, x := range []int{0, 1, 499, 500, 998, 999} {
		for _, b := range []int{0, 1, 499, 500, 501, 998, 999} {
			for count := 1; count <= impl.MaxOps; count++ {
				s := stateWith(x, 200, 3, 4)
				want := handled(skipped(0, b, count), undecided, s, toPart)
				passed := 0
				if x < b {
					passed = min(count, 7)
				}
				// One of each two adds, the first and the last one with it.
				if want.State.Regs[1] != 200+(8-passed)/2 {
					t.Fatal("passed over:", x, b, count, want)
				}
				does(t, skipped(0, b, count), undecided, s, toPart, want)
			}
		}
	}
	for b := 198; b <= 202; b++ {
		s := stateWith(0, 200, 3, 4)
		does(t, skipped(1, b, 8), undecided, s, toPart, handled(skipped(1, b, 8), undecided, s, toPart))
	}
}

// What is passed over is not counted as ops, be it a skip itself; behind it all goes on.
func TestHandleSkipsInARow(t *testing.T) {
	skip := func(c int) impl.Op { return impl.Op{Code: impl.OpSkip, B: 1, C: c} }
	add := func(b int) impl.Op { return impl.Op{Code: impl.OpAdd, A: 1, B: b} }
	for _, row := range []struct {
		ops  []impl.Op
		want int
	}{
		{[]impl.Op{skip(1), add(1), add(2), add(4)}, 6},
		{[]impl.Op{skip(1), skip(3), add(1), add(2), add(4)}, 7},
		{[]impl.Op{skip(2), skip(3), add(1), add(2), add(4)}, 6},
		{[]impl.Op{skip(1), add(1), skip(1), add(2), skip(1), add(4)}, 0},
		{[]impl.Op{add(1), add(2), skip(1), add(4), add(8)}, 11},
		{[]impl.Op{add(1), add(2), add(4), skip(8)}, 7},
		{[]impl.Op{add(1), add(2), skip(8), add(4)}, 3},
		{[]impl.Op{add(1), add(2), skip(7), add(4), add(8)}, 3},
		{[]impl.Op{skip(7), add(1), add(2), add(4), add(8), add(16), add(32), add(64)}, 0},
		{[]impl.Op{skip(6), add(1), add(2), add(4), add(8), add(16), add(32), add(64)}, 64},
		{[]impl.Op{skip(8), add(1), add(2), add(4), add(8), add(16), add(32), add(64)}, 0},
		{[]impl.Op{skip(1), add(1), {Code: impl.OpAdd, B: 1}, skip(1), add(2), skip(8), add(4)}, 6},
	} {
		got, ok := impl.Handle(oneHandler(row.ops...), undecided, stateWith(0, 0, 0, 0), toPart)
		if !ok || got.State.Regs[1] != row.want {
			t.Errorf("%v: %v %v, not %d", row.ops, got, ok, row.want)
		}
	}
}

func TestHandleOpAsk(t *testing.T) {
	for _, d := range allVectors() {
		for dec := range impl.MaxDec {
			for b := range 2 {
				s := stateWith(333, 444, 3, 4)
				want := impl.Effect{State: copyState(s), Asks: dec}
				if d[dec] >= 0 {
					want.Asks = -1
					want.State.Regs[b] = d[dec]
				}
				does(t, oneHandler(impl.Op{Code: impl.OpAsk, A: dec, B: b}), d, s, toPart, want)
			}
		}
	}
}

// Behind whatever was done ahead of it, one that is not made leaves nothing of that; one that is made leaves all.
func TestHandleAsksBehindDeeds(t *testing.T) {
	ops := []impl.Op{
		{Code: impl.OpAdd, B: 5}, {Code: impl.OpTake, A: 1}, {Code: impl.OpSend, A: 1, B: 3}, {Code: impl.OpEmit, A: 1},
		{Code: impl.OpDraw, A: 1, B: 100}, {Code: impl.OpAsk, A: 1, B: 1},
	}
	s := stateWith(1, 2, 3, 4)
	for n := range len(ops) {
		part := append(slices.Clone(ops[len(ops)-1-n:]), impl.Op{Code: impl.OpAsk, A: 2}, impl.Op{Code: impl.OpEmit})
		m := oneHandler(part...)
		does(t, m, []int{-1, 1, -1, -1}, s, toPart, impl.Effect{State: s, Asks: 2})
		does(t, m, []int{0, 0, -1, 0}, s, toPart, impl.Effect{State: s, Asks: 2})
		does(t, m, []int{0, -1, -1, 0}, s, toPart, impl.Effect{State: s, Asks: 1})
		does(t, m, []int{0, -1, 1, 0}, s, toPart, impl.Effect{State: s, Asks: 1})
		for _, way := range []int{0, 1} {
			want := handled(m, []int{-1, 1, way, -1}, s, toPart)
			if want.State.Regs[0] != way || want.Emits[len(want.Emits)-1].Val != way || want.Asks != -1 {
				t.Fatal(want)
			}
			does(t, m, []int{-1, 1, way, -1}, s, toPart, want)
		}
	}
}

// The first one that is not made is asked for; one that is passed over is not.
func TestHandleAsksForTheFirst(t *testing.T) {
	ask := func(a int, b int) impl.Op { return impl.Op{Code: impl.OpAsk, A: a, B: b} }
	m := oneHandler(ask(3, 0), ask(0, 1), impl.Op{Code: impl.OpSkip, A: 1, B: 1, C: 1}, ask(2, 0), ask(1, 0))
	s := stateWith(5, 6, 0, 0)
	for _, row := range []struct {
		text string
		want int
	}{{"????", 3}, {"nnn?", 3}, {"???n", 0}, {"n??y", 1}, {"y??y", 2}, {"y?nn", 1}, {"nn?n", -1}, {"yyyy", -1}, {"nyny", -1}} {
		d, _ := impl.VectorRead([]byte(row.text))
		if got := does(t, m, d, s, toPart, handled(m, d, s, toPart)); got.Asks != row.want {
			t.Errorf("%s: asks %d, not %d", row.text, got.Asks, row.want)
		}
	}
}

// randomState is often at a bound.
func randomState(r *rand.Rand) impl.State {
	reg := span{0, 999}
	count := span{0, maxCount}
	return stateWith(reg.any(r), reg.any(r), count.any(r), count.any(r))
}

// fitting is an event as Handle wants it of the model.
func fitting(r *rand.Rand, m impl.Model) impl.Event {
	return impl.Event{
		Time: span{0, m.End}.any(r), Src: span{-1, 3}.any(r), Seq: span{0, 100000}.any(r), Dst: span{0, m.Lps - 1}.any(r),
		Kind: span{0, len(m.Handlers) - 1}.any(r), Val: span{0, 999}.any(r), Tag: span{0, 100000}.any(r),
	}
}

func randomVector(r *rand.Rand) []int {
	l := allVectors()
	return l[r.IntN(len(l))]
}

func TestHandleOfAnyModel(t *testing.T) {
	r := newRandom(61)
	asked, done := 0, 0
	for _, m := range fineModels() {
		for range 12 {
			d, s, e := randomVector(r), randomState(r), fitting(r, m)
			got := does(t, m, d, s, e, handled(m, d, s, e))
			leavesWhatMayBe(t, s, e, got)
			if got.Asks == -1 {
				done++
			} else {
				asked++
			}
		}
	}
	if asked < 200 || done < 200 {
		t.Error("not much was tried:", asked, done)
	}
}

// leavesWhatMayBe is what is promised of all that Handle answers. Where Seq or Draws had no room
// for MaxOps more, the chapter's words leave a state with counts above what StateOk allows, but of at most MaxSeq.
func leavesWhatMayBe(t *testing.T, s impl.State, e impl.Event, x impl.Effect) {
	t.Helper()
	roomy := copyState(x.State)
	roomy.Seq, roomy.Draws = min(roomy.Seq, maxCount), min(roomy.Draws, maxCount)
	if !impl.StateOk(roomy) || x.State.Seq > 100000 || x.State.Draws > 100000 {
		t.Fatalf("%v is no state", x.State)
	}
	if s.Seq <= maxCount-8 && s.Draws <= maxCount-8 && !impl.StateOk(x.State) {
		t.Fatalf("%v is no state", x.State)
	}
	if x.Asks != -1 && (!sameState(x.State, s) || len(x.Sends)+len(x.Emits) > 0) {
		t.Fatalf("asked for %d, done %v", x.Asks, x)
	}
	if x.State.Seq != s.Seq+len(x.Sends) || len(x.Sends)+len(x.Emits) > 8 {
		t.Fatalf("behind %v: %v", s, x)
	}
	for i, sent := range x.Sends {
		if !impl.EventOk(sent) || sent.Time <= e.Time || sent.Src != e.Dst || sent.Seq != s.Seq+i || sent.Tag != 0 {
			t.Fatalf("%v is sent by %v", sent, e)
		}
	}
}

// What an event does hangs on its Time, Dst, Kind and Val alone.
func TestHandleHangsNotOnWhoSends(t *testing.T) {
	r := newRandom(62)
	for range 300 {
		m := randomModel(r)
		d, s, e := randomVector(r), randomState(r), fitting(r, m)
		other := e
		other.Src, other.Seq, other.Tag = span{-1, 3}.any(r), span{0, 100000}.any(r), span{0, 100000}.any(r)
		does(t, m, d, s, other, handled(m, d, s, e))
	}
}

// notHandled fails where anything but the zero value and false comes of it.
func notHandled(t *testing.T, name string, m impl.Model, d []int, s impl.State, e impl.Event) {
	t.Helper()
	gm, checkModel := guardedModel(m)
	gd, checkVector := guardedVector(d)
	gs, checkState := guardedState(s)
	if got, ok := impl.Handle(gm, gd, gs, e); ok || !sameEffect(got, impl.Effect{}) {
		t.Errorf("%s: %v %v", name, got, ok)
	}
	checkModel(t)
	checkVector(t)
	checkState(t)
}

func TestHandleOfWrongModels(t *testing.T) {
	e := impl.Event{Src: -1}
	s := stateWith(1, 2, 3, 4)
	for _, m := range []impl.Model{everyOp(), sizedModel(1, 1, 0, 0), sizedModel(4, 4, 8, 6)} {
		does(t, m, []int{0, 1, 0, 1}, s, e, handled(m, []int{0, 1, 0, 1}, s, e))
		for _, f := range modelFields(m) {
			for _, x := range f.beyond() {
				notHandled(t, f.name+" "+strconv.Itoa(x), f.with(m, x), []int{0, 1, 0, 1}, s, e)
			}
		}
	}
	for name, m := range wrongSizes() {
		notHandled(t, name, m, []int{0, 1, 0, 1}, s, e)
	}
}

func TestHandleOfWrongVectorsAndStates(t *testing.T) {
	m := everyOp()
	for kind := range m.Handlers {
		e := impl.Event{Src: -1, Kind: kind}
		for _, d := range wrongVectors() {
			notHandled(t, "a vector", m, d, stateWith(1, 2, 3, 4), e)
		}
		for name, s := range wrongStates() {
			notHandled(t, name, m, []int{0, 1, 0, 1}, s, e)
		}
	}
}

func TestHandleOfWrongEvents(t *testing.T) {
	s := stateWith(1, 2, 3, 4)
	d := []int{0, 1, 0, 1}
	for lps := 1; lps <= impl.MaxLps; lps++ {
		for kinds := 1; kinds <= impl.MaxKinds; kinds++ {
			m := sizedModel(lps, kinds, 1, 1)
			// As Handle wants them, and no more than that: what else is EventOk is not of this model.
			limits := map[string]span{"Time": {0, 9}, "Dst": {0, lps - 1}, "Kind": {0, kinds - 1}}
			for _, e := range []impl.Event{{}, {Time: 9, Src: 3, Seq: 100000, Dst: lps - 1, Kind: kinds - 1, Val: 999, Tag: 100000}} {
				for _, f := range fields() {
					may := span{f.low, f.high}
					if s, ok := limits[f.name]; ok {
						may = s
					}
					for _, x := range []int{may.low, may.high} {
						does(t, m, d, s, f.with(e, x), handled(m, d, s, f.with(e, x)))
					}
					for _, x := range may.beyond() {
						notHandled(t, f.name+" "+strconv.Itoa(x), m, d, s, f.with(e, x))
					}
				}
			}
		}
	}
}

func TestHandleTimeAtEnd(t *testing.T) {
	for _, end := range []int{0, 1, 949, 950} {
		m := sizedModel(1, 1, 0, 0)
		m.Handlers[0] = []impl.Op{{Code: impl.OpSend, B: 50}, {Code: impl.OpEmit}}
		m.End = end
		s := stateWith(5, 6, 0, 0)
		does(t, m, undecided, s, impl.Event{Time: end}, impl.Effect{
			State: stateWith(5, 6, 1, 0),
			Sends: []impl.Event{{Time: end + 50, Val: 5}},
			Emits: []impl.Emit{{Time: end, Val: 5}},
			Asks:  -1,
		})
		notHandled(t, "above End", m, undecided, s, impl.Event{Time: end + 1})
	}
}

func TestHandleAnswersAreNew(t *testing.T) {
	r := newRandom(63)
	for range 300 {
		m := randomModel(r)
		d, s, e := randomVector(r), randomState(r), fitting(r, m)
		one, _ := impl.Handle(m, d, s, e)
		other, _ := impl.Handle(m, d, s, e)
		apart(t, one.State.Regs, other.State.Regs, -87)
		apart(t, one.Sends, other.Sends, scribble)
		apart(t, one.Emits, other.Emits, overEmit)
		if again, ok := impl.Handle(m, d, s, e); !ok || !sameEffect(again, handled(m, d, s, e)) {
			t.Fatalf("an answer is kept: %v", again)
		}
	}
}

func TestStateOf(t *testing.T) {
	for _, m := range fineModels() {
		for lp := range m.Lps {
			g, check := guardedModel(m)
			s, ok := impl.StateOf(g, lp)
			if !ok || !sameState(s, stateWith(m.Init[lp], 0, 0, 0)) || !impl.StateOk(s) {
				t.Fatalf("part %d of %v: %v %v", lp, m, s, ok)
			}
			other, _ := impl.StateOf(g, lp)
			check(t, s.Regs)
			if !sameState(other, stateWith(m.Init[lp], 0, 0, 0)) {
				t.Fatal("two answers share memory")
			}
		}
		for _, lp := range (span{0, m.Lps - 1}).beyond() {
			noState(t, "no such part", m, lp)
		}
	}
}

func noState(t *testing.T, name string, m impl.Model, lp int) {
	t.Helper()
	g, check := guardedModel(m)
	if s, ok := impl.StateOf(g, lp); ok || !sameState(s, impl.State{}) {
		t.Errorf("%s: part %d: %v %v", name, lp, s, ok)
	}
	check(t)
}

func TestStateOfWrongModels(t *testing.T) {
	for _, m := range []impl.Model{everyOp(), sizedModel(1, 1, 0, 0), sizedModel(4, 4, 8, 6)} {
		for _, f := range modelFields(m) {
			for _, x := range f.beyond() {
				for lp := range m.Lps {
					noState(t, f.name+" "+strconv.Itoa(x), f.with(m, x), lp)
				}
			}
		}
	}
	for name, m := range wrongSizes() {
		for _, lp := range []int{math.MinInt, -1, 0, 1, 2, 3, 4, 257, math.MaxInt} {
			noState(t, name, m, lp)
		}
	}
}

// happens fails where Sequence answers anything but want, or does anything to its arguments.
func happens(t *testing.T, m impl.Model, d []int, end int, want impl.History) {
	t.Helper()
	gm, checkModel := guardedModel(m)
	gd, checkVector := guardedVector(d)
	got, ok := impl.Sequence(gm, gd, end)
	if !ok || !sameHistory(got, want) {
		t.Fatalf("%v by %v up to %d: %v %v, not %v", m, d, end, got, ok, want)
	}
	checkModel(t)
	checkVector(t)
	over(got.Events, scribble)
	over(got.Emits, overEmit)
	checkModel(t)
	if again, ok := impl.Sequence(gm, gd, end); !ok || !sameHistory(again, want) {
		t.Fatalf("an answer is kept: %v", again)
	}
}

// over writes all over a list, and over the room behind it.
func over[T any](l []T, x T) {
	l = l[:cap(l)]
	for i := range l {
		l[i] = x
	}
}

// threeParts send each other events: 0 sends to both others, 1 and 2 to each other and back, and 2 asks.
func threeParts() impl.Model {
	return impl.Model{
		Lps:  3,
		Init: []int{10, 20, 30},
		Handlers: [][]impl.Op{
			{{Code: impl.OpTake}, {Code: impl.OpSend, A: 1, B: 2, C: 1}, {Code: impl.OpSend, A: 2, B: 2, C: 1}, {Code: impl.OpEmit}},
			{{Code: impl.OpAdd, B: 1}, {Code: impl.OpSkip, B: 25, C: 2}, {Code: impl.OpAsk, A: 1, B: 1}, {Code: impl.OpEmit, A: 1}, {Code: impl.OpSend, A: 0, B: 3}},
		},
		Start: []impl.Event{
			{Time: 4, Src: -1, Seq: 0, Dst: 0, Val: 7, Tag: 0},
			{Time: 1, Src: -1, Seq: 1, Dst: 1, Kind: 1, Val: 8, Tag: 1},
		},
		End: 8,
	}
}

const threePartsBegin = "at 1 outside#1 to 1 kind 1 val 8\n" +
	"at 4 outside#0 to 0 kind 0 val 7\n" +
	"at 4 from 1#0 to 0 kind 0 val 21\n" +
	"at 6 from 0#0 to 1 kind 1 val 17\n"

const threePartsOn = "at 6 from 0#1 to 2 kind 1 val 17\n" +
	"at 6 from 0#2 to 1 kind 1 val 38\n" +
	"at 6 from 0#3 to 2 kind 1 val 38\n"

func TestSequenceOfThreeParts(t *testing.T) {
	for _, row := range []struct {
		d    string
		end  int
		want string
	}{
		{"????", 0, ""},
		{"????", 1, "at 1 outside#1 to 1 kind 1 val 8\n"},
		{"????", 3, "at 1 outside#1 to 1 kind 1 val 8\n"},
		{"????", 5, threePartsBegin[:strings.Index(threePartsBegin, "at 6")] + "emit 4 0 17\nemit 4 0 38\n"},
		{"????", 6, threePartsBegin + "emit 4 0 17\nemit 4 0 38\nasks 1\n"},
		{"y?yy", 8, threePartsBegin + "emit 4 0 17\nemit 4 0 38\nasks 1\n"},
		{"?n??", 6, threePartsBegin + threePartsOn + "emit 4 0 17\nemit 4 0 38\nemit 6 2 0\nemit 6 2 0\n"},
		{"?y??", 8, threePartsBegin + threePartsOn + "emit 4 0 17\nemit 4 0 38\nemit 6 2 1\nemit 6 2 1\n"},
	} {
		d, _ := impl.VectorRead([]byte(row.d))
		h, ok := impl.Sequence(threeParts(), d, row.end)
		if text := string(impl.HistoryText(h)); !ok || text != row.want {
			t.Errorf("%s up to %d: %q, not %q", row.d, row.end, text, row.want)
		}
		happens(t, threeParts(), d, row.end, sequenced(threeParts(), d, row.end))
	}
}

// Of what is at once, who is from outside is first, then by who sent it, then in the order in which that was; not by when it came to be known.
func TestSequenceOfTheSameTime(t *testing.T) {
	m := sizedModel(3, 2, 0, 0)
	m.Handlers[0] = []impl.Op{{Code: impl.OpSend, A: 2, B: 2, C: 1}, {Code: impl.OpSend, A: 0, B: 2, C: 1}}
	m.Handlers[1] = []impl.Op{{Code: impl.OpEmit}}
	for i, e := range []impl.Event{{Time: 5, Kind: 1, Val: 1}, {Time: 3, Dst: 1}, {Time: 3, Dst: 0}, {Time: 5, Dst: 2, Kind: 1, Val: 2}, {Time: 3, Dst: 2}, {Time: 5, Kind: 1, Val: 3}} {
		e.Src, e.Seq, e.Tag = -1, i, i
		m.Start = append(m.Start, e)
	}
	h, ok := impl.Sequence(m, undecided, 9)
	want := []impl.Event{
		{Time: 3, Src: -1, Seq: 1, Dst: 1}, {Time: 3, Src: -1, Seq: 2}, {Time: 3, Src: -1, Seq: 4, Dst: 2},
		{Time: 5, Src: -1, Seq: 0, Kind: 1, Val: 1}, {Time: 5, Src: -1, Seq: 3, Dst: 2, Kind: 1, Val: 2}, {Time: 5, Src: -1, Seq: 5, Kind: 1, Val: 3},
		{Time: 5, Src: 0, Seq: 0, Dst: 2, Kind: 1, Val: 5}, {Time: 5, Src: 0, Seq: 1, Kind: 1, Val: 5},
		{Time: 5, Src: 1, Seq: 0, Dst: 2, Kind: 1, Val: 5}, {Time: 5, Src: 1, Seq: 1, Kind: 1, Val: 5},
		{Time: 5, Src: 2, Seq: 0, Dst: 2, Kind: 1, Val: 5}, {Time: 5, Src: 2, Seq: 1, Kind: 1, Val: 5},
	}
	if !ok || !slices.Equal(h.Events, want) || len(h.Emits) != 9 || h.Asks != -1 || h.Full {
		t.Fatalf("%v %v", h, ok)
	}
}

// What is sent for just End is done, what is sent for one above it is not, but has had its Seq.
func TestSequenceSendsUpToEnd(t *testing.T) {
	for _, end := range []int{9, 10, 949, 950} {
		m := sizedModel(2, 2, 0, 0)
		m.End = end
		m.Handlers[0] = []impl.Op{{Code: impl.OpSend, A: 1, B: 5, C: 1}, {Code: impl.OpSend, A: 1, B: 6, C: 1}, {Code: impl.OpSend, A: 1, B: 4, C: 1}}
		m.Handlers[1] = []impl.Op{{Code: impl.OpEmit}}
		m.Start = []impl.Event{{Time: end - 5, Src: -1}}
		want := impl.History{
			Events: []impl.Event{m.Start[0], {Time: end - 1, Seq: 2, Dst: 1, Kind: 1, Val: 5}, {Time: end, Seq: 0, Dst: 1, Kind: 1, Val: 5}},
			Emits:  []impl.Emit{{Time: end - 1, Lp: 1, Val: 5}, {Time: end, Lp: 1, Val: 5}},
			Asks:   -1,
		}
		happens(t, m, undecided, end, want)
		want.Events, want.Emits = want.Events[:2], want.Emits[:1]
		happens(t, m, undecided, end-1, want)
		want.Events, want.Emits = want.Events[:1], nil
		happens(t, m, undecided, end-2, want)
		happens(t, m, undecided, end-5, want)
		happens(t, m, undecided, end-6, impl.History{Asks: -1})
	}
}

func TestSequenceOfNothing(t *testing.T) {
	m := sizedModel(1, 1, 8, 0)
	for end := range 10 {
		happens(t, m, undecided, end, impl.History{Asks: -1})
	}
	m.End = 0
	happens(t, m, undecided, 0, impl.History{Asks: -1})
	m.Start = []impl.Event{{Src: -1}}
	happens(t, m, undecided, 0, impl.History{Events: m.Start, Asks: -1})
}

// ticking has one event at each time, of which those from the n-th on ask for decision 2.
func ticking(end int, n int) impl.Model {
	m := sizedModel(1, 1, 0, 0)
	m.Init[0] = 0
	m.End = end
	m.Handlers[0] = []impl.Op{{Code: impl.OpAdd, B: 1}, {Code: impl.OpSkip, B: n, C: 1}, {Code: impl.OpAsk, A: 2, B: 1}, {Code: impl.OpSend, B: 1}}
	m.Start = []impl.Event{{Src: -1}}
	return m
}

func TestSequenceFull(t *testing.T) {
	for _, row := range []struct {
		model, end, events int
		full               bool
	}{
		{148, 148, 149, false}, {149, 149, 150, false}, {150, 150, 150, true}, {950, 950, 150, true},
		{950, 149, 150, false}, {950, 150, 150, true}, {950, 148, 149, false}, {150, 149, 150, false},
	} {
		h, ok := impl.Sequence(ticking(row.model, 999), undecided, row.end)
		if !ok || len(h.Events) != row.events || h.Full != row.full || h.Asks != -1 {
			t.Errorf("%v: %d %v %v %d", row, len(h.Events), h.Full, ok, h.Asks)
		}
		happens(t, ticking(row.model, 999), undecided, row.end, sequenced(ticking(row.model, 999), undecided, row.end))
	}
}

// Whoever is Full asks for nothing any more; whoever asks with the last that has room is not Full.
func TestSequenceAsksOrFull(t *testing.T) {
	for _, row := range []struct {
		n, end int
		want   impl.History
	}{
		{1, 0, impl.History{Asks: 2}},
		{1, 950, impl.History{Asks: 2}},
		{2, 0, impl.History{Asks: -1}},
		{2, 1, impl.History{Asks: 2}},
		{150, 148, impl.History{Asks: -1}},
		{150, 149, impl.History{Asks: 2}},
		{150, 950, impl.History{Asks: 2}},
		{151, 149, impl.History{Asks: -1}},
		{151, 150, impl.History{Asks: -1, Full: true}},
		{152, 950, impl.History{Asks: -1, Full: true}},
	} {
		for i := range min(row.n-1, row.end+1, 150) {
			e := impl.Event{Time: i, Seq: i - 1, Val: i}
			if i == 0 {
				e = impl.Event{Src: -1}
			}
			row.want.Events = append(row.want.Events, e)
		}
		happens(t, ticking(950, row.n), undecided, row.end, row.want)
		happens(t, ticking(950, row.n), []int{0, 1, -1, 0}, row.end, row.want)
	}
}

// Full counts events, not times: with all at once, and with more still to be done.
func TestSequenceFullAtOnce(t *testing.T) {
	m := sizedModel(1, 2, 0, 6)
	m.Handlers[0] = slices.Repeat([]impl.Op{{Code: impl.OpSend, B: 1, C: 1}}, 8)
	m.Handlers[1] = slices.Repeat([]impl.Op{{Code: impl.OpSend, B: 1, C: 1}}, 2)
	m.Handlers[1] = append(m.Handlers[1], slices.Repeat([]impl.Op{{Code: impl.OpEmit}}, 6)...)
	for i := range m.Start {
		m.Start[i].Time = 0
	}
	// 6 at 0, 48 at 1, 96 at 2: that is 150.
	for end, row := range map[int]struct {
		events int
		full   bool
	}{0: {6, false}, 1: {54, false}, 2: {150, false}, 3: {150, true}, 9: {150, true}} {
		h, ok := impl.Sequence(m, undecided, end)
		if !ok || len(h.Events) != row.events || h.Full != row.full || len(h.Emits) != 6*max(row.events-6, 0) {
			t.Errorf("%d: %d %d %v %v", end, len(h.Events), len(h.Emits), h.Full, ok)
		}
		happens(t, m, undecided, end, sequenced(m, undecided, end))
	}
	m.Handlers[0] = m.Handlers[0][:7]
	if h, _ := impl.Sequence(m, undecided, 2); len(h.Events) != 6+42+84 || h.Full {
		t.Error(len(h.Events), h.Full)
	}
}

// lively is a model in which much happens: it begins soon, and sends for soon.
func lively(r *rand.Rand) impl.Model {
	m := randomModel(r)
	m.End = r.IntN(40)
	for i := range m.Start {
		m.Start[i].Time = r.IntN(min(m.End+1, 5))
	}
	for _, handler := range m.Handlers {
		for i := range handler {
			if handler[i].Code == impl.OpSend {
				handler[i].B = 1 + r.IntN(6)
			}
			if handler[i].Code == impl.OpAdd && r.IntN(3) == 0 {
				s := opSpans(m.Lps, len(m.Handlers))[impl.OpSend]
				handler[i] = impl.Op{Code: impl.OpSend, A: s[0].any(r), B: 1 + r.IntN(4), C: s[2].any(r)}
			}
			if handler[i].Code == impl.OpAsk && r.IntN(2) == 0 {
				handler[i] = impl.Op{Code: impl.OpTake, A: handler[i].B}
			}
		}
	}
	return m
}

func livelyModels() []impl.Model {
	r := newRandom(64)
	var l []impl.Model
	for range 250 {
		l = append(l, lively(r))
	}
	return append(l, threeParts(), ticking(160, 151), ticking(160, 40), everyOp())
}

func TestSequenceOfAnyModel(t *testing.T) {
	r := newRandom(65)
	var quiet, full, atOnce, later, long int
	for _, m := range livelyModels() {
		for range 6 {
			d, end := randomVector(r), span{0, m.End}.any(r)
			want := sequenced(m, d, end)
			happens(t, m, d, end, want)
			switch {
			case want.Full:
				full++
			case want.Asks >= 0 && len(want.Events) == 0:
				atOnce++
			case want.Asks >= 0:
				later++
			case len(want.Events) > 40:
				long++
			default:
				quiet++
			}
		}
	}
	if min(quiet, full, atOnce, later, long) < 20 {
		t.Error("not much was tried:", quiet, full, atOnce, later, long)
	}
	for _, m := range fineModels() {
		d, end := randomVector(r), span{0, m.End}.any(r)
		happens(t, m, d, end, sequenced(m, d, end))
	}
}

// begins fails where a is no beginning of b.
func begins(t *testing.T, a impl.History, b impl.History) {
	t.Helper()
	n := len(a.Events)
	k := len(a.Emits)
	if n > len(b.Events) || k > len(b.Emits) || !slices.Equal(a.Events, b.Events[:n]) || !slices.Equal(a.Emits, b.Emits[:k]) {
		t.Fatalf("%v is no beginning of %v", a, b)
	}
}

// What happens up to a time is a beginning of what happens up to a later one: just what is not later than it.
func TestSequenceUpToATime(t *testing.T) {
	r := newRandom(66)
	for _, m := range livelyModels() {
		d := randomVector(r)
		all, _ := impl.Sequence(m, d, m.End)
		var before impl.History
		for end := range m.End + 1 {
			h, ok := impl.Sequence(m, d, end)
			if !ok || slices.ContainsFunc(h.Events, func(e impl.Event) bool { return e.Time > end }) {
				t.Fatalf("up to %d: %v %v", end, h, ok)
			}
			begins(t, before, h)
			begins(t, h, all)
			if n := len(h.Events); n < len(all.Events) && all.Events[n].Time <= end {
				t.Fatalf("up to %d: %v is left out", end, all.Events[n])
			}
			if end > 0 && (before.Asks >= 0 || before.Full) && !sameHistory(before, h) {
				t.Fatalf("%v goes on to be %v", before, h)
			}
			before = h
		}
		if !sameHistory(before, all) {
			t.Fatalf("%v, not %v", before, all)
		}
	}
}

// Who has decided more goes on as far at least, and all ahead of that is the same; one that asks goes on just where that is decided.
func TestSequenceByMoreDecided(t *testing.T) {
	r := newRandom(67)
	further := 0
	for _, m := range livelyModels()[:120] {
		end := span{0, m.End}.any(r)
		d := slices.Clone(undecided)
		h, _ := impl.Sequence(m, d, end)
		for h.Asks >= 0 {
			other := (h.Asks + 1) % 4
			if d[other] < 0 {
				more := with(d, other, r.IntN(2))
				if same, ok := impl.Sequence(m, more, end); !ok || !sameHistory(same, h) {
					t.Fatalf("nobody asked for %d yet, but %v is %v", other, h, same)
				}
			}
			d = with(d, h.Asks, r.IntN(2))
			next, ok := impl.Sequence(m, d, end)
			begins(t, h, next)
			if !ok || next.Asks == h.Asks {
				t.Fatalf("%v by %v: %v", h, d, next)
			}
			if len(next.Events) > len(h.Events) {
				further++
			}
			h = next
		}
	}
	if further < 30 {
		t.Error("only", further, "went on")
	}
}

func TestSequenceByAnyVectors(t *testing.T) {
	for _, m := range livelyModels()[:40] {
		histories := map[string]impl.History{}
		for _, d := range allVectors() {
			h, ok := impl.Sequence(m, d, m.End)
			if !ok || h.Asks >= 0 && d[h.Asks] >= 0 {
				t.Fatalf("%v: %v %v", d, h, ok)
			}
			histories[lettersOf(d)] = h
		}
		for _, d := range allVectors() {
			for _, whole := range wholesIn(d) {
				begins(t, histories[lettersOf(d)], histories[lettersOf(whole)])
			}
			for at, x := range d {
				if x >= 0 {
					begins(t, histories[lettersOf(with(d, at, -1))], histories[lettersOf(d)])
				}
			}
		}
	}
}

// Whoever has decided all is asked for nothing, and goes on until nothing is left, or there are MaxEvents.
func TestSequenceByWholeVectors(t *testing.T) {
	for _, m := range livelyModels() {
		for _, d := range wholeVectors() {
			h, ok := impl.Sequence(m, d, m.End)
			if !ok || h.Asks != -1 || h.Full && len(h.Events) != 150 || len(h.Emits) > 1200 {
				t.Fatalf("%v: %v %v", d, h, ok)
			}
			if !slices.IsSortedFunc(h.Events, compareByAhead) {
				t.Fatalf("%v is not in order", h.Events)
			}
			if len(m.Start) > 0 && len(h.Events) < len(m.Start) {
				t.Fatalf("not even what begins was done: %v", h)
			}
		}
	}
}

// notSequenced fails where anything but the zero value and false comes of it.
func notSequenced(t *testing.T, name string, m impl.Model, d []int, end int) {
	t.Helper()
	gm, checkModel := guardedModel(m)
	gd, checkVector := guardedVector(d)
	if h, ok := impl.Sequence(gm, gd, end); ok || !sameHistory(h, impl.History{}) {
		t.Errorf("%s: %v %v", name, h, ok)
	}
	checkModel(t)
	checkVector(t)
}

func TestSequenceOfWrongInputs(t *testing.T) {
	d := []int{0, 1, 0, 1}
	for _, m := range []impl.Model{everyOp(), sizedModel(1, 1, 0, 0), sizedModel(4, 4, 8, 6)} {
		for _, f := range modelFields(m) {
			for _, x := range f.beyond() {
				notSequenced(t, f.name+" "+strconv.Itoa(x), f.with(m, x), d, 0)
			}
		}
		for _, wrong := range wrongVectors() {
			notSequenced(t, "a vector", m, wrong, 0)
		}
	}
	for name, m := range wrongSizes() {
		notSequenced(t, name, m, d, 0)
	}
	for _, modelEnd := range []int{0, 1, 9, 950} {
		m := threeParts()
		m.Start = nil
		m.End = modelEnd
		for _, end := range []int{0, modelEnd} {
			happens(t, m, d, end, impl.History{Asks: -1})
		}
		for _, end := range (span{0, modelEnd}).beyond() {
			notSequenced(t, "end "+strconv.Itoa(end), m, d, end)
		}
	}
	m := threeParts()
	for _, end := range (span{0, 8}).beyond() {
		notSequenced(t, "end "+strconv.Itoa(end), m, d, end)
	}
}

func TestSequenceAnswersAreNew(t *testing.T) {
	for _, m := range livelyModels()[:60] {
		one, _ := impl.Sequence(m, []int{0, 1, 0, 1}, m.End)
		other, _ := impl.Sequence(m, []int{0, 1, 0, 1}, m.End)
		want := sequenced(m, []int{0, 1, 0, 1}, m.End)
		apart(t, one.Events, other.Events, scribble)
		apart(t, one.Emits, other.Emits, overEmit)
		if !sameHistory(other, want) {
			t.Fatal("two answers share memory")
		}
	}
}

// historyLines tell the text of a history anew, by the words of the document.
func historyLines(h impl.History) string {
	number := strconv.Itoa
	text := ""
	for _, e := range h.Events {
		from := "outside"
		if e.Src >= 0 {
			from = "from " + number(e.Src)
		}
		text += "at " + number(e.Time) + " " + from + "#" + number(e.Seq) + " to " + number(e.Dst) + " kind " + number(e.Kind) + " val " + number(e.Val) + "\n"
	}
	for _, x := range h.Emits {
		text += "emit " + number(x.Time) + " " + number(x.Lp) + " " + number(x.Val) + "\n"
	}
	if h.Asks != -1 {
		text += "asks " + number(h.Asks) + "\n"
	}
	if h.Full {
		text += "full\n"
	}
	return text
}

// told fails where the text is anything but want, or comes of writing into the history.
func told(t *testing.T, h impl.History, want string) {
	t.Helper()
	events, checkEvents := guarded(h.Events)
	emits, checkEmits := guardedWith(h.Emits, behindEmit, overEmit)
	h.Events, h.Emits = events, emits
	text := impl.HistoryText(h)
	if string(text) != want {
		t.Fatalf("%q, not %q", text, want)
	}
	checkEvents(t)
	checkEmits(t)
	apart(t, impl.HistoryText(h), impl.HistoryText(h), '!')
}

func TestHistoryText(t *testing.T) {
	events := []impl.Event{{Time: 1, Src: -1, Seq: 2, Dst: 3, Kind: 1, Val: 4, Tag: 5}, {Time: 1000, Src: 3, Seq: 100000, Val: 999}}
	emits := []impl.Emit{{Time: 7, Lp: 8, Val: 9}, {}, {Time: math.MaxInt, Lp: math.MaxInt, Val: math.MaxInt}}
	const first = "at 1 outside#2 to 3 kind 1 val 4\nat 1000 from 3#100000 to 0 kind 0 val 999\n"
	const second = "emit 7 8 9\nemit 0 0 0\nemit 9223372036854775807 9223372036854775807 9223372036854775807\n"
	told(t, impl.History{Asks: -1}, "")
	told(t, impl.History{}, "asks 0\n")
	told(t, impl.History{Asks: 3}, "asks 3\n")
	told(t, impl.History{Asks: -1, Full: true}, "full\n")
	told(t, impl.History{Asks: 1, Full: true}, "asks 1\nfull\n")
	told(t, impl.History{Events: events, Asks: -1}, first)
	told(t, impl.History{Emits: emits, Asks: -1}, second)
	told(t, impl.History{Events: events, Emits: emits, Asks: 2, Full: true}, first+second+"asks 2\nfull\n")
	// Nothing hangs on the order of events, nor on whether one is there twice.
	told(t, impl.History{Events: []impl.Event{events[1], events[1]}, Emits: emits[1:2], Asks: -1}, strings.Repeat(first[strings.Index(first, "at 1000"):], 2)+"emit 0 0 0\n")
}

func TestHistoryTextOfWhatHappens(t *testing.T) {
	r := newRandom(68)
	for _, m := range livelyModels() {
		h, _ := impl.Sequence(m, randomVector(r), m.End)
		told(t, h, historyLines(h))
	}
}

func sizedHistory(events int, emits int) impl.History {
	return impl.History{Events: make([]impl.Event, events), Emits: make([]impl.Emit, emits), Asks: -1}
}

func TestHistoryTextLimits(t *testing.T) {
	for _, size := range [][2]int{{150, 0}, {0, 1200}, {150, 1200}, {149, 1199}, {1, 1200}, {1, 9}} {
		h := sizedHistory(size[0], size[1])
		told(t, h, historyLines(h))
	}
	for _, size := range [][2]int{{151, 0}, {0, 1201}, {151, 1200}, {150, 1201}, {151, 1201}, {150 + 256, 0}, {150 + 65536, 0}, {0, 1200 + 65536}, {1000000, 0}, {0, 1000000}} {
		told(t, sizedHistory(size[0], size[1]), "")
	}
	for _, asks := range (span{-1, 3}).beyond() {
		told(t, impl.History{Asks: asks}, "")
		told(t, impl.History{Events: make([]impl.Event, 1), Asks: asks, Full: true}, "")
	}
	for asks := range 4 {
		told(t, impl.History{Asks: asks}, "asks "+strconv.Itoa(asks)+"\n")
	}
}

func TestHistoryTextOfWrongEvents(t *testing.T) {
	for _, n := range []int{1, 2, 150} {
		for _, at := range []int{0, n / 2, n - 1} {
			for _, f := range fields() {
				for _, x := range (span{f.low, f.high}).beyond() {
					h := sizedHistory(n, 1)
					h.Events[at] = f.with(sample, x)
					told(t, h, "")
				}
				for _, x := range []int{f.low, f.high} {
					h := sizedHistory(n, 1)
					h.Events[at] = f.with(sample, x)
					told(t, h, historyLines(h))
				}
			}
		}
	}
}

func TestHistoryTextOfWrongEmits(t *testing.T) {
	for _, n := range []int{1, 2, 1200} {
		for _, at := range []int{0, n / 2, n - 1} {
			for field := range 3 {
				for _, x := range []int{-1, -2, -256, -65536, -1 << 32, math.MinInt + 1, math.MinInt, 0, 1000, 1 << 32, math.MaxInt} {
					h := sizedHistory(1, n)
					emit := &h.Emits[at]
					*[]*int{&emit.Time, &emit.Lp, &emit.Val}[field] = x
					want := ""
					if x >= 0 {
						want = historyLines(h)
					}
					told(t, h, want)
				}
			}
		}
	}
}
