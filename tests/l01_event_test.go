package tests

import (
	"math"
	"slices"
	"testing"

	"loop.example/g00603/impl"
)

// sample is an event of which no number is at a bound.
var sample = impl.Event{Time: 500, Src: 1, Seq: 500, Dst: 2, Kind: 2, Val: 500, Tag: 500}

type field struct {
	name string
	low  int
	high int
	set  func(e *impl.Event, x int)
}

func fields() []field {
	return []field{
		{"Time", 0, 1000, func(e *impl.Event, x int) { e.Time = x }},
		{"Src", -1, 3, func(e *impl.Event, x int) { e.Src = x }},
		{"Seq", 0, 100000, func(e *impl.Event, x int) { e.Seq = x }},
		{"Dst", 0, 3, func(e *impl.Event, x int) { e.Dst = x }},
		{"Kind", 0, 3, func(e *impl.Event, x int) { e.Kind = x }},
		{"Val", 0, 999, func(e *impl.Event, x int) { e.Val = x }},
		{"Tag", 0, 100000, func(e *impl.Event, x int) { e.Tag = x }},
	}
}

func (f field) with(e impl.Event, x int) impl.Event {
	f.set(&e, x)
	return e
}

func wrongEvents() []impl.Event {
	var l []impl.Event
	for _, f := range fields() {
		for _, x := range []int{f.low - 1, f.high + 1, math.MinInt, math.MaxInt} {
			l = append(l, f.with(sample, x))
		}
	}
	return l
}

func wrongQueues() map[string][]impl.Event {
	a := impl.Event{Time: 1, Src: -1, Seq: 0, Tag: 10}
	b := impl.Event{Time: 2, Src: 0, Seq: 0, Tag: 11}
	c := impl.Event{Time: 3, Src: 1, Seq: 0, Tag: 12}
	alike := c
	alike.Tag = a.Tag
	late := c
	late.Time = impl.MaxTime + 1
	return map[string][]impl.Event{
		"not in order":              {b, a, c},
		"not in order at the end":   {a, c, b},
		"one twice":                 {a, b, b},
		"a Tag twice, far apart":    {a, b, alike},
		"one event, not EventOk":    {late},
		"the last one not EventOk":  {a, b, late},
		"the first one not EventOk": {{Time: -1, Tag: 9}, b, c},
		"one too many":              longQueue(impl.MaxQueue + 1),
	}
}

func TestConstants(t *testing.T) {
	got := []int{impl.MaxTime, impl.MaxLps, impl.MaxKinds, impl.MaxSeq, impl.MaxQueue}
	if !slices.Equal(got, []int{1000, 4, 4, 100000, 2000}) {
		t.Fatal(got)
	}
}

func TestEventOkBounds(t *testing.T) {
	if !impl.EventOk(sample) || !impl.EventOk(impl.Event{}) {
		t.Fatal("an ordinary event is refused")
	}
	for _, f := range fields() {
		for _, x := range []int{f.low, f.low + 1, f.high - 1, f.high} {
			if !impl.EventOk(f.with(sample, x)) {
				t.Errorf("%s %d is refused", f.name, x)
			}
		}
	}
	for _, e := range wrongEvents() {
		if impl.EventOk(e) {
			t.Errorf("%+v is accepted", e)
		}
	}
}

func TestEventCmpByItsFields(t *testing.T) {
	base := impl.Event{Time: 5, Src: 1, Seq: 7, Dst: 1, Kind: 1, Val: 1, Tag: 9}
	for name, later := range map[string]impl.Event{
		"Time ahead of the rest": {Time: 6, Src: -1, Seq: 0, Tag: 0},
		"Src ahead of Seq, Tag":  {Time: 5, Src: 2, Seq: 0, Tag: 0},
		"Seq ahead of Tag":       {Time: 5, Src: 1, Seq: 8, Tag: 0},
		"Tag":                    {Time: 5, Src: 1, Seq: 7, Tag: 10},
	} {
		if impl.EventCmp(base, later) != -1 || impl.EventCmp(later, base) != 1 {
			t.Errorf("%s: %d, %d", name, impl.EventCmp(base, later), impl.EventCmp(later, base))
		}
	}
	other := impl.Event{Time: 5, Src: 1, Seq: 7, Dst: 3, Kind: 0, Val: 999, Tag: 9}
	if impl.EventCmp(base, other) != 0 || impl.EventCmp(base, base) != 0 {
		t.Error("Dst, Kind or Val count in the order")
	}
	outside, first := base, base
	outside.Src, first.Src = -1, 0
	if impl.EventCmp(outside, first) != -1 {
		t.Error("from outside is not ahead of from part 0")
	}
}

func TestEventCmpIsAnOrder(t *testing.T) {
	r := newRandom(1)
	for range 5000 {
		a, b := randomEvent(r, 3), randomEvent(r, 3)
		want := 0
		if ahead(a, b) {
			want = -1
		} else if ahead(b, a) {
			want = 1
		}
		if impl.EventCmp(a, b) != want || impl.EventCmp(b, a) != -want {
			t.Fatalf("%+v %+v: %d, %d", a, b, impl.EventCmp(a, b), impl.EventCmp(b, a))
		}
	}
}

func TestEventCmpOfWrongEvents(t *testing.T) {
	for _, e := range wrongEvents() {
		if impl.EventCmp(e, impl.Event{}) != 0 || impl.EventCmp(impl.Event{}, e) != 0 || impl.EventCmp(e, e) != 0 {
			t.Errorf("%+v is held against another", e)
		}
	}
}

func TestQueueOk(t *testing.T) {
	tagOrder := []impl.Event{{Time: 1, Tag: 3}, {Time: 1, Tag: 4}, {Time: 1, Seq: 1, Tag: 2}}
	for name, l := range map[string][]impl.Event{
		"nil":                     nil,
		"empty":                   {},
		"one":                     {sample},
		"alike but for the Tag":   tagOrder,
		"as many as there may be": longQueue(impl.MaxQueue),
	} {
		g, check := guarded(l)
		if !impl.QueueOk(g) {
			t.Errorf("%s: refused", name)
		}
		check(t)
	}
	for name, l := range wrongQueues() {
		g, check := guarded(l)
		if impl.QueueOk(g) {
			t.Errorf("%s: accepted", name)
		}
		check(t)
	}
	for _, e := range wrongEvents() {
		if impl.QueueOk([]impl.Event{e}) {
			t.Errorf("%+v: accepted", e)
		}
	}
}

func TestInsertPutsInPlace(t *testing.T) {
	queue := []impl.Event{{Time: 2, Tag: 1}, {Time: 4, Tag: 2}, {Time: 6, Tag: 3}}
	for at, time := range []int{1, 3, 5, 7} {
		e := impl.Event{Time: time, Dst: 3, Kind: 1, Val: 8, Tag: 9}
		g, check := guarded(queue)
		got, ok := impl.Insert(g, e)
		if !ok || !slices.Equal(got, slices.Insert(slices.Clone(queue), at, e)) {
			t.Errorf("at %d: %v %v", at, got, ok)
		}
		check(t, got)
	}
	for _, none := range [][]impl.Event{nil, {}} {
		if got, ok := impl.Insert(none, sample); !ok || !slices.Equal(got, []impl.Event{sample}) {
			t.Error("into an empty one:", got, ok)
		}
	}
}

func TestInsertAtTheBounds(t *testing.T) {
	all := longQueue(impl.MaxQueue)
	for _, at := range []int{0, 1, impl.MaxQueue / 2, impl.MaxQueue - 1} {
		g, check := guarded(slices.Delete(slices.Clone(all), at, at+1))
		got, ok := impl.Insert(g, all[at])
		if !ok || !slices.Equal(got, all) || !impl.QueueOk(got) {
			t.Errorf("the last that has room, at %d: %v", at, ok)
		}
		check(t, got)
	}
	g, check := guarded(all)
	got, ok := impl.Insert(g, impl.Event{Tag: impl.MaxSeq})
	if ok || !slices.Equal(got, all) {
		t.Error("one more than there may be:", len(got), ok)
	}
	check(t, got)
}

func TestInsertOfATagThatIsThere(t *testing.T) {
	queue := []impl.Event{{Time: 2, Tag: 1}, {Time: 4, Tag: 2}, {Time: 6, Tag: 3}}
	for _, there := range queue {
		for _, e := range []impl.Event{there, {Time: 9, Src: 3, Seq: 9, Dst: 1, Kind: 2, Val: 3, Tag: there.Tag}} {
			g, check := guarded(queue)
			got, ok := impl.Insert(g, e)
			if ok || !slices.Equal(got, queue) {
				t.Errorf("%+v: %v %v", e, got, ok)
			}
			check(t, got)
		}
	}
}

func TestInsertOfWrongOnes(t *testing.T) {
	for name, l := range wrongQueues() {
		g, check := guarded(l)
		if got, ok := impl.Insert(g, sample); ok || len(got) != 0 {
			t.Errorf("%s: %v %v", name, got, ok)
		}
		check(t)
	}
	for _, l := range [][]impl.Event{nil, {sample}, longQueue(impl.MaxQueue)} {
		for _, e := range wrongEvents() {
			g, check := guarded(l)
			if got, ok := impl.Insert(g, e); ok || len(got) != 0 {
				t.Errorf("%+v: %v %v", e, got, ok)
			}
			check(t)
		}
	}
}

func TestRemoveTakesJustTheOne(t *testing.T) {
	queue := []impl.Event{{Time: 2, Tag: 3}, {Time: 4, Tag: 0}, {Time: 6, Tag: impl.MaxSeq}}
	for at, e := range queue {
		g, check := guarded(queue)
		got, ok := impl.Remove(g, e.Tag)
		if !ok || !slices.Equal(got, slices.Delete(slices.Clone(queue), at, at+1)) {
			t.Errorf("at %d: %v %v", at, got, ok)
		}
		check(t, got)
	}
	if got, ok := impl.Remove([]impl.Event{sample}, sample.Tag); !ok || len(got) != 0 {
		t.Error("the only one:", got, ok)
	}
	all := longQueue(impl.MaxQueue)
	if got, ok := impl.Remove(all, all[777].Tag); !ok || !slices.Equal(got, slices.Delete(slices.Clone(all), 777, 778)) {
		t.Error("of a full one:", len(got), ok)
	}
}

func TestRemoveOfATagThatIsNotThere(t *testing.T) {
	queue := []impl.Event{{Time: 2, Tag: 3}, {Time: 4, Tag: 5}}
	for _, tag := range []int{0, 2, 4, 6, -1, impl.MaxSeq, impl.MaxSeq + 1, math.MinInt, math.MaxInt, poison.Tag} {
		g, check := guarded(queue)
		got, ok := impl.Remove(g, tag)
		if ok || !slices.Equal(got, queue) {
			t.Errorf("%d: %v %v", tag, got, ok)
		}
		check(t, got)
	}
	for _, none := range [][]impl.Event{nil, {}} {
		if got, ok := impl.Remove(none, 0); ok || len(got) != 0 {
			t.Error("of an empty one:", got, ok)
		}
	}
}

func TestRemoveOfWrongOnes(t *testing.T) {
	for name, l := range wrongQueues() {
		for _, tag := range []int{l[0].Tag, l[len(l)-1].Tag, 7777} {
			g, check := guarded(l)
			if got, ok := impl.Remove(g, tag); ok || len(got) != 0 {
				t.Errorf("%s, %d: %v %v", name, tag, got, ok)
			}
			check(t)
		}
	}
}

func TestFirst(t *testing.T) {
	for _, n := range []int{1, 2, impl.MaxQueue} {
		l := longQueue(n)
		g, check := guarded(l)
		if e, ok := impl.First(g); !ok || e != l[0] {
			t.Errorf("of %d: %+v %v", n, e, ok)
		}
		check(t)
	}
	wrong := wrongQueues()
	wrong["nil"], wrong["empty"] = nil, []impl.Event{}
	for name, l := range wrong {
		g, check := guarded(l)
		if e, ok := impl.First(g); ok || e != (impl.Event{}) {
			t.Errorf("%s: %+v %v", name, e, ok)
		}
		check(t)
	}
}

// What is inserted and removed, in any order, leaves what a plain sorted list would hold.
func TestQueuesAsSortedLists(t *testing.T) {
	r := newRandom(2)
	for range 200 {
		var queue, plain []impl.Event
		for range 40 {
			e := randomEvent(r, 12)
			there := hasTag(plain, e.Tag)
			g, check := guarded(queue)
			var got []impl.Event
			var ok, want bool
			if r.IntN(3) == 0 {
				got, ok = impl.Remove(g, e.Tag)
				want = there
				plain = slices.DeleteFunc(plain, func(x impl.Event) bool { return x.Tag == e.Tag })
			} else {
				got, ok = impl.Insert(g, e)
				want = !there
				if want {
					plain = append(plain, e)
					slices.SortFunc(plain, compareByAhead)
				}
			}
			if ok != want || !slices.Equal(got, plain) || !impl.QueueOk(got) {
				t.Fatalf("%+v: %v %v, not %v %v", e, got, ok, plain, want)
			}
			queue = slices.Clone(got)
			check(t, got)
			firstIsAheadOfAll(t, queue)
		}
	}
}

func compareByAhead(a impl.Event, b impl.Event) int {
	if ahead(a, b) {
		return -1
	}
	if ahead(b, a) {
		return 1
	}
	return 0
}

func firstIsAheadOfAll(t *testing.T, l []impl.Event) {
	t.Helper()
	first, ok := impl.First(l)
	if ok != (len(l) > 0) {
		t.Fatal(first, ok, l)
	}
	for i := 1; i < len(l); i++ {
		if !ahead(first, l[i]) {
			t.Fatal(first, l)
		}
	}
}

// QueueOk holds against its words, on lists that are nearly queues.
func TestQueueOkByItsWords(t *testing.T) {
	r := newRandom(3)
	accepted := 0
	for range 5000 {
		l := make([]impl.Event, r.IntN(5))
		for i := range l {
			l[i] = randomEvent(r, 6)
		}
		if r.IntN(4) > 0 {
			slices.SortFunc(l, compareByAhead)
		}
		want := true
		for i, e := range l {
			want = want && (i == 0 || ahead(l[i-1], e)) && !hasTag(l[:i], e.Tag)
		}
		if impl.QueueOk(l) != want {
			t.Fatal(l, want)
		}
		if want {
			accepted++
		}
	}
	if accepted < 500 || accepted > 4500 {
		t.Fatal("the lists are too much alike:", accepted)
	}
}

func TestEventText(t *testing.T) {
	for want, e := range map[string]impl.Event{
		"at 0 outside#0 to 0 kind 0 val 0":          {Src: -1},
		"at 0 from 0#0 to 0 kind 0 val 0":           {},
		"at 12 from 2#34 to 1 kind 3 val 56":        {Time: 12, Src: 2, Seq: 34, Dst: 1, Kind: 3, Val: 56, Tag: 78},
		"at 1000 from 3#100000 to 3 kind 3 val 999": {Time: 1000, Src: 3, Seq: 100000, Dst: 3, Kind: 3, Val: 999, Tag: 100000},
		"at 1000 outside#100000 to 2 kind 1 val 10": {Time: 1000, Src: -1, Seq: 100000, Dst: 2, Kind: 1, Val: 10},
	} {
		if got := string(impl.EventText(e)); got != want {
			t.Errorf("%q, not %q", got, want)
		}
	}
	for _, e := range wrongEvents() {
		if got := impl.EventText(e); len(got) != 0 {
			t.Errorf("%+v: %q", e, got)
		}
	}
}

func TestEventTextIsNew(t *testing.T) {
	first := impl.EventText(sample)
	want := string(first)
	for i := range first {
		first[i] = '!'
	}
	if got := string(impl.EventText(sample)); got != want {
		t.Fatalf("%q, not %q", got, want)
	}
}
