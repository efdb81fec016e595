package tests

import (
	"math"
	"math/rand/v2"
	"slices"
	"testing"

	"loop.example/g00603/impl"
)

// atTimes is a list of events at these times, each with a Tag that no other time has.
func atTimes(times ...int) []impl.Event {
	var l []impl.Event
	for _, time := range times {
		l = append(l, atTime(time))
	}
	return l
}

func atTime(time int) impl.Event {
	return impl.Event{Time: time, Src: -1, Dst: time % 4, Kind: time % 3, Val: time % 10, Tag: 1000 - time}
}

// lifted, sunk and without tell anew, by the words of the document, where the events of a heap come.
func lifted(h []impl.Event, i int) {
	for i > 0 && ahead(h[i], h[(i-1)/2]) {
		h[i], h[(i-1)/2] = h[(i-1)/2], h[i]
		i = (i - 1) / 2
	}
}

func sunk(h []impl.Event, i int) {
	for {
		first := i
		for _, child := range []int{2*i + 1, 2*i + 2} {
			if child < len(h) && ahead(h[child], h[first]) {
				first = child
			}
		}
		if first == i {
			return
		}
		h[i], h[first] = h[first], h[i]
		i = first
	}
}

func without(h []impl.Event, i int) []impl.Event {
	end := len(h) - 1
	left := slices.Clone(h[:end])
	if i < end {
		left[i] = h[end]
		sunk(left, i)
		lifted(left, i)
	}
	return left
}

func pushed(h []impl.Event, l ...impl.Event) []impl.Event {
	h = slices.Clone(h)
	for _, e := range l {
		h = append(h, e)
		lifted(h, len(h)-1)
	}
	return h
}

func isHeap(h []impl.Event) bool {
	for i := 1; i < len(h); i++ {
		if !ahead(h[(i-1)/2], h[i]) {
			return false
		}
	}
	return true
}

func tagsUnlike(l []impl.Event) bool {
	for i, e := range l {
		if hasTag(l[:i], e.Tag) {
			return false
		}
	}
	return true
}

// randomHeap has n events at most, of Tags below that many.
func randomHeap(r *rand.Rand, n int, tags int) []impl.Event {
	var h []impl.Event
	for range r.IntN(n + 1) {
		if e := randomEvent(r, tags); !hasTag(h, e.Tag) {
			h = pushed(h, e)
		}
	}
	return h
}

func backwards(l []impl.Event) []impl.Event {
	l = slices.Clone(l)
	slices.Reverse(l)
	return l
}

func sorted(l []impl.Event) []impl.Event {
	return slices.SortedFunc(slices.Values(l), compareByAhead)
}

// longHeap is a heap of n events that does not stand in order.
func longHeap(n int) []impl.Event {
	return pushed(nil, backwards(longQueue(n))...)
}

func wrongHeaps() map[string][]impl.Event {
	ten := atTimes(1, 2, 3, 4, 5, 6, 7, 8, 9, 10)
	with := func(i int, e impl.Event) []impl.Event {
		h := slices.Clone(ten)
		h[i] = e
		return h
	}
	tagOfFirst, late, negative := ten[9], ten[9], ten[0]
	tagOfFirst.Tag = ten[0].Tag
	late.Time = impl.MaxTime + 1
	negative.Time = -1
	return map[string][]impl.Event{
		"a left one ahead of its parent":          atTimes(2, 1, 3),
		"a right one ahead of its parent":         atTimes(2, 3, 1),
		"a deep left one ahead of its parent":     with(7, impl.Event{Time: 3, Tag: 7}),
		"a deep right one ahead of its parent":    with(8, impl.Event{Time: 3, Tag: 7}),
		"the last one ahead of its parent":        with(9, impl.Event{Time: 4, Tag: 7}),
		"the right one, its sibling being behind": atTimes(1, 9, 4, 10, 11, 3),
		"ahead by the Tag alone":                  {{Time: 5, Tag: 4}, {Time: 5, Tag: 3}},
		"one twice":                               {ten[0], ten[0]},
		"a Tag twice, far apart":                  with(9, tagOfFirst),
		"one event, not EventOk":                  {late},
		"the last one not EventOk":                with(9, late),
		"the first one not EventOk":               with(0, negative),
		"one too many":                            longQueue(impl.MaxQueue + 1),
		"one too many, not in order":              longHeap(impl.MaxQueue + 1),
	}
}

func TestHeapOk(t *testing.T) {
	for name, h := range map[string][]impl.Event{
		"nil":                         nil,
		"empty":                       {},
		"one":                         {sample},
		"in order":                    atTimes(1, 2, 3, 4, 5),
		"not in order":                atTimes(1, 4, 2, 6, 5, 3),
		"alike but for the Tag":       {{Time: 5, Tag: 3}, {Time: 5, Tag: 9}, {Time: 5, Tag: 4}},
		"as many as there may be":     longQueue(impl.MaxQueue),
		"so many that are not sorted": longHeap(impl.MaxQueue),
	} {
		g, check := guarded(h)
		if !impl.HeapOk(g) {
			t.Errorf("%s: refused", name)
		}
		check(t)
	}
	for name, h := range wrongHeaps() {
		g, check := guarded(h)
		if impl.HeapOk(g) {
			t.Errorf("%s: accepted", name)
		}
		check(t)
	}
	for _, e := range wrongEvents() {
		if impl.HeapOk([]impl.Event{e}) {
			t.Errorf("%+v: accepted", e)
		}
	}
}

// HeapOk holds against its words, on lists that are nearly heaps.
func TestHeapOkByItsWords(t *testing.T) {
	r := newRandom(4)
	accepted := 0
	for range 5000 {
		h := randomHeap(r, 7, 30)
		if len(h) > 0 && r.IntN(2) == 0 {
			h[r.IntN(len(h))] = randomEvent(r, 30)
		}
		want := isHeap(h) && tagsUnlike(h)
		if impl.HeapOk(h) != want {
			t.Fatal(h, want)
		}
		if want {
			accepted++
		}
	}
	if accepted < 500 || accepted > 4500 {
		t.Fatal("the lists are too much alike:", accepted)
	}
}

func TestHeapPushPlaces(t *testing.T) {
	heap := atTimes(10, 40, 20, 50, 60, 30)
	for time, want := range map[int][]impl.Event{
		70: atTimes(10, 40, 20, 50, 60, 30, 70),
		25: atTimes(10, 40, 20, 50, 60, 30, 25),
		15: atTimes(10, 40, 15, 50, 60, 30, 20),
		5:  atTimes(5, 40, 10, 50, 60, 30, 20),
	} {
		g, check := guarded(heap)
		got, ok := impl.HeapPush(g, atTime(time))
		if !ok || !slices.Equal(got, want) {
			t.Errorf("%d: %v %v, not %v", time, got, ok, want)
		}
		check(t, got)
	}
	for _, none := range [][]impl.Event{nil, {}} {
		if got, ok := impl.HeapPush(none, sample); !ok || !slices.Equal(got, []impl.Event{sample}) {
			t.Error("into an empty one:", got, ok)
		}
	}
}

func TestHeapPushAtTheBounds(t *testing.T) {
	for name, h := range map[string][]impl.Event{
		"in order":     longQueue(impl.MaxQueue - 1),
		"not in order": longHeap(impl.MaxQueue - 1),
	} {
		for _, e := range []impl.Event{{Src: -1, Seq: 1, Tag: 1}, {Time: 400, Tag: 1}, {Time: impl.MaxTime, Src: 3, Tag: impl.MaxSeq}} {
			g, check := guarded(h)
			got, ok := impl.HeapPush(g, e)
			if !ok || !slices.Equal(got, pushed(h, e)) {
				t.Errorf("%s, the last that has room: %d %v", name, len(got), ok)
			}
			check(t, got)
		}
	}
	full := longHeap(impl.MaxQueue)
	g, check := guarded(full)
	got, ok := impl.HeapPush(g, impl.Event{Tag: impl.MaxSeq})
	if ok || !slices.Equal(got, full) {
		t.Error("one more than there may be:", len(got), ok)
	}
	check(t, got)
}

func TestHeapPushOfATagThatIsThere(t *testing.T) {
	heap := atTimes(10, 40, 20, 50)
	for _, there := range heap {
		for _, e := range []impl.Event{there, {Time: 1, Tag: there.Tag}, {Time: 99, Src: 3, Dst: 1, Tag: there.Tag}} {
			g, check := guarded(heap)
			got, ok := impl.HeapPush(g, e)
			if ok || !slices.Equal(got, heap) {
				t.Errorf("%+v: %v %v", e, got, ok)
			}
			check(t, got)
		}
	}
}

func TestHeapPushOfWrongOnes(t *testing.T) {
	for name, h := range wrongHeaps() {
		g, check := guarded(h)
		if got, ok := impl.HeapPush(g, sample); ok || len(got) != 0 {
			t.Errorf("%s: %v %v", name, got, ok)
		}
		check(t)
	}
	for _, h := range [][]impl.Event{nil, {sample}, longHeap(impl.MaxQueue)} {
		for _, e := range wrongEvents() {
			g, check := guarded(h)
			if got, ok := impl.HeapPush(g, e); ok || len(got) != 0 {
				t.Errorf("%+v: %v %v", e, got, ok)
			}
			check(t)
		}
	}
}

func TestHeapPopPlaces(t *testing.T) {
	for name, c := range map[string]struct{ heap, want []impl.Event }{
		"the only one":          {atTimes(10), nil},
		"of two":                {atTimes(10, 20), atTimes(20)},
		"of three, left first":  {atTimes(10, 20, 30), atTimes(20, 30)},
		"of three, right first": {atTimes(10, 30, 20), atTimes(20, 30)},
		"sunk to the right":     {atTimes(10, 30, 20, 40, 50, 60), atTimes(20, 30, 60, 40, 50)},
		"sunk to the left":      {atTimes(10, 20, 30, 40, 50, 60, 70), atTimes(20, 40, 30, 70, 50, 60)},
		"sunk by one alone":     {atTimes(10, 20, 11, 50, 60, 30), atTimes(11, 20, 30, 50, 60)},
		"sunk, left then right": {atTimes(10, 20, 30, 50, 40, 60, 70), atTimes(20, 40, 30, 50, 70, 60)},
	} {
		g, check := guarded(c.heap)
		got, e, ok := impl.HeapPop(g)
		if !ok || e != c.heap[0] || !slices.Equal(got, c.want) {
			t.Errorf("%s: %v %v %v, not %v", name, got, e, ok, c.want)
		}
		check(t, got)
	}
	full := longHeap(impl.MaxQueue)
	if got, e, ok := impl.HeapPop(full); !ok || e != full[0] || !slices.Equal(got, without(full, 0)) {
		t.Error("of a full one:", len(got), e, ok)
	}
}

func TestHeapPopOfWrongOnes(t *testing.T) {
	wrong := wrongHeaps()
	wrong["nil"], wrong["empty"] = nil, []impl.Event{}
	for name, h := range wrong {
		g, check := guarded(h)
		if got, e, ok := impl.HeapPop(g); ok || e != (impl.Event{}) || len(got) != 0 {
			t.Errorf("%s: %v %v %v", name, got, e, ok)
		}
		check(t)
	}
}

func TestHeapDropPlaces(t *testing.T) {
	seven := atTimes(10, 20, 30, 40, 50, 60, 70)
	steep := atTimes(10, 100, 20, 110, 120, 30, 40)
	high := atTimes(10, 100, 20, 110, 120, 30, 25, 130, 140, 150, 160, 50, 60, 35)
	for name, c := range map[string]struct {
		heap []impl.Event
		drop int
		want []impl.Event
	}{
		"the first one":          {seven, 10, atTimes(20, 40, 30, 70, 50, 60)},
		"sunk from the middle":   {seven, 20, atTimes(10, 40, 30, 70, 50, 60)},
		"sunk by one alone":      {seven, 30, atTimes(10, 20, 60, 40, 50, 70)},
		"stays where it came to": {seven, 50, atTimes(10, 20, 30, 40, 70, 60)},
		"the last one itself":    {seven, 70, atTimes(10, 20, 30, 40, 50, 60)},
		"lifted by one":          {steep, 110, atTimes(10, 40, 20, 100, 120, 30)},
		"lifted by one, right":   {steep, 120, atTimes(10, 40, 20, 110, 100, 30)},
		"lifted by two":          {high, 140, atTimes(10, 35, 20, 100, 120, 30, 25, 130, 110, 150, 160, 50, 60)},
		"the only one":           {atTimes(10), 10, nil},
		"the last of two":        {atTimes(10, 20), 20, atTimes(10)},
		"lifted by one, of many": {high, 110, atTimes(10, 35, 20, 100, 120, 30, 25, 130, 140, 150, 160, 50, 60)},
	} {
		g, check := guarded(c.heap)
		got, ok := impl.HeapDrop(g, atTime(c.drop).Tag)
		if !ok || !slices.Equal(got, c.want) {
			t.Errorf("%s: %v %v, not %v", name, got, ok, c.want)
		}
		check(t, got)
	}
	full := longHeap(impl.MaxQueue)
	for _, at := range []int{0, 1, 2, 777, 1500, impl.MaxQueue - 2, impl.MaxQueue - 1} {
		if got, ok := impl.HeapDrop(full, full[at].Tag); !ok || !slices.Equal(got, without(full, at)) {
			t.Error("of a full one:", at, len(got), ok)
		}
	}
}

func TestHeapDropOfATagThatIsNotThere(t *testing.T) {
	heap := []impl.Event{{Time: 2, Tag: 3}, {Time: 6, Tag: 5}, {Time: 4, Tag: 7}}
	for _, tag := range []int{0, 2, 4, 6, 8, -1, impl.MaxSeq, impl.MaxSeq + 1, math.MinInt, math.MaxInt, poison.Tag} {
		g, check := guarded(heap)
		got, ok := impl.HeapDrop(g, tag)
		if ok || !slices.Equal(got, heap) {
			t.Errorf("%d: %v %v", tag, got, ok)
		}
		check(t, got)
	}
	for _, none := range [][]impl.Event{nil, {}} {
		if got, ok := impl.HeapDrop(none, 0); ok || len(got) != 0 {
			t.Error("of an empty one:", got, ok)
		}
	}
}

func TestHeapDropOfWrongOnes(t *testing.T) {
	for name, h := range wrongHeaps() {
		for _, tag := range []int{h[0].Tag, h[len(h)-1].Tag, 7777} {
			g, check := guarded(h)
			if got, ok := impl.HeapDrop(g, tag); ok || len(got) != 0 {
				t.Errorf("%s, %d: %v %v", name, tag, got, ok)
			}
			check(t)
		}
	}
}

func TestHeapOfPlaces(t *testing.T) {
	for name, c := range map[string]struct{ list, want []impl.Event }{
		"nil":            {nil, nil},
		"one":            {atTimes(10), atTimes(10)},
		"in order":       {atTimes(10, 20, 30, 40), atTimes(10, 20, 30, 40)},
		"stays unsorted": {atTimes(10, 30, 20), atTimes(10, 30, 20)},
		// Sunk from the middle down, as a whole, these would come to 10, 20, 30.
		"one by one, lifted":          {atTimes(30, 20, 10), atTimes(10, 30, 20)},
		"one by one, lifted, of five": {atTimes(50, 40, 30, 20, 10), atTimes(10, 20, 40, 50, 30)},
	} {
		g, check := guarded(c.list)
		got, ok := impl.HeapOf(g)
		if !ok || !slices.Equal(got, c.want) {
			t.Errorf("%s: %v %v, not %v", name, got, ok, c.want)
		}
		check(t, got)
	}
}

func TestHeapOfAtTheBounds(t *testing.T) {
	full := longQueue(impl.MaxQueue)
	for name, l := range map[string][]impl.Event{"in order": full, "backwards": backwards(full)} {
		g, check := guarded(l)
		got, ok := impl.HeapOf(g)
		if !ok || !slices.Equal(got, pushed(nil, l...)) || !impl.HeapOk(got) {
			t.Errorf("%s, as many as there may be: %d %v", name, len(got), ok)
		}
		check(t, got)
	}
}

func TestHeapOfWrongOnes(t *testing.T) {
	a, b, c := atTime(30), atTime(20), atTime(10)
	sameTag, late := c, c
	sameTag.Tag = a.Tag
	late.Time = impl.MaxTime + 1
	wrong := map[string][]impl.Event{
		"one twice":                {a, b, b},
		"a Tag twice, far apart":   {a, b, sameTag},
		"the last one not EventOk": {a, b, late},
		"the first not EventOk":    {late, a, b},
		"one too many":             longQueue(impl.MaxQueue + 1),
		"one too many, backwards":  backwards(longQueue(impl.MaxQueue + 1)),
	}
	for name, l := range wrong {
		g, check := guarded(l)
		if got, ok := impl.HeapOf(g); ok || len(got) != 0 {
			t.Errorf("%s: %v %v", name, got, ok)
		}
		check(t)
	}
	for _, e := range wrongEvents() {
		if got, ok := impl.HeapOf([]impl.Event{sample, e}); ok || len(got) != 0 {
			t.Errorf("%+v: %v %v", e, got, ok)
		}
	}
}

func TestHeapJoinPlaces(t *testing.T) {
	for name, c := range map[string]struct{ a, b, want []impl.Event }{
		"none and none":             {nil, nil, nil},
		"none and some":             {nil, atTimes(10, 30, 20), atTimes(10, 30, 20)},
		"some and none":             {atTimes(10, 30, 20), nil, atTimes(10, 30, 20)},
		"all behind":                {atTimes(10, 30, 20), atTimes(40, 60, 50), atTimes(10, 30, 20, 40, 60, 50)},
		"all ahead":                 {atTimes(40, 60, 50), atTimes(10, 30, 20), atTimes(10, 30, 20, 60, 40, 50)},
		"as they stand, not sorted": {atTimes(5), atTimes(10, 30, 20), atTimes(5, 10, 30, 20)},
	} {
		ga, checkA := guarded(c.a)
		gb, checkB := guarded(c.b)
		got, ok := impl.HeapJoin(ga, gb)
		if !ok || !slices.Equal(got, c.want) {
			t.Errorf("%s: %v %v, not %v", name, got, ok, c.want)
		}
		checkB(t)
		checkA(t, got)
		checkB(t)
	}
}

// halves are two heaps that have n events together, the first of them so many.
func halves(n int, first int) ([]impl.Event, []impl.Event) {
	all := longQueue(n)
	a, b := all[:first], all[first:]
	return pushed(nil, backwards(b)...), pushed(nil, backwards(a)...)
}

func TestHeapJoinAtTheBounds(t *testing.T) {
	for _, first := range []int{0, 1, 700, impl.MaxQueue - 1, impl.MaxQueue} {
		a, b := halves(impl.MaxQueue, first)
		ga, checkA := guarded(a)
		gb, checkB := guarded(b)
		got, ok := impl.HeapJoin(ga, gb)
		if !ok || !slices.Equal(got, pushed(a, b...)) || !impl.HeapOk(got) {
			t.Errorf("as many as there may be, %d of them in b: %d %v", first, len(got), ok)
		}
		checkA(t, got)
		checkB(t)
	}
	for _, first := range []int{1, 700, impl.MaxQueue} {
		a, b := halves(impl.MaxQueue+1, first)
		ga, checkA := guarded(a)
		gb, checkB := guarded(b)
		got, ok := impl.HeapJoin(ga, gb)
		if ok || !slices.Equal(got, a) {
			t.Errorf("one more than there may be, %d of them in b: %d %v", first, len(got), ok)
		}
		checkA(t, got)
		checkB(t)
	}
}

func TestHeapJoinOfATagThatIsInBoth(t *testing.T) {
	a := atTimes(20, 40, 30)
	for at := range a {
		b := atTimes(10, 50, 15)
		b[at].Tag = a[2-at].Tag
		ga, checkA := guarded(a)
		gb, checkB := guarded(b)
		got, ok := impl.HeapJoin(ga, gb)
		if ok || !slices.Equal(got, a) {
			t.Errorf("%d: %v %v", at, got, ok)
		}
		checkA(t, got)
		checkB(t)
	}
	if got, ok := impl.HeapJoin(a, a); ok || !slices.Equal(got, a) {
		t.Error("one with itself:", got, ok)
	}
}

func TestHeapJoinOfWrongOnes(t *testing.T) {
	fine := []impl.Event{{Time: 900, Src: 3, Tag: 99999}}
	for name, h := range wrongHeaps() {
		for _, other := range [][]impl.Event{nil, fine, h} {
			g, check := guarded(h)
			if got, ok := impl.HeapJoin(g, other); ok || len(got) != 0 {
				t.Errorf("%s as a: %v %v", name, got, ok)
			}
			if got, ok := impl.HeapJoin(other, g); ok || len(got) != 0 {
				t.Errorf("%s as b: %v %v", name, got, ok)
			}
			check(t)
		}
	}
}

func TestHeapSorted(t *testing.T) {
	for name, h := range map[string][]impl.Event{
		"nil":                     nil,
		"empty":                   {},
		"one":                     {sample},
		"not in order":            atTimes(10, 40, 20, 60, 50, 30),
		"as many as there may be": longHeap(impl.MaxQueue),
	} {
		g, check := guarded(h)
		got, ok := impl.HeapSorted(g)
		if !ok || !slices.Equal(got, sorted(h)) {
			t.Errorf("%s: %v %v", name, got, ok)
		}
		check(t, got)
	}
	for name, h := range wrongHeaps() {
		g, check := guarded(h)
		if got, ok := impl.HeapSorted(g); ok || len(got) != 0 {
			t.Errorf("%s: %v %v", name, got, ok)
		}
		check(t)
	}
}

// What is pushed, popped and dropped, in any order, is where the words of the document put it.
func TestHeapsPlaceByPlace(t *testing.T) {
	r := newRandom(5)
	for range 200 {
		var heap []impl.Event
		for range 60 {
			e := randomEvent(r, 25)
			at := slices.IndexFunc(heap, func(x impl.Event) bool { return x.Tag == e.Tag })
			want, fine := heap, false
			g, check := guarded(heap)
			var got []impl.Event
			var ok bool
			switch r.IntN(6) {
			case 0:
				got, ok = impl.HeapDrop(g, e.Tag)
				if at >= 0 {
					want, fine = without(heap, at), true
				}
			case 1:
				var first impl.Event
				got, first, ok = impl.HeapPop(g)
				if len(heap) > 0 {
					want, fine = without(heap, 0), true
					popsWhatIsAhead(t, first, heap[0], got)
				}
			default:
				got, ok = impl.HeapPush(g, e)
				if at < 0 {
					want, fine = pushed(heap, e), true
				}
			}
			if ok != fine || !slices.Equal(got, want) || !impl.HeapOk(got) {
				t.Fatalf("%+v: %v %v, not %v %v", e, got, ok, want, fine)
			}
			heap = slices.Clone(got)
			check(t, got)
		}
	}
}

func popsWhatIsAhead(t *testing.T, first impl.Event, want impl.Event, left []impl.Event) {
	t.Helper()
	if first != want {
		t.Fatal(first, want)
	}
	for _, e := range left {
		if !ahead(first, e) {
			t.Fatal(first, left)
		}
	}
}

func TestHeapsOfListsPopInOrder(t *testing.T) {
	r := newRandom(6)
	for range 500 {
		l := randomHeap(r, 20, 40)
		r.Shuffle(len(l), func(i, j int) { l[i], l[j] = l[j], l[i] })
		h, ok := impl.HeapOf(l)
		if !ok || !slices.Equal(h, pushed(nil, l...)) || !impl.HeapOk(h) {
			t.Fatal(l, h, ok)
		}
		want := sorted(l)
		if all, ok := impl.HeapSorted(h); !ok || !slices.Equal(all, want) || !impl.QueueOk(all) {
			t.Fatal(l, all, ok)
		}
		for _, e := range want {
			left, first, ok := impl.HeapPop(h)
			if !ok || first != e || len(left) != len(h)-1 {
				t.Fatal(h, left, first, ok)
			}
			h = left
		}
	}
}

func TestHeapsJoinedEitherWayPopTheSame(t *testing.T) {
	r := newRandom(7)
	joined := 0
	for range 1000 {
		a, b := randomHeap(r, 8, 60), randomHeap(r, 8, 60)
		both := slices.Concat(a, b)
		one, ok := impl.HeapJoin(a, b)
		other, too := impl.HeapJoin(b, a)
		if !tagsUnlike(both) {
			if ok || too || !slices.Equal(one, a) || !slices.Equal(other, b) {
				t.Fatal(a, b, one, other)
			}
			continue
		}
		joined++
		if !ok || !too || !slices.Equal(one, pushed(a, b...)) || !slices.Equal(other, pushed(b, a...)) {
			t.Fatal(a, b, one, other)
		}
		x, _ := impl.HeapSorted(one)
		y, _ := impl.HeapSorted(other)
		if !slices.Equal(x, sorted(both)) || !slices.Equal(y, x) {
			t.Fatal(a, b, x, y)
		}
	}
	if joined < 100 || joined > 900 {
		t.Fatal("the heaps are too much alike:", joined)
	}
}
