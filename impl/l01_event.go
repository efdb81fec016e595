package impl

import (
	"cmp"
	"iter"
	"slices"
	"strconv"
	"strings"
)

const MaxTime = 1000
const MaxLps = 4
const MaxKinds = 4
const MaxSeq = 100000
const MaxQueue = 2000

const srcOutside = -1
const maxVal = 999

type Event struct {
	Time int
	Src  int
	Seq  int
	Dst  int
	Kind int
	Val  int
	Tag  int
}

func EventOk(e Event) bool {
	return within(e.Time, 0, MaxTime) &&
		within(e.Src, srcOutside, MaxLps-1) &&
		within(e.Seq, 0, MaxSeq) &&
		within(e.Tag, 0, MaxSeq) &&
		within(e.Dst, 0, MaxLps-1) &&
		within(e.Kind, 0, MaxKinds-1) &&
		within(e.Val, 0, maxVal)
}

func EventCmp(a Event, b Event) int {
	if !EventOk(a) || !EventOk(b) {
		return 0
	}
	return cmp.Or(
		cmp.Compare(a.Time, b.Time),
		cmp.Compare(a.Src, b.Src),
		cmp.Compare(a.Seq, b.Seq),
		cmp.Compare(a.Tag, b.Tag),
	)
}

func QueueOk(l []Event) bool {
	// The length comes first: a list that is far too long is not gone through.
	return len(l) <= MaxQueue && eventsOk(l) && inOrder(l) && tagsDiffer(l)
}

func Insert(l []Event, e Event) ([]Event, bool) {
	if !QueueOk(l) || !EventOk(e) {
		return nil, false
	}
	if _, there := placesByTag(l)[tagKey(e.Tag)]; there || len(l) == MaxQueue {
		return copyOf(l), false
	}
	at, _ := slices.BinarySearchFunc(l, e, EventCmp)
	return slices.Concat(l[:at], []Event{e}, l[at:]), true
}

func Remove(l []Event, tag int) ([]Event, bool) {
	if !QueueOk(l) {
		return nil, false
	}
	at, there := placesByTag(l)[tagKey(tag)]
	if !there {
		return copyOf(l), false
	}
	return slices.Concat(l[:at], l[at+1:]), true
}

func First(l []Event) (Event, bool) {
	if len(l) == 0 || !QueueOk(l) {
		return Event{}, false
	}
	return l[0], true
}

func EventText(e Event) []byte {
	if !EventOk(e) {
		return nil
	}
	return []byte(strings.Join([]string{
		"at", strconv.Itoa(e.Time),
		senderText(e.Src) + "#" + strconv.Itoa(e.Seq),
		"to", strconv.Itoa(e.Dst),
		"kind", strconv.Itoa(e.Kind),
		"val", strconv.Itoa(e.Val),
	}, " "))
}

func senderText(src int) string {
	if src == srcOutside {
		return "outside"
	}
	return "from " + strconv.Itoa(src)
}

func within(x int, low int, high int) bool {
	return low <= x && x <= high
}

// copyOf never answers a piece of l, not even an empty one, as slices.Clone may.
func copyOf[T any](l []T) []T {
	return append([]T(nil), l...)
}

func eachEvent(l []Event) iter.Seq2[int, Event] {
	return func(yield func(int, Event) bool) {
		for i := range l {
			if !yield(i, l[i]) {
				return
			}
		}
	}
}

func eachPair(l []Event) iter.Seq2[Event, Event] {
	return func(yield func(Event, Event) bool) {
		for i := 1; i < len(l); i++ {
			if !yield(l[i-1], l[i]) {
				return
			}
		}
	}
}

func eventsOk(l []Event) bool {
	for _, e := range eachEvent(l) {
		if !EventOk(e) {
			return false
		}
	}
	return true
}

func inOrder(l []Event) bool {
	for a, b := range eachPair(l) {
		if EventCmp(a, b) != -1 {
			return false
		}
	}
	return true
}

func tagsDiffer(l []Event) bool {
	return len(placesByTag(l)) == len(l)
}

// tagKey has nothing but the Tag, because two events of one Tag are the same
// one to a queue, whatever else they say.
func tagKey(tag int) Event {
	return Event{Tag: tag}
}

func placesByTag(l []Event) map[Event]int {
	places := make(map[Event]int, len(l))
	for i, e := range eachEvent(l) {
		places[tagKey(e.Tag)] = i
	}
	return places
}
