package tests

import (
	"math/rand/v2"
	"slices"
	"testing"

	"loop.example/g00603/impl"
)

// poison stands in the spare room behind an argument; no event of a test is like it.
var poison = impl.Event{Time: -70, Src: -71, Seq: -72, Dst: -73, Kind: -74, Val: -75, Tag: -76}

// scribble is what a test writes over an answer, to see whether an argument changes with it.
var scribble = impl.Event{Time: -80, Src: -81, Seq: -82, Dst: -83, Kind: -84, Val: -85, Tag: -86}

const spare = 5

// guarded is l with poisoned room behind it, and a check that neither the call
// nor writing all over its answers has changed any of that.
func guarded(l []impl.Event) ([]impl.Event, func(t *testing.T, answers ...[]impl.Event)) {
	return guardedWith(l, poison, scribble)
}

// guardedWith is guarded for lists of anything; no element of a test is like behind or over.
func guardedWith[T comparable](l []T, behind T, over T) ([]T, func(t *testing.T, answers ...[]T)) {
	whole := make([]T, 0, len(l)+spare)
	whole = append(whole, l...)
	for range spare {
		whole = append(whole, behind)
	}
	before := slices.Clone(whole)
	check := func(t *testing.T, answers ...[]T) {
		t.Helper()
		if !slices.Equal(whole, before) {
			t.Fatal("an argument, or the room behind it, was written into")
		}
		for _, a := range answers {
			a = a[:cap(a)]
			if slices.Contains(a, behind) {
				t.Fatal("what lies behind an argument was handed out")
			}
			for i := range a {
				a[i] = over
			}
		}
		if !slices.Equal(whole, before) {
			t.Fatal("an answer shares memory with an argument")
		}
	}
	return whole[:len(l)], check
}

func newRandom(seed uint64) *rand.Rand {
	return rand.New(rand.NewPCG(seed, 603))
}

// randomEvent has few times, senders and numbers, so that many events are alike in some of them.
func randomEvent(r *rand.Rand, tags int) impl.Event {
	return impl.Event{
		Time: r.IntN(4),
		Src:  r.IntN(impl.MaxLps+1) - 1,
		Seq:  r.IntN(3),
		Dst:  r.IntN(impl.MaxLps),
		Kind: r.IntN(impl.MaxKinds),
		Val:  r.IntN(1000),
		Tag:  r.IntN(tags),
	}
}

// ahead is the order of events, told anew by the words of the document.
func ahead(a impl.Event, b impl.Event) bool {
	if a.Time != b.Time {
		return a.Time < b.Time
	}
	if a.Src != b.Src {
		return a.Src < b.Src
	}
	if a.Seq != b.Seq {
		return a.Seq < b.Seq
	}
	return a.Tag < b.Tag
}

func hasTag(l []impl.Event, tag int) bool {
	return slices.ContainsFunc(l, func(e impl.Event) bool { return e.Tag == tag })
}

// longQueue is a queue of n events, all of them EventOk even where n is one above MaxQueue.
func longQueue(n int) []impl.Event {
	l := make([]impl.Event, n)
	for i := range l {
		l[i] = impl.Event{Time: i / 2, Src: i%2 - 1, Seq: i % 7, Val: i % 1000, Tag: 2 * i}
	}
	return l
}
