package tests

import (
	"math/rand/v2"
	"slices"
	"testing"

	"loop.example/g00603/impl"
)

// obeys does a command by Do, and fails where anything that is promised of what it does is broken.
func obeys(t *testing.T, w impl.World, c impl.Cmd, all map[string]impl.History) (impl.World, bool) {
	t.Helper()
	after, did := impl.Do(w, c)
	want, wanted := w, false
	switch n := len(w.Branches); {
	case c.At >= n:
	case c.Kind == impl.CmPick && c.A < w.M.Lps:
		want = picks(t, w, c.At, c.A)
		_, wanted = impl.Pick(w.Branches[c.At], c.A)
	case c.Kind == impl.CmDeliver && c.A < len(w.Branches[c.At].Bag):
		want = delivers(t, w, c.At, c.A)
		_, wanted = impl.Deliver(w.Branches[c.At], c.A)
	case c.Kind == impl.CmBranch:
		want, wanted = branches(t, w, c.At)
	case c.Kind == impl.CmPrune:
		want, wanted = prunes(t, w, c.At), true
	case c.Kind == impl.CmForce && c.A < 4:
		want, wanted = forces(t, w, c.At, c.A, c.B)
	case c.Kind == impl.CmExplore:
		want, wanted = explores(t, w, all)
	}
	if did != wanted || !same(after, want) {
		t.Fatalf("%v: %v, not %v", c, did, wanted)
	}
	return after, did
}

// runsAs fails where Run of l does not come to want, with so many that were true.
func runsAs(t *testing.T, w impl.World, l []impl.Cmd, want impl.World, n int) {
	t.Helper()
	if got, count, ok := impl.Run(w, l); !ok || count != n || !same(got, want) {
		t.Fatalf("%v: %d, not %d", l, count, n)
	}
}

// eachWorld tries worlds that are come to by commands of every kind, a few more each time, until there is no run.
func eachWorld(t *testing.T, seed uint64, times int, try func(r *rand.Rand, w impl.World, all map[string]impl.History)) {
	t.Helper()
	r := newRandom(seed)
	var kinds [6]int
	for at, m := range askingModels() {
		all := byWhole(m)
		w, _ := impl.WorldNew(m)
		for range times {
			l, want := dictated(t, r, w, 1+r.IntN(16), []int{0, 5, 15}[at%3])
			runsAs(t, w, l, want.World, want.N)
			for _, c := range l {
				kinds[c.Kind]++
			}
			w = want.World
			try(r, w, all)
			if len(w.Branches) == 0 {
				break
			}
		}
	}
	if slices.Min(kinds[:]) < 20 {
		t.Error("not much was tried:", kinds)
	}
}

// Commands leave a world that may be; each whole vector is of one run, or cut off, and what is sure of it happens by it.
func TestCommandsLeaveAWorldThatMayBe(t *testing.T) {
	t.Parallel()
	runs := map[int]int{}
	cut := 0
	eachWorld(t, 121, 10, func(_ *rand.Rand, w impl.World, all map[string]impl.History) {
		holdsTogether(t, w, all)
		runs[len(w.Branches)]++
		cut += len(w.Cut)
	})
	if runs[0] < 3 || runs[1] < 30 || runs[2] < 30 || cut < 100 {
		t.Error("not much was tried:", runs, cut)
	}
}

// What each command does, one by one, is as promised of it, and Run of all of them comes to the same.
func TestCommandsAreDoneOneByOne(t *testing.T) {
	t.Parallel()
	r := newRandom(122)
	var did, not [6]int
	for at, m := range askingModels() {
		all := byWhole(m)
		first, _ := impl.WorldNew(m)
		w := first
		var l []impl.Cmd
		n := 0
		for range 50 {
			c := anyCmd(r, w, []int{2, 6, 12}[at%3])
			after, fine := obeys(t, w, c, all)
			if fine {
				n++
				did[c.Kind]++
			} else {
				not[c.Kind]++
			}
			l = append(l, c)
			w = after
		}
		holdsTogether(t, w, all)
		runsAs(t, first, l, w, n)
	}
	if slices.Min(did[:]) < 10 || slices.Min(not[:5]) < 5 {
		t.Error("not much was tried:", did, not)
	}
}

// Explored to the end, by a command, each run has done just what happens by it, and stays there.
func TestCommandedAndExplored(t *testing.T) {
	t.Parallel()
	explore := impl.Cmd{Kind: impl.CmExplore}
	var ended, not, more int
	eachWorld(t, 123, 5, func(r *rand.Rand, w impl.World, all map[string]impl.History) {
		after, ok := obeys(t, w, explore, all)
		if len(w.Branches) == 0 {
			return
		}
		if ok {
			ended++
		} else {
			not++
		}
		if len(after.Branches) > len(w.Branches) {
			more++
		}
		// No run has anything to do any more.
		if idle := []impl.Cmd{explore, {Kind: impl.CmPick, At: r.IntN(len(after.Branches))}, {Kind: impl.CmDeliver}, explore}; ok && r.IntN(3) == 0 {
			runsAs(t, w, idle, after, 2)
		}
	})
	if ended < 150 || not < 5 || more < 60 {
		t.Error("not much was tried:", ended, not, more)
	}
}

// What is sure of a whole vector stays, whatever commands come, until it is cut off; and that stays too.
func TestWhatIsSureStaysByCommands(t *testing.T) {
	t.Parallel()
	r := newRandom(124)
	grown := 0
	for _, m := range askingModels() {
		w, _ := impl.WorldNew(m)
		var sure [16]impl.History
		var gone [16]bool
		for range 12 {
			l, want := dictated(t, r, w, 6, 3)
			runsAs(t, w, l, want.World, want.N)
			w = want.World
			for i, d := range wholeVectors() {
				h, ok := impl.Answers(w, d)
				if !ok {
					gone[i] = true
					continue
				}
				if gone[i] {
					t.Fatal("what was cut off is there again:", d)
				}
				begins(t, sure[i], h)
				grown += len(h.Events) - len(sure[i].Events)
				sure[i] = h
				if table, fine := impl.Table(w, impl.Covers(w, d)); !fine || !same(table, h) {
					t.Fatal("another table:", d)
				}
			}
		}
	}
	if grown < 1000 {
		t.Error("not much was tried:", grown)
	}
}

// From one run up to sixteen and down to none, by commands alone, each whole vector is of one run, or cut off.
func TestCommandsUpToSixteenRuns(t *testing.T) {
	t.Parallel()
	m := forks(0)
	all := byWhole(m)
	w, _ := impl.WorldNew(m)
	first := w
	var l []impl.Cmd
	n := 0
	obey := func(c impl.Cmd) {
		var did bool
		w, did = obeys(t, w, c, all)
		l = append(l, c)
		if did {
			n++
		}
		holdsTogether(t, w, all)
	}
	for len(w.Branches) < 16 {
		for i := range w.Branches {
			k := w.Branches[i]
			switch {
			case k.Asks != -1:
				obey(impl.Cmd{Kind: impl.CmBranch, At: i})
			case len(k.Bag) > 0:
				obey(impl.Cmd{Kind: impl.CmDeliver, At: i})
			default:
				obey(impl.Cmd{Kind: impl.CmPick, At: i})
			}
		}
	}
	if len(l) > 200 || impl.Live(w) != 16 {
		t.Fatal(len(l), impl.Vectors(w))
	}
	runsAs(t, first, l, w, n)
	// Sixteen are as many as there may be: none of them leaves anything open.
	for i := range 16 {
		for b := range 2 {
			obey(impl.Cmd{Kind: impl.CmForce, At: i, A: i % 4, B: b})
		}
		obey(impl.Cmd{Kind: impl.CmBranch, At: i})
	}
	full := w
	if len(full.Branches) != 16 || len(full.Cut) != 0 {
		t.Fatal(impl.Vectors(full))
	}
	obey(impl.Cmd{Kind: impl.CmExplore})
	for i := 15; i >= 0; i-- {
		obey(impl.Cmd{Kind: impl.CmPrune, At: (7 * i) % (i + 1)})
	}
	if len(w.Branches) != 0 || len(w.Cut) != 16 || impl.Gone(w) != 16 {
		t.Fatal(w.Cut)
	}
	for kind := range 6 {
		stays(t, "none is left", w, impl.Cmd{Kind: kind})
	}
}
