package tests

import (
	"math/rand/v2"
	"slices"
	"testing"

	"loop.example/g00603/impl"
)

// council is a hive in which whoever hears of anything asks for a decision of that kind, some of them only now and then.
func council(r *rand.Rand, lps int) impl.Model {
	m := hive(r, lps)
	for len(m.Handlers) < 4 {
		m.Handlers = append(m.Handlers, slices.Clone(m.Handlers[r.IntN(len(m.Handlers))]))
	}
	order := r.Perm(4)
	for kind, handler := range m.Handlers {
		handler = slices.DeleteFunc(slices.Clone(handler), func(o impl.Op) bool { return o.Code == impl.OpAsk || o.Code == impl.OpSkip })
		for i := range handler {
			if handler[i].Code == impl.OpSend {
				handler[i].C = r.IntN(4)
			}
		}
		ask := []impl.Op{{Code: impl.OpAsk, A: order[kind], B: r.IntN(2)}}
		if r.IntN(3) > 0 {
			ask = slices.Insert(ask, 0, impl.Op{Code: impl.OpSkip, A: r.IntN(2), B: r.IntN(900), C: 1})
		}
		m.Handlers[kind] = slices.Insert(handler, r.IntN(len(handler)+1), ask...)
	}
	for i := range m.Start {
		m.Start[i].Kind = r.IntN(4)
	}
	return m
}

// askingModels are models of one to four parts, most of which ask for some decisions.
func askingModels() []impl.Model {
	r := newRandom(94)
	l := []impl.Model{threeParts(), workshop(), ticking(20, 5), ticking(250, 999), ticking(250, 210), storm(r, 2), everyOp(), sizedModel(1, 1, 0, 0)}
	for yes := range 5 {
		l = append(l, forks(yes))
	}
	for i := range 32 {
		l = append(l, council(r, 1+i%4))
	}
	for i := range 8 {
		l = append(l, hive(r, 1+i%4))
	}
	return l
}

// byWhole is what happens by each whole vector.
func byWhole(m impl.Model) map[string]impl.History {
	l := map[string]impl.History{}
	for _, d := range wholeVectors() {
		l[lettersOf(d)], _ = impl.Sequence(m, d, m.End)
	}
	return l
}

// beginsOf fails where what is sure is no beginning of what happens; where that is full, as far as it goes.
func beginsOf(t *testing.T, sure impl.History, all impl.History) {
	t.Helper()
	if all.Full && len(sure.Events) > len(all.Events) {
		begins(t, all, sure)
		return
	}
	begins(t, sure, all)
}

// holdsTogether fails where a world is none, a whole vector is not of one run or cut off, or what is sure of one does not happen by it.
func holdsTogether(t *testing.T, w impl.World, all map[string]impl.History) {
	t.Helper()
	if !impl.WorldOk(w) {
		t.Fatalf("no world: %+v", w)
	}
	made := impl.Vectors(w)
	if !same(made, vectorsOf(w)) {
		t.Fatal(made)
	}
	var sure []impl.History
	for _, k := range w.Branches {
		h, _ := impl.Committed(k)
		sure = append(sure, h)
		isAnswer(t, w, wholesIn(k.D)[0], h, true)
	}
	for _, d := range w.Cut {
		isAnswer(t, w, wholesIn(d)[0], impl.History{}, false)
	}
	live, gone := 0, 0
	for _, d := range wholeVectors() {
		var runs []int
		for i, v := range made {
			if holds(wholesIn(v), d) {
				runs = append(runs, i)
			}
		}
		cut := 0
		for _, v := range w.Cut {
			if holds(wholesIn(v), d) {
				cut++
			}
		}
		if len(runs)+cut != 1 {
			t.Fatalf("%v is of %v, and cut off %d times", d, runs, cut)
		}
		if cut == 1 {
			gone++
			if impl.Covers(w, d) != -1 {
				t.Fatalf("%v is cut off, but there", d)
			}
			continue
		}
		live++
		if impl.Covers(w, d) != runs[0] {
			t.Fatalf("%v is of %d, not of %v", d, impl.Covers(w, d), runs)
		}
		beginsOf(t, sure[runs[0]], all[lettersOf(d)])
	}
	if impl.Live(w) != live || impl.Gone(w) != gone {
		t.Fatal(impl.Live(w), live, impl.Gone(w), gone)
	}
}

func isAnswer(t *testing.T, w impl.World, d []int, want impl.History, there bool) {
	t.Helper()
	if h, ok := impl.Answers(w, d); ok != there || !same(h, want) {
		t.Fatalf("%v answers %v, not %v", d, h, want)
	}
}

// sureOf is what is sure of a run, whatever it asks for.
func sureOf(t *testing.T, k impl.Kernel) impl.History {
	t.Helper()
	h, ok := impl.Committed(k)
	if !ok {
		t.Fatalf("no kernel: %+v", k)
	}
	h.Asks = -1
	return h
}

// othersStay fails where any run but one, or anything that was cut off, is not as it was.
func othersStay(t *testing.T, before impl.World, after impl.World, i int) {
	t.Helper()
	for k := range before.Branches {
		if k != i && !same(after.Branches[k], before.Branches[k]) {
			t.Fatalf("run %d changes with %d", k, i)
		}
	}
	if !same(after.M, before.M) || !same(after.Cut[:len(before.Cut)], before.Cut) {
		t.Fatal("the model, or what was cut off, changes")
	}
}

func branches(t *testing.T, w impl.World, i int) (impl.World, bool) {
	t.Helper()
	asks, n := w.Branches[i].Asks, len(w.Branches)
	after, did := impl.Branch(w, i)
	if did != (asks != -1 && w.Branches[i].D[asks] == -1) {
		t.Fatal(asks, did)
	}
	if !did {
		if !same(after, w) {
			t.Fatal("nothing is done, but it changes")
		}
		return after, false
	}
	othersStay(t, w, after, i)
	was, no, yes := w.Branches[i], after.Branches[i], after.Branches[n]
	if len(after.Branches) != n+1 || len(after.Cut) != len(w.Cut) || !slices.Equal(no.D, with(was.D, asks, 0)) || !slices.Equal(yes.D, with(was.D, asks, 1)) || no.Asks != -1 || yes.Asks != -1 {
		t.Fatalf("%v and %v of %v", no.D, yes.D, was.D)
	}
	if sure := sureOf(t, was); !same(sureOf(t, no), sure) || !same(sureOf(t, yes), sure) {
		t.Fatal("not the same is sure behind a branch")
	}
	if impl.Siblings(after, i, n) != 1 || impl.Siblings(after, n, i) != 1 {
		t.Fatal(impl.Siblings(after, i, n))
	}
	return after, true
}

func forces(t *testing.T, w impl.World, i int, dec int, v int) (impl.World, bool) {
	t.Helper()
	after, did := impl.Force(w, i, dec, v)
	was := w.Branches[i]
	if did != (was.D[dec] == -1) {
		t.Fatal(was.D, dec, did)
	}
	if !did {
		if !same(after, w) {
			t.Fatal("nothing is done, but it changes")
		}
		return after, false
	}
	othersStay(t, w, after, i)
	is, n := after.Branches[i], len(w.Cut)
	if len(after.Branches) != len(w.Branches) || len(after.Cut) != n+1 || !slices.Equal(after.Cut[n], with(was.D, dec, 1-v)) || !slices.Equal(is.D, with(was.D, dec, v)) {
		t.Fatalf("%v of %v, and %v is cut off", is.D, was.D, after.Cut)
	}
	if was.Asks == dec && is.Asks != -1 || was.Asks != dec && is.Asks != was.Asks || !same(sureOf(t, is), sureOf(t, was)) {
		t.Fatal("not the same is sure where a way is forced")
	}
	return after, true
}

func prunes(t *testing.T, w impl.World, i int) impl.World {
	t.Helper()
	after, ok := impl.Prune(w, i)
	n := len(w.Cut)
	if !ok || !same(after.Branches, slices.Concat(w.Branches[:i], w.Branches[i+1:])) || !same(after.Cut[:n], w.Cut) || len(after.Cut) != n+1 || !slices.Equal(after.Cut[n], w.Branches[i].D) || !same(after.M, w.M) {
		t.Fatalf("%v of %v", impl.Vectors(after), impl.Vectors(w))
	}
	return after
}

func picks(t *testing.T, w impl.World, i int, lp int) impl.World {
	t.Helper()
	after, did := impl.WorldPick(w, i, lp)
	k, want := impl.Pick(w.Branches[i], lp)
	if did != want || !same(after, withRun(w, i, kernelOutcome{Kernel: k}).World) {
		t.Fatal("not as Pick of the run")
	}
	return after
}

func delivers(t *testing.T, w impl.World, i int, at int) impl.World {
	t.Helper()
	after, did := impl.WorldDeliver(w, i, at)
	k, want := impl.Deliver(w.Branches[i], at)
	if did != want || !same(after, withRun(w, i, kernelOutcome{Kernel: k}).World) {
		t.Fatal("not as Deliver of the run")
	}
	return after
}

// explores explores w, and fails where a run has not done what happens by its vector, though it is not Full.
func explores(t *testing.T, w impl.World, all map[string]impl.History) (impl.World, bool) {
	t.Helper()
	after, ok := impl.Explore(w)
	holdsTogether(t, after, all)
	if !same(after.Cut, w.Cut) || !same(after.M, w.M) || len(after.Branches) < len(w.Branches) || impl.Live(after) != impl.Live(w) {
		t.Fatal("something else was cut off:", after.Cut)
	}
	ended := true
	for i, k := range after.Branches {
		if i < len(w.Branches) {
			begins(t, sureOf(t, w.Branches[i]), sureOf(t, k))
			if !impl.Refines(k.D, w.Branches[i].D) {
				t.Fatalf("%v of %v", k.D, w.Branches[i].D)
			}
		}
		ended = ended && impl.Idle(k)
		if want, _ := impl.Sequence(w.M, k.D, w.M.End); !k.Full && !want.Full {
			if h, _ := impl.Committed(k); !same(h, want) || want.Asks != -1 || !impl.Idle(k) {
				t.Fatalf("%v by %v: not %v", h, k.D, want)
			}
		}
		for _, d := range wholesIn(k.D) {
			if h, fine := impl.Answers(after, d); !fine || !k.Full && !all[lettersOf(d)].Full && !same(h, all[lettersOf(d)]) {
				t.Fatalf("%v by %v, not %v", h, d, all[lettersOf(d)])
			}
		}
	}
	if ok != ended {
		t.Fatal("explored:", ok, ended)
	}
	if again, fine := impl.Explore(after); fine != ok || !same(again, after) {
		t.Fatal("what has come to its end goes on")
	}
	return after, ok
}

// anyDeed does something to w, with all that is promised of that; of a hundred, so many are one of those that can't be undone.
func anyDeed(t *testing.T, r *rand.Rand, w impl.World, grave int) impl.World {
	t.Helper()
	n := len(w.Branches)
	if n == 0 {
		return w
	}
	i := r.IntN(n)
	k := w.Branches[i]
	if r.IntN(100) < grave {
		if r.IntN(3) == 0 {
			return prunes(t, w, i)
		}
		dec := r.IntN(4)
		if k.Asks != -1 && r.IntN(3) == 0 {
			dec = k.Asks
		}
		w, _ = forces(t, w, i, dec, r.IntN(2))
		return w
	}
	switch {
	case k.Asks != -1 && r.IntN(3) == 0:
		w, _ = branches(t, w, i)
		return w
	case len(k.Bag) > 0 && r.IntN(2) == 0:
		return delivers(t, w, i, r.IntN(len(k.Bag)))
	}
	return picks(t, w, i, r.IntN(w.M.Lps))
}

// stirred is w, of which each run was played for a while, one behind the other.
func stirred(t *testing.T, r *rand.Rand, w impl.World, n int) impl.World {
	t.Helper()
	w = plain(w)
	for i := range w.Branches {
		w.Branches[i] = played(t, w.Branches[i], playful(r, r.IntN(n+1), 3+r.IntN(4))...)
		if r.IntN(4) == 0 {
			w.Branches[i], _ = impl.Collect(w.Branches[i])
		}
	}
	return w
}

// Deeds leave a world that may be, in which each whole vector is of one run, or cut off.
func TestDeedsLeaveAWorldThatMayBe(t *testing.T) {
	t.Parallel()
	r := newRandom(95)
	runs := map[int]int{}
	cut := 0
	for _, m := range askingModels() {
		all := byWhole(m)
		for _, grave := range []int{0, 4, 12} {
			w, ok := impl.WorldNew(m)
			if !ok {
				t.Fatal(m)
			}
			for range 60 {
				w = anyDeed(t, r, w, grave)
				holdsTogether(t, w, all)
				runs[len(w.Branches)]++
				cut += len(w.Cut)
			}
			if !isWorld(w) {
				t.Fatalf("no world: %+v", w)
			}
		}
	}
	if runs[0] < 10 || runs[1] < 100 || runs[4] < 100 || runs[8] < 20 || cut < 1000 {
		t.Error("not much was tried:", runs, cut)
	}
}

// From sixteen runs down to none, and from one up to sixteen, each whole vector is of one run, or cut off.
func TestWorldsOfEachSize(t *testing.T) {
	t.Parallel()
	r := newRandom(96)
	for yes := range 3 {
		m := forks(yes)
		all := byWhole(m)
		w, _ := impl.WorldNew(m)
		seen := map[int]int{}
		for more := true; more; {
			more = false
			for i := range len(w.Branches) {
				for range 6 {
					w = picks(t, w, i, 0)
					if len(w.Branches[i].Bag) > 0 {
						w = delivers(t, w, i, 0)
					}
				}
				var did bool
				w, did = branches(t, w, i)
				more = more || did
				holdsTogether(t, w, all)
				seen[len(w.Branches)]++
			}
		}
		n := len(w.Branches)
		if n != []int{16, 15, 12}[yes] || len(seen) != n-1 {
			t.Fatal(n, seen)
		}
		for i := range n {
			for k := range n {
				if d := impl.Siblings(w, i, k); i == k && d != -1 || i != k && d != siblingsOf(w.Branches[i].D, w.Branches[k].D) {
					t.Fatal(i, k, d)
				}
			}
		}
		explores(t, w, all)
		for ; n > 0; n-- {
			w = prunes(t, w, r.IntN(n))
			holdsTogether(t, w, all)
		}
		if len(w.Branches) != 0 || impl.Gone(w) != 16 {
			t.Fatal(w)
		}
		if _, ok := explores(t, w, all); !ok {
			t.Fatal("of no run, one is not at its end")
		}
	}
}

// Each decision, wherever it is asked for, makes two of which the same is sure, and forces either way.
func TestBranchOfEachDecision(t *testing.T) {
	t.Parallel()
	r := newRandom(97)
	var asked [4]int
	var later, wider int
	for _, m := range askingModels() {
		all := byWhole(m)
		w, _ := impl.WorldNew(m)
		for i := 0; i < len(w.Branches); i++ {
			for {
				w = stirred(t, r, w, 12)
				k, _ := impl.Finish(w.Branches[i])
				w.Branches[i] = k
				if k.Asks == -1 || k.Full {
					break
				}
				asked[k.Asks]++
				if len(sureOf(t, k).Events) > 0 {
					later++
				}
				for dec := range 4 {
					for v := range 2 {
						forced, did := forces(t, w, i, dec, v)
						if did && dec != k.Asks {
							wider++
							forced, _ = branches(t, forced, i)
						}
						if r.IntN(6) == 0 {
							holdsTogether(t, forced, all)
						}
					}
				}
				w, _ = branches(t, w, i)
				holdsTogether(t, w, all)
			}
		}
	}
	if min(asked[0], asked[1], asked[2], asked[3]) < 20 || later < 50 || wider < 100 {
		t.Error("not much was tried:", asked, later, wider)
	}
}

// Worlds that are new, half played, branched, pruned or forced come to what happens by each vector, and stay there.
func TestExploredIsWhatHappens(t *testing.T) {
	t.Parallel()
	r := newRandom(98)
	var done, full, more int
	for _, m := range askingModels() {
		all := byWhole(m)
		w, _ := impl.WorldNew(m)
		once, ok := explores(t, w, all)
		for round := range 5 {
			half := stirred(t, r, w, 40)
			for range round * 10 {
				half = anyDeed(t, r, half, []int{0, 5, 0, 10, 20}[round])
				half = stirred(t, r, half, 2)
			}
			after, fine := explores(t, half, all)
			if fine {
				done++
			} else {
				full++
			}
			if len(after.Branches) > len(half.Branches) {
				more++
			}
			// Whichever way it was come to: the same runs, if none was cut off, with the same that is sure.
			if len(after.Cut) == 0 && ok && fine {
				alikeRuns(t, once, after)
			}
			after = anyDeed(t, r, after, 100)
			explores(t, after, all)
		}
	}
	if done < 150 || full < 10 || more < 80 {
		t.Error("not much was tried:", done, full, more)
	}
}

// alikeRuns fails where one world has not the same runs as the other, in whatever order.
func alikeRuns(t *testing.T, one impl.World, other impl.World) {
	t.Helper()
	if len(one.Branches) != len(other.Branches) {
		t.Fatal(impl.Vectors(one), impl.Vectors(other))
	}
	for _, k := range one.Branches {
		i := impl.Covers(other, k.D)
		if i == -1 || !slices.Equal(other.Branches[i].D, k.D) || !same(sureOf(t, other.Branches[i]), sureOf(t, k)) {
			t.Fatal(k.D, impl.Vectors(other))
		}
	}
}

// What is sure of a whole vector stays, whatever is done, until it is cut off.
func TestWhatIsSureOfAWholeVectorStays(t *testing.T) {
	t.Parallel()
	r := newRandom(99)
	grown := 0
	for _, m := range askingModels() {
		w, _ := impl.WorldNew(m)
		sure := map[string]impl.History{}
		gone := map[string]bool{}
		for range 80 {
			w = anyDeed(t, r, w, 3)
			for _, d := range wholeVectors() {
				h, ok := impl.Answers(w, d)
				before := sure[lettersOf(d)]
				if !ok {
					gone[lettersOf(d)] = true
					continue
				}
				if gone[lettersOf(d)] {
					t.Fatal("what was cut off is there again:", d)
				}
				begins(t, before, h)
				grown += len(h.Events) - len(before.Events)
				sure[lettersOf(d)] = h
			}
		}
	}
	if grown < 3000 {
		t.Error("not much was tried:", grown)
	}
}

// Whatever is done, in any order, is what the words of the document say of it.
func TestWorldsStepByStep(t *testing.T) {
	t.Parallel()
	r := newRandom(100)
	steps := 0
	for _, m := range askingModels() {
		w, _ := impl.WorldNew(m)
		for range 8 {
			for range 5 {
				w = anyDeed(t, r, w, 5)
				w = stirred(t, r, w, 3)
			}
			n := len(w.Branches)
			i := r.IntN(n + 1)
			bag := 0
			if i < n {
				bag = len(w.Branches[i].Bag)
			}
			tellsOfWorld(t, "step", w, what{i, r.IntN(n + 1), r.IntN(m.Lps), r.IntN(bag + 1), r.IntN(4), r.IntN(2), randomVector(r), r.IntN(4) > 0})
			steps += n
		}
	}
	if steps < 500 {
		t.Error("not much was tried:", steps)
	}
}

// Worlds of which some numbers are others are what the words of the document say.
func TestChangedWorlds(t *testing.T) {
	t.Parallel()
	r := newRandom(101)
	var fine, wrong int
	for _, m := range askingModels() {
		w, _ := impl.WorldNew(m)
		for range 6 {
			for range 6 {
				w = anyDeed(t, r, w, 6)
				w = stirred(t, r, w, 3)
			}
			n := len(w.Branches)
			if n == 0 {
				break
			}
			other := plain(w)
			for range r.IntN(3) {
				forge(r, &other.Branches[r.IntN(n)])
			}
			for _, d := range vectorsOf(other)[:r.IntN(n)] {
				d[r.IntN(4)] = r.IntN(3) - 1
			}
			i := r.IntN(n)
			at := lateOne(r, other.Branches[i])
			a := tellsOfWorld(t, "changed", other, what{i, r.IntN(n), r.IntN(m.Lps), at, r.IntN(4), r.IntN(2), randomVector(r), r.IntN(3) > 0})
			if !a.WorldOk {
				wrong++
				continue
			}
			fine++
			for _, x := range []worldOutcome{a.Branch, a.Pick, a.Deliver, a.Prune, a.Force, a.Explore} {
				if !same(x.World, impl.World{}) && !impl.WorldOk(x.World) {
					t.Fatalf("no world is left: %+v", x.World)
				}
			}
		}
	}
	if min(fine, wrong) < 60 {
		t.Error("not much was tried:", fine, wrong)
	}
}
