package tests

import (
	"math/rand/v2"
	"slices"
	"testing"

	"loop.example/g00603/impl"
)

// hive is a model of so many parts that send each other events, tell what they know, and now and then ask.
func hive(r *rand.Rand, lps int) impl.Model {
	m := impl.Model{Lps: lps, Seed: r.IntN(65536), End: 15 + r.IntN(30)}
	for range lps {
		m.Init = append(m.Init, r.IntN(1000))
	}
	kinds := 1 + r.IntN(4)
	for range kinds {
		handler := []impl.Op{{Code: impl.OpTake, A: r.IntN(2)}, {Code: impl.OpEmit}}
		for range 1 + r.IntN(2) {
			handler = append(handler, impl.Op{Code: impl.OpSend, A: r.IntN(lps), B: 1 + r.IntN(6), C: r.IntN(kinds)})
		}
		for _, o := range []impl.Op{
			{Code: impl.OpDraw, A: r.IntN(2), B: 1 + r.IntN(999)}, {Code: impl.OpAdd, A: r.IntN(2), B: r.IntN(1000)},
			{Code: impl.OpSkip, A: r.IntN(2), B: r.IntN(1000), C: 1 + r.IntN(3)}, {Code: impl.OpAsk, A: r.IntN(4), B: r.IntN(2)},
		} {
			if r.IntN(5) < 2 {
				handler = slices.Insert(handler, r.IntN(len(handler)+1), o)
			}
		}
		m.Handlers = append(m.Handlers, handler)
	}
	for i := range 1 + r.IntN(6) {
		m.Start = append(m.Start, impl.Event{Time: r.IntN(8), Src: -1, Seq: i, Dst: r.IntN(lps), Kind: r.IntN(kinds), Val: r.IntN(1000), Tag: i})
	}
	return m
}

// storm is a model in which each event sends as many as there may be.
func storm(r *rand.Rand, lps int) impl.Model {
	m := sizedModel(lps, 2, 0, 6)
	m.End = 300
	for i := range 8 {
		m.Handlers[0] = append(m.Handlers[0], impl.Op{Code: impl.OpSend, A: r.IntN(lps), B: 1 + i, C: 1})
		m.Handlers[1] = append(m.Handlers[1], impl.Op{Code: impl.OpSend, A: r.IntN(lps), B: 1 + r.IntN(9)})
	}
	return m
}

// busyModels are models of one to four parts in which something happens.
func busyModels() []impl.Model {
	r := newRandom(81)
	l := []impl.Model{threeParts(), workshop(), ticking(250, 999), storm(r, 1), storm(r, 2), storm(r, 3), storm(r, 4)}
	for i := range 72 {
		l = append(l, hive(r, 1+i%4))
	}
	for range 60 {
		l = append(l, lively(r))
	}
	return slices.DeleteFunc(l, func(m impl.Model) bool {
		h, _ := impl.Sequence(m, []int{1, 0, 1, 0}, m.End)
		return len(h.Events) < 8
	})
}

// playful are numbers for Play, of which so many of ten hand on.
func playful(r *rand.Rand, n int, handed int) []int {
	l := make([]int, n)
	for i := range l {
		l[i] = 2 * r.IntN(5000)
		if r.IntN(10) < handed {
			l[i]++
		}
	}
	return l
}

// eachKernel calls try with kernels at their beginning, by all sorts of vectors, half of them whole.
func eachKernel(t *testing.T, seed uint64, try func(r *rand.Rand, k impl.Kernel)) {
	t.Helper()
	r := newRandom(seed)
	parts := map[int]int{}
	for _, m := range busyModels() {
		d := randomVector(r)
		if r.IntN(2) == 0 {
			d = []int{r.IntN(2), r.IntN(2), r.IntN(2), r.IntN(2)}
		}
		k, ok := impl.KernelNew(m, d)
		if !ok {
			t.Fatal(m)
		}
		parts[m.Lps]++
		try(r, k)
	}
	for lps := 1; lps <= 4; lps++ {
		if parts[lps] < 5 {
			t.Error("hardly any of", lps, "parts")
		}
	}
}

func played(t *testing.T, k impl.Kernel, script ...int) impl.Kernel {
	t.Helper()
	after, n := impl.Play(k, script)
	if n < 0 || n > len(script) {
		t.Fatal(n, k)
	}
	return after
}

// Whatever is done, in any order, is what the words of the document say of it.
func TestKernelsStepByStep(t *testing.T) {
	t.Parallel()
	var late, taken, early int
	eachKernel(t, 82, func(r *rand.Rand, k impl.Kernel) {
		for _, handed := range []int{2, 4, 7} {
			for _, s := range playful(r, 8, handed) {
				w := wish{r.IntN(k.M.Lps), r.IntN(len(k.Bag) + 1), playful(r, r.IntN(4), 5), r.IntN(20) > 0}
				x := tells(t, "step", k, w)
				if x.Straggles {
					late++
				}
				if x.Straggles && k.Bag[w.i].Anti {
					taken++
				}
				for _, p := range k.Parts {
					early += len(p.Antis)
				}
				k = playOf(k, []int{s}).Kernel
				if r.IntN(20) == 0 {
					k = collectOf(k).Kernel
				}
			}
			k = playOf(k, playful(r, r.IntN(60), handed)).Kernel
		}
	})
	if late < 100 || taken < 10 || early < 50 {
		t.Error("not much was tried:", late, taken, early)
	}
}

// forge changes some numbers of k to others that are near, at a bound, or taken from elsewhere in it.
func forge(r *rand.Rand, k *impl.Kernel) {
	l := numbersOf(k)
	for range r.IntN(3) {
		n := l[r.IntN(len(l))]
		switch r.IntN(4) {
		case 0:
			*n.x = n.any(r)
		case 1:
			*n.x += r.IntN(3) - 1
		default:
			*n.x = *l[r.IntN(len(l))].x
		}
	}
	if len(k.Bag) > 0 && r.IntN(4) == 0 {
		i := r.IntN(len(k.Bag))
		k.Bag[i].Anti = !k.Bag[i].Anti
	}
	if past := k.Parts[r.IntN(k.M.Lps)].Past; len(past) > 0 {
		i := r.IntN(len(past))
		switch r.IntN(4) {
		case 0:
			past[i].E.Kind = 3
		case 1:
			past[i].E.Src, past[i].E.Seq = past[i/2].E.Src, past[i/2].E.Seq
		}
	}
}

// lateOne is the place of one in Bag that would undo something, if there is one, else any.
func lateOne(r *rand.Rand, k impl.Kernel) int {
	for i := range k.Bag {
		if impl.Straggles(k, i) {
			return i
		}
	}
	return r.IntN(len(k.Bag) + 1)
}

// Kernels of which some numbers are others are what the words of the document say.
func TestChangedKernels(t *testing.T) {
	t.Parallel()
	var fine, wrong, stuck, uncollected int
	eachKernel(t, 83, func(r *rand.Rand, k impl.Kernel) {
		for range 12 {
			k = playOf(k, playful(r, r.IntN(12), 4)).Kernel
			if r.IntN(6) == 0 {
				k = collectOf(k).Kernel
			}
			i := lateOne(r, k)
			other := plain(k)
			forge(r, &other)
			x := tells(t, "changed", other, wish{r.IntN(other.M.Lps), i, playful(r, r.IntN(6), 5), r.IntN(8) > 0})
			if !x.KernelOk {
				wrong++
				continue
			}
			fine++
			mayGoOn(t, other, x)
			if !x.Deliver.Ok && i < len(other.Bag) {
				stuck++
			}
			if len(x.Committed.History.Events) > len(other.Sure) && x.Collect.Number == 0 {
				uncollected++
			}
		}
	})
	if min(fine, wrong) < 300 || min(stuck, uncollected) < 8 {
		t.Error("not much was tried:", fine, wrong, stuck, uncollected)
	}
}

// mayGoOn is what is promised of all deeds: they leave a kernel that may be, and the first of all never falls.
func mayGoOn(t *testing.T, k impl.Kernel, x everything) {
	t.Helper()
	gvt, there := impl.Gvt(k)
	for name, after := range map[string]impl.Kernel{
		"Pick": x.Pick.Kernel, "Deliver": x.Deliver.Kernel, "Finish": x.Finish.Kernel, "Collect": x.Collect.Kernel, "Play": x.Play.Kernel,
	} {
		if same(after, impl.Kernel{}) {
			continue
		}
		if !impl.KernelOk(after) || !isKernel(after) {
			t.Fatalf("%s leaves no kernel: %+v of %+v", name, after, k)
		}
		if next, ok := impl.Gvt(after); ok && (!there || ahead(next, gvt)) {
			t.Fatalf("%s: %v falls to %v", name, gvt, next)
		}
	}
}

// Deeds leave a kernel that may be, and what is first of all never falls.
func TestDeedsLeaveAKernelThatMayBe(t *testing.T) {
	t.Parallel()
	for _, k := range fineKernels() {
		for lp := range k.M.Lps {
			for i := range min(max(len(k.Bag), 1), 7) {
				mayGoOn(t, k, askedOf(k, wish{lp, i, []int{2*i + 1, 2 * lp, 1, 3, 0, 2, 4}, false}))
			}
		}
	}
	eachKernel(t, 84, func(r *rand.Rand, k impl.Kernel) {
		for range 40 {
			mayGoOn(t, k, askedOf(k, wish{r.IntN(k.M.Lps), r.IntN(len(k.Bag) + 1), playful(r, 5, 5), r.IntN(4) > 0}))
			k = played(t, k, playful(r, 1+r.IntN(4), 1+r.IntN(8))...)
			if r.IntN(10) == 0 {
				k, _ = impl.Collect(k)
			}
		}
	})
}

// isBeginning fails where what is sure is no beginning of what happens; where that is full, as far as it goes.
func isBeginning(t *testing.T, sure impl.History, all impl.History) {
	t.Helper()
	if all.Full && len(sure.Events) > len(all.Events) {
		begins(t, all, sure)
		return
	}
	begins(t, sure, all)
	if !all.Full && len(sure.Events) < len(all.Events) && sure.Asks != -1 || sure.Asks != -1 && sure.Asks != all.Asks {
		t.Fatalf("%v asks ahead of %v", sure, all)
	}
}

// What is sure is a beginning of what happens, and stays.
func TestWhatIsSureIsABeginning(t *testing.T) {
	t.Parallel()
	var steps, undone, asked, full int
	eachKernel(t, 85, func(r *rand.Rand, k impl.Kernel) {
		all, _ := impl.Sequence(k.M, k.D, k.M.End)
		for _, row := range []struct{ steps, handed, collects int }{{200, 1 + r.IntN(8), 30}, {100, 1 + r.IntN(8), 0}, {400, 4, 0}} {
			k := k
			sure, _ := impl.Committed(k)
			for _, s := range playful(r, row.steps, row.handed) {
				k = played(t, k, s)
				if row.collects > 0 && r.IntN(row.collects) == 0 {
					k, _ = impl.Collect(k)
				}
				h, ok := impl.Committed(k)
				if !ok {
					t.Fatal(k)
				}
				isBeginning(t, h, all)
				begins(t, sure, h)
				if sure.Asks != -1 && h.Asks != sure.Asks || sure.Full && !h.Full {
					t.Fatalf("%v does not stay, but is %v", sure, h)
				}
				steps += len(h.Events) - len(sure.Events)
				undone += impl.Undone(k)
				sure = h
			}
			if sure.Asks != -1 {
				asked++
			}
			if sure.Full {
				full++
			}
		}
	})
	if steps < 3000 || undone < 5000 || asked < 10 || full < 3 {
		t.Error("not much was tried:", steps, undone, asked, full)
	}
}

// ends fails where a finished kernel is anything but what happens, or full.
func ends(t *testing.T, k impl.Kernel, ok bool, all impl.History) bool {
	t.Helper()
	h, _ := impl.Committed(k)
	isBeginning(t, h, all)
	if ok != impl.Idle(k) || !impl.KernelOk(k) || len(k.Bag) > 0 {
		t.Fatal("not finished:", ok, k)
	}
	if k.Full || all.Full {
		return false
	}
	if !same(h, all) || ok != (all.Asks == -1) || ok && impl.Undone(k) != 0 {
		t.Fatalf("%v, not %v", h, all)
	}
	return true
}

// Finished, what is sure is what happens, whatever was done ahead of that.
func TestFinishedIsWhatHappens(t *testing.T) {
	t.Parallel()
	var done, asked, full int
	eachKernel(t, 86, func(r *rand.Rand, k impl.Kernel) {
		all, _ := impl.Sequence(k.M, k.D, k.M.End)
		for range 6 {
			k := k
			for range r.IntN(5) {
				k = played(t, k, playful(r, r.IntN(50), 1+r.IntN(8))...)
				if r.IntN(3) == 0 {
					k, _ = impl.Collect(k)
				}
			}
			after, ok := impl.Finish(k)
			if !ends(t, after, ok, all) {
				full++
				continue
			}
			if ok {
				done++
			} else {
				asked++
			}
		}
	})
	if min(done, asked, full) < 30 {
		t.Error("not much was tried:", done, asked, full)
	}
}

// Whoever asks waits at the place where it is asked for what happens there, and goes on from there by either way.
func TestAskedForOneByOne(t *testing.T) {
	t.Parallel()
	places := 0
	var goOn func(r *rand.Rand, k impl.Kernel)
	goOn = func(r *rand.Rand, k impl.Kernel) {
		k = played(t, k, playful(r, r.IntN(80), 1+r.IntN(8))...)
		if r.IntN(3) == 0 {
			k, _ = impl.Collect(k)
		}
		all, _ := impl.Sequence(k.M, k.D, k.M.End)
		k, ok := impl.Finish(k)
		if !ends(t, k, ok, all) || all.Asks == -1 {
			return
		}
		place, there := impl.Gvt(k)
		place.Tag = 0
		whole := slices.Clone(k.D)
		for i := range whole {
			whole[i] = max(whole[i], 0)
		}
		rest, _ := impl.Sequence(k.M, whole, k.M.End)
		if n := len(all.Events); !there || n >= len(rest.Events) || place != rest.Events[n] || all.Asks != k.Asks {
			t.Fatalf("it waits at %v", place)
		}
		places++
		for way := range 2 {
			next := plain(k)
			next.D[k.Asks], next.Asks = way, -1
			goOn(r, next)
		}
	}
	r := newRandom(87)
	for _, m := range append(busyModels(), ticking(100, 40)) {
		k, _ := impl.KernelNew(m, undecided)
		goOn(r, k)
	}
	if places < 40 {
		t.Error("only", places, "places")
	}
}

// apartFromKept is k without what Collect may take away.
func apartFromKept(k impl.Kernel) impl.Kernel {
	k = plain(k)
	k.Sure, k.Told = nil, nil
	noPast(&k)
	return k
}

// Behind a collection the same is sure, and no more is kept; what comes then is the same.
func TestCollectLeavesTheSame(t *testing.T) {
	t.Parallel()
	collected := 0
	eachKernel(t, 88, func(r *rand.Rand, k impl.Kernel) {
		short := k
		for range 25 {
			script := playful(r, r.IntN(15), 1+r.IntN(8))
			next, n := impl.Play(k, script)
			shortNext, m := impl.Play(short, script)
			if next.Full || shortNext.Full {
				return // What was collected has more room.
			}
			if n != m || !same(apartFromKept(next), apartFromKept(shortNext)) {
				t.Fatalf("%+v, not %+v", shortNext, next)
			}
			k, short = next, shortNext
			before, kept := short, impl.Held(short)
			gvt, there := impl.Gvt(short)
			short, m = impl.Collect(short)
			if m != len(short.Sure)-len(before.Sure) || impl.Held(short) > kept || !impl.KernelOk(short) || impl.Undone(short) != impl.Undone(before) {
				t.Fatalf("%+v of %+v", short, before)
			}
			if e, ok := impl.Gvt(short); e != gvt || ok != there {
				t.Fatal("another is first:", e)
			}
			collected += m
			sure, _ := impl.Committed(k)
			shortSure, _ := impl.Committed(short)
			if !same(sure, shortSure) || !slices.Equal(shortSure.Events, short.Sure) || !slices.Equal(shortSure.Emits, short.Told) {
				t.Fatalf("%v, not %v", shortSure, sure)
			}
			for lp := range k.Parts {
				if l := short.Parts[lp].Past; !same(l, k.Parts[lp].Past[len(k.Parts[lp].Past)-len(l):]) {
					t.Fatal("other things are kept:", l)
				}
			}
			if again, n := impl.Collect(short); n != 0 || !same(again, short) {
				t.Fatal("it is collected twice:", n)
			}
		}
		next, ok := impl.Finish(k)
		shortNext, fine := impl.Finish(short)
		if !next.Full && !shortNext.Full && (ok != fine || !same(apartFromKept(next), apartFromKept(shortNext))) {
			t.Fatalf("%+v, not %+v", shortNext, next)
		}
	})
	if collected < 500 {
		t.Error("only", collected, "were collected")
	}
}

// A script is played number by number, and each number is a Pick or a Deliver.
func TestScriptsNumberByNumber(t *testing.T) {
	t.Parallel()
	eachKernel(t, 89, func(r *rand.Rand, k impl.Kernel) {
		for range 4 {
			script := playful(r, 60, 1+r.IntN(8))
			all, n := impl.Play(k, script)
			cut := r.IntN(len(script))
			half, a := impl.Play(k, script[:cut])
			other, b := impl.Play(half, script[cut:])
			if a+b != n || !same(other, all) {
				t.Fatal("not the same in two")
			}
			count := 0
			for _, s := range script {
				var did bool
				after := k
				if s%2 == 0 {
					after, did = impl.Pick(k, s/2%k.M.Lps)
				} else if len(k.Bag) > 0 {
					after, did = impl.Deliver(k, s/2%len(k.Bag))
				}
				if did {
					count++
				}
				k = after
			}
			if count != n || !same(k, all) {
				t.Fatalf("%d, not %d: %+v, not %+v", n, count, all, k)
			}
		}
	})
}

// What would undo something is not behind all that was done; what would undo nothing is, or was not done.
func TestStraggles(t *testing.T) {
	t.Parallel()
	var late, fine int
	eachKernel(t, 90, func(r *rand.Rand, k impl.Kernel) {
		for range 12 {
			k = played(t, k, playful(r, r.IntN(20), 1+r.IntN(6))...)
			for i, mail := range k.Bag[:min(len(k.Bag), 12)] {
				p := k.Parts[mail.E.Dst]
				last, there := impl.Last(p)
				undoes := there && !ahead(last, mail.E)
				if known := hasTag(eventsIn(p)[:len(p.Past)], mail.E.Tag); mail.Anti && !known || !mail.Anti && slices.Contains(p.Antis, mail.E.Tag) {
					undoes = false
				}
				if impl.Straggles(k, i) != undoes {
					t.Fatalf("%v in %v", mail, p)
				}
				after, ok := impl.Deliver(k, i)
				if !ok || undoes != (len(after.Parts[mail.E.Dst].Past) < len(p.Past)) {
					t.Fatalf("%v in %v", mail, p)
				}
				if undoes {
					late++
				} else {
					fine++
				}
			}
		}
	})
	if min(late, fine) < 300 {
		t.Error("not much was tried:", late, fine)
	}
}
