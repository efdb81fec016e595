package tests

import (
	"math/rand/v2"
	"reflect"
	"slices"
	"strconv"
	"testing"

	"loop.example/g00603/impl"
)

// worldOutcome is what a function of worlds answers; what it does not answer is its zero value.
type worldOutcome struct {
	World   impl.World
	History impl.History
	Ok      bool
}

// allOfWorld is what all functions of worlds answer to one of them.
type allOfWorld struct {
	WorldOk  bool
	Branch   worldOutcome
	Pick     worldOutcome
	Deliver  worldOutcome
	Prune    worldOutcome
	Force    worldOutcome
	Explore  worldOutcome
	Vectors  [][]int
	Covers   int
	Live     int
	Gone     int
	Answers  worldOutcome
	Siblings int
}

// what is what some of these functions want beside the world, and whether to leave out Explore, which takes long.
type what struct {
	i, k    int
	lp, at  int
	dec, v  int
	d       []int
	briefly bool
}

func askedOfWorld(w impl.World, x what) allOfWorld {
	var a allOfWorld
	a.WorldOk = impl.WorldOk(w)
	a.Branch.World, a.Branch.Ok = impl.Branch(w, x.i)
	a.Pick.World, a.Pick.Ok = impl.WorldPick(w, x.i, x.lp)
	a.Deliver.World, a.Deliver.Ok = impl.WorldDeliver(w, x.i, x.at)
	a.Prune.World, a.Prune.Ok = impl.Prune(w, x.i)
	a.Force.World, a.Force.Ok = impl.Force(w, x.i, x.dec, x.v)
	if !x.briefly {
		a.Explore.World, a.Explore.Ok = impl.Explore(w)
	}
	a.Vectors = impl.Vectors(w)
	a.Covers = impl.Covers(w, x.d)
	a.Live = impl.Live(w)
	a.Gone = impl.Gone(w)
	a.Answers.History, a.Answers.Ok = impl.Answers(w, x.d)
	a.Siblings = impl.Siblings(w, x.i, x.k)
	return a
}

// fixedOfWorld is what is answered to a world that may not be.
func fixedOfWorld() allOfWorld {
	return allOfWorld{Covers: -1, Siblings: -1}
}

// wordsOfWorld is what is to be answered, told anew by the words of the document.
func wordsOfWorld(w impl.World, x what) allOfWorld {
	a := fixedOfWorld()
	if !isWorld(w) {
		return a
	}
	a.WorldOk = true
	n := len(w.Branches)
	if x.i >= 0 && x.i < n {
		a.Branch = branchOf(w, x.i)
		if x.lp >= 0 && x.lp < w.M.Lps {
			a.Pick = withRun(w, x.i, pickOf(w.Branches[x.i], x.lp))
		}
		if x.at >= 0 && x.at < len(w.Branches[x.i].Bag) {
			a.Deliver = withRun(w, x.i, deliverOf(w.Branches[x.i], x.at))
		}
		a.Prune = pruneOf(w, x.i)
		a.Force = forceOf(w, x.i, x.dec, x.v)
	}
	if !x.briefly {
		a.Explore = exploreOf(w)
	}
	for i, k := range w.Branches {
		a.Vectors = append(a.Vectors, k.D)
		a.Live += len(wholesIn(k.D))
		if a.Covers == -1 && impl.VectorOk(x.d) && wholesOf(k.D)&wholesOf(x.d) != 0 {
			a.Covers = i
		}
	}
	for _, d := range w.Cut {
		a.Gone += len(wholesIn(d))
	}
	if a.Covers >= 0 && !slices.Contains(x.d, -1) {
		a.Answers = worldOutcome{History: committedOf(w.Branches[a.Covers]), Ok: true}
	}
	if x.i >= 0 && x.i < n && x.k >= 0 && x.k < n && x.i != x.k {
		a.Siblings = siblingsOf(w.Branches[x.i].D, w.Branches[x.k].D)
	}
	return a
}

// tellsOfWorld fails where any function answers w otherwise than the words of the document, writes or shares.
func tellsOfWorld(t *testing.T, name string, w impl.World, x what) allOfWorld {
	t.Helper()
	w, x.d = roomy(w), roomy(x.d)
	want := wordsOfWorld(w, x)
	got := askedOfWorld(w, x)
	for i := range reflect.TypeFor[allOfWorld]().NumField() {
		g, wanted := reflect.ValueOf(got).Field(i).Interface(), reflect.ValueOf(want).Field(i).Interface()
		if !same(g, wanted) {
			t.Fatalf("%s: %s: %+v, not %+v, of %+v by %+v", name, reflect.TypeFor[allOfWorld]().Field(i).Name, g, wanted, w, x)
		}
	}
	answers(t, name, want, func() allOfWorld { return askedOfWorld(w, x) }, w, x.d)
	return want
}

// refusesWorld fails where any function gives another than its fixed answer.
func refusesWorld(t *testing.T, name string, w impl.World) {
	t.Helper()
	for _, x := range []what{{d: []int{0, 0, 0, 0}, k: 1}, {i: 1, k: 0, dec: 3, v: 1, d: []int{1, 1, -1, 0}}, {i: len(w.Branches) - 1, d: undecided}} {
		if isWorld(w) {
			t.Fatal("a world:", name)
		}
		if a := tellsOfWorld(t, name, w, x); !same(a, fixedOfWorld()) {
			t.Fatal(name, a)
		}
	}
}

// wholesOf has a bit for each whole vector that d leaves open.
func wholesOf(d []int) int {
	bits := 0
	for whole := range 16 {
		open := 1
		for dec, x := range d {
			if x >= 0 && x != whole>>dec&1 {
				open = 0
			}
		}
		bits |= open << whole
	}
	return bits
}

// isWorld tells WorldOk anew, by the words of the document.
func isWorld(w impl.World) bool {
	if !impl.ModelOk(w.M) || len(w.Branches) > 16 || len(w.Cut) > 100 {
		return false
	}
	for _, k := range w.Branches {
		if !isKernel(k) || !slices.Equal(bytesOf(k.M), bytesOf(w.M)) {
			return false
		}
	}
	taken := 0
	for _, d := range slices.Concat(vectorsOf(w), w.Cut) {
		if !impl.VectorOk(d) || taken&wholesOf(d) != 0 {
			return false
		}
		taken |= wholesOf(d)
	}
	return true
}

func vectorsOf(w impl.World) [][]int {
	var l [][]int
	for _, k := range w.Branches {
		l = append(l, k.D)
	}
	return l
}

// withRun is w with what became of one of its runs.
func withRun(w impl.World, i int, x kernelOutcome) worldOutcome {
	w.Branches = slices.Clone(w.Branches)
	w.Branches[i] = x.Kernel
	return worldOutcome{World: w, Ok: x.Ok}
}

func branchOf(w impl.World, i int) worldOutcome {
	k := w.Branches[i]
	if k.Asks == -1 || k.D[k.Asks] != -1 || len(w.Branches) == 16 {
		return worldOutcome{World: w}
	}
	no, yes := k, k
	no.D, yes.D = with(k.D, k.Asks, 0), with(k.D, k.Asks, 1)
	no.Asks, yes.Asks = -1, -1
	w.Branches = append(slices.Clone(w.Branches), yes)
	w.Branches[i] = no
	return worldOutcome{World: w, Ok: true}
}

func pruneOf(w impl.World, i int) worldOutcome {
	if len(w.Cut) == 100 {
		return worldOutcome{}
	}
	w.Cut = append(slices.Clone(w.Cut), w.Branches[i].D)
	w.Branches = slices.Delete(slices.Clone(w.Branches), i, i+1)
	return worldOutcome{World: w, Ok: true}
}

func forceOf(w impl.World, i int, dec int, v int) worldOutcome {
	if dec < 0 || dec > 3 || v != 0 && v != 1 || len(w.Cut) == 100 {
		return worldOutcome{}
	}
	k := w.Branches[i]
	if k.D[dec] != -1 {
		return worldOutcome{World: w}
	}
	w.Cut = append(slices.Clone(w.Cut), with(k.D, dec, 1-v))
	k.D = with(k.D, dec, v)
	if k.Asks == dec {
		k.Asks = -1
	}
	return withRun(w, i, kernelOutcome{Kernel: k, Ok: true})
}

// exploreOf takes Finish as it is: that has tests of its own, and told anew it takes long.
func exploreOf(w impl.World) worldOutcome {
	ended := map[int]bool{}
	for i := 0; i < len(w.Branches); {
		k, ok := impl.Finish(w.Branches[i])
		w = withRun(w, i, kernelOutcome{Kernel: k}).World
		ended[i] = ok
		if !ok {
			if after := branchOf(w, i); after.Ok {
				w = after.World
				continue
			}
		}
		i++
	}
	for i := range w.Branches {
		if !ended[i] {
			return worldOutcome{World: w}
		}
	}
	return worldOutcome{World: w, Ok: true}
}

func siblingsOf(a []int, b []int) int {
	n := 0
	for i := range a {
		if a[i]+b[i] == 1 && a[i]*b[i] == 0 {
			n++
		}
	}
	return n
}

// forks is a model of one part that asks for decisions 0, 1 and 2, and for 3 where so many of these are yes.
func forks(yes int) impl.Model {
	return impl.Model{
		Lps: 1, Init: []int{0}, End: 20,
		Handlers: [][]impl.Op{
			{{Code: impl.OpEmit}, {Code: impl.OpAsk, A: 0, B: 0}, {Code: impl.OpSend, B: 1, C: 1}},
			{{Code: impl.OpTake, A: 1}, {Code: impl.OpAsk, A: 1, B: 0}, {Code: impl.OpEmit}, {Code: impl.OpSend, B: 2, C: 2}},
			{{Code: impl.OpTake, A: 1}, {Code: impl.OpAsk, A: 2, B: 0}, {Code: impl.OpSend, B: 3, C: 3}, {Code: impl.OpEmit, A: 1}},
			{{Code: impl.OpTake, A: 1}, {Code: impl.OpSkip, A: 1, B: yes, C: 2}, {Code: impl.OpAsk, A: 3, B: 0}, {Code: impl.OpEmit}, {Code: impl.OpEmit, A: 1}},
		},
		Start: []impl.Event{{Time: 1, Src: -1, Val: 9}},
	}
}

// someWorld has three runs as someKernel, each with other decisions, and two ways cut off; what is not of these is of no run.
func someWorld() impl.World {
	w := impl.World{M: workshop(), Cut: [][]int{{-1, 1, 1, 1}, {1, 1, 0, 1}}}
	for i, d := range [][]int{{0, 1, -1, 0}, {1, 1, -1, 0}, {-1, 0, -1, -1}} {
		k := someKernel()
		k.D = d
		k.Asks = []int{2, 1, -1}[i]
		w.Branches = append(w.Branches, k)
	}
	return w
}

// ofVectors is a world with a run at its beginning for each of these vectors, and those cut off.
func ofVectors(m impl.Model, made [][]int, cut [][]int) impl.World {
	w := impl.World{M: m, Cut: cut}
	for _, d := range made {
		w.Branches = append(w.Branches, kernelFor(m, d))
	}
	return w
}

// parted are so many vectors, one to sixteen, that leave all whole ones open together, and no two of which meet.
func parted(r *rand.Rand, n int) [][]int {
	l := [][]int{slices.Clone(undecided)}
	for len(l) < n {
		i := r.IntN(len(l))
		if !slices.Contains(l[i], -1) {
			continue
		}
		dec := r.IntN(4)
		for l[i][dec] != -1 {
			dec = (dec + 1) % 4
		}
		l = append(l, with(l[i], dec, 1))
		l[i] = with(l[i], dec, 0)
	}
	r.Shuffle(n, func(i int, k int) { l[i], l[k] = l[k], l[i] })
	return l
}

// fineWorlds are all sorts of worlds, with each limit that can be met.
func fineWorlds() map[string]impl.World {
	some := someWorld()
	m := threeParts()
	wholes := wholeVectors()
	l := map[string]impl.World{
		"some":                    some,
		"new":                     ofVectors(m, [][]int{undecided}, nil),
		"no run":                  {M: m},
		"no run, empty lists":     {M: m, Branches: []impl.Kernel{}, Cut: [][]int{}},
		"no run, all cut off":     {M: m, Cut: [][]int{undecided}},
		"no run, cut off 16 ways": {M: m, Cut: wholes},
		"no run, some cut off":    {M: m, Cut: [][]int{{0, -1, 1, -1}, {1, -1, -1, -1}}},
		"15 runs":                 ofVectors(m, wholes[1:], nil),
		"15 runs, the other cut":  ofVectors(m, wholes[:15], wholes[15:]),
		"15 runs, one wider":      ofVectors(m, append(slices.Clone(wholes[2:]), []int{0, 0, 0, -1}), nil),
		"16 runs":                 ofVectors(m, wholes, nil),
		"1 run, 15 cut off":       ofVectors(m, wholes[5:6], append(slices.Clone(wholes[6:]), wholes[:5]...)),
		"8 runs, 8 cut off":       ofVectors(m, wholes[4:12], append(slices.Clone(wholes[12:]), wholes[:4]...)),
		"a whole one":             ofVectors(m, [][]int{{0, 1, 0, 1}}, nil),
		"far apart":               ofVectors(m, [][]int{{0, -1, -1, -1}, {1, -1, -1, 0}}, [][]int{{1, 1, -1, 1}}),
	}
	for name, k := range map[string]impl.Kernel{
		"2000 in Bag":   sized(size{bag: 2000}),
		"2000 in Todo":  sized(size{todo: 2000}),
		"16000 in Told": sized(size{told: 16000}),
		"600 in Past":   sized(size{past: 600, sure: 100}),
		"it is Full":    changed(sized(size{past: 5}), func(k *impl.Kernel) { k.Full = true }),
	} {
		other := plain(k)
		k.D, other.D = []int{-1, 0, 1, -1}, []int{-1, 1, 1, -1}
		k.Asks, other.Asks = 3, 1
		l[name] = impl.World{M: yard(), Branches: []impl.Kernel{k, other}}
	}
	return l
}

// wrongWorlds are worlds that may not be, each for one reason.
func wrongWorlds() map[string]impl.World {
	m := threeParts()
	wholes := wholeVectors()
	l := map[string]impl.World{
		"the zero value":    {},
		"no model, no run":  {Cut: [][]int{undecided}},
		"17 runs":           ofVectors(m, append(slices.Clone(wholes), wholes[3]), nil),
		"17 runs, one wide": ofVectors(m, append(slices.Clone(wholes), undecided), nil),
		"two alike":         ofVectors(m, [][]int{undecided, undecided}, nil),
		"two whole alike":   ofVectors(m, [][]int{wholes[5], wholes[6], wholes[5]}, nil),
		"two meet":          ofVectors(m, [][]int{{0, -1, -1, -1}, {1, -1, 0, -1}, {-1, 0, 1, -1}}, nil),
		"one wider":         ofVectors(m, [][]int{{0, 1, -1, -1}, {1, 1, -1, -1}, {0, 1, 0, 1}}, nil),
		"two cut alike":     ofVectors(m, [][]int{{0, -1, -1, -1}}, [][]int{{1, 0, -1, -1}, {1, 0, -1, -1}}),
		"two cut meet":      ofVectors(m, [][]int{{0, -1, -1, -1}}, [][]int{{1, 0, -1, -1}, {1, 1, -1, -1}, {1, -1, 1, 0}}),
		"two cut, no run":   {M: m, Cut: [][]int{{-1, -1, -1, 0}, undecided}},
		"one of each":       ofVectors(m, [][]int{{0, -1, -1, -1}, {1, -1, 0, -1}}, [][]int{{1, -1, 1, -1}, {-1, 1, 0, 1}}),
		"one of each alike": ofVectors(m, [][]int{{0, -1, -1, -1}, {1, -1, 0, -1}}, [][]int{{1, -1, 1, -1}, {0, -1, -1, -1}}),
		"all and one cut":   ofVectors(m, wholes, wholes[15:]),
		"no vector is cut":  ofVectors(m, [][]int{{0, -1, -1, -1}}, [][]int{{1, -1, -1, -1}, nil}),
		"of another model":  {M: m, Branches: []impl.Kernel{kernelFor(workshop(), undecided)}},
	}
	for _, n := range []int{99, 100, 101} {
		l[strconv.Itoa(n)+" alike cut off"] = impl.World{M: m, Cut: slices.Repeat([][]int{wholes[2]}, n)}
		l[strconv.Itoa(n)+" cut off"] = ofVectors(m, [][]int{{1, 1, 1, 1}}, slices.Repeat(wholes[:15], 7)[:n])
		l[strconv.Itoa(n)+" are no vectors"] = impl.World{M: m, Cut: make([][]int, n)}
	}
	for at := range 3 {
		l["the last of Sure has a Tag, "+strconv.Itoa(at)] = changed(someWorld(), func(w *impl.World) { w.Branches[at].Sure[2].Tag = 3 })
		l["another Seed, "+strconv.Itoa(at)] = changed(someWorld(), func(w *impl.World) { w.Branches[at].M.Seed++ })
		l["another Val, "+strconv.Itoa(at)] = changed(someWorld(), func(w *impl.World) { w.Branches[at].M.Start[5].Val-- })
		l["no decisions, "+strconv.Itoa(at)] = changed(someWorld(), func(w *impl.World) { w.Branches[at].D = nil })
		l["a zero value, "+strconv.Itoa(at)] = changed(someWorld(), func(w *impl.World) { w.Branches[at] = impl.Kernel{} })
	}
	return l
}

func TestMaxBranches(t *testing.T) {
	if impl.MaxBranches != 16 {
		t.Fatal(impl.MaxBranches)
	}
}

// Every function answers each of these worlds, at each run, as the words of the document say.
func TestFineWorlds(t *testing.T) {
	t.Parallel()
	for name, w := range fineWorlds() {
		if !isWorld(w) {
			t.Fatal("no world:", name)
		}
		n := len(w.Branches)
		tellsOfWorld(t, name, w, what{d: undecided, lp: 1})
		for i := range n {
			tellsOfWorld(t, name, w, what{i, n - 1 - i, i % w.M.Lps, i % 3, i % 4, i % 2, wholeVectors()[(5*i)%16], true})
		}
	}
}

// Every function gives its fixed answer to a world that may not be.
func TestWrongWorlds(t *testing.T) {
	t.Parallel()
	for name, w := range wrongWorlds() {
		refusesWorld(t, name, w)
	}
	for name, k := range wrongKernels() {
		refusesWorld(t, name, impl.World{M: k.M, Branches: []impl.Kernel{k}})
	}
	for i, d := range wrongVectors() {
		w := changed(someWorld(), func(w *impl.World) { w.Cut[i%2] = d })
		if i%4 == 0 {
			refusesWorld(t, "a vector of Cut", w)
		}
		for _, w := range []impl.World{w, {M: w.M, Cut: [][]int{d}}, changed(someWorld(), func(w *impl.World) { w.Branches[i%3].D = d })} {
			if isWorld(w) || !same(askedOfWorld(w, what{d: undecided, k: 1}), fixedOfWorld()) {
				t.Fatal(d)
			}
		}
	}
}

// Worlds of any vectors, one of which is another now and then, are worlds just where no two meet.
func TestWorldOkOfAnyVectors(t *testing.T) {
	t.Parallel()
	r := newRandom(91)
	m := sizedModel(1, 1, 0, 0)
	var fine, wrong int
	for range 1500 {
		n := 1 + r.IntN(16)
		l := parted(r, n)
		for range r.IntN(3) {
			l[r.IntN(n)] = randomVector(r)
		}
		runs := r.IntN(n + 1)
		w := ofVectors(m, l[:runs], l[runs:])
		if impl.WorldOk(w) != isWorld(w) {
			t.Fatal(l, runs)
		}
		if isWorld(w) {
			fine++
		} else {
			wrong++
		}
	}
	if min(fine, wrong) < 300 {
		t.Error("not much was tried:", fine, wrong)
	}
	for _, a := range allVectors() {
		for _, b := range allVectors() {
			apart := wholesOf(a)&wholesOf(b) == 0
			for runs := range 3 {
				l := [][]int{a, b}
				if impl.WorldOk(ofVectors(m, l[:runs], l[runs:])) != apart {
					t.Fatal(a, b, runs)
				}
			}
		}
	}
}

func TestWorldsWithWrongNumbers(t *testing.T) {
	t.Parallel()
	w := someWorld()
	for at, n := range numbersOf(&w) {
		for i, x := range n.beyond() {
			// There are very many, and each kernel has been asked by itself: some of them will do.
			if (at+i)%8 > 0 && n.name != "World.Cut" {
				continue
			}
			wrong := withNumber(w, at, x)
			name := n.name + ", number " + strconv.Itoa(at) + ": " + strconv.Itoa(x)
			if isWorld(wrong) || !reflect.DeepEqual(askedOfWorld(wrong, what{d: []int{0, 0, 0, 0}, k: 1}), fixedOfWorld()) {
				t.Fatal(name)
			}
			if (at+i)%200 == 0 {
				refusesWorld(t, name, wrong)
			}
		}
	}
}

// A world whose model, or that of one run, is another may be just where all have the same bytes.
func TestWorldsOfOtherModels(t *testing.T) {
	t.Parallel()
	w := someWorld()
	fine, other := 0, 0
	for _, f := range modelFields(w.M) {
		for _, x := range append(f.beyond(), f.low, f.high) {
			m := f.with(w.M, x)
			l := []impl.World{
				changed(w, func(w *impl.World) { w.M = m }),
				changed(w, func(w *impl.World) { w.Branches[2].M = m }),
				changed(w, func(w *impl.World) { w.M, w.Branches = m, w.Branches[:0] }),
				changed(w, func(w *impl.World) {
					w.M = m
					for i := range w.Branches {
						w.Branches[i].M = m
					}
				}),
			}
			for _, wrong := range l {
				ok := isWorld(wrong)
				if impl.WorldOk(wrong) != ok {
					t.Fatal(f.name, x)
				}
				if ok {
					fine++
				} else if other++; !reflect.DeepEqual(askedOfWorld(wrong, what{d: []int{0, 0, 0, 0}, k: 1}), fixedOfWorld()) {
					t.Fatal(f.name, x)
				}
			}
		}
		for _, x := range []int{f.low, f.high} {
			if m := f.with(w.M, x); !same(m, w.M) {
				refusesWorld(t, f.name, changed(w, func(w *impl.World) { w.Branches[1].M = m }))
			}
		}
	}
	if min(fine, other) < 100 {
		t.Error("not much was tried:", fine, other)
	}
	for name, m := range wrongSizes() {
		wrong := w
		wrong.M = m
		if impl.WorldOk(wrong) || impl.WorldOk(impl.World{M: m}) {
			t.Fatal(name)
		}
		if name != "a million ops" {
			refusesWorld(t, name, wrong)
			refusesWorld(t, name, impl.World{M: m, Branches: []impl.Kernel{changed(w.Branches[0], func(k *impl.Kernel) { k.M = m })}})
		}
	}
	// An empty list and nil are the same: so are their bytes.
	bare := sizedModel(2, 2, 0, 0)
	empty := impl.World{M: bare, Branches: []impl.Kernel{kernelFor(bare, undecided)}}
	empty.M.Start, empty.M.Handlers = []impl.Event{}, [][]impl.Op{nil, {}}
	if !tellsOfWorld(t, "empty lists", empty, what{d: undecided}).WorldOk {
		t.Fatal("an empty list is another")
	}
}

func TestWorldOkOfFarTooMany(t *testing.T) {
	const many = 1000000
	for name, change := range map[string]func(w *impl.World){
		"Branches": func(w *impl.World) { w.Branches = make([]impl.Kernel, many/10) },
		"Cut":      func(w *impl.World) { w.Cut = make([][]int, many) },
		"a vector": func(w *impl.World) { w.Cut[1] = make([]int, many) },
		"D":        func(w *impl.World) { w.Branches[1].D = make([]int, many) },
		"Bag":      func(w *impl.World) { w.Branches[1].Bag = make([]impl.Mail, many) },
		"Start":    func(w *impl.World) { w.M.Start = make([]impl.Event, many) },
	} {
		w := someWorld()
		change(&w)
		if !reflect.DeepEqual(askedOfWorld(w, what{d: undecided, k: 1}), fixedOfWorld()) {
			t.Errorf("a million of %s are accepted", name)
		}
	}
	if impl.Covers(someWorld(), make([]int, many)) != -1 {
		t.Error("a vector of a million is covered")
	}
}

func beginsWorld(t *testing.T, name string, m impl.Model, want worldOutcome) {
	t.Helper()
	m = roomy(m)
	answers(t, name+": WorldNew", want, func() worldOutcome {
		w, ok := impl.WorldNew(m)
		return worldOutcome{World: w, Ok: ok}
	}, m)
}

func TestWorldNew(t *testing.T) {
	t.Parallel()
	for _, m := range fineModels() {
		want := ofVectors(m, [][]int{{-1, -1, -1, -1}}, nil)
		beginsWorld(t, "a model", m, worldOutcome{World: want, Ok: true})
		if !isWorld(want) || !impl.WorldOk(want) || impl.Live(want) != 16 || impl.Gone(want) != 0 {
			t.Fatal("no world:", want)
		}
	}
	for _, f := range modelFields(everyOp()) {
		for _, x := range f.beyond() {
			beginsWorld(t, f.name, f.with(everyOp(), x), worldOutcome{})
		}
	}
	for name, m := range wrongSizes() {
		if name != "a million ops" {
			beginsWorld(t, name, m, worldOutcome{})
		} else if w, ok := impl.WorldNew(m); ok || !same(w, impl.World{}) {
			t.Fatal(name)
		}
	}
}

// Where there is no such run, part, place, decision or way, the answer is the fixed one.
func TestNoSuchRuns(t *testing.T) {
	t.Parallel()
	fine := fineWorlds()
	for _, name := range []string{"some", "new", "no run", "no run, some cut off", "15 runs", "16 runs", "8 runs, 8 cut off"} {
		w := fine[name]
		n := len(w.Branches)
		for _, i := range (span{0, n - 1}).beyond() {
			a := tellsOfWorld(t, name, w, what{i: i, d: undecided, briefly: true})
			for _, x := range []worldOutcome{a.Branch, a.Pick, a.Deliver, a.Prune, a.Force} {
				if !same(x, worldOutcome{}) {
					t.Fatal(name, i, x)
				}
			}
			if a.Siblings != -1 {
				t.Fatal(name, i, a.Siblings)
			}
			if a := tellsOfWorld(t, name, w, what{k: i, d: undecided, briefly: true}); a.Siblings != -1 {
				t.Fatal(name, i, a.Siblings)
			}
		}
	}
	w := fine["some"]
	for i := range 3 {
		for _, lp := range (span{0, 3}).beyond() {
			if a := tellsOfWorld(t, "no part", w, what{i: i, lp: lp, briefly: true}); !same(a.Pick, worldOutcome{}) {
				t.Fatal(lp, a.Pick)
			}
		}
		for _, at := range (span{0, 6}).beyond() {
			if a := tellsOfWorld(t, "no place", w, what{i: i, at: at, briefly: true}); !same(a.Deliver, worldOutcome{}) {
				t.Fatal(at, a.Deliver)
			}
		}
		for _, dec := range (span{0, 3}).beyond() {
			if a := tellsOfWorld(t, "no decision", w, what{i: i, dec: dec, v: i % 2, briefly: true}); !same(a.Force, worldOutcome{}) {
				t.Fatal(dec, a.Force)
			}
		}
		for _, v := range append((span{0, 1}).beyond(), -1, 2) {
			for dec := range 4 {
				// Even where it is made already: what is wrong is named first.
				if a := tellsOfWorld(t, "no way", w, what{i: i, dec: dec, v: v, briefly: true}); !same(a.Force, worldOutcome{}) {
					t.Fatal(v, a.Force)
				}
			}
		}
	}
	// Parts are those of the model, places in Bag those of the run.
	few := fine["new"]
	if a := tellsOfWorld(t, "three parts", few, what{lp: 3}); !same(a.Pick, worldOutcome{}) || !same(a.Deliver, worldOutcome{}) {
		t.Fatal(a.Pick)
	}
	bags := changed(w, func(w *impl.World) { w.Branches[1].Bag = w.Branches[1].Bag[:3] })
	for i, there := range []bool{true, false, true} {
		if a := tellsOfWorld(t, "a place of another run", bags, what{i: i, at: 3, briefly: true}); a.Deliver.Ok != there || same(a.Deliver, worldOutcome{}) == there {
			t.Fatal(i, a.Deliver)
		}
	}
}

// A run that asks for what is not made becomes two, no in its place and yes behind all, that ask for nothing.
func TestBranch(t *testing.T) {
	t.Parallel()
	for _, d := range allVectors() {
		for asks := -1; asks < 4; asks++ {
			w := ofVectors(workshop(), [][]int{d}, nil)
			w.Branches[0] = changed(someKernel(), func(k *impl.Kernel) { k.D, k.Asks = d, asks })
			a := tellsOfWorld(t, "one run", w, what{d: d, briefly: true})
			if asks == -1 || d[asks] != -1 {
				if a.Branch.Ok || !same(a.Branch.World, w) {
					t.Fatal(d, asks, a.Branch)
				}
				continue
			}
			no, yes := plain(w.Branches[0]), plain(w.Branches[0])
			no.D[asks], yes.D[asks], no.Asks, yes.Asks = 0, 1, -1, -1
			if want := (impl.World{M: w.M, Branches: []impl.Kernel{no, yes}}); !a.Branch.Ok || !same(a.Branch.World, want) {
				t.Fatal(d, asks, a.Branch)
			}
		}
	}
	some := someWorld()
	for i, did := range []bool{true, false, false} {
		a := tellsOfWorld(t, "some", some, what{i: i, briefly: true})
		if a.Branch.Ok != did || len(a.Branch.World.Branches) != 3 && !did || did && len(a.Branch.World.Branches) != 4 {
			t.Fatal(i, a.Branch)
		}
		if after := a.Branch.World; did && (!slices.Equal(after.Branches[0].D, []int{0, 1, 0, 0}) || !slices.Equal(after.Branches[3].D, []int{0, 1, 1, 0}) ||
			!same(after.Branches[1:3], some.Branches[1:]) || !same(after.Cut, some.Cut)) {
			t.Fatal(after)
		}
	}
	// From 15 to 16, of the first run and of the last; from 16 on all is made.
	for _, at := range []int{0, 7, 14} {
		l := slices.Insert(slices.Clone(wholeVectors()[2:]), at, []int{0, 0, 0, -1})
		w := ofVectors(workshop(), l, nil)
		w.Branches[at].Asks = 3
		a := tellsOfWorld(t, "15", w, what{i: at, briefly: true})
		if !a.Branch.Ok || len(a.Branch.World.Branches) != 16 || !slices.Equal(a.Branch.World.Branches[at].D, wholeVectors()[0]) || !slices.Equal(a.Branch.World.Branches[15].D, wholeVectors()[1]) {
			t.Fatal(a.Branch)
		}
		for asks := range 4 {
			full := plain(a.Branch.World)
			full.Branches[at].Asks = asks
			if b := tellsOfWorld(t, "16", full, what{i: at, briefly: true}); b.Branch.Ok || !same(b.Branch.World, full) {
				t.Fatal(b.Branch)
			}
		}
	}
}

// A run that is pruned is gone, and its vector behind all that is cut off; all others stay as they were.
func TestPrune(t *testing.T) {
	t.Parallel()
	for name, w := range fineWorlds() {
		for i := range w.Branches {
			after, ok := impl.Prune(w, i)
			n := len(w.Cut)
			if !ok || !slices.Equal(after.Cut[n], w.Branches[i].D) || len(after.Cut) != n+1 || !same(after.Cut[:n], w.Cut) ||
				!same(after.Branches, slices.Concat(w.Branches[:i], w.Branches[i+1:])) || !same(after.M, w.M) {
				t.Fatal(name, i, after)
			}
		}
	}
	// One behind the other, from either end, until there is none.
	for _, last := range []int{0, 1} {
		w := ofVectors(threeParts(), wholeVectors(), nil)
		for n := 16; n > 0; n-- {
			a := tellsOfWorld(t, "pruned", w, what{i: last * (n - 1), d: wholeVectors()[n-1], briefly: true})
			if !a.Prune.Ok || len(a.Prune.World.Branches) != n-1 || len(a.Prune.World.Cut) != 17-n {
				t.Fatal(n, a.Prune)
			}
			w = a.Prune.World
		}
		if a := tellsOfWorld(t, "none", w, what{d: undecided}); !same(a.Prune, worldOutcome{}) || a.Gone != 16 || a.Live != 0 || !a.Explore.Ok || !same(a.Explore.World, w) {
			t.Fatal(a)
		}
	}
}

// A decision is made one way, and the other is cut off; if it was asked for, nothing is any more.
func TestForce(t *testing.T) {
	t.Parallel()
	for _, d := range allVectors() {
		for asks := -1; asks < 4; asks++ {
			for dec := range 4 {
				v := (asks + dec + d[3] + 3) % 2
				w := ofVectors(workshop(), [][]int{d}, nil)
				w.Branches[0] = changed(someKernel(), func(k *impl.Kernel) { k.D, k.Asks = d, asks })
				after, ok := impl.Force(w, 0, dec, v)
				want := plain(w)
				if d[dec] == -1 {
					want.Cut = [][]int{with(d, dec, 1-v)}
					want.Branches[0].D[dec] = v
					if asks == dec {
						want.Branches[0].Asks = -1
					}
				}
				if ok != (d[dec] == -1) || !same(after, want) {
					t.Fatal(d, asks, dec, v, after)
				}
			}
		}
	}
	some := someWorld()
	for i := range 3 {
		for dec := range 4 {
			for v := range 2 {
				a := tellsOfWorld(t, "some", some, what{i: i, k: 2 - i, dec: dec, v: v, d: some.Branches[i].D, briefly: true})
				if open := some.Branches[i].D[dec] == -1; a.Force.Ok != open || open && len(a.Force.World.Cut) != 3 || !open && !same(a.Force.World, some) {
					t.Fatal(i, dec, v, a.Force)
				}
			}
		}
	}
	// One decision behind the other, until the run is whole.
	w := ofVectors(threeParts(), [][]int{undecided}, nil)
	for n, dec := range []int{2, 0, 3, 1} {
		a := tellsOfWorld(t, "forced", w, what{dec: dec, v: n % 2, d: []int{1, 1, 0, 0}, briefly: true})
		w = a.Force.World
		if !a.Force.Ok || len(w.Cut) != n+1 || impl.Live(w) != 8>>n || impl.Gone(w) != 16-8>>n {
			t.Fatal(n, a.Force)
		}
	}
	if !same(w.Cut, [][]int{{-1, -1, 1, -1}, {0, -1, 0, -1}, {1, -1, 0, 1}, {1, 0, 0, 0}}) || !slices.Equal(w.Branches[0].D, []int{1, 1, 0, 0}) {
		t.Fatal(w.Cut)
	}
}

// What a run does in a world is what it does by itself, and no other does anything.
func TestWorldPickAndDeliver(t *testing.T) {
	t.Parallel()
	some := someWorld()
	for i := range some.Branches {
		for lp := range 4 {
			after, did := impl.WorldPick(some, i, lp)
			k, want := impl.Pick(some.Branches[i], lp)
			if did != want || !same(after, withRun(some, i, kernelOutcome{Kernel: k}).World) {
				t.Fatal(i, lp, after)
			}
		}
		for at := range some.Branches[i].Bag {
			after, did := impl.WorldDeliver(some, i, at)
			k, want := impl.Deliver(some.Branches[i], at)
			if did != want || !did || !same(after, withRun(some, i, kernelOutcome{Kernel: k}).World) {
				t.Fatal(i, at, after)
			}
		}
	}
	// Being Full, and asking, are nothing; but the run is so behind it.
	asking := changed(sized(size{past: 3}), func(k *impl.Kernel) { k.D[2], k.Parts[0].Todo[0].Kind = -1, 1 })
	full := changed(sized(size{past: 3}), func(k *impl.Kernel) { k.D[2], k.Tag = 1, 99977 })
	w := impl.World{M: yard(), Branches: []impl.Kernel{full, asking}}
	w.Branches[1].D = []int{0, 0, -1, 1}
	if a := tellsOfWorld(t, "asks", w, what{i: 1}); a.Pick.Ok || a.Pick.World.Branches[1].Asks != 2 || a.Pick.World.Branches[0].Full {
		t.Fatal(a.Pick)
	}
	if a := tellsOfWorld(t, "full", w, what{i: 0}); a.Pick.Ok || !a.Pick.World.Branches[0].Full || a.Pick.World.Branches[1].Asks != -1 {
		t.Fatal(a.Pick)
	}
	// Nothing to do: the world stays.
	if a := tellsOfWorld(t, "nothing", w, what{i: 1, lp: 2}); a.Pick.Ok || !same(a.Pick.World, w) {
		t.Fatal(a.Pick)
	}
	// Where what is handed on has no room, the world stays.
	comes := impl.Mail{E: impl.Event{Time: 505, Src: 1, Dst: 3, Kind: 2, Tag: 5}}
	for above := range 2 {
		w.Branches[0] = changed(sized(size{todo: 1999 + above}), func(k *impl.Kernel) { k.Bag = []impl.Mail{comes} })
		if a := tellsOfWorld(t, "no room", w, what{i: 0}); a.Deliver.Ok == (above == 1) || same(a.Deliver.World, w) != (above == 1) {
			t.Fatal(above, a.Deliver.Ok)
		}
	}
}

// How many are unlike, of each two runs, from both sides; a run and itself are not two.
func TestSiblings(t *testing.T) {
	t.Parallel()
	m := sizedModel(1, 1, 0, 0)
	w := ofVectors(m, wholeVectors(), nil)
	for i := range 16 {
		for k := range 16 {
			want := -1
			if i != k {
				want = 0
				for bits := i ^ k; bits > 0; bits /= 2 {
					want += bits % 2
				}
			}
			if n := impl.Siblings(w, i, k); n != want {
				t.Fatal(i, k, n)
			}
		}
	}
	r := newRandom(92)
	for range 60 {
		n := 1 + r.IntN(16)
		w := ofVectors(m, parted(r, n), nil)
		for i := range n {
			for k := range n {
				want := -1
				if i != k {
					want = siblingsOf(w.Branches[i].D, w.Branches[k].D)
				}
				if n := impl.Siblings(w, i, k); n != want || i != k && n < 1 {
					t.Fatal(w.Branches[i].D, w.Branches[k].D, n)
				}
			}
		}
	}
}

// The first run is found whose D meets d, whole or not; what is sure is told of whole ones alone.
func TestCoversAndAnswers(t *testing.T) {
	t.Parallel()
	r := newRandom(93)
	fine := fineWorlds()
	l := []impl.World{fine["some"], fine["new"], fine["no run"], fine["no run, all cut off"], fine["15 runs, the other cut"], fine["16 runs"], fine["far apart"]}
	for n := 1; n <= 16; n++ {
		all := parted(r, n)
		runs := r.IntN(n) + 1
		l = append(l, ofVectors(threeParts(), all[:runs], all[runs:]))
	}
	for _, w := range l {
		for _, d := range append(allVectors(), wrongVectors()...) {
			x := what{d: d, briefly: true}
			want := wordsOfWorld(w, x)
			h, ok := impl.Answers(w, d)
			if i := impl.Covers(w, d); i != want.Covers || !same(h, want.Answers.History) || ok != want.Answers.Ok {
				t.Fatal(d, i, ok)
			}
		}
	}
	some := fine["some"]
	for letters, run := range map[string]int{"????": 0, "nyyn": 0, "yyny": -1, "y???": 1, "?n??": 2, "yn??": 2, "nyny": -1, "?y?n": 0, "?yyy": -1, "yyyn": 1, "ynyn": 2, "nyny?": -1} {
		d, _ := impl.VectorRead([]byte(letters))
		a := tellsOfWorld(t, letters, some, what{d: d, briefly: true})
		if a.Covers != run || a.Answers.Ok != (run >= 0 && len(wholesIn(d)) == 1 && len(d) == 4) {
			t.Fatal(letters, a.Covers, a.Answers)
		}
	}
	if impl.Live(some) != 12 || impl.Gone(some) != 3 {
		t.Fatal(impl.Live(some), impl.Gone(some))
	}
}

// Each run goes on to its end, those that come behind all too; each question makes two.
func TestExplore(t *testing.T) {
	t.Parallel()
	for yes, runs := range map[int]int{0: 16, 1: 15, 2: 12, 3: 9, 4: 8} {
		w, _ := impl.WorldNew(forks(yes))
		a := tellsOfWorld(t, "forks", w, what{})
		if !a.Explore.Ok || len(a.Explore.World.Branches) != runs || a.Vectors[0][0] != -1 {
			t.Fatal(yes, len(a.Explore.World.Branches))
		}
		b := tellsOfWorld(t, "explored", a.Explore.World, what{i: runs - 1, k: 0, d: []int{1, 1, 1, 1}})
		if !b.Explore.Ok || !same(b.Explore.World, a.Explore.World) || b.Live != 16 || b.Gone != 0 || !b.Answers.Ok || len(b.Answers.History.Events) != 4 {
			t.Fatal(yes, b.Explore)
		}
	}
	// The order: the first run comes to its end as no, no, no, no, and each yes is behind all that were there by then.
	w, _ := impl.Explore(ofVectors(forks(0), [][]int{undecided}, nil))
	text := ""
	for _, d := range impl.Vectors(w) {
		text += lettersOf(d) + " "
	}
	if text != "nnnn ynnn nynn nnyn nnny yynn ynyn ynny nyyn nyny nnyy yyyn yyny ynyy nyyy yyyy " {
		t.Fatal(text)
	}
	for letters, asks := range map[string]int{"????": 1, "y?yy": 1, "?y??": -1} {
		d, _ := impl.VectorRead([]byte(letters))
		a := tellsOfWorld(t, letters, ofVectors(threeParts(), [][]int{d}, nil), what{})
		if !a.Explore.Ok || asks == -1 && len(a.Explore.World.Branches) != 1 || asks == 1 && len(a.Explore.World.Branches) != 2 {
			t.Fatal(letters, a.Explore)
		}
	}
}

// Where Finish is not true in the end for one run, wherever that is, Explore is false, but all others go on.
func TestExploreWhatDoesNotEnd(t *testing.T) {
	t.Parallel()
	m := yard()
	for at := range 3 {
		w := impl.World{M: m}
		for i := range 3 {
			k := sized(size{past: 2, bag: 2})
			k.D = [][]int{{0, 0, -1, -1}, {0, 1, -1, -1}, {1, -1, -1, -1}}[i]
			k.Parts[0].Todo[0].Kind = 1
			w.Branches = append(w.Branches, k)
		}
		if a := tellsOfWorld(t, "all end", w, what{}); !a.Explore.Ok || len(a.Explore.World.Branches) != 6 {
			t.Fatal(at, a.Explore)
		}
		full := changed(w, func(w *impl.World) { w.Branches[at].Full = true })
		a := tellsOfWorld(t, "one is Full", full, what{})
		if after := a.Explore.World; a.Explore.Ok || len(after.Branches) != 5 || after.Branches[at].D[2] != -1 || impl.Idle(after.Branches[at]) {
			t.Fatal(at, a.Explore)
		}
		if b := tellsOfWorld(t, "again", a.Explore.World, what{}); b.Explore.Ok || !same(b.Explore.World, a.Explore.World) {
			t.Fatal(at, b.Explore)
		}
		// Whoever is Full, but asks for what is not made, becomes two that are.
		full.Branches[at].Asks = 3
		if a := tellsOfWorld(t, "one is Full, and asks", full, what{}); a.Explore.Ok || len(a.Explore.World.Branches) != 6 || !a.Explore.World.Branches[3+at].Full && at == 0 {
			t.Fatal(at, a.Explore)
		}
		// Asking for what is made makes no two.
		full.Branches[at].Asks = 0
		if a := tellsOfWorld(t, "one is Full, and asks for what is made", full, what{}); a.Explore.Ok || len(a.Explore.World.Branches) != 5 {
			t.Fatal(at, a.Explore)
		}
		stuck := changed(w, func(w *impl.World) {
			w.Branches[at] = changed(sized(size{todo: 2000}), func(k *impl.Kernel) {
				k.D = w.Branches[at].D
				k.Bag = []impl.Mail{{E: impl.Event{Time: 505, Src: 1, Dst: 3, Kind: 2, Tag: 5}}}
			})
		})
		if a := tellsOfWorld(t, "no room", stuck, what{}); a.Explore.Ok || len(a.Explore.World.Branches) != 5 || !same(a.Explore.World.Branches[at], stuck.Branches[at]) {
			t.Fatal(at, a.Explore)
		}
	}
}

// Whoever does not come to its end behind 5000 is not true; who asks by then is Finished once more, as two.
func TestExploreBehind5000(t *testing.T) {
	t.Parallel()
	k := chain()
	w := plain(impl.World{M: k.M, Branches: []impl.Kernel{k}})
	after, ok := impl.Explore(w)
	if ok || len(after.Branches) != 1 || !impl.Idle(after.Branches[0]) {
		t.Fatal(ok, len(after.Branches))
	}
	if again, ok := impl.Explore(after); !ok || !same(again, after) {
		t.Fatal("it does not end")
	}
	w.Branches[0].Asks = 1
	if two, ok := impl.Explore(w); !ok || len(two.Branches) != 2 || !same(impl.Vectors(two), [][]int{{-1, 0, -1, -1}, {-1, 1, -1, -1}}) || !impl.WorldOk(two) || sharing(w, two) {
		t.Fatal(ok, impl.Vectors(two))
	}
}
