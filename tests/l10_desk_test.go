package tests

import (
	"encoding/binary"
	"fmt"
	"math"
	"math/rand/v2"
	"slices"
	"strconv"
	"strings"
	"testing"

	"loop.example/g00603/impl"
)

// deskOutcome is what a function of the desk answers; what it does not answer is its zero value.
type deskOutcome struct {
	World   impl.World
	History impl.History
	Table   []impl.Emit
	Bytes   []byte
	N       int
	Ok      bool
}

// allOfDesk is what all functions of the desk answer to one world.
type allOfDesk struct {
	Do     deskOutcome
	Run    deskOutcome
	Table  deskOutcome
	Differ deskOutcome
	Text   deskOutcome
}

// errand is what some of these functions want beside the world.
type errand struct {
	c    impl.Cmd
	l    []impl.Cmd
	i, k int
}

// anyHeight is a number that has no limit but 0.
var anyHeight = span{0, math.MaxInt}

// cmdSpans are At, A and B as each kind wants them.
var cmdSpans = map[int][3]span{
	0: {anyHeight, anyHeight, untold},
	1: {anyHeight, anyHeight, untold},
	2: {anyHeight, untold, untold},
	3: {anyHeight, untold, untold},
	4: {anyHeight, anyHeight, {0, 1}},
	5: {untold, untold, untold},
}

func askedOfDesk(w impl.World, x errand) allOfDesk {
	var a allOfDesk
	a.Do.World, a.Do.Ok = impl.Do(w, x.c)
	a.Run.World, a.Run.N, a.Run.Ok = impl.Run(w, x.l)
	a.Table.History, a.Table.Ok = impl.Table(w, x.i)
	a.Differ.N, a.Differ.Ok = impl.Differ(w, x.i, x.k)
	a.Text.Bytes = impl.WorldText(w)
	return a
}

// wordsOfDesk is what is to be answered, told anew by the words of the document over what chapters 8 and 9 answer.
func wordsOfDesk(w impl.World, x errand) allOfDesk {
	var a allOfDesk
	if !isWorld(w) {
		return a
	}
	a.Do = doOf(w, x.c)
	a.Run = runOf(w, x.l)
	n := len(w.Branches)
	if x.i >= 0 && x.i < n {
		a.Table = deskOutcome{History: committedOf(w.Branches[x.i]), Ok: true}
		if x.k >= 0 && x.k < n {
			other := committedOf(w.Branches[x.k])
			a.Differ = deskOutcome{N: alikeFirst(a.Table.History.Emits, other.Emits), Ok: true}
		}
	}
	a.Text.Bytes = []byte(strings.Join(worldLines(w), ""))
	return a
}

func isCmd(c impl.Cmd) bool {
	spans, there := cmdSpans[c.Kind]
	return there && spans[0].holds(c.At) && spans[1].holds(c.A) && spans[2].holds(c.B)
}

// doOf takes for granted that w is a world.
func doOf(w impl.World, c impl.Cmd) deskOutcome {
	if !isCmd(c) {
		return deskOutcome{}
	}
	if c.At >= len(w.Branches) ||
		c.Kind == 0 && c.A >= w.M.Lps ||
		c.Kind == 1 && c.A >= len(w.Branches[c.At].Bag) ||
		c.Kind == 4 && c.A >= 4 ||
		(c.Kind == 3 || c.Kind == 4) && len(w.Cut) == 100 {
		return deskOutcome{World: w}
	}
	var x deskOutcome
	switch c.Kind {
	case 0:
		x.World, x.Ok = impl.WorldPick(w, c.At, c.A)
	case 1:
		x.World, x.Ok = impl.WorldDeliver(w, c.At, c.A)
	case 2:
		x.World, x.Ok = impl.Branch(w, c.At)
	case 3:
		x.World, x.Ok = impl.Prune(w, c.At)
	case 4:
		x.World, x.Ok = impl.Force(w, c.At, c.A, c.B)
	case 5:
		x.World, x.Ok = impl.Explore(w)
	}
	return x
}

// runOf takes for granted that w is a world; Do is taken as it is.
func runOf(w impl.World, l []impl.Cmd) deskOutcome {
	if len(l) > 200 || slices.ContainsFunc(l, func(c impl.Cmd) bool { return !isCmd(c) }) {
		return deskOutcome{}
	}
	x := deskOutcome{World: w, Ok: true}
	for _, c := range l {
		after, did := impl.Do(x.World, c)
		x.World = after
		if did {
			x.N++
		}
	}
	return x
}

// alikeFirst is the greatest number of which as many are alike, from the first on.
func alikeFirst(a []impl.Emit, b []impl.Emit) int {
	n := min(len(a), len(b))
	for !slices.Equal(a[:n], b[:n]) {
		n--
	}
	return n
}

func worldLines(w impl.World) []string {
	var l []string
	for _, k := range w.Branches {
		h := committedOf(k)
		line := fmt.Sprintf("run %s sure %d told %d", lettersOf(k.D), len(h.Events), len(h.Emits))
		if k.Asks != -1 {
			line += fmt.Sprintf(" asks %d", k.Asks)
		}
		l = append(l, line+"\n")
	}
	for _, d := range w.Cut {
		l = append(l, fmt.Sprintf("cut %s\n", lettersOf(d)))
	}
	return l
}

// tellsOfDesk fails where any function answers w otherwise than the words of the document, writes or shares.
func tellsOfDesk(t *testing.T, name string, w impl.World, x errand) allOfDesk {
	t.Helper()
	w, x.l = roomy(w), roomy(x.l)
	want := plain(wordsOfDesk(w, x))
	answers(t, name, want, func() allOfDesk { return askedOfDesk(w, x) }, w, x.l)
	return want
}

// refusesAtDesk fails where any function gives another than its fixed answer to a world that may not be.
func refusesAtDesk(t *testing.T, name string, w impl.World) {
	t.Helper()
	n := len(w.Branches)
	for kind := range 6 {
		c := impl.Cmd{Kind: kind}
		for _, x := range []errand{{c: c}, {c: c, l: []impl.Cmd{c, {Kind: 5 - kind}}, k: 1}, {c: c, l: oneOfEach(), i: n - 1, k: n - 1}} {
			if isWorld(w) {
				t.Fatal("a world:", name)
			}
			if a := tellsOfDesk(t, name, w, x); !same(a, allOfDesk{}) {
				t.Fatal(name, a)
			}
		}
	}
}

// oneOfEach is a command of each kind, Explore last.
func oneOfEach() []impl.Cmd {
	return []impl.Cmd{
		{Kind: impl.CmPick, At: 0, A: 0},
		{Kind: impl.CmDeliver, At: 0, A: 0},
		{Kind: impl.CmBranch, At: 0},
		{Kind: impl.CmForce, At: 0, A: 3, B: 1},
		{Kind: impl.CmPrune, At: 1},
		{Kind: impl.CmExplore},
	}
}

// wrongCmds are commands that may not be, each for one reason.
func wrongCmds() []impl.Cmd {
	var l []impl.Cmd
	for _, kind := range (span{0, 5}).beyond() {
		l = append(l, impl.Cmd{Kind: kind})
	}
	for kind := range 6 {
		for at, s := range cmdSpans[kind] {
			wrong := []int{-1, -2, -256, -65536, math.MinInt}
			if s == untold {
				wrong = append(wrong, 1, 2, 256, 65536, math.MaxInt)
			}
			if s.high == 1 {
				wrong = append(wrong, 2, 3, 256, 65536, math.MaxInt)
			}
			for _, x := range wrong {
				l = append(l, cmdWith(impl.Cmd{Kind: kind}, at, x))
			}
		}
	}
	return l
}

func cmdWith(c impl.Cmd, at int, x int) impl.Cmd {
	*[]*int{&c.At, &c.A, &c.B}[at] = x
	return c
}

func TestKindsOfCommands(t *testing.T) {
	kinds := []int{impl.CmPick, impl.CmDeliver, impl.CmBranch, impl.CmPrune, impl.CmForce, impl.CmExplore}
	if !slices.Equal(kinds, []int{0, 1, 2, 3, 4, 5}) {
		t.Fatal(kinds)
	}
}

// Each kind has only the numbers that it names, none of them below 0.
func TestCmdOk(t *testing.T) {
	t.Parallel()
	numbers := []int{math.MinInt, -65536, -257, -256, -2, -1, 0, 1, 2, 3, 4, 5, 15, 16, 17, 100, 255, 256, 257, 65536, math.MaxInt}
	fine := map[int]int{}
	for _, kind := range numbers {
		for _, at := range numbers {
			for _, a := range numbers {
				for _, b := range numbers {
					c := impl.Cmd{Kind: kind, At: at, A: a, B: b}
					if impl.CmdOk(c) != isCmd(c) {
						t.Fatal(c, impl.CmdOk(c))
					}
					if isCmd(c) {
						fine[kind]++
					}
				}
			}
		}
	}
	n := 15
	if want := map[int]int{0: n * n, 1: n * n, 2: n, 3: n, 4: 2 * n * n, 5: 1}; !same(fine, want) {
		t.Fatal(fine, want)
	}
	for _, c := range wrongCmds() {
		if impl.CmdOk(c) {
			t.Fatal(c)
		}
	}
}

// Each kind of command is what chapter 9 does, told anew by the words of the document.
func TestDoOfEachKind(t *testing.T) {
	t.Parallel()
	some := someWorld()
	for i := range some.Branches {
		for kind, last := range map[int]int{impl.CmPick: 3, impl.CmDeliver: 6, impl.CmBranch: 0, impl.CmPrune: 0, impl.CmForce: 3} {
			for a := 0; a <= last; a++ {
				b := (i + a) % 2
				if kind != impl.CmForce {
					b = 0
				}
				words := wordsOfWorld(some, what{i: i, lp: a, at: a, dec: a, v: b, briefly: true})
				want := map[int]worldOutcome{impl.CmPick: words.Pick, impl.CmDeliver: words.Deliver, impl.CmBranch: words.Branch, impl.CmPrune: words.Prune, impl.CmForce: words.Force}[kind]
				c := impl.Cmd{Kind: kind, At: i, A: a, B: b}
				x := tellsOfDesk(t, "some", some, errand{c: c, l: []impl.Cmd{c}, i: i})
				if x.Do.Ok != want.Ok || !same(x.Do.World, want.World) || !same(x.Run.World, want.World) || x.Run.N > 1 || x.Run.N == 1 != want.Ok {
					t.Fatal(c, x.Do)
				}
			}
		}
	}
	w, _ := impl.WorldNew(threeParts())
	words := wordsOfWorld(w, what{d: undecided})
	if x := tellsOfDesk(t, "explored", w, errand{c: impl.Cmd{Kind: impl.CmExplore}}); !x.Do.Ok || !same(x.Do.World, words.Explore.World) || len(x.Do.World.Branches) != 2 {
		t.Fatal(x.Do)
	}
}

// Every function answers each of these worlds, by commands of each kind, as the words of the document say.
func TestDeskOfFineWorlds(t *testing.T) {
	t.Parallel()
	for name, w := range fineWorlds() {
		n := len(w.Branches)
		for kind := range 6 {
			at := (n - 1) * (kind % 2)
			if kind == impl.CmExplore || n == 0 {
				at = 0
			}
			c := impl.Cmd{Kind: kind, At: at}
			tellsOfDesk(t, name, w, errand{c: c, l: []impl.Cmd{c}, i: at, k: n - 1 - at})
		}
	}
}

// Every function gives its fixed answer to a world that may not be, among them those with 99, 100 and 101 in Cut.
func TestDeskOfWrongWorlds(t *testing.T) {
	t.Parallel()
	for name, w := range wrongWorlds() {
		refusesAtDesk(t, name, w)
	}
	for name, k := range wrongKernels() {
		w := impl.World{M: k.M, Branches: []impl.Kernel{k}}
		for kind := range 6 {
			c := impl.Cmd{Kind: kind}
			if isWorld(w) || !same(askedOfDesk(w, errand{c: c, l: []impl.Cmd{c}}), allOfDesk{}) {
				t.Fatal(name, c)
			}
		}
	}
	for i, d := range wrongVectors() {
		for _, w := range []impl.World{changed(someWorld(), func(w *impl.World) { w.Cut[i%2] = d }), changed(someWorld(), func(w *impl.World) { w.Branches[i%3].D = d })} {
			if isWorld(w) || !same(askedOfDesk(w, errand{c: impl.Cmd{Kind: i % 6}, k: 1}), allOfDesk{}) {
				t.Fatal(d)
			}
		}
	}
}

// A command that may not be is not done, in whatever world, and none of those around it either.
func TestDeskOfWrongCommands(t *testing.T) {
	t.Parallel()
	fine := fineWorlds()
	for at, c := range wrongCmds() {
		for i, name := range []string{"some", "new", "no run", "no run, all cut off", "16 runs"} {
			w := fine[name]
			if x, did := impl.Do(w, c); did || !same(x, impl.World{}) {
				t.Fatal(name, c)
			}
			around := oneOfEach()
			l := slices.Insert(around, (at+i)%(len(around)+1), c)
			if x, n, ok := impl.Run(w, l); ok || n != 0 || !same(x, impl.World{}) {
				t.Fatal(name, c, n)
			}
			if at%9 == i {
				tellsOfDesk(t, name, w, errand{c: c, l: l})
				tellsOfDesk(t, name, w, errand{c: c, l: []impl.Cmd{c}})
			}
		}
	}
	// At each place of as many as there may be.
	w := fine["new"]
	for at := range 200 {
		l := slices.Repeat([]impl.Cmd{{Kind: impl.CmPick}}, 200)
		l[at] = wrongCmds()[at%len(wrongCmds())]
		if x, n, ok := impl.Run(w, l); ok || n != 0 || !same(x, impl.World{}) {
			t.Fatal(at, n)
		}
	}
}

// stays fails where a command does anything, or answers another world than w.
func stays(t *testing.T, name string, w impl.World, c impl.Cmd) {
	t.Helper()
	x := tellsOfDesk(t, name, w, errand{c: c, l: []impl.Cmd{c, c}})
	if x.Do.Ok || !same(x.Do.World, w) || !x.Run.Ok || x.Run.N != 0 || !same(x.Run.World, w) {
		t.Fatal(name, c, x.Do)
	}
}

// Where there is no such run, part, place or decision, the world stays.
func TestDoOfWhatIsNotThere(t *testing.T) {
	t.Parallel()
	fine := fineWorlds()
	for _, name := range []string{"some", "new", "no run", "no run, empty lists", "no run, all cut off", "no run, cut off 16 ways", "15 runs", "16 runs", "1 run, 15 cut off"} {
		w := fine[name]
		n := len(w.Branches)
		for _, at := range []int{n, n + 1, 16, 256, 65536, math.MaxInt} {
			for kind := range 5 {
				if at >= n {
					stays(t, name, w, impl.Cmd{Kind: kind, At: at})
				}
			}
		}
		if n == 0 {
			continue
		}
		for kind := range 5 {
			x := tellsOfDesk(t, name, w, errand{c: impl.Cmd{Kind: kind, At: n - 1}})
			if kind == impl.CmPrune && (!x.Do.Ok || len(x.Do.World.Branches) != n-1) {
				t.Fatal(name, kind)
			}
		}
	}
	// The words ask for a run At of every kind, so that nothing is explored where there is none at all.
	for _, name := range []string{"no run", "no run, some cut off", "no run, cut off 16 ways"} {
		stays(t, name, fine[name], impl.Cmd{Kind: impl.CmExplore})
	}
	some := fine["some"]
	for i := range 3 {
		for _, a := range []int{4, 5, 7, 256, 65536, math.MaxInt} {
			stays(t, "no part", some, impl.Cmd{Kind: impl.CmPick, At: i, A: a})
			for b := range 2 {
				stays(t, "no decision", some, impl.Cmd{Kind: impl.CmForce, At: i, A: a, B: b})
			}
			if a >= len(some.Branches[i].Bag) {
				stays(t, "nothing there", some, impl.Cmd{Kind: impl.CmDeliver, At: i, A: a})
			}
		}
		last := impl.Cmd{Kind: impl.CmDeliver, At: i, A: len(some.Branches[i].Bag) - 1}
		if x := tellsOfDesk(t, "the last of Bag", some, errand{c: last}); last.A != 6 || !x.Do.Ok {
			t.Fatal(last, x.Do)
		}
	}
	// Parts are those of the model, places in Bag those of the run.
	stays(t, "three parts", fine["new"], impl.Cmd{Kind: impl.CmPick, A: 3})
	stays(t, "nothing in Bag", fine["new"], impl.Cmd{Kind: impl.CmDeliver})
	if x := tellsOfDesk(t, "the last part", fine["new"], errand{c: impl.Cmd{Kind: impl.CmPick, A: 2}}); same(x.Do.World, impl.World{}) {
		t.Fatal(x.Do)
	}
	bags := changed(some, func(w *impl.World) { w.Branches[1].Bag = w.Branches[1].Bag[:3] })
	for i, there := range []bool{true, false, true} {
		x := tellsOfDesk(t, "a place of another run", bags, errand{c: impl.Cmd{Kind: impl.CmDeliver, At: i, A: 3}})
		if x.Do.Ok != there || same(x.Do.World, bags) == there {
			t.Fatal(i, x.Do)
		}
	}
	// What is made already, or not asked for, stays; the last decision may be made both ways, but no third one.
	stays(t, "made", some, impl.Cmd{Kind: impl.CmForce, At: 0, A: 3, B: 1})
	stays(t, "asks for what is made", some, impl.Cmd{Kind: impl.CmBranch, At: 1})
	stays(t, "asks for nothing", some, impl.Cmd{Kind: impl.CmBranch, At: 2})
	for b := range 3 {
		x := tellsOfDesk(t, "the last decision", some, errand{c: impl.Cmd{Kind: impl.CmForce, At: 2, A: 3, B: b}})
		if b < 2 && (!x.Do.Ok || x.Do.World.Branches[2].D[3] != b || x.Do.World.Cut[2][3] != 1-b) || b == 2 && !same(x.Do, deskOutcome{}) {
			t.Fatal(b, x.Do)
		}
	}
}

// What a command does to a world though it is not true is there: who asks, asks; who is Full, is.
func TestDoOfWhatIsNotTrue(t *testing.T) {
	t.Parallel()
	asking := changed(sized(size{past: 3}), func(k *impl.Kernel) { k.D, k.Parts[0].Todo[0].Kind = []int{0, 0, -1, 1}, 1 })
	full := changed(sized(size{past: 3}), func(k *impl.Kernel) { k.D, k.Tag = []int{0, 0, 1, 0}, 99977 })
	w := impl.World{M: yard(), Branches: []impl.Kernel{full, asking}}
	if x := tellsOfDesk(t, "asks", w, errand{c: impl.Cmd{At: 1}, l: []impl.Cmd{{At: 1}, {}}}); x.Do.Ok || x.Do.World.Branches[1].Asks != 2 || x.Run.N != 0 || x.Run.World.Branches[1].Asks != 2 || !x.Run.World.Branches[0].Full {
		t.Fatal(x.Do)
	}
	if x := tellsOfDesk(t, "full", w, errand{c: impl.Cmd{At: 0}}); x.Do.Ok || !x.Do.World.Branches[0].Full {
		t.Fatal(x.Do)
	}
	if x := tellsOfDesk(t, "explored", w, errand{c: impl.Cmd{Kind: 5}, l: []impl.Cmd{{Kind: 5}, {Kind: 5}}}); x.Do.Ok || len(x.Do.World.Branches) != 3 || !x.Run.Ok || x.Run.N != 0 || !same(x.Run.World, x.Do.World) {
		t.Fatal(x.Do)
	}
	// Where what is handed on has no room, the world stays.
	comes := impl.Mail{E: impl.Event{Time: 505, Src: 1, Dst: 3, Kind: 2, Tag: 5}}
	w.Branches[0] = changed(sized(size{todo: 2000}), func(k *impl.Kernel) { k.D, k.Bag = full.D, []impl.Mail{comes} })
	stays(t, "no room", w, impl.Cmd{Kind: impl.CmDeliver})
}

// anyCmd is a command for w, most of them such that they do something; of a hundred, so many can't be undone.
func anyCmd(r *rand.Rand, w impl.World, grave int) impl.Cmd {
	n := len(w.Branches)
	// Now and then there is no such run, part or place.
	c := impl.Cmd{At: r.IntN(n + 1)}
	if c.At == n && n > 0 && r.IntN(8) > 0 {
		c.At = r.IntN(n)
	}
	bag, asks := 0, -1
	if c.At < n {
		bag, asks = len(w.Branches[c.At].Bag), w.Branches[c.At].Asks
	}
	switch {
	case r.IntN(100) < grave:
		if r.IntN(3) == 0 {
			c.Kind = impl.CmPrune
			return c
		}
		c.Kind, c.A, c.B = impl.CmForce, r.IntN(5), r.IntN(2)
		if asks != -1 && r.IntN(3) == 0 {
			c.A = asks
		}
	case asks != -1 && r.IntN(2) == 0 || r.IntN(40) == 0:
		c.Kind = impl.CmBranch
	case bag > 0 && r.IntN(2) == 0 || r.IntN(40) == 0:
		c.Kind, c.A = impl.CmDeliver, r.IntN(bag+1)
	case r.IntN(60) == 0:
		c = impl.Cmd{Kind: impl.CmExplore}
	case r.IntN(20) == 0:
		c.A = w.M.Lps
	default:
		c.A = r.IntN(w.M.Lps)
		for try := 0; c.At < n && try < 4 && len(w.Branches[c.At].Parts[c.A].Todo) == 0; try++ {
			c.A = r.IntN(w.M.Lps)
		}
	}
	return c
}

// dictated are so many commands, one over the other, and what comes of them by Do.
func dictated(t *testing.T, r *rand.Rand, w impl.World, n int, grave int) ([]impl.Cmd, deskOutcome) {
	t.Helper()
	var l []impl.Cmd
	x := deskOutcome{World: w, Ok: true}
	for range n {
		c := anyCmd(r, x.World, grave)
		l = append(l, c)
		after, did := impl.Do(x.World, c)
		if after.M.Lps == 0 {
			t.Fatal("the world is lost by", c)
		}
		x.World = after
		if did {
			x.N++
		}
	}
	return l, x
}

// Many commands are as one over the other; all at once, in two halves, and one by one.
func TestRunIsDoOfEach(t *testing.T) {
	t.Parallel()
	r := newRandom(111)
	var kinds [6]int
	did, not := 0, 0
	for at, m := range askingModels() {
		w, _ := impl.WorldNew(m)
		l, want := dictated(t, r, w, 20+r.IntN(60), []int{0, 4, 12}[at%3])
		for _, c := range l {
			kinds[c.Kind]++
		}
		did += want.N
		not += len(l) - want.N
		got := deskOutcome{}
		got.World, got.N, got.Ok = impl.Run(w, l)
		if !same(got, want) {
			t.Fatalf("%v: %d, not %d, of %v", l, got.N, want.N, impl.Vectors(got.World))
		}
		cut := r.IntN(len(l) + 1)
		first, n, ok := impl.Run(w, l[:cut])
		second, k, fine := impl.Run(first, l[cut:])
		if !ok || !fine || n+k != want.N || !same(second, want.World) {
			t.Fatalf("cut off at %d: %d and %d, not %d", cut, n, k, want.N)
		}
		if at%5 == 0 {
			tellsOfDesk(t, "many", w, errand{c: l[0], l: l})
			tellsOfDesk(t, "what is left", first, errand{l: l[cut:], i: len(first.Branches) / 2, k: 0})
		}
	}
	if slices.Min(kinds[:]) < 15 || did < 500 || not < 100 {
		t.Error("not much was tried:", kinds, did, not)
	}
}

// No command at all, as many as there may be, and one more.
func TestRunOfHowMany(t *testing.T) {
	t.Parallel()
	for name, w := range fineWorlds() {
		if x := tellsOfDesk(t, name, w, errand{}); !x.Run.Ok || x.Run.N != 0 || !same(x.Run.World, w) {
			t.Fatal(name, x.Run)
		}
	}
	w, _ := impl.WorldNew(ticking(250, 999))
	deeds := slices.Repeat([]impl.Cmd{{Kind: impl.CmPick}, {Kind: impl.CmDeliver}}, 101)
	for _, n := range []int{1, 2, 199, 200, 201, 202} {
		x := tellsOfDesk(t, "deeds", w, errand{l: deeds[:n]})
		if n <= 200 && (!x.Run.Ok || x.Run.N != n) || n > 200 && !same(x.Run, deskOutcome{}) {
			t.Fatal(n, x.Run.N, x.Run.Ok)
		}
	}
	// Commands that do nothing, or can't be done, count for the limit, but not for how many were true.
	for n, ok := range map[int]bool{200: true, 201: false} {
		for _, c := range []impl.Cmd{{Kind: impl.CmBranch}, {Kind: impl.CmPick, At: 7}, {Kind: impl.CmForce, A: 9}, {Kind: impl.CmDeliver, A: math.MaxInt}} {
			x, count, fine := impl.Run(w, slices.Repeat([]impl.Cmd{c}, n))
			if fine != ok || count != 0 || same(x, w) != ok || same(x, impl.World{}) == ok {
				t.Fatal(n, c, count)
			}
		}
	}
	if x, n, ok := impl.Run(w, make([]impl.Cmd, 1000000)); ok || n != 0 || !same(x, impl.World{}) {
		t.Fatal("a million commands are done")
	}
	// A run that is pruned moves those behind it up: At 15 there is one only the first time.
	all := ofVectors(threeParts(), wholeVectors(), nil)
	x := tellsOfDesk(t, "pruned", all, errand{l: slices.Repeat([]impl.Cmd{{Kind: impl.CmPrune, At: 15}, {Kind: impl.CmPrune}}, 10), i: 15})
	if left := x.Run.World; x.Run.N != 11 || !same(vectorsOf(left), wholeVectors()[10:15]) || !slices.Equal(left.Cut[0], wholeVectors()[15]) || !same(left.Cut[1:], wholeVectors()[:10]) {
		t.Fatal(x.Run.N, x.Run.World.Cut)
	}
}

// Worlds of which some numbers are others, commands that do not fit: Run is as Do of each, and Do as the words say.
func TestDeskOfChangedWorlds(t *testing.T) {
	t.Parallel()
	r := newRandom(112)
	var fine, wrong int
	for _, m := range askingModels() {
		w, _ := impl.WorldNew(m)
		for range 3 {
			_, x := dictated(t, r, w, 25, 4)
			w = x.World
			n := len(w.Branches)
			if n == 0 {
				break
			}
			other := plain(w)
			for range 1 + r.IntN(2) {
				forge(r, &other.Branches[r.IntN(n)])
			}
			var l []impl.Cmd
			for range 12 {
				l = append(l, anyCmd(r, w, 10))
			}
			if isWorld(other) {
				fine++
			} else {
				wrong++
			}
			a := tellsOfDesk(t, "changed", other, errand{anyCmd(r, w, 20), l, r.IntN(n + 1), r.IntN(n)})
			if isWorld(other) && (!impl.WorldOk(a.Do.World) || !impl.WorldOk(a.Run.World)) {
				t.Fatalf("no world is left: %+v", a.Run.World)
			}
		}
	}
	if min(fine, wrong) < 30 {
		t.Error("not much was tried:", fine, wrong)
	}
}

// A table is what is sure of the run, and of no other.
func TestTable(t *testing.T) {
	t.Parallel()
	for name, w := range fineWorlds() {
		n := len(w.Branches)
		for i, k := range w.Branches {
			h, ok := impl.Table(w, i)
			want, _ := impl.Committed(k)
			if !ok || !same(h, want) || !same(h, committedOf(k)) {
				t.Fatal(name, i, h)
			}
		}
		for _, i := range (span{0, n - 1}).beyond() {
			if h, ok := impl.Table(w, i); ok || !same(h, impl.History{}) {
				t.Fatal(name, i, h)
			}
		}
	}
	some := someWorld()
	for _, i := range (span{0, 2}).beyond() {
		if x := tellsOfDesk(t, "no such run", some, errand{i: i}); !same(x.Table, deskOutcome{}) {
			t.Fatal(i, x.Table)
		}
	}
}

// Two runs are alike up to where they differ, from both sides; a run and itself are alike all the way.
func TestDiffer(t *testing.T) {
	t.Parallel()
	r := newRandom(113)
	var none, some, all int
	worlds := fineWorlds()
	for at, m := range askingModels() {
		w, _ := impl.WorldNew(m)
		_, x := dictated(t, r, w, 40, 2)
		worlds["dictated "+strconv.Itoa(at)] = x.World
		if at%4 == 0 {
			worlds["explored "+strconv.Itoa(at)], _ = impl.Explore(w)
		}
	}
	for name, w := range worlds {
		n := len(w.Branches)
		var tables [][]impl.Emit
		for i := range n {
			h, _ := impl.Table(w, i)
			tables = append(tables, h.Emits)
		}
		for i := range n {
			for k := range i + 1 {
				d, ok := impl.Differ(w, i, k)
				back, fine := impl.Differ(w, k, i)
				a, b := tables[i], tables[k]
				if !ok || !fine || d != back || d > min(len(a), len(b)) || !slices.Equal(a[:d], b[:d]) ||
					d < min(len(a), len(b)) && a[d] == b[d] || i == k && d != len(a) {
					t.Fatal(name, i, k, d, back)
				}
				switch {
				case i == k:
				case d == min(len(a), len(b)):
					all++
				case d == 0:
					none++
				default:
					some++
				}
			}
		}
		for _, i := range (span{0, n - 1}).beyond() {
			for _, k := range []int{0, n - 1, i} {
				d, ok := impl.Differ(w, i, k)
				back, fine := impl.Differ(w, k, i)
				if ok || fine || d != 0 || back != 0 {
					t.Fatal(name, i, k, d, back)
				}
			}
		}
	}
	if min(none, some, all) < 15 {
		t.Error("not much was tried:", none, some, all)
	}
}

// Tables that differ in one number of one Emit, or in how many there are, differ just there.
func TestDifferByOne(t *testing.T) {
	t.Parallel()
	base := sized(size{told: 9})
	base.D = []int{0, -1, -1, -1}
	h := committedOf(base)
	n := len(h.Emits)
	for at := range base.Told {
		for number := range 3 {
			other := plain(base)
			other.D[0] = 1
			x := &other.Told[at]
			*[]*int{&x.Time, &x.Lp, &x.Val}[number] ^= 1
			w := impl.World{M: yard(), Branches: []impl.Kernel{base, other}}
			if a := tellsOfDesk(t, "one number", w, errand{i: 0, k: 1}); !a.Differ.Ok || a.Differ.N != at {
				t.Fatal(at, number, a.Differ)
			}
			if a := tellsOfDesk(t, "one number", w, errand{i: 1, k: 0}); !a.Differ.Ok || a.Differ.N != at {
				t.Fatal(at, number, a.Differ)
			}
		}
		fewer := plain(base)
		fewer.D[0], fewer.Told = 1, fewer.Told[:at]
		w := impl.World{M: yard(), Branches: []impl.Kernel{fewer, base}}
		if a := tellsOfDesk(t, "fewer", w, errand{i: 0, k: 1}); !a.Differ.Ok || a.Differ.N != alikeFirst(committedOf(fewer).Emits, h.Emits) || a.Differ.N < at {
			t.Fatal(at, a.Differ)
		}
	}
	if n != 9 {
		t.Error("not just those that are told:", n)
	}
}

func tableBytes(l []impl.Emit) []byte {
	var b []byte
	for _, x := range l {
		b = binary.BigEndian.AppendUint16(b, uint16(x.Time))
		b = append(b, byte(x.Lp))
		b = binary.BigEndian.AppendUint16(b, uint16(x.Val))
	}
	return b
}

func isEmit(x impl.Emit) bool {
	return span{0, 1000}.holds(x.Time) && span{0, 3}.holds(x.Lp) && span{0, 999}.holds(x.Val)
}

// isTable tells anew, by the words of the document, whether there is a list with these bytes.
func isTable(b []byte) bool {
	for ; len(b) >= 5; b = b[5:] {
		if binary.BigEndian.Uint16(b) > 1000 || b[2] > 3 || binary.BigEndian.Uint16(b[3:]) > 999 {
			return false
		}
	}
	return len(b) == 0
}

// writesTable fails where l has other bytes than it should, does not come back from them, or memory is written or shared.
func writesTable(t *testing.T, l []impl.Emit) {
	t.Helper()
	l = roomy(l)
	want := deskOutcome{}
	if !slices.ContainsFunc(l, func(x impl.Emit) bool { return !isEmit(x) }) {
		want = deskOutcome{Bytes: tableBytes(l), Ok: true}
	}
	answers(t, "bytes", want, func() deskOutcome {
		b, ok := impl.TableBytes(l)
		return deskOutcome{Bytes: b, Ok: ok}
	}, l)
	if want.Ok {
		readsTable(t, want.Bytes)
		if back, ok := impl.TableRead(want.Bytes); !ok || !slices.Equal(back, l) {
			t.Fatalf("%v comes back as %v", l, back)
		}
	}
}

// readsTable fails where b is read as a table that has other bytes, or is not read though it is one, or memory is written or shared.
func readsTable(t *testing.T, b []byte) bool {
	t.Helper()
	b, check := guardedWith(b, 0xEE, 0xDD)
	l, ok := impl.TableRead(b)
	again, fine := impl.TableRead(b)
	check(t)
	if ok != isTable(b) || fine != ok || !slices.Equal(again, l) || !ok && len(l) > 0 {
		t.Fatalf("%v: %v %v", b, l, ok)
	}
	if sharing(l, again, b) {
		t.Fatal("two lists share memory")
	}
	if ok {
		if own, is := impl.TableBytes(l); !is || !slices.Equal(own, b) || len(l) != len(b)/5 {
			t.Fatalf("%v has other bytes: %v", b, own)
		}
	}
	return ok
}

// someTables are tables of none to many, with each number at its bounds.
func someTables() [][]impl.Emit {
	r := newRandom(114)
	l := [][]impl.Emit{nil, {}, {{}}, {{Time: 1000, Lp: 3, Val: 999}}, {{Time: 256, Lp: 1, Val: 255}, {Time: 255, Lp: 2, Val: 256}}}
	for n := range 12 {
		var table []impl.Emit
		for range n {
			table = append(table, impl.Emit{Time: span{0, 1000}.any(r), Lp: span{0, 3}.any(r), Val: span{0, 999}.any(r)})
		}
		l = append(l, table)
	}
	return l
}

func TestTableBytes(t *testing.T) {
	t.Parallel()
	for _, l := range someTables() {
		writesTable(t, l)
	}
	for time := range 1001 {
		writesTable(t, []impl.Emit{{Time: time, Lp: time % 4, Val: 7 * time % 1000}})
		writesTable(t, []impl.Emit{{}, {Time: 3, Lp: 3, Val: time % 1000}})
	}
	if b, ok := impl.TableBytes([]impl.Emit{{Time: 258, Lp: 3, Val: 772}, {Time: 1000, Lp: 0, Val: 999}}); !ok || !slices.Equal(b, []byte{1, 2, 3, 3, 4, 3, 232, 0, 3, 231}) {
		t.Fatal(b)
	}
	if b, ok := impl.TableBytes(nil); !ok || len(b) != 0 {
		t.Fatal("no empty table:", b)
	}
	if l, ok := impl.TableRead(nil); !ok || len(l) != 0 {
		t.Fatal("no empty table:", l)
	}
	// There is no limit to how many there are: not what one part tells, and not what a kernel does.
	for _, n := range []int{8, 9, 1200, 1201, 16000, 16001, 50000} {
		l := make([]impl.Emit, n)
		for i := range l {
			l[i] = impl.Emit{Time: i % 1001, Lp: i % 4, Val: i % 1000}
		}
		b, ok := impl.TableBytes(l)
		back, fine := impl.TableRead(b)
		if !ok || !fine || !slices.Equal(b, tableBytes(l)) || !slices.Equal(back, l) {
			t.Fatal("not as many as", n)
		}
	}
}

func TestTableBytesOfWrongEmits(t *testing.T) {
	t.Parallel()
	spans := [3]span{{0, 1000}, {0, 3}, {0, 999}}
	for _, l := range someTables() {
		for at := range l {
			for number, s := range spans {
				for _, x := range append(s.beyond(), s.low, s.high) {
					other := slices.Clone(l)
					*[]*int{&other[at].Time, &other[at].Lp, &other[at].Val}[number] = x
					writesTable(t, other)
					if b, ok := impl.TableBytes(other); ok != s.holds(x) || !ok && len(b) > 0 {
						t.Fatal(other, b)
					}
				}
			}
		}
	}
}

func TestTableReadOfOtherBytes(t *testing.T) {
	t.Parallel()
	for _, l := range someTables() {
		b := tableBytes(l)
		// Cut off; what lies behind, though it is a table's, is not read.
		for n := range len(b) + 1 {
			if read, ok := impl.TableRead(b[:n]); ok != (n%5 == 0) || ok && !slices.Equal(read, l[:n/5]) || readsTable(t, b[:n]) != ok {
				t.Fatal(n, read)
			}
		}
		for n := 1; n <= 11; n++ {
			if more := append(slices.Clone(b), make([]byte, n)...); readsTable(t, more) != (n%5 == 0) {
				t.Fatal("behind:", n)
			}
			readsTable(t, append(make([]byte, n), b...))
		}
		for at := range b {
			for x := range 256 {
				other := slices.Clone(b)
				other[at] = byte(x)
				readsTable(t, other)
			}
		}
	}
	for b, fine := range map[string]bool{
		"\x03\xe8\x03\x03\xe7": true, "\x03\xe9\x03\x03\xe7": false, "\x03\xe8\x04\x03\xe7": false, "\x03\xe8\x03\x03\xe8": false,
		"\x04\x00\x00\x00\x00": false, "\x00\x00\x00\x04\x00": false, "\xff\xff\x00\x00\x00": false, "\x00\x00\xff\x00\x00": false, "\x00\x00\x00\xff\xff": false,
		"\x00\xff\x00\x00\xff": true, "\x01\x00\x00\x01\x00": true, "\x00": false, "\x00\x00\x00\x00": false, "table": false, "": true,
	} {
		if readsTable(t, []byte(b)) != fine {
			t.Fatalf("%q", b)
		}
	}
}

func TestTableReadOfRandomBytes(t *testing.T) {
	t.Parallel()
	r := newRandom(115)
	fine, wrong := 0, 0
	for range 20000 {
		b := make([]byte, r.IntN(17))
		for i := range b {
			b[i] = byte(r.IntN([]int{2, 5, 256}[r.IntN(3)]))
		}
		if r.IntN(2) == 0 {
			b = b[:len(b)/5*5]
		}
		if readsTable(t, b) {
			fine++
		} else {
			wrong++
		}
	}
	if min(fine, wrong) < 2000 {
		t.Error("not much was tried:", fine, wrong)
	}
}

// Each table that a run tells comes back from its bytes.
func TestTablesOfRunsComeBack(t *testing.T) {
	t.Parallel()
	n := 0
	for _, m := range askingModels() {
		w, _ := impl.WorldNew(m)
		w, _ = impl.Do(w, impl.Cmd{Kind: impl.CmExplore})
		for i := range w.Branches {
			h, ok := impl.Table(w, i)
			if !ok {
				t.Fatal(m, i)
			}
			writesTable(t, h.Emits)
			n += len(h.Emits)
		}
	}
	if n < 3000 {
		t.Error("not much was tried:", n)
	}
}

// readsLines fails where the text of w is not line by line as it should be.
func readsLines(t *testing.T, name string, w impl.World, want ...string) {
	t.Helper()
	text := string(impl.WorldText(w))
	lines := strings.SplitAfter(text, "\n")
	if lines[len(lines)-1] != "" || len(lines) != len(w.Branches)+len(w.Cut)+1 {
		t.Fatalf("%s: %q", name, text)
	}
	if lines = lines[:len(lines)-1]; !slices.Equal(lines, want) {
		t.Fatalf("%s: %q, not %q", name, lines, want)
	}
}

func TestWorldText(t *testing.T) {
	t.Parallel()
	fine := fineWorlds()
	for name, w := range fine {
		readsLines(t, name, w, worldLines(w)...)
	}
	readsLines(t, "no run", fine["no run"])
	readsLines(t, "all cut off", fine["no run, all cut off"], "cut ????\n")
	readsLines(t, "some cut off", fine["no run, some cut off"], "cut n?y?\n", "cut y???\n")
	readsLines(t, "new", fine["new"], "run ???? sure 0 told 0\n")
	readsLines(t, "far apart", fine["far apart"], "run n??? sure 0 told 0\n", "run y??n sure 0 told 0\n", "cut yy?y\n")
	w, _ := impl.WorldNew(forks(4))
	for _, step := range []struct {
		c    impl.Cmd
		want string
	}{
		{impl.Cmd{}, "run ???? sure 0 told 0 asks 0\n"},
		{impl.Cmd{Kind: impl.CmBranch}, "run n??? sure 0 told 0\nrun y??? sure 0 told 0\n"},
		{impl.Cmd{At: 1}, "run n??? sure 0 told 0\nrun y??? sure 1 told 1\n"},
		{impl.Cmd{Kind: impl.CmForce, A: 2}, "run n?n? sure 0 told 0\nrun y??? sure 1 told 1\ncut n?y?\n"},
		{impl.Cmd{Kind: impl.CmDeliver, At: 1}, "run n?n? sure 0 told 0\nrun y??? sure 1 told 1\ncut n?y?\n"},
		{impl.Cmd{At: 1}, "run n?n? sure 0 told 0\nrun y??? sure 1 told 1 asks 1\ncut n?y?\n"},
		{impl.Cmd{Kind: impl.CmPrune}, "run y??? sure 1 told 1 asks 1\ncut n?y?\ncut n?n?\n"},
		{impl.Cmd{Kind: impl.CmForce, A: 1, B: 1}, "run yy?? sure 1 told 1\ncut n?y?\ncut n?n?\ncut yn??\n"},
		{impl.Cmd{Kind: impl.CmExplore}, "run yyn? sure 4 told 4\nrun yyy? sure 4 told 4\ncut n?y?\ncut n?n?\ncut yn??\n"},
		{impl.Cmd{Kind: impl.CmPrune, At: 1}, "run yyn? sure 4 told 4\ncut n?y?\ncut n?n?\ncut yn??\ncut yyy?\n"},
		{impl.Cmd{Kind: impl.CmPrune}, "cut n?y?\ncut n?n?\ncut yn??\ncut yyy?\ncut yyn?\n"},
	} {
		w, _ = impl.Do(w, step.c)
		if text := string(impl.WorldText(w)); text != step.want {
			t.Fatalf("%v: %q, not %q", step.c, text, step.want)
		}
		tellsOfDesk(t, "step by step", w, errand{c: step.c, i: 1})
	}
}

// Texts of worlds of any size, with any vectors, asks and cuts, have a line for each.
func TestWorldTextOfAnyVectors(t *testing.T) {
	t.Parallel()
	r := newRandom(116)
	for range 200 {
		n := 1 + r.IntN(16)
		l := parted(r, n)
		runs := r.IntN(n + 1)
		w := ofVectors(threeParts(), l[:runs], l[runs:])
		for i := range w.Branches {
			w.Branches[i] = played(t, w.Branches[i], playful(r, r.IntN(20), 4)...)
			w.Branches[i].Asks = r.IntN(5) - 1
			if r.IntN(3) == 0 {
				w.Branches[i].Full = true
			}
		}
		readsLines(t, "any", w, worldLines(w)...)
	}
}
