package tests

import (
	"math"
	"reflect"
	"slices"
	"strconv"
	"testing"

	"loop.example/g00603/impl"
)

// kernelOutcome is what a function of kernels answers; what it does not answer is its zero value.
type kernelOutcome struct {
	Kernel  impl.Kernel
	History impl.History
	Event   impl.Event
	Number  int
	Ok      bool
}

// everything is what all functions of kernels answer to one of them.
type everything struct {
	KernelOk  bool
	Gvt       kernelOutcome
	Pick      kernelOutcome
	Deliver   kernelOutcome
	Committed kernelOutcome
	Finish    kernelOutcome
	Idle      bool
	Undone    int
	Collect   kernelOutcome
	Play      kernelOutcome
	Straggles bool
	Held      int
}

// wish is what some of these functions want beside the kernel, and whether to leave out Finish, which takes long.
type wish struct {
	lp     int
	i      int
	script []int
	brief  bool
}

func askedOf(k impl.Kernel, w wish) everything {
	var x everything
	x.KernelOk = impl.KernelOk(k)
	x.Gvt.Event, x.Gvt.Ok = impl.Gvt(k)
	x.Pick.Kernel, x.Pick.Ok = impl.Pick(k, w.lp)
	x.Deliver.Kernel, x.Deliver.Ok = impl.Deliver(k, w.i)
	x.Committed.History, x.Committed.Ok = impl.Committed(k)
	if !w.brief {
		x.Finish.Kernel, x.Finish.Ok = impl.Finish(k)
	}
	x.Idle = impl.Idle(k)
	x.Undone = impl.Undone(k)
	x.Collect.Kernel, x.Collect.Number = impl.Collect(k)
	x.Play.Kernel, x.Play.Number = impl.Play(k, w.script)
	x.Straggles = impl.Straggles(k, w.i)
	x.Held = impl.Held(k)
	return x
}

// fixed is what is answered to a kernel that may not be.
func fixed() everything {
	return everything{Collect: kernelOutcome{Number: -1}, Play: kernelOutcome{Number: -1}}
}

// wordsOf is what is to be answered, told anew by the words of the document.
func wordsOf(k impl.Kernel, w wish) everything {
	x := fixed()
	if !isKernel(k) {
		return x
	}
	x.KernelOk = true
	x.Gvt = gvtOf(k)
	if w.lp >= 0 && w.lp < k.M.Lps {
		x.Pick = pickOf(k, w.lp)
	}
	if w.i >= 0 && w.i < len(k.Bag) {
		x.Deliver = deliverOf(k, w.i)
		x.Straggles = stragglesOf(k, w.i)
	}
	x.Committed = kernelOutcome{History: committedOf(k), Ok: true}
	if !w.brief {
		x.Finish = finishOf(k)
	}
	x.Idle = !x.Gvt.Ok
	x.Undone = undoneOf(k)
	x.Collect = collectOf(k)
	x.Play = playOf(k, w.script)
	for _, p := range k.Parts {
		x.Held += savedOf(p)
	}
	return x
}

// tells fails where any function answers k otherwise than the words of the document, writes or shares.
func tells(t *testing.T, name string, k impl.Kernel, w wish) everything {
	t.Helper()
	k, w.script = roomy(k), roomy(w.script)
	want := wordsOf(k, w)
	got := askedOf(k, w)
	for i := range reflect.TypeFor[everything]().NumField() {
		g, x := reflect.ValueOf(got).Field(i).Interface(), reflect.ValueOf(want).Field(i).Interface()
		if !reflect.DeepEqual(plainAny(g), plainAny(x)) {
			t.Fatalf("%s: %s: %+v, not %+v, of %+v", name, reflect.TypeFor[everything]().Field(i).Name, g, x, k)
		}
	}
	answers(t, name, want, func() everything { return askedOf(k, w) }, k, w.script)
	return want
}

func plainAny(v any) any {
	if x, ok := v.(kernelOutcome); ok {
		return plain(x)
	}
	return v
}

// refusesAll fails where any function gives another than its fixed answer.
func refusesAll(t *testing.T, name string, k impl.Kernel, w wish) {
	t.Helper()
	if isKernel(k) {
		t.Fatal("a kernel:", name)
	}
	if x := tells(t, name, k, w); !same(x, fixed()) {
		t.Fatal(name, x)
	}
}

// fitsModel tells what Handle wants of an event.
func fitsModel(m impl.Model, e impl.Event) bool {
	return impl.EventOk(e) && e.Dst < m.Lps && e.Kind < len(m.Handlers) && e.Time <= m.End
}

// isKernel tells KernelOk anew, by the words of the document.
func isKernel(k impl.Kernel) bool {
	if !impl.ModelOk(k.M) || !impl.VectorOk(k.D) || len(k.Parts) != k.M.Lps || len(k.Bag) > 2000 ||
		k.Tag < 6 || k.Tag > 100000-8 || k.Asks < -1 || k.Asks > 3 || len(k.Sure) > 2000 || len(k.Told) > 16000 {
		return false
	}
	tags := map[int]int{}
	known := func(e impl.Event) bool { return fitsModel(k.M, e) && e.Tag < k.Tag }
	for lp, p := range k.Parts {
		if p.Lp != lp || !isPart(p) {
			return false
		}
		for _, e := range p.Todo {
			tags[e.Tag]++
			if !known(e) {
				return false
			}
		}
		for _, x := range p.Past {
			tags[x.E.Tag]++
			if x.E.Tag >= k.Tag || slices.ContainsFunc(x.Sent, func(e impl.Event) bool { return !known(e) }) {
				return false
			}
		}
		if slices.ContainsFunc(p.Antis, func(tag int) bool { return tag >= k.Tag }) {
			return false
		}
	}
	for _, mail := range k.Bag {
		if !mail.Anti {
			tags[mail.E.Tag]++
		}
		if !known(mail.E) {
			return false
		}
	}
	for _, n := range tags {
		if n > 1 {
			return false
		}
	}
	return isSure(k)
}

func isSure(k impl.Kernel) bool {
	for i, e := range k.Sure {
		if !fitsModel(k.M, e) || e.Tag != 0 || i > 0 && !ahead(k.Sure[i-1], e) {
			return false
		}
	}
	for _, x := range k.Told {
		if x.Time < 0 || x.Time > 1000 || x.Lp < 0 || x.Lp > 3 || x.Val < 0 || x.Val > 999 {
			return false
		}
	}
	if len(k.Sure) == 0 {
		return true
	}
	last := k.Sure[len(k.Sure)-1]
	for _, p := range k.Parts {
		if len(p.Past) > 0 && !ahead(last, p.Past[0].E) {
			return false
		}
	}
	gvt := gvtOf(k)
	return !gvt.Ok || ahead(last, gvt.Event)
}

// gvtOf has, of those that are alike, the one that the words name first: of Todo, then of Bag.
func gvtOf(k impl.Kernel) kernelOutcome {
	var l []impl.Event
	for _, p := range k.Parts {
		l = append(l, p.Todo...)
	}
	for _, mail := range k.Bag {
		l = append(l, mail.E)
	}
	if len(l) == 0 {
		return kernelOutcome{}
	}
	first := l[0]
	for _, e := range l {
		if ahead(e, first) {
			first = e
		}
	}
	return kernelOutcome{Event: first, Ok: true}
}

// loadOf is n of the document's words on a part that works.
func loadOf(k impl.Kernel) int {
	n := len(k.Bag)
	for _, p := range k.Parts {
		n += len(p.Todo) + len(p.Antis) + 9*len(p.Past)
	}
	return n
}

// worked lets a part of k work, and tells whether it did anything.
func worked(k *impl.Kernel, lp int) bool {
	p := k.Parts[lp]
	if k.Full || len(p.Todo) == 0 {
		return false
	}
	n := loadOf(*k)
	if len(p.Past) == 200 || p.State.Seq >= 100000-16 || p.State.Draws >= 100000-16 || k.Tag > 100000-24 || n > 1900 || n+len(k.Sure) > 1900 {
		k.Full = true
		return false
	}
	x := workOf(k.M, k.D, p, k.Tag)
	if x.Number >= 0 {
		first := p.Todo[0]
		if slices.ContainsFunc(k.Bag, func(mail impl.Mail) bool { return !ahead(first, mail.E) }) ||
			slices.ContainsFunc(k.Parts, func(q impl.Part) bool { return len(q.Todo) > 0 && ahead(q.Todo[0], first) }) {
			return false
		}
		k.Asks = x.Number
		return false
	}
	k.Parts = slices.Clone(k.Parts)
	k.Parts[lp] = x.Part
	k.Bag = slices.Clone(k.Bag)
	for _, e := range x.Events {
		k.Bag = append(k.Bag, impl.Mail{E: e})
	}
	k.Tag += len(x.Events)
	return true
}

// handedOn hands one of Bag on; where what comes of it may not be, k stays, and it is false.
func handedOn(k *impl.Kernel, i int) bool {
	mail := k.Bag[i]
	deed := hearOf
	if mail.Anti {
		deed = unhearOf
	}
	x := deed(k.Parts[mail.E.Dst], mail.E)
	after := *k
	after.Parts = slices.Clone(k.Parts)
	after.Parts[mail.E.Dst] = x.Part
	after.Bag = slices.Delete(slices.Clone(k.Bag), i, i+1)
	for _, e := range x.Events {
		after.Bag = append(after.Bag, impl.Mail{E: e, Anti: true})
	}
	if !x.Ok || !isKernel(after) {
		return false
	}
	*k = after
	return true
}

func pickOf(k impl.Kernel, lp int) kernelOutcome {
	ok := worked(&k, lp)
	return kernelOutcome{Kernel: k, Ok: ok}
}

func deliverOf(k impl.Kernel, i int) kernelOutcome {
	ok := handedOn(&k, i)
	return kernelOutcome{Kernel: k, Ok: ok}
}

// sureIn are, of all Past, those ahead of Gvt, in order.
func sureIn(k impl.Kernel) []impl.Past {
	gvt := gvtOf(k)
	var l []impl.Past
	for _, p := range k.Parts {
		for _, x := range p.Past {
			if !gvt.Ok || ahead(x.E, gvt.Event) {
				l = append(l, x)
			}
		}
	}
	slices.SortFunc(l, func(a impl.Past, b impl.Past) int { return compareByAhead(a.E, b.E) })
	return l
}

func committedOf(k impl.Kernel) impl.History {
	h := impl.History{Events: slices.Clone(k.Sure), Emits: slices.Clone(k.Told), Asks: k.Asks, Full: k.Full}
	for _, x := range sureIn(k) {
		e := x.E
		e.Tag = 0
		h.Events = append(h.Events, e)
		h.Emits = append(h.Emits, x.Emits...)
	}
	return h
}

func finishOf(k impl.Kernel) kernelOutcome {
	for range 5000 {
		if len(k.Bag) > 0 {
			if !handedOn(&k, 0) {
				break // It would be tried again and again.
			}
			continue
		}
		first := gvtOf(k)
		if !first.Ok {
			return kernelOutcome{Kernel: k, Ok: true}
		}
		if !worked(&k, first.Event.Dst) {
			break
		}
	}
	return kernelOutcome{Kernel: k}
}

func undoneOf(k impl.Kernel) int {
	n := len(k.Sure) - len(committedOf(k).Events)
	for _, p := range k.Parts {
		n += len(p.Past)
	}
	return n
}

func collectOf(k impl.Kernel) kernelOutcome {
	h, gvt := committedOf(k), gvtOf(k)
	after := plain(k)
	after.Sure, after.Told = h.Events, h.Emits
	for lp, p := range after.Parts {
		if gvt.Ok {
			after.Parts[lp] = trimOf(p, gvt.Event).Part
		} else {
			after.Parts[lp].Past = nil
		}
	}
	if !isKernel(after) {
		return kernelOutcome{Kernel: k}
	}
	return kernelOutcome{Kernel: after, Number: len(after.Sure) - len(k.Sure)}
}

func playOf(k impl.Kernel, script []int) kernelOutcome {
	if len(script) > 300 || slices.ContainsFunc(script, func(s int) bool { return s < 0 }) {
		return kernelOutcome{Number: -1}
	}
	n := 0
	for _, s := range script {
		if s%2 == 0 && worked(&k, s/2%len(k.Parts)) || s%2 == 1 && len(k.Bag) > 0 && handedOn(&k, s/2%len(k.Bag)) {
			n++
		}
	}
	return kernelOutcome{Kernel: k, Number: n}
}

func stragglesOf(k impl.Kernel, i int) bool {
	lp := k.Bag[i].E.Dst
	return len(deliverOf(k, i).Kernel.Parts[lp].Past) < len(k.Parts[lp].Past)
}

// someKernel has four parts as somePart, with Tags of their own, and on the way two that are late, one that is not,
// one that takes back what is to be done, one that takes back what was done, and one with what takes it back ahead of it.
func someKernel() impl.Kernel {
	k := impl.Kernel{M: workshop(), D: []int{-1, 1, -1, 0}, Tag: 500, Asks: 2}
	for lp := range 4 {
		p := ofPart(somePart(), lp)
		for i := range p.Past {
			p.Past[i].E.Tag += 100 * lp
			for j := range p.Past[i].Sent {
				p.Past[i].Sent[j].Tag += 100 * lp
			}
		}
		for i := range p.Todo {
			p.Todo[i].Tag += 100 * lp
		}
		for i := range p.Antis {
			p.Antis[i] += 100 * lp
		}
		k.Parts = append(k.Parts, p)
	}
	double := impl.Event{Time: 35, Src: 1, Seq: 9, Dst: 3, Kind: 2, Val: 8, Tag: 420}
	k.Bag = []impl.Mail{
		{E: impl.Event{Time: 33, Src: 1, Seq: 4, Dst: 2, Kind: 0, Val: 3, Tag: 410}},
		{E: impl.Event{Time: 15, Src: 2, Seq: 1, Dst: 1, Kind: 1, Val: 4, Tag: 411}},
		{E: k.Parts[0].Todo[1], Anti: true},
		{E: k.Parts[3].Past[2].E, Anti: true},
		{E: double, Anti: true},
		{E: double},
		{E: impl.Event{Time: 11, Src: 3, Seq: 6, Dst: 0, Kind: 3, Val: 999, Tag: 499}},
	}
	k.Sure = []impl.Event{{Time: 2, Src: -1, Seq: 5, Dst: 3, Kind: 2, Val: 999}, {Time: 7, Src: 1, Seq: 0, Dst: 1}, {Time: 10, Src: -1, Seq: 2, Dst: 2, Kind: 3, Val: 5}}
	k.Told = []impl.Emit{{Time: 2, Lp: 3, Val: 7}, {Time: 10, Lp: 2, Val: 0}}
	return k
}

// yard is a model whose kind 0 sends as many as there may be, 1 asks for decision 2, 2 does nothing, and 3 tells and draws as many.
func yard() impl.Model {
	return impl.Model{
		Lps:  4,
		Seed: 7,
		Init: []int{5, 6, 7, 8},
		Handlers: [][]impl.Op{
			slices.Repeat([]impl.Op{{Code: impl.OpSend, A: 1, B: 1, C: 2}}, 8),
			{{Code: impl.OpAsk, A: 2, B: 1}, {Code: impl.OpEmit, A: 1}},
			nil,
			slices.Repeat([]impl.Op{{Code: impl.OpEmit}, {Code: impl.OpDraw, B: 9}}, 4),
		},
		End: 900,
	}
}

// size is how many of each a kernel is to have.
type size struct{ bag, todo, antis, past, sure, told int }

// sized is a kernel of the yard with so many of each in part 3, with Past in 2 and 1 too where there is no more room,
// and part 0 that has one to do, ahead of all.
func sized(n size) impl.Kernel {
	k := impl.Kernel{M: yard(), D: []int{0, 1, 0, 1}, Tag: 60000, Asks: -1}
	for lp := range 4 {
		k.Parts = append(k.Parts, impl.Part{Lp: lp, State: stateWith(lp, 1, 20, 10)})
	}
	k.Parts[0].Todo = []impl.Event{{Time: 500, Src: 2, Seq: 3, Kind: 0, Tag: 4}}
	for i := range n.sure {
		k.Sure = append(k.Sure, impl.Event{Time: i / 25, Src: i%5 - 1, Seq: i, Dst: i % 4, Kind: 2})
	}
	slices.SortFunc(k.Sure, compareByAhead)
	for i := range n.told {
		k.Told = append(k.Told, impl.Emit{Time: i % 1001, Lp: i % 4, Val: i % 1000})
	}
	for i := range n.past {
		lp := 3 - i/200
		k.Parts[lp].Past = append(k.Parts[lp].Past, impl.Past{
			E:      impl.Event{Time: 100 + i/4, Src: 0, Seq: i, Dst: lp, Kind: 2, Tag: 30000 + i},
			Before: stateWith(i%1000, 2, 3, 4),
		})
	}
	for i := range n.todo {
		k.Parts[3].Todo = append(k.Parts[3].Todo, impl.Event{Time: 510 + i/10, Src: 1, Seq: i, Dst: 3, Kind: 2, Tag: 20000 + i})
	}
	for i := range n.antis {
		k.Parts[3].Antis = append(k.Parts[3].Antis, 40000+i)
	}
	for i := range n.bag {
		k.Bag = append(k.Bag, impl.Mail{E: impl.Event{Time: 520 + i/10, Src: 1, Seq: i, Dst: i % 4, Kind: 2, Tag: 10000 + i}})
	}
	return k
}

// fineKernels are all sorts of kernels, with each limit met.
func fineKernels() map[string]impl.Kernel {
	some := someKernel()
	l := map[string]impl.Kernel{
		"some":           some,
		"small":          sized(size{}),
		"2000 in Bag":    sized(size{bag: 2000}),
		"2000 in Todo":   sized(size{todo: 2000}),
		"2000 in Antis":  sized(size{antis: 2000}),
		"MaxPast":        sized(size{past: 200}),
		"MaxPast thrice": sized(size{past: 600}),
		"2000 in Sure":   sized(size{sure: 2000}),
		"16000 in Told":  sized(size{told: 16000}),
		"empty lists":    {M: yard(), D: undecided, Parts: sized(size{}).Parts, Bag: []impl.Mail{}, Tag: 6, Sure: []impl.Event{}, Told: []impl.Emit{}},
	}
	for name, change := range map[string]func(k *impl.Kernel){
		"Bag is empty":                    func(k *impl.Kernel) { k.Bag = nil },
		"Sure is empty":                   func(k *impl.Kernel) { k.Sure = nil },
		"Told is empty":                   func(k *impl.Kernel) { k.Told = nil },
		"the least Tag":                   func(k *impl.Kernel) { k.Tag = 500 },
		"the greatest Tag":                func(k *impl.Kernel) { k.Tag = 99992 },
		"the last with room":              func(k *impl.Kernel) { k.Tag = 99976 },
		"the first without":               func(k *impl.Kernel) { k.Tag = 99977 },
		"it is Full":                      func(k *impl.Kernel) { k.Full = true },
		"asks for the first":              func(k *impl.Kernel) { k.Asks = 0 },
		"asks for the last":               func(k *impl.Kernel) { k.Asks = 3 },
		"asks for what is made":           func(k *impl.Kernel) { k.Asks = 1 },
		"asks for nothing":                func(k *impl.Kernel) { k.Asks = -1 },
		"no Todo":                         func(k *impl.Kernel) { noTodo(k) },
		"no Todo, no Bag":                 func(k *impl.Kernel) { noTodo(k); k.Bag = nil },
		"no Past":                         func(k *impl.Kernel) { noPast(k) },
		"nothing":                         func(k *impl.Kernel) { noTodo(k); noPast(k); k.Bag = nil },
		"nothing at all":                  func(k *impl.Kernel) { noTodo(k); noPast(k); k.Bag, k.Sure, k.Told = nil, nil, nil },
		"a Tag of Past taken back twice":  func(k *impl.Kernel) { k.Bag = append(k.Bag, k.Bag[3], k.Bag[3]) },
		"a Tag of Bag in Antis":           func(k *impl.Kernel) { k.Parts[2].Antis = append(k.Parts[2].Antis, 410) },
		"a Tag of Sent in Bag":            func(k *impl.Kernel) { k.Bag[0].E.Tag = 50 },
		"a Tag of Sent in Todo":           func(k *impl.Kernel) { k.Parts[1].Todo[2].Tag = 52 },
		"a Tag of Sent in Sent":           func(k *impl.Kernel) { k.Parts[1].Past[0].Sent[0].Tag = 50 },
		"the greatest Tags":               func(k *impl.Kernel) { k.Bag[0].E.Tag, k.Parts[1].Antis = 498, []int{499} },
		"only what takes back":            func(k *impl.Kernel) { onlyAntis(k) },
		"what was done has no kind":       func(k *impl.Kernel) { k.M = fewKinds(k); k.Parts[3].Past[3].E.Kind = 3 },
		"what was done is behind End":     func(k *impl.Kernel) { k.Parts[1].Todo = nil; k.Parts[1].Past[3].E.Time = 101 },
		"Sure alike but for the Tag":      func(k *impl.Kernel) { k.Sure[2].Seq = 3 },
		"Sure alike to Gvt but the Tag":   func(k *impl.Kernel) { noPast(k); k.Sure[2] = k.Bag[6].E; k.Sure[2].Tag = 0 },
		"Sure next to Gvt":                func(k *impl.Kernel) { noPast(k); k.Sure[2].Time, k.Sure[2].Src, k.Sure[2].Seq = 11, 3, 5 },
		"Sure behind all, there is none":  func(k *impl.Kernel) { noPast(k); noTodo(k); k.Bag = nil; k.Sure[2].Time = 100 },
		"Told by all":                     func(k *impl.Kernel) { k.Told = []impl.Emit{{}, {Time: 1000, Lp: 3, Val: 999}, {}} },
		"one alike to one that goes back": func(k *impl.Kernel) { k.Bag[3].E.Dst, k.Bag[3].E.Kind, k.Bag[3].E.Val = 1, 0, 0 },
	} {
		l[name] = changed(some, change)
	}
	return l
}

func noTodo(k *impl.Kernel) {
	for lp := range k.Parts {
		k.Parts[lp].Todo = nil
	}
}

func noPast(k *impl.Kernel) {
	for lp := range k.Parts {
		k.Parts[lp].Past = nil
	}
}

func onlyAntis(k *impl.Kernel) {
	for i := range k.Bag {
		k.Bag[i].Anti = true
	}
}

// fewKinds is the model of k without kind 3, which is nowhere in k any more but in Past.
func fewKinds(k *impl.Kernel) impl.Model {
	for lp := range k.Parts {
		for i := range k.Parts[lp].Todo {
			k.Parts[lp].Todo[i].Kind %= 3
		}
		for i := range k.Parts[lp].Past {
			for j := range k.Parts[lp].Past[i].Sent {
				k.Parts[lp].Past[i].Sent[j].Kind %= 3
			}
		}
	}
	for i := range k.Bag {
		k.Bag[i].E.Kind %= 3
	}
	for i := range k.Sure {
		k.Sure[i].Kind %= 3
	}
	m := plain(k.M)
	m.Handlers = m.Handlers[:3]
	m.Handlers[2] = nil
	m.Start = nil
	return m
}

// wrongKernels are kernels that may not be, each for one reason, of which each number by itself may be.
func wrongKernels() map[string]impl.Kernel {
	l := map[string]impl.Kernel{
		"the zero value":           {},
		"no parts":                 {M: yard(), D: undecided, Tag: 6},
		"one too many in Bag":      sized(size{bag: 2001}),
		"one too many in Todo":     sized(size{todo: 2001}),
		"one too many in Antis":    sized(size{antis: 2001}),
		"one too many in Sure":     sized(size{sure: 2001}),
		"one too many in Told":     sized(size{told: 16001}),
		"one above MaxPast":        changed(sized(size{past: 200}), func(k *impl.Kernel) { p := &k.Parts[3]; p.Past = append(p.Past, onePast(3)) }),
		"a Tag at Tag alone":       changed(sized(size{}), func(k *impl.Kernel) { k.Tag, k.Parts[0].Todo[0].Tag = 6, 6 }),
		"the least Tag, none less": changed(sized(size{}), func(k *impl.Kernel) { k.Tag = 5 }),
	}
	for name, change := range map[string]func(k *impl.Kernel){
		"a part too few":  func(k *impl.Kernel) { k.Parts = k.Parts[:3] },
		"a part too many": func(k *impl.Kernel) { k.Parts = append(k.Parts, k.Parts[3]) },
		"an empty part too many": func(k *impl.Kernel) {
			fewParts(k)
			k.Parts = append(k.Parts, impl.Part{Lp: 3, State: stateWith(0, 0, 0, 0)})
		},
		"parts changed over":                 func(k *impl.Kernel) { k.Parts[0], k.Parts[1] = k.Parts[1], k.Parts[0] },
		"a part twice":                       func(k *impl.Kernel) { k.Parts[2] = k.Parts[1] },
		"Bag for no part":                    func(k *impl.Kernel) { fewParts(k); k.Bag[0].E.Dst = 3 },
		"Todo for another":                   func(k *impl.Kernel) { k.Parts[1].Todo[2].Dst = 2 },
		"Sent for no part":                   func(k *impl.Kernel) { fewParts(k); k.Parts[0].Past[0].Sent[1].Dst = 3 },
		"Sure for no part":                   func(k *impl.Kernel) { fewParts(k); k.Sure[1].Dst = 3 },
		"Bag of no kind":                     func(k *impl.Kernel) { k.M = fewKinds(k); k.Bag[4].E.Kind = 3 },
		"Todo of no kind":                    func(k *impl.Kernel) { k.M = fewKinds(k); k.Parts[1].Todo[2].Kind = 3 },
		"Sent of no kind":                    func(k *impl.Kernel) { k.M = fewKinds(k); k.Parts[3].Past[2].Sent[2].Kind = 3 },
		"Sure of no kind":                    func(k *impl.Kernel) { k.M = fewKinds(k); k.Sure[0].Kind = 3 },
		"Bag behind End":                     func(k *impl.Kernel) { k.Bag[0].E.Time = 101 },
		"what takes back behind End":         func(k *impl.Kernel) { k.Bag[2].E.Time = 101 },
		"Todo behind End":                    func(k *impl.Kernel) { k.Parts[2].Todo[2].Time = 101 },
		"Sent behind End":                    func(k *impl.Kernel) { k.Parts[0].Past[0].Sent[1].Time = 101 },
		"Sure behind End":                    func(k *impl.Kernel) { noTodo(k); noPast(k); k.Bag = nil; k.Sure[2].Time = 101 },
		"a Tag of Bag at Tag":                func(k *impl.Kernel) { k.Bag[0].E.Tag = 500 },
		"a Tag of what takes back at Tag":    func(k *impl.Kernel) { k.Bag[2].E.Tag = 500 },
		"a Tag of Todo at Tag":               func(k *impl.Kernel) { k.Parts[1].Todo[2].Tag = 500 },
		"a Tag of Past at Tag":               func(k *impl.Kernel) { k.Parts[1].Past[3].E.Tag = 500 },
		"a Tag of Sent at Tag":               func(k *impl.Kernel) { k.Parts[1].Past[2].Sent[2].Tag = 500 },
		"a Tag of Antis at Tag":              func(k *impl.Kernel) { k.Parts[3].Antis[2] = 500 },
		"Tag below one of Bag":               func(k *impl.Kernel) { k.Tag = 499 },
		"a Tag twice in Bag":                 func(k *impl.Kernel) { k.Bag[0].E.Tag = 411 },
		"what takes back is none":            func(k *impl.Kernel) { k.Bag[4].Anti = false },
		"a Tag in Bag and Todo":              func(k *impl.Kernel) { k.Bag[2].Anti = false },
		"a Tag in Bag and another's Todo":    func(k *impl.Kernel) { k.Bag[0].E.Tag = k.Parts[3].Todo[2].Tag },
		"a Tag in Bag and Past":              func(k *impl.Kernel) { k.Bag[3].Anti = false },
		"a Tag in Bag and another's Past":    func(k *impl.Kernel) { k.Bag[6].E.Tag = k.Parts[1].Past[0].E.Tag },
		"a Tag in two Todo":                  func(k *impl.Kernel) { k.Parts[1].Todo[0].Tag = k.Parts[2].Todo[2].Tag },
		"a Tag in two Past":                  func(k *impl.Kernel) { k.Parts[1].Past[0].E.Tag = k.Parts[0].Past[0].E.Tag },
		"a Tag in Todo and another's Past":   func(k *impl.Kernel) { k.Parts[3].Todo[1].Tag = k.Parts[0].Past[2].E.Tag },
		"a Tag twice in a Todo":              func(k *impl.Kernel) { k.Parts[3].Todo[1].Tag = k.Parts[3].Todo[2].Tag },
		"the first of Sure has a Tag":        func(k *impl.Kernel) { k.Sure[0].Tag = 1 },
		"the last of Sure has a Tag":         func(k *impl.Kernel) { k.Sure[2].Tag = 2 },
		"Sure not in order":                  func(k *impl.Kernel) { k.Sure[0], k.Sure[1] = k.Sure[1], k.Sure[0] },
		"Sure not in order at its end":       func(k *impl.Kernel) { k.Sure[1].Time, k.Sure[1].Src = 10, 0 },
		"one of Sure twice":                  func(k *impl.Kernel) { k.Sure[1] = k.Sure[0] },
		"alike in Sure but for the rest":     func(k *impl.Kernel) { k.Sure[1].Time, k.Sure[1].Src, k.Sure[1].Seq = 2, -1, 5 },
		"Sure behind a first of Past":        func(k *impl.Kernel) { k.Sure[2].Seq = 4 },
		"Sure behind the last first of Past": func(k *impl.Kernel) { k.Parts[3].Past[0].E.Seq = 1 },
		"Sure at a first of Past":            func(k *impl.Kernel) { k.Parts[2].Past[0].E.Seq, k.Parts[2].Past[0].E.Tag = 2, 0 },
		"Sure behind Gvt in Bag":             func(k *impl.Kernel) { k.Bag[6].E.Time = 9 },
		"Sure behind one that takes back":    func(k *impl.Kernel) { k.Bag[2].E.Time = 9 },
		"Sure at Gvt in Bag":                 func(k *impl.Kernel) { k.Bag[6].E = k.Sure[2] },
		"Sure behind Gvt in Todo":            func(k *impl.Kernel) { noPast(k); k.Bag = nil; k.Parts[1].Todo[0].Time = 9 },
		"Sure at Gvt in Todo":                func(k *impl.Kernel) { noPast(k); k.Bag = nil; k.Sure[2].Dst = 1; k.Parts[1].Todo[0] = k.Sure[2] },
		"no vector":                          func(k *impl.Kernel) { k.D = nil },
		"a vector too short":                 func(k *impl.Kernel) { k.D = k.D[:3] },
		"a vector too long":                  func(k *impl.Kernel) { k.D = append(k.D, 0) },
		"another number of parts":            func(k *impl.Kernel) { k.M = sizedModel(3, 4, 1, 0); k.M.End = 100 },
		"another End":                        func(k *impl.Kernel) { k.M.Start, k.M.End = nil, 59 },
	} {
		l[name] = changed(someKernel(), change)
	}
	return l
}

// onePast is one that is behind all Past of a sized kernel.
func onePast(lp int) impl.Past {
	return impl.Past{E: impl.Event{Time: 499, Dst: lp, Kind: 2, Tag: 5}, Before: stateWith(1, 2, 3, 4)}
}

// fewParts leaves k with three parts, and nothing for the fourth.
func fewParts(k *impl.Kernel) {
	k.M = plain(k.M)
	k.M.Lps, k.M.Init, k.M.Start = 3, k.M.Init[:3], nil
	for _, handler := range k.M.Handlers {
		for i := range handler {
			if handler[i].Code == impl.OpSend {
				handler[i].A %= 3
			}
		}
	}
	k.Parts = k.Parts[:3]
	for lp := range k.Parts {
		for i := range k.Parts[lp].Past {
			for j := range k.Parts[lp].Past[i].Sent {
				k.Parts[lp].Past[i].Sent[j].Dst %= 3
			}
		}
	}
	for i := range k.Bag {
		k.Bag[i].E.Dst %= 3
		if k.Bag[i].Anti {
			k.Bag[i].E.Dst = 2
		}
	}
	for i := range k.Sure {
		k.Sure[i].Dst %= 3
	}
}

func TestKernelOk(t *testing.T) {
	t.Parallel()
	for name, k := range fineKernels() {
		if !isKernel(k) {
			t.Fatal("no kernel:", name)
		}
		for lp := range 4 {
			tells(t, name, k, wish{lp, lp, []int{0, 1, 2, 3, 4, 5, 6, 7, 9, 11, 13}, lp > 0})
		}
	}
	few := someKernel()
	fewParts(&few)
	if !isKernel(few) {
		t.Fatal("no kernel of three parts")
	}
	tells(t, "three parts", few, wish{})
	kinds := someKernel()
	kinds.M = fewKinds(&kinds)
	if !isKernel(kinds) {
		t.Fatal("no kernel of three kinds")
	}
	tells(t, "three kinds", kinds, wish{})
}

// Every function gives its fixed answer to a kernel that may not be.
func TestWrongKernels(t *testing.T) {
	for name, k := range wrongKernels() {
		refusesAll(t, name, k, wish{script: []int{0, 1}})
	}
}

func TestTagAtItsBounds(t *testing.T) {
	for tag, fine := range map[int]bool{4: false, 5: false, 6: true, 7: true, 99975: true, 99976: true, 99977: true, 99991: true, 99992: true, 99993: false, 100000: false} {
		k := changed(sized(size{}), func(k *impl.Kernel) { k.Tag = tag })
		x := tells(t, "Tag "+strconv.Itoa(tag), k, wish{script: []int{0}})
		if x.KernelOk != fine || x.Pick.Ok != (fine && tag <= 99976) || x.Pick.Kernel.Full != (fine && tag > 99976) {
			t.Fatal(tag, x.Pick)
		}
	}
}

func TestKernelsWithWrongNumbers(t *testing.T) {
	t.Parallel()
	k := someKernel()
	for at, n := range numbersOf(&k) {
		for i, x := range n.beyond() {
			wrong := withNumber(k, at, x)
			name := n.name + ", number " + strconv.Itoa(at) + ": " + strconv.Itoa(x)
			if i%5 == 0 {
				refusesAll(t, name, wrong, wish{})
			} else if isKernel(wrong) || !reflect.DeepEqual(askedOf(wrong, wish{}), fixed()) {
				t.Fatal(name)
			}
		}
	}
}

func TestKernelOkOfEachNumber(t *testing.T) {
	k := someKernel()
	var fine, wrong int
	for at, n := range numbersOf(&k) {
		now := *numbersOf(&k)[at].x
		for _, x := range []int{n.low, n.low + 1, now - 1, now + 1, n.high - 1, n.high} {
			other := withNumber(k, at, x)
			ok := impl.KernelOk(other)
			if ok != isKernel(other) {
				t.Fatal(n.name, x, ok)
			}
			if ok {
				fine++
			} else {
				wrong++
			}
		}
	}
	if min(fine, wrong) < 300 {
		t.Error("not much was tried:", fine, wrong)
	}
}

func TestKernelsOfWrongModels(t *testing.T) {
	k := someKernel()
	for _, f := range modelFields(k.M) {
		for _, x := range f.beyond() {
			wrong := k
			wrong.M = f.with(k.M, x)
			if isKernel(wrong) || !reflect.DeepEqual(askedOf(wrong, wish{}), fixed()) {
				t.Fatal(f.name, x)
			}
		}
		wrong := k
		wrong.M = f.with(k.M, f.high+1)
		refusesAll(t, f.name, wrong, wish{})
		doesNotBegin(t, f.name, wrong.M, undecided)
	}
	for name, m := range wrongSizes() {
		wrong := k
		wrong.M = m
		if name == "a million ops" {
			if !reflect.DeepEqual(askedOf(wrong, wish{}), fixed()) {
				t.Fatal(name)
			}
			continue
		}
		refusesAll(t, name, wrong, wish{})
		doesNotBegin(t, name, m, undecided)
	}
	for _, d := range wrongVectors() {
		wrong := k
		wrong.D = d
		refusesAll(t, "a vector", wrong, wish{})
		doesNotBegin(t, "a vector", k.M, d)
	}
}

func TestKernelOkOfFarTooMany(t *testing.T) {
	const many = 1000000
	for name, change := range map[string]func(k *impl.Kernel){
		"Parts": func(k *impl.Kernel) { k.Parts = make([]impl.Part, many) },
		"Bag":   func(k *impl.Kernel) { k.Bag = make([]impl.Mail, many) },
		"Sure":  func(k *impl.Kernel) { k.Sure = make([]impl.Event, many) },
		"Told":  func(k *impl.Kernel) { k.Told = make([]impl.Emit, many) },
		"D":     func(k *impl.Kernel) { k.D = make([]int, many) },
		"Past":  func(k *impl.Kernel) { k.Parts[2].Past = make([]impl.Past, many) },
		"Todo":  func(k *impl.Kernel) { k.Parts[2].Todo = make([]impl.Event, many) },
		"Antis": func(k *impl.Kernel) { k.Parts[2].Antis = make([]int, many) },
		"Sent":  func(k *impl.Kernel) { k.Parts[2].Past[0].Sent = make([]impl.Event, many) },
		"Emits": func(k *impl.Kernel) { k.Parts[2].Past[0].Emits = make([]impl.Emit, many) },
	} {
		k := someKernel()
		change(&k)
		if !reflect.DeepEqual(askedOf(k, wish{}), fixed()) {
			t.Errorf("a million of %s are accepted", name)
		}
	}
	if k, n := impl.Play(someKernel(), make([]int, many)); n != -1 || !same(k, impl.Kernel{}) {
		t.Error("a million numbers are played")
	}
}

func doesNotBegin(t *testing.T, name string, m impl.Model, d []int) {
	t.Helper()
	begin(t, name, m, d, kernelOutcome{})
}

func begin(t *testing.T, name string, m impl.Model, d []int, want kernelOutcome) {
	t.Helper()
	m, d = roomy(m), roomy(d)
	answers(t, name+": KernelNew", want, func() kernelOutcome {
		k, ok := impl.KernelNew(m, d)
		return kernelOutcome{Kernel: k, Ok: ok}
	}, m, d)
}

// kernelFor is a kernel at its beginning, told anew by the words of the document.
func kernelFor(m impl.Model, d []int) impl.Kernel {
	k := impl.Kernel{M: m, D: d, Tag: 6, Asks: -1}
	for lp := range m.Lps {
		k.Parts = append(k.Parts, newOf(m, lp).Part)
	}
	return k
}

func TestKernelNew(t *testing.T) {
	r := newRandom(80)
	for _, m := range fineModels() {
		d := randomVector(r)
		want := kernelFor(m, d)
		begin(t, "a model", m, d, kernelOutcome{Kernel: want, Ok: true})
		if !isKernel(want) {
			t.Fatal("no kernel:", want)
		}
		if x := askedOf(want, wish{}); !x.KernelOk || x.Idle != (len(m.Start) == 0) || x.Undone != 0 || x.Held != 0 || x.Collect.Number != 0 || x.Play.Number != 0 {
			t.Fatal(x)
		}
	}
	for _, d := range allVectors() {
		begin(t, "a vector", threeParts(), d, kernelOutcome{Kernel: kernelFor(threeParts(), d), Ok: true})
	}
}

// Where there is no such part, or nothing such on the way, the answer is the fixed one.
func TestNoSuchPlaces(t *testing.T) {
	few := someKernel()
	fewParts(&few)
	for _, k := range []impl.Kernel{someKernel(), few, sized(size{}), sized(size{bag: 1}), changed(someKernel(), func(k *impl.Kernel) { k.Bag = nil })} {
		for _, lp := range (span{0, k.M.Lps - 1}).beyond() {
			if x := tells(t, "no part", k, wish{lp: lp}); !same(x.Pick, kernelOutcome{}) {
				t.Fatal(x.Pick)
			}
		}
		for _, i := range (span{0, len(k.Bag) - 1}).beyond() {
			if x := tells(t, "no place", k, wish{i: i}); !same(x.Deliver, kernelOutcome{}) || x.Straggles {
				t.Fatal(x.Deliver)
			}
		}
		for lp := range k.M.Lps {
			tells(t, "a part", k, wish{lp: lp})
		}
		for i := range k.Bag {
			if x := tells(t, "a place", k, wish{i: i}); !x.Deliver.Ok {
				t.Fatal(x.Deliver)
			}
		}
	}
}

// The first of all is so by Time, then Src, Seq and Tag, wherever it is.
func TestGvt(t *testing.T) {
	for name, e := range map[string]impl.Event{
		"by Time": {Time: 499, Src: 3, Seq: 9, Tag: 9},
		"by Src":  {Time: 500, Src: 1, Seq: 9, Tag: 9},
		"by Seq":  {Time: 500, Src: 2, Seq: 2, Tag: 9},
		"by Tag":  {Time: 500, Src: 2, Seq: 3, Tag: 3},
		"no Time": {Time: 501, Src: -1, Seq: 0, Tag: 0},
		"no Src":  {Time: 500, Src: 3, Seq: 0, Tag: 0},
		"no Seq":  {Time: 500, Src: 2, Seq: 4, Tag: 0},
		"no Tag":  {Time: 500, Src: 2, Seq: 3, Tag: 5},
	} {
		first := sized(size{}).Parts[0].Todo[0]
		if name[:2] == "by" {
			first = e
		}
		for lp := 1; lp < 4; lp++ {
			e.Dst, first.Dst = lp, 0
			if name[:2] == "by" {
				first.Dst = lp
			}
			k := sized(size{})
			k.Parts[lp].Todo = []impl.Event{e}
			if x := tells(t, name, k, wish{}); x.Gvt.Event != first {
				t.Fatal(name, x.Gvt)
			}
			for _, anti := range []bool{false, true} {
				k = sized(size{bag: 3})
				k.Bag[lp-1] = impl.Mail{E: e, Anti: anti}
				if x := tells(t, name, k, wish{}); x.Gvt.Event != first {
					t.Fatal(name, x.Gvt)
				}
			}
		}
	}
	idle := changed(sized(size{past: 5, sure: 4, antis: 3}), noTodo)
	if x := tells(t, "none", idle, wish{}); x.Gvt.Ok || !x.Idle || x.Undone != 0 || x.Collect.Number != 5 || !x.Finish.Ok {
		t.Fatal(x)
	}
}

// What is sure is ahead of the first of all, in whatever part, and of that nothing is kept behind Collect.
func TestCommitted(t *testing.T) {
	k := someKernel()
	x := tells(t, "some", k, wish{})
	// At 11 one is on the way: only the first of each part is ahead of that.
	want := impl.History{Events: slices.Clone(k.Sure), Emits: slices.Clone(k.Told), Asks: 2}
	for lp := range 4 {
		e := k.Parts[lp].Past[0].E
		e.Tag = 0
		want.Events = append(want.Events, e)
		want.Emits = append(want.Emits, k.Parts[lp].Past[0].Emits...)
	}
	if !same(x.Committed.History, want) || x.Undone != 12 || x.Held != 36 {
		t.Fatal(x.Committed, x.Undone, x.Held)
	}
	// Their places are alike but for the Tag: they can't be sure at once.
	if x.Collect.Number != 0 || !same(x.Collect.Kernel, k) {
		t.Fatal(x.Collect)
	}
	for lp := range 4 {
		k.Parts[lp].Past[0].E.Seq = 7 - lp
	}
	x = tells(t, "some, unlike", k, wish{})
	slices.Reverse(want.Events[3:])
	slices.Reverse(want.Emits[2:])
	for lp := range 4 {
		want.Events[6-lp].Seq = 7 - lp
		k.Parts[lp].Past = k.Parts[lp].Past[1:]
	}
	if !same(x.Committed.History, want) || x.Collect.Number != 4 || len(x.Collect.Kernel.Sure) != 7 {
		t.Fatal(x.Committed, x.Collect)
	}
	k.Sure, k.Told = want.Events, want.Emits
	if !same(x.Collect.Kernel, k) {
		t.Fatal(x.Collect)
	}
}

// What is at the place of the first of all, or behind it, is not sure, were it only by the Tag.
func TestCommittedUpToGvt(t *testing.T) {
	k := changed(sized(size{past: 1}), func(k *impl.Kernel) { k.Parts[3].Past[0].Emits = []impl.Emit{{Time: 3, Lp: 3, Val: 1}} })
	at := k.Parts[3].Past[0].E
	for _, row := range []struct {
		time, src, seq, tag int
		sure                int
	}{
		{at.Time, at.Src, at.Seq, at.Tag, 0}, {at.Time, at.Src, at.Seq, at.Tag + 1, 1}, {at.Time, at.Src, at.Seq, at.Tag - 1, 0},
		{at.Time, at.Src, at.Seq + 1, 0, 1}, {at.Time, at.Src + 1, 0, 0, 1}, {at.Time, at.Src - 1, 90, 0, 0}, {at.Time + 1, -1, 0, 0, 1}, {at.Time - 1, 3, 99, 9, 0},
	} {
		e := impl.Event{Time: row.time, Src: row.src, Seq: row.seq, Dst: 2, Kind: 2, Tag: row.tag}
		k.Bag = []impl.Mail{{E: e, Anti: true}}
		x := tells(t, "up to", k, wish{})
		if n := len(x.Committed.History.Events); n != row.sure || x.Undone != 1-n || x.Collect.Number != n || len(x.Committed.History.Emits) != n {
			t.Fatal(row, x.Committed, x.Undone, x.Collect)
		}
	}
}

// isFine is k, and fails where that may not be.
func isFine(t *testing.T, k impl.Kernel) impl.Kernel {
	t.Helper()
	if !isKernel(k) {
		t.Fatal("no kernel:", k)
	}
	return k
}

// A part works up to each limit that is met, and is Full one above it.
func TestFull(t *testing.T) {
	t.Parallel()
	full := func(name string, k impl.Kernel, want bool) {
		t.Helper()
		for kind := range 4 {
			k = plain(k)
			k.Parts[0].Todo[0].Kind = kind
			x := tells(t, name, isFine(t, k), wish{script: []int{0}, brief: true})
			after := plain(k)
			after.Full = true
			if x.Pick.Kernel.Full != want || x.Pick.Ok == want || x.Play.Number == 1 == want || want && !same(x.Pick.Kernel, after) {
				t.Fatal(name, kind, x.Pick.Ok, x.Pick.Kernel.Full)
			}
			if !impl.KernelOk(x.Pick.Kernel) {
				t.Fatal("no kernel:", name)
			}
		}
	}
	for above := range 2 {
		for name, n := range map[string]size{
			"bag":      {bag: 1899 + above},
			"todo":     {todo: 1899 + above},
			"antis":    {antis: 1899 + above},
			"past":     {past: 211, bag: above},
			"past too": {past: 200, antis: 99 + above},
			"all":      {past: 100, antis: 333, todo: 333, bag: 333 + above},
			"sure":     {sure: 1899 + above},
			"and sure": {bag: 500, sure: 1399 + above},
			"all sure": {past: 100, antis: 250, todo: 250, bag: 250, sure: 249 + above},
		} {
			full(name, sized(n), above == 1)
		}
	}
	full("2000 sure", sized(size{sure: 2000}), true)
	full("2000 in Bag", sized(size{bag: 2000}), true)
	full("Told is not counted", sized(size{told: 16000}), false)
	for _, row := range []struct {
		x    int
		full bool
	}{{99982, false}, {99983, false}, {99984, true}, {99985, true}, {99992, true}} {
		full("Seq", changed(sized(size{}), func(k *impl.Kernel) { k.Parts[0].State.Seq = row.x }), row.full)
		full("Draws", changed(sized(size{}), func(k *impl.Kernel) { k.Parts[0].State.Draws = row.x }), row.full)
		full("another's Seq", changed(sized(size{}), func(k *impl.Kernel) { k.Parts[1].State.Seq = row.x }), false)
		full("another's Draws", changed(sized(size{}), func(k *impl.Kernel) { k.Parts[1].State.Draws = row.x }), false)
	}
	for tag, want := range map[int]bool{99975: false, 99976: false, 99977: true, 99978: true, 99991: true, 99992: true} {
		full("Tag", changed(sized(size{}), func(k *impl.Kernel) { k.Tag = tag }), want)
	}
	for _, past := range []int{198, 199, 200} {
		// All of Past is its own, not another's.
		own := changed(sized(size{past: past}), func(k *impl.Kernel) {
			k.Parts[0].Past, k.Parts[3].Past = k.Parts[3].Past, nil
			for i := range k.Parts[0].Past {
				k.Parts[0].Past[i].E.Dst = 0
			}
		})
		full("Past", own, past == 200)
		full("another's Past", sized(size{past: past}), false)
	}
	full("it is", changed(sized(size{}), func(k *impl.Kernel) { k.Full = true }), true)
}

// Who has nothing to do is not Full, whatever there is; whoever is Full hands on all the same.
func TestNothingToDoIsNotFull(t *testing.T) {
	t.Parallel()
	for name, k := range map[string]impl.Kernel{
		"Bag":   sized(size{bag: 2000}),
		"Sure":  sized(size{sure: 2000}),
		"Past":  sized(size{past: 600}),
		"Tag":   changed(sized(size{}), func(k *impl.Kernel) { k.Tag = 99992 }),
		"Seq":   changed(sized(size{}), func(k *impl.Kernel) { k.Parts[1].State.Seq, k.Parts[1].State.Draws = 99992, 99992 }),
		"small": sized(size{}),
	} {
		x := tells(t, name, k, wish{lp: 1, script: []int{2, 2, 2}})
		if x.Pick.Ok || !same(x.Pick.Kernel, k) || x.Play.Number != 0 || x.Play.Kernel.Full {
			t.Fatal(name, x.Pick)
		}
	}
	k := changed(someKernel(), func(k *impl.Kernel) { k.Full = true })
	for i := range k.Bag {
		x := tells(t, "is Full", k, wish{i: i, script: []int{0, 2, 4, 6, 2*i + 1}})
		if !x.Deliver.Ok || !x.Deliver.Kernel.Full || x.Play.Number != 1 || !x.Committed.History.Full || x.Finish.Ok {
			t.Fatal(x.Deliver)
		}
	}
	done := changed(k, func(k *impl.Kernel) { noTodo(k); noPast(k); k.Bag = k.Bag[2:3] })
	if x := tells(t, "is Full, and done", done, wish{}); !x.Finish.Ok || !x.Finish.Kernel.Full {
		t.Fatal(x.Finish)
	}
}

// A part that asks is heard where all of Bag is behind its first one, and no part's first one ahead of that.
func TestAsks(t *testing.T) {
	asking := changed(sized(size{past: 3, sure: 3}), func(k *impl.Kernel) { k.D[2], k.Parts[0].Todo[0].Kind = -1, 1 })
	first := asking.Parts[0].Todo[0]
	near := map[string]struct {
		e      impl.Event
		before int // -1: ahead of the first one, 0: alike, 1: behind
	}{
		"ahead by Time":  {impl.Event{Time: 499, Src: 3, Seq: 9, Tag: 9}, -1},
		"ahead by Src":   {impl.Event{Time: 500, Src: 1, Seq: 9, Tag: 9}, -1},
		"ahead by Seq":   {impl.Event{Time: 500, Src: 2, Seq: 2, Tag: 9}, -1},
		"ahead by Tag":   {impl.Event{Time: 500, Src: 2, Seq: 3, Tag: 3}, -1},
		"behind by Tag":  {impl.Event{Time: 500, Src: 2, Seq: 3, Tag: 5}, 1},
		"behind by Seq":  {impl.Event{Time: 500, Src: 2, Seq: 4, Tag: 1}, 1},
		"behind by Src":  {impl.Event{Time: 500, Src: 3, Seq: 1, Tag: 1}, 1},
		"behind by Time": {impl.Event{Time: 501, Src: -1, Seq: 0, Tag: 0}, 1},
		"alike":          {first, 0},
	}
	check := func(name string, k impl.Kernel, heard bool) {
		t.Helper()
		for _, was := range []int{-1, 0, 2, 3} {
			k = plain(k)
			k.Asks = was
			x := tells(t, name, isFine(t, k), wish{lp: 0, script: []int{0, 0}})
			want := plain(k)
			if heard {
				want.Asks = 2
			}
			if x.Pick.Ok || !same(x.Pick.Kernel, want) || x.Play.Number != 0 || !same(x.Play.Kernel, want) {
				t.Fatal(name, was, x.Pick)
			}
		}
	}
	check("alone", asking, true)
	for name, row := range near {
		for _, anti := range []bool{false, true} {
			if row.before == 0 && !anti {
				continue // That would be a Tag twice.
			}
			for at := range 3 {
				k := changed(asking, func(k *impl.Kernel) {
					k.Bag = slices.Clone(sized(size{bag: 3}).Bag)
					k.Bag[at] = impl.Mail{E: row.e, Anti: anti}
				})
				check("Bag: "+name, k, row.before == 1)
			}
		}
		for lp := 1; lp < 4 && row.before != 0; lp++ {
			k := changed(asking, func(k *impl.Kernel) {
				row.e.Dst = lp
				k.Parts[lp].Todo = []impl.Event{row.e}
			})
			check("Todo: "+name, k, row.before == 1)
		}
	}
	// Whoever is Full does not ask.
	full := changed(asking, func(k *impl.Kernel) { k.Tag = 99977 })
	if x := tells(t, "Full", full, wish{}); x.Pick.Kernel.Asks != -1 || !x.Pick.Kernel.Full {
		t.Fatal(x.Pick)
	}
	// What is decided is not asked for.
	for way := range 2 {
		made := changed(asking, func(k *impl.Kernel) { k.D[2] = way })
		if x := tells(t, "decided", made, wish{}); !x.Pick.Ok || x.Pick.Kernel.Asks != -1 || x.Pick.Kernel.Parts[0].State.Regs[1] != way {
			t.Fatal(x.Pick)
		}
	}
}

// Whoever works sends with Tags from Tag on, up to End, and is ahead of all that it sends.
func TestPick(t *testing.T) {
	k := sized(size{bag: 2, past: 1, sure: 1})
	x := tells(t, "sends", k, wish{lp: 0})
	want := plain(k)
	want.Parts[0] = workOf(k.M, k.D, k.Parts[0], 60000).Part
	for i := range 8 {
		want.Bag = append(want.Bag, impl.Mail{E: impl.Event{Time: 501, Src: 0, Seq: 20 + i, Dst: 1, Kind: 2, Val: 0, Tag: 60000 + i}})
	}
	want.Tag = 60008
	if !x.Pick.Ok || !same(x.Pick.Kernel, want) || len(want.Parts[0].Past[0].Sent) != 8 {
		t.Fatal(x.Pick)
	}
	// Only what is sent has a Tag: of these, one is behind End.
	late := changed(k, func(k *impl.Kernel) { k.M.End, k.M.Handlers[0][3].B = 550, 50; k.Parts[0].Todo[0].Time = 501 })
	x = tells(t, "sends behind End", late, wish{lp: 0})
	if !x.Pick.Ok || x.Pick.Kernel.Tag != 60007 || len(x.Pick.Kernel.Bag) != 9 || x.Pick.Kernel.Bag[5].E.Tag != 60003 || x.Pick.Kernel.Bag[5].E.Seq != 24 {
		t.Fatal(x.Pick)
	}
	for lp := range 4 {
		some := changed(someKernel(), func(k *impl.Kernel) { k.D[2] = 0 })
		if x := tells(t, "some", some, wish{lp: lp}); !x.Pick.Ok || len(x.Pick.Kernel.Parts[lp].Past) != 5 {
			t.Fatal(x.Pick)
		}
	}
}

// What is handed on is heard in its place, or taken back; what was sent by what is undone for it is taken back too.
func TestDeliver(t *testing.T) {
	k := someKernel()
	sent := func(lp int, n int) []impl.Mail {
		_, undone := cutBack(n)
		var l []impl.Mail
		for _, e := range undone {
			e.Src = lp
			e.Tag += 100 * lp
			l = append(l, impl.Mail{E: e, Anti: true})
		}
		return l
	}
	for i, row := range []struct {
		lp, past, todo int
		straggles      bool
	}{{2, 4, 4, false}, {1, 1, 7, true}, {0, 4, 2, false}, {3, 2, 4, true}, {3, 4, 3, false}, {3, 4, 4, false}, {0, 1, 7, true}} {
		x := tells(t, "handed on", k, wish{i: i})
		after := x.Deliver.Kernel
		want := slices.Concat(k.Bag[:i], k.Bag[i+1:])
		if row.straggles {
			want = append(want, sent(row.lp, row.past)...)
		}
		if !x.Deliver.Ok || !same(after.Bag, want) || len(after.Parts[row.lp].Past) != row.past || len(after.Parts[row.lp].Todo) != row.todo || x.Straggles != row.straggles {
			t.Fatal(i, x.Deliver)
		}
		for lp := range 4 {
			if lp != row.lp && !same(after.Parts[lp], k.Parts[lp]) {
				t.Fatal("another part changes:", lp)
			}
		}
		if after.Tag != 500 || after.Asks != 2 || after.Full || !same(after.Sure, k.Sure) || !same(after.Told, k.Told) {
			t.Fatal(after)
		}
	}
	// Whichever comes first, the one that is taken back is nowhere.
	for _, script := range [][]int{{9, 9}, {11, 9}} {
		x := tells(t, "both", k, wish{script: script})
		want := plain(k)
		want.Bag = slices.Delete(want.Bag, 4, 6)
		if x.Play.Number != 2 || !same(x.Play.Kernel, want) {
			t.Fatal(x.Play)
		}
	}
}

// Where what comes of it may not be, it is not handed on: k stays.
func TestDeliverWhatMayNotBe(t *testing.T) {
	t.Parallel()
	stays := func(name string, k impl.Kernel, stays bool) {
		t.Helper()
		x := tells(t, name, isFine(t, k), wish{i: 0, script: []int{1}})
		if x.Deliver.Ok == stays || same(x.Deliver.Kernel, k) != stays || x.Play.Number == 1 == stays || same(x.Play.Kernel, k) != stays || stays && (x.Straggles || x.Finish.Ok || !same(x.Finish.Kernel, k)) {
			t.Fatal(name, x.Deliver)
		}
	}
	comes := impl.Mail{E: impl.Event{Time: 505, Src: 1, Dst: 3, Kind: 2, Tag: 5}}
	taken := impl.Mail{E: impl.Event{Time: 505, Src: 1, Dst: 3, Kind: 2, Tag: 5}, Anti: true}
	for above := range 2 {
		stays("Todo", changed(sized(size{todo: 1999 + above}), func(k *impl.Kernel) { k.Bag = []impl.Mail{comes} }), above == 1)
		stays("Todo, in between", changed(sized(size{todo: 1999 + above}), func(k *impl.Kernel) {
			comes := comes
			comes.E.Time = 600
			k.Bag = []impl.Mail{comes}
		}), above == 1)
		stays("Antis", changed(sized(size{antis: 1999 + above}), func(k *impl.Kernel) { k.Bag = []impl.Mail{taken} }), above == 1)
		stays("Todo, undone", changed(sized(size{todo: 1799 + above, past: 200}), func(k *impl.Kernel) {
			comes := comes
			comes.E.Time = 99
			k.Bag = []impl.Mail{comes}
		}), above == 1)
		stays("Bag", changed(sized(size{bag: 1993 + above, past: 1}), func(k *impl.Kernel) {
			k.Parts[3].Past[0] = sendsEight(k.Parts[3].Past[0])
			comes := comes
			comes.E.Time = 99
			k.Bag[0] = comes
		}), above == 1)
		stays("Bag, taken back", changed(sized(size{bag: 1993 + above, past: 1}), func(k *impl.Kernel) {
			k.Parts[3].Past[0] = sendsEight(k.Parts[3].Past[0])
			k.Bag[0] = impl.Mail{E: k.Parts[3].Past[0].E, Anti: true}
		}), above == 1)
	}
	// What was done need not be as Handle wants it, but can't be done again.
	for name, change := range map[string]func(e *impl.Event){
		"no such kind": func(e *impl.Event) { e.Kind = 3 },
		"behind End":   func(e *impl.Event) { e.Time = 499 },
	} {
		for at := range 3 {
			k := changed(sized(size{past: 3}), func(k *impl.Kernel) {
				k.M.Handlers = k.M.Handlers[:3]
				noTodo(k)
				k.M.End = 498
				for i := at; i < 3; i++ {
					k.Parts[3].Past[i].E.Time = 400 + i
				}
				change(&k.Parts[3].Past[at].E)
				for i := at + 1; i < 3; i++ {
					k.Parts[3].Past[i].E.Time = 500 + i
				}
				k.Tag = 60000
			})
			e := k.Parts[3].Past[at].E
			late := impl.Mail{E: impl.Event{Time: 99, Dst: 3, Kind: 2, Tag: 5}}
			k.Bag = []impl.Mail{late}
			stays(name, k, true)
			late.E.Time = 498
			k.Bag = []impl.Mail{late}
			stays(name+", and late", k, at < 2 || e.Time > 498)
			// It goes back to that one, and that one goes: what was done behind it is to be done again.
			k.Bag = []impl.Mail{{E: impl.Event{Time: min(e.Time, 498), Src: e.Src, Dst: 3, Kind: 2, Tag: e.Tag}, Anti: true}}
			stays(name+", taken back", k, at < 2)
		}
	}
}

// sendsEight is x with as many Sent as there may be.
func sendsEight(x impl.Past) impl.Past {
	for i := range 8 {
		x.Sent = append(x.Sent, impl.Event{Time: 600 + i, Src: x.E.Dst, Seq: i, Kind: 2, Tag: 50000 + i})
	}
	return x
}

// Where what is sure has no room, or may not be, nothing is collected.
func TestCollectWhatMayNotBe(t *testing.T) {
	collects := func(name string, k impl.Kernel, want int) {
		t.Helper()
		x := tells(t, name, isFine(t, k), wish{})
		if x.Collect.Number != want || want == 0 && !same(x.Collect.Kernel, k) || want > 0 && impl.Held(x.Collect.Kernel) > 0 {
			t.Fatal(name, x.Collect.Number)
		}
	}
	for above := range 2 {
		collects("Sure", sized(size{past: 200, sure: 1800 + above}), 200*(1-above))
		collects("Told", changed(sized(size{past: 2, told: 15990 + above}), func(k *impl.Kernel) {
			k.Parts[3].Past[0].Emits, k.Parts[3].Past[1].Emits = make([]impl.Emit, 8), make([]impl.Emit, 2)
		}), 2*(1-above))
		collects("all Past", sized(size{past: 600, sure: 1400 + above}), 600*(1-above))
	}
	for name, change := range map[string]func(k *impl.Kernel){
		"of no kind":     func(k *impl.Kernel) { k.M.Handlers, k.Parts[3].Past[1].E.Kind = k.M.Handlers[:3], 3 },
		"behind End":     func(k *impl.Kernel) { noTodo(k); k.M.End, k.Parts[3].Past[2].E.Time = 400, 401 },
		"at the last":    func(k *impl.Kernel) { e := k.Parts[3].Past[0].E; e.Tag = 0; k.Sure = append(k.Sure, e) },
		"two at a place": func(k *impl.Kernel) { k.Parts[3].Past[1].E.Seq = k.Parts[3].Past[0].E.Seq },
		"in two parts": func(k *impl.Kernel) {
			k.Parts[2].Past = []impl.Past{{E: k.Parts[3].Past[1].E, Before: stateWith(1, 2, 3, 4)}}
			k.Parts[2].Past[0].E.Tag, k.Parts[2].Past[0].E.Dst = 7, 2
		},
	} {
		k := sized(size{past: 3, sure: 2})
		collects("three", k, 3)
		collects(name, changed(k, change), 0)
	}
	collects("nothing", sized(size{sure: 2}), 0)
	collects("none to do", changed(sized(size{past: 9, sure: 2}), noTodo), 9)
}

func TestScripts(t *testing.T) {
	t.Parallel()
	k := changed(someKernel(), func(k *impl.Kernel) { k.D[2] = 1 })
	for _, n := range []int{0, 1, 299, 300} {
		script := make([]int, n)
		for i := range script {
			script[i] = i * 7
		}
		if x := tells(t, "played", k, wish{script: script, brief: n > 0}); x.Play.Number < min(n, 20) {
			t.Fatal(n, x.Play.Number)
		}
	}
	for _, n := range []int{301, 302, 556} {
		if x := tells(t, "too long", k, wish{script: slices.Repeat([]int{1}, n), brief: true}); x.Play.Number != -1 || !same(x.Play.Kernel, impl.Kernel{}) {
			t.Fatal(n, x.Play)
		}
	}
	for _, s := range []int{-1, -2, -256, math.MinInt, math.MinInt + 1} {
		for at := range 3 {
			if x := tells(t, "below 0", k, wish{script: with([]int{0, 1, 2}, at, s), brief: true}); x.Play.Number != -1 || !same(x.Play.Kernel, impl.Kernel{}) {
				t.Fatal(s, x.Play)
			}
		}
	}
	for _, s := range []int{math.MaxInt, math.MaxInt - 1, 1 << 62, 1<<62 + 1} {
		if x := tells(t, "great", k, wish{script: []int{s}, brief: true}); x.Play.Number != 1 {
			t.Fatal(s, x.Play)
		}
	}
	// The number of a part, or of a place in Bag, goes round.
	for s := range 40 {
		want := pickOf(k, s/2%4)
		if s%2 == 1 {
			want = deliverOf(k, s/2%7)
		}
		if x := tells(t, "one", k, wish{script: []int{s}, brief: true}); x.Play.Number != 1 || !same(x.Play.Kernel, want.Kernel) {
			t.Fatal(s, x.Play)
		}
	}
	empty := changed(k, func(k *impl.Kernel) { k.Bag = nil; noTodo(k) })
	if x := tells(t, "nothing", empty, wish{script: []int{0, 1, 2, 3, 4, 5, 6, 7, 8, 9}}); x.Play.Number != 0 || !same(x.Play.Kernel, empty) {
		t.Fatal(x.Play)
	}
}

// chain is a kernel in which one after the other is taken back: in each part 200, each of which had sent eight, one of
// them to the next part. Those of the last part had sent nothing: in all there are 5000 to be handed on.
func chain() impl.Kernel {
	k := impl.Kernel{M: yard(), D: undecided, Tag: 50000, Asks: -1}
	done := func(lp int, i int) impl.Event {
		return impl.Event{Time: 10 + i + lp, Src: (lp + 3) % 4, Seq: i, Dst: lp, Kind: 2, Tag: 6 + 200*lp + i}
	}
	tag := 1000
	for lp := range 4 {
		p := impl.Part{Lp: lp, State: stateWith(1, 2, 3, 4)}
		for i := range 200 {
			x := impl.Past{E: done(lp, i), Before: stateWith(lp, i, 5, 6)}
			if lp < 3 {
				x.Sent = append(x.Sent, done(lp+1, i))
				for j := range 7 {
					x.Sent = append(x.Sent, impl.Event{Time: 300, Src: lp, Seq: i, Dst: (i + j) % 4, Kind: 2, Tag: tag})
					tag++
				}
			}
			p.Past = append(p.Past, x)
		}
		k.Parts = append(k.Parts, p)
	}
	for i := 199; i >= 0; i-- {
		k.Bag = append(k.Bag, impl.Mail{E: done(0, i), Anti: true})
	}
	return k
}

func TestFinishEndsBehind5000(t *testing.T) {
	for _, row := range []struct {
		more     int
		ok, idle bool
	}{{-1, true, true}, {0, false, true}, {1, false, false}} {
		k := chain()
		switch row.more {
		case -1:
			k.Parts[2].Past[0].Sent = k.Parts[2].Past[0].Sent[:7]
		case 1:
			k.Bag = append(k.Bag, impl.Mail{E: impl.Event{Time: 400, Dst: 1, Kind: 2, Tag: 40000}, Anti: true})
		}
		isFine(t, k)
		k = roomy(k)
		before := plain(k)
		after, ok := impl.Finish(k)
		if row.more == 1 {
			// The last one of all is still on the way.
			if last := k.Parts[3].Past[0].E; !same(after.Bag, []impl.Mail{{E: last, Anti: true}}) || impl.Held(after) != 1 {
				t.Fatal(after.Bag)
			}
			after.Bag, after.Parts[3] = nil, unhearOf(after.Parts[3], after.Bag[0].E).Part
			row.idle = true
		}
		if ok != row.ok || impl.Idle(after) != row.idle || !impl.KernelOk(after) || len(after.Bag) > 0 || impl.Held(after) != 0 {
			t.Fatal(row, ok, impl.Idle(after), len(after.Bag), impl.Held(after))
		}
		for lp, p := range after.Parts {
			if !slices.Equal(p.State.Regs, []int{lp, 0}) || p.State.Seq != 5 || len(p.Todo) > 0 {
				t.Fatal(p)
			}
		}
		if !same(k, before) || sharing(k, after) {
			t.Fatal("an argument was written into, or shared")
		}
		if again, ok := impl.Finish(after); !ok || !impl.Idle(again) {
			t.Fatal("it does not go on")
		}
	}
}

// Finish comes to its end, waits for a decision, or is Full.
func TestFinish(t *testing.T) {
	m := threeParts()
	for letters, asks := range map[string]int{"????": 1, "y?yy": 1, "?y??": -1, "nnnn": -1} {
		d, _ := impl.VectorRead([]byte(letters))
		x := tells(t, letters, kernelFor(m, d), wish{})
		want := sequenced(m, d, m.End)
		if x.Finish.Ok != (asks == -1) || x.Finish.Kernel.Asks != asks || !same(committedOf(x.Finish.Kernel), want) || want.Asks != asks {
			t.Fatal(letters, x.Finish)
		}
		again := tells(t, letters, x.Finish.Kernel, wish{})
		if again.Finish.Ok != x.Finish.Ok || !same(again.Finish.Kernel, x.Finish.Kernel) {
			t.Fatal("it goes on:", again.Finish)
		}
	}
	for end, full := range map[int]bool{149: false, 198: false, 199: false, 200: true, 300: true} {
		m := ticking(end, 999)
		m.End = end
		after, ok := impl.Finish(kernelFor(m, undecided))
		h, _ := impl.Committed(after)
		if ok == full || after.Full != full || h.Full != full || len(h.Events) != min(end+1, 200) || !impl.KernelOk(after) {
			t.Fatal(end, ok, len(h.Events))
		}
		for i, e := range h.Events[1:] {
			if e != (impl.Event{Time: i + 1, Seq: i, Val: i + 1}) {
				t.Fatal(e)
			}
		}
		// What is sure makes room, but whoever was Full stays so.
		collected, n := impl.Collect(after)
		if n != len(h.Events) || collected.Full != full || full == impl.Idle(collected) {
			t.Fatal(n, collected)
		}
		collected.Full = false
		if on, ok := impl.Finish(collected); !ok || on.Full || len(on.Sure) != n {
			t.Fatal(end, ok, on.Full)
		}
	}
	for name, k := range fineKernels() {
		if after, ok := impl.Finish(k); !impl.KernelOk(after) || ok && !impl.Idle(after) {
			t.Fatal(name)
		}
	}
}

// One part hears of the other too late, and does it again.
func TestTwoParts(t *testing.T) {
	tell := []impl.Op{{Code: impl.OpTake}, {Code: impl.OpEmit}}
	m := impl.Model{
		Lps: 2, Init: []int{1, 0}, End: 9,
		Handlers: [][]impl.Op{append(slices.Clone(tell), impl.Op{Code: impl.OpSend, A: 1, B: 2, C: 1}), tell},
		Start:    []impl.Event{{Time: 1, Src: -1, Val: 5}, {Time: 4, Src: -1, Seq: 1, Tag: 1, Dst: 1, Kind: 1, Val: 7}},
	}
	k, _ := impl.KernelNew(m, undecided)
	k = played(t, k, 2, 0)
	if h, _ := impl.Committed(k); !same(h, impl.History{Events: []impl.Event{m.Start[0]}, Emits: []impl.Emit{{Time: 1, Val: 6}}, Asks: -1}) || k.Tag != 7 {
		t.Fatal(h, k.Tag)
	}
	k, _ = impl.Deliver(k, 0)
	k, ok := impl.Finish(k)
	late := m.Start[1]
	late.Tag = 0
	want := impl.History{
		Events: []impl.Event{m.Start[0], {Time: 3, Src: 0, Dst: 1, Kind: 1, Val: 6}, late},
		Emits:  []impl.Emit{{Time: 1, Val: 6}, {Time: 3, Lp: 1, Val: 6}, {Time: 4, Lp: 1, Val: 13}},
		Asks:   -1,
	}
	if h, _ := impl.Committed(k); !ok || !same(h, want) || !impl.Idle(k) || impl.Held(k) != 4 {
		t.Fatal(h, ok)
	}
}
