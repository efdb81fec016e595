package tests

import (
	"bytes"
	"math"
	"math/rand/v2"
	"slices"
	"strconv"
	"strings"
	"testing"

	"loop.example/g00603/impl"
)

// behindOp and overOp are no ops: the one stands in the room behind an argument, the other is written over an answer.
var behindOp = impl.Op{Code: -70, A: -71, B: -72, C: -73}
var overOp = impl.Op{Code: -80, A: -81, B: -82, C: -83}

// span is all from low to high, both with it.
type span struct{ low, high int }

var register = span{0, 1}
var untold = span{0, 0}

// opSpans are the limits of A, B and C by Code, as the document names them.
func opSpans(lps int, kinds int) map[int][3]span {
	return map[int][3]span{
		impl.OpAdd:  {register, {0, 999}, untold},
		impl.OpTake: {register, untold, untold},
		impl.OpSend: {{0, lps - 1}, {1, 50}, {0, kinds - 1}},
		impl.OpSkip: {register, {0, 999}, {1, 8}},
		impl.OpAsk:  {{0, 3}, register, untold},
		impl.OpEmit: {register, untold, untold},
		impl.OpDraw: {register, {1, 999}, untold},
	}
}

// beyond are numbers that are not in the span, of which some would be where only their last one or two bytes counted.
func (s span) beyond() []int {
	return append(outside(s.low, s.high), s.low-256, s.high+256, s.low-65536, s.high+65536)
}

func (s span) holds(x int) bool {
	return s.low <= x && x <= s.high
}

func (s span) any(r *rand.Rand) int {
	switch r.IntN(4) {
	case 0:
		return s.low
	case 1:
		return s.high
	}
	return s.low + r.IntN(s.high-s.low+1)
}

func opWith(o impl.Op, at int, x int) impl.Op {
	*[]*int{&o.A, &o.B, &o.C}[at] = x
	return o
}

// everyOp is a model with all codes, of which most numbers are unlike all others.
func everyOp() impl.Model {
	return impl.Model{
		Lps:  3,
		Seed: 513,
		Init: []int{7, 0, 999},
		Handlers: [][]impl.Op{
			{{Code: impl.OpAdd, A: 1, B: 258}, {Code: impl.OpTake, A: 1}, {Code: impl.OpSend, A: 2, B: 50, C: 1}},
			{},
			{{Code: impl.OpSkip, A: 1, B: 300, C: 2}, {Code: impl.OpAsk, A: 3, B: 1}, {Code: impl.OpEmit, A: 1}, {Code: impl.OpDraw, A: 1, B: 999}, {Code: impl.OpAsk, A: 0, B: 1}},
		},
		Start: []impl.Event{
			{Time: 770, Src: -1, Seq: 0, Dst: 2, Kind: 1, Val: 515, Tag: 0},
			{Time: 0, Src: -1, Seq: 1, Dst: 1, Kind: 2, Val: 0, Tag: 1},
		},
		End: 900,
	}
}

const everyOpBytes = "\x03\x03\x02" + "\x03\x84" + "\x02\x01" + "\x00\x07\x00\x00\x03\xe7" +
	"\x03" + "\x00\x01\x01\x02\x00" + "\x01\x01\x00\x00\x00" + "\x02\x02\x00\x32\x01" +
	"\x00" +
	"\x05" + "\x03\x01\x01\x2c\x02" + "\x04\x03\x00\x01\x00" + "\x05\x01\x00\x00\x00" + "\x06\x01\x03\xe7\x00" + "\x04\x00\x00\x01\x00" +
	"\x03\x02\x02\x01\x02\x03" + "\x00\x00\x01\x02\x00\x00"

const everyOpText = "parts 3 end 900 seed 513\n" +
	"kind 0 add 1 258 0 take 1 0 0 send 2 50 1\n" +
	"kind 1\n" +
	"kind 2 skip 1 300 2 ask 3 1 0 emit 1 0 0 draw 1 999 0 ask 0 1 0\n" +
	"at 770 outside#0 to 2 kind 1 val 515\n" +
	"at 0 outside#1 to 1 kind 2 val 0\n"

// sizedModel has so many of everything, and no number that would be wrong in a greater or lesser one.
func sizedModel(lps int, kinds int, ops int, starts int) impl.Model {
	m := impl.Model{Lps: lps, Init: slices.Repeat([]int{5}, max(lps, 0)), End: 9}
	for range kinds {
		m.Handlers = append(m.Handlers, make([]impl.Op, ops))
	}
	for i := range starts {
		m.Start = append(m.Start, impl.Event{Time: 9 - i%10, Src: -1, Seq: i, Tag: i})
	}
	return m
}

func copyModel(m impl.Model) impl.Model {
	m.Init = slices.Clone(m.Init)
	m.Start = slices.Clone(m.Start)
	m.Handlers = slices.Clone(m.Handlers)
	for i := range m.Handlers {
		m.Handlers[i] = slices.Clone(m.Handlers[i])
	}
	return m
}

func sameModel(a impl.Model, b impl.Model) bool {
	return a.Lps == b.Lps && a.Seed == b.Seed && a.End == b.End && slices.Equal(a.Init, b.Init) &&
		slices.Equal(a.Start, b.Start) && slices.EqualFunc(a.Handlers, b.Handlers, slices.Equal)
}

func isZeroModel(m impl.Model) bool {
	return sameModel(m, impl.Model{})
}

// modelField is a number of a model, and where it may be if all others stay.
type modelField struct {
	name string
	span
	set func(m *impl.Model, x int)
}

func (f modelField) with(m impl.Model, x int) impl.Model {
	m = copyModel(m)
	f.set(&m, x)
	return m
}

func modelFields(m impl.Model) []modelField {
	soonestEnd := 0
	for _, e := range m.Start {
		soonestEnd = max(soonestEnd, e.Time)
	}
	l := []modelField{
		{"Seed", span{0, 65535}, func(m *impl.Model, x int) { m.Seed = x }},
		{"End", span{soonestEnd, 950}, func(m *impl.Model, x int) { m.End = x }},
		{"Lps", span{m.Lps, m.Lps}, func(m *impl.Model, x int) { m.Lps = x }},
	}
	for i := range m.Init {
		l = append(l, modelField{"Init", span{0, 999}, func(m *impl.Model, x int) { m.Init[i] = x }})
	}
	for i := range m.Start {
		l = append(l,
			modelField{"Time", span{0, m.End}, func(m *impl.Model, x int) { m.Start[i].Time = x }},
			modelField{"Src", span{-1, -1}, func(m *impl.Model, x int) { m.Start[i].Src = x }},
			modelField{"Seq", span{i, i}, func(m *impl.Model, x int) { m.Start[i].Seq = x }},
			modelField{"Dst", span{0, m.Lps - 1}, func(m *impl.Model, x int) { m.Start[i].Dst = x }},
			modelField{"Kind", span{0, len(m.Handlers) - 1}, func(m *impl.Model, x int) { m.Start[i].Kind = x }},
			modelField{"Val", span{0, 999}, func(m *impl.Model, x int) { m.Start[i].Val = x }},
			modelField{"Tag", span{i, i}, func(m *impl.Model, x int) { m.Start[i].Tag = x }},
		)
	}
	return append(l, opFields(m)...)
}

func opFields(m impl.Model) []modelField {
	var l []modelField
	for kind, handler := range m.Handlers {
		for i, o := range handler {
			for at, s := range opSpans(m.Lps, len(m.Handlers))[o.Code] {
				l = append(l, modelField{string("ABC"[at]), s, func(m *impl.Model, x int) {
					m.Handlers[kind][i] = opWith(m.Handlers[kind][i], at, x)
				}})
			}
		}
	}
	return l
}

// sizedModels are of all sizes that the document allows, at least and at most, and some in between.
func sizedModels() []impl.Model {
	var l []impl.Model
	for lps := 1; lps <= impl.MaxLps; lps++ {
		for kinds := 1; kinds <= impl.MaxKinds; kinds++ {
			for _, ops := range []int{0, 1, 7, impl.MaxOps} {
				for _, starts := range []int{0, 1, 5, 6} {
					l = append(l, sizedModel(lps, kinds, ops, starts))
				}
			}
		}
	}
	return l
}

// edgeModels have each number by itself at both ends of where it may be.
func edgeModels() []impl.Model {
	l := []impl.Model{everyOp()}
	for _, f := range modelFields(everyOp()) {
		l = append(l, f.with(everyOp(), f.low), f.with(everyOp(), f.high))
	}
	return append(l, sizedModels()...)
}

func randomModel(r *rand.Rand) impl.Model {
	m := impl.Model{Lps: span{1, 4}.any(r), Seed: span{0, 65535}.any(r), End: span{0, 950}.any(r)}
	for range m.Lps {
		m.Init = append(m.Init, span{0, 999}.any(r))
	}
	kinds := span{1, 4}.any(r)
	for range kinds {
		var handler []impl.Op
		for range (span{0, 8}.any(r)) {
			code := r.IntN(7)
			s := opSpans(m.Lps, kinds)[code]
			handler = append(handler, impl.Op{Code: code, A: s[0].any(r), B: s[1].any(r), C: s[2].any(r)})
		}
		m.Handlers = append(m.Handlers, handler)
	}
	for i := range (span{0, 6}.any(r)) {
		m.Start = append(m.Start, impl.Event{
			Time: span{0, m.End}.any(r), Src: -1, Seq: i, Dst: span{0, m.Lps - 1}.any(r),
			Kind: span{0, kinds - 1}.any(r), Val: span{0, 999}.any(r), Tag: i,
		})
	}
	return m
}

func fineModels() []impl.Model {
	l := edgeModels()
	r := newRandom(51)
	for range 400 {
		l = append(l, randomModel(r))
	}
	return l
}

// wrongSizes are models with one too few or too many of something, or far too many.
func wrongSizes() map[string]impl.Model {
	l := map[string]impl.Model{
		"the zero value":     {},
		"no parts":           sizedModel(0, 1, 1, 1),
		"parts below 0":      sizedModel(-1, 1, 1, 1),
		"one part too many":  sizedModel(impl.MaxLps+1, 1, 1, 1),
		"far too many parts": sizedModel(256+2, 1, 1, 1),
		"no handlers":        sizedModel(2, 0, 0, 0),
		"a handler too many": sizedModel(2, impl.MaxKinds+1, 1, 1),
		"far too many":       sizedModel(2, 256+1, 1, 1),
		"an op too many":     sizedModel(2, 1, impl.MaxOps+1, 1),
		"too many ops":       sizedModel(2, 4, 256, 1),
		"a million ops":      sizedModel(2, 1, 1000000, 1),
		"one too many begin": sizedModel(2, 1, 1, 7),
		"far too many begin": sizedModel(2, 1, 1, 256),
	}
	for kind := range impl.MaxKinds {
		m := sizedModel(2, impl.MaxKinds, impl.MaxOps, 1)
		m.Handlers[kind] = append(m.Handlers[kind], impl.Op{})
		l["an op too many in handler "+strconv.Itoa(kind)] = m
	}
	for lps := 1; lps <= impl.MaxLps; lps++ {
		m := sizedModel(lps, 1, 1, 1)
		m.Init = m.Init[:lps-1]
		l["Init one too few of "+strconv.Itoa(lps)] = m
		m.Init = make([]int, lps+1)
		l["Init one too many of "+strconv.Itoa(lps)] = m
		m.Init = nil
		l["no Init of "+strconv.Itoa(lps)] = m
		m.Init = make([]int, lps+256)
		l["Init far too many of "+strconv.Itoa(lps)] = m
	}
	return l
}

// refusedModel fails where a model that is wrong gets any answer but the fixed ones.
func refusedModel(t *testing.T, name string, m impl.Model) {
	t.Helper()
	g, check := guardedModel(m)
	if impl.ModelOk(g) {
		t.Errorf("%s: ModelOk accepts it", name)
	}
	if b, ok := impl.ModelBytes(g); ok || len(b) != 0 {
		t.Errorf("%s: ModelBytes %v %v", name, b, ok)
	}
	if text := impl.ModelText(g); len(text) != 0 {
		t.Errorf("%s: ModelText %q", name, text)
	}
	if l := impl.AsksOf(g); len(l) != 0 {
		t.Errorf("%s: AsksOf %v", name, l)
	}
	check(t)
}

// guardedModel is m with poisoned room behind each of its lists, and a check that neither
// the calls nor writing all over their answers has changed any of that.
func guardedModel(m impl.Model) (impl.Model, func(t *testing.T, answers ...[]int)) {
	g := m
	init, checkInit := guardedWith(m.Init, -77, -87)
	start, checkStart := guarded(m.Start)
	g.Init, g.Start = init, start
	var checks []func(t *testing.T, answers ...[]impl.Op)
	whole := make([][]impl.Op, 0, len(m.Handlers)+1)
	for _, handler := range m.Handlers {
		l, check := guardedWith(handler, behindOp, overOp)
		whole = append(whole, l)
		checks = append(checks, check)
	}
	// Behind the last one stands a handler that would be fine, and asks for everything.
	asksAll := []impl.Op{{Code: impl.OpAsk}, {Code: impl.OpAsk, A: 1}, {Code: impl.OpAsk, A: 2}, {Code: impl.OpAsk, A: 3}}
	whole = append(whole, slices.Clone(asksAll))
	g.Handlers = whole[:len(m.Handlers)]
	before := copyModel(g)
	return g, func(t *testing.T, answers ...[]int) {
		t.Helper()
		checkInit(t, answers...)
		checkStart(t)
		for _, check := range checks {
			check(t)
		}
		if !sameModel(g, before) || !slices.Equal(whole[len(m.Handlers)], asksAll) {
			t.Fatal("an argument, or the room behind it, was written into")
		}
	}
}

func TestModelConstants(t *testing.T) {
	got := []int{impl.MaxOps, impl.OpAdd, impl.OpTake, impl.OpSend, impl.OpSkip, impl.OpAsk, impl.OpEmit, impl.OpDraw}
	if !slices.Equal(got, []int{8, 0, 1, 2, 3, 4, 5, 6}) {
		t.Fatal(got)
	}
}

func TestOpOk(t *testing.T) {
	for lps := 1; lps <= impl.MaxLps; lps++ {
		for kinds := 1; kinds <= impl.MaxKinds; kinds++ {
			m, check := guardedModel(sizedModel(lps, kinds, 1, 1))
			for code, s := range opSpans(lps, kinds) {
				opLimits(t, m, code, s)
			}
			check(t)
		}
	}
}

// opLimits tries all corners of what may be, and each number by itself beyond that.
func opLimits(t *testing.T, m impl.Model, code int, s [3]span) {
	t.Helper()
	for _, a := range []int{s[0].low, s[0].high} {
		for _, b := range []int{s[1].low, (s[1].low + s[1].high) / 2, s[1].high} {
			for _, c := range []int{s[2].low, s[2].high} {
				o := impl.Op{Code: code, A: a, B: b, C: c}
				if !impl.OpOk(m, o) {
					t.Errorf("%d parts, %d handlers: %v is refused", m.Lps, len(m.Handlers), o)
				}
				for at := range s {
					for _, x := range s[at].beyond() {
						if impl.OpOk(m, opWith(o, at, x)) {
							t.Errorf("%d parts, %d handlers: %v is accepted", m.Lps, len(m.Handlers), opWith(o, at, x))
						}
					}
				}
			}
		}
	}
}

func TestOpOkOfNoCode(t *testing.T) {
	for _, code := range (span{0, 6}).beyond() {
		for _, o := range []impl.Op{{}, {A: 1}, {A: 1, B: 1}, {A: 1, B: 1, C: 1}, {B: 1}, {B: 1, C: 1}, {C: 1}} {
			o.Code = code
			if impl.OpOk(everyOp(), o) {
				t.Errorf("%v is accepted", o)
			}
		}
	}
	if !impl.OpOk(everyOp(), impl.Op{}) {
		t.Error("the zero value adds nothing, and may be")
	}
}

// Of the model nothing but Lps and how many Handlers there are is asked for, be it ModelOk or not.
func TestOpOkOfAnyModel(t *testing.T) {
	send := impl.Op{Code: impl.OpSend, B: 1}
	for _, lps := range []int{math.MinInt, math.MinInt + 1, -1 << 32, -256, -1, 0} {
		m := impl.Model{Lps: lps, Handlers: make([][]impl.Op, 1)}
		for _, a := range []int{0, 1, -1, lps - 1, lps, math.MinInt, math.MaxInt} {
			if impl.OpOk(m, opWith(send, 0, a)) {
				t.Errorf("%d parts: sends to %d", lps, a)
			}
		}
	}
	for _, lps := range []int{1, 5, 300, 1 << 40, math.MaxInt} {
		m := impl.Model{Lps: lps, Handlers: make([][]impl.Op, 1)}
		if !impl.OpOk(m, opWith(send, 0, lps-1)) || impl.OpOk(m, opWith(send, 0, lps)) || impl.OpOk(m, opWith(send, 0, -1)) {
			t.Errorf("%d parts", lps)
		}
	}
	for _, kinds := range []int{0, 1, 5, 300} {
		m := impl.Model{Lps: 1, Handlers: make([][]impl.Op, kinds, kinds+9)}
		if impl.OpOk(m, opWith(send, 2, kinds-1)) != (kinds > 0) || impl.OpOk(m, opWith(send, 2, kinds)) || impl.OpOk(m, opWith(send, 2, -1)) {
			t.Errorf("%d handlers", kinds)
		}
	}
	odd := impl.Model{Lps: -3, Seed: -1, Init: []int{-1}, Handlers: [][]impl.Op{{behindOp}}, Start: []impl.Event{poison}, End: -9}
	if !impl.OpOk(odd, impl.Op{Code: impl.OpAsk, A: 3, B: 1}) || !impl.OpOk(impl.Model{}, impl.Op{Code: impl.OpDraw, B: 1}) {
		t.Error("what an op without a part or a handler is hangs on no model")
	}
}

func TestModelOk(t *testing.T) {
	for _, m := range fineModels() {
		g, check := guardedModel(m)
		if !impl.ModelOk(g) {
			t.Errorf("%v is refused", m)
		}
		check(t)
	}
}

func TestModelFieldsAtTheBounds(t *testing.T) {
	// Where nothing begins the model, no Time stands in for what is wrong with End.
	for _, m := range []impl.Model{everyOp(), sizedModel(1, 1, 0, 0), sizedModel(2, 2, 1, 1), sizedModel(4, 4, 8, 6)} {
		for _, f := range modelFields(m) {
			for _, x := range []int{f.low, f.high} {
				if !impl.ModelOk(f.with(m, x)) {
					t.Errorf("%v: %s %d is refused", m, f.name, x)
				}
			}
			for _, x := range f.beyond() {
				refusedModel(t, f.name+" "+strconv.Itoa(x), f.with(m, x))
			}
		}
	}
}

// The least End with the one Time that it leaves, and the greatest.
func TestModelTimeAtEnd(t *testing.T) {
	for _, end := range []int{0, 1, 949, 950} {
		m := sizedModel(1, 1, 1, 1)
		m.End = end
		for _, time := range []int{0, end} {
			if m.Start[0].Time = time; !impl.ModelOk(m) {
				t.Errorf("Time %d, End %d is refused", time, end)
			}
		}
		m.Start[0].Time = end + 1
		refusedModel(t, "behind End "+strconv.Itoa(end), m)
	}
	m := sizedModel(1, 1, 1, 1)
	m.End, m.Start[0].Time = 951, 951
	refusedModel(t, "End and Time 951", m)
}

func TestModelCodes(t *testing.T) {
	for _, code := range (span{0, 6}).beyond() {
		for _, at := range [][2]int{{0, 0}, {0, 2}, {2, 0}, {2, 4}} {
			m := everyOp()
			m.Handlers[at[0]][at[1]] = impl.Op{Code: code}
			refusedModel(t, "Code "+strconv.Itoa(code), m)
		}
	}
}

func TestModelSizes(t *testing.T) {
	for _, m := range sizedModels() {
		if !impl.ModelOk(m) {
			t.Errorf("%v is refused", m)
		}
	}
	for name, m := range wrongSizes() {
		refusedModel(t, name, m)
	}
}

// What sends to the last part, or the last handler, may not be where there is one less.
func TestModelOpsHangOnTheModel(t *testing.T) {
	m := sizedModel(4, 4, 8, 6)
	m.Handlers[3][7] = impl.Op{Code: impl.OpSend, A: 3, B: 1, C: 3}
	if !impl.ModelOk(m) {
		t.Fatal("the last of all")
	}
	fewer := copyModel(m)
	fewer.Lps, fewer.Init = 3, fewer.Init[:3]
	refusedModel(t, "a part less", fewer)
	fewer = copyModel(m)
	fewer.Handlers = append(fewer.Handlers[:2:2], fewer.Handlers[3])
	refusedModel(t, "a handler less", fewer)
}

// Events begin a model by their places: not by their times, and not by the places of others.
func TestModelStartsByPlace(t *testing.T) {
	m := sizedModel(2, 2, 1, 6)
	for i := range m.Start {
		m.Start[i].Time = 6 - i
	}
	if !impl.ModelOk(m) {
		t.Error("later ones may stand first")
	}
	for i := range m.Start {
		m.Start[i].Time, m.Start[i].Dst, m.Start[i].Kind = 3, 1, 1
	}
	if !impl.ModelOk(m) {
		t.Error("all may be at once, and for one part")
	}
	for i := range m.Start {
		for k := range 7 {
			if i == k {
				continue
			}
			other := copyModel(m)
			other.Start[i].Seq = k
			refusedModel(t, "another place as Seq", other)
			other = copyModel(m)
			other.Start[i].Tag = k
			refusedModel(t, "another place as Tag", other)
			other.Start[i].Seq = k
			refusedModel(t, "another place as both", other)
		}
		for src := range impl.MaxLps {
			inside := copyModel(m)
			inside.Start[i].Src = src
			refusedModel(t, "not from outside", inside)
		}
	}
	slices.Reverse(m.Start)
	refusedModel(t, "the other way round", m)
}

// bytesOf tells the bytes of a model anew, by the words of the document.
func bytesOf(m impl.Model) []byte {
	var b []byte
	one := func(x int) { b = append(b, byte(x)) }
	two := func(x int) { b = append(b, byte(x>>8), byte(x&255)) }
	one(m.Lps)
	one(len(m.Handlers))
	one(len(m.Start))
	two(m.End)
	two(m.Seed)
	for _, x := range m.Init {
		two(x)
	}
	for _, handler := range m.Handlers {
		one(len(handler))
		for _, o := range handler {
			one(o.Code)
			one(o.A)
			two(o.B)
			one(o.C)
		}
	}
	for _, e := range m.Start {
		two(e.Time)
		one(e.Dst)
		one(e.Kind)
		two(e.Val)
	}
	return b
}

func TestModelBytes(t *testing.T) {
	if b, ok := impl.ModelBytes(everyOp()); !ok || string(b) != everyOpBytes {
		t.Errorf("%x %v", b, ok)
	}
	for _, m := range fineModels() {
		g, check := guardedModel(m)
		if b, ok := impl.ModelBytes(g); !ok || !bytes.Equal(b, bytesOf(m)) {
			t.Errorf("%v: %x %v, not %x", m, b, ok, bytesOf(m))
		}
		check(t)
	}
	least, _ := impl.ModelBytes(sizedModel(1, 1, 0, 0))
	most, _ := impl.ModelBytes(sizedModel(4, 4, 8, 6))
	if len(least) != 10 || len(most) != 215 {
		t.Error(len(least), len(most))
	}
}

func TestEmptyListsAndNilAreTheSame(t *testing.T) {
	none := impl.Model{Lps: 1, Init: []int{0}, Handlers: [][]impl.Op{nil}}
	empty := impl.Model{Lps: 1, Init: []int{0}, Handlers: [][]impl.Op{{}}, Start: []impl.Event{}}
	a, ok := impl.ModelBytes(none)
	b, fine := impl.ModelBytes(empty)
	if !ok || !fine || !bytes.Equal(a, b) || string(impl.ModelText(none)) != string(impl.ModelText(empty)) {
		t.Errorf("%x %v, %x %v", a, ok, b, fine)
	}
}

func TestModelsComeBackFromTheirBytes(t *testing.T) {
	seen := map[string]impl.Model{}
	for _, m := range fineModels() {
		b, ok := impl.ModelBytes(m)
		if other, there := seen[string(b)]; !ok || there && !sameModel(m, other) {
			t.Fatalf("%v and %v have the same bytes", m, other)
		}
		seen[string(b)] = m
		g, check := guardedWith(b, 0xa5, 0x5a)
		got, ok := impl.ModelRead(g)
		if !ok || !sameModel(got, m) || !impl.ModelOk(got) {
			t.Fatalf("%x: %v %v, not %v", b, got, ok, m)
		}
		check(t)
	}
}

// walk goes through bytes as the document tells them, and is false for ever from where they are cut off or wrong.
type walk struct {
	rest []byte
	fine bool
}

func (w *walk) one(s span) int {
	return w.number(1, s)
}

func (w *walk) two(s span) int {
	return w.number(2, s)
}

func (w *walk) number(size int, s span) int {
	if !w.fine || len(w.rest) < size {
		w.fine = false
		return 0
	}
	x := 0
	for _, b := range w.rest[:size] {
		x = 256*x + int(b)
	}
	w.rest = w.rest[size:]
	w.fine = s.holds(x)
	return x
}

// isModel is whether bytes are those of a model, told anew by the words of the document.
func isModel(b []byte) bool {
	w := &walk{b, true}
	lps := w.one(span{1, 4})
	kinds := w.one(span{1, 4})
	starts := w.one(span{0, 6})
	end := w.two(span{0, 950})
	w.two(span{0, 65535})
	for i := 0; w.fine && i < lps; i++ {
		w.two(span{0, 999})
	}
	for i := 0; w.fine && i < kinds; i++ {
		ops := w.one(span{0, 8})
		for k := 0; w.fine && k < ops; k++ {
			s := opSpans(lps, kinds)[w.one(span{0, 6})]
			w.one(s[0])
			w.two(s[1])
			w.one(s[2])
		}
	}
	for i := 0; w.fine && i < starts; i++ {
		w.two(span{0, end})
		w.one(span{0, lps - 1})
		w.one(span{0, kinds - 1})
		w.two(span{0, 999})
	}
	return w.fine && len(w.rest) == 0
}

// readIsJustIts fails where bytes are not read as the model that they are of, or are of none and not refused.
func readIsJustIts(t *testing.T, b []byte) bool {
	t.Helper()
	m, ok := impl.ModelRead(b)
	if ok != isModel(b) {
		t.Fatalf("%x: %v %v", b, m, ok)
	}
	if !ok {
		if !isZeroModel(m) {
			t.Fatalf("%x: %v beside false", b, m)
		}
		return false
	}
	back, fine := impl.ModelBytes(m)
	if !fine || !bytes.Equal(back, b) || !impl.ModelOk(m) || !bytes.Equal(bytesOf(m), b) {
		t.Fatalf("%x is read as %v, whose bytes are %x", b, m, back)
	}
	return true
}

// someModels are few, for what is tried byte by byte.
func someModels() []impl.Model {
	l := []impl.Model{everyOp(), sizedModel(1, 1, 0, 0), sizedModel(4, 4, 8, 6), sizedModel(2, 3, 1, 1)}
	r := newRandom(52)
	for range 12 {
		l = append(l, randomModel(r))
	}
	return l
}

func TestModelReadOfBytesCutOff(t *testing.T) {
	for _, m := range fineModels() {
		b := bytesOf(m)
		for n := range b {
			// What is cut off is still there, in the room behind it.
			for _, cut := range [][]byte{b[:n], slices.Clone(b[:n]), b[n+1:]} {
				readIsJustIts(t, cut)
			}
			if got, ok := impl.ModelRead(b[:n]); ok || !isZeroModel(got) {
				t.Fatalf("%d of %x: %v %v", n, b, got, ok)
			}
		}
	}
}

func TestModelReadOfBytesTooMany(t *testing.T) {
	for _, m := range someModels() {
		b := bytesOf(m)
		for x := range 256 {
			longer := append(slices.Clone(b), byte(x))
			if got, ok := impl.ModelRead(longer); ok || !isZeroModel(got) {
				t.Fatalf("%x: %v %v", longer, got, ok)
			}
			for at := range b {
				readIsJustIts(t, slices.Insert(slices.Clone(b), at, byte(x)))
			}
		}
		if got, ok := impl.ModelRead(append(slices.Clone(b), b...)); ok || !isZeroModel(got) {
			t.Fatalf("%x twice: %v %v", b, got, ok)
		}
	}
}

func TestModelReadOfAnyByteChanged(t *testing.T) {
	read, refused := 0, 0
	for _, m := range someModels() {
		b := bytesOf(m)
		for at := range b {
			for x := range 256 {
				changed := slices.Clone(b)
				changed[at] = byte(x)
				if readIsJustIts(t, changed) {
					read++
				} else {
					refused++
				}
			}
		}
	}
	if read < 1000 || refused < 1000 {
		t.Error("not much was tried:", read, refused)
	}
}

// Whatever bytes are read as a model are just its: of such as nobody wrote, too.
func TestModelReadOfRandomBytes(t *testing.T) {
	r := newRandom(53)
	read := 0
	for range 200000 {
		b := make([]byte, 8+r.IntN(30))
		for i := range b {
			b[i] = byte(r.IntN(1 + r.IntN(5)))
		}
		if readIsJustIts(t, b) {
			read++
		}
	}
	if read < 100 {
		t.Error("only", read, "were models")
	}
	for range 20000 {
		b := make([]byte, r.IntN(300))
		for i := range b {
			b[i] = byte(r.IntN(256))
		}
		readIsJustIts(t, b)
	}
}

func TestModelReadOfWrongBytes(t *testing.T) {
	b := bytesOf(everyOp())
	for name, wrong := range map[string][]byte{
		"nil":                  nil,
		"none":                 {},
		"none of some":         b[:0],
		"a byte":               {1},
		"zeros":                make([]byte, 7),
		"many zeros":           make([]byte, 1<<20),
		"a model and a lot":    append(slices.Clone(b), make([]byte, 1<<20)...),
		"nothing but 255":      bytes.Repeat([]byte{255}, 1<<20),
		"nothing but 1":        bytes.Repeat([]byte{1}, 1<<20),
		"as many as are told":  append([]byte{255, 255, 255}, make([]byte, 4+255*2+255+255*6)...),
		"far too many parts":   append([]byte{255, 1, 0}, make([]byte, 4+255*2+1)...),
		"far too many kinds":   append([]byte{1, 255, 0}, make([]byte, 4+2+255)...),
		"far too many begin":   append([]byte{1, 1, 255}, make([]byte, 4+2+1+255*6)...),
		"far too many ops":     append([]byte{1, 1, 0, 0, 0, 0, 0, 0, 0, 255}, make([]byte, 255*5)...),
		"one too many ops":     append([]byte{1, 1, 0, 0, 0, 0, 0, 0, 0, 9}, make([]byte, 9*5)...),
		"one too many kinds":   append([]byte{1, 5, 0}, make([]byte, 4+2+5)...),
		"one too many parts":   append([]byte{5, 1, 0}, make([]byte, 4+5*2+1)...),
		"one too many begin":   append([]byte{1, 1, 7}, make([]byte, 4+2+1+7*6)...),
		"no parts":             append([]byte{0, 1, 0}, make([]byte, 4+1)...),
		"no kinds":             append([]byte{1, 0, 0}, make([]byte, 4+2)...),
		"its text":             []byte(everyOpText),
		"lower bytes first":    {1, 1, 0, 0x50, 0x00, 0, 0, 0, 0, 0},
		"another byte ahead":   append([]byte{0}, b...),
		"the other way round":  reversed(b),
		"End of more than 950": {1, 1, 0, 0x03, 0xb7, 0, 0, 0, 0, 0},
	} {
		g, check := guardedWith(wrong, 0xa5, 0x5a)
		if m, ok := impl.ModelRead(g); ok || !isZeroModel(m) {
			t.Errorf("%s: %v %v", name, m, ok)
		}
		check(t)
	}
	for _, fine := range [][]byte{{1, 1, 0, 0x03, 0xb6, 0xff, 0xff, 0x03, 0xe7, 0}, append([]byte{1, 1, 6}, make([]byte, 4+2+1+6*6)...)} {
		if m, ok := impl.ModelRead(fine); !ok || !readIsJustIts(t, fine) {
			t.Errorf("%x: %v %v", fine, m, ok)
		}
	}
}

func reversed(b []byte) []byte {
	b = slices.Clone(b)
	slices.Reverse(b)
	return b
}

// linesOf tells the text of a model anew, by the words of the document.
func linesOf(m impl.Model) []string {
	number := strconv.Itoa
	names := []string{"add", "take", "send", "skip", "ask", "emit", "draw"}
	lines := []string{"parts " + number(m.Lps) + " end " + number(m.End) + " seed " + number(m.Seed)}
	for kind, handler := range m.Handlers {
		line := "kind " + number(kind)
		for _, o := range handler {
			line += " " + names[o.Code] + " " + number(o.A) + " " + number(o.B) + " " + number(o.C)
		}
		lines = append(lines, line)
	}
	for i, e := range m.Start {
		lines = append(lines, "at "+number(e.Time)+" outside#"+number(i)+" to "+number(e.Dst)+" kind "+number(e.Kind)+" val "+number(e.Val))
	}
	return lines
}

func TestModelText(t *testing.T) {
	if text := string(impl.ModelText(everyOp())); text != everyOpText {
		t.Errorf("%q", text)
	}
	if text := string(impl.ModelText(impl.Model{Lps: 1, Init: []int{9}, Handlers: make([][]impl.Op, 1)})); text != "parts 1 end 0 seed 0\nkind 0\n" {
		t.Errorf("%q", text)
	}
	for _, m := range fineModels() {
		g, check := guardedModel(m)
		text := string(impl.ModelText(g))
		check(t)
		lines := strings.Split(text, "\n")
		if end := len(lines) - 1; lines[end] != "" || !slices.Equal(lines[:end], linesOf(m)) {
			t.Errorf("%q, not %q", lines, linesOf(m))
		}
	}
}

// asksOf tells the answer anew: which of all decisions any op asks for.
func asksOf(m impl.Model) []int {
	var l []int
	for dec := range impl.MaxDec {
		if slices.ContainsFunc(slices.Concat(m.Handlers...), func(o impl.Op) bool { return o.Code == impl.OpAsk && o.A == dec }) {
			l = append(l, dec)
		}
	}
	return l
}

func TestAsksOf(t *testing.T) {
	for _, m := range fineModels() {
		g, check := guardedModel(m)
		got := impl.AsksOf(g)
		if !slices.Equal(got, asksOf(m)) {
			t.Errorf("%v: %v, not %v", m, got, asksOf(m))
		}
		check(t, got)
	}
}

// Whatever is asked for, in whatever order, however often, and in whichever handler.
func TestAsksOfEveryRow(t *testing.T) {
	for n := range 5 {
		for _, row := range counted(n, 0, 1, 2, 3) {
			m := sizedModel(1, 3, 1, 0)
			for i, dec := range row {
				m.Handlers[i%3] = append(m.Handlers[i%3], impl.Op{Code: impl.OpAsk, A: dec, B: i % 2})
			}
			want := slices.Compact(slices.Sorted(slices.Values(row)))
			if got := impl.AsksOf(m); !slices.Equal(got, want) {
				t.Errorf("%v: %v, not %v", row, got, want)
			}
		}
	}
	others := sizedModel(1, 2, 0, 0)
	others.Handlers[0] = []impl.Op{{Code: impl.OpAdd, A: 1}, {Code: impl.OpTake}, {Code: impl.OpSend, B: 1, C: 1}, {Code: impl.OpEmit, A: 1}, {Code: impl.OpDraw, B: 2}}
	if got := impl.AsksOf(others); len(got) != 0 {
		t.Error("nobody asks:", got)
	}
	others.Handlers[1] = []impl.Op{{Code: impl.OpSkip, C: 1}, {Code: impl.OpAsk, A: 2}}
	if got := impl.AsksOf(others); !slices.Equal(got, []int{2}) {
		t.Error("what is passed over asks too:", got)
	}
}

func TestModelAnswersAreNew(t *testing.T) {
	for _, m := range someModels() {
		b := bytesOf(m)
		one, _ := impl.ModelBytes(m)
		other, _ := impl.ModelBytes(m)
		apart(t, one, other, 0x5a)
		apart(t, impl.ModelText(m), impl.ModelText(m), '!')
		apart(t, impl.AsksOf(m), impl.AsksOf(m), -87)
		first, _ := impl.ModelRead(b)
		second, _ := impl.ModelRead(b)
		apart(t, first.Init, second.Init, -87)
		apart(t, first.Start, second.Start, scribble)
		for i := range first.Handlers {
			apart(t, first.Handlers[i], second.Handlers[i], overOp)
		}
		first.Handlers = first.Handlers[:cap(first.Handlers)]
		clear(first.Handlers)
		if !sameModel(second, m) || !bytes.Equal(b, bytesOf(m)) {
			t.Fatalf("two answers of %v share memory", m)
		}
		if again, ok := impl.ModelRead(b); !ok || !sameModel(again, m) {
			t.Fatalf("an answer is kept: %v", again)
		}
	}
}

// apart fails where two answers that are alike are not, behind writing all over the one and the room behind it.
func apart[T comparable](t *testing.T, one []T, other []T, over T) {
	t.Helper()
	want := slices.Clone(other)
	if !slices.Equal(one, other) {
		t.Fatal("asked twice:", one, other)
	}
	one = one[:cap(one)]
	for i := range one {
		one[i] = over
	}
	if !slices.Equal(other, want) {
		t.Fatal("two answers share memory")
	}
}

// No list of a model that was read shares memory with another of it: each is written over in turn, with all the room that it has.
func TestModelListsAreTheirOwn(t *testing.T) {
	for _, m := range someModels() {
		for kind := range m.Handlers {
			got, ok := impl.ModelRead(bytesOf(m))
			if !ok || !sameModel(got, m) {
				t.Fatal(got, ok)
			}
			room := got.Handlers[kind][:cap(got.Handlers[kind])]
			for i := range room {
				room[i] = overOp
			}
			got.Handlers[kind] = slices.Clone(m.Handlers[kind])
			if !sameModel(got, m) {
				t.Fatalf("handler %d of %v shares memory with another", kind, m)
			}
		}
	}
}

// What is behind a list's length does not make a model of what is none, nor the other way round.
func TestModelsEndWhereTheirListsEnd(t *testing.T) {
	m := sizedModel(2, 2, 2, 2)
	short := m
	short.Init = m.Init[:1]
	refusedModel(t, "Init cut off", short)
	if impl.ModelOk(short) {
		t.Error("the room behind Init counts")
	}
	room := sizedModel(4, 5, 9, 7)
	room.Init = append(room.Init, -1)[:4]
	room.Handlers = room.Handlers[:4]
	for i := range room.Handlers {
		room.Handlers[i] = room.Handlers[i][:8]
	}
	room.Start = room.Start[:6]
	if !impl.ModelOk(room) {
		t.Error("the room behind a list counts")
	}
	b := append(bytesOf(m), 1, 2, 3)
	if got, ok := impl.ModelRead(b[:len(b)-3]); !ok || !sameModel(got, m) {
		t.Error("the room behind the bytes counts")
	}
}
