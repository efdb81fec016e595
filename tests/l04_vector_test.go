package tests

import (
	"math"
	"slices"
	"strings"
	"testing"

	"loop.example/g00603/impl"
)

// behindVector and overVector are no numbers of a vector: the one stands in the
// room behind an argument, the other is written over an answer.
const behindVector = -77
const overVector = -87

// letterOf has the letters as the document names them.
var letterOf = map[int]string{-1: "?", 0: "n", 1: "y"}

// counted are all lists of so many of these numbers.
func counted(n int, numbers ...int) [][]int {
	all := [][]int{{}}
	for range n {
		var longer [][]int
		for _, l := range all {
			for _, x := range numbers {
				longer = append(longer, append(slices.Clone(l), x))
			}
		}
		all = longer
	}
	return all
}

func allVectors() [][]int {
	return counted(4, -1, 0, 1)
}

func wholeVectors() [][]int {
	return counted(4, 0, 1)
}

// wholesIn are the whole vectors that a vector leaves open: what all of the chapter is about.
func wholesIn(d []int) [][]int {
	return slices.DeleteFunc(wholeVectors(), func(w []int) bool {
		for i, x := range d {
			if x >= 0 && x != w[i] {
				return true
			}
		}
		return false
	})
}

func holdsAll(l [][]int, of [][]int) bool {
	for _, w := range of {
		if !holds(l, w) {
			return false
		}
	}
	return true
}

func holds(l [][]int, w []int) bool {
	return slices.ContainsFunc(l, func(x []int) bool { return slices.Equal(x, w) })
}

func holdsNone(l [][]int, of [][]int) bool {
	for _, w := range of {
		if holds(l, w) {
			return false
		}
	}
	return true
}

func lettersOf(d []int) string {
	var text strings.Builder
	for _, x := range d {
		text.WriteString(letterOf[x])
	}
	return text.String()
}

func with(d []int, at int, x int) []int {
	l := slices.Clone(d)
	l[at] = x
	return l
}

// wrongVectors are each wrong in its length, or in one number alone.
func wrongVectors() [][]int {
	l := [][]int{nil, {}, {0}, {-1}, {1, 0}, {-1, -1, -1}, {0, 1, 0}, {-1, 0, 1, 0, 1}, {0, 0, 0, 0, 0}, {-1, -1, -1, -1, -1}, make([]int, 8), make([]int, 1000)}
	for _, d := range [][]int{{-1, -1, -1, -1}, {0, 0, 0, 0}, {1, 1, 1, 1}, {-1, 0, 1, -1}, {1, 0, -1, 0}} {
		for at := range d {
			for _, x := range append(outside(-1, 1), 255, 256, 257) {
				l = append(l, with(d, at, x))
			}
		}
	}
	return append(l, []int{2, 2, 2, 2}, []int{-2, -2, -2, -2}, []int{-2, 0, 0, 2})
}

func guardedVector(d []int) ([]int, func(t *testing.T, answers ...[]int)) {
	return guardedWith(d, behindVector, overVector)
}

func TestMaxDec(t *testing.T) {
	if impl.MaxDec != 4 {
		t.Fatal(impl.MaxDec)
	}
}

func TestVectorOk(t *testing.T) {
	if len(allVectors()) != 81 || len(wholeVectors()) != 16 {
		t.Fatal("not all vectors are tested")
	}
	for _, d := range allVectors() {
		g, check := guardedVector(d)
		if !impl.VectorOk(g) {
			t.Errorf("%v is refused", d)
		}
		check(t)
	}
	for _, d := range wrongVectors() {
		g, check := guardedVector(d)
		if impl.VectorOk(g) {
			t.Errorf("%v is accepted", d)
		}
		check(t)
	}
}

func TestVectorOkAtTheBounds(t *testing.T) {
	for _, d := range allVectors() {
		for at := range d {
			for x, want := range map[int]bool{-3: false, -2: false, -1: true, 0: true, 1: true, 2: false, 3: false} {
				if impl.VectorOk(with(d, at, x)) != want {
					t.Errorf("%d at %d of %v: not %v", x, at, d, want)
				}
			}
		}
	}
	for n := range 10 {
		for _, x := range []int{-1, 0, 1} {
			if impl.VectorOk(slices.Repeat([]int{x}, n)) != (n == impl.MaxDec) {
				t.Errorf("%d times %d", n, x)
			}
		}
	}
}

// What would be a vector, if the room behind it counted, is none.
func TestVectorsEndWhereTheListEnds(t *testing.T) {
	room := []int{-1, 0, 1, -1, 0, 1, -1, 0}
	for n := range len(room) + 1 {
		if impl.VectorOk(room[:n]) != (n == impl.MaxDec) || (impl.Wholes(room[:n]) != 0) != (n == impl.MaxDec) {
			t.Errorf("%d of %v", n, room)
		}
		if impl.Refines(room[:n], room[:4]) != (n == impl.MaxDec) || impl.Meets(room[:4], room[:n]) != (n == impl.MaxDec) {
			t.Errorf("%d of %v", n, room)
		}
		if got, ok := impl.Decide(room[:n], 0, 1); ok != (n == impl.MaxDec) || ok != (len(got) == 4) {
			t.Errorf("%d of %v: %v %v", n, room, got, ok)
		}
	}
	text := []byte("?ny?ny?n")
	for n := range len(text) + 1 {
		if got, ok := impl.VectorRead(text[:n]); ok != (n == impl.MaxDec) || ok != (len(got) == 4) {
			t.Errorf("%d of %q: %v %v", n, text, got, ok)
		}
	}
}

func TestVectorText(t *testing.T) {
	for want, d := range map[string][]int{
		"????": {-1, -1, -1, -1},
		"nnnn": {0, 0, 0, 0},
		"yyyy": {1, 1, 1, 1},
		"?ny?": {-1, 0, 1, -1},
		"yn?n": {1, 0, -1, 0},
	} {
		if got := string(impl.VectorText(d)); got != want {
			t.Errorf("%v: %q, not %q", d, got, want)
		}
	}
	for _, d := range allVectors() {
		g, check := guardedVector(d)
		if got := string(impl.VectorText(g)); got != lettersOf(d) {
			t.Errorf("%v: %q, not %q", d, got, lettersOf(d))
		}
		check(t)
	}
	for _, d := range wrongVectors() {
		g, check := guardedVector(d)
		if got := impl.VectorText(g); len(got) != 0 {
			t.Errorf("%v: %q", d, got)
		}
		check(t)
	}
}

func TestVectorsComeBackFromTheirText(t *testing.T) {
	seen := map[string]bool{}
	for _, d := range allVectors() {
		text := impl.VectorText(d)
		seen[string(text)] = true
		g, check := guardedWith(text, '#', '!')
		got, ok := impl.VectorRead(g)
		if !ok || !slices.Equal(got, d) {
			t.Errorf("%q: %v %v, not %v", text, got, ok, d)
		}
		check(t)
	}
	if len(seen) != 81 {
		t.Error("two vectors have one text")
	}
}

// Whatever is read as a vector is its text, to the byte.
func TestVectorReadTakesNothingElse(t *testing.T) {
	for _, d := range allVectors() {
		for at := range d {
			for b := range 256 {
				text := []byte(lettersOf(d))
				text[at] = byte(b)
				readIsTextOf(t, text)
			}
		}
	}
	numbers := []int{'?', 'n', 'y', 'N', 'x', '-', '0', '1', 0, 0x80, 0xc3, 0xff}
	for _, l := range counted(4, numbers...) {
		readIsTextOf(t, []byte{byte(l[0]), byte(l[1]), byte(l[2]), byte(l[3])})
	}
}

func readIsTextOf(t *testing.T, text []byte) {
	t.Helper()
	want := true
	for _, b := range text {
		want = want && (b == '?' || b == 'n' || b == 'y')
	}
	got, ok := impl.VectorRead(text)
	if ok != want {
		t.Fatalf("%q: %v %v", text, got, ok)
	}
	if ok && string(impl.VectorText(got)) != string(text) || !ok && len(got) != 0 {
		t.Fatalf("%q: %v %v", text, got, ok)
	}
}

func TestVectorReadOfWrongTexts(t *testing.T) {
	for _, text := range []string{
		"", "?", "n", "yn", "???", "nyn", "?????", "nynyn", "????????", strings.Repeat("y", 1000),
		"?nx?", "NNNN", "yYyy", "nn n", " nnn", "nnn ", "nnn\n", "\nnnn", "-1-1", "0101", "....", "no??", "yes?",
		"\x00\x00\x00\x00", "nnn\x00", "\xffnyn", "ny?\xff", "n\x80\x80y", "\xef\xbf\xbd?",
		// As many bytes as there should be, but not as many letters; and the other way round.
		"😀", "？n", "n？", "？？", "nĿn", "Ůny", "nyŹ", "ŹŹ", "？？？？", "ĿŮŹĿ", "?nyŹ", "Ŀnyn", "\xff\xfe\xfd\xfc\xfb",
		// The bytes of letters that are longer than they need to be, or cut off.
		"\xc0\xbfnn", "\xc1\xaeny", "nn\xc3", "nnn\xc3", "\xed\xa0\x80n", "\xf4\x90\x80\x80",
	} {
		g, check := guardedWith([]byte(text), '?', '!')
		if got, ok := impl.VectorRead(g); ok || len(got) != 0 {
			t.Errorf("%q: %v %v", text, got, ok)
		}
		check(t)
	}
	if got, ok := impl.VectorRead(nil); ok || len(got) != 0 {
		t.Error("nil:", got, ok)
	}
}

// cmpOf is the order of vectors, told anew by the words of the document.
func cmpOf(a []int, b []int) int {
	for i := range a {
		if a[i] < b[i] {
			return -1
		}
		if a[i] > b[i] {
			return 1
		}
	}
	return 0
}

// eachTwo tries all two vectors, and one with itself.
func eachTwo(t *testing.T, try func(a []int, b []int)) {
	t.Helper()
	for _, a := range allVectors() {
		for _, b := range allVectors() {
			g, check := guardedVector(a)
			h, also := guardedVector(b)
			try(g, h)
			check(t)
			also(t)
		}
		g, check := guardedVector(a)
		try(g, g)
		check(t)
	}
}

func TestVectorCmp(t *testing.T) {
	for _, c := range []struct {
		a, b string
		want int
	}{
		{"????", "????", 0}, {"????", "???n", -1}, {"???n", "???y", -1}, {"???y", "???n", 1}, {"n???", "?yyy", 1},
		{"ynnn", "nyyy", 1}, {"nnny", "nny?", -1}, {"n?yy", "nn??", -1}, {"yyyy", "yyyy", 0}, {"yyyy", "????", 1},
	} {
		a, ok := impl.VectorRead([]byte(c.a))
		b, fine := impl.VectorRead([]byte(c.b))
		if got := impl.VectorCmp(a, b); !ok || !fine || got != c.want {
			t.Errorf("%s %s: %d, not %d", c.a, c.b, got, c.want)
		}
	}
	eachTwo(t, func(a []int, b []int) {
		got := impl.VectorCmp(a, b)
		if got != cmpOf(a, b) || got != -impl.VectorCmp(b, a) || (got == 0) != slices.Equal(a, b) {
			t.Errorf("%v %v: %d, not %d", a, b, got, cmpOf(a, b))
		}
	})
	if !slices.IsSortedFunc(allVectors(), impl.VectorCmp) {
		t.Error("as they are counted, they are in order")
	}
}

func TestMeets(t *testing.T) {
	eachTwo(t, func(a []int, b []int) {
		want := !holdsNone(wholesIn(a), wholesIn(b))
		if impl.Meets(a, b) != want || impl.Meets(b, a) != want {
			t.Errorf("%v %v: not %v", a, b, want)
		}
	})
	for _, d := range allVectors() {
		if !impl.Meets(d, d) || !impl.Meets(d, []int{-1, -1, -1, -1}) || !impl.Meets([]int{-1, -1, -1, -1}, d) {
			t.Errorf("%v", d)
		}
	}
	if !impl.Meets([]int{-1, 0, 1, -1}, []int{1, 0, -1, -1}) || impl.Meets([]int{-1, 0, 1, -1}, []int{1, 0, 0, -1}) {
		t.Error("where one is not made, the other may be anything")
	}
}

func TestRefines(t *testing.T) {
	eachTwo(t, func(a []int, b []int) {
		want := holdsAll(wholesIn(b), wholesIn(a))
		if impl.Refines(a, b) != want {
			t.Errorf("%v %v: not %v", a, b, want)
		}
	})
	for _, d := range allVectors() {
		if !impl.Refines(d, d) || !impl.Refines(d, []int{-1, -1, -1, -1}) {
			t.Errorf("%v", d)
		}
	}
	if impl.Refines([]int{-1, 0, 1, -1}, []int{1, 0, -1, -1}) || !impl.Refines([]int{1, 0, 1, -1}, []int{1, 0, -1, -1}) {
		t.Error("what is made in the second is alike in the first")
	}
}

func TestWhoRefinesOneMeetsIt(t *testing.T) {
	refined := 0
	eachTwo(t, func(a []int, b []int) {
		if !impl.Refines(a, b) {
			return
		}
		refined++
		if !impl.Meets(a, b) || !impl.Meets(b, a) || impl.Wholes(a) > impl.Wholes(b) {
			t.Errorf("%v refines %v", a, b)
		}
	})
	// In each place five of nine do: any number where the second's is not made, else just that; and each is tried with itself once more.
	if want := 5*5*5*5 + 81; refined != want {
		t.Errorf("%d of all two, not %d", refined, want)
	}
}

// Two of which one or both are no vector: neither in order, nor meeting, nor refined.
func TestTwoOfWhichOneIsWrong(t *testing.T) {
	wrong := wrongVectors()
	fine := [][]int{{-1, -1, -1, -1}, {0, 0, 0, 0}, {1, 1, 1, 1}, {-1, 0, 1, -1}}
	for _, w := range wrong {
		for _, d := range append(slices.Clone(fine), w, wrong[3], wrong[len(wrong)-1]) {
			g, check := guardedVector(w)
			h, also := guardedVector(d)
			for _, two := range [][2][]int{{g, h}, {h, g}, {g, g}} {
				if got := impl.VectorCmp(two[0], two[1]); got != 0 {
					t.Errorf("%v %v: %d", two[0], two[1], got)
				}
				if impl.Meets(two[0], two[1]) || impl.Refines(two[0], two[1]) {
					t.Errorf("%v %v", two[0], two[1])
				}
			}
			check(t)
			also(t)
		}
	}
}

func TestWholes(t *testing.T) {
	for text, want := range map[string]int{"????": 16, "?n??": 8, "?ny?": 4, "ny?n": 2, "nnnn": 1, "yyyy": 1, "nyny": 1} {
		d, ok := impl.VectorRead([]byte(text))
		if got := impl.Wholes(d); !ok || got != want {
			t.Errorf("%s: %d, not %d", text, got, want)
		}
	}
	for _, d := range allVectors() {
		g, check := guardedVector(d)
		if got, want := impl.Wholes(g), len(wholesIn(d)); got != want {
			t.Errorf("%v: %d, not %d", d, got, want)
		}
		check(t)
	}
	for _, d := range wrongVectors() {
		g, check := guardedVector(d)
		if got := impl.Wholes(g); got != 0 {
			t.Errorf("%v: %d", d, got)
		}
		check(t)
	}
}

func TestDecide(t *testing.T) {
	for _, d := range allVectors() {
		for dec := range impl.MaxDec {
			for v := range 2 {
				want := slices.Clone(d)
				if d[dec] == -1 {
					want[dec] = v
				}
				g, check := guardedVector(d)
				got, ok := impl.Decide(g, dec, v)
				if ok != (d[dec] == -1) || !slices.Equal(got, want) {
					t.Errorf("%d of %v to be %d: %v %v", dec, d, v, got, ok)
				}
				check(t, got)
			}
		}
	}
}

func TestADecisionMakesTwoThatDoNotMeet(t *testing.T) {
	for _, d := range allVectors() {
		for dec := range impl.MaxDec {
			no, ok := impl.Decide(d, dec, 0)
			yes, fine := impl.Decide(d, dec, 1)
			if ok != fine || ok != (d[dec] == -1) || !ok && (!slices.Equal(no, d) || !slices.Equal(yes, d)) {
				t.Fatalf("%d of %v: %v %v, %v %v", dec, d, no, ok, yes, fine)
			}
			if ok {
				partsOf(t, d, no, yes)
			}
		}
	}
}

// partsOf fails where two are not the halves of one.
func partsOf(t *testing.T, d []int, no []int, yes []int) {
	t.Helper()
	if impl.Meets(no, yes) || impl.Meets(yes, no) || impl.VectorCmp(no, yes) != -1 {
		t.Fatalf("%v: %v and %v meet", d, no, yes)
	}
	for _, half := range [][]int{no, yes} {
		if !impl.VectorOk(half) || !impl.Refines(half, d) || impl.Refines(d, half) || !impl.Meets(half, d) || !impl.Meets(d, half) {
			t.Fatalf("%v: %v", d, half)
		}
		if 2*impl.Wholes(half) != impl.Wholes(d) || impl.VectorCmp(d, half) != -1 {
			t.Fatalf("%v: %v", d, half)
		}
	}
	for _, w := range wholeVectors() {
		n, y := impl.Refines(w, no), impl.Refines(w, yes)
		if n && y || (n || y) != impl.Refines(w, d) {
			t.Fatalf("%v: %v is of %v: %v, of %v: %v", d, w, no, n, yes, y)
		}
	}
}

// In whatever order all is decided, the same whole one comes of it.
func TestDecidedToTheEnd(t *testing.T) {
	for _, w := range wholeVectors() {
		for _, order := range counted(4, 0, 1, 2, 3) {
			d := []int{-1, -1, -1, -1}
			left := 16
			for _, dec := range order {
				made := d[dec] != -1
				next, ok := impl.Decide(d, dec, w[dec])
				if ok == made {
					t.Fatalf("%v in the order %v: %v", w, order, d)
				}
				if ok {
					left /= 2
				}
				if d = next; impl.Wholes(d) != left || !impl.Refines(w, d) {
					t.Fatalf("%v in the order %v: %v", w, order, d)
				}
			}
			if left == 1 && !slices.Equal(d, w) {
				t.Fatalf("%v in the order %v: %v", w, order, d)
			}
		}
	}
}

func TestDecideOfWrongOnes(t *testing.T) {
	refuse := func(d []int, dec int, v int) {
		g, check := guardedVector(d)
		if got, ok := impl.Decide(g, dec, v); ok || len(got) != 0 {
			t.Errorf("%d of %v to be %d: %v %v", dec, d, v, got, ok)
		}
		check(t)
	}
	for _, d := range wrongVectors() {
		for _, dec := range []int{0, 1, 3, -1, 4, math.MinInt, math.MaxInt} {
			for _, v := range []int{0, 1, -1, 2} {
				refuse(d, dec, v)
			}
		}
	}
	// Being made already does not count, where dec or v is wrong.
	for _, d := range allVectors() {
		for _, dec := range outside(0, impl.MaxDec-1) {
			refuse(d, dec, 0)
			refuse(d, dec, 1)
			refuse(d, dec, -1)
		}
		for _, v := range outside(0, 1) {
			for dec := range impl.MaxDec {
				refuse(d, dec, v)
			}
		}
	}
}

func TestVectorAnswersAreNew(t *testing.T) {
	for _, d := range allVectors() {
		text := []byte(lettersOf(d))
		one, _ := impl.VectorRead(text)
		other, _ := impl.VectorRead(text)
		unshared(t, one, other, overVector)
		unshared(t, impl.VectorText(d), impl.VectorText(d), '!')
		for dec := range impl.MaxDec {
			one, _ := impl.Decide(d, dec, 1)
			other, _ := impl.Decide(d, dec, 1)
			unshared(t, one, other, overVector)
		}
		if again, ok := impl.VectorRead(text); !ok || !slices.Equal(again, d) || string(impl.VectorText(d)) != string(text) {
			t.Errorf("%v: an answer is kept: %v %v", d, again, ok)
		}
	}
}

// unshared fails where two answers that are alike are not, behind writing all over the one.
func unshared[T comparable](t *testing.T, one []T, other []T, over T) {
	t.Helper()
	want := slices.Clone(other)
	if len(one) != impl.MaxDec || !slices.Equal(one, other) {
		t.Fatal("asked twice:", one, other)
	}
	one = one[:cap(one)]
	for i := range one {
		one[i] = over
	}
	if !slices.Equal(other, want) {
		t.Fatal("two answers share memory")
	}
}
