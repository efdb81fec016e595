package tests

import (
	"math"
	"math/big"
	"slices"
	"testing"

	"loop.example/g00603/impl"
)

const greatestSeed = 999999
const longestRow = 100

// place is where a number at random stands.
type place struct{ seed, lp, n int }

func ordinaryPlaces() []place {
	return []place{{7, 1, 5}, {1, 2, 3}, {123456, 3, 99}, {500000, 2, 50000}, {31, 0, 77777}}
}

func edgePlaces() []place {
	var l []place
	for _, seed := range []int{0, 1, greatestSeed - 1, greatestSeed} {
		for _, lp := range []int{0, 1, impl.MaxLps - 1} {
			for _, n := range []int{0, 1, impl.MaxSeq - 1, impl.MaxSeq} {
				l = append(l, place{seed, lp, n})
			}
		}
	}
	return l
}

// wrongPlaces are each wrong in one number alone, whatever the other two are.
func wrongPlaces() []place {
	var l []place
	for _, p := range slices.Concat(ordinaryPlaces(), edgePlaces()) {
		for _, seed := range outside(0, greatestSeed) {
			l = append(l, place{seed, p.lp, p.n})
		}
		for _, lp := range outside(0, impl.MaxLps-1) {
			l = append(l, place{p.seed, lp, p.n})
		}
		for _, n := range outside(0, impl.MaxSeq) {
			l = append(l, place{p.seed, p.lp, n})
		}
	}
	return l
}

// outside are numbers that are not in low .. high: next to it, near, and far away,
// of which some come back into it where they wrap round or lose their upper half.
func outside(low int, high int) []int {
	return []int{
		low - 1, low - 2, -1000000, -impl.RandP, math.MinInt32, -1 << 32, math.MinInt + 1, math.MinInt,
		high + 1, high + 2, high + impl.RandP, high + 1<<32, 1 << 62, math.MaxInt - 1, math.MaxInt,
	}
}

// mixedBig and randBig tell the numbers anew, by the words of the document and without a limit.
func mixedBig(x *big.Int) *big.Int {
	y := new(big.Int).Mul(x, big.NewInt(48271))
	return y.Mod(y, big.NewInt(2147483647))
}

func randBig(p place) int {
	first := big.NewInt(4*int64(p.seed) + int64(p.lp) + 1)
	x := mixedBig(first.Mod(first, big.NewInt(2147483647)))
	x.Add(x, new(big.Int).Mul(big.NewInt(7919), big.NewInt(int64(p.n))))
	x.Mod(x, big.NewInt(2147483647))
	return int(mixedBig(mixedBig(x)).Int64())
}

func TestRandP(t *testing.T) {
	if impl.RandP != 2147483647 || !big.NewInt(impl.RandP).ProbablyPrime(20) {
		t.Fatal(impl.RandP)
	}
}

func TestMixed(t *testing.T) {
	for x, want := range map[int]int{
		0:              0,
		1:              48271,
		2:              96542,
		44488:          2147480248,
		44489:          44872,
		1073741824:     1073765959,
		impl.RandP - 2: 2147387105,
		impl.RandP - 1: 2147435376,
	} {
		if got := impl.Mixed(x); got != want || got != int(mixedBig(big.NewInt(int64(x))).Int64()) {
			t.Errorf("%d: %d, not %d", x, got, want)
		}
	}
	for _, x := range outside(0, impl.RandP-1) {
		if got := impl.Mixed(x); got != -1 {
			t.Errorf("%d: %d", x, got)
		}
	}
}

// The ten thousandth number of this row is known: whoever is off once is off there.
func TestMixedAgainAndAgain(t *testing.T) {
	x := 1
	for range 10000 {
		x = impl.Mixed(x)
	}
	if x != 399268537 {
		t.Fatal(x)
	}
}

func TestMixedStirsDifferentNumbersToDifferentOnes(t *testing.T) {
	r := newRandom(8)
	from := map[int]int{}
	stir := func(x int) {
		y := impl.Mixed(x)
		if y < 0 || y >= impl.RandP || y != int(mixedBig(big.NewInt(int64(x))).Int64()) {
			t.Fatal(x, y)
		}
		if other, there := from[y]; there && other != x {
			t.Fatal(other, x, "are both", y)
		}
		from[y] = x
	}
	for i := range 20000 {
		stir(i)
		stir(impl.RandP - 1 - i)
		stir(r.IntN(impl.RandP))
	}
}

func TestRandByItsPlace(t *testing.T) {
	for p, want := range map[place]int{
		{0, 0, 0}:                         1291394886,
		{7, 1, 5}:                         1933598562,
		{7, 1, 6}:                         584903170,
		{999999, 3, 100000}:               1928435918,
		{0, 3, 100000}:                    1894378438,
		{999999, 0, 0}:                    1325452366,
		{greatestSeed / 2, 2, 100000 / 2}: 1820306720,
	} {
		if got := impl.Rand(p.seed, p.lp, p.n); got != want {
			t.Errorf("%v: %d, not %d", p, got, want)
		}
	}
	for _, p := range slices.Concat(ordinaryPlaces(), edgePlaces()) {
		if got := impl.Rand(p.seed, p.lp, p.n); got != randBig(p) {
			t.Errorf("%v: %d, not %d", p, got, randBig(p))
		}
	}
}

// Each number is told by itself: whatever was asked for before, and however often.
func TestRandInAnyOrder(t *testing.T) {
	r := newRandom(9)
	var places []place
	for range 3000 {
		places = append(places, place{r.IntN(greatestSeed + 1), r.IntN(impl.MaxLps), r.IntN(impl.MaxSeq + 1)})
	}
	for range 2 {
		for _, p := range places {
			if got := impl.Rand(p.seed, p.lp, p.n); got != randBig(p) || got < 0 || got >= impl.RandP {
				t.Fatalf("%v: %d, not %d", p, got, randBig(p))
			}
		}
		slices.Reverse(places)
	}
}

// Other parts, other seeds and other places have other numbers.
func TestRandOfOthersIsAnother(t *testing.T) {
	const last = greatestSeed
	seen := map[int]place{}
	for _, seed := range []int{0, 1, 2, 1000, last - 1, last} {
		for lp := range impl.MaxLps {
			for _, n := range []int{0, 1, 2, 1000, impl.MaxSeq - 1, impl.MaxSeq} {
				p := place{seed, lp, n}
				x := impl.Rand(seed, lp, n)
				if other, there := seen[x]; there {
					t.Errorf("%v and %v are both %d", other, p, x)
				}
				seen[x] = p
			}
		}
	}
}

func TestRandOfWrongPlaces(t *testing.T) {
	for _, p := range wrongPlaces() {
		if got := impl.Rand(p.seed, p.lp, p.n); got != -1 {
			t.Errorf("%v: %d", p, got)
		}
	}
}

func TestRandBelow(t *testing.T) {
	for _, p := range slices.Concat(ordinaryPlaces(), edgePlaces()) {
		for _, m := range []int{1, 2, 3, 6, 10, 500, 997, 999, 1000} {
			if got := impl.RandBelow(p.seed, p.lp, p.n, m); got != randBig(p)%m {
				t.Errorf("%v below %d: %d, not %d", p, m, got, randBig(p)%m)
			}
		}
	}
	if got := impl.RandBelow(7, 1, 5, 1000); got != 562 {
		t.Error("the last three digits of 1933598562:", got)
	}
}

func TestRandBelowOfWrongOnes(t *testing.T) {
	for _, p := range slices.Concat(ordinaryPlaces(), edgePlaces()) {
		for _, m := range outside(1, 1000) {
			if got := impl.RandBelow(p.seed, p.lp, p.n, m); got != -1 {
				t.Errorf("%v below %d: %d", p, m, got)
			}
		}
	}
	for _, p := range wrongPlaces() {
		for _, m := range []int{1, 6, 1000, 0, 1001, math.MinInt, math.MaxInt} {
			if got := impl.RandBelow(p.seed, p.lp, p.n, m); got != -1 {
				t.Errorf("%v below %d: %d", p, m, got)
			}
		}
	}
}

// rowIs fails where a row is not Rand of each of its places.
func rowIs(t *testing.T, got []int, p place, count int) {
	t.Helper()
	if len(got) != count {
		t.Fatalf("%v: %d numbers, not %d", p, len(got), count)
	}
	for i, x := range got {
		if at := (place{p.seed, p.lp, p.n + i}); x != impl.Rand(at.seed, at.lp, at.n) || x != randBig(at) {
			t.Fatalf("%v, %d behind it: %d, not %d", p, i, x, randBig(at))
		}
	}
}

func TestRandRow(t *testing.T) {
	want := []int{impl.Rand(7, 1, 4), 1933598562, 584903170}
	if got := impl.RandRow(7, 1, 4, 3); !slices.Equal(got, want) {
		t.Error(got, want)
	}
	for _, p := range ordinaryPlaces() {
		for _, count := range []int{0, 1, 2, 3, 50, 99, 100} {
			rowIs(t, impl.RandRow(p.seed, p.lp, p.n, count), p, count)
		}
	}
}

func TestRandRowAtTheBounds(t *testing.T) {
	for _, seed := range []int{0, greatestSeed} {
		for lp := range impl.MaxLps {
			for _, count := range []int{0, 1, 2, 99, longestRow} {
				rowIs(t, impl.RandRow(seed, lp, 0, count), place{seed, lp, 0}, count)
				end := impl.MaxSeq - count
				rowIs(t, impl.RandRow(seed, lp, end, count), place{seed, lp, end}, count)
				if got := impl.RandRow(seed, lp, end+1, count); len(got) != 0 {
					t.Errorf("%d from %d on, one above the end: %v", count, end+1, got)
				}
			}
		}
	}
	for _, c := range []struct{ from, count int }{
		{impl.MaxSeq, 1}, {impl.MaxSeq, 100}, {impl.MaxSeq - 1, 2}, {impl.MaxSeq - 50, 51}, {impl.MaxSeq - 98, 100},
	} {
		if got := impl.RandRow(7, 1, c.from, c.count); len(got) != 0 {
			t.Errorf("%d from %d on: %v", c.count, c.from, got)
		}
	}
}

func TestRandRowOfWrongOnes(t *testing.T) {
	for _, p := range slices.Concat(ordinaryPlaces(), edgePlaces()) {
		for _, count := range outside(0, longestRow) {
			if got := impl.RandRow(p.seed, p.lp, p.n, count); len(got) != 0 {
				t.Errorf("%d from %v on: %v", count, p, got)
			}
		}
	}
	for _, p := range wrongPlaces() {
		for _, count := range []int{0, 1, 2, 100, -1, 101, math.MinInt, math.MaxInt} {
			if got := impl.RandRow(p.seed, p.lp, p.n, count); len(got) != 0 {
				t.Errorf("%d from %v on: %v", count, p, got)
			}
		}
	}
}

func TestRandRowIsAsTwoRows(t *testing.T) {
	r := newRandom(10)
	for range 500 {
		count := r.IntN(longestRow + 1)
		first := r.IntN(count + 1)
		seed, lp, from := r.IntN(greatestSeed+1), r.IntN(impl.MaxLps), r.IntN(impl.MaxSeq-count+1)
		whole := impl.RandRow(seed, lp, from, count)
		two := slices.Concat(impl.RandRow(seed, lp, from, first), impl.RandRow(seed, lp, from+first, count-first))
		if len(whole) != count || !slices.Equal(whole, two) {
			t.Fatal(seed, lp, from, count, first, whole, two)
		}
	}
}

func TestRandRowIsNew(t *testing.T) {
	one, other := impl.RandRow(7, 1, 4, 100), impl.RandRow(7, 1, 4, 100)
	want := slices.Clone(other)
	one = one[:cap(one)]
	for i := range one {
		one[i] = -7
	}
	if !slices.Equal(other, want) {
		t.Fatal("two answers share memory")
	}
	rowIs(t, impl.RandRow(7, 1, 4, 100), place{7, 1, 4}, 100)
	rowIs(t, impl.RandRow(7, 1, 50, 20), place{7, 1, 50}, 20)
}
