package tests

import (
	"math"
	"math/rand"
	"slices"
	"testing"

	"loop.example/g00619/impl"
)

const maxTurn = int64(100)

func demand(lift, roll, pitch int64) impl.Demand {
	return impl.Demand{Lift: lift, Roll: roll, Pitch: pitch}
}

// sixOfNothing is new each time: it is written into.
func sixOfNothing() []int64 { return []int64{0, 0, 0, 0, 0, 0} }

// turnsOf is written down, and not counted out of a table as in the program.
func turnsOf(roll, pitch int64) []int64 {
	return []int64{
		roll + roll,
		roll + pitch + pitch,
		pitch + pitch - roll,
		-roll - roll,
		-roll - pitch - pitch,
		roll - pitch - pitch,
	}
}

// wantFarthest is the greatest size of a turn of those that stay on, written
// down by pairs: 0 and 3 by Roll alone, 1 and 4 where both go one way, 2 and 5
// where they do not.
func wantFarthest(c, roll, pitch int64) int64 {
	pairs := []int64{2 * roll, roll + 2*pitch, 2*pitch - roll}
	switch c {
	case 1, 4:
		pairs[0] = 0
	case 2, 5:
		pairs[1] = 0
	case 3, 6:
		pairs[2] = 0
	default:
		if c != caNone {
			return 0
		}
	}
	return slices.Max(append(pairs, -pairs[0], -pairs[1], -pairs[2]))
}

func within(n, low, high int64) int64 {
	switch {
	case n > high:
		return high
	case n < low:
		return low
	}
	return n
}

func isSize(n int64) bool { return n >= -maxSize && n <= maxSize }

func isDemand(d impl.Demand) bool { return isSize(d.Lift) && isSize(d.Roll) && isSize(d.Pitch) }

func isCase(c int64) bool { return c >= 0 && c <= 7 }

// wantCut is what is left of a right Demand where all was Between.
func wantCut(c int64, d impl.Demand) impl.Demand {
	roll, pitch := within(d.Roll, -maxTurn, maxTurn), within(d.Pitch, -maxTurn, maxTurn)
	most := wantFarthest(c, roll, pitch)
	return demand(within(d.Lift, most, maxOut-most), roll, pitch)
}

func wantShared(c int64, d impl.Demand) []int64 {
	if !isCase(c) || !isDemand(d) {
		return nil
	}
	d = wantCut(c, d)
	l := sixOfNothing()
	for _, fan := range wantStays(c) {
		l[fan] = d.Lift + turnsOf(d.Roll, d.Pitch)[fan]
	}
	return l
}

func wantReached(l []int64) impl.Demand {
	if len(l) != 6 || slices.Min(l) < 0 || slices.Max(l) > maxOut {
		return impl.Demand{}
	}
	return demand(
		l[0]+l[1]+l[2]+l[3]+l[4]+l[5],
		l[0]+l[0]+l[1]-l[2]-l[3]-l[3]-l[4]+l[5],
		l[1]+l[1]+l[2]+l[2]-l[4]-l[4]-l[5]-l[5],
	)
}

// wantEffect is written down likewise.
func wantEffect(c int64) []int64 {
	switch c {
	case 0:
		return []int64{6, 12, 0, 16}
	case 1, 4:
		return []int64{4, 4, 0, 16}
	case 2, 5:
		return []int64{4, 10, -4, 8}
	case 3, 6:
		return []int64{4, 10, 4, 8}
	case 7:
		return []int64{0, 0, 0, 0}
	}
	return nil
}

func checkWeightsOf(t *testing.T, fan, roll, pitch int64) {
	t.Helper()
	if r, p := impl.WeightsOf(fan); r != roll || p != pitch {
		t.Errorf("WeightsOf(%d) = %d, %d, want %d, %d", fan, r, p, roll, pitch)
	}
}

func checkShared(t *testing.T, c int64, d impl.Demand, want []int64) {
	t.Helper()
	if got := impl.Shared(c, d); !slices.Equal(got, want) {
		t.Errorf("Shared(%d, %+v) = %v, want %v", c, d, got, want)
	}
}

func checkSharedAsTold(t *testing.T, c int64, d impl.Demand) {
	t.Helper()
	checkShared(t, c, d, wantShared(c, d))
}

func checkReached(t *testing.T, l []int64, want impl.Demand) {
	t.Helper()
	if got := impl.Reached(l); got != want {
		t.Errorf("Reached(%v) = %+v, want %+v", l, got, want)
	}
}

func checkEffectOf(t *testing.T, c int64, want []int64) {
	t.Helper()
	if got := impl.EffectOf(c); !slices.Equal(got, want) {
		t.Errorf("EffectOf(%d) = %v, want %v", c, got, want)
	}
}

// wishes are sizes on both sides of each limit of a Demand.
func wishes() []int64 {
	return []int64{-maxSize, -maxSize + 1, -1000, -101, -100, -99, -50, -1, 0, 1, 33, 50, 99, 100, 101, 1000, maxSize - 1, maxSize}
}

// lifts are sizes on both sides of where the Lift may be Between.
func lifts() []int64 {
	return []int64{-maxSize, -1001, -1, 0, 1, 2, 99, 100, 101, 199, 200, 201, 299, 300, 301, 500, 699, 700, 701, 799, 800, 801, 899, 900, 901, 998, 999, 1000, 1001, maxSize}
}

func TestP11MaxTurn(t *testing.T) {
	if impl.MaxTurn != maxTurn {
		t.Errorf("MaxTurn = %d, want %d", impl.MaxTurn, maxTurn)
	}
}

func TestP11WeightsOf(t *testing.T) {
	checkWeightsOf(t, 0, 2, 0)
	checkWeightsOf(t, 1, 1, 2)
	checkWeightsOf(t, 2, -1, 2)
	checkWeightsOf(t, 3, -2, 0)
	checkWeightsOf(t, 4, -1, -2)
	checkWeightsOf(t, 5, 1, -2)
}

func TestP11WeightsOfNoFan(t *testing.T) {
	checkWeightsOf(t, -1, 0, 0)
	checkWeightsOf(t, 6, 0, 0)
	checkWeightsOf(t, math.MinInt64, 0, 0)
	checkWeightsOf(t, math.MaxInt64, 0, 0)
	for _, n := range notFans() {
		checkWeightsOf(t, n, 0, 0)
	}
}

func TestP11WeightsAcrossAreOpposite(t *testing.T) {
	for _, fan := range eachFan() {
		roll, pitch := impl.WeightsOf(fan)
		checkWeightsOf(t, impl.Across(fan), -roll, -pitch)
	}
}

func TestP11Shared(t *testing.T) {
	d := demand(500, 10, 5)
	checkShared(t, caNone, d, []int64{520, 520, 500, 480, 480, 500})
	checkShared(t, 1, d, []int64{0, 520, 500, 0, 480, 500})
	checkShared(t, 2, d, []int64{520, 0, 500, 480, 0, 500})
	checkShared(t, 3, d, []int64{520, 520, 0, 480, 480, 0})
	checkShared(t, 4, d, []int64{0, 520, 500, 0, 480, 500})
	checkShared(t, 5, d, []int64{520, 0, 500, 480, 0, 500})
	checkShared(t, 6, d, []int64{520, 520, 0, 480, 480, 0})
	checkShared(t, caMany, d, sixOfNothing())
}

func TestP11SharedOneWishAlone(t *testing.T) {
	checkShared(t, caNone, demand(0, 0, 0), sixOfNothing())
	checkShared(t, caNone, demand(500, 0, 0), []int64{500, 500, 500, 500, 500, 500})
	checkShared(t, caNone, demand(500, 7, 0), []int64{514, 507, 493, 486, 493, 507})
	checkShared(t, caNone, demand(500, 0, 7), []int64{500, 514, 514, 500, 486, 486})
	checkShared(t, caNone, demand(500, -7, 0), []int64{486, 493, 507, 514, 507, 493})
	checkShared(t, caNone, demand(500, 0, -7), []int64{500, 486, 486, 500, 514, 514})
	checkShared(t, caNone, demand(0, 7, 0), []int64{28, 21, 7, 0, 7, 21})
	checkShared(t, caNone, demand(0, 0, 7), []int64{14, 28, 28, 14, 0, 0})
}

func TestP11SharedOfNoCase(t *testing.T) {
	for _, c := range slices.Concat([]int64{-1, 8, math.MinInt64, math.MaxInt64}, notCases()) {
		for _, d := range []impl.Demand{{}, demand(500, 10, 5), demand(maxSize, -maxSize, maxSize), demand(maxSize+1, 0, 0)} {
			checkShared(t, c, d, nil)
		}
	}
}

// Each of the three at MaxSize and -MaxSize is right, whatever the case.
func TestP11SharedAtTheLastSizes(t *testing.T) {
	checkShared(t, caNone, demand(maxSize, 0, 0), []int64{1000, 1000, 1000, 1000, 1000, 1000})
	checkShared(t, caNone, demand(-maxSize, 0, 0), sixOfNothing())
	checkShared(t, caNone, demand(500, maxSize, 0), []int64{700, 600, 400, 300, 400, 600})
	checkShared(t, caNone, demand(500, -maxSize, 0), []int64{300, 400, 600, 700, 600, 400})
	checkShared(t, caNone, demand(500, 0, maxSize), []int64{500, 700, 700, 500, 300, 300})
	checkShared(t, caNone, demand(500, 0, -maxSize), []int64{500, 300, 300, 500, 700, 700})
	checkShared(t, caNone, demand(maxSize, maxSize, maxSize), []int64{900, 1000, 800, 500, 400, 600})
	checkShared(t, caNone, demand(-maxSize, -maxSize, -maxSize), []int64{100, 0, 200, 500, 600, 400})
	for _, c := range eachCase() {
		for _, n := range []int64{-maxSize, maxSize} {
			for _, d := range []impl.Demand{demand(n, 0, 0), demand(0, n, 0), demand(0, 0, n), demand(n, n, n), demand(-n, n, -n)} {
				checkSharedAsTold(t, c, d)
				if l := impl.Shared(c, d); len(l) != 6 {
					t.Errorf("Shared(%d, %+v) = %v, want six", c, d, l)
				}
			}
		}
	}
}

// TestP11SharedOfNoSize asks CaMany too: where there is no Demand there is
// nothing, and not six of 0.
func TestP11SharedOfNoSize(t *testing.T) {
	bad := slices.Concat([]int64{maxSize + 1, -maxSize - 1, math.MinInt64, math.MaxInt64}, noSizes())
	for _, c := range eachCase() {
		for _, n := range bad {
			checkShared(t, c, demand(n, 0, 0), nil)
			checkShared(t, c, demand(0, n, 0), nil)
			checkShared(t, c, demand(0, 0, n), nil)
			checkShared(t, c, demand(n, 10, 5), nil)
			checkShared(t, c, demand(500, n, 5), nil)
			checkShared(t, c, demand(500, 10, n), nil)
			checkShared(t, c, demand(n, n, 5), nil)
			checkShared(t, c, demand(500, n, n), nil)
			checkShared(t, c, demand(n, 10, n), nil)
			checkShared(t, c, demand(n, n, n), nil)
		}
	}
}

func TestP11SharedAtMaxTurn(t *testing.T) {
	roll, pitch := []int64{700, 600, 400, 300, 400, 600}, []int64{500, 700, 700, 500, 300, 300}
	both, apart := []int64{700, 800, 600, 300, 200, 400}, []int64{700, 400, 200, 300, 600, 800}
	for _, c := range []struct {
		roll, pitch int64
		want        []int64
	}{
		{99, 0, []int64{698, 599, 401, 302, 401, 599}},
		{100, 0, roll},
		{101, 0, roll},
		{0, 99, []int64{500, 698, 698, 500, 302, 302}},
		{0, 100, pitch},
		{0, 101, pitch},
		{100, 100, both},
		{101, 100, both},
		{100, 101, both},
		{101, 101, both},
		{100, -100, apart},
		{101, -100, apart},
		{100, -101, apart},
		{101, -101, apart},
	} {
		checkShared(t, caNone, demand(500, c.roll, c.pitch), c.want)
		l := slices.Concat(c.want[3:], c.want[:3]) // the other way is that of those across
		checkShared(t, caNone, demand(500, -c.roll, -c.pitch), l)
	}
}

func TestP11SharedOnBothSidesOfMaxTurn(t *testing.T) {
	near := []int64{-102, -101, -100, -99, 0, 99, 100, 101, 102}
	for _, c := range eachCase() {
		for _, roll := range near {
			for _, pitch := range near {
				for _, lift := range lifts() {
					checkSharedAsTold(t, c, demand(lift, roll, pitch))
				}
			}
		}
	}
}

func TestP11SharedAtTheLastLifts(t *testing.T) {
	low, high := []int64{40, 40, 20, 0, 0, 20}, []int64{1000, 1000, 980, 960, 960, 980}
	for _, c := range []struct {
		lift int64
		want []int64
	}{
		{19, low},
		{20, low},
		{21, []int64{41, 41, 21, 1, 1, 21}},
		{979, []int64{999, 999, 979, 959, 959, 979}},
		{980, high},
		{981, high},
	} {
		checkShared(t, caNone, demand(c.lift, 10, 5), c.want)
	}
}

// At the greatest size of a turn, and at MaxOut less that, one has 0 or MaxOut
// where the Lift is at the limit, but not where it is one inside.
func TestP11SharedAtTheLastLiftsOfEachCase(t *testing.T) {
	turns := []int64{-100, -99, -50, -3, -1, 0, 1, 2, 50, 99, 100}
	for _, c := range eachCase()[:7] {
		for _, roll := range turns {
			for _, pitch := range turns {
				most := wantFarthest(c, roll, pitch)
				for _, n := range []int64{most - 1, most, most + 1, maxOut - most - 1, maxOut - most, maxOut - most + 1} {
					checkSharedAsTold(t, c, demand(n, roll, pitch))
				}
				at := impl.Shared(c, demand(most, roll, pitch))
				checkShared(t, c, demand(most-1, roll, pitch), at)
				at = impl.Shared(c, demand(maxOut-most, roll, pitch))
				checkShared(t, c, demand(maxOut-most+1, roll, pitch), at)
			}
		}
	}
}

// TestP11SharedWhereTheFarthestIsOff has Lifts that would be Between if the one
// that turns farthest of all six stayed on.
func TestP11SharedWhereTheFarthestIsOff(t *testing.T) {
	// By Roll alone 0 and 3 turn farthest: by 200, and the others by 100.
	checkShared(t, caNone, demand(150, 100, 0), []int64{400, 300, 100, 0, 100, 300})
	checkShared(t, 1, demand(150, 100, 0), []int64{0, 250, 50, 0, 50, 250})
	checkShared(t, 4, demand(99, -100, 0), []int64{0, 0, 200, 0, 200, 0})
	checkShared(t, 1, demand(900, 100, 0), []int64{0, 1000, 800, 0, 800, 1000})
	checkShared(t, 4, demand(901, 100, 0), []int64{0, 1000, 800, 0, 800, 1000})
	// By both 1 and 4 do: by 300, 0 and 3 by 200, 2 and 5 by 100.
	checkShared(t, caNone, demand(250, 100, 100), []int64{500, 600, 400, 100, 0, 200})
	checkShared(t, 2, demand(250, 100, 100), []int64{450, 0, 350, 50, 0, 150})
	checkShared(t, 5, demand(801, 100, 100), []int64{1000, 0, 900, 600, 0, 700})
	checkShared(t, 3, demand(250, 100, 100), []int64{500, 600, 0, 100, 0, 0})
	// One against the other 2 and 5 do.
	checkShared(t, caNone, demand(250, 100, -100), []int64{500, 200, 0, 100, 400, 600})
	checkShared(t, 3, demand(250, 100, -100), []int64{450, 150, 0, 50, 350, 0})
	checkShared(t, 6, demand(801, 100, -100), []int64{1000, 700, 0, 600, 900, 0})
	checkShared(t, 2, demand(250, 100, -100), []int64{500, 0, 0, 100, 0, 600})
}

func TestP11SharedOfManyIsSixOfNothing(t *testing.T) {
	for _, lift := range lifts() {
		for _, roll := range wishes() {
			for _, pitch := range wishes() {
				checkShared(t, caMany, demand(lift, roll, pitch), sixOfNothing())
			}
		}
	}
}

func TestP11Reached(t *testing.T) {
	checkReached(t, []int64{520, 520, 500, 480, 480, 500}, demand(3000, 120, 80))
	checkReached(t, sixOfNothing(), impl.Demand{})
	checkReached(t, []int64{1, 0, 0, 0, 0, 0}, demand(1, 2, 0))
	checkReached(t, []int64{0, 1, 0, 0, 0, 0}, demand(1, 1, 2))
	checkReached(t, []int64{0, 0, 1, 0, 0, 0}, demand(1, -1, 2))
	checkReached(t, []int64{0, 0, 0, 1, 0, 0}, demand(1, -2, 0))
	checkReached(t, []int64{0, 0, 0, 0, 1, 0}, demand(1, -1, -2))
	checkReached(t, []int64{0, 0, 0, 0, 0, 1}, demand(1, 1, -2))
	checkReached(t, []int64{1000, 1000, 1000, 1000, 1000, 1000}, demand(6000, 0, 0))
	checkReached(t, []int64{1000, 1000, 0, 0, 0, 1000}, demand(3000, 4000, 0))
	checkReached(t, []int64{0, 1000, 1000, 0, 0, 0}, demand(2000, 0, 4000))
	checkReached(t, []int64{0, 0, 0, 0, 1000, 1000}, demand(2000, 0, -4000))
	checkReached(t, []int64{1, 10, 100, 1000, 200, 20}, demand(1331, -2268, -220))
}

func TestP11ReachedOfNotSix(t *testing.T) {
	checkReached(t, nil, impl.Demand{})
	checkReached(t, []int64{}, impl.Demand{})
	for n := range 20 {
		want := impl.Demand{}
		if n == 6 {
			want = demand(3000, 0, 0)
		}
		checkReached(t, slices.Repeat([]int64{500}, n), want)
	}
	checkReached(t, []int64{520, 520, 500, 480, 480}, impl.Demand{})
	checkReached(t, []int64{520, 520, 500, 480, 480, 500, 0}, impl.Demand{})
	checkReached(t, []int64{520, 520, 500, 480, 480, 500, 400}, impl.Demand{})
	checkReached(t, slices.Repeat([]int64{1}, 262), impl.Demand{})
	checkReached(t, slices.Repeat([]int64{1}, 65542), impl.Demand{})
}

func TestP11ReachedOfEachAtTheLimits(t *testing.T) {
	for _, base := range [][]int64{{520, 520, 500, 480, 480, 500}, sixOfNothing(), slices.Repeat([]int64{maxOut}, 6)} {
		for place := range 6 {
			for _, n := range []int64{0, 1, maxOut - 1, maxOut} {
				l := slices.Clone(base)
				l[place] = n
				checkReached(t, l, wantReached(l))
				if d := impl.Reached(l); d.Lift != l[0]+l[1]+l[2]+l[3]+l[4]+l[5] {
					t.Errorf("Reached(%v) = %+v, which is not all of it", l, d)
				}
			}
			for _, n := range slices.Concat([]int64{-1, maxOut + 1, math.MinInt64, math.MaxInt64}, noOuts()) {
				l := slices.Clone(base)
				l[place] = n
				checkReached(t, l, impl.Demand{})
			}
		}
	}
	for _, n := range noOuts() {
		checkReached(t, slices.Repeat([]int64{n}, 6), impl.Demand{})
	}
}

// TestP11WhatIsReachedStaysAsItWas looks at the spare room behind the list too.
func TestP11WhatIsReachedStaysAsItWas(t *testing.T) {
	for _, room := range [][]int64{{520, 520, 500, 480, 480, 500, 7, 8}, {0, 1000, -1, 1001, 5, 6, 7}, {1, 2, 3}, noOuts()} {
		was := slices.Clone(room)
		for n := range len(room) + 1 {
			impl.Reached(room[:n])
		}
		if !slices.Equal(room, was) {
			t.Errorf("the list was %v, and is %v", was, room)
		}
	}
}

func TestP11EffectOf(t *testing.T) {
	checkEffectOf(t, caNone, []int64{6, 12, 0, 16})
	checkEffectOf(t, 1, []int64{4, 4, 0, 16})
	checkEffectOf(t, 2, []int64{4, 10, -4, 8})
	checkEffectOf(t, 3, []int64{4, 10, 4, 8})
	checkEffectOf(t, 4, []int64{4, 4, 0, 16})
	checkEffectOf(t, 5, []int64{4, 10, -4, 8})
	checkEffectOf(t, 6, []int64{4, 10, 4, 8})
	checkEffectOf(t, caMany, []int64{0, 0, 0, 0})
}

func TestP11EffectOfNoCase(t *testing.T) {
	checkEffectOf(t, -1, nil)
	checkEffectOf(t, 8, nil)
	checkEffectOf(t, math.MinInt64, nil)
	checkEffectOf(t, math.MaxInt64, nil)
	for _, c := range notCases() {
		checkEffectOf(t, c, nil)
	}
}

// TestP11EffectOfIsCountedByWeights asks the chapter's other calls.
func TestP11EffectOfIsCountedByWeights(t *testing.T) {
	for _, c := range eachCase() {
		want := []int64{0, 0, 0, 0}
		for _, fan := range impl.StaysIn(c) {
			roll, pitch := impl.WeightsOf(fan)
			want[0]++
			want[1] += roll * roll
			want[2] += roll * pitch
			want[3] += pitch * pitch
		}
		checkEffectOf(t, c, want)
	}
}

// TestP11AnswersShareNoMemory writes over what was answered, and looks at what
// was answered ahead of that and is answered behind it.
func TestP11AnswersShareNoMemory(t *testing.T) {
	d := demand(500, 10, 5)
	for _, c := range slices.Concat(eachCase(), notCases()) {
		shared, effect := impl.Shared(c, d), impl.EffectOf(c)
		writeOver(impl.Shared(c, d))
		writeOver(impl.EffectOf(c))
		if !slices.Equal(shared, wantShared(c, d)) || !slices.Equal(effect, wantEffect(c)) {
			t.Errorf("of case %d other answers were changed, and these are %v and %v", c, shared, effect)
		}
		for _, again := range slices.Concat(eachCase(), []int64{c}) {
			checkSharedAsTold(t, again, d)
			checkEffectOf(t, again, wantEffect(again))
		}
	}
}

// checkP11 is the promise: each number from 0 to MaxOut, 0 of one that does not
// stay on, and what was wished for is Reached where nothing was Between.
func checkP11(t *testing.T, c int64, d impl.Demand) {
	t.Helper()
	l := impl.Shared(c, d)
	if len(l) != 6 {
		t.Errorf("Shared(%d, %+v) = %v, want six", c, d, l)
		return
	}
	for fan, n := range l {
		if n < 0 || n > maxOut {
			t.Errorf("Shared(%d, %+v) = %v, which is not from 0 to MaxOut", c, d, l)
		}
		if n != 0 && !impl.StaysOn(c, int64(fan)) {
			t.Errorf("Shared(%d, %+v) = %v, but %d does not stay on", c, d, l, fan)
		}
	}
	if wantCut(c, d) != d {
		return
	}
	e := impl.EffectOf(c)
	want := demand(d.Lift*e[0], d.Roll*e[1]+d.Pitch*e[2], d.Roll*e[2]+d.Pitch*e[3])
	checkReached(t, l, want)
}

func TestP11OfEachCaseAndManyDemands(t *testing.T) {
	for _, c := range eachCase() {
		for _, lift := range lifts() {
			for _, roll := range wishes() {
				for _, pitch := range wishes() {
					checkP11(t, c, demand(lift, roll, pitch))
					checkSharedAsTold(t, c, demand(lift, roll, pitch))
				}
			}
		}
	}
}

// Where something was Between, what is Reached is what was left to be wished
// for.
func TestP11WhatIsReachedWhereSomethingWasBetween(t *testing.T) {
	for _, c := range eachCase() {
		e := wantEffect(c)
		for _, lift := range lifts() {
			for _, roll := range wishes() {
				for _, pitch := range wishes() {
					d := wantCut(c, demand(lift, roll, pitch))
					want := demand(d.Lift*e[0], d.Roll*e[1]+d.Pitch*e[2], d.Roll*e[2]+d.Pitch*e[3])
					checkReached(t, impl.Shared(c, demand(lift, roll, pitch)), want)
				}
			}
		}
	}
}

func TestP11OfDrawnDemands(t *testing.T) {
	source := rand.New(rand.NewSource(27))
	for range 50000 {
		c := source.Int63n(8)
		d := demand(source.Int63n(1400)-200, source.Int63n(260)-130, source.Int63n(260)-130)
		checkP11(t, c, d)
		checkSharedAsTold(t, c, d)
		l := impl.Shared(c, d)
		checkReached(t, l, wantReached(l))
	}
}

func TestP11OfNumbersOfAnyLength(t *testing.T) {
	source := rand.New(rand.NewSource(28))
	for range 50000 {
		c, d := anyLength(source), demand(anyLength(source), anyLength(source), anyLength(source))
		if source.Intn(2) == 0 {
			c = source.Int63n(8)
		}
		checkSharedAsTold(t, c, d)
		if isCase(c) && isDemand(d) {
			checkP11(t, c, d)
		}
		checkEffectOf(t, c, wantEffect(c))
		l := make([]int64, 6)
		for i := range l {
			l[i] = anyLength(source)
			if source.Intn(8) > 0 {
				l[i] = source.Int63n(maxOut + 1)
			}
		}
		checkReached(t, l, wantReached(l))
	}
}
