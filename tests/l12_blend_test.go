package tests

import (
	"math"
	"math/rand"
	"slices"
	"testing"

	"loop.example/g00619/impl"
)

const (
	mdOut     = int64(2)
	mdGlide   = int64(3)
	sevenOuts = 7
)

// wantLiftPart is written down, and not taken from a table as in the program.
func wantLiftPart(speed int64) int64 {
	switch {
	case speed <= 100:
		return 1000
	case speed >= 200:
		return 0
	}
	return 2000 - 10*speed
}

// blendedOne makes n above 0 first, so that it is divided towards 0 on its own.
func blendedOne(n, part int64) int64 {
	if n < 0 {
		return -blendedOne(-n, part)
	}
	all := n * part
	return (all - all%1000) / 1000
}

func wantBlended(d impl.Demand, speed int64) impl.Demand {
	if !isDemand(d) || !isSize(speed) {
		return impl.Demand{}
	}
	part := wantLiftPart(speed)
	return demand(blendedOne(d.Lift, part), blendedOne(d.Roll, part), blendedOne(d.Pitch, part))
}

// wantPush tells the speeds at which the push of MdGlide comes to its ends.
func wantPush(mode, speed int64) int64 {
	switch {
	case mode == mdOut:
		return 1000
	case mode != mdGlide, speed >= 250:
		return 0
	case speed <= 150:
		return 1000
	}
	return 2500 - 10*speed
}

func areOuts(l []int64) bool {
	for _, n := range l {
		if n < 0 || n > maxOut {
			return false
		}
	}
	return len(l) <= sevenOuts
}

// wantStep goes one by one.
func wantStep(old, to, step int64) int64 {
	if to == 0 {
		return 0
	}
	for ; step > 0 && old != to; step-- {
		if old < to {
			old++
		} else {
			old--
		}
	}
	return old
}

func wantSlewed(old, to []int64, step int64) []int64 {
	if len(old) != len(to) || !areOuts(old) || !areOuts(to) {
		return nil
	}
	l := []int64{}
	for i := range old {
		l = append(l, wantStep(old[i], to[i], step))
	}
	return l
}

func checkLiftPart(t *testing.T, speed, want int64) {
	t.Helper()
	if got := impl.LiftPart(speed); got != want {
		t.Errorf("LiftPart(%d) = %d, want %d", speed, got, want)
	}
}

func checkBlended(t *testing.T, d impl.Demand, speed int64, want impl.Demand) {
	t.Helper()
	if got := impl.Blended(d, speed); got != want {
		t.Errorf("Blended(%+v, %d) = %+v, want %+v", d, speed, got, want)
	}
}

func checkBlendedAsTold(t *testing.T, d impl.Demand, speed int64) {
	t.Helper()
	checkBlended(t, d, speed, wantBlended(d, speed))
}

func checkPush(t *testing.T, mode, speed, want int64) {
	t.Helper()
	if got := impl.PushFor(mode, speed); got != want {
		t.Errorf("PushFor(%d, %d) = %d, want %d", mode, speed, got, want)
	}
}

func checkSlewed(t *testing.T, old, to []int64, step int64, want []int64) {
	t.Helper()
	if got := impl.Slewed(old, to, step); !slices.Equal(got, want) {
		t.Errorf("Slewed(%v, %v, %d) = %v, want %v", old, to, step, got, want)
	}
}

func checkSlewedAsTold(t *testing.T, old, to []int64, step int64) {
	t.Helper()
	checkSlewed(t, old, to, step, wantSlewed(old, to, step))
}

// speeds are sizes on both sides of where LiftPart and the push of MdGlide come
// to their ends, and such as do not come out even.
func speeds() []int64 {
	return []int64{-maxSize, -maxSize + 1, -1000, -1, 0, 1, 60, 99, 100, 101, 107, 120, 133, 149, 150, 151, 167, 199, 200, 201, 249, 250, 251, 400, maxSize - 1, maxSize}
}

func noModes() []int64 {
	return []int64{-1, 6, math.MinInt64, math.MaxInt64, -2, -3, 7, 100, 258, 259, 1<<32 + 2, 1<<32 + 3, math.MinInt64 + 2, math.MinInt64 + 3}
}

func steps() []int64 {
	return []int64{math.MinInt64, math.MinInt64 + 1, -maxSize - 1, -1000, -100, -1, 0, 1, 2, 99, 100, 101, 999, maxOut, maxOut + 1, maxSize, maxSize + 1, 2 * maxSize, 2*maxSize + 1, 1 << 32, 1<<32 + 1, math.MaxInt64 - 1, math.MaxInt64}
}

func someOuts() []int64 { return []int64{0, 1, 2, 99, 100, 101, 500, 899, 900, 901, 999, maxOut} }

func TestP12LiftPart(t *testing.T) {
	checkLiftPart(t, 99, 1000)
	checkLiftPart(t, 100, 1000)
	checkLiftPart(t, 101, 990)
	checkLiftPart(t, 149, 510)
	checkLiftPart(t, 150, 500)
	checkLiftPart(t, 151, 490)
	checkLiftPart(t, 199, 10)
	checkLiftPart(t, 200, 0)
	checkLiftPart(t, 201, 0)
	for speed := int64(99); speed <= 201; speed++ {
		checkLiftPart(t, speed, wantLiftPart(speed))
	}
}

func TestP12LiftPartOfOtherSpeeds(t *testing.T) {
	checkLiftPart(t, -1, 1000)
	checkLiftPart(t, 0, 1000)
	checkLiftPart(t, maxSize, 0)
	checkLiftPart(t, -maxSize, 1000)
	checkLiftPart(t, maxSize+1, 0)
	checkLiftPart(t, -maxSize-1, 1000)
	checkLiftPart(t, math.MinInt64, 1000)
	checkLiftPart(t, math.MaxInt64, 0)
	for _, speed := range slices.Concat(speeds(), noSizes(), []int64{1<<32 + 150, -1<<32 + 150}) {
		checkLiftPart(t, speed, wantLiftPart(speed))
	}
}

func TestP12Blended(t *testing.T) {
	d := demand(500, -10, 3)
	checkBlended(t, d, 100, d)
	checkBlended(t, d, 150, demand(250, -5, 1))
	checkBlended(t, d, 151, demand(245, -4, 1))
	checkBlended(t, d, 133, demand(335, -6, 2))
	checkBlended(t, d, 199, demand(5, 0, 0))
	checkBlended(t, d, 200, impl.Demand{})
	checkBlended(t, d, -1, d)
	checkBlended(t, impl.Demand{}, 150, impl.Demand{})
	checkBlended(t, demand(7, 0, 0), 100, demand(7, 0, 0))
	checkBlended(t, demand(0, 7, 0), 100, demand(0, 7, 0))
	checkBlended(t, demand(0, 0, 7), 100, demand(0, 0, 7))
}

func TestP12BlendedIsDividedTowardsNothing(t *testing.T) {
	checkBlended(t, demand(1, -1, 1), 101, impl.Demand{})
	checkBlended(t, demand(-1, 1, -1), 101, impl.Demand{})
	checkBlended(t, demand(999, -999, 999), 199, demand(9, -9, 9))
	checkBlended(t, demand(-999, 999, -999), 199, demand(-9, 9, -9))
	checkBlended(t, demand(99, -99, 100), 199, demand(0, 0, 1))
	checkBlended(t, demand(-99, 99, -100), 199, demand(0, 0, -1))
	checkBlended(t, demand(3, -3, 5), 150, demand(1, -1, 2))
	checkBlended(t, demand(-3, 5, -5), 150, demand(-1, 2, -2))
	checkBlended(t, demand(1001, -1001, 1003), 133, demand(670, -670, 672))
}

func TestP12BlendedOfManySizes(t *testing.T) {
	for _, speed := range speeds() {
		for _, lift := range lifts() {
			for _, roll := range wishes() {
				for _, pitch := range wishes() {
					checkBlendedAsTold(t, demand(lift, roll, pitch), speed)
				}
			}
		}
	}
}

// Each of the four at MaxSize and -MaxSize is right.
func TestP12BlendedAtTheLastSizes(t *testing.T) {
	for _, n := range []int64{maxSize, -maxSize} {
		checkBlended(t, demand(n, 7, -7), 100, demand(n, 7, -7))
		checkBlended(t, demand(7, n, -7), 100, demand(7, n, -7))
		checkBlended(t, demand(7, -7, n), 100, demand(7, -7, n))
		checkBlended(t, demand(n, 7, -7), 150, demand(n/2, 3, -3))
		checkBlended(t, demand(7, n, -7), 150, demand(3, n/2, -3))
		checkBlended(t, demand(7, -7, n), 150, demand(3, -3, n/2))
		checkBlended(t, demand(n, -n, n), 199, demand(n/100, -n/100, n/100))
		checkBlended(t, demand(n, -n, n), 200, impl.Demand{})
	}
	checkBlended(t, demand(500, 10, 5), -maxSize, demand(500, 10, 5))
	checkBlended(t, demand(500, 10, 5), maxSize, impl.Demand{})
	checkBlended(t, demand(maxSize, maxSize, maxSize), -maxSize, demand(maxSize, maxSize, maxSize))
	checkBlended(t, demand(-maxSize, -maxSize, -maxSize), -maxSize, demand(-maxSize, -maxSize, -maxSize))
}

func TestP12BlendedOfNoSize(t *testing.T) {
	bad := slices.Concat([]int64{maxSize + 1, -maxSize - 1, math.MinInt64, math.MaxInt64}, noSizes())
	for _, n := range bad {
		for _, speed := range speeds() {
			checkBlended(t, demand(n, 10, 5), speed, impl.Demand{})
			checkBlended(t, demand(500, n, 5), speed, impl.Demand{})
			checkBlended(t, demand(500, 10, n), speed, impl.Demand{})
			checkBlended(t, demand(n, n, n), speed, impl.Demand{})
		}
		checkBlended(t, demand(500, 10, 5), n, impl.Demand{})
		checkBlended(t, demand(n, 10, 5), n, impl.Demand{})
		checkBlended(t, demand(n, n, n), n, impl.Demand{})
	}
}

func TestP12PushOfEachMode(t *testing.T) {
	for _, c := range []struct{ mode, want int64 }{{0, 0}, {1, 0}, {2, 1000}, {3, 700}, {4, 0}, {5, 0}, {-1, 0}, {6, 0}, {math.MinInt64, 0}, {math.MaxInt64, 0}} {
		checkPush(t, c.mode, 180, c.want)
	}
	for _, speed := range slices.Concat(speeds(), noSizes()) {
		for mode := range int64(6) {
			checkPush(t, mode, speed, wantPush(mode, speed))
		}
		checkPush(t, mdOut, speed, 1000)
		for _, mode := range noModes() {
			checkPush(t, mode, speed, 0)
		}
	}
}

func TestP12PushOfGlide(t *testing.T) {
	checkPush(t, mdGlide, 200, 500)
	checkPush(t, mdGlide, 199, 510)
	checkPush(t, mdGlide, 201, 490)
	checkPush(t, mdGlide, 180, 700)
	checkPush(t, mdGlide, 149, 1000)
	checkPush(t, mdGlide, 150, 1000)
	checkPush(t, mdGlide, 151, 990)
	checkPush(t, mdGlide, 249, 10)
	checkPush(t, mdGlide, 250, 0)
	checkPush(t, mdGlide, 251, 0)
	for speed := int64(-10); speed <= 410; speed++ {
		checkPush(t, mdGlide, speed, wantPush(mdGlide, speed))
	}
}

// The speed of a push may be no size: it is then past all ends, and never round
// them.
func TestP12PushOfGlideAtTheLastSpeeds(t *testing.T) {
	checkPush(t, mdGlide, maxSize, 0)
	checkPush(t, mdGlide, maxSize+1, 0)
	checkPush(t, mdGlide, -maxSize, 1000)
	checkPush(t, mdGlide, -maxSize-1, 1000)
	checkPush(t, mdGlide, math.MinInt64, 1000)
	checkPush(t, mdGlide, math.MaxInt64, 0)
	for bits := range 63 {
		for near := int64(-300); near <= 300; near++ {
			for _, speed := range []int64{1<<bits + near, -1<<bits + near, math.MaxInt64/10 + near, math.MinInt64/10 + near} {
				checkPush(t, mdGlide, speed, wantPush(mdGlide, speed))
			}
		}
	}
	for near := range int64(300) {
		checkPush(t, mdGlide, math.MaxInt64-near, 0)
		checkPush(t, mdGlide, math.MinInt64+near, 1000)
	}
}

func TestP12Slewed(t *testing.T) {
	checkSlewed(t, []int64{0, 500, 500, 500}, []int64{300, 450, 0, 1000}, 100, []int64{100, 450, 0, 600})
	checkSlewed(t, []int64{500}, []int64{601}, 100, []int64{600})
	checkSlewed(t, []int64{500}, []int64{600}, 100, []int64{600})
	checkSlewed(t, []int64{500}, []int64{599}, 100, []int64{599})
	checkSlewed(t, []int64{500}, []int64{500}, 100, []int64{500})
	checkSlewed(t, []int64{500}, []int64{401}, 100, []int64{401})
	checkSlewed(t, []int64{500}, []int64{400}, 100, []int64{400})
	checkSlewed(t, []int64{500}, []int64{399}, 100, []int64{400})
	checkSlewed(t, []int64{0, 1, 2, 3, 4, 5, 6}, []int64{6, 5, 4, 3, 2, 1, 0}, 1, []int64{1, 2, 3, 3, 3, 4, 0})
	checkSlewed(t, []int64{0, 0, 0, 0, 0, 0, 0}, []int64{10, 20, 30, 40, 50, 60, 70}, 45, []int64{10, 20, 30, 40, 45, 45, 45})
}

func TestP12SlewedToNothingIsAtOnce(t *testing.T) {
	for _, step := range steps() {
		for _, n := range someOuts() {
			checkSlewed(t, []int64{n}, []int64{0}, step, []int64{0})
		}
		checkSlewed(t, []int64{1000, 1000}, []int64{0, 1000}, step, []int64{0, 1000})
	}
	checkSlewed(t, []int64{1000, 1000, 1000}, []int64{0, 1, 0}, 100, []int64{0, 900, 0})
	checkSlewed(t, []int64{1000, 0}, []int64{0, 1000}, 1, []int64{0, 1})
	checkSlewed(t, []int64{101, 101}, []int64{0, 1}, 100, []int64{0, 1})
	checkSlewed(t, []int64{102, 102}, []int64{0, 1}, 100, []int64{0, 2})
}

func TestP12SlewedByEachStep(t *testing.T) {
	old, to := []int64{500, 500, 0, 1000, 500, 1000}, []int64{1000, 1, 1000, 1, 500, 0}
	stays := []int64{500, 500, 0, 1000, 500, 0}
	for _, step := range []int64{math.MinInt64, math.MinInt64 + 1, -maxSize - 1, -maxSize, -1000, -2, -1, 0} {
		checkSlewed(t, old, to, step, stays)
	}
	checkSlewed(t, old, to, 1, []int64{501, 499, 1, 999, 500, 0})
	checkSlewed(t, old, to, 499, []int64{999, 1, 499, 501, 500, 0})
	checkSlewed(t, old, to, 500, []int64{1000, 1, 500, 500, 500, 0})
	checkSlewed(t, old, to, 998, []int64{1000, 1, 998, 2, 500, 0})
	checkSlewed(t, old, to, 999, []int64{1000, 1, 999, 1, 500, 0})
	for _, step := range []int64{maxOut, maxOut + 1, maxSize, maxSize + 1, 2 * maxSize, 1 << 32, math.MaxInt64 - 1, math.MaxInt64} {
		checkSlewed(t, old, to, step, to)
	}
}

func TestP12SlewedOfEachPair(t *testing.T) {
	for _, old := range someOuts() {
		for _, to := range someOuts() {
			for _, step := range steps() {
				checkSlewedAsTold(t, []int64{old}, []int64{to}, step)
				checkSlewedAsTold(t, []int64{old, to, old}, []int64{to, old, old}, step)
			}
		}
	}
}

func TestP12SlewedOfEachLength(t *testing.T) {
	checkSlewed(t, nil, nil, 5, nil)
	checkSlewed(t, nil, []int64{}, 5, nil)
	checkSlewed(t, []int64{}, nil, 5, nil)
	checkSlewed(t, []int64{}, []int64{}, 5, nil)
	checkSlewed(t, []int64{1}, []int64{}, 5, nil)
	checkSlewed(t, []int64{}, []int64{1}, 5, nil)
	checkSlewed(t, []int64{1}, []int64{8}, 5, []int64{6})
	checkSlewed(t, slices.Repeat([]int64{1}, 7), slices.Repeat([]int64{8}, 7), 5, slices.Repeat([]int64{6}, 7))
	checkSlewed(t, slices.Repeat([]int64{1}, 8), slices.Repeat([]int64{8}, 8), 5, nil)
	for many := range 20 {
		for others := range 20 {
			old, to := slices.Repeat([]int64{400}, many), slices.Repeat([]int64{600}, others)
			var want []int64
			if many == others && many <= 7 {
				want = slices.Repeat([]int64{450}, many)
			}
			checkSlewed(t, old, to, 50, want)
			checkSlewed(t, to, old, 50, slices.Repeat([]int64{550}, len(want)))
		}
	}
	for _, many := range []int{256, 257, 263, 65536, 65543} {
		checkSlewed(t, make([]int64, many), make([]int64, many), 50, nil)
	}
}

func TestP12SlewedOfEachNumberAtTheLimits(t *testing.T) {
	bases := [][]int64{{500}, {0}, {maxOut}, {0, 500, maxOut}, {10, 20, 30, 40, 50, 60, 70}, slices.Repeat([]int64{0}, 7), slices.Repeat([]int64{maxOut}, 7)}
	for _, base := range bases {
		for place := range base {
			for _, n := range slices.Concat([]int64{0, maxOut, -1, maxOut + 1}, someOuts(), noOuts()) {
				l := slices.Clone(base)
				l[place] = n
				for _, step := range []int64{-1, 0, 1, 100, maxOut, maxSize, maxSize + 1, math.MinInt64, math.MaxInt64} {
					checkSlewedAsTold(t, l, base, step)
					checkSlewedAsTold(t, base, l, step)
					checkSlewedAsTold(t, l, l, step)
				}
			}
		}
	}
	for _, n := range noOuts() {
		checkSlewed(t, []int64{n}, []int64{500}, 100, nil)
		checkSlewed(t, []int64{500}, []int64{n}, 100, nil)
		checkSlewed(t, []int64{n}, []int64{0}, 100, nil)
		checkSlewed(t, []int64{n}, []int64{n}, 100, nil)
		checkSlewed(t, []int64{1, 2, 3, 4, 5, 6, n}, []int64{0, 0, 0, 0, 0, 0, 0}, 100, nil)
		checkSlewed(t, []int64{n, 2, 3, 4, 5, 6, 7}, []int64{0, 0, 0, 0, 0, 0, 0}, 100, nil)
	}
}

// TestP12WhatIsSlewedStaysAsItWas looks at the spare room behind both lists
// too.
func TestP12WhatIsSlewedStaysAsItWas(t *testing.T) {
	old, to := []int64{0, 500, 900, 1000, 1, 2, 3, -7, 8, 9}, []int64{900, 0, 500, 0, 1000, 2, 900, 5, -6, 7}
	wasOld, wasTo := slices.Clone(old), slices.Clone(to)
	for many := range len(old) + 1 {
		for others := range len(to) + 1 {
			for _, step := range steps() {
				impl.Slewed(old[:many], to[:others], step)
				writeOver(impl.Slewed(old[:many], to[:others], step))
				if !slices.Equal(old, wasOld) || !slices.Equal(to, wasTo) {
					t.Fatalf("of %d and %d: the lists were %v and %v, and are %v and %v", many, others, wasOld, wasTo, old, to)
				}
			}
		}
	}
}

// One list given as both is still left as it was.
func TestP12OneListSlewedToItself(t *testing.T) {
	l := []int64{0, 500, 900, 1000, 1, 2, 3, 4}
	was := slices.Clone(l)
	for many := range 8 {
		for _, step := range steps() {
			got := impl.Slewed(l[:many], l[:many], step)
			if !slices.Equal(got, was[:many]) {
				t.Errorf("Slewed of %v to itself = %v", was[:many], got)
			}
			writeOver(got)
			// The second begins inside the first one.
			writeOver(impl.Slewed(l[:many], l[1:many+1], step))
			writeOver(impl.Slewed(l[1:many+1], l[:many], step))
			if !slices.Equal(l, was) {
				t.Fatalf("the list was %v, and is %v", was, l)
			}
		}
	}
}

// TestP12AnswersShareNoMemory writes into what was answered and behind it, and
// into what was given, and looks at the answers of the same lists.
func TestP12AnswersShareNoMemory(t *testing.T) {
	for many := range sevenOuts + 1 {
		for _, step := range steps() {
			old, to := []int64{0, 500, 900, 1000, 1, 2, 3}[:many], []int64{900, 0, 500, 1000, 1000, 2, 900}[:many]
			want := wantSlewed(old, to, step)
			one, other := impl.Slewed(old, to, step), impl.Slewed(old, to, step)
			writeOver(one)
			_ = append(one, -8, -9)
			checkSlewed(t, old, to, step, want)
			clear(old)
			clear(to)
			if !slices.Equal(other, want) {
				t.Errorf("one answer and what was given were changed, and the other answer is %v, want %v", other, want)
			}
		}
	}
}

// checkP12 is the first half of the promise.
func checkP12(t *testing.T, old, to []int64, step int64) {
	t.Helper()
	l := impl.Slewed(old, to, step)
	if len(l) != len(old) {
		t.Errorf("Slewed(%v, %v, %d) = %v, which are not as many", old, to, step, l)
		return
	}
	for i, n := range l {
		switch {
		case n < 0 || n > maxOut:
			t.Errorf("Slewed(%v, %v, %d) = %v, and %d is not from 0 to MaxOut", old, to, step, l, n)
		case max(n-to[i], to[i]-n) > max(old[i]-to[i], to[i]-old[i]):
			t.Errorf("Slewed(%v, %v, %d) = %v, and %d is farther than before", old, to, step, l, n)
		case to[i] == 0 && n != 0:
			t.Errorf("Slewed(%v, %v, %d) = %v, and %d is not 0 at once", old, to, step, l, n)
		case to[i] != 0 && max(n-old[i], old[i]-n) > max(step, 0):
			t.Errorf("Slewed(%v, %v, %d) = %v, and to %d is more than a step", old, to, step, l, n)
		}
	}
}

func TestP12NoneGoesByMoreThanAStep(t *testing.T) {
	for _, old := range someOuts() {
		for _, to := range someOuts() {
			for _, step := range steps() {
				checkP12(t, []int64{old}, []int64{to}, step)
				checkP12(t, []int64{to, old, to}, []int64{old, to, to}, step)
			}
		}
	}
}

// Step by step all come to where they go to, and then stay there.
func TestP12InManyStepsAllComeThere(t *testing.T) {
	to := []int64{1000, 1, 0, 500, 3, 999, 100}
	for _, step := range []int64{1, 7, 99, 100, 333, 999, 1000} {
		l := []int64{0, 1000, 1000, 500, 4, 0, 600}
		for ticks := int64(0); ticks <= 1000; ticks++ {
			// The farthest is 1000 away.
			if ticks*step >= 1000 && !slices.Equal(l, to) {
				t.Fatalf("%d steps of %d come to %v, want %v", ticks, step, l, to)
			}
			checkP12(t, l, to, step)
			l = impl.Slewed(l, to, step)
		}
	}
}

func TestP12OfDrawnLists(t *testing.T) {
	source := rand.New(rand.NewSource(29))
	for range 50000 {
		many := source.Intn(sevenOuts + 1)
		old, to := make([]int64, many), make([]int64, many)
		for i := range old {
			old[i] = source.Int63n(maxOut + 1)
			if source.Intn(4) > 0 {
				to[i] = source.Int63n(maxOut + 1)
			}
		}
		for _, step := range []int64{source.Int63n(1200) - 100, anyLength(source)} {
			checkP12(t, old, to, step)
			checkSlewedAsTold(t, old, to, step)
		}
	}
}

func TestP12OfNumbersOfAnyLength(t *testing.T) {
	source := rand.New(rand.NewSource(30))
	anyOf := func(usual int64) int64 {
		if source.Intn(8) > 0 {
			return source.Int63n(usual)
		}
		return anyLength(source)
	}
	for range 50000 {
		speed := anyOf(300)
		checkLiftPart(t, speed, wantLiftPart(speed))
		checkBlendedAsTold(t, demand(anyOf(3000), -anyOf(3000), anyOf(3000)), speed)
		mode := anyOf(6)
		checkPush(t, mode, speed, wantPush(mode, speed))
		old, to := make([]int64, source.Intn(9)), make([]int64, source.Intn(9))
		if source.Intn(4) > 0 {
			to = make([]int64, len(old))
		}
		for _, l := range [][]int64{old, to} {
			for i := range l {
				l[i] = source.Int63n(maxOut + 1)
			}
			if len(l) > 0 && source.Intn(4) == 0 {
				l[source.Intn(len(l))] = anyLength(source)
			}
		}
		checkSlewedAsTold(t, old, to, anyOf(200))
	}
}

// The second half of the promise: where the speed is more the LiftPart is never
// more, and between 100 and 200 it is less.
func TestP12TheFasterTheLessLiftPart(t *testing.T) {
	for speed := int64(-300); speed <= 600; speed++ {
		slow, fast := impl.LiftPart(speed), impl.LiftPart(speed+1)
		if fast > slow || speed >= 100 && speed < 200 && fast == slow {
			t.Errorf("LiftPart(%d) = %d, and of %d it is %d", speed, slow, speed+1, fast)
		}
	}
	all := slices.Concat(speeds(), noSizes())
	slices.Sort(all)
	for i, speed := range all[1:] {
		if slow, fast := impl.LiftPart(all[i]), impl.LiftPart(speed); fast > slow {
			t.Errorf("LiftPart(%d) = %d, and of %d it is %d", all[i], slow, speed, fast)
		}
	}
	source := rand.New(rand.NewSource(31))
	for range 50000 {
		a, b := anyLength(source), anyLength(source)
		if slow, fast := impl.LiftPart(min(a, b)), impl.LiftPart(max(a, b)); fast > slow || slow > 1000 || fast < 0 {
			t.Errorf("LiftPart(%d) = %d, and of %d it is %d", min(a, b), slow, max(a, b), fast)
		}
	}
}

// Likewise what is Blended is never farther from 0 where the speed is more, and
// never on the other side of it.
func TestP12TheFasterTheLessIsBlended(t *testing.T) {
	all := speeds()
	for _, n := range wishes() {
		before := impl.Blended(demand(n, -n, n), all[0])
		for _, speed := range all[1:] {
			d := impl.Blended(demand(n, -n, n), speed)
			if d.Lift < min(before.Lift, 0) || d.Lift > max(before.Lift, 0) || d.Roll != -d.Lift || d.Pitch != d.Lift {
				t.Errorf("of %d at %d is Blended %+v, behind %+v", n, speed, d, before)
			}
			before = d
		}
	}
}
