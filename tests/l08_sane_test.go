package tests

import (
	"math"
	"math/rand"
	"slices"
	"testing"

	"loop.example/g00619/impl"
)

func rangeOf(low, high, rate int64) impl.Range {
	return impl.Range{Low: low, High: high, Rate: rate}
}

// widest leaves no size out: by it a value can be too fast alone.
func widest(rate int64) impl.Range { return rangeOf(-maxSize, maxSize, rate) }

func rightRanges() []impl.Range {
	return []impl.Range{
		rangeOf(0, 400, 20), rangeOf(0, 0, 1), rangeOf(-7, 9, 3), rangeOf(5, 5, 5), rangeOf(-9, -7, 2),
		rangeOf(-maxSize, -maxSize, 1), rangeOf(maxSize, maxSize, maxSize), rangeOf(-maxSize, 0, 999), rangeOf(0, maxSize, 1001),
		widest(1), widest(2), widest(maxSize - 1), widest(maxSize),
	}
}

// badRanges are off in one limb each, and those behind them in more than one.
func badRanges() []impl.Range {
	l := []impl.Range{{}, rangeOf(1, 0, 1), rangeOf(401, 400, 20), rangeOf(maxSize, -maxSize, 1), rangeOf(-8, -9, 20)}
	for _, n := range noSizes() {
		l = append(l, rangeOf(n, 400, 20), rangeOf(n, maxSize, 20), rangeOf(0, n, 20), rangeOf(-maxSize, n, 20), rangeOf(0, 400, n))
		l = append(l, rangeOf(n, n, 20), rangeOf(n, n, n), rangeOf(0, n, n), rangeOf(n, 400, n))
	}
	for _, rate := range []int64{0, -1, -2, -20, -maxSize} {
		l = append(l, rangeOf(0, 400, rate), rangeOf(0, 0, rate), rangeOf(1, 0, rate), widest(rate))
	}
	return l
}

func wantRange(r impl.Range) bool {
	for _, n := range []int64{r.Low, r.High, r.Rate} {
		if n < -maxSize || n > maxSize {
			return false
		}
	}
	return !(r.Low > r.High) && r.Rate > 0
}

// wantSane has a way up and a way down instead of a distance.
func wantSane(r impl.Range, old impl.Reading, value int64) bool {
	if _, right := wantAged(old); !right || !wantRange(r) {
		return false
	}
	low, high := r.Low, r.High
	if old.Was {
		way := r.Rate + r.Rate*old.Age
		low, high = max(low, old.Value-way), min(high, old.Value+way)
	}
	return low <= value && value <= high
}

func wantTaken(r impl.Range, old impl.Reading, value int64) impl.Reading {
	aged, right := wantAged(old)
	switch {
	case !right || !wantRange(r):
		return impl.Reading{}
	case wantSane(r, old, value):
		return reading(value, 0, true)
	}
	return aged
}

func checkRange(t *testing.T, r impl.Range, want bool) {
	t.Helper()
	if got := impl.RangeOk(r); got != want {
		t.Errorf("RangeOk(%v) = %v, want %v", r, got, want)
	}
}

func checkTaken(t *testing.T, r impl.Range, old impl.Reading, value int64, want impl.Reading) {
	t.Helper()
	if got := impl.Taken(r, old, value); got != want {
		t.Errorf("Taken(%v, %v, %d) = %v, want %v", r, old, value, got, want)
	}
}

// checkSane asks Taken too: Got of what is sane, Aged of what is not.
func checkSane(t *testing.T, r impl.Range, old impl.Reading, value int64, want bool) {
	t.Helper()
	if got := impl.IsSane(r, old, value); got != want {
		t.Errorf("IsSane(%v, %v, %d) = %v, want %v", r, old, value, got, want)
	}
	if want {
		checkTaken(t, r, old, value, reading(value, 0, true))
		return
	}
	aged, _ := wantAged(old)
	checkTaken(t, r, old, value, aged)
}

// checkNothing is of what is not right: neither sane nor Aged.
func checkNothing(t *testing.T, r impl.Range, old impl.Reading, value int64) {
	t.Helper()
	if impl.IsSane(r, old, value) {
		t.Errorf("IsSane(%v, %v, %d) = true, want false", r, old, value)
	}
	checkTaken(t, r, old, value, impl.Reading{})
}

func checkSaneAsTold(t *testing.T, r impl.Range, old impl.Reading, value int64) {
	t.Helper()
	if got, want := impl.IsSane(r, old, value), wantSane(r, old, value); got != want {
		t.Errorf("IsSane(%v, %v, %d) = %v, want %v", r, old, value, got, want)
	}
	checkTaken(t, r, old, value, wantTaken(r, old, value))
}

func TestP8RangeOk(t *testing.T) {
	for _, c := range []struct {
		low, high, rate int64
		want            bool
	}{
		{0, 0, 0, false},
		{0, 400, 20, true},
		{0, 0, 1, true},
		{-maxSize, 0, 5, true},
		{-maxSize - 1, 0, 5, false},
		{maxSize, maxSize, 5, true},
		{maxSize + 1, maxSize, 5, false},
		{maxSize + 1, maxSize + 1, 5, false},
		{0, maxSize, 5, true},
		{0, maxSize + 1, 5, false},
		{-maxSize, -maxSize, 5, true},
		{-maxSize, -maxSize - 1, 5, false},
		{-maxSize - 1, -maxSize - 1, 5, false},
		{6, 7, 5, true},
		{7, 7, 5, true},
		{8, 7, 5, false},
		{-8, -7, 5, true},
		{-7, -7, 5, true},
		{-6, -7, 5, false},
		{0, 400, -1, false},
		{0, 400, 0, false},
		{0, 400, 1, true},
		{0, 400, maxSize, true},
		{0, 400, maxSize + 1, false},
		{-maxSize, maxSize, maxSize, true},
		{-maxSize, maxSize, 1, true},
		{math.MinInt64, 400, 20, false},
		{math.MaxInt64, 400, 20, false},
		{0, math.MinInt64, 20, false},
		{0, math.MaxInt64, 20, false},
		{0, 400, math.MinInt64, false},
		{0, 400, math.MaxInt64, false},
		{math.MinInt64, math.MaxInt64, 20, false},
		{math.MinInt64, math.MinInt64, math.MinInt64, false},
		{math.MaxInt64, math.MaxInt64, math.MaxInt64, false},
	} {
		checkRange(t, rangeOf(c.low, c.high, c.rate), c.want)
	}
}

func TestP8RangeOkAtTheLimits(t *testing.T) {
	for _, r := range rightRanges() {
		checkRange(t, r, true)
	}
	for _, r := range badRanges() {
		checkRange(t, r, false)
	}
	numbers := slices.Concat(rightValues(), noSizes(), []int64{2, -2})
	for _, low := range numbers {
		for _, high := range numbers {
			for _, rate := range numbers {
				r := rangeOf(low, high, rate)
				checkRange(t, r, wantRange(r))
			}
		}
	}
}

// Where old was not, only Low and High count, however far old's Value is.
func TestP8SaneWhereOldWasNot(t *testing.T) {
	for _, r := range rightRanges() {
		for _, old := range readingsOf(rightValues(), rightAges()) {
			old.Was = false
			for _, value := range []int64{r.Low, r.High, r.Low + (r.High-r.Low)/2} {
				checkSane(t, r, old, value, true)
			}
			for _, value := range []int64{r.Low - 1, r.High + 1, r.Low - 400, r.High + 400} {
				checkSane(t, r, old, value, false)
			}
		}
	}
}

// An old that was, and is near enough, does not help a value past Low or High.
func TestP8SaneFromLowToHigh(t *testing.T) {
	r := rangeOf(-50, 400, 20)
	for _, c := range []struct {
		was, value int64
		want       bool
	}{
		{-50, -51, false}, {-50, -50, true}, {-50, -49, true},
		{400, 401, false}, {400, 400, true}, {400, 399, true},
		{-60, -60, false}, {-60, -51, false}, {-60, -50, true}, {-60, -40, true}, {-60, -39, false},
		{410, 410, false}, {410, 401, false}, {410, 400, true}, {410, 390, true}, {410, 389, false},
		{-70, -50, true}, {-71, -50, false}, {-71, -51, false},
		{420, 400, true}, {421, 400, false}, {421, 401, false},
	} {
		checkSane(t, r, reading(c.was, 0, true), c.value, c.want)
	}
}

func TestP8SaneAtOnePlaceAlone(t *testing.T) {
	for _, place := range rightValues() {
		r := rangeOf(place, place, 1)
		for _, old := range []impl.Reading{{}, reading(place, 0, true), reading(place, maxAge, true)} {
			checkSane(t, r, old, place-1, false)
			checkSane(t, r, old, place, true)
			checkSane(t, r, old, place+1, false)
		}
	}
}

func TestP8SaneByRateAndAge(t *testing.T) {
	for _, c := range []struct{ rate, age, way int64 }{
		{1, 0, 1},
		{1, 1, 2},
		{1, 2, 3},
		{1, maxAge - 1, 1000},
		{1, maxAge, 1001},
		{20, 0, 20},
		{20, 1, 40},
		{20, 3, 80},
		{20, maxAge, 20020},
		{999, maxAge, 999999},
		{998, maxAge, 998998},
		{500000, 0, 500000},
		{500000, 1, 1000000},
		{maxSize - 1, 0, 999999},
		{maxSize, 0, 1000000},
	} {
		for _, value := range []int64{0, 1, -1, maxSize, -maxSize, maxSize - c.way, c.way - maxSize} {
			checkWay(t, widest(c.rate), reading(value, c.age, true), c.way)
		}
	}
}

// checkWay asks on both sides of just that way, above old and below it, where
// there are sizes.
func checkWay(t *testing.T, r impl.Range, old impl.Reading, way int64) {
	t.Helper()
	for _, n := range []int64{0, 1, way / 2, way - 1, way, way + 1, way + 2, 2 * way, 2*way + 1} {
		for _, value := range []int64{old.Value + n, old.Value - n} {
			is := n <= way && value >= -maxSize && value <= maxSize
			checkSane(t, r, old, value, is)
			old.Was = false
			checkSane(t, r, old, value, value >= -maxSize && value <= maxSize)
			old.Was = true
		}
	}
}

// The whole way between the two limits is twice MaxSize: away is not Apart,
// which is at most MaxSize.
func TestP8SaneAsFarAwayAsMayBe(t *testing.T) {
	for _, c := range []struct {
		rate, age int64
		want      bool
	}{
		{1, 0, false},
		{1, maxAge, false},
		{maxSize, 0, false},
		{maxSize, 1, true},
		{maxSize, maxAge, true},
		{maxSize - 1, 1, false},
		{maxSize - 1, 2, true},
		{1998, maxAge - 1, false},
		{1998, maxAge, false},
		{1999, maxAge - 1, false},
		{1999, maxAge, true},
		{2000, maxAge - 2, false},
		{2000, maxAge - 1, true},
	} {
		checkSane(t, widest(c.rate), reading(-maxSize, c.age, true), maxSize, c.want)
		checkSane(t, widest(c.rate), reading(maxSize, c.age, true), -maxSize, c.want)
	}
	checkSane(t, widest(maxSize), reading(-maxSize, 0, true), 0, true)
	checkSane(t, widest(maxSize), reading(-maxSize, 0, true), 1, false)
	checkSane(t, widest(maxSize), reading(maxSize, 0, true), 0, true)
	checkSane(t, widest(maxSize), reading(maxSize, 0, true), -1, false)
	checkSane(t, widest(600000), reading(-600000, 1, true), 600000, true)
	checkSane(t, widest(600000), reading(-600000, 1, true), 600001, false)
	checkSane(t, widest(600000), reading(600000, 1, true), -600001, false)
}

func TestP8NoSizeIsSane(t *testing.T) {
	olds := []impl.Reading{{}, reading(0, 0, true), reading(maxSize, maxAge, true), reading(-maxSize, maxAge, true), reading(maxSize, 999, false)}
	for _, value := range noSizes() {
		for _, r := range rightRanges() {
			for _, old := range olds {
				checkSane(t, r, old, value, false)
			}
		}
	}
}

func TestP8NothingWhereOldIsNotRight(t *testing.T) {
	for _, old := range badReadings() {
		for _, r := range rightRanges() {
			for _, value := range []int64{0, 5, r.Low, r.High, old.Value, maxSize + 1, math.MinInt64, math.MaxInt64} {
				checkNothing(t, r, old, value)
			}
		}
	}
}

func TestP8NothingWhereTheRangeIsNotRight(t *testing.T) {
	olds := []impl.Reading{{}, reading(0, 0, true), reading(5, 3, true), reading(5, 3, false), reading(maxSize, maxAge, true), reading(-maxSize, 0, true)}
	for _, r := range badRanges() {
		for _, old := range olds {
			for _, value := range []int64{0, 5, r.Low, r.High, old.Value, maxSize, -maxSize, maxSize + 1, math.MinInt64, math.MaxInt64} {
				checkNothing(t, r, old, value)
			}
		}
	}
}

func TestP8NothingWhereNeitherIsRight(t *testing.T) {
	for _, r := range badRanges() {
		for _, old := range badReadings() {
			checkNothing(t, r, old, 0)
			checkNothing(t, r, old, old.Value)
		}
	}
}

func TestP8TakenIsGot(t *testing.T) {
	r := rangeOf(0, 400, 20)
	checkTaken(t, r, reading(100, 1, true), 140, reading(140, 0, true))
	checkTaken(t, r, reading(100, 1, true), 60, reading(60, 0, true))
	checkTaken(t, r, reading(100, 1, true), 100, reading(100, 0, true))
	checkTaken(t, r, reading(100, 0, true), 120, reading(120, 0, true))
	checkTaken(t, r, reading(100, maxAge, true), 400, reading(400, 0, true))
	checkTaken(t, r, impl.Reading{}, 400, reading(400, 0, true))
	checkTaken(t, r, impl.Reading{}, 0, reading(0, 0, true))
	checkTaken(t, r, reading(-maxSize, 7, false), 399, reading(399, 0, true))
	checkTaken(t, r, reading(-10, 0, true), 10, reading(10, 0, true))
}

func TestP8TakenIsAged(t *testing.T) {
	r := rangeOf(0, 400, 20)
	checkTaken(t, r, reading(100, 1, true), 141, reading(100, 2, true))
	checkTaken(t, r, reading(100, 1, true), 59, reading(100, 2, true))
	checkTaken(t, r, reading(100, 0, true), 121, reading(100, 1, true))
	checkTaken(t, r, reading(100, 0, true), 79, reading(100, 1, true))
	checkTaken(t, r, reading(100, 999, true), 401, reading(100, 1000, true))
	checkTaken(t, r, reading(100, 1000, true), 401, reading(100, 1000, true))
	checkTaken(t, r, reading(100, 1000, true), -1, reading(100, 1000, true))
	checkTaken(t, r, reading(maxSize, 999, true), 400, reading(maxSize, 1000, true))
	checkTaken(t, r, reading(maxSize, 1000, true), 400, reading(maxSize, 1000, true))
	checkTaken(t, r, impl.Reading{}, 401, reading(0, 1, false))
	checkTaken(t, r, impl.Reading{}, -1, reading(0, 1, false))
	checkTaken(t, r, reading(7, 999, false), 401, reading(7, 1000, false))
	checkTaken(t, r, reading(7, 1000, false), 401, reading(7, 1000, false))
	checkTaken(t, r, reading(7, 3, true), maxSize+1, reading(7, 4, true))
	checkTaken(t, r, reading(7, 3, true), math.MinInt64, reading(7, 4, true))
	checkTaken(t, r, reading(7, 3, false), math.MaxInt64, reading(7, 4, false))
}

func TestP8TakenOfWhatIsNotRight(t *testing.T) {
	r, old := rangeOf(0, 400, 20), reading(100, 1, true)
	for _, value := range []int64{100, 140, 141, 401, -1, math.MinInt64, math.MaxInt64} {
		checkTaken(t, r, reading(maxSize+1, 1, true), value, impl.Reading{})
		checkTaken(t, r, reading(-maxSize-1, 1, true), value, impl.Reading{})
		checkTaken(t, r, reading(100, -1, true), value, impl.Reading{})
		checkTaken(t, r, reading(100, maxAge+1, true), value, impl.Reading{})
		checkTaken(t, r, reading(100, maxAge+1, false), value, impl.Reading{})
		checkTaken(t, rangeOf(-maxSize-1, 400, 20), old, value, impl.Reading{})
		checkTaken(t, rangeOf(0, maxSize+1, 20), old, value, impl.Reading{})
		checkTaken(t, rangeOf(401, 400, 20), old, value, impl.Reading{})
		checkTaken(t, rangeOf(0, 400, 0), old, value, impl.Reading{})
		checkTaken(t, rangeOf(0, 400, maxSize+1), old, value, impl.Reading{})
		checkTaken(t, impl.Range{}, old, value, impl.Reading{})
		checkTaken(t, impl.Range{}, impl.Reading{}, value, impl.Reading{})
	}
}

// Every small Range, old and value, right or not.
func TestP8AllThatIsSmall(t *testing.T) {
	olds := readingsOf([]int64{-4, -3, -2, -1, 0, 1, 2, 3, 4}, []int64{-1, 0, 1, 2})
	for low := int64(-3); low <= 3; low++ {
		for high := int64(-3); high <= 3; high++ {
			for rate := int64(-1); rate <= 3; rate++ {
				for _, old := range olds {
					for value := int64(-5); value <= 5; value++ {
						checkSaneAsTold(t, rangeOf(low, high, rate), old, value)
					}
				}
			}
		}
	}
}

func TestP8AllAtTheLimits(t *testing.T) {
	for _, r := range rightRanges() {
		for _, old := range rightReadings() {
			way := r.Rate * (old.Age + 1)
			for _, value := range slices.Concat(rightValues(), []int64{r.Low - 1, r.Low, r.High, r.High + 1, old.Value - way - 1, old.Value - way, old.Value - way + 1, old.Value + way - 1, old.Value + way, old.Value + way + 1}) {
				checkSaneAsTold(t, r, old, value)
			}
		}
	}
}

// anyRange is right mostly.
func anyRange(source *rand.Rand) impl.Range {
	if source.Intn(20) == 0 {
		return rangeOf(anyLength(source), anyLength(source), anyLength(source))
	}
	wide := []int64{3, 50, 2000, maxSize}[source.Intn(4)]
	low, high := sizeWithin(source, wide), sizeWithin(source, wide)
	if source.Intn(20) > 0 {
		low, high = min(low, high), max(low, high)
	}
	return rangeOf(low, high, source.Int63n(1+wide))
}

func anyOld(source *rand.Rand, r impl.Range) impl.Reading {
	if source.Intn(20) == 0 {
		return reading(anyLength(source), anyLength(source), source.Intn(4) > 0)
	}
	return reading(r.Low/2+r.High/2+sizeWithin(source, 60), source.Int63n(5), source.Intn(5) > 0)
}

func TestP8AnyValue(t *testing.T) {
	source := rand.New(rand.NewSource(20))
	for range 200000 {
		r := anyRange(source)
		old := anyOld(source, r)
		value := anyLength(source)
		switch source.Intn(3) {
		case 0:
			value = sizeWithin(source, maxSize)
		case 1:
			value = old.Value/2 + r.High/2 + sizeWithin(source, 60)
		}
		checkSaneAsTold(t, r, old, value)
	}
}

// checkTakenIsSane asks P8 in its own words, of an old and an r that are right.
func checkTakenIsSane(t *testing.T, r impl.Range, old impl.Reading, value int64) impl.Reading {
	t.Helper()
	got := impl.Taken(r, old, value)
	aged, _ := wantAged(old)
	if !impl.IsSane(r, old, value) {
		if got != aged {
			t.Errorf("Taken(%v, %v, %d) = %v, want %v: the value is not sane", r, old, value, got, aged)
		}
		return got
	}
	if got != reading(value, 0, true) {
		t.Errorf("Taken(%v, %v, %d) = %v, want the value, an Age of 0, and Was", r, old, value, got)
	}
	if got.Value < r.Low || got.Value > r.High {
		t.Errorf("Taken(%v, %v, %d) = %v, which is not from Low to High", r, old, value, got)
	}
	way := r.Rate * (old.Age + 1)
	if old.Was && (got.Value-old.Value > way || old.Value-got.Value > way) {
		t.Errorf("Taken(%v, %v, %d) = %v, which is more than %d away from old", r, old, value, got, way)
	}
	return got
}

func TestP8WhatIsTakenIsSane(t *testing.T) {
	values := slices.Concat(rightValues(), noSizes(), []int64{400, 401, -50, -51, 20, 21, 140, 141, 999, 1000, 1001})
	for _, r := range rightRanges() {
		for _, old := range rightReadings() {
			for _, value := range values {
				checkTakenIsSane(t, r, old, value)
			}
		}
	}
}

// One value behind the other, from nothing on: whatever was Taken is from Low
// to High, and is no faster than told.
func TestP8WhatIsTakenStaysSane(t *testing.T) {
	source := rand.New(rand.NewSource(21))
	for range 300 {
		wide := []int64{50, 2000, maxSize}[source.Intn(3)]
		low, high := sizeWithin(source, wide), sizeWithin(source, wide)
		r := rangeOf(min(low, high), max(low, high), 1+source.Int63n(wide))
		old := impl.Reading{}
		for range 200 {
			value := sizeWithin(source, wide)
			if source.Intn(10) == 0 {
				value = anyLength(source)
			}
			old = checkTakenIsSane(t, r, old, value)
			if old.Was && (old.Value < r.Low || old.Value > r.High) || !impl.ReadingOk(old) {
				t.Fatalf("by %v it is %v, which is not right, or not from Low to High", r, old)
			}
		}
	}
}

// A value that is never sane is never taken, however long it is told; one that
// is too fast alone is, as soon as old is old enough.
func TestP8TakenAgainAndAgain(t *testing.T) {
	r, old := rangeOf(0, 400, 1), reading(100, 0, true)
	for n := int64(1); n <= 2*maxAge; n++ {
		old = impl.Taken(r, old, 401)
		if want := reading(100, min(n, 1000), true); old != want {
			t.Fatalf("behind 401, told %d times, it is %v, want %v", n, old, want)
		}
	}
	old = reading(100, 0, true)
	for n := int64(1); n < 300; n++ {
		old = impl.Taken(r, old, 400)
		if want := reading(100, n, true); old != want {
			t.Fatalf("behind 400, told %d times, it is %v, want %v", n, old, want)
		}
	}
	checkTaken(t, r, old, 400, reading(400, 0, true))
}
