package tests

import (
	"math"
	"math/rand"
	"slices"
	"testing"

	"loop.example/g00619/impl"
)

const maxAge = int64(1000)

func reading(value, age int64, was bool) impl.Reading {
	return impl.Reading{Value: value, Age: age, Was: was}
}

// readingsOf are all Readings of these Values and these Ages, with Was true
// and false.
func readingsOf(values, ages []int64) []impl.Reading {
	var l []impl.Reading
	for _, value := range values {
		for _, age := range ages {
			l = append(l, reading(value, age, true), reading(value, age, false))
		}
	}
	return l
}

func rightValues() []int64 {
	return []int64{-maxSize, -maxSize + 1, -7, -1, 0, 1, 9, maxSize - 1, maxSize}
}

func noSizes() []int64 {
	return []int64{-maxSize - 1, maxSize + 1, 2 * maxSize, -1 << 32, 1 << 32, 1<<32 + 1, math.MinInt64, math.MinInt64 + 1, math.MaxInt64 - 1, math.MaxInt64}
}

func rightAges() []int64 { return []int64{0, 1, 2, 3, 499, 500, maxAge - 1, maxAge} }

func noAges() []int64 {
	return []int64{-1, maxAge + 1, -2, -maxAge, maxSize, -1 << 32, 1 << 32, 1<<32 + 1, math.MinInt64, math.MinInt64 + 1, math.MaxInt64 - 1, math.MaxInt64}
}

func rightReadings() []impl.Reading { return readingsOf(rightValues(), rightAges()) }

// badReadings have a Value or an Age past its limit, or both.
func badReadings() []impl.Reading {
	return slices.Concat(readingsOf(noSizes(), rightAges()), readingsOf(rightValues(), noAges()), readingsOf(noSizes(), noAges()))
}

// mosts are on both sides of an Age, and as far from it as there are numbers.
func mosts(age int64) []int64 {
	l := []int64{math.MinInt64, math.MinInt64 + 1, -1 << 32, -2, -1, 0, 1, 2, maxAge - 1, maxAge, maxAge + 1, maxAge + 2, 1 << 32, math.MaxInt64 - 1, math.MaxInt64}
	if age > math.MinInt64+3 && age < math.MaxInt64-3 {
		l = append(l, age-3, age-2, age-1, age, age+1, age+2, age+3)
	}
	return l
}

// wantAged has the zero Reading and false of what is not right.
func wantAged(r impl.Reading) (impl.Reading, bool) {
	if r.Value < -maxSize || r.Value > maxSize || r.Age < 0 || r.Age > maxAge {
		return impl.Reading{}, false
	}
	if r.Age == maxAge {
		return r, true
	}
	return reading(r.Value, r.Age+1, r.Was), true
}

func wantFresh(r impl.Reading, most int64) bool {
	_, right := wantAged(r)
	return right && r.Was && !(r.Age > most)
}

func checkReading(t *testing.T, r impl.Reading, want bool) {
	t.Helper()
	if got := impl.ReadingOk(r); got != want {
		t.Errorf("ReadingOk(%v) = %v, want %v", r, got, want)
	}
}

func checkAged(t *testing.T, r, want impl.Reading) {
	t.Helper()
	if got := impl.Aged(r); got != want {
		t.Errorf("Aged(%v) = %v, want %v", r, got, want)
	}
}

func checkGot(t *testing.T, r impl.Reading, value int64, want impl.Reading) {
	t.Helper()
	if got := impl.Got(r, value); got != want {
		t.Errorf("Got(%v, %d) = %v, want %v", r, value, got, want)
	}
}

func checkAgedAll(t *testing.T, l, want []impl.Reading) {
	t.Helper()
	if got := impl.AgedAll(l); !slices.Equal(got, want) {
		t.Errorf("AgedAll(%v) = %v, want %v", l, got, want)
	}
}

func checkFresh(t *testing.T, r impl.Reading, most int64, want bool) {
	t.Helper()
	if got := impl.IsFresh(r, most); got != want {
		t.Errorf("IsFresh(%v, %d) = %v, want %v", r, most, got, want)
	}
}

func TestP6MaxAge(t *testing.T) {
	if impl.MaxAge != maxAge {
		t.Errorf("MaxAge = %d, want %d", impl.MaxAge, maxAge)
	}
}

func TestP6ReadingOk(t *testing.T) {
	for _, was := range []bool{true, false} {
		for _, c := range []struct {
			value, age int64
			want       bool
		}{
			{0, 0, true},
			{9, 2, true},
			{-maxSize, 5, true},
			{-maxSize - 1, 5, false},
			{maxSize, 5, true},
			{maxSize + 1, 5, false},
			{7, -1, false},
			{7, 0, true},
			{7, 1000, true},
			{7, 1001, false},
			{-maxSize, 0, true},
			{maxSize, 1000, true},
			{-maxSize - 1, -1, false},
			{maxSize + 1, 1001, false},
			{math.MinInt64, 0, false},
			{math.MaxInt64, 0, false},
			{0, math.MinInt64, false},
			{0, math.MaxInt64, false},
		} {
			checkReading(t, reading(c.value, c.age, was), c.want)
		}
	}
}

func TestP6ReadingOkAtTheLimits(t *testing.T) {
	for _, r := range rightReadings() {
		checkReading(t, r, true)
	}
	for _, r := range badReadings() {
		checkReading(t, r, false)
	}
}

func TestP6Aged(t *testing.T) {
	checkAged(t, reading(9, 0, true), reading(9, 1, true))
	checkAged(t, reading(9, 1, true), reading(9, 2, true))
	checkAged(t, reading(-9, 998, true), reading(-9, 999, true))
	checkAged(t, reading(-9, 999, true), reading(-9, 1000, true))
	checkAged(t, reading(-9, 1000, true), reading(-9, 1000, true))
	checkAged(t, reading(maxSize, 0, true), reading(maxSize, 1, true))
	checkAged(t, reading(-maxSize, 1000, true), reading(-maxSize, 1000, true))
	checkAged(t, impl.Reading{}, reading(0, 1, false))
	checkAged(t, reading(5, 999, false), reading(5, 1000, false))
	checkAged(t, reading(5, 1000, false), reading(5, 1000, false))
}

func TestP6AgedAtEachAge(t *testing.T) {
	for age := int64(-5); age <= maxAge+5; age++ {
		for _, r := range readingsOf(slices.Concat(rightValues(), noSizes()), []int64{age}) {
			want, _ := wantAged(r)
			checkAged(t, r, want)
		}
	}
}

// What is Aged more than MaxAge times stays right, and as old as may be.
func TestP6AgedAgainAndAgain(t *testing.T) {
	for _, first := range []impl.Reading{reading(9, 0, true), reading(maxSize, 0, true), reading(-maxSize, 0, true), {}} {
		r := first
		for n := int64(1); n <= 2*maxAge+2; n++ {
			r = impl.Aged(r)
			if want := reading(first.Value, min(n, 1000), first.Was); r != want || !impl.ReadingOk(r) {
				t.Errorf("%v Aged %d times is %v, want %v", first, n, r, want)
			}
		}
	}
}

func TestP6AgedOfWhatIsNotRight(t *testing.T) {
	for _, r := range badReadings() {
		checkAged(t, r, impl.Reading{})
	}
}

func TestP6Got(t *testing.T) {
	checkGot(t, impl.Reading{}, 9, reading(9, 0, true))
	checkGot(t, impl.Reading{}, 0, reading(0, 0, true))
	checkGot(t, reading(5, 7, true), 9, reading(9, 0, true))
	checkGot(t, reading(5, 7, true), 5, reading(5, 0, true))
	checkGot(t, reading(5, 7, false), -9, reading(-9, 0, true))
	checkGot(t, reading(5, 1000, true), maxSize, reading(maxSize, 0, true))
	checkGot(t, reading(5, 1000, true), maxSize+1, impl.Reading{})
	checkGot(t, reading(5, 0, true), -maxSize, reading(-maxSize, 0, true))
	checkGot(t, reading(5, 0, true), -maxSize-1, impl.Reading{})
	checkGot(t, reading(5, 1001, true), 9, impl.Reading{})
	checkGot(t, reading(5, -1, true), 9, impl.Reading{})
	checkGot(t, reading(maxSize+1, 0, true), 9, impl.Reading{})
	checkGot(t, reading(-maxSize-1, 0, false), 9, impl.Reading{})
}

func TestP6GotAtTheLimits(t *testing.T) {
	for _, r := range rightReadings() {
		for _, value := range rightValues() {
			checkGot(t, r, value, reading(value, 0, true))
		}
		for _, value := range noSizes() {
			checkGot(t, r, value, impl.Reading{})
		}
	}
	for _, r := range badReadings() {
		for _, value := range slices.Concat(rightValues(), noSizes()) {
			checkGot(t, r, value, impl.Reading{})
		}
	}
}

func TestP6AgedAll(t *testing.T) {
	checkAgedAll(t, nil, nil)
	checkAgedAll(t, []impl.Reading{}, nil)
	checkAgedAll(t, []impl.Reading{{}}, []impl.Reading{reading(0, 1, false)})
	checkAgedAll(t, []impl.Reading{reading(9, 4, true)}, []impl.Reading{reading(9, 5, true)})
	checkAgedAll(t, []impl.Reading{reading(9, 1000, true)}, []impl.Reading{reading(9, 1000, true)})
	checkAgedAll(t,
		[]impl.Reading{reading(1, 0, true), reading(2, 999, true), reading(3, 1000, false), {}, reading(1, 0, true)},
		[]impl.Reading{reading(1, 1, true), reading(2, 1000, true), reading(3, 1000, false), reading(0, 1, false), reading(1, 1, true)})
}

func TestP6AgedAllOfAllThatIsRight(t *testing.T) {
	l := slices.Repeat(rightReadings(), 20)
	var want []impl.Reading
	for _, r := range l {
		aged, _ := wantAged(r)
		want = append(want, aged)
	}
	checkAgedAll(t, l, want)
	for i, r := range l {
		checkAgedAll(t, []impl.Reading{r}, want[i:i+1])
	}
}

func TestP6AgedAllOfNothingWhereOneIsNotRight(t *testing.T) {
	for _, bad := range badReadings() {
		checkAgedAll(t, []impl.Reading{bad}, nil)
		checkAgedAll(t, []impl.Reading{bad, bad}, nil)
		for place := range 5 {
			l := []impl.Reading{reading(1, 0, true), reading(2, 7, true), {}, reading(3, 1000, true), reading(4, 8, false)}
			l[place] = bad
			checkAgedAll(t, l, nil)
		}
	}
	long := slices.Repeat([]impl.Reading{reading(9, 4, true)}, 10000)
	long[len(long)-1].Age = -1
	checkAgedAll(t, long, nil)
}

func TestP6AgedAllOfAnyList(t *testing.T) {
	source := rand.New(rand.NewSource(15))
	right, bad := rightReadings(), badReadings()
	for range 5000 {
		var l, want []impl.Reading
		all := true
		for range source.Intn(12) {
			r := right[source.Intn(len(right))]
			if source.Intn(12) == 0 {
				r = bad[source.Intn(len(bad))]
			}
			aged, is := wantAged(r)
			l, want, all = append(l, r), append(want, aged), all && is
		}
		if !all {
			want = nil
		}
		checkAgedAll(t, l, want)
	}
}

// TestP6TheListStaysAsItWas looks at the spare room behind the list too, and
// writes over all of each answer.
func TestP6TheListStaysAsItWas(t *testing.T) {
	lists := [][]impl.Reading{rightReadings(), rightReadings()[:4], slices.Concat(rightReadings()[:5], badReadings()[:1], rightReadings()[:5]), badReadings()}
	for _, room := range lists {
		was := slices.Clone(room)
		for n := range len(room) {
			got := impl.AgedAll(room[:n])
			clear(got[:cap(got)])
		}
		if !slices.Equal(room, was) {
			t.Errorf("the list was %v, and is %v", was, room)
		}
	}
}

func TestP6AgedAllSharesNoMemory(t *testing.T) {
	for n := range 8 {
		l := rightReadings()[:n]
		one, other := impl.AgedAll(l), impl.AgedAll(l)
		want := slices.Clone(one)
		clear(one[:cap(one)])
		if !slices.Equal(other, want) {
			t.Errorf("one answer was changed, and the other is %v, want %v", other, want)
		}
		clear(l)
		if !slices.Equal(other, want) {
			t.Errorf("what was given was changed, and the answer is %v, want %v", other, want)
		}
	}
}

func TestP6IsFresh(t *testing.T) {
	for _, c := range []struct {
		age, most int64
		want      bool
	}{
		{0, -1, false}, {0, 0, true}, {0, 1, true},
		{1, 0, false}, {1, 1, true}, {1, 2, true},
		{7, -1, false}, {7, 0, false}, {7, 6, false}, {7, 7, true}, {7, 8, true}, {7, 1000, true}, {7, 1001, true},
		{999, 998, false}, {999, 999, true}, {999, 1000, true},
		{1000, -1, false}, {1000, 999, false}, {1000, 1000, true}, {1000, 1001, true},
		{0, math.MinInt64, false}, {0, math.MaxInt64, true}, {1000, math.MinInt64, false}, {1000, math.MaxInt64, true},
	} {
		checkFresh(t, reading(9, c.age, true), c.most, c.want)
		checkFresh(t, reading(-maxSize, c.age, true), c.most, c.want)
		checkFresh(t, reading(maxSize, c.age, true), c.most, c.want)
		checkFresh(t, reading(9, c.age, false), c.most, false)
		checkFresh(t, reading(maxSize+1, c.age, true), c.most, false)
		checkFresh(t, reading(-maxSize-1, c.age, true), c.most, false)
	}
}

func TestP6WhatIsNotRightIsNotFresh(t *testing.T) {
	for _, r := range badReadings() {
		for _, most := range mosts(r.Age) {
			checkFresh(t, r, most, false)
		}
	}
}

func TestP6IsFreshAtTheLimits(t *testing.T) {
	for _, r := range rightReadings() {
		for _, most := range mosts(r.Age) {
			checkFresh(t, r, most, wantFresh(r, most))
		}
	}
}

// What is Got is Fresh at once, and each time it is Aged it needs one more.
func TestP6WhatIsGotIsFresh(t *testing.T) {
	for _, value := range rightValues() {
		r := impl.Got(reading(5, 1000, false), value)
		for age := range maxAge + 1 {
			checkFresh(t, r, age, true)
			checkFresh(t, r, age-1, false)
			r = impl.Aged(r)
		}
		checkFresh(t, r, maxAge, true)
		checkFresh(t, r, maxAge-1, false)
	}
}

// checkNoFresher asks P6 of one Reading, alone and in a list.
func checkNoFresher(t *testing.T, r impl.Reading, most int64) {
	t.Helper()
	was := impl.IsFresh(r, most)
	if aged := impl.Aged(r); impl.IsFresh(aged, most) && !was {
		t.Errorf("%v is Aged to %v, which is Fresh by %d, and it was not", r, aged, most)
	}
	for _, aged := range impl.AgedAll([]impl.Reading{r}) {
		if impl.IsFresh(aged, most) && !was {
			t.Errorf("%v is Aged to %v in a list, which is Fresh by %d, and it was not", r, aged, most)
		}
	}
}

func TestP6WhatIsAgedIsNoFresher(t *testing.T) {
	for age := int64(-3); age <= maxAge+3; age++ {
		for _, r := range readingsOf([]int64{0, 9, -maxSize, maxSize, -maxSize - 1, maxSize + 1}, []int64{age}) {
			for _, most := range mosts(age) {
				checkNoFresher(t, r, most)
				checkFresh(t, r, most, wantFresh(r, most))
			}
		}
	}
	for _, r := range badReadings() {
		for _, most := range mosts(r.Age) {
			checkNoFresher(t, r, most)
		}
	}
}

func TestP6WhatIsAgedIsNoFresherAnywhere(t *testing.T) {
	source := rand.New(rand.NewSource(16))
	for range 50000 {
		r := reading(anyLength(source), anyLength(source), source.Intn(2) == 0)
		if source.Intn(2) == 0 {
			r.Value, r.Age = sizeWithin(source, maxSize), source.Int63n(maxAge+1)
		}
		most := anyLength(source)
		want, right := wantAged(r)
		checkReading(t, r, right)
		checkAged(t, r, want)
		checkFresh(t, r, most, wantFresh(r, most))
		checkNoFresher(t, r, most)
	}
}
