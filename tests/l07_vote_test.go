package tests

import (
	"math"
	"math/rand"
	"slices"
	"testing"

	"loop.example/g00619/impl"
)

// inEveryOrder are the six orders of three items, the first one as given.
func inEveryOrder[T any](a, b, c T) [][]T {
	return [][]T{{a, b, c}, {a, c, b}, {b, a, c}, {b, c, a}, {c, a, b}, {c, b, a}}
}

// freshOnes are Readings of these Values that were got just now.
func freshOnes(values ...int64) []impl.Reading {
	var l []impl.Reading
	for _, value := range values {
		l = append(l, reading(value, 0, true))
	}
	return l
}

// notFresh are right Readings that are not Fresh by this most, of any Value:
// too old by one, as old as may be, and none at all, of each Age.
func notFresh(most int64) []impl.Reading {
	var l []impl.Reading
	for _, r := range readingsOf([]int64{0, 900, -maxSize, maxSize}, []int64{0, 1, most - 1, most, most + 1, most + 2, maxAge}) {
		if _, right := wantAged(r); right && !wantFresh(r, most) {
			l = append(l, r)
		}
	}
	return l
}

func wantMiddle(a, b, c int64) int64 {
	isMiddle := func(x, y, z int64) bool { return y <= x && x <= z || z <= x && x <= y }
	switch {
	case isMiddle(a, b, c):
		return a
	case isMiddle(b, a, c):
		return b
	}
	return c
}

// wantHalf takes off the odd one by its sign first, so that nothing is left to
// be cut.
func wantHalf(a, b int64) int64 {
	sum := a + b
	if sum%2 != 0 && sum > 0 {
		sum--
	} else if sum%2 != 0 {
		sum++
	}
	return sum / 2
}

// wantVoters has false where the Readings are not so many, or one is not right.
func wantVoters(l []impl.Reading, many int, most int64) ([]int64, bool) {
	var voters []int64
	all := len(l) == many
	for _, r := range l {
		_, right := wantAged(r)
		all = all && right
		if wantFresh(r, most) {
			voters = append(voters, r.Value)
		}
	}
	return voters, all
}

func wantThree(l []impl.Reading, most int64) (int64, bool) {
	voters, right := wantVoters(l, 3, most)
	switch {
	case !right || len(voters) == 0:
		return 0, false
	case len(voters) == 1:
		return voters[0], false
	case len(voters) == 2:
		return wantHalf(voters[0], voters[1]), true
	}
	return wantMiddle(voters[0], voters[1], voters[2]), true
}

func wantTwo(l []impl.Reading, most, apart int64) (int64, bool) {
	voters, right := wantVoters(l, 2, most)
	switch {
	case !right || apart < 0 || apart > maxSize || len(voters) == 0:
		return 0, false
	case len(voters) == 1:
		return voters[0], true
	}
	return slices.Min(voters), exactApart(voters[0], voters[1]) <= apart
}

func checkMiddle(t *testing.T, a, b, c, want int64) {
	t.Helper()
	if got := impl.Middle(a, b, c); got != want {
		t.Errorf("Middle(%d, %d, %d) = %d, want %d", a, b, c, got, want)
	}
}

func checkThree(t *testing.T, l []impl.Reading, most, want int64, wantIs bool) {
	t.Helper()
	if got, is := impl.VoteThree(l, most); got != want || is != wantIs {
		t.Errorf("VoteThree(%v, %d) = %d, %v, want %d, %v", l, most, got, is, want, wantIs)
	}
}

func checkThreeAsTold(t *testing.T, l []impl.Reading, most int64) {
	t.Helper()
	want, is := wantThree(l, most)
	checkThree(t, l, most, want, is)
}

func checkTwo(t *testing.T, l []impl.Reading, most, apart, want int64, wantIs bool) {
	t.Helper()
	if got, is := impl.VoteTwo(l, most, apart); got != want || is != wantIs {
		t.Errorf("VoteTwo(%v, %d, %d) = %d, %v, want %d, %v", l, most, apart, got, is, want, wantIs)
	}
}

func checkTwoAsTold(t *testing.T, l []impl.Reading, most, apart int64) {
	t.Helper()
	want, is := wantTwo(l, most, apart)
	checkTwo(t, l, most, apart, want, is)
}

func TestP7Middle(t *testing.T) {
	for _, c := range []struct{ least, middle, greatest int64 }{
		{1, 2, 3},
		{0, 0, 0},
		{7, 7, 7},
		{-7, -7, -7},
		{5, 5, 9},
		{5, 9, 9},
		{-9, -9, -5},
		{-9, -5, -5},
		{-3, -2, -1},
		{-1, 0, 1},
		{-10, 3, 4},
		{-10, -9, 400},
		{-maxSize, 0, maxSize},
		{10, 13, 900},
		{math.MinInt64, 0, math.MaxInt64},
		{math.MinInt64, -1, math.MaxInt64},
		{math.MinInt64, 1, math.MaxInt64},
		{math.MinInt64, math.MinInt64, math.MinInt64},
		{math.MaxInt64, math.MaxInt64, math.MaxInt64},
		{math.MinInt64, math.MinInt64, math.MaxInt64},
		{math.MinInt64, math.MaxInt64, math.MaxInt64},
		{math.MinInt64, math.MinInt64 + 1, math.MinInt64 + 2},
		{math.MaxInt64 - 2, math.MaxInt64 - 1, math.MaxInt64},
		{math.MinInt64, math.MinInt64 + 1, math.MaxInt64},
		{math.MinInt64, math.MaxInt64 - 1, math.MaxInt64},
		{math.MinInt64, math.MinInt64, 0},
		{0, math.MaxInt64, math.MaxInt64},
	} {
		for _, l := range inEveryOrder(c.least, c.middle, c.greatest) {
			checkMiddle(t, l[0], l[1], l[2], c.middle)
		}
	}
}

func TestP7MiddleOfEverySmallThree(t *testing.T) {
	for a := int64(-4); a <= 4; a++ {
		for b := int64(-4); b <= 4; b++ {
			for c := int64(-4); c <= 4; c++ {
				checkMiddle(t, a, b, c, wantMiddle(a, b, c))
			}
		}
	}
}

func TestP7MiddleAtEdges(t *testing.T) {
	for _, a := range fixEdges() {
		for _, b := range fixEdges() {
			for _, c := range fixEdges() {
				checkMiddle(t, a, b, c, wantMiddle(a, b, c))
			}
		}
	}
}

func TestP7MiddleAnywhere(t *testing.T) {
	source := rand.New(rand.NewSource(17))
	for range 20000 {
		a, b, c := anyLength(source), anyLength(source), anyLength(source)
		checkMiddle(t, a, b, c, wantMiddle(a, b, c))
	}
}

func TestP7VoteThreeOfThreeFresh(t *testing.T) {
	for _, c := range []struct{ least, middle, greatest int64 }{
		{10, 13, 900},
		{1, 2, 3},
		{0, 0, 0},
		{4, 4, 4},
		{5, 5, 9},
		{5, 9, 9},
		{-9, -5, -5},
		{-3, -2, -1},
		{-maxSize, 0, maxSize},
		{-maxSize, -maxSize, maxSize},
		{-maxSize, maxSize, maxSize},
		{maxSize, maxSize, maxSize},
		{-maxSize, -maxSize, -maxSize},
		{maxSize - 2, maxSize - 1, maxSize},
	} {
		for _, l := range inEveryOrder(c.least, c.middle, c.greatest) {
			checkThree(t, freshOnes(l...), 0, c.middle, true)
			checkThree(t, freshOnes(l...), 3, c.middle, true)
			checkThree(t, freshOnes(l...), -1, 0, false)
		}
	}
}

// Who is not Fresh has no vote, wherever it stands, whatever it says, and
// whether it is too old or never was.
func TestP7VoteThreeOfTwoFresh(t *testing.T) {
	for _, stale := range notFresh(3) {
		for place, want := range []int64{24, 19, 15} {
			l := []impl.Reading{reading(10, 3, true), reading(20, 0, true), reading(29, 2, true)}
			l[place] = stale
			checkThree(t, l, 3, want, true)
		}
	}
}

func TestP7VoteThreeOfOneFresh(t *testing.T) {
	for _, value := range rightValues() {
		for _, age := range []int64{0, 1, 3} {
			for _, stale := range notFresh(3) {
				for _, other := range notFresh(3) {
					for _, l := range inEveryOrder(reading(value, age, true), stale, other) {
						checkThree(t, l, 3, value, false)
					}
				}
			}
		}
	}
}

func TestP7VoteThreeOfNoneFresh(t *testing.T) {
	for _, most := range []int64{-1, 0, 3, 999} {
		stale := notFresh(most)
		for _, a := range stale {
			for _, b := range stale {
				for _, c := range stale {
					checkThree(t, []impl.Reading{a, b, c}, most, 0, false)
				}
			}
		}
	}
	checkThree(t, make([]impl.Reading, 3), math.MaxInt64, 0, false)
}

// Of three that differ in Age each most lets in one more, in every order.
func TestP7VoteThreeByMost(t *testing.T) {
	for _, c := range []struct {
		most, want int64
		is         bool
	}{
		{math.MinInt64, 0, false},
		{-1, 0, false},
		{0, 0, false},
		{3, 0, false},
		{4, 100, false},
		{5, 100, false},
		{6, 100, false},
		{7, 125, true},
		{8, 125, true},
		{999, 125, true},
		{1000, 100, true},
		{1001, 100, true},
		{math.MaxInt64, 100, true},
	} {
		for _, l := range inEveryOrder(reading(100, 4, true), reading(150, 7, true), reading(-30, 1000, true)) {
			checkThree(t, l, c.most, c.want, c.is)
		}
	}
}

// All alike in Age, but for one at each place: most is on both sides of both.
func TestP7VoteThreeByMostAtEachPlace(t *testing.T) {
	for _, age := range rightAges() {
		for _, other := range rightAges() {
			for place := range 3 {
				l := []impl.Reading{reading(40, age, true), reading(-51, age, true), reading(60, age, true)}
				l[place].Age = other
				for _, most := range slices.Concat(mosts(age), mosts(other)) {
					checkThreeAsTold(t, l, most)
				}
			}
		}
	}
}

// Each of three is Fresh or not: by Age, or as it never was.
func TestP7VoteThreeByAgeAndByWas(t *testing.T) {
	kinds := readingsOf([]int64{-8, 11}, []int64{0, 3, 4, maxAge})
	for _, a := range kinds {
		for _, b := range kinds {
			for _, c := range kinds {
				for _, most := range []int64{math.MinInt64, -1, 0, 2, 3, 4, maxAge, math.MaxInt64} {
					checkThreeAsTold(t, []impl.Reading{a, b, c}, most)
				}
			}
		}
	}
}

func TestP7VoteThreeHalves(t *testing.T) {
	for _, c := range []struct{ a, b, want int64 }{
		{10, 20, 15},
		{10, 13, 11},
		{0, 0, 0},
		{0, 1, 0},
		{0, -1, 0},
		{0, 2, 1},
		{0, -2, -1},
		{1, 2, 1},
		{-1, -2, -1},
		{-1, 1, 0},
		{-1, 2, 0},
		{1, -2, 0},
		{-3, 0, -1},
		{3, 0, 1},
		{-10, -13, -11},
		{-10, -14, -12},
		{7, 7, 7},
		{-7, -7, -7},
		{-maxSize, maxSize, 0},
		{-maxSize, maxSize - 1, 0},
		{-maxSize + 1, maxSize, 0},
		{maxSize, maxSize, 1000000},
		{-maxSize, -maxSize, -1000000},
		{maxSize, maxSize - 1, 999999},
		{-maxSize, -maxSize + 1, -999999},
		{maxSize, 0, 500000},
		{-maxSize, 0, -500000},
		{maxSize, 1, 500000},
		{maxSize, 2, 500001},
		{-maxSize, -1, -500000},
		{-maxSize, -2, -500001},
	} {
		for _, stale := range notFresh(3) {
			for _, l := range inEveryOrder(reading(c.a, 0, true), reading(c.b, 3, true), stale) {
				checkThree(t, l, 3, c.want, true)
			}
		}
	}
}

func TestP7VoteThreeOfNotThree(t *testing.T) {
	for _, most := range []int64{math.MinInt64, -1, 0, 3, maxAge, math.MaxInt64} {
		checkThree(t, nil, most, 0, false)
		for _, many := range []int{0, 1, 2, 4, 5, 6, 7, 100, 1000} {
			checkThree(t, slices.Repeat(freshOnes(9), many), most, 0, false)
			checkThree(t, make([]impl.Reading, many), most, 0, false)
			checkThree(t, slices.Repeat(freshOnes(9), 3+many)[:many], most, 0, false)
		}
		checkThree(t, append(freshOnes(1, 2, 3), impl.Reading{}), most, 0, false)
		checkThree(t, append([]impl.Reading{{}}, freshOnes(1, 2, 3)...), most, 0, false)
		checkThree(t, append(freshOnes(1, 2, 3), badReadings()[0]), most, 0, false)
	}
}

// One that is not right spoils the vote also where two others are Fresh, and
// where it would have no vote itself.
func TestP7VoteThreeWhereOneIsNotRight(t *testing.T) {
	others := [][]impl.Reading{
		freshOnes(5, 6),
		freshOnes(5, 5),
		{reading(5, 0, true), reading(6, 900, true)},
		{reading(6, 0, false), reading(5, 0, true)},
		make([]impl.Reading, 2),
	}
	for _, bad := range badReadings() {
		for _, pair := range others {
			for place := range 3 {
				l := slices.Insert(slices.Clone(pair), place, bad)
				for _, most := range []int64{math.MinInt64, -1, 0, 3, maxAge, maxAge + 1, math.MaxInt64} {
					checkThree(t, l, most, 0, false)
				}
			}
		}
		checkThree(t, []impl.Reading{bad, bad, bad}, 3, 0, false)
		checkThree(t, []impl.Reading{bad, reading(5, 0, true), bad}, 3, 0, false)
	}
}

func TestP7VoteTwoOfBothFresh(t *testing.T) {
	for _, c := range []struct {
		lesser, other, apart int64
		is                   bool
	}{
		{10, 13, 0, false},
		{10, 13, 2, false},
		{10, 13, 3, true},
		{10, 13, 4, true},
		{10, 13, maxSize, true},
		{7, 7, 0, true},
		{7, 7, 1, true},
		{0, 0, 0, true},
		{-7, -7, 0, true},
		{6, 7, 0, false},
		{6, 7, 1, true},
		{-13, -10, 2, false},
		{-13, -10, 3, true},
		{-2, 2, 3, false},
		{-2, 2, 4, true},
		{-1, 0, 0, false},
		{-1, 0, 1, true},
		{0, maxSize, maxSize - 1, false},
		{0, maxSize, maxSize, true},
		{-maxSize, 0, maxSize - 1, false},
		{-maxSize, 0, maxSize, true},
		{maxSize, maxSize, 0, true},
		{-maxSize, -maxSize, 0, true},
		{maxSize - 1, maxSize, 0, false},
		{maxSize - 1, maxSize, 1, true},
	} {
		for _, most := range []int64{1, 3, math.MaxInt64} {
			checkTwo(t, []impl.Reading{reading(c.lesser, 0, true), reading(c.other, 1, true)}, most, c.apart, c.lesser, c.is)
			checkTwo(t, []impl.Reading{reading(c.other, 1, true), reading(c.lesser, 0, true)}, most, c.apart, c.lesser, c.is)
		}
	}
}

// How far two are from one another is at most MaxSize (chapter 1): by an apart
// of MaxSize no two sizes are too far.
func TestP7VoteTwoAsFarApartAsMayBe(t *testing.T) {
	for _, c := range []struct{ lesser, other int64 }{
		{-maxSize, maxSize},
		{-maxSize, 1},
		{-1, maxSize},
		{-maxSize + 1, maxSize},
		{-maxSize, maxSize - 1},
		{-500001, 500000},
	} {
		for _, l := range [][]impl.Reading{freshOnes(c.lesser, c.other), freshOnes(c.other, c.lesser)} {
			checkTwo(t, l, 3, maxSize, c.lesser, true)
			checkTwo(t, l, 3, maxSize-1, c.lesser, false)
			checkTwo(t, l, 3, 0, c.lesser, false)
			checkTwo(t, l, 3, -1, 0, false)
			checkTwo(t, l, 3, maxSize+1, 0, false)
		}
	}
}

// noAparts are past the limits of apart, up to the ends of int64.
func noAparts() []int64 {
	return []int64{-1, maxSize + 1, -2, -maxSize, 2 * maxSize, -1 << 32, 1 << 32, math.MinInt64, math.MinInt64 + 1, math.MaxInt64 - 1, math.MaxInt64}
}

func TestP7VoteTwoApartAtTheLimits(t *testing.T) {
	for _, a := range rightValues() {
		for _, b := range rightValues() {
			l := freshOnes(a, b)
			way := exactApart(a, b)
			for _, apart := range slices.Concat(noAparts(), []int64{0, 1, way - 1, way, way + 1, maxSize - 1, maxSize}) {
				checkTwoAsTold(t, l, 3, apart)
				checkTwoAsTold(t, l, -1, apart)
			}
		}
	}
}

func TestP7VoteTwoApartOutOfRange(t *testing.T) {
	for _, apart := range noAparts() {
		checkTwo(t, freshOnes(7, 7), 3, apart, 0, false)
		checkTwo(t, freshOnes(7, 8), 3, apart, 0, false)
		for _, stale := range notFresh(3) {
			checkTwo(t, []impl.Reading{reading(7, 0, true), stale}, 3, apart, 0, false)
			checkTwo(t, []impl.Reading{stale, reading(7, 0, true)}, 3, apart, 0, false)
			checkTwo(t, []impl.Reading{stale, stale}, 3, apart, 0, false)
		}
	}
}

// Of one alone it does not matter how far the other one, which has no vote, is
// from it.
func TestP7VoteTwoOfOneFresh(t *testing.T) {
	for _, value := range rightValues() {
		for _, stale := range notFresh(3) {
			for _, age := range []int64{0, 3} {
				for _, apart := range []int64{0, 2, maxSize} {
					checkTwo(t, []impl.Reading{reading(value, age, true), stale}, 3, apart, value, true)
					checkTwo(t, []impl.Reading{stale, reading(value, age, true)}, 3, apart, value, true)
				}
			}
		}
	}
}

func TestP7VoteTwoOfNoneFresh(t *testing.T) {
	for _, most := range []int64{-1, 0, 3, 999} {
		for _, a := range notFresh(most) {
			for _, b := range notFresh(most) {
				for _, apart := range []int64{0, 2, maxSize} {
					checkTwo(t, []impl.Reading{a, b}, most, apart, 0, false)
				}
			}
		}
	}
	checkTwo(t, make([]impl.Reading, 2), math.MaxInt64, maxSize, 0, false)
}

func TestP7VoteTwoByMost(t *testing.T) {
	for _, age := range rightAges() {
		for _, other := range rightAges() {
			l := []impl.Reading{reading(40, age, true), reading(36, other, true)}
			for _, most := range slices.Concat(mosts(age), mosts(other)) {
				for _, apart := range []int64{-1, 0, 3, 4, 5, maxSize, maxSize + 1} {
					checkTwoAsTold(t, l, most, apart)
				}
			}
		}
	}
}

func TestP7VoteTwoOfNotTwo(t *testing.T) {
	for _, most := range []int64{math.MinInt64, -1, 0, 3, maxAge, math.MaxInt64} {
		for _, apart := range []int64{-1, 0, 3, maxSize, maxSize + 1} {
			checkTwo(t, nil, most, apart, 0, false)
			for _, many := range []int{0, 1, 3, 4, 5, 6, 100, 1000} {
				checkTwo(t, slices.Repeat(freshOnes(9), many), most, apart, 0, false)
				checkTwo(t, make([]impl.Reading, many), most, apart, 0, false)
				checkTwo(t, slices.Repeat(freshOnes(9), 2+many)[:many], most, apart, 0, false)
			}
			checkTwo(t, append(freshOnes(1, 2), impl.Reading{}), most, apart, 0, false)
			checkTwo(t, append([]impl.Reading{{}}, freshOnes(1, 2)...), most, apart, 0, false)
			checkTwo(t, append(freshOnes(1, 2), badReadings()[0]), most, apart, 0, false)
		}
	}
}

func TestP7VoteTwoWhereOneIsNotRight(t *testing.T) {
	for _, bad := range badReadings() {
		for _, other := range []impl.Reading{reading(5, 0, true), reading(5, 900, true), {}, bad} {
			for _, most := range []int64{math.MinInt64, -1, 0, 3, maxAge, maxAge + 1, math.MaxInt64} {
				for _, apart := range []int64{-1, 0, 3, maxSize, maxSize + 1} {
					checkTwo(t, []impl.Reading{bad, other}, most, apart, 0, false)
					checkTwo(t, []impl.Reading{other, bad}, most, apart, 0, false)
				}
			}
		}
	}
}

// anyVoter is right and near Fresh mostly, so that each count of votes is met.
func anyVoter(source *rand.Rand) impl.Reading {
	if source.Intn(20) == 0 {
		return reading(anyLength(source), anyLength(source), source.Intn(4) > 0)
	}
	wide := []int64{1, 3, 20, maxSize}[source.Intn(4)]
	return reading(sizeWithin(source, wide), source.Int63n(6), source.Intn(6) > 0)
}

func TestP7AnyVote(t *testing.T) {
	source := rand.New(rand.NewSource(18))
	for range 50000 {
		var l []impl.Reading
		for range source.Intn(6) {
			l = append(l, anyVoter(source))
		}
		most, apart := source.Int63n(8)-1, source.Int63n(30)-1
		if source.Intn(10) == 0 {
			most, apart = anyLength(source), anyLength(source)
		}
		checkThreeAsTold(t, l, most)
		checkTwoAsTold(t, l, most, apart)
		if len(l) >= 3 {
			checkThreeAsTold(t, l[:3], most)
			checkTwoAsTold(t, l[:2], most, apart)
		}
	}
}

// checkLiar asks P7: whoever says what the liar says instead of one of the
// three, wherever it stands, the vote lies between the two others.
func checkLiar(t *testing.T, one, other, lie int64) {
	t.Helper()
	for place := range 3 {
		l := slices.Insert(freshOnes(one, other), place, reading(lie, 0, true))
		got, is := impl.VoteThree(l, 0)
		if !is || got < min(one, other) || got > max(one, other) {
			t.Errorf("VoteThree(%v, 0) = %d, %v, want one from %d to %d, and true", l, got, is, min(one, other), max(one, other))
		}
	}
}

// lies are sizes on both sides of each of the two others, between them, and at
// the limits.
func lies(one, other int64) []int64 {
	l := append(rightValues(), one/2+other/2)
	for _, value := range []int64{one, other} {
		for _, n := range []int64{value - 1, value, value + 1, -value} {
			if n >= -maxSize && n <= maxSize {
				l = append(l, n)
			}
		}
	}
	return l
}

func TestP7OneThatLiesDoesNotMoveTheVoteOut(t *testing.T) {
	values := append(rightValues(), 120, 121, 400, -400)
	for _, one := range values {
		for _, other := range values {
			for _, lie := range lies(one, other) {
				checkLiar(t, one, other, lie)
			}
		}
	}
}

// Where both others say the same, so does the vote, whatever the third one says.
func TestP7TwoAlikeAreTheVote(t *testing.T) {
	for _, value := range rightValues() {
		for lie := -maxSize; lie <= maxSize; lie += 997 {
			checkLiar(t, value, value, lie)
		}
	}
}

func TestP7OneThatLiesDoesNotMoveTheVoteOutAnywhere(t *testing.T) {
	source := rand.New(rand.NewSource(19))
	for range 20000 {
		wide := 1 + source.Int63n(maxSize)
		checkLiar(t, sizeWithin(source, wide), sizeWithin(source, wide), sizeWithin(source, maxSize))
	}
}

// TestP7TheListStaysAsItWas looks at the spare room behind the list too.
func TestP7TheListStaysAsItWas(t *testing.T) {
	rooms := [][]impl.Reading{
		freshOnes(9, 3, 6, 1, 0),
		freshOnes(3, 2, 1, 5, 4),
		{reading(9, 0, true), reading(-3, 7, true), reading(6, 2, true), reading(1, 1000, false), {}},
		{reading(9, 5, true), reading(3, 0, true), reading(1, 0, true), reading(2, 0, true), reading(0, 0, true)},
		slices.Clone(badReadings()[:5]),
	}
	for _, room := range rooms {
		was := slices.Clone(room)
		for n := range len(room) + 1 {
			for _, most := range []int64{-1, 0, 3, maxAge} {
				impl.VoteThree(room[:n], most)
				for _, apart := range []int64{-1, 0, 3, maxSize} {
					impl.VoteTwo(room[:n], most, apart)
				}
			}
		}
		if !slices.Equal(room, was) {
			t.Errorf("the list was %v, and is %v", was, room)
		}
	}
}
