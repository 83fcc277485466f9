package tests

import (
	"math"
	"math/rand"
	"slices"
	"testing"

	"loop.example/g00619/impl"
)

const (
	maxOut  = int64(1000)
	floor   = int64(100)
	failUp  = int64(5)
	sixFans = 6
)

func fan(n int64, on, out bool) impl.Fan {
	return impl.Fan{Low: impl.Bounce{N: n, On: on}, Out: out}
}

// fansOf has all Fans of one N: On or not, Out or not.
func fansOf(n int64) []impl.Fan {
	return []impl.Fan{fan(n, false, false), fan(n, true, false), fan(n, false, true), fan(n, true, true)}
}

func rightFans() []impl.Fan {
	var l []impl.Fan
	for n := range int64(101) {
		l = append(l, fansOf(n)...)
	}
	return l
}

func badFans() []impl.Fan {
	var l []impl.Fan
	for _, low := range badBounces() {
		l = append(l, impl.Fan{Low: low}, impl.Fan{Low: low, Out: true})
	}
	return l
}

// someFans are the Fans on both sides of each limit of N.
func someFans() []impl.Fan {
	var l []impl.Fan
	for _, n := range []int64{0, 1, 2, 4, 5, 6, 7, 99, 100} {
		l = append(l, fansOf(n)...)
	}
	return l
}

func belowFloor() []int64 { return []int64{0, 1, 2, 49, 50, 51, 98, 99} }

func fromFloor() []int64 { return []int64{100, 101, 102, 199, 200, 201, 399, 400, 998, 999, 1000} }

func noOuts() []int64 {
	return []int64{-1, 1001, -2, -100, -1000, 1002, maxSize, maxSize + 1, -1 << 32, 1 << 32, 1<<32 + 400, math.MinInt64, math.MinInt64 + 1, math.MaxInt64 - 1, math.MaxInt64}
}

// someTold are right: on both sides of what is Fresh, and of some halves.
func someTold() []impl.Reading {
	return readingsOf([]int64{-maxSize, -400, -1, 0, 1, 49, 50, 51, 99, 100, 199, 200, 499, 500, 1000, maxSize}, []int64{0, 1, 2, 3, 4, 5, maxAge})
}

// halfUp is the least Value that is not less than half of wanted, counted by
// single steps.
func halfUp(wanted int64) int64 {
	half := int64(0)
	for half+half < wanted {
		half++
	}
	return half
}

// wantTurns asks what is missing up to wanted, which may be no more than what
// was told.
func wantTurns(wanted int64, told impl.Reading) bool {
	return wantFresh(told, 3) && told.Value >= wanted-told.Value
}

func wantWatched(f impl.Fan, wanted int64, told impl.Reading) impl.Fan {
	_, right := wantAged(told)
	if !right || wanted < 0 || wanted > maxOut || f.Low.N < 0 || f.Low.N > 100 {
		return impl.Fan{}
	}
	if wanted >= floor {
		f.Low = wantFelt(f.Low, !wantTurns(wanted, told), failUp, failUp)
	}
	if f.Low.On {
		f.Out = true
	}
	return f
}

func checkFan(t *testing.T, f impl.Fan, want bool) {
	t.Helper()
	if got := impl.FanOk(f); got != want {
		t.Errorf("FanOk(%v) = %v, want %v", f, got, want)
	}
}

func checkWatched(t *testing.T, f impl.Fan, wanted int64, told impl.Reading, want impl.Fan) {
	t.Helper()
	if got := impl.Watched(f, wanted, told); got != want {
		t.Errorf("Watched(%v, %d, %v) = %v, want %v", f, wanted, told, got, want)
	}
}

// checkTurns asks by a Fan in the middle whether it goes up or down.
func checkTurns(t *testing.T, wanted int64, told impl.Reading, turns bool) {
	t.Helper()
	want := fan(3, false, false)
	if turns {
		want = fan(1, false, false)
	}
	checkWatched(t, fan(2, false, false), wanted, told, want)
}

func checkOutIn(t *testing.T, l []impl.Fan, want []int64) {
	t.Helper()
	if got := impl.OutIn(l); !slices.Equal(got, want) {
		t.Errorf("OutIn(%v) = %v, want %v", l, got, want)
	}
}

func TestP9Limits(t *testing.T) {
	if impl.MaxOut != maxOut || impl.Floor != floor || impl.FailUp != failUp {
		t.Errorf("MaxOut, Floor and FailUp = %d, %d and %d, want %d, %d and %d", impl.MaxOut, impl.Floor, impl.FailUp, maxOut, floor, failUp)
	}
}

func TestP9FanOk(t *testing.T) {
	for _, c := range []struct {
		n    int64
		want bool
	}{
		{-1, false},
		{0, true},
		{1, true},
		{5, true},
		{6, true},
		{99, true},
		{100, true},
		{101, false},
		{math.MinInt64, false},
		{math.MaxInt64, false},
	} {
		for _, f := range fansOf(c.n) {
			checkFan(t, f, c.want)
		}
	}
	checkFan(t, impl.Fan{}, true)
}

func TestP9FanOkOfAll(t *testing.T) {
	for _, f := range rightFans() {
		checkFan(t, f, true)
	}
	for _, f := range badFans() {
		checkFan(t, f, false)
	}
}

func TestP9WantedAtTheLimits(t *testing.T) {
	for _, c := range []struct {
		wanted       int64
		fresh, stale impl.Fan
	}{
		{math.MinInt64, impl.Fan{}, impl.Fan{}},
		{-1, impl.Fan{}, impl.Fan{}},
		{0, fan(2, false, false), fan(2, false, false)},
		{1, fan(2, false, false), fan(2, false, false)},
		{99, fan(2, false, false), fan(2, false, false)},
		{100, fan(1, false, false), fan(3, false, false)},
		{101, fan(1, false, false), fan(3, false, false)},
		{1000, fan(1, false, false), fan(3, false, false)},
		{1001, impl.Fan{}, impl.Fan{}},
		{math.MaxInt64, impl.Fan{}, impl.Fan{}},
	} {
		checkWatched(t, fan(2, false, false), c.wanted, reading(1000, 0, true), c.fresh)
		checkWatched(t, fan(2, false, false), c.wanted, reading(0, 0, true), c.stale)
		checkWatched(t, fan(2, false, false), c.wanted, reading(1000, 4, true), c.stale)
		checkWatched(t, fan(2, false, false), c.wanted, impl.Reading{}, c.stale)
	}
}

func TestP9ToldIsFresh(t *testing.T) {
	for _, wanted := range fromFloor() {
		for _, c := range []struct {
			age  int64
			want bool
		}{
			{0, true}, {1, true}, {2, true}, {3, true}, {4, false}, {5, false}, {maxAge - 1, false}, {maxAge, false},
		} {
			for _, value := range []int64{halfUp(wanted), wanted, maxOut, maxSize} {
				checkTurns(t, wanted, reading(value, c.age, true), c.want)
				checkTurns(t, wanted, reading(value, c.age, false), false)
			}
		}
	}
}

func TestP9ToldByHalf(t *testing.T) {
	for _, c := range []struct {
		wanted, value int64
		want          bool
	}{
		{100, 49, false}, {100, 50, true}, {100, 51, true},
		{101, 49, false}, {101, 50, false}, {101, 51, true}, {101, 52, true},
		{102, 50, false}, {102, 51, true},
		{103, 51, false}, {103, 52, true},
		{400, 199, false}, {400, 200, true}, {400, 201, true}, {400, 400, true}, {400, 401, true},
		{401, 199, false}, {401, 200, false}, {401, 201, true}, {401, 202, true},
		{999, 499, false}, {999, 500, true},
		{1000, 499, false}, {1000, 500, true}, {1000, 501, true}, {1000, 1001, true},
		{100, 0, false}, {100, 1, false}, {100, -1, false}, {100, -50, false}, {100, -100, false}, {100, -maxSize, false}, {100, maxSize, true},
		{1000, 0, false}, {1000, -1, false}, {1000, -500, false}, {1000, -1000, false}, {1000, -maxSize, false}, {1000, maxSize, true},
	} {
		for age := range int64(4) {
			checkTurns(t, c.wanted, reading(c.value, age, true), c.want)
			checkTurns(t, c.wanted, reading(c.value, age, false), false)
		}
		checkTurns(t, c.wanted, reading(c.value, 4, true), false)
	}
}

func TestP9ToldByHalfOfAllThatIsWanted(t *testing.T) {
	for wanted := floor; wanted <= maxOut; wanted++ {
		half := halfUp(wanted)
		for _, age := range []int64{0, 3} {
			checkTurns(t, wanted, reading(half-1, age, true), false)
			checkTurns(t, wanted, reading(half, age, true), true)
			checkTurns(t, wanted, reading(half+1, age, true), true)
		}
	}
}

func TestP9OnTheWayUpAndDown(t *testing.T) {
	for _, c := range []struct {
		n        int64
		on       bool
		up, down impl.Fan
	}{
		{0, false, fan(1, false, false), fan(0, false, false)},
		{1, false, fan(2, false, false), fan(0, false, false)},
		{2, false, fan(3, false, false), fan(1, false, false)},
		{3, false, fan(4, false, false), fan(2, false, false)},
		{4, false, fan(5, true, true), fan(3, false, false)},
		{5, false, fan(5, true, true), fan(4, false, false)},
		{6, false, fan(5, true, true), fan(5, false, false)},
		{7, false, fan(5, true, true), fan(5, false, false)},
		{50, false, fan(5, true, true), fan(5, false, false)},
		{100, false, fan(5, true, true), fan(5, false, false)},
		{0, true, fan(1, true, true), fan(0, false, false)},
		{1, true, fan(2, true, true), fan(0, false, false)},
		{2, true, fan(3, true, true), fan(1, true, true)},
		{4, true, fan(5, true, true), fan(3, true, true)},
		{5, true, fan(5, true, true), fan(4, true, true)},
		{6, true, fan(5, true, true), fan(5, true, true)},
		{7, true, fan(5, true, true), fan(5, true, true)},
		{100, true, fan(5, true, true), fan(5, true, true)},
	} {
		f := fan(c.n, c.on, false)
		checkWatched(t, f, 400, reading(199, 0, true), c.up)
		checkWatched(t, f, 400, impl.Reading{}, c.up)
		checkWatched(t, f, 400, reading(200, 0, true), c.down)
		f.Out, c.up.Out, c.down.Out = true, true, true
		checkWatched(t, f, 400, reading(199, 0, true), c.up)
		checkWatched(t, f, 400, reading(400, 4, true), c.up)
		checkWatched(t, f, 400, reading(200, 3, true), c.down)
	}
}

// Below Floor Low stays, N above FailUp too; and yet it is Out where it is On.
func TestP9BelowFloorItStays(t *testing.T) {
	for _, f := range rightFans() {
		want := fan(f.Low.N, f.Low.On, f.Out || f.Low.On)
		for _, wanted := range belowFloor() {
			for _, told := range []impl.Reading{{}, reading(0, 0, true), reading(wanted, 0, true), reading(1000, 3, true), reading(1000, 4, true), reading(-maxSize, maxAge, false)} {
				checkWatched(t, f, wanted, told, want)
			}
		}
	}
	checkWatched(t, fan(3, true, false), 0, impl.Reading{}, fan(3, true, true))
	checkWatched(t, fan(0, true, false), 99, reading(99, 0, true), fan(0, true, true))
	checkWatched(t, fan(100, false, false), 99, impl.Reading{}, fan(100, false, false))
}

func TestP9WatchedOfAllThatIsRight(t *testing.T) {
	for _, f := range rightFans() {
		for _, wanted := range slices.Concat(belowFloor(), fromFloor()) {
			for _, told := range someTold() {
				want := wantWatched(f, wanted, told)
				checkWatched(t, f, wanted, told, want)
				checkFan(t, want, true)
			}
		}
	}
}

func TestP9WatchedWhereTheFanIsNotRight(t *testing.T) {
	for _, f := range badFans() {
		for _, wanted := range slices.Concat(belowFloor(), fromFloor(), noOuts()) {
			for _, told := range []impl.Reading{{}, reading(0, 0, true), reading(wanted, 0, true), reading(1000, 4, true), reading(0, -1, true)} {
				checkWatched(t, f, wanted, told, impl.Fan{})
			}
		}
	}
}

func TestP9WatchedWhereWantedIsNotRight(t *testing.T) {
	for _, wanted := range noOuts() {
		for _, f := range someFans() {
			for _, told := range []impl.Reading{{}, reading(0, 0, true), reading(1000, 0, true), reading(maxSize, 3, true), reading(1000, 4, true), reading(0, -1, true)} {
				checkWatched(t, f, wanted, told, impl.Fan{})
			}
		}
	}
}

// Below Floor nothing is asked of what was told, and yet it has to be right.
func TestP9WatchedWhereToldIsNotRight(t *testing.T) {
	for _, told := range badReadings() {
		for _, f := range someFans() {
			for _, wanted := range []int64{0, 99, 100, 101, 1000} {
				checkWatched(t, f, wanted, told, impl.Fan{})
			}
		}
	}
}

func TestP9WatchedAnywhere(t *testing.T) {
	source := rand.New(rand.NewSource(22))
	for range 50000 {
		f := fan(source.Int63n(101), source.Intn(2) == 0, source.Intn(2) == 0)
		wanted := source.Int63n(maxOut + 1)
		told := reading(sizeWithin(source, 1000), source.Int63n(7), source.Intn(5) > 0)
		switch source.Intn(10) {
		case 0:
			f.Low.N = anyLength(source)
		case 1:
			wanted = anyLength(source)
		case 2:
			told.Value = anyLength(source)
		case 3:
			told.Age = anyLength(source)
		}
		checkWatched(t, f, wanted, told, wantWatched(f, wanted, told))
	}
}

// outs tells by the bits of a number which Fans are Out. A Low that is On does
// not make one so, nor does one that is not On keep it from it.
func outs(n, bits int) (l []impl.Fan, out []int64) {
	for i := range n {
		is := bits>>i&1 == 1
		l = append(l, fan(int64(i*20), i%2 == 0, is))
		if is {
			out = append(out, int64(i))
		}
	}
	return l, out
}

func TestP9OutIn(t *testing.T) {
	in, out := impl.Fan{}, fan(5, true, true)
	checkOutIn(t, nil, nil)
	checkOutIn(t, []impl.Fan{}, nil)
	checkOutIn(t, []impl.Fan{in}, nil)
	checkOutIn(t, []impl.Fan{out}, []int64{0})
	checkOutIn(t, []impl.Fan{in, out}, []int64{1})
	checkOutIn(t, []impl.Fan{in, out, in, out}, []int64{1, 3})
	checkOutIn(t, []impl.Fan{fan(5, true, false)}, nil)
	checkOutIn(t, []impl.Fan{fan(0, false, true)}, []int64{0})
	checkOutIn(t, []impl.Fan{fan(100, false, true), in, fan(100, true, false), in, in, out}, []int64{0, 5})
	checkOutIn(t, slices.Repeat([]impl.Fan{in}, 6), nil)
	checkOutIn(t, slices.Repeat([]impl.Fan{out}, 6), []int64{0, 1, 2, 3, 4, 5})
}

func TestP9OutInInEveryWay(t *testing.T) {
	for n := range sixFans + 1 {
		for bits := range 1 << n {
			l, want := outs(n, bits)
			checkOutIn(t, l, want)
		}
	}
}

func TestP9OutInOfMoreThanSix(t *testing.T) {
	for _, n := range []int{7, 8, 12, 63, 10000} {
		for _, f := range fansOf(3) {
			checkOutIn(t, slices.Repeat([]impl.Fan{f}, n), nil)
		}
	}
	for bits := range 1 << 7 {
		l, _ := outs(7, bits)
		checkOutIn(t, l, nil)
	}
}

func TestP9OutInWhereOneIsNotRight(t *testing.T) {
	for _, bad := range badFans() {
		checkOutIn(t, []impl.Fan{bad}, nil)
		for n := 1; n <= 7; n++ {
			for place := range n {
				for _, bits := range []int{0, 1<<n - 1, 0b101010, 0b010101} {
					l, _ := outs(n, bits)
					l[place] = bad
					checkOutIn(t, l, nil)
				}
			}
		}
	}
}

// TestP9TheListStaysAsItWas looks at the spare room behind the list too, and
// writes over all of each answer.
func TestP9TheListStaysAsItWas(t *testing.T) {
	for bits := range 1 << 8 {
		room, _ := outs(8, bits)
		if bits%3 == 0 {
			room[bits%8].Low.N = 101
		}
		was := slices.Clone(room)
		for n := range len(room) + 1 {
			got := impl.OutIn(room[:n])
			clear(got[:cap(got)])
		}
		if !slices.Equal(room, was) {
			t.Errorf("the list was %v, and is %v", was, room)
		}
	}
}

// writeOver changes all of an answer, and the spare room behind it.
func writeOver(l []int64) {
	l = l[:cap(l)]
	for i := range l {
		l[i] = -7
	}
}

func TestP9OutInSharesNoMemory(t *testing.T) {
	for bits := range 1 << sixFans {
		l, want := outs(sixFans, bits)
		one, other := impl.OutIn(l), impl.OutIn(l)
		writeOver(one)
		clear(l)
		if !slices.Equal(other, want) {
			t.Errorf("one answer and what was given were changed, and the other answer is %v, want %v", other, want)
		}
		again, _ := outs(sixFans, bits)
		checkOutIn(t, again, want)
	}
}

// A fan that is well is told fresh, and at least half of what is wanted.
func TestP9OneThatIsWellIsNeverGivenUp(t *testing.T) {
	for wanted := range maxOut + 1 {
		for age := range int64(4) {
			f := impl.Fan{}
			for range 30 {
				f = impl.Watched(f, wanted, reading(halfUp(wanted), age, true))
			}
			if f != (impl.Fan{}) {
				t.Errorf("told half of %d each time, %d old, it is %v", wanted, age, f)
			}
		}
	}
}

func TestP9OneThatIsWellIsNeverGivenUpHoweverLong(t *testing.T) {
	source := rand.New(rand.NewSource(23))
	f := impl.Fan{}
	for tick := range 100000 {
		wanted := source.Int63n(maxOut + 1)
		value := halfUp(wanted)
		if source.Intn(2) == 0 {
			value += source.Int63n(maxOut)
		}
		told := reading(value, source.Int63n(4), true)
		f = impl.Watched(f, wanted, told)
		if f != (impl.Fan{}) {
			t.Fatalf("at tick %d, %d was wanted, and it was told %v: it is %v", tick, wanted, told, f)
		}
	}
}

// standing are what may be told of a fan that stands, or of which nothing is
// heard.
func standing() []impl.Reading {
	return []impl.Reading{reading(0, 0, true), reading(0, 3, true), reading(0, 4, true), reading(-5, 0, true), reading(1000, 4, true), reading(maxSize, maxAge, true), {}, reading(1000, 0, false), reading(1000, 7, false)}
}

func TestP9OneThatStandsIsGivenUpInFailUpTicks(t *testing.T) {
	for wanted := floor; wanted <= maxOut; wanted++ {
		for _, told := range standing() {
			f := impl.Fan{}
			for tick := int64(1); tick <= 3*failUp; tick++ {
				f = impl.Watched(f, wanted, told)
				if want := fan(min(tick, failUp), tick >= failUp, tick >= failUp); f != want {
					t.Errorf("wanted %d and told %v %d times it is %v, want %v", wanted, told, tick, f, want)
				}
			}
		}
	}
}

// Whatever is told and wanted of those may change from tick to tick; ticks in
// which it is not wanted neither help it nor harm it.
func TestP9OneThatStandsIsGivenUpHoweverItIsTold(t *testing.T) {
	source := rand.New(rand.NewSource(24))
	for range 5000 {
		f, wantedFor := impl.Fan{}, int64(0)
		for wantedFor < failUp {
			if f.Out {
				t.Fatalf("it stood for %d ticks in which it was wanted, and is %v", wantedFor, f)
			}
			wanted := source.Int63n(maxOut + 1)
			if wanted >= floor {
				wantedFor++
			}
			f = impl.Watched(f, wanted, standing()[source.Intn(len(standing()))])
		}
		if !f.Out {
			t.Fatalf("it stood for %d ticks in which it was wanted, and is %v", wantedFor, f)
		}
	}
}

// From every right Fan on FailUp ticks are enough.
func TestP9FailUpTicksAreEnoughForEachFan(t *testing.T) {
	for _, first := range rightFans() {
		for _, told := range standing() {
			f := first
			for range failUp {
				f = impl.Watched(f, 100, told)
			}
			if f != fan(failUp, true, true) {
				t.Errorf("%v, told %v %d times, is %v", first, told, failUp, f)
			}
		}
	}
}

// A tick that is well takes one away of those that are not: four are too few,
// and as many of both are never enough.
func TestP9NotAtTheFirstSign(t *testing.T) {
	well, ill := reading(400, 0, true), reading(0, 0, true)
	f := impl.Fan{}
	for range 200 {
		for range failUp - 1 {
			f = impl.Watched(f, 400, ill)
		}
		if f != fan(failUp-1, false, false) {
			t.Fatalf("told 0 %d times it is %v", failUp-1, f)
		}
		for range failUp - 1 {
			f = impl.Watched(f, 400, well)
		}
		if f != (impl.Fan{}) {
			t.Fatalf("told 400 %d times behind it, it is %v", failUp-1, f)
		}
	}
}

func TestP9OneThatIsOutStaysSo(t *testing.T) {
	for n := range int64(101) {
		for _, f := range []impl.Fan{fan(n, false, true), fan(n, true, true)} {
			for _, wanted := range slices.Concat(belowFloor(), fromFloor()) {
				for _, told := range someTold() {
					if got := impl.Watched(f, wanted, told); !got.Out {
						t.Errorf("Watched(%v, %d, %v) = %v, which is not Out", f, wanted, told, got)
					}
				}
			}
		}
	}
}

// Long behind it is well again its Low is not On any more, and it is Out.
func TestP9OneThatIsOutStaysSoBehindWhateverComes(t *testing.T) {
	f := fan(failUp, true, true)
	for tick := int64(1); tick <= 1000; tick++ {
		f = impl.Watched(f, 400, reading(400, 0, true))
		if want := fan(max(failUp-tick, 0), tick < failUp, true); f != want {
			t.Fatalf("Out, and well for %d ticks, it is %v, want %v", tick, f, want)
		}
	}
	source := rand.New(rand.NewSource(25))
	for tick := range 50000 {
		told := reading(sizeWithin(source, 1000), source.Int63n(6), source.Intn(4) > 0)
		if source.Intn(10) == 0 {
			told = reading(sizeWithin(source, maxSize), source.Int63n(maxAge+1), source.Intn(2) == 0)
		}
		f = impl.Watched(f, source.Int63n(maxOut+1), told)
		if !f.Out || !impl.FanOk(f) {
			t.Fatalf("at tick %d it is %v, which was Out", tick, f)
		}
	}
}
