package tests

import (
	"math"
	"math/rand"
	"slices"
	"testing"

	"loop.example/g00619/impl"
)

// noTimes are below 1 or above 100, up to the ends of int64.
func noTimes() []int64 {
	return []int64{0, -1, 101, 102, -100, 1000, maxSize, 1 << 32, 1<<32 + 1, -1 << 32, math.MaxInt64, math.MaxInt64 - 1, math.MinInt64, math.MinInt64 + 1}
}

func badBounces() []impl.Bounce {
	var l []impl.Bounce
	for _, n := range []int64{-1, -2, 101, 102, -100, 1 << 32, 1<<32 + 1, -1 << 32, math.MaxInt64, math.MinInt64} {
		l = append(l, impl.Bounce{N: n}, impl.Bounce{N: n, On: true})
	}
	return l
}

// signs writes a list as a text, + for what was felt.
func signs(text string) []bool {
	var l []bool
	for _, c := range text {
		l = append(l, c == '+')
	}
	return l
}

func times(n int, is bool) []bool { return slices.Repeat([]bool{is}, n) }

// wantFelt counts by single steps instead of cutting to a range, as the program does.
func wantFelt(b impl.Bounce, is bool, up, down int64) impl.Bounce {
	if is {
		n := b.N + 1
		for n > up {
			n--
		}
		return impl.Bounce{N: n, On: b.On || n == up}
	}
	n := b.N
	if n > 0 {
		n--
	}
	for n > down {
		n--
	}
	return impl.Bounce{N: n, On: b.On && n > 0}
}

func wantFeltAll(b impl.Bounce, l []bool, up, down int64) impl.Bounce {
	for _, is := range l {
		b = wantFelt(b, is, up, down)
	}
	return b
}

func checkFeltAll(t *testing.T, b impl.Bounce, l []bool, up, down int64, want impl.Bounce) {
	t.Helper()
	if got := impl.FeltAll(b, l, up, down); got != want {
		t.Errorf("FeltAll(%v, %d of %v, %d, %d) = %v, want %v", b, len(l), l, up, down, got, want)
	}
}

// checkFelt asks one sign in both ways: alone, and as a list of one.
func checkFelt(t *testing.T, b impl.Bounce, is bool, up, down int64, want impl.Bounce) {
	t.Helper()
	if got := impl.Felt(b, is, up, down); got != want {
		t.Errorf("Felt(%v, %v, %d, %d) = %v, want %v", b, is, up, down, got, want)
	}
	checkFeltAll(t, b, []bool{is}, up, down, want)
}

func TestP3BounceOk(t *testing.T) {
	for n := int64(0); n <= 100; n++ {
		for _, on := range []bool{false, true} {
			if b := (impl.Bounce{N: n, On: on}); !impl.BounceOk(b) {
				t.Errorf("BounceOk(%v) = false, want true", b)
			}
		}
	}
	for _, b := range badBounces() {
		if impl.BounceOk(b) {
			t.Errorf("BounceOk(%v) = true, want false", b)
		}
	}
}

func TestP3FeltOnTheWayUpAndDown(t *testing.T) {
	for _, c := range []struct {
		n        int64
		on, is   bool
		up, down int64
		want     impl.Bounce
	}{
		{0, false, true, 3, 3, impl.Bounce{N: 1}},
		{1, false, true, 3, 3, impl.Bounce{N: 2}},
		{2, false, true, 3, 3, impl.Bounce{N: 3, On: true}},
		{3, true, true, 3, 3, impl.Bounce{N: 3, On: true}},
		{3, true, false, 3, 3, impl.Bounce{N: 2, On: true}},
		{2, true, false, 3, 3, impl.Bounce{N: 1, On: true}},
		{1, true, false, 3, 3, impl.Bounce{}},
		{0, false, false, 3, 3, impl.Bounce{}},
		{1, true, true, 3, 3, impl.Bounce{N: 2, On: true}},
		{0, true, true, 3, 3, impl.Bounce{N: 1, On: true}},
		{0, true, false, 3, 3, impl.Bounce{}},
		{2, false, false, 3, 3, impl.Bounce{N: 1}},
		{1, false, false, 3, 3, impl.Bounce{}},
		{3, false, true, 3, 3, impl.Bounce{N: 3, On: true}},
		{3, false, false, 3, 3, impl.Bounce{N: 2}},
	} {
		checkFelt(t, impl.Bounce{N: c.n, On: c.on}, c.is, c.up, c.down, c.want)
	}
}

func TestP3FeltAtTheLimits(t *testing.T) {
	for _, c := range []struct {
		n        int64
		on, is   bool
		up, down int64
		want     impl.Bounce
	}{
		{0, false, true, 1, 1, impl.Bounce{N: 1, On: true}},
		{1, true, true, 1, 1, impl.Bounce{N: 1, On: true}},
		{1, true, false, 1, 1, impl.Bounce{}},
		{0, false, true, 1, 100, impl.Bounce{N: 1, On: true}},
		{0, false, true, 100, 1, impl.Bounce{N: 1}},
		{98, false, true, 100, 100, impl.Bounce{N: 99}},
		{99, false, true, 100, 100, impl.Bounce{N: 100, On: true}},
		{100, false, true, 100, 100, impl.Bounce{N: 100, On: true}},
		{100, true, true, 100, 100, impl.Bounce{N: 100, On: true}},
		{100, true, false, 100, 100, impl.Bounce{N: 99, On: true}},
		{100, false, false, 100, 100, impl.Bounce{N: 99}},
		{100, true, false, 100, 99, impl.Bounce{N: 99, On: true}},
		{100, true, false, 100, 98, impl.Bounce{N: 98, On: true}},
		{100, true, false, 100, 1, impl.Bounce{N: 1, On: true}},
		{100, true, true, 1, 100, impl.Bounce{N: 1, On: true}},
		{100, false, true, 1, 1, impl.Bounce{N: 1, On: true}},
		{100, false, true, 99, 1, impl.Bounce{N: 99, On: true}},
		{100, false, false, 1, 100, impl.Bounce{N: 99}},
	} {
		checkFelt(t, impl.Bounce{N: c.n, On: c.on}, c.is, c.up, c.down, c.want)
	}
}

func TestP3FeltAboveUpAndAboveDown(t *testing.T) {
	for _, c := range []struct {
		n    int64
		on   bool
		is   bool
		want impl.Bounce
	}{
		{5, false, true, impl.Bounce{N: 5, On: true}},
		{6, false, true, impl.Bounce{N: 5, On: true}},
		{50, false, true, impl.Bounce{N: 5, On: true}},
		{50, true, true, impl.Bounce{N: 5, On: true}},
		{6, false, false, impl.Bounce{N: 3}},
		{5, true, false, impl.Bounce{N: 3, On: true}},
		{4, true, false, impl.Bounce{N: 3, On: true}},
		{3, true, false, impl.Bounce{N: 2, On: true}},
		{50, true, false, impl.Bounce{N: 3, On: true}},
		{50, false, false, impl.Bounce{N: 3}},
	} {
		checkFelt(t, impl.Bounce{N: c.n, On: c.on}, c.is, 5, 3, c.want)
	}
}

// TestP3FeltOfAllThatIsRight goes through every N, On and sign; up and down are at and beside N and the limits.
func TestP3FeltOfAllThatIsRight(t *testing.T) {
	for n := int64(0); n <= 100; n++ {
		for _, up := range []int64{1, 2, n - 1, n, n + 1, n + 2, 99, 100} {
			for _, down := range []int64{1, 2, n - 2, n - 1, n, n + 1, 99, 100} {
				if up < 1 || up > 100 || down < 1 || down > 100 {
					continue
				}
				for _, on := range []bool{false, true} {
					b := impl.Bounce{N: n, On: on}
					checkFelt(t, b, true, up, down, wantFelt(b, true, up, down))
					checkFelt(t, b, false, up, down, wantFelt(b, false, up, down))
				}
			}
		}
	}
}

func TestP3FeltOutOfRangeIsTheZeroBounce(t *testing.T) {
	for _, b := range badBounces() {
		for _, n := range []int64{1, 3, 100, 0, 101} {
			checkFelt(t, b, true, n, 3, impl.Bounce{})
			checkFelt(t, b, false, n, 3, impl.Bounce{})
			checkFelt(t, b, true, 3, n, impl.Bounce{})
			checkFelt(t, b, false, 3, n, impl.Bounce{})
		}
	}
	for _, b := range []impl.Bounce{{}, {N: 2}, {N: 2, On: true}, {N: 100, On: true}} {
		for _, bad := range noTimes() {
			for _, is := range []bool{false, true} {
				checkFelt(t, b, is, bad, 3, impl.Bounce{})
				checkFelt(t, b, is, 3, bad, impl.Bounce{})
				checkFelt(t, b, is, bad, bad, impl.Bounce{})
			}
		}
	}
}

func TestP3FeltAll(t *testing.T) {
	for _, c := range []struct {
		b    impl.Bounce
		l    string
		want impl.Bounce
	}{
		{impl.Bounce{}, "+", impl.Bounce{N: 1}},
		{impl.Bounce{}, "-", impl.Bounce{}},
		{impl.Bounce{}, "++-+", impl.Bounce{N: 2}},
		{impl.Bounce{}, "++-++", impl.Bounce{N: 3, On: true}},
		{impl.Bounce{}, "+-+-+-+-", impl.Bounce{}},
		{impl.Bounce{}, "+++", impl.Bounce{N: 3, On: true}},
		{impl.Bounce{}, "+++++", impl.Bounce{N: 3, On: true}},
		{impl.Bounce{}, "+++--", impl.Bounce{N: 1, On: true}},
		{impl.Bounce{}, "+++--+", impl.Bounce{N: 2, On: true}},
		{impl.Bounce{}, "+++---", impl.Bounce{}},
		{impl.Bounce{}, "+++---++", impl.Bounce{N: 2}},
		{impl.Bounce{}, "+++---+++", impl.Bounce{N: 3, On: true}},
		{impl.Bounce{N: 9}, "-", impl.Bounce{N: 2}},
		{impl.Bounce{N: 9}, "-+", impl.Bounce{N: 3, On: true}},
		{impl.Bounce{N: 9, On: true}, "--", impl.Bounce{N: 1, On: true}},
		{impl.Bounce{N: 9, On: true}, "---", impl.Bounce{}},
	} {
		checkFeltAll(t, c.b, signs(c.l), 3, 2, c.want)
	}
}

// TestP3FeltAllOfNothing has N above up and down, which stays, since nothing was felt.
func TestP3FeltAllOfNothing(t *testing.T) {
	for _, l := range [][]bool{nil, {}} {
		for n := int64(0); n <= 100; n++ {
			for _, on := range []bool{false, true} {
				b := impl.Bounce{N: n, On: on}
				checkFeltAll(t, b, l, 1, 1, b)
				checkFeltAll(t, b, l, 100, 100, b)
			}
		}
		for _, b := range badBounces() {
			checkFeltAll(t, b, l, 3, 3, impl.Bounce{})
		}
		for _, bad := range noTimes() {
			checkFeltAll(t, impl.Bounce{N: 2, On: true}, l, bad, 3, impl.Bounce{})
			checkFeltAll(t, impl.Bounce{N: 2, On: true}, l, 3, bad, impl.Bounce{})
		}
	}
}

func TestP3FeltAllOfAsManyAsThereMayBe(t *testing.T) {
	for _, is := range []bool{false, true} {
		for _, b := range []impl.Bounce{{}, {N: 50}, {N: 100, On: true}} {
			for _, n := range []int{1, 99, 100, 101, 199, 200} {
				l := times(n, is)
				checkFeltAll(t, b, l, 100, 100, wantFeltAll(b, l, 100, 100))
				checkFeltAll(t, b, l, 1, 1, wantFeltAll(b, l, 1, 1))
			}
			for _, n := range []int{201, 202, 400, 100000} {
				checkFeltAll(t, b, times(n, is), 100, 100, impl.Bounce{})
				checkFeltAll(t, b, times(n, is), 1, 1, impl.Bounce{})
			}
		}
	}
	checkFeltAll(t, impl.Bounce{}, append(times(199, false), true), 1, 1, impl.Bounce{N: 1, On: true})
	checkFeltAll(t, impl.Bounce{}, append(times(200, false), true), 1, 1, impl.Bounce{})
}

func TestP3FeltAllOutOfRangeIsTheZeroBounce(t *testing.T) {
	for _, n := range []int{1, 5, 200, 201} {
		for _, b := range badBounces() {
			checkFeltAll(t, b, times(n, true), 3, 3, impl.Bounce{})
			checkFeltAll(t, b, times(n, false), 3, 3, impl.Bounce{})
		}
		for _, bad := range noTimes() {
			checkFeltAll(t, impl.Bounce{N: 9, On: true}, times(n, true), bad, 3, impl.Bounce{})
			checkFeltAll(t, impl.Bounce{N: 9, On: true}, times(n, true), 3, bad, impl.Bounce{})
			checkFeltAll(t, impl.Bounce{N: 9, On: true}, times(n, false), bad, 3, impl.Bounce{})
			checkFeltAll(t, impl.Bounce{N: 9, On: true}, times(n, false), 3, bad, impl.Bounce{})
		}
	}
}

// anySigns has runs of every length, since evenly drawn signs almost never come far from 0.
func anySigns(source *rand.Rand) []bool {
	var l []bool
	for n := source.Intn(201); len(l) < n; {
		l = append(l, times(min(n-len(l), 1+source.Intn(1<<source.Intn(8))), source.Intn(2) == 0)...)
	}
	return l
}

func timesWithin(source *rand.Rand) int64 { return 1 + source.Int63n(1+source.Int63n(100)) }

// TestP3AllAtOnceIsOneAfterTheOther also cuts each list in two.
func TestP3AllAtOnceIsOneAfterTheOther(t *testing.T) {
	source := rand.New(rand.NewSource(4))
	for range 5000 {
		b := impl.Bounce{N: source.Int63n(101), On: source.Intn(2) == 0}
		l, up, down := anySigns(source), timesWithin(source), timesWithin(source)
		want := b
		for _, is := range l {
			want = impl.Felt(want, is, up, down)
			if !impl.BounceOk(want) {
				t.Errorf("Felt of %v in %v, %d, %d is %v, which is not right", b, l, up, down, want)
			}
		}
		checkFeltAll(t, b, l, up, down, want)
		if counted := wantFeltAll(b, l, up, down); counted != want {
			t.Errorf("Felt one after the other of %v in %v, %d, %d is %v, want %v", b, l, up, down, want, counted)
		}
		cut := source.Intn(len(l) + 1)
		checkFeltAll(t, impl.FeltAll(b, l[:cut], up, down), l[cut:], up, down, want)
	}
}

// checkNotAtTheFirstSign asks P3 of a list that begins from nothing.
func checkNotAtTheFirstSign(t *testing.T, l []bool, up, down int64) {
	t.Helper()
	got := impl.FeltAll(impl.Bounce{}, l, up, down)
	felt, atTheEnd := int64(0), int64(0)
	for _, is := range l {
		if is {
			felt++
			atTheEnd++
		} else {
			atTheEnd = 0
		}
	}
	if got.On && felt < up {
		t.Errorf("FeltAll({}, %v, %d, %d) is On, but was felt %d times in all", l, up, down, felt)
	}
	if !got.On && atTheEnd >= up {
		t.Errorf("FeltAll({}, %v, %d, %d) is not On, but was felt %d times at the end", l, up, down, atTheEnd)
	}
}

func TestP3NotAtTheFirstSignInEveryShortList(t *testing.T) {
	for n := range 11 {
		for bits := range 1 << n {
			l := make([]bool, n)
			for i := range l {
				l[i] = bits>>i&1 == 1
			}
			for up := int64(1); up <= 5; up++ {
				for down := int64(1); down <= 5; down++ {
					checkNotAtTheFirstSign(t, l, up, down)
				}
			}
		}
	}
}

func TestP3NotAtTheFirstSignAnywhere(t *testing.T) {
	source := rand.New(rand.NewSource(5))
	for range 5000 {
		checkNotAtTheFirstSign(t, anySigns(source), timesWithin(source), timesWithin(source))
	}
}

func TestP3JustUpTimes(t *testing.T) {
	for up := int64(1); up <= 100; up++ {
		for _, down := range []int64{1, 2, up, 100} {
			for _, ahead := range []int{0, 1, 100} {
				almost := append(times(ahead, false), times(int(up)-1, true)...)
				checkFeltAll(t, impl.Bounce{}, almost, up, down, impl.Bounce{N: up - 1})
				checkFeltAll(t, impl.Bounce{}, append(almost, true), up, down, impl.Bounce{N: up, On: true})
				checkNotAtTheFirstSign(t, append(almost, false), up, down)
			}
		}
	}
}

// TestP3TheListStaysAsItWas looks at the spare room behind the list too.
func TestP3TheListStaysAsItWas(t *testing.T) {
	source := rand.New(rand.NewSource(6))
	for _, n := range []int{0, 1, 2, 7, 199, 200, 201, 300} {
		room := make([]bool, n+3)
		for i := range room {
			room[i] = source.Intn(2) == 0
		}
		before := slices.Clone(room)
		for _, up := range []int64{0, 1, 3, 100, 101} {
			impl.FeltAll(impl.Bounce{}, room[:n], up, 3)
			impl.FeltAll(impl.Bounce{N: 50, On: true}, room[:n], 3, up)
			impl.FeltAll(impl.Bounce{N: 101}, room[:n], up, 3)
		}
		if !slices.Equal(room, before) {
			t.Errorf("the list of %d was %v, and is %v", n, before, room)
		}
	}
}
