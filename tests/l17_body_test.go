package tests

import (
	"math"
	"math/rand"
	"slices"
	"testing"

	"loop.example/g00619/impl"
)

const (
	maxHeight = int64(2000)
	maxRise   = int64(50)
	maxSpeed  = int64(400)
)

func body(height, rise, speed int64) impl.Body {
	return impl.Body{Height: height, Rise: rise, Speed: speed}
}

// bodyNumber tells where one of the three numbers of a Body is, and its limits.
type bodyNumber struct {
	name      string
	of        func(b *impl.Body) *int64
	low, high int64
}

func bodyNumbers() []bodyNumber {
	return []bodyNumber{
		{"Height", func(b *impl.Body) *int64 { return &b.Height }, 0, maxHeight},
		{"Rise", func(b *impl.Body) *int64 { return &b.Rise }, -maxRise, maxRise},
		{"Speed", func(b *impl.Body) *int64 { return &b.Speed }, 0, maxSpeed},
	}
}

// rightBodies are at all limits, just within them, and somewhere between.
func rightBodies() (all []impl.Body) {
	for _, height := range []int64{0, 1, 30, 100, 1950, maxHeight - 1, maxHeight} {
		for _, rise := range []int64{-maxRise, -maxRise + 1, -21, -20, -1, 0, 1, 5, maxRise - 1, maxRise} {
			for _, speed := range []int64{0, 1, 99, 100, 101, 250, 299, 300, 301, maxSpeed - 1, maxSpeed} {
				all = append(all, body(height, rise, speed))
			}
		}
	}
	return all
}

// badBodies are not right in one of their numbers, and two are not in any.
func badBodies() (all []impl.Body) {
	for _, good := range []impl.Body{{}, body(100, 5, 50), body(100, -30, 50), body(0, -maxRise, 0), body(maxHeight, maxRise, maxSpeed)} {
		for _, number := range bodyNumbers() {
			for _, n := range []int64{number.low - 1, number.high + 1, math.MinInt64, math.MinInt64 + 1, math.MaxInt64 - 1, math.MaxInt64, 1 << 32, 1<<32 + 7, -1 << 32, number.low - 256, number.high + 256, -maxSize, maxSize} {
				b := good
				*number.of(&b) = n
				all = append(all, b)
			}
		}
	}
	return append(all, body(math.MinInt64, math.MinInt64, math.MinInt64), body(math.MaxInt64, math.MaxInt64, math.MaxInt64))
}

func wantBody(b impl.Body) bool {
	return b.Height >= 0 && b.Height <= maxHeight && b.Rise >= -maxRise && b.Rise <= maxRise && b.Speed >= 0 && b.Speed <= maxSpeed
}

// wantWings goes by each one that it is faster than 100.
func wantWings(speed int64) (lift int64) {
	for n := int64(101); n <= min(speed, 300); n++ {
		lift += 30
	}
	return lift
}

// wantRisen takes 300 away as long as there are as many, on either side of 3000.
func wantRisen(lift int64) (rise int64) {
	for ; lift >= 3300; lift -= 300 {
		rise++
	}
	for ; lift <= 2700; lift += 300 {
		rise--
	}
	return rise
}

// wantPushed goes one by one.
func wantPushed(speed, push int64) int64 {
	to := (2*push - 2*push%5) / 5
	for range 10 {
		if speed < to {
			speed++
		} else if speed > to {
			speed--
		}
	}
	return speed
}

func wantMoved(b impl.Body, outs []int64, gust int64) impl.Body {
	if !wantBody(b) || len(outs) != sevenOuts || !areOuts(outs) {
		return impl.Body{}
	}
	lift := wantWings(b.Speed)
	for _, n := range outs[:sixFans] {
		lift += n
	}
	rise := within(b.Rise+wantRisen(lift)+within(gust, -3, 3), -maxRise, maxRise)
	height := within(b.Height+rise, 0, maxHeight)
	if height == 0 && rise < 0 {
		rise = 0
	}
	return body(height, rise, wantPushed(b.Speed, outs[sixFans]))
}

func checkBody(t *testing.T, b impl.Body, want bool) {
	t.Helper()
	if got := impl.BodyOk(b); got != want {
		t.Errorf("BodyOk(%+v) = %v, want %v", b, got, want)
	}
}

func checkMoved(t *testing.T, b impl.Body, outs []int64, gust int64, want impl.Body) {
	t.Helper()
	if got := impl.Moved(b, outs, gust); got != want {
		t.Errorf("Moved(%+v, %v, %d) = %+v, want %+v", b, outs, gust, got, want)
	}
}

func checkMovedAsTold(t *testing.T, b impl.Body, outs []int64, gust int64) {
	t.Helper()
	checkMoved(t, b, outs, gust, wantMoved(b, outs, gust))
}

func checkFalls(t *testing.T, b impl.Body, want bool) {
	t.Helper()
	if got := impl.Falls(b); got != want {
		t.Errorf("Falls(%+v) = %v, want %v", b, got, want)
	}
}

// alone are Outs of one fan, and the push.
func alone(place int, n, push int64) []int64 {
	l := sixAnd(0, push)
	l[place] = n
	return l
}

// together are Outs of six fans that come to that lift: the first ones have as
// much as they can, the next one what is left.
func together(lift, push int64) []int64 {
	l := sixAnd(0, push)
	for i := range sixFans {
		l[i] = min(lift, maxOut)
		lift -= l[i]
	}
	return l
}

// spread are the same, where all six have about as much.
func spread(lift, push int64) []int64 {
	l := sixAnd(lift/sixFans, push)
	for i := range lift % sixFans {
		l[i]++
	}
	return l
}

func gusts() []int64 {
	return []int64{-4, -3, -2, -1, 0, 1, 2, 3, 4, -100, 100, -maxSize - 1, maxSize + 1, 1 << 32, 1<<32 + 1, -1<<32 + 1, math.MinInt64, math.MinInt64 + 1, math.MaxInt64 - 1, math.MaxInt64}
}

func TestP17BodyAtTheLimits(t *testing.T) {
	checkBody(t, impl.Body{}, true)
	checkBody(t, body(100, 5, 50), true)
	checkBody(t, body(0, -50, 0), true)
	checkBody(t, body(2000, 50, 400), true)
	for _, number := range bodyNumbers() {
		for _, good := range []impl.Body{{}, body(100, 5, 50), body(0, -50, 0), body(2000, 50, 400)} {
			for _, c := range []struct {
				n    int64
				want bool
			}{
				{number.low, true}, {number.low + 1, true}, {number.low - 1, false},
				{number.high, true}, {number.high - 1, true}, {number.high + 1, false},
				{math.MinInt64, false}, {math.MaxInt64, false}, {math.MinInt64 + 1, false}, {math.MaxInt64 - 1, false},
			} {
				b := good
				*number.of(&b) = c.n
				checkBody(t, b, c.want)
			}
		}
	}
}

func TestP17BodyOfEachNumber(t *testing.T) {
	for n := int64(-100); n <= 2100; n++ {
		checkBody(t, body(n, 0, 0), n >= 0 && n <= 2000)
		checkBody(t, body(0, n, 0), n >= -50 && n <= 50)
		checkBody(t, body(0, 0, n), n >= 0 && n <= 400)
	}
	for _, b := range rightBodies() {
		checkBody(t, b, true)
	}
	for _, b := range badBodies() {
		checkBody(t, b, false)
	}
}

func TestP17Falls(t *testing.T) {
	checkFalls(t, impl.Body{}, false)
	checkFalls(t, body(1, -21, 0), true)
	checkFalls(t, body(1, -20, 0), false)
	checkFalls(t, body(1, -22, 0), true)
	checkFalls(t, body(1, 0, 0), false)
	checkFalls(t, body(1, 21, 0), false)
	checkFalls(t, body(1, -50, 0), true)
	checkFalls(t, body(0, -21, 0), false)
	checkFalls(t, body(0, -20, 0), false)
	checkFalls(t, body(0, -50, 0), false)
	checkFalls(t, body(2000, -50, 400), true)
	checkFalls(t, body(2000, -20, 400), false)
	for height := int64(0); height <= 2000; height++ {
		checkFalls(t, body(height, -21, 7), height > 0)
		checkFalls(t, body(height, -20, 7), false)
	}
	for rise := int64(-50); rise <= 50; rise++ {
		for _, speed := range []int64{0, 100, 400} {
			checkFalls(t, body(1, rise, speed), rise < -20)
			checkFalls(t, body(2000, rise, speed), rise < -20)
			checkFalls(t, body(0, rise, speed), false)
		}
	}
}

func TestP17WhatIsNoBodyDoesNotFall(t *testing.T) {
	checkFalls(t, body(1, -51, 0), false)
	checkFalls(t, body(-1, -21, 0), false)
	checkFalls(t, body(2001, -21, 0), false)
	checkFalls(t, body(1, -21, -1), false)
	checkFalls(t, body(1, -21, 401), false)
	for _, n := range []int64{math.MinInt64, math.MaxInt64} {
		checkFalls(t, body(n, -21, 0), false)
		checkFalls(t, body(1, n, 0), false)
		checkFalls(t, body(1, -21, n), false)
	}
	for _, b := range badBodies() {
		checkFalls(t, b, false)
	}
}

func TestP17Moved(t *testing.T) {
	checkMoved(t, body(100, 5, 50), sixAnd(500, 1000), 2, body(107, 7, 60))
	checkMoved(t, body(100, 5, 50), sixAnd(0, 0), 0, body(95, -5, 40))
	checkMoved(t, body(100, 5, 250), sixAnd(0, 0), 0, body(110, 10, 240))
	checkMoved(t, body(3, 0, 0), sixAnd(0, 0), 0, impl.Body{})
	checkMoved(t, impl.Body{}, sixAnd(0, 0), 0, impl.Body{})
	checkMoved(t, impl.Body{}, sixAnd(1000, 1000), 0, body(10, 10, 10))
	checkMoved(t, impl.Body{}, []int64{100, 200, 300, 400, 500, 1000, 600}, 1, body(0, 0, 10))
	checkMoved(t, body(700, -4, 180), []int64{1, 20, 300, 400, 50, 999, 500}, 3, body(702, 2, 190))
}

// At a Speed of 100 the fans are all there is of the lift; at 190 the wings are
// 2700 of it.
func TestP17LiftOnBothSidesOf3000(t *testing.T) {
	for _, c := range []struct{ lift, want int64 }{
		{0, -10}, {1, -9}, {299, -9}, {300, -9}, {301, -8}, {2399, -2}, {2400, -2}, {2401, -1},
		{2699, -1}, {2700, -1}, {2701, 0}, {2999, 0}, {3000, 0}, {3001, 0}, {3299, 0}, {3300, 1}, {3301, 1},
		{3599, 1}, {3600, 2}, {5999, 9}, {6000, 10},
	} {
		for _, speed := range []int64{0, 50, 100} {
			checkMoved(t, body(1000, 0, speed), together(c.lift, 0), 0, body(1000+c.want, c.want, max(speed-10, 0)))
			checkMoved(t, body(1000, 0, speed), spread(c.lift, 0), 0, body(1000+c.want, c.want, max(speed-10, 0)))
		}
		if c.lift >= 2700 && c.lift <= 3700 {
			for place := range sixFans {
				checkMoved(t, body(1000, 0, 190), alone(place, c.lift-2700, 0), 0, body(1000+c.want, c.want, 180))
			}
		}
	}
}

// The greatest lift there may be is that of six fans at MaxOut, and all of the
// wings.
func TestP17LeastAndGreatestLift(t *testing.T) {
	checkMoved(t, body(1000, 0, 0), sixAnd(0, 0), 0, body(990, -10, 0))
	for _, speed := range []int64{300, 301, 399, 400} {
		checkMoved(t, body(1000, 0, speed), sixAnd(1000, 0), 0, body(1030, 30, speed-10))
		checkMoved(t, body(1000, 0, speed), together(5999, 0), 0, body(1029, 29, speed-10))
		checkMoved(t, body(1000, 0, speed), sixAnd(0, 0), 0, body(1010, 10, speed-10))
	}
}

func TestP17EachFanLiftsAlone(t *testing.T) {
	for place := range sixFans {
		for n := int64(0); n <= maxOut; n++ {
			want := -(3000 - n) / 300
			checkMoved(t, body(1000, 0, 50), alone(place, n, 0), 0, body(1000+want, want, 40))
			want = n / 300
			checkMoved(t, body(1000, 0, 200), alone(place, n, 0), 0, body(1000+want, want, 190))
		}
	}
}

// The push is none of the six.
func TestP17ThePushLiftsNothing(t *testing.T) {
	for _, push := range someOuts() {
		for _, lift := range []int64{0, 299, 300, 2699, 2700, 2701, 2999, 3000, 3299, 3300, 5999, 6000} {
			was := impl.Moved(body(1000, 0, 200), together(lift, 0), 0)
			now := impl.Moved(body(1000, 0, 200), together(lift, push), 0)
			if now.Rise != was.Rise || now.Height != was.Height {
				t.Errorf("with a push of %d it is %+v, and with none %+v", push, now, was)
			}
		}
	}
}

// So much of the fans is just enough for one more, or lacks 1.
func TestP17WingsAtEachSpeed(t *testing.T) {
	for _, c := range []struct{ speed, wings int64 }{
		{0, 0}, {1, 0}, {99, 0}, {100, 0}, {101, 30}, {102, 60}, {150, 1500}, {200, 3000}, {250, 4500}, {298, 5940}, {299, 5970}, {300, 6000}, {301, 6000}, {302, 6000}, {399, 6000}, {400, 6000},
	} {
		for rise := int64(-10); rise <= 30; rise++ {
			// This is the least lift that gives rise, or, up to 0, the greatest.
			lift := 3000 + 300*rise - c.wings
			if lift < 1 || lift > 5999 {
				continue
			}
			below, above := rise-1, rise
			if rise <= 0 {
				below, above = rise, rise+1
			}
			if rise == 0 {
				below, above = 0, 0
			}
			speed := max(c.speed-10, 0)
			checkMoved(t, body(1000, 0, c.speed), together(lift, 0), 0, body(1000+rise, rise, speed))
			checkMoved(t, body(1000, 0, c.speed), together(lift-1, 0), 0, body(1000+below, below, speed))
			checkMoved(t, body(1000, 0, c.speed), together(lift+1, 0), 0, body(1000+above, above, speed))
		}
	}
	for speed := range maxSpeed + 1 {
		for lift := int64(0); lift <= 6000; lift += 29 {
			checkMovedAsTold(t, body(1000, 0, speed), spread(lift, 0), 0)
		}
	}
}

// The lift goes by the Speed ahead, whatever it is behind the push.
func TestP17WingsLiftByTheSpeedAhead(t *testing.T) {
	checkMoved(t, body(1000, 0, 190), sixAnd(0, 1000), 0, body(999, -1, 200))
	checkMoved(t, body(1000, 0, 210), sixAnd(0, 0), 0, body(1001, 1, 200))
	checkMoved(t, body(1000, 0, 100), together(3299, 1000), 0, body(1000, 0, 110))
	checkMoved(t, body(1000, 0, 110), together(3000, 0), 0, body(1001, 1, 100))
}

func TestP17Gusts(t *testing.T) {
	for _, c := range []struct{ gust, want int64 }{
		{-4, -3}, {-3, -3}, {-2, -2}, {-1, -1}, {0, 0}, {1, 1}, {2, 2}, {3, 3}, {4, 3},
		{math.MinInt64, -3}, {math.MinInt64 + 1, -3}, {math.MaxInt64 - 1, 3}, {math.MaxInt64, 3},
		{1 << 32, 3}, {-1 << 32, -3}, {256, 3}, {-256, -3},
	} {
		checkMoved(t, body(1000, 0, 0), sixAnd(500, 0), c.gust, body(1000+c.want, c.want, 0))
		checkMoved(t, body(1000, 7, 0), sixAnd(500, 0), c.gust, body(1007+c.want, 7+c.want, 0))
		checkMoved(t, body(1000, -7, 0), sixAnd(500, 0), c.gust, body(993+c.want, -7+c.want, 0))
		checkMoved(t, body(1000, 0, 0), sixAnd(0, 0), c.gust, body(990+c.want, -10+c.want, 0))
		checkMoved(t, body(1000, 0, 300), sixAnd(1000, 0), c.gust, body(1030+c.want, 30+c.want, 290))
	}
	for _, b := range rightBodies() {
		for _, gust := range gusts() {
			checkMovedAsTold(t, b, sixAnd(500, 500), gust)
		}
	}
}

// What the lift does and what the gust does are not a part of one another: two
// halves of a step of Rise are not one.
func TestP17GustIsNoPartOfTheLift(t *testing.T) {
	checkMoved(t, body(1000, 0, 0), together(3299, 0), 1, body(1001, 1, 0))
	checkMoved(t, body(1000, 0, 0), together(2701, 0), -1, body(999, -1, 0))
	checkMoved(t, body(1000, 0, 0), together(3299, 0), -1, body(999, -1, 0))
	checkMoved(t, body(1000, 0, 0), together(2701, 0), 1, body(1001, 1, 0))
	checkMoved(t, body(1000, 0, 0), together(2700, 0), 1, body(1000, 0, 0))
	checkMoved(t, body(1000, 0, 0), together(3300, 0), -1, body(1000, 0, 0))
}

func TestP17RiseAtItsLimits(t *testing.T) {
	for _, c := range []struct{ rise, gust, want int64 }{
		{46, 3, 49}, {47, 3, 50}, {48, 3, 50}, {49, 1, 50}, {50, 0, 50}, {50, 1, 50}, {50, 3, 50}, {50, -1, 49}, {49, 0, 49},
		{-46, -3, -49}, {-47, -3, -50}, {-48, -3, -50}, {-49, -1, -50}, {-50, 0, -50}, {-50, -1, -50}, {-50, -3, -50}, {-50, 1, -49}, {-49, 0, -49},
	} {
		checkMoved(t, body(1000, c.rise, 0), sixAnd(500, 0), c.gust, body(1000+c.want, c.want, 0))
	}
	checkMoved(t, body(1000, 19, 300), sixAnd(1000, 0), 0, body(1049, 49, 290))
	checkMoved(t, body(1000, 20, 300), sixAnd(1000, 0), 0, body(1050, 50, 290))
	checkMoved(t, body(1000, 21, 300), sixAnd(1000, 0), 0, body(1050, 50, 290))
	checkMoved(t, body(1000, -39, 0), sixAnd(0, 0), 0, body(951, -49, 0))
	checkMoved(t, body(1000, -40, 0), sixAnd(0, 0), 0, body(950, -50, 0))
	checkMoved(t, body(1000, -41, 0), sixAnd(0, 0), 0, body(950, -50, 0))
	checkMoved(t, body(1000, 50, 400), sixAnd(1000, 0), 3, body(1050, 50, 390))
	checkMoved(t, body(1000, -50, 0), sixAnd(0, 0), -3, body(950, -50, 0))
}

// Rise is Between -50 and 50 behind both, and not behind the first of them, be
// it the lift or the gust.
func TestP17RiseIsCutBehindBoth(t *testing.T) {
	checkMoved(t, body(1000, 50, 300), sixAnd(1000, 0), -3, body(1050, 50, 290))
	checkMoved(t, body(1000, -50, 0), sixAnd(0, 0), 3, body(950, -50, 0))
	checkMoved(t, body(1000, 50, 0), together(3600, 0), -3, body(1049, 49, 0))
	checkMoved(t, body(1000, 50, 0), together(2400, 0), 3, body(1050, 50, 0))
	checkMoved(t, body(1000, 50, 0), together(2100, 0), 2, body(1049, 49, 0))
	checkMoved(t, body(1000, -50, 0), together(2400, 0), 3, body(951, -49, 0))
	checkMoved(t, body(1000, -50, 0), together(3900, 0), -2, body(951, -49, 0))
	checkMoved(t, body(1000, -50, 0), together(3600, 0), -3, body(950, -50, 0))
}

func TestP17HeightAtItsLimits(t *testing.T) {
	for _, c := range []struct{ height, rise, wantHeight, wantRise int64 }{
		{10, -9, 1, -9}, {10, -10, 0, 0}, {10, -11, 0, 0}, {10, -50, 0, 0}, {50, -49, 1, -49}, {50, -50, 0, 0}, {51, -50, 1, -50}, {49, -50, 0, 0},
		{1, -1, 0, 0}, {2, -1, 1, -1}, {1, -2, 0, 0}, {1, 0, 1, 0}, {1, 1, 2, 1},
		{1990, 9, 1999, 9}, {1990, 10, 2000, 10}, {1990, 11, 2000, 11}, {1990, 50, 2000, 50}, {1950, 49, 1999, 49}, {1950, 50, 2000, 50}, {1951, 50, 2000, 50}, {1949, 50, 1999, 50},
		{1999, 1, 2000, 1}, {1998, 1, 1999, 1}, {1999, 2, 2000, 2}, {2000, 0, 2000, 0}, {2000, 1, 2000, 1}, {2000, 50, 2000, 50}, {2000, -1, 1999, -1}, {2000, -50, 1950, -50}, {1999, 0, 1999, 0},
	} {
		checkMoved(t, body(c.height, c.rise, 0), sixAnd(500, 0), 0, body(c.wantHeight, c.wantRise, 0))
	}
}

// On the ground a Rise below 0 is none, and only there.
func TestP17OnTheGround(t *testing.T) {
	for rise := int64(-50); rise <= 50; rise++ {
		want := max(rise, 0)
		checkMoved(t, body(0, rise, 0), sixAnd(500, 0), 0, body(want, want, 0))
	}
	checkMoved(t, body(0, -1, 0), sixAnd(500, 0), 0, impl.Body{})
	checkMoved(t, body(0, 0, 0), sixAnd(500, 0), 0, impl.Body{})
	checkMoved(t, body(0, 1, 0), sixAnd(500, 0), 0, body(1, 1, 0))
	checkMoved(t, body(0, 0, 0), sixAnd(500, 0), -1, impl.Body{})
	checkMoved(t, body(0, 0, 0), sixAnd(500, 0), 1, body(1, 1, 0))
	checkMoved(t, body(0, 5, 0), sixAnd(0, 0), 0, impl.Body{})
	checkMoved(t, body(0, 10, 0), sixAnd(0, 0), 0, impl.Body{})
	checkMoved(t, body(0, 11, 0), sixAnd(0, 0), 0, body(1, 1, 0))
	checkMoved(t, body(0, 50, 0), sixAnd(0, 0), 0, body(40, 40, 0))
}

// A Rise below 0 that is there on the ground counts, until it has risen by it.
func TestP17RiseAheadOnTheGroundCounts(t *testing.T) {
	checkMoved(t, body(0, -5, 0), together(4200, 0), 0, impl.Body{})
	checkMoved(t, body(0, -5, 0), together(4500, 0), 0, impl.Body{})
	checkMoved(t, body(0, -5, 0), together(4800, 0), 0, body(1, 1, 0))
	checkMoved(t, body(0, -50, 0), sixAnd(1000, 0), 3, impl.Body{})
	checkMoved(t, body(0, -29, 300), sixAnd(1000, 0), 0, body(1, 1, 290))
	checkMoved(t, body(0, -30, 300), sixAnd(1000, 0), 0, body(0, 0, 290))
}

func TestP17WhereTheSpeedGoes(t *testing.T) {
	for _, c := range []struct{ push, to int64 }{{0, 0}, {1, 0}, {2, 0}, {3, 1}, {4, 1}, {5, 2}, {7, 2}, {8, 3}, {10, 4}, {25, 10}, {250, 100}, {500, 200}, {997, 398}, {998, 399}, {999, 399}, {1000, 400}} {
		for _, far := range []int64{-400, -50, -12, -11, -10, -9, -1, 0, 1, 9, 10, 11, 12, 50, 400} {
			speed := c.to + far
			if speed < 0 || speed > maxSpeed {
				continue
			}
			want := speed - within(far, -10, 10)
			got := impl.Moved(body(1000, 0, speed), sixAnd(500, c.push), 0)
			if got.Speed != want {
				t.Errorf("by a push of %d the Speed of %d is then %d, want %d", c.push, speed, got.Speed, want)
			}
		}
	}
	for push := range maxOut + 1 {
		for _, speed := range []int64{0, 1, 9, 10, 11, 99, 100, 101, 195, 200, 205, 389, 390, 391, 399, 400} {
			checkMovedAsTold(t, body(1000, 0, speed), sixAnd(500, push), 0)
		}
	}
}

// Behind as many ticks as it takes the Speed is there, and stays.
func TestP17TheSpeedComesThere(t *testing.T) {
	for _, push := range someOuts() {
		for _, speed := range []int64{0, 7, 200, 400} {
			b := body(1000, 0, speed)
			for range 40 {
				b = impl.Moved(b, sixAnd(500, push), 0)
			}
			if want := push * 4 / 10; b.Speed != want {
				t.Errorf("by a push of %d the Speed of %d comes to %d, want %d", push, speed, b.Speed, want)
			}
			checkMovedAsTold(t, b, sixAnd(500, push), 0)
		}
	}
}

func TestP17OutsAreSeven(t *testing.T) {
	b := body(100, 5, 50)
	checkMoved(t, b, nil, 0, impl.Body{})
	checkMoved(t, b, []int64{}, 0, impl.Body{})
	checkMoved(t, b, make([]int64, 7), 0, body(95, -5, 40))
	for _, many := range []int{0, 1, 2, 3, 4, 5, 6, 8, 9, 13, 14, 100, 256 + 7, 65536 + 7} {
		for _, n := range []int64{0, 1, 500, maxOut} {
			for _, gust := range []int64{0, 3, math.MinInt64, math.MaxInt64} {
				checkMoved(t, b, slices.Repeat([]int64{n}, many), gust, impl.Body{})
				checkMoved(t, body(2000, 50, 400), slices.Repeat([]int64{n}, many), gust, impl.Body{})
			}
		}
	}
}

func TestP17EachOutAtItsLimits(t *testing.T) {
	for place := range sevenOuts {
		for _, base := range [][]int64{sixAnd(0, 0), sixAnd(500, 500), sixAnd(1000, 1000), {1, 20, 300, 400, 50, 999, 500}} {
			l := slices.Clone(base)
			for _, n := range slices.Concat([]int64{0, 1, maxOut - 1, maxOut}, someOuts()) {
				l[place] = n
				checkMovedAsTold(t, body(100, 5, 150), l, 2)
			}
			for _, n := range slices.Concat([]int64{-1, maxOut + 1, math.MinInt64, math.MaxInt64}, noOuts()) {
				l[place] = n
				checkMoved(t, body(100, 5, 150), l, 2, impl.Body{})
				checkMoved(t, impl.Body{}, l, 0, impl.Body{})
			}
		}
	}
	// These six come to 3000 all together.
	checkMoved(t, body(100, 5, 50), []int64{-1, 1001, 500, 500, 500, 500, 0}, 0, impl.Body{})
	checkMoved(t, body(100, 5, 50), []int64{math.MaxInt64, math.MaxInt64, 2, 1000, 1000, 1000, 0}, 0, impl.Body{})
}

func TestP17WhatIsNoBodyDoesNotMove(t *testing.T) {
	for _, b := range badBodies() {
		for _, outs := range [][]int64{sixAnd(0, 0), sixAnd(500, 500), sixAnd(1000, 1000), together(3299, 1), sixAnd(-1, 0), nil} {
			for _, gust := range []int64{0, -3, 3, math.MinInt64, math.MaxInt64} {
				checkMoved(t, b, outs, gust, impl.Body{})
			}
		}
	}
}

func TestP17MovedOfManyBodies(t *testing.T) {
	for _, b := range rightBodies() {
		for _, lift := range []int64{0, 1, 299, 300, 301, 2699, 2700, 2701, 2999, 3000, 3001, 3299, 3300, 5999, 6000} {
			for _, push := range []int64{0, 1, 10, 999, maxOut} {
				for _, gust := range []int64{-4, -3, 0, 2, 3} {
					checkMovedAsTold(t, b, spread(lift, push), gust)
				}
			}
		}
	}
}

// TestP17OutsStayAsTheyWere looks at the spare room behind them too.
func TestP17OutsStayAsTheyWere(t *testing.T) {
	outs := []int64{0, 500, 900, 1000, 1, 2, 3, 4, -7, 8, 9, 1001}
	was := slices.Clone(outs)
	for many := range len(outs) + 1 {
		for _, gust := range gusts() {
			for _, b := range []impl.Body{{}, body(100, 5, 50), body(2000, 50, 400), body(-1, 0, 0)} {
				want := wantMoved(b, was[:many], gust)
				for range 2 {
					if got := impl.Moved(b, outs[:many], gust); got != want {
						t.Errorf("Moved(%+v, %v, %d) = %+v, want %+v", b, was[:many], gust, got, want)
					}
					if !slices.Equal(outs, was) {
						t.Fatalf("the outs were %v, and are %v", was, outs)
					}
				}
			}
		}
	}
}

// What is behind the seven in their spare room is not looked at.
func TestP17SpareRoomIsNoOut(t *testing.T) {
	outs := roomyNumbers(sixAnd(500, 1000))
	checkMoved(t, body(100, 5, 50), outs, 2, body(107, 7, 60))
	for i := range outs[:cap(outs)][sevenOuts:] {
		if n := outs[:cap(outs)][sevenOuts+i]; n != spare {
			t.Errorf("behind the outs is %d, want %d", n, spare)
		}
	}
}

// checkP17 is the promise.
func checkP17(t *testing.T, b impl.Body, outs []int64, gust int64) impl.Body {
	t.Helper()
	now := impl.Moved(b, outs, gust)
	if !wantBody(now) || !impl.BodyOk(now) {
		t.Errorf("Moved(%+v, %v, %d) = %+v, which is no Body", b, outs, gust, now)
	}
	return now
}

func TestP17ABodyStaysABody(t *testing.T) {
	for _, b := range rightBodies() {
		for _, outs := range [][]int64{sixAnd(0, 0), sixAnd(1000, 0), sixAnd(0, 1000), sixAnd(1000, 1000), sixAnd(500, 500), nil} {
			for _, gust := range []int64{-3, 0, 3, math.MinInt64, math.MaxInt64} {
				checkP17(t, b, outs, gust)
			}
		}
	}
}

// With the same Outs and gusts all the while it comes to one end or the other,
// and stays within.
func TestP17ABodyStaysABodyAtTheEnds(t *testing.T) {
	up, down := impl.Body{}, body(2000, 50, 400)
	for range 300 {
		up, down = checkP17(t, up, sixAnd(1000, 1000), math.MaxInt64), checkP17(t, down, sixAnd(0, 0), math.MinInt64)
	}
	if up != body(2000, 50, 400) || down != (impl.Body{}) {
		t.Errorf("it comes to %+v up, and to %+v down", up, down)
	}
}

// anyOuts are seven right ones, of all or of none of it, or of any.
func anyOuts(source *rand.Rand) []int64 {
	l := sixAnd(0, 0)
	kind := source.Intn(4)
	for i := range l {
		switch kind {
		case 0:
			l[i] = 400 + source.Int63n(201)
		case 1:
			l[i] = maxOut * source.Int63n(2)
		case 2:
			l[i] = maxOut - source.Int63n(50)
		default:
			l[i] = source.Int63n(maxOut + 1)
		}
	}
	return l
}

func anyBody(source *rand.Rand) impl.Body {
	return body(source.Int63n(maxHeight+1), source.Int63n(2*maxRise+1)-maxRise, source.Int63n(maxSpeed+1))
}

// Each run goes on from the answer ahead, some with the same Outs for a while,
// so that it comes to the ground and to the top.
func TestP17OfDrawnRuns(t *testing.T) {
	source := rand.New(rand.NewSource(43))
	grounded, topped, fallen := 0, 0, 0
	for run := range 400 {
		b := impl.Body{}
		if run%2 == 1 {
			b = anyBody(source)
		}
		outs, stays := anyOuts(source), 1+source.Intn(40)
		for range 300 {
			if source.Intn(stays) == 0 {
				outs = anyOuts(source)
			}
			gust := source.Int63n(9) - 4
			if source.Intn(4) == 0 {
				gust = anyLength(source)
			}
			want := wantMoved(b, outs, gust)
			b = checkP17(t, b, outs, gust)
			if b != want {
				t.Fatalf("it is %+v, want %+v", b, want)
			}
			checkFalls(t, b, b.Height > 0 && b.Rise < -20)
			switch {
			case b.Height == 0:
				grounded++
			case b.Height == maxHeight:
				topped++
			case b.Rise < -20:
				fallen++
			}
		}
	}
	if grounded == 0 || topped == 0 || fallen == 0 {
		t.Errorf("of all ticks %d are on the ground, %d at the top, and %d falling", grounded, topped, fallen)
	}
}

// Behind something that is not right it goes on from the zero Body.
func TestP17OfNumbersOfAnyLength(t *testing.T) {
	source := rand.New(rand.NewSource(44))
	for range 100000 {
		b, outs, gust := anyBody(source), anyOuts(source), anyLength(source)
		switch source.Intn(4) {
		case 0:
			*bodyNumbers()[source.Intn(3)].of(&b) = anyLength(source)
		case 1:
			outs[source.Intn(sevenOuts)] = anyLength(source)
		case 2:
			outs = slices.Repeat(outs, 2)[:source.Intn(2*sevenOuts+1)]
		}
		checkBody(t, b, wantBody(b))
		checkFalls(t, b, wantBody(b) && b.Height > 0 && b.Rise < -20)
		want := wantMoved(b, outs, gust)
		if now := checkP17(t, b, outs, gust); now != want {
			t.Errorf("Moved(%+v, %v, %d) = %+v, want %+v", b, outs, gust, now, want)
		}
	}
}
