package tests

import (
	"math"
	"math/rand"
	"testing"

	"loop.example/g00619/impl"
)

const (
	killFor   = 4
	lowGate   = int64(30)
	mostStill = int64(100)
)

func gate(still int64, fired bool) impl.Gate { return impl.Gate{Still: still, Fired: fired} }

func rightGates() []impl.Gate {
	var l []impl.Gate
	for n := range mostStill + 1 {
		l = append(l, gate(n, false), gate(n, true))
	}
	return l
}

func badGates() []impl.Gate {
	var l []impl.Gate
	for _, n := range []int64{-1, 101, -2, 102, -4, -100, 1 << 8, 1<<8 + 4, -1 << 32, 1 << 32, 1<<32 + 3, math.MinInt64, math.MinInt64 + 1, math.MinInt64 + 4, math.MaxInt64 - 1, math.MaxInt64} {
		l = append(l, gate(n, false), gate(n, true))
	}
	return l
}

// atHeight is in MdChute's case; the gate asks for the height alone.
func atHeight(height int64, ok bool) impl.Facts {
	return impl.Facts{Height: height, HeightOk: ok, Case: caMany}
}

// highFacts do not hold the gate back: high enough, or no height that is known.
func highFacts() []impl.Facts {
	return []impl.Facts{atHeight(30, true), atHeight(31, true), atHeight(2000, true), atHeight(maxSize, true), atHeight(29, false), atHeight(30, false), atHeight(31, false), atHeight(0, false), atHeight(-maxSize, false)}
}

func lowFacts() []impl.Facts {
	return []impl.Facts{atHeight(29, true), atHeight(28, true), atHeight(1, true), atHeight(0, true), atHeight(-1, true), atHeight(-30, true), atHeight(-maxSize, true)}
}

func high() impl.Facts { return atHeight(lowGate, true) }

func low() impl.Facts { return atHeight(lowGate-1, true) }

// tick is what a gate is told but for the Facts.
type tick struct{ chute, still bool }

func fourTicks() []tick { return []tick{{true, true}, {true, false}, {false, true}, {false, false}} }

func threeBreaks() []tick { return fourTicks()[1:] }

func wantTooLow(f impl.Facts) bool { return f.HeightOk && f.Height <= 29 }

func wantGated(g impl.Gate, chute, still bool, f impl.Facts) impl.Gate {
	if g.Still < 0 || g.Still > 100 || !wantFacts(f) {
		return impl.Gate{}
	}
	if g.Fired {
		return g
	}
	if !chute || !still {
		return impl.Gate{}
	}
	if g.Still < 100 {
		g.Still++
	}
	g.Fired = g.Still > 3 && !wantTooLow(f)
	return g
}

func checkGate(t *testing.T, g impl.Gate, want bool) {
	t.Helper()
	if got := impl.GateOk(g); got != want {
		t.Errorf("GateOk(%v) = %v, want %v", g, got, want)
	}
}

func checkGated(t *testing.T, g impl.Gate, by tick, f impl.Facts, want impl.Gate) {
	t.Helper()
	if got := impl.Gated(g, by.chute, by.still, f); got != want {
		t.Errorf("Gated(%v, %v, %v, %+v) = %v, want %v", g, by.chute, by.still, f, got, want)
	}
}

func checkGatedAsTold(t *testing.T, g impl.Gate, by tick, f impl.Facts) {
	t.Helper()
	checkGated(t, g, by, f, wantGated(g, by.chute, by.still, f))
}

// stopped goes n ticks on, of chute and still one behind the other.
func stopped(g impl.Gate, n int, f impl.Facts) impl.Gate {
	for range n {
		g = impl.Gated(g, true, true, f)
	}
	return g
}

func checkStopped(t *testing.T, g impl.Gate, n int, f impl.Facts, want impl.Gate) {
	t.Helper()
	if got := stopped(g, n, f); got != want {
		t.Errorf("behind %d ticks by %+v %v is %v, want %v", n, f, g, got, want)
	}
}

func TestP14Numbers(t *testing.T) {
	if impl.KillFor != killFor || impl.LowGate != lowGate {
		t.Errorf("KillFor and LowGate = %d and %d, want %d and %d", impl.KillFor, impl.LowGate, killFor, lowGate)
	}
}

func TestP14GateOk(t *testing.T) {
	for _, c := range []struct {
		still int64
		want  bool
	}{
		{0, true},
		{1, true},
		{4, true},
		{99, true},
		{100, true},
		{-1, false},
		{101, false},
		{math.MinInt64, false},
		{math.MaxInt64, false},
	} {
		checkGate(t, gate(c.still, false), c.want)
		checkGate(t, gate(c.still, true), c.want)
	}
}

func TestP14GateOkOfAll(t *testing.T) {
	for _, g := range rightGates() {
		checkGate(t, g, true)
	}
	for _, g := range badGates() {
		checkGate(t, g, false)
	}
}

func TestP14FromTheZeroGate(t *testing.T) {
	for _, f := range highFacts() {
		checkStopped(t, impl.Gate{}, 0, f, gate(0, false))
		checkStopped(t, impl.Gate{}, 1, f, gate(1, false))
		checkStopped(t, impl.Gate{}, 2, f, gate(2, false))
		checkStopped(t, impl.Gate{}, 3, f, gate(3, false))
		for n := 4; n <= 300; n++ {
			checkStopped(t, impl.Gate{}, n, f, gate(4, true))
		}
	}
}

func TestP14WhatIsNotStoppedIsNotCounted(t *testing.T) {
	for _, by := range threeBreaks() {
		for n := range mostStill + 1 {
			for _, f := range append(highFacts(), lowFacts()...) {
				checkGated(t, gate(n, false), by, f, impl.Gate{})
			}
		}
	}
}

// Behind a tick in between it takes KillFor ticks again, however many there were
// ahead of it, and whether it was too low in them or not.
func TestP14TheCountingBeginsAnew(t *testing.T) {
	for _, by := range threeBreaks() {
		for ahead := range 3 + 1 {
			g := stopped(impl.Gate{}, ahead, high())
			checkGated(t, g, by, high(), impl.Gate{})
			g = impl.Gated(g, by.chute, by.still, high())
			checkStopped(t, g, 3, high(), gate(3, false))
			checkStopped(t, g, 4, high(), gate(4, true))
		}
		for _, ahead := range []int{4, 5, 99, 100, 101, 200} {
			g := stopped(impl.Gate{}, ahead, low())
			checkGated(t, g, by, high(), impl.Gate{})
			checkGated(t, g, by, low(), impl.Gate{})
			g = impl.Gated(g, by.chute, by.still, high())
			checkStopped(t, g, 3, high(), gate(3, false))
			checkStopped(t, g, 4, high(), gate(4, true))
		}
	}
}

// Chute in one tick and still in the next are never both of them at once.
func TestP14TurnByTurnIsNothing(t *testing.T) {
	g := impl.Gate{}
	for n := range 50 {
		g = impl.Gated(g, n%2 == 0, n%2 == 1, high())
		if g != (impl.Gate{}) {
			t.Fatalf("behind %d ticks turn by turn it is %v", n+1, g)
		}
	}
}

func TestP14StillAtTheLimits(t *testing.T) {
	for _, c := range []struct {
		still, behind int64
		fired         bool
	}{
		{0, 1, false},
		{1, 2, false},
		{2, 3, false},
		{3, 4, true},
		{4, 5, true},
		{5, 6, true},
		{98, 99, true},
		{99, 100, true},
		{100, 100, true},
	} {
		for _, f := range highFacts() {
			checkGated(t, gate(c.still, false), tick{true, true}, f, gate(c.behind, c.fired))
		}
		for _, f := range lowFacts() {
			checkGated(t, gate(c.still, false), tick{true, true}, f, gate(c.behind, false))
		}
	}
}

func TestP14HeightAtLowGate(t *testing.T) {
	for _, c := range []struct {
		height int64
		ok     bool
		fired  bool
	}{
		{28, true, false},
		{29, true, false},
		{30, true, true},
		{31, true, true},
		{28, false, true},
		{29, false, true},
		{30, false, true},
		{31, false, true},
		{0, true, false},
		{-30, true, false},
		{-maxSize, true, false},
		{-maxSize, false, true},
		{maxSize, true, true},
	} {
		for still := int64(3); still <= 99; still++ {
			checkGated(t, gate(still, false), tick{true, true}, atHeight(c.height, c.ok), gate(still+1, c.fired))
		}
		checkGated(t, gate(100, false), tick{true, true}, atHeight(c.height, c.ok), gate(100, c.fired))
	}
}

func TestP14WaitsForTheHeight(t *testing.T) {
	for _, down := range lowFacts() {
		for n := 1; n <= 150; n++ {
			counted := min(int64(n), mostStill)
			checkStopped(t, impl.Gate{}, n, down, gate(counted, false))
			for _, up := range highFacts() {
				behind := min(int64(n)+1, mostStill)
				checkGated(t, gate(counted, false), tick{true, true}, up, gate(behind, behind >= killFor))
			}
		}
	}
	waits := stopped(impl.Gate{}, 7, low())
	checkGated(t, waits, tick{true, true}, atHeight(30, true), gate(8, true))
	checkGated(t, waits, tick{true, true}, atHeight(29, false), gate(8, true))
}

func TestP14WhatIsFiredStays(t *testing.T) {
	for n := range mostStill + 1 {
		for _, by := range fourTicks() {
			for _, f := range append(highFacts(), lowFacts()...) {
				checkGated(t, gate(n, true), by, f, gate(n, true))
			}
		}
	}
	for _, f := range gridFacts() {
		for _, by := range fourTicks() {
			checkGated(t, gate(4, true), by, f, gate(4, true))
		}
	}
}

// The height is all that is asked of right Facts.
func TestP14OfWhateverElseTheFactsTell(t *testing.T) {
	for _, up := range []impl.Facts{atHeight(30, true), atHeight(29, false)} {
		for _, f := range oneFieldAway(up) {
			f.Height, f.HeightOk = up.Height, up.HeightOk
			checkGated(t, gate(3, false), tick{true, true}, f, gate(4, true))
			checkGated(t, gate(2, false), tick{true, true}, f, gate(3, false))
		}
	}
	for _, f := range gridFacts() {
		for _, still := range []int64{0, 2, 3, 99, 100} {
			for _, by := range fourTicks() {
				checkGatedAsTold(t, gate(still, false), by, f)
			}
		}
	}
}

func TestP14AGateThatIsNotRight(t *testing.T) {
	for _, g := range badGates() {
		for _, by := range fourTicks() {
			for _, f := range append(highFacts(), lowFacts()...) {
				checkGated(t, g, by, f, impl.Gate{})
			}
			checkGated(t, g, by, impl.Facts{Timer: -1}, impl.Gate{})
		}
	}
}

func TestP14FactsThatAreNotRightAtTheLimits(t *testing.T) {
	limits := []struct {
		set         func(*impl.Facts, int64)
		least, most int64
	}{
		{setSpeed, -1000000, 1000000},
		{setHeight, -1000000, 1000000},
		{setCase, 0, 7},
		{setWant, 0, 2},
		{setTimer, 0, 1000},
	}
	for _, limit := range limits {
		for _, n := range []int64{limit.least - 1, limit.most + 1, math.MinInt64, math.MaxInt64} {
			for _, f := range withFlags(high()) {
				limit.set(&f, n)
				for _, still := range []int64{0, 3, 4, 50, 100} {
					for _, by := range fourTicks() {
						checkGated(t, gate(still, false), by, f, impl.Gate{})
						checkGated(t, gate(still, true), by, f, impl.Gate{})
					}
				}
			}
		}
		for _, n := range []int64{limit.least, limit.most} {
			f := atHeight(30, false)
			limit.set(&f, n)
			checkGated(t, gate(3, false), tick{true, true}, f, gate(4, true))
			checkGated(t, gate(50, true), tick{}, f, gate(50, true))
		}
	}
}

func TestP14FactsThatAreNotRight(t *testing.T) {
	for _, base := range []impl.Facts{high(), low(), {}} {
		for _, f := range oneFieldBad(base) {
			for _, by := range fourTicks() {
				for _, g := range rightGates() {
					checkGated(t, g, by, f, impl.Gate{})
				}
			}
		}
	}
}

// gateFacts are right, and mostly near LowGate.
func gateFacts(source *rand.Rand) impl.Facts {
	f := anyFacts(source)
	if source.Intn(8) > 0 {
		f.Height = lowGate - 2 + source.Int63n(5)
	}
	return f
}

func TestP14OfDrawnGates(t *testing.T) {
	source := rand.New(rand.NewSource(34))
	fields := factNumbers()
	for range 100000 {
		g := gate(source.Int63n(mostStill+1), source.Intn(2) == 0)
		if source.Intn(4) == 0 {
			g.Still = anyLength(source)
		}
		f := gateFacts(source)
		if source.Intn(4) == 0 {
			fields[source.Intn(len(fields))].set(&f, anyLength(source))
		}
		checkGate(t, g, g.Still >= 0 && g.Still <= 100)
		for _, by := range fourTicks() {
			checkGatedAsTold(t, g, by, f)
		}
	}
}

// drawnRun is one way of a gate from the zero Gate on. It keeps what the promise
// asks by itself: how many ticks of nothing there were up to now.
type drawnRun struct {
	gate  impl.Gate
	quiet int
}

// further is false where a tick has broken the promise.
func (r *drawnRun) further(by tick, f impl.Facts) bool {
	before := r.gate
	r.gate = impl.Gated(before, by.chute, by.still, f)
	if by.chute && by.still {
		r.quiet++
	} else {
		r.quiet = 0
	}
	if before.Fired {
		return r.gate == before
	}
	mayFire := r.quiet >= killFor && !wantTooLow(f)
	return r.gate == gate(min(int64(r.quiet), mostStill), mayFire)
}

func TestP14BehindKillForTicksAndNotAhead(t *testing.T) {
	source := rand.New(rand.NewSource(35))
	fired, waited := 0, 0
	for range 4000 {
		run := drawnRun{}
		mostlyStopped, mostlyLow := source.Intn(2) == 0, source.Intn(2) == 0
		for range 200 {
			by := fourTicks()[source.Intn(4)]
			if source.Intn(10) > 0 && (mostlyStopped || source.Intn(2) == 0) {
				by = tick{true, true}
			}
			f := gateFacts(source)
			if mostlyLow && source.Intn(50) > 0 {
				f.Height, f.HeightOk = lowGate-1-source.Int63n(40), true
			}
			before := run.gate
			if !run.further(by, f) {
				t.Fatalf("behind %d ticks of nothing Gated(%v, %v, %v, %+v) = %v", run.quiet, before, by.chute, by.still, f, run.gate)
			}
			if run.gate.Still >= killFor && !run.gate.Fired {
				waited++
			}
		}
		if run.gate.Fired {
			fired++
		}
	}
	if fired == 0 || fired == 4000 || waited == 0 {
		t.Errorf("%d of 4000 runs were fired, and in %d ticks the height was waited for: too few or too many to tell", fired, waited)
	}
}

// Gates that wait for very long, so that the counting ends, ahead of the height.
func TestP14BehindVeryManyTicks(t *testing.T) {
	source := rand.New(rand.NewSource(36))
	downs := lowFacts()
	for range 200 {
		run := drawnRun{}
		for range 90 + source.Intn(60) {
			if !run.further(tick{true, true}, downs[source.Intn(len(downs))]) {
				t.Fatalf("behind %d ticks of nothing, too low, it is %v", run.quiet, run.gate)
			}
		}
		for range 20 {
			if !run.further(fourTicks()[source.Intn(4)], gateFacts(source)) {
				t.Fatalf("behind %d ticks of nothing it is %v", run.quiet, run.gate)
			}
		}
	}
}
