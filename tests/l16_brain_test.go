package tests

import (
	"math"
	"math/rand"
	"slices"
	"strings"
	"testing"

	"loop.example/g00619/impl"
)

const (
	maxStep    = int64(100)
	holdHeight = int64(400)
	mostHeard  = 2000
)

// sixAnd are Outs: six alike, and the push.
func sixAnd(n, push int64) []int64 { return append(slices.Repeat([]int64{n}, sixFans), push) }

// kite is a right Brain that stays in its Mode where nothing is heard. At that
// speed the fans have all of the Lift, but for MdGlide, where they have half.
func kite(mode int64) impl.Brain {
	speed, want := int64(100), piStay
	if mode == mdGlide {
		speed = 150
	}
	if mode == mdOut || mode == mdGlide {
		want = piOut
	}
	return impl.Brain{
		Mode:  mode,
		Timer: 7,
		Fans:  make([]impl.Fan, sixFans),
		Senses: impl.Senses{
			Speeds:  told(speed, 0, speed, 0, speed, 0),
			Heights: told(400, 0, 400, 0),
			Fans:    told(1000, 0, 1000, 0, 1000, 0, 1000, 0, 1000, 0, 1000, 0),
			Want:    want,
			Seqs:    []int64{10, 20, 30, 40},
		},
		Outs: sixAnd(0, 0),
	}
}

func copyOfBrain(b impl.Brain) impl.Brain {
	b.Fans, b.Outs, b.Senses = slices.Clone(b.Fans), slices.Clone(b.Outs), copyOf(b.Senses)
	return b
}

// but is b with some change, which does not reach b itself.
func but(b impl.Brain, change func(*impl.Brain)) impl.Brain {
	b = copyOfBrain(b)
	change(&b)
	return b
}

func atSpeed(b impl.Brain, speed int64) impl.Brain {
	return but(b, func(b *impl.Brain) { b.Senses.Speeds = told(speed, 0, speed, 0, speed, 0) })
}

func atKnownHeight(b impl.Brain, height int64) impl.Brain {
	return but(b, func(b *impl.Brain) { b.Senses.Heights = told(height, 0, height, 0) })
}

func withOuts(b impl.Brain, l ...int64) impl.Brain {
	return but(b, func(b *impl.Brain) { b.Outs = l })
}

func withTimer(b impl.Brain, timer int64) impl.Brain {
	return but(b, func(b *impl.Brain) { b.Timer = timer })
}

func withTail(b impl.Brain, tail string) impl.Brain {
	return but(b, func(b *impl.Brain) { b.Tail = tail })
}

func withGate(b impl.Brain, g impl.Gate) impl.Brain {
	return but(b, func(b *impl.Brain) { b.Gate = g })
}

func withFan(b impl.Brain, place int, f impl.Fan) impl.Brain {
	return but(b, func(b *impl.Brain) { b.Fans[place] = f })
}

func withSenses(b impl.Brain, s impl.Senses) impl.Brain {
	return but(b, func(b *impl.Brain) { b.Senses = copyOf(s) })
}

func wanting(b impl.Brain, want int64) impl.Brain {
	return but(b, func(b *impl.Brain) { b.Senses.Want = want })
}

// givenUp has those fans Out, by the bits of a number.
func givenUp(b impl.Brain, bits int) impl.Brain {
	return but(b, func(b *impl.Brain) {
		for i := range b.Fans {
			b.Fans[i].Out = bits>>i&1 == 1
		}
	})
}

func speedNotOk(b impl.Brain) impl.Brain {
	return but(b, func(b *impl.Brain) { b.Senses.Speeds[0].Age, b.Senses.Speeds[1].Age = 3, 3 })
}

func heightNotOk(b impl.Brain) impl.Brain {
	return but(b, func(b *impl.Brain) { b.Senses.Heights[1].Value = b.Senses.Heights[0].Value + 11 })
}

// later is what always comes of b where nothing is heard and it stays in its
// Mode, and in the tests below also the Outs.
func later(b impl.Brain) impl.Brain {
	return but(b, func(b *impl.Brain) {
		b.Timer++
		b.Senses = allAged(b.Senses)
		b.Tail = ""
	})
}

func sameBrain(a, b impl.Brain) bool {
	return a.Mode == b.Mode && a.Timer == b.Timer && slices.Equal(a.Fans, b.Fans) && a.Gate == b.Gate &&
		sameSenses(a.Senses, b.Senses) && slices.Equal(a.Outs, b.Outs) && a.Tail == b.Tail
}

func newBrain() impl.Brain {
	return impl.Brain{Fans: make([]impl.Fan, 6), Senses: newSenses(), Outs: []int64{0, 0, 0, 0, 0, 0, 0}}
}

// someBrain has no field as a new one has it, and no two numbers of a list alike.
func someBrain() impl.Brain {
	return impl.Brain{
		Mode:   mdHover,
		Timer:  33,
		Fans:   []impl.Fan{fan(1, false, false), fan(2, false, false), fan(5, true, true), fan(3, false, false), fan(4, false, false), fan(0, false, false)},
		Gate:   gate(2, false),
		Senses: someSenses(),
		Outs:   []int64{510, 520, 530, 540, 550, 560, 70},
		Tail:   "S 11 110",
	}
}

func edgeBrain() impl.Brain {
	return impl.Brain{
		Mode:   mdChute,
		Timer:  maxTimer,
		Fans:   []impl.Fan{fan(100, true, true), fan(100, false, false), fan(0, true, false), fan(0, false, true), fan(100, true, false), fan(0, false, false)},
		Gate:   gate(100, true),
		Senses: edgeSenses(),
		Outs:   []int64{0, 1000, 0, 1000, 1000, 0, 1000},
		Tail:   strings.Repeat("\n", maxLeft),
	}
}

func rightBrains() []impl.Brain {
	l := []impl.Brain{newBrain(), someBrain(), edgeBrain()}
	for _, mode := range eachMode() {
		l = append(l, kite(mode))
	}
	return l
}

// wrongLists are b with too few or too many Fans or Outs.
func wrongLists(b impl.Brain) []impl.Brain {
	var l []impl.Brain
	for _, n := range []int{0, 1, 2, 3, 4, 5, 7, 8, 12, 100, 256 + sixFans} {
		l = append(l, but(b, func(b *impl.Brain) { b.Fans = make([]impl.Fan, n) }))
	}
	for _, n := range []int{0, 1, 2, 3, 4, 5, 6, 8, 9, 14, 100, 256 + sevenOuts} {
		l = append(l, withOuts(b, make([]int64, n)...))
	}
	return append(l, withOuts(b), withOuts(b, b.Outs[:6]...), withOuts(b, append(slices.Clone(b.Outs), 0)...),
		but(b, func(b *impl.Brain) { b.Fans = nil }), but(b, func(b *impl.Brain) { b.Fans = b.Fans[:5] }), but(b, func(b *impl.Brain) { b.Fans = append(b.Fans, impl.Fan{}) }))
}

func badTails() []string {
	return []string{strings.Repeat("x", 61), strings.Repeat("\n", 61), strings.Repeat("é", 31), strings.Repeat("\x00", 62), longLine, strings.Repeat("x", 256), strings.Repeat("x", 316), strings.Repeat("x", 5000)}
}

// oneBad are b with one thing in it that is not right.
func oneBad(b impl.Brain) []impl.Brain {
	var l []impl.Brain
	for _, mode := range noModes() {
		l = append(l, but(b, func(b *impl.Brain) { b.Mode = mode }))
	}
	for _, timer := range notTimers() {
		l = append(l, withTimer(b, timer))
	}
	for place := range sixFans {
		for _, bad := range badFans() {
			l = append(l, withFan(b, place, bad))
		}
	}
	for _, bad := range badGates() {
		l = append(l, withGate(b, bad))
	}
	for place := range sevenOuts {
		for _, n := range noOuts() {
			l = append(l, but(b, func(b *impl.Brain) { b.Outs[place] = n }))
		}
	}
	for _, tail := range badTails() {
		l = append(l, withTail(b, tail))
	}
	return l
}

func badBrains() []impl.Brain {
	l := []impl.Brain{{}, {Mode: mdHover, Timer: 7, Tail: "S 1"}, {Senses: newSenses()}, {Fans: make([]impl.Fan, 6), Outs: sixAnd(0, 0)}}
	for _, b := range []impl.Brain{newBrain(), someBrain(), edgeBrain(), kite(mdHover)} {
		l = slices.Concat(l, wrongLists(b), oneBad(b))
	}
	for _, s := range badSenses() {
		l = append(l, withSenses(newBrain(), s), withSenses(someBrain(), s))
	}
	return l
}

func wantBrain(b impl.Brain) bool {
	right := isMode(b.Mode) && b.Timer >= 0 && b.Timer <= 1000 && len(b.Fans) == 6 && b.Gate.Still >= 0 && b.Gate.Still <= 100
	for _, f := range b.Fans {
		right = right && f.Low.N >= 0 && f.Low.N <= 100
	}
	return right && wantSenses(b.Senses) && len(b.Outs) == 7 && areOuts(b.Outs) && len(b.Tail) <= 60
}

func wantCase(l []impl.Fan) int64 {
	c := caNone
	for i, f := range l {
		switch {
		case f.Out && c == caNone:
			c = int64(i) + 1
		case f.Out:
			c = caMany
		}
	}
	return c
}

// wantLift has two of three parts more where four stay on.
func wantLift(f impl.Facts) int64 {
	lift := int64(500)
	if f.HeightOk {
		lift = within(1300-2*f.Height, 200, 800)
	}
	switch len(wantStays(f.Case)) {
	case 6:
		return lift
	case 4:
		return lift + lift/2
	}
	return 0
}

func wantOutsIn(mode int64, old []int64, f impl.Facts) []int64 {
	if mode == mdGround || mode == mdChute {
		return []int64{0, 0, 0, 0, 0, 0, 0}
	}
	wish := demand(wantLift(f), 0, 0)
	if f.SpeedOk {
		wish = wantBlended(wish, f.Speed)
	}
	return wantSlewed(old, append(wantShared(f.Case, wish), wantPush(mode, f.Speed)), 100)
}

func allNothing(l []int64) bool { return slices.Max(l) == 0 && slices.Min(l) == 0 }

// wantTicked is put together of the answers that the tests of the other chapters
// expect.
func wantTicked(b impl.Brain, heard string) impl.Brain {
	if !wantBrain(b) {
		return impl.Brain{}
	}
	var next impl.Brain
	var frames []impl.Frame
	if len(heard) <= 2000 {
		frames, next.Tail = wantFrames(b.Tail + heard)
	}
	next.Senses = wantFed(b.Senses, frames)
	for i, f := range b.Fans {
		next.Fans = append(next.Fans, wantWatched(f, b.Outs[i], next.Senses.Fans[i]))
	}
	f := wantFactsOf(next.Senses, wantCase(next.Fans), b.Timer)
	next.Mode = wantNext(b.Mode, f)
	if next.Mode == b.Mode {
		next.Timer = within(b.Timer+1, 0, 1000)
	}
	next.Outs = wantOutsIn(next.Mode, b.Outs, f)
	next.Gate = wantGated(b.Gate, next.Mode == mdChute, allNothing(b.Outs) && allNothing(next.Outs), f)
	return next
}

func checkBrain(t *testing.T, b impl.Brain, want bool) {
	t.Helper()
	if got := impl.BrainOk(b); got != want {
		t.Errorf("BrainOk(%+v) = %v, want %v", b, got, want)
	}
}

func checkTicked(t *testing.T, b impl.Brain, heard string, want impl.Brain) {
	t.Helper()
	if got := impl.Ticked(b, heard); !sameBrain(got, want) {
		t.Errorf("Ticked(%+v, %.200q) =\n%+v, want\n%+v", b, heard, got, want)
	}
}

func checkTickedAsTold(t *testing.T, b impl.Brain, heard string) {
	t.Helper()
	checkTicked(t, b, heard, wantTicked(b, heard))
}

// checkOuts asks for the Outs alone, where nothing is heard.
func checkOuts(t *testing.T, b impl.Brain, want ...int64) {
	t.Helper()
	if got := impl.Ticked(b, "").Outs; !slices.Equal(got, want) {
		t.Errorf("Ticked(%+v, nothing) has the Outs %v, want %v", b, got, want)
	}
}

func checkIsStill(t *testing.T, l []int64, want bool) {
	t.Helper()
	if got := impl.IsStill(l); got != want {
		t.Errorf("IsStill(%v) = %v, want %v", l, got, want)
	}
}

func TestP16Numbers(t *testing.T) {
	if impl.MaxStep != maxStep || impl.HoldHeight != holdHeight {
		t.Errorf("MaxStep and HoldHeight = %d and %d, want %d and %d", impl.MaxStep, impl.HoldHeight, maxStep, holdHeight)
	}
}

func TestP16BrainOk(t *testing.T) {
	for _, b := range rightBrains() {
		checkBrain(t, b, true)
	}
	checkBrain(t, impl.Brain{}, false)
	for _, b := range badBrains() {
		checkBrain(t, b, false)
	}
}

func TestP16BrainOkAtTheLimits(t *testing.T) {
	for _, base := range rightBrains() {
		for _, c := range []struct {
			mode int64
			ok   bool
		}{{-1, false}, {0, true}, {1, true}, {2, true}, {3, true}, {4, true}, {5, true}, {6, false}, {7, false}} {
			checkBrain(t, but(base, func(b *impl.Brain) { b.Mode = c.mode }), c.ok)
		}
		for _, c := range []struct {
			timer int64
			ok    bool
		}{{-1, false}, {0, true}, {1, true}, {999, true}, {1000, true}, {1001, false}} {
			checkBrain(t, withTimer(base, c.timer), c.ok)
		}
		for place := range sevenOuts {
			for _, c := range []struct {
				out int64
				ok  bool
			}{{-1, false}, {0, true}, {1, true}, {99, true}, {999, true}, {1000, true}, {1001, false}} {
				checkBrain(t, but(base, func(b *impl.Brain) { b.Outs[place] = c.out }), c.ok)
			}
		}
		for _, c := range []struct {
			n  int
			ok bool
		}{{0, true}, {1, true}, {59, true}, {60, true}, {61, false}, {62, false}} {
			for _, piece := range []string{"x", "\n", "\x00", "\xff"} {
				checkBrain(t, withTail(base, strings.Repeat(piece, c.n)), c.ok)
			}
		}
		checkBrain(t, withTail(base, strings.Repeat("é", 30)), true)
		checkBrain(t, withTail(base, strings.Repeat("é", 31)), false)
	}
}

func TestP16BrainOkOfEachPart(t *testing.T) {
	for place := range sixFans {
		for _, f := range rightFans() {
			checkBrain(t, withFan(newBrain(), place, f), true)
		}
		for _, f := range badFans() {
			checkBrain(t, withFan(newBrain(), place, f), false)
		}
	}
	for _, g := range rightGates() {
		checkBrain(t, withGate(newBrain(), g), true)
	}
	for _, g := range badGates() {
		checkBrain(t, withGate(newBrain(), g), false)
	}
	for _, s := range rightSenses() {
		checkBrain(t, withSenses(newBrain(), s), true)
	}
}

func TestP16BrainOkOfTheLengths(t *testing.T) {
	for n := range 20 {
		checkBrain(t, but(someBrain(), func(b *impl.Brain) { b.Fans = make([]impl.Fan, n) }), n == 6)
		checkBrain(t, withOuts(someBrain(), make([]int64, n)...), n == 7)
	}
}

func TestP16NewBrain(t *testing.T) {
	b := impl.NewBrain()
	if !sameBrain(b, newBrain()) {
		t.Errorf("NewBrain() = %+v, want %+v", b, newBrain())
	}
	if b.Mode != impl.MdGround || !sameSenses(b.Senses, impl.NewSenses()) {
		t.Errorf("NewBrain() = %+v, which is not on the ground or has not NewSenses", b)
	}
	checkBrain(t, b, true)
}

func overwriteFans(l []impl.Fan) {
	l = l[:cap(l)]
	for i := range l {
		l[i] = fan(77, true, true)
	}
}

func overwriteBrain(b impl.Brain) {
	overwriteFans(b.Fans)
	writeOver(b.Outs)
	overwriteAll(b.Senses)
}

// brainLists overwrite one list each, with the room behind it, and put the one
// in its place that is wanted there.
func brainLists() []func(b *impl.Brain, want impl.Brain) {
	l := []func(b *impl.Brain, want impl.Brain){
		func(b *impl.Brain, want impl.Brain) {
			overwriteFans(b.Fans)
			b.Fans = want.Fans
		},
		func(b *impl.Brain, want impl.Brain) {
			writeOver(b.Outs)
			b.Outs = want.Outs
		},
		func(b *impl.Brain, want impl.Brain) {
			writeOver(b.Senses.Seqs)
			b.Senses.Seqs = want.Senses.Seqs
		},
	}
	for which := range 3 {
		l = append(l, func(b *impl.Brain, want impl.Brain) {
			overwrite(*readingsIn(&b.Senses)[which])
			*readingsIn(&b.Senses)[which] = *readingsIn(&want.Senses)[which]
		})
	}
	return l
}

func checkBrainListsApart(t *testing.T, answer func() impl.Brain, want impl.Brain) {
	t.Helper()
	for i, change := range brainLists() {
		b := answer()
		change(&b, want)
		if !sameBrain(b, want) {
			t.Errorf("list %d of an answer was changed, and all the others are %+v, want %+v", i, b, want)
		}
	}
}

func TestP16NewBrainsShareNoMemory(t *testing.T) {
	one, other := impl.NewBrain(), impl.NewBrain()
	overwriteBrain(one)
	if !sameBrain(other, newBrain()) {
		t.Errorf("one answer was changed, and the other is %+v", other)
	}
	if again := impl.NewBrain(); !sameBrain(again, newBrain()) {
		t.Errorf("an answer was changed, and the next one is %+v", again)
	}
	checkBrainListsApart(t, impl.NewBrain, newBrain())
}

func TestP16IsStill(t *testing.T) {
	checkIsStill(t, nil, true)
	checkIsStill(t, []int64{}, true)
	for _, many := range []int{1, 2, 3, 6, 7, 8, 60, 1000} {
		checkIsStill(t, make([]int64, many), true)
		for place := range many {
			for _, n := range []int64{1, -1, 2, 1000, -1000, 1 << 8, 1 << 32, math.MinInt64, math.MaxInt64} {
				l := make([]int64, many)
				l[place] = n
				checkIsStill(t, l, false)
			}
		}
	}
	// Together they are 0, and yet not all.
	checkIsStill(t, []int64{1, -1}, false)
	checkIsStill(t, []int64{0, math.MinInt64, math.MinInt64}, false)
	checkIsStill(t, []int64{5, 5, 5, 5, 5, 5, 5}, false)
}

func TestP16NothingIsHeard(t *testing.T) {
	want := newBrain()
	want.Timer, want.Senses = 1, allAged(newSenses())
	checkTicked(t, newBrain(), "", want)
	checkTicked(t, impl.NewBrain(), "", want)
	for _, mode := range eachMode() {
		b := kite(mode)
		want := later(b)
		switch mode {
		case mdHover, mdBack:
			want.Outs = sixAnd(100, 0)
		case mdOut, mdGlide:
			want.Outs = sixAnd(100, 100)
		case mdChute:
			want.Gate = gate(1, false)
		}
		checkTicked(t, b, "", want)
		checkTicked(t, b, "\n", want)
		checkTicked(t, b, "\n\nwhat\n*\n", want)
	}
}

// All of one tick at once: a Frame that was cut, a speed that can't be, fans
// that turn and that don't, and the Outs of those that stay on.
func TestP16AllOfOneTick(t *testing.T) {
	text := wantShown(frame(impl.FrSpeed, 11, 110, 401, 95))
	b := but(someBrain(), func(b *impl.Brain) {
		b.Senses.Want, b.Senses.Armed, b.Tail = piStay, false, text[:8]
		b.Fans[4] = fan(2, false, false)
	})
	heard := text[8:] + "noise\n" + shownAll(frame(impl.FrHeight, 22, 410, 400), frame(impl.FrPilot, 44, piOut, 1)) + "F 31 1 2"
	want := impl.Brain{
		Mode:  mdHover,
		Timer: 34,
		Fans:  []impl.Fan{fan(0, false, false), fan(1, false, false), fan(4, true, true), fan(4, false, false), fan(3, false, false), fan(1, false, false)},
		Gate:  impl.Gate{},
		Senses: impl.Senses{
			Speeds:  told(110, 0, 120, 2, 95, 0),
			Heights: told(410, 0, 400, 0),
			Fans:    told(500, 1, 510, 2, 520, 3, 530, 4, 540, 5, 550, 6),
			Want:    piOut,
			Armed:   true,
			Seqs:    []int64{11, 22, 30, 44},
		},
		Outs: []int64{610, 620, 0, 640, 650, 0, 0},
		Tail: "F 31 1 2",
	}
	checkTicked(t, b, heard, want)
	// The same where one more is given up in this tick.
	b.Fans[4], want.Fans[4] = fan(4, false, false), fan(5, true, true)
	want.Mode, want.Timer, want.Outs = mdChute, 0, sixAnd(0, 0)
	checkTicked(t, b, heard, want)
}

// pilotText is the Frame that tells most easily whether it was heard: by its Seq
// and by what the pilot wants.
func pilotText(seq int64) string { return wantShown(frame(impl.FrPilot, seq, piLand, 1)) }

func afterPilot(b impl.Brain, seq int64) impl.Brain {
	return but(later(b), func(b *impl.Brain) {
		b.Senses.Want, b.Senses.Armed, b.Senses.Seqs[3] = piLand, true, seq
	})
}

// deaf is on the way back, with its Outs as they are to be: it stays so, whatever
// the pilot wants.
func deaf() impl.Brain { return withOuts(kite(mdBack), sixAnd(500, 0)...) }

func padded(n int, behind string) string { return strings.Repeat("x", n-len(behind)) + behind }

func TestP16HeardOfTheGreatestLength(t *testing.T) {
	text := pilotText(41)
	for _, tail := range []string{"", "x", "P 41", strings.Repeat("x", 59), strings.Repeat("x", 60)} {
		b := withTail(deaf(), tail)
		for _, n := range []int{1000, 1998, 1999, 2000} {
			checkTicked(t, b, padded(n, "\n"+text), afterPilot(b, 41))
			checkTicked(t, b, padded(n, "\n"+text+"P 42"), withTail(afterPilot(b, 41), "P 42"))
			checkTicked(t, b, padded(n, "\n"+text+strings.Repeat("é", 30)), withTail(afterPilot(b, 41), strings.Repeat("é", 30)))
		}
		for _, n := range []int{2001, 2002, 2060, 2061, 3000, 3940, 3941, 4000, 4001, 1 << 16, 1<<16 + 100} {
			checkTicked(t, b, padded(n, "\n"+text), later(b))
			checkTicked(t, b, padded(n, "\n"+text+"P 42"), later(b))
			checkTicked(t, b, "\n"+text+strings.Repeat("\n", n-len(text)-1), later(b))
		}
	}
}

// What is behind a Tail is of no use where too much is heard, nor is the Tail in
// the tick behind it.
func TestP16TooMuchTakesTheTailAway(t *testing.T) {
	text := pilotText(41)
	for cut := range len(text) {
		b := withTail(deaf(), text[:cut])
		much := text[cut:] + strings.Repeat("\n", mostHeard)
		checkTicked(t, b, much[:mostHeard], afterPilot(b, 41))
		checkTicked(t, b, much[:mostHeard+1], later(b))
		checkTicked(t, b, strings.Repeat("\n", mostHeard+1), later(b))
		if cut > 0 {
			checkTicked(t, impl.Ticked(b, strings.Repeat("x", mostHeard+1)), text[cut:], later(later(b)))
		}
	}
	// They are bytes that are counted, and 2000 of them are heard of 1000 letters.
	two := strings.Repeat("é", 900)
	checkTicked(t, deaf(), padded(200, "\n"+text)[:200-len(text)]+text+two, afterPilot(deaf(), 41))
	checkTicked(t, deaf(), padded(201, "\n"+text)+two, later(deaf()))
}

// Of many Frames in what is heard only the first 50 are read.
func TestP16ManyFramesAreHeard(t *testing.T) {
	var l []impl.Frame
	for seq := range int64(60) {
		l = append(l, frame(impl.FrPilot, seq, piLand, 1))
	}
	b := withSenses(deaf(), withSeq(deaf().Senses, 3, 99))
	checkTicked(t, b, shownAll(l...), afterPilot(b, 49))
	checkTicked(t, withTail(b, "x\n"), shownAll(l...), afterPilot(b, 49))
	checkTicked(t, b, shownAll(l[:50]...), afterPilot(b, 49))
	checkTicked(t, b, shownAll(l[:49]...), afterPilot(b, 48))
}

// A Frame that is cut anywhere is heard in the second tick, and in the first one
// nothing; of one that is longer than a Tail can be no more than 60 bytes are kept.
func TestP16AFrameThatIsCut(t *testing.T) {
	for _, text := range []string{pilotText(41), longLine, shortLine, wantShown(frame(impl.FrSpeed, 60, 100, 100, 100))} {
		for _, tail := range []string{"", "noise\n", pilotText(40)} {
			b := withSenses(withTail(deaf(), tail), withSeqs(deaf().Senses, 59, 99, 98, 40))
			for cut := range len(text) {
				one := wantTicked(b, text[:cut])
				if cut <= maxLeft {
					one.Tail = text[:cut]
				} else {
					one.Tail = ""
				}
				checkTicked(t, b, text[:cut], one)
				checkTicked(t, one, text[cut:], wantTicked(one, text[cut:]))
				whole := impl.Ticked(impl.Ticked(b, ""), text).Senses.Seqs
				if got := impl.Ticked(one, text[cut:]).Senses.Seqs; slices.Equal(got, whole) != (cut <= maxLeft) {
					t.Errorf("%q cut at %d: the Seqs are %v, and those of the whole are %v", text, cut, got, whole)
				}
			}
		}
	}
}

func TestP16ByteByByte(t *testing.T) {
	text := pilotText(41)
	b := deaf()
	for i := range len(text) - 1 {
		b = impl.Ticked(b, text[i:i+1])
		if b.Tail != text[:i+1] || b.Senses.Seqs[3] != 40 {
			t.Errorf("behind %q the Tail is %q, and the Seqs are %v", text[:i+1], b.Tail, b.Senses.Seqs)
		}
	}
	b = impl.Ticked(b, text[len(text)-1:])
	if b.Tail != "" || b.Senses.Seqs[3] != 41 || b.Senses.Want != piLand {
		t.Errorf("behind %q byte by byte the Tail is %q, and the Senses are %+v", text, b.Tail, b.Senses)
	}
}

// A Tail of 60 bytes, behind which the rest of a line comes, is read with it.
func TestP16TheLongestTail(t *testing.T) {
	b := withTail(deaf(), longLine[:maxLeft])
	heard := but(later(b), func(b *impl.Brain) {
		b.Senses.Fans = told(0, 0, 0, 0, 0, 0, 0, 0, 0, 0, 0, 0)
		b.Senses.Seqs[2] = 99
		b.Fans = slices.Repeat([]impl.Fan{fan(1, false, false)}, sixFans)
	})
	b.Senses.Seqs[2] = 98
	checkTicked(t, b, longLine[maxLeft:], heard)
	checkTicked(t, b, longLine[maxLeft:]+"x", withTail(heard, "x"))
	checkTicked(t, b, "", withTail(later(b), b.Tail))
	checkTicked(t, b, "x", later(b))
	checkTicked(t, b, longLine[maxLeft:len(longLine)-1], later(b))
	checkTicked(t, b, "\n", later(b))
	short := withTail(b, b.Tail[:59])
	checkTicked(t, short, longLine[59:60], withTail(later(b), b.Tail))
	checkTicked(t, short, longLine[59:61], later(b))
	checkTicked(t, short, longLine[59:], heard)
}

func TestP16NoiseBetweenFrames(t *testing.T) {
	some := said()
	b := withSenses(deaf(), someSenses())
	for _, noise := range noLines() {
		var text strings.Builder
		for _, f := range some {
			text.WriteString(noise + wantShown(f))
		}
		want := wantTicked(b, shownAll(some...))
		if !slices.Equal(want.Senses.Seqs, []int64{11, 22, 33, 44}) {
			t.Fatalf("without noise the Seqs are %v", want.Senses.Seqs)
		}
		heard := text.String() + noise
		if len(heard) <= mostHeard {
			checkTicked(t, b, heard, want)
			checkTicked(t, b, heard+"H 23 4", withTail(want, "H 23 4"))
		}
		// Without its byte 10 it takes the Frame behind it away, and no more.
		checkTickedAsTold(t, b, wantShown(some[0])+noise[:len(noise)-1]+wantShown(some[1])+wantShown(some[2]))
	}
}

func TestP16TheTimer(t *testing.T) {
	for _, mode := range eachMode() {
		for _, c := range []struct{ ahead, behind int64 }{{0, 1}, {1, 2}, {58, 59}, {59, 60}, {500, 501}, {998, 999}, {999, 1000}, {1000, 1000}} {
			if got := impl.Ticked(withTimer(kite(mode), c.ahead), ""); got.Mode == mode && got.Timer != c.behind {
				t.Errorf("in Mode %d behind a Timer of %d there is %d, want %d", mode, c.ahead, got.Timer, c.behind)
			} else if got.Mode != mode && got.Timer != 0 {
				t.Errorf("behind Mode %d and a Timer of %d there is Mode %d with a Timer of %d", mode, c.ahead, got.Mode, got.Timer)
			}
			checkTickedAsTold(t, withTimer(kite(mode), c.ahead), "")
		}
	}
}

// It is the Timer ahead of the tick that tells whether it takes too long.
func TestP16TheTimerThatIsAsked(t *testing.T) {
	for _, c := range []struct{ mode, timer, next, behind int64 }{
		{mdOut, 58, mdOut, 59},
		{mdOut, 59, mdOut, 60},
		{mdOut, 60, mdBack, 0},
		{mdOut, 61, mdBack, 0},
		{mdBack, 78, mdBack, 79},
		{mdBack, 79, mdBack, 80},
		{mdBack, 80, mdHover, 0},
		{mdBack, 1000, mdHover, 0},
		{mdHover, 1000, mdHover, 1000},
		{mdGlide, 1000, mdGlide, 1000},
		{mdGround, 1000, mdGround, 1000},
		{mdChute, 999, mdChute, 1000},
	} {
		if got := impl.Ticked(withTimer(kite(c.mode), c.timer), ""); got.Mode != c.next || got.Timer != c.behind {
			t.Errorf("Mode %d with a Timer of %d leads to %d with %d, want %d with %d", c.mode, c.timer, got.Mode, got.Timer, c.next, c.behind)
		}
	}
}

// armedKite would leave the ground.
func armedKite() impl.Brain {
	return but(kite(mdGround), func(b *impl.Brain) { b.Senses.Armed = true })
}

func TestP16WhichModeIsNext(t *testing.T) {
	for _, c := range []struct {
		name string
		b    impl.Brain
		next int64
	}{
		{"not armed", kite(mdGround), mdGround},
		{"armed", armedKite(), mdHover},
		{"armed, no speed", speedNotOk(armedKite()), mdGround},
		{"armed, no height", heightNotOk(armedKite()), mdGround},
		{"armed, one fan out", givenUp(armedKite(), 1), mdGround},
		{"armed, two fans out", givenUp(armedKite(), 3), mdGround},
		{"hovers", kite(mdHover), mdHover},
		{"hovers, to land, at 2", atKnownHeight(wanting(kite(mdHover), piLand), 2), mdHover},
		{"hovers, to land, at 1", atKnownHeight(wanting(kite(mdHover), piLand), 1), mdGround},
		{"hovers, to go out", wanting(kite(mdHover), piOut), mdOut},
		{"hovers, to go out, no speed", speedNotOk(wanting(kite(mdHover), piOut)), mdHover},
		{"hovers, to go out, one fan out", givenUp(wanting(kite(mdHover), piOut), 8), mdHover},
		{"hovers, two fans out", givenUp(kite(mdHover), 9), mdChute},
		{"goes out", kite(mdOut), mdOut},
		{"goes out at 199", atSpeed(kite(mdOut), 199), mdOut},
		{"goes out at 200", atSpeed(kite(mdOut), 200), mdGlide},
		{"goes out, no speed", speedNotOk(kite(mdOut)), mdBack},
		{"goes out, one fan out", givenUp(kite(mdOut), 4), mdBack},
		{"goes out, to stay", wanting(kite(mdOut), piStay), mdBack},
		{"goes out, two fans out", givenUp(kite(mdOut), 6), mdChute},
		{"glides", kite(mdGlide), mdGlide},
		{"glides, one fan out", givenUp(kite(mdGlide), 32), mdGlide},
		{"glides at 120", atSpeed(kite(mdGlide), 120), mdGlide},
		{"glides at 119", atSpeed(kite(mdGlide), 119), mdBack},
		{"glides, no speed", speedNotOk(kite(mdGlide)), mdBack},
		{"glides, to land", wanting(kite(mdGlide), piLand), mdBack},
		{"glides, two fans out", givenUp(kite(mdGlide), 48), mdChute},
		{"back", kite(mdBack), mdBack},
		{"back at 61", atSpeed(kite(mdBack), 61), mdBack},
		{"back at 60", atSpeed(kite(mdBack), 60), mdHover},
		{"back, no speed", speedNotOk(atSpeed(kite(mdBack), 60)), mdBack},
		{"back, two fans out", givenUp(kite(mdBack), 63), mdChute},
		{"chute", kite(mdChute), mdChute},
		{"chute, armed", but(armedKite(), func(b *impl.Brain) { b.Mode = mdChute }), mdChute},
	} {
		got := impl.Ticked(c.b, "")
		if got.Mode != c.next || (got.Timer == 0) != (c.next != c.b.Mode) {
			t.Errorf("%s: Mode %d with Timer %d, want %d", c.name, got.Mode, got.Timer, c.next)
		}
		checkTickedAsTold(t, c.b, "")
	}
}

// facing are Brains in that Mode with all that NextMode asks both ways.
func facing(mode int64) []impl.Brain {
	l := []impl.Brain{kite(mode), armedKite()}
	l[1].Mode = mode
	for _, change := range []func(impl.Brain) []impl.Brain{
		func(b impl.Brain) []impl.Brain {
			return []impl.Brain{wanting(b, piStay), wanting(b, piOut), wanting(b, piLand)}
		},
		func(b impl.Brain) []impl.Brain {
			return []impl.Brain{atSpeed(b, 60), atSpeed(b, 61), atSpeed(b, 119), atSpeed(b, 120), atSpeed(b, 199), atSpeed(b, 200)}
		},
		func(b impl.Brain) []impl.Brain { return []impl.Brain{b, speedNotOk(b)} },
		func(b impl.Brain) []impl.Brain { return []impl.Brain{b, atKnownHeight(b, 1), heightNotOk(b)} },
		func(b impl.Brain) []impl.Brain { return []impl.Brain{b, givenUp(b, 1), givenUp(b, 5)} },
		func(b impl.Brain) []impl.Brain {
			return []impl.Brain{withTimer(b, 59), withTimer(b, 60), withTimer(b, 80)}
		},
	} {
		var all []impl.Brain
		for _, b := range l {
			all = append(all, change(b)...)
		}
		l = all
	}
	return l
}

func TestP16EachModeThatMayFollow(t *testing.T) {
	for _, mode := range eachMode() {
		followed := map[int64]bool{}
		for _, b := range facing(mode) {
			followed[impl.Ticked(b, "").Mode] = true
			checkTickedAsTold(t, b, "")
		}
		for _, next := range eachMode() {
			if followed[next] != slices.Contains(wantFollowers(mode), next) {
				t.Errorf("behind Mode %d there is Mode %d: %v", mode, next, followed[next])
			}
		}
	}
}

// What is heard counts in the tick in which it is heard.
func TestP16WhatIsHeardCountsAtOnce(t *testing.T) {
	for _, c := range []struct {
		name  string
		b     impl.Brain
		heard impl.Frame
		next  int64
	}{
		{"armed", kite(mdGround), frame(impl.FrPilot, 41, piStay, 1), mdHover},
		{"not armed", armedKite(), frame(impl.FrPilot, 41, piStay, 0), mdGround},
		{"to go out", kite(mdHover), frame(impl.FrPilot, 41, piOut, 0), mdOut},
		{"to stay", kite(mdOut), frame(impl.FrPilot, 41, piStay, 0), mdBack},
		{"fast", atSpeed(kite(mdOut), 190), frame(impl.FrSpeed, 11, 200, 200, 200), mdGlide},
		{"slow", atSpeed(kite(mdBack), 70), frame(impl.FrSpeed, 11, 60, 60, 60), mdHover},
		{"stalls", atSpeed(kite(mdGlide), 130), frame(impl.FrSpeed, 11, 119, 119, 119), mdBack},
		{"low", atKnownHeight(wanting(kite(mdHover), piLand), 40), frame(impl.FrHeight, 21, 1, 1), mdGround},
		{"an old Frame", kite(mdGround), frame(impl.FrPilot, 40, piStay, 1), mdGround},
	} {
		if got := impl.Ticked(c.b, wantShown(c.heard)).Mode; got != c.next {
			t.Errorf("%s: the Mode is %d, want %d", c.name, got, c.next)
		}
		checkTickedAsTold(t, c.b, wantShown(c.heard))
	}
}

func TestP16OutsOfEachCase(t *testing.T) {
	for _, mode := range eachMode() {
		for bits := range 1 << sixFans {
			for _, old := range []int64{0, 100, 700, 1000} {
				b := withOuts(givenUp(kite(mode), bits), sixAnd(old, old)...)
				checkTickedAsTold(t, b, "")
			}
		}
	}
}

func TestP16WhoDoesNotStayOnStands(t *testing.T) {
	for c := int64(1); c <= 6; c++ {
		for _, mode := range []int64{mdHover, mdBack} {
			b := withOuts(givenUp(kite(mode), 1<<(c-1)), sixAnd(600, 1000)...)
			for _, on := range []int64{700, 750, 750} {
				b = impl.Ticked(b, "")
				want := sixAnd(0, 0)
				for _, stays := range wantStays(c) {
					want[stays] = on
				}
				if b.Mode != mode || !slices.Equal(b.Outs, want) {
					t.Errorf("in case %d and Mode %d: Mode %d, Outs %v, want %v", c, mode, b.Mode, b.Outs, want)
				}
			}
		}
	}
}

func TestP16WhereNoneStaysOnAllStand(t *testing.T) {
	for _, mode := range []int64{mdHover, mdOut, mdGlide, mdBack} {
		for bits := range 1 << sixFans {
			if bits&(bits-1) == 0 {
				continue
			}
			b := impl.Ticked(withOuts(givenUp(kite(mode), bits), sixAnd(600, 1000)...), "")
			if b.Mode != mdChute || !allNothing(b.Outs) {
				t.Errorf("with the fans %06b given up in Mode %d: Mode %d, Outs %v", bits, mode, b.Mode, b.Outs)
			}
		}
	}
}

// A kite that hovers at this height, whose Outs are already as they are to be.
func TestP16LiftByHeight(t *testing.T) {
	for _, c := range []struct{ height, lift int64 }{
		{400, 500}, {399, 502}, {401, 498}, {390, 520}, {410, 480}, {300, 700}, {500, 300},
		{252, 796}, {251, 798}, {250, 800}, {249, 800}, {248, 800}, {1, 800}, {0, 800}, {-1, 800}, {-400, 800}, {-maxSize, 800},
		{548, 204}, {549, 202}, {550, 200}, {551, 200}, {552, 200}, {650, 200}, {651, 200}, {2000, 200}, {maxSize, 200},
	} {
		for _, mode := range []int64{mdHover, mdBack} {
			b := atKnownHeight(kite(mode), c.height)
			checkOuts(t, withOuts(b, sixAnd(c.lift, 0)...), sixAnd(c.lift, 0)...)
			checkOuts(t, withOuts(b, sixAnd(c.lift+1, 0)...), sixAnd(c.lift, 0)...)
			checkOuts(t, withOuts(b, sixAnd(c.lift-1, 0)...), sixAnd(c.lift, 0)...)
			for bits := range sixFans {
				of4 := min(c.lift*3/2, maxOut)
				b := givenUp(b, 1<<bits)
				got := impl.Ticked(withOuts(b, sixAnd(of4, 0)...), "").Outs
				slices.Sort(got)
				if want := []int64{0, 0, 0, of4, of4, of4, of4}; !slices.Equal(got, want) {
					t.Errorf("at %d with fan %d given up there are the Outs %v, in order, want %v", c.height, bits, got, want)
				}
			}
			checkOuts(t, withOuts(givenUp(b, 3), sixAnd(c.lift, 0)...), sixAnd(0, 0)...)
		}
	}
}

// The height of one alone that is Fresh, and the lesser one of two, count.
func TestP16LiftWhereTheHeightIsNotOk(t *testing.T) {
	for _, c := range []struct {
		heights []impl.Reading
		lift    int64
	}{
		{told(300, 2, 305, 2), 700},
		{told(300, 3, 310, 0), 680},
		{told(310, 0, 300, 3), 680},
		{told(300, 2, 310, 2), 700},
		{told(300, 0, 311, 0), 500},
		{told(311, 0, 300, 0), 500},
		{told(0, 0, 2000, 0), 500},
		{told(300, 3, 310, 3), 500},
		{told(0, 3, 0, 3), 500},
		{told(2000, 999, 2000, 3), 500},
		{zeroReadings(2), 500},
	} {
		for _, mode := range []int64{mdHover, mdBack} {
			b := withSenses(kite(mode), withReadings(kite(mode).Senses, 1, c.heights))
			checkOuts(t, withOuts(b, sixAnd(c.lift, 0)...), sixAnd(c.lift, 0)...)
			of4 := min(c.lift*3/2, maxOut)
			checkOuts(t, withOuts(givenUp(b, 8), sixAnd(of4, 0)...), 0, of4, of4, 0, of4, of4, 0)
		}
	}
}

// A kite on the way back at this speed, of a Lift of 500 or 502, or of more than
// a fan can have.
func TestP16LiftBySpeed(t *testing.T) {
	for _, c := range []struct{ speed, of500, of502, of4, cut int64 }{
		{-maxSize, 500, 502, 753, 1000},
		{-1, 500, 502, 753, 1000},
		{0, 500, 502, 753, 1000},
		{61, 500, 502, 753, 1000},
		{99, 500, 502, 753, 1000},
		{100, 500, 502, 753, 1000},
		{101, 495, 496, 745, 1000},
		{110, 450, 451, 677, 1000},
		{116, 420, 421, 632, 1000},
		{117, 415, 416, 624, 996},
		{150, 250, 251, 376, 600},
		{198, 10, 10, 15, 24},
		{199, 5, 5, 7, 12},
		{200, 0, 0, 0, 0},
		{201, 0, 0, 0, 0},
		{400, 0, 0, 0, 0},
		{maxSize, 0, 0, 0, 0},
	} {
		mode := mdBack
		if c.speed <= 60 {
			mode = mdHover
		}
		b := atSpeed(kite(mode), c.speed)
		checkOuts(t, withOuts(b, sixAnd(c.of500, 0)...), sixAnd(c.of500, 0)...)
		checkOuts(t, withOuts(atKnownHeight(b, 399), sixAnd(c.of502, 0)...), sixAnd(c.of502, 0)...)
		checkOuts(t, withOuts(givenUp(atKnownHeight(b, 399), 1), sixAnd(c.of4, 0)...), 0, c.of4, c.of4, 0, c.of4, c.of4, 0)
		checkOuts(t, withOuts(givenUp(atKnownHeight(b, 0), 1), sixAnd(c.cut, 0)...), 0, c.cut, c.cut, 0, c.cut, c.cut, 0)
	}
}

// Where it is not known how fast it goes the fans have all of it, even where
// what was heard last, or from one place alone, was fast.
func TestP16LiftWhereTheSpeedIsNotOk(t *testing.T) {
	for _, c := range []struct {
		speeds []impl.Reading
		lift   int64
	}{
		{told(150, 2, 150, 2, 150, 2), 250},
		{told(150, 2, 150, 2, 400, 3), 250},
		{told(190, 0, 110, 0, 400, 3), 250},
		{told(190, 0, 110, 0, 150, 0), 250},
		{told(150, 0, 150, 3, 150, 3), 500},
		{told(150, 3, 150, 0, 150, 3), 500},
		{told(150, 3, 150, 3, 150, 0), 500},
		{told(400, 3, 400, 3, 400, 3), 500},
		{told(400, 999, 400, 1000, 400, 0), 500},
		{zeroReadings(3), 500},
	} {
		for _, mode := range []int64{mdHover, mdBack} {
			b := withSenses(kite(mode), withReadings(kite(mode).Senses, 0, c.speeds))
			checkOuts(t, withOuts(b, sixAnd(c.lift, 0)...), sixAnd(c.lift, 0)...)
		}
	}
}

func TestP16ThePush(t *testing.T) {
	for _, c := range []struct {
		b          impl.Brain
		mode, push int64
	}{
		{atSpeed(kite(mdOut), 0), mdOut, 1000},
		{atSpeed(kite(mdOut), 100), mdOut, 1000},
		{atSpeed(kite(mdOut), 199), mdOut, 1000},
		{wanting(kite(mdHover), piOut), mdOut, 1000},
		{atSpeed(kite(mdOut), 200), mdGlide, 500},
		{atSpeed(kite(mdOut), 201), mdGlide, 490},
		{atSpeed(kite(mdGlide), 120), mdGlide, 1000},
		{atSpeed(kite(mdGlide), 149), mdGlide, 1000},
		{atSpeed(kite(mdGlide), 150), mdGlide, 1000},
		{atSpeed(kite(mdGlide), 151), mdGlide, 990},
		{atSpeed(kite(mdGlide), 199), mdGlide, 510},
		{atSpeed(kite(mdGlide), 200), mdGlide, 500},
		{atSpeed(kite(mdGlide), 249), mdGlide, 10},
		{atSpeed(kite(mdGlide), 250), mdGlide, 0},
		{atSpeed(kite(mdGlide), 251), mdGlide, 0},
		{atSpeed(kite(mdGlide), maxSize), mdGlide, 0},
		{atSpeed(kite(mdGlide), 119), mdBack, 0},
		{wanting(kite(mdGlide), piStay), mdBack, 0},
		{wanting(kite(mdOut), piStay), mdBack, 0},
		{withTimer(kite(mdOut), 60), mdBack, 0},
		{kite(mdBack), mdBack, 0},
		{atSpeed(kite(mdBack), 200), mdBack, 0},
		{atSpeed(kite(mdBack), 60), mdHover, 0},
		{kite(mdHover), mdHover, 0},
		{atSpeed(kite(mdHover), 180), mdHover, 0},
		{kite(mdGround), mdGround, 0},
		{armedKite(), mdHover, 0},
		{kite(mdChute), mdChute, 0},
		{givenUp(kite(mdOut), 3), mdChute, 0},
		{givenUp(kite(mdGlide), 3), mdChute, 0},
	} {
		for _, old := range []int64{0, 1, 99, 100, 101, 400, 401, 500, 510, 600, 601, 900, 999, 1000} {
			got := impl.Ticked(withOuts(c.b, sixAnd(500, old)...), "")
			if want := wantStep(old, c.push, maxStep); got.Mode != c.mode || got.Outs[6] != want {
				t.Errorf("behind Mode %d with a push of %d: Mode %d with one of %d, want Mode %d with %d", c.b.Mode, old, got.Mode, got.Outs[6], c.mode, want)
			}
		}
	}
}

func TestP16OutsGoByAStep(t *testing.T) {
	for _, c := range []struct{ old, behind int64 }{
		{0, 100}, {1, 101}, {99, 199}, {100, 200}, {101, 201}, {300, 400}, {398, 498}, {399, 499}, {400, 500}, {401, 500}, {402, 500}, {499, 500},
		{500, 500}, {501, 500}, {598, 500}, {599, 500}, {600, 500}, {601, 501}, {602, 502}, {700, 600}, {999, 899}, {1000, 900},
	} {
		checkOuts(t, withOuts(kite(mdHover), sixAnd(c.old, 0)...), sixAnd(c.behind, 0)...)
		for place := range sixFans {
			old, behind := sixAnd(500, 0), sixAnd(500, 0)
			old[place], behind[place] = c.old, c.behind
			checkOuts(t, withOuts(kite(mdBack), old...), behind...)
		}
	}
	for _, old := range []int64{1, 99, 100, 101, 500, 1000} {
		checkOuts(t, withOuts(atSpeed(kite(mdHover), 200), sixAnd(old, old)...), sixAnd(0, 0)...)
		checkOuts(t, withOuts(kite(mdGround), sixAnd(old, old)...), sixAnd(0, 0)...)
		checkOuts(t, withOuts(kite(mdChute), sixAnd(old, old)...), sixAnd(0, 0)...)
		checkOuts(t, withOuts(givenUp(kite(mdHover), 3), sixAnd(old, old)...), sixAnd(0, 0)...)
	}
	checkOuts(t, withOuts(kite(mdOut), 0, 450, 500, 550, 600, 1000, 900), 100, 500, 500, 500, 500, 900, 1000)
	checkOuts(t, withOuts(kite(mdOut), 399, 400, 401, 601, 600, 599, 899), 499, 500, 500, 501, 500, 500, 999)
	checkOuts(t, withOuts(kite(mdOut), 399, 400, 401, 601, 600, 599, 901), 499, 500, 500, 501, 500, 500, 1000)
}

// A fan is Watched by its own Out, as it was ahead of this tick.
func TestP16FansAreWatched(t *testing.T) {
	for _, c := range []struct {
		out, told, age int64
		behind         int64
	}{
		{500, 250, 0, 2},
		{500, 249, 0, 4},
		{500, 0, 0, 4},
		{500, 1000, 2, 2},
		{500, 1000, 3, 4},
		{400, 200, 0, 2},
		{400, 199, 0, 4},
		{600, 300, 0, 2},
		{600, 299, 0, 4},
		{200, 100, 0, 2},
		{200, 99, 0, 4},
		{100, 50, 0, 2},
		{100, 49, 0, 4},
		{99, 49, 0, 3},
		{99, 0, 0, 3},
		{0, 0, 0, 3},
		{0, 1000, 0, 3},
		{1000, 500, 0, 2},
		{1000, 499, 0, 4},
	} {
		for place := range sixFans {
			b := withFan(kite(mdHover), place, fan(3, false, false))
			b.Outs[place], b.Senses.Fans[place] = c.out, reading(c.told, c.age, true)
			got := impl.Ticked(b, "").Fans
			want := make([]impl.Fan, sixFans)
			want[place] = fan(c.behind, false, false)
			if !slices.Equal(got, want) {
				t.Errorf("fan %d by an Out of %d told %d, Age %d: %v, want %v", place, c.out, c.told, c.age, got, want)
			}
		}
	}
}

// What a fan tells in this tick counts in it, and not what it told before.
func TestP16FansTellInThisTick(t *testing.T) {
	b := but(withOuts(kite(mdHover), sixAnd(500, 0)...), func(b *impl.Brain) {
		b.Fans = slices.Repeat([]impl.Fan{fan(3, false, false)}, sixFans)
		b.Senses.Fans = told(0, 0, 1000, 0, 1000, 3, 0, 3, 249, 0, 250, 0)
	})
	checkFans := func(heard string, behind ...int64) {
		t.Helper()
		for i, f := range impl.Ticked(b, heard).Fans {
			if f != fan(behind[i], false, false) {
				t.Errorf("behind %q fan %d is %v, want an N of %d", heard, i, f, behind[i])
			}
		}
	}
	checkFans("", 4, 2, 4, 4, 4, 2)
	checkFans(wantShown(frame(impl.FrFans, 31, 250, 249, 250, 250, 250, 249)), 2, 4, 2, 2, 2, 4)
	checkFans(wantShown(frame(impl.FrFans, 31, maxSize, -maxSize, 1001, -1, 251, 0)), 2, 4, 2, 4, 2, 4)
	checkFans(wantShown(frame(impl.FrFans, 30, 250, 249, 250, 250, 250, 249)), 4, 2, 4, 4, 4, 2)
	checkFans(wantShown(frame(impl.FrFans, 31, 250, 249, 250, 250, 250, 249))[1:], 4, 2, 4, 4, 4, 2)
}

// By the Out that it has in the same tick it would turn less than half.
func TestP16FansAreWatchedByTheOutAhead(t *testing.T) {
	b := withOuts(kite(mdHover), sixAnd(200, 0)...)
	b.Senses.Fans = told(100, 0, 100, 0, 100, 0, 100, 0, 100, 0, 100, 0)
	got := impl.Ticked(b, "")
	if !slices.Equal(got.Fans, make([]impl.Fan, sixFans)) || !slices.Equal(got.Outs, sixAnd(300, 0)) {
		t.Errorf("behind Outs of 200 with half of it told: %v, %v", got.Fans, got.Outs)
	}
	got = impl.Ticked(got, "")
	if !slices.Equal(got.Fans, slices.Repeat([]impl.Fan{fan(1, false, false)}, sixFans)) {
		t.Errorf("behind Outs of 300 with 100 told: %v", got.Fans)
	}
}

// heardIn is what is heard in the tick of that number: but for the fans it stays
// as it is in a kite.
func heardIn(n int64, fans []int64) string {
	return shownAll(ordinary(impl.FrSpeed, 10+n, 100), ordinary(impl.FrHeight, 20+n, 400), frame(impl.FrFans, 30+n, fans...))
}

// A fan that is given up in a tick stands in it already, with the one across,
// and the others have its part from then on.
func TestP16AFanIsGivenUp(t *testing.T) {
	for place := range sixFans {
		b := withOuts(kite(mdHover), sixAnd(500, 0)...)
		wantFans := make([]impl.Fan, sixFans)
		for tick := int64(1); tick <= 8; tick++ {
			turns := slices.Repeat([]int64{500}, sixFans)
			turns[place] = 249
			if tick > 5 {
				turns[place] = 1000
			}
			b = impl.Ticked(b, heardIn(tick, turns))
			wantFans[place] = fan(min(tick, 5), tick >= 5, tick >= 5)
			want := sixAnd([]int64{0, 500, 500, 500, 500, 600, 700, 750, 750}[tick], 0)
			if tick >= 5 {
				want[place], want[(place+3)%6] = 0, 0
			}
			if b.Mode != mdHover || !slices.Equal(b.Fans, wantFans) || !slices.Equal(b.Outs, want) {
				t.Errorf("fan %d stands since %d ticks: Mode %d, %v, %v, want %v, %v", place, tick, b.Mode, b.Fans, b.Outs, wantFans, want)
			}
		}
	}
}

// Four ticks of standing are not enough, however often there are four.
func TestP16AFanThatTurnsIsNotGivenUp(t *testing.T) {
	for place := range sixFans {
		b := withOuts(kite(mdHover), sixAnd(500, 0)...)
		want := make([]impl.Fan, sixFans)
		for tick := int64(1); tick <= 48; tick++ {
			turns := slices.Repeat([]int64{500}, sixFans)
			turns[place] = []int64{250, 249, 249, 249, 249, 250, 250, 250}[tick%8]
			b = impl.Ticked(b, heardIn(tick, turns))
			want[place] = fan([]int64{0, 1, 2, 3, 4, 3, 2, 1}[tick%8], false, false)
			if b.Mode != mdHover || !slices.Equal(b.Fans, want) || !slices.Equal(b.Outs, sixAnd(500, 0)) {
				t.Errorf("behind %d ticks: Mode %d, %v, %v, want %v", tick, b.Mode, b.Fans, b.Outs, want)
			}
		}
	}
}

// Below Floor a fan is not watched, and yet given up where its Low is On.
func TestP16AFanWhoseLowIsOn(t *testing.T) {
	for place := range sixFans {
		for _, n := range []int64{0, 1, 5, 100} {
			b := withFan(armedKite(), place, fan(n, true, false))
			want := later(b)
			want.Fans[place].Out = true
			checkTicked(t, b, "", want)
			b.Mode, want.Mode = mdHover, mdHover
			for _, stays := range wantStays(int64(place + 1)) {
				want.Outs[stays] = 100
			}
			checkTicked(t, b, "", want)
		}
	}
}

func TestP16TheGate(t *testing.T) {
	push, fan2 := sixAnd(0, 1), []int64{0, 0, 1, 0, 0, 0, 0}
	for _, c := range []struct {
		b      impl.Brain
		ahead  impl.Gate
		behind impl.Gate
	}{
		{kite(mdChute), gate(0, false), gate(1, false)},
		{kite(mdChute), gate(1, false), gate(2, false)},
		{kite(mdChute), gate(2, false), gate(3, false)},
		{kite(mdChute), gate(3, false), gate(4, true)},
		{kite(mdChute), gate(50, false), gate(51, true)},
		{kite(mdChute), gate(99, false), gate(100, true)},
		{kite(mdChute), gate(100, false), gate(100, true)},
		{withOuts(kite(mdChute), push...), gate(3, false), gate(0, false)},
		{withOuts(kite(mdChute), fan2...), gate(3, false), gate(0, false)},
		{withOuts(kite(mdChute), sixAnd(500, 500)...), gate(99, false), gate(0, false)},
		{kite(mdGround), gate(3, false), gate(0, false)},
		{kite(mdHover), gate(3, false), gate(0, false)},
		{atSpeed(kite(mdHover), 200), gate(3, false), gate(0, false)},
		{atSpeed(kite(mdGlide), 250), gate(3, false), gate(0, false)},
		{kite(mdOut), gate(99, false), gate(0, false)},
		{kite(mdBack), gate(3, false), gate(0, false)},
		{givenUp(kite(mdGround), 3), gate(3, false), gate(0, false)},
		{givenUp(kite(mdHover), 3), gate(0, false), gate(1, false)},
		{givenUp(kite(mdHover), 3), gate(3, false), gate(4, true)},
		{givenUp(kite(mdGlide), 3), gate(3, false), gate(4, true)},
		{givenUp(withOuts(kite(mdHover), push...), 3), gate(3, false), gate(0, false)},
		{givenUp(withOuts(kite(mdGlide), push...), 3), gate(3, false), gate(0, false)},
		{givenUp(kite(mdChute), 63), gate(2, false), gate(3, false)},
		{givenUp(kite(mdChute), 63), gate(3, false), gate(4, true)},
	} {
		b := withGate(c.b, c.ahead)
		if got := impl.Ticked(b, "").Gate; got != c.behind {
			t.Errorf("Ticked(%+v, nothing) has the gate %v, want %v", b, got, c.behind)
		}
		checkTickedAsTold(t, b, "")
	}
}

func TestP16TheGateByTheHeight(t *testing.T) {
	for _, c := range []struct {
		heights []impl.Reading
		fired   bool
	}{
		{told(30, 0, 30, 0), true},
		{told(29, 0, 29, 0), false},
		{told(29, 0, 30, 0), false},
		{told(30, 0, 40, 0), true},
		{told(29, 0, 39, 0), false},
		{told(29, 0, 40, 0), true},
		{told(29, 2, 29, 2), false},
		{told(29, 3, 29, 3), true},
		{told(29, 3, 30, 2), true},
		{told(30, 3, 29, 2), false},
		{told(0, 0, 0, 0), false},
		{told(-maxSize, 0, -maxSize, 0), false},
		{told(-maxSize, 999, -maxSize, 3), true},
		{told(maxSize, 0, maxSize, 0), true},
		{zeroReadings(2), true},
	} {
		for _, still := range []int64{3, 4, 50, 99, 100} {
			b := withGate(withSenses(kite(mdChute), withReadings(kite(mdChute).Senses, 1, c.heights)), gate(still, false))
			if got, want := impl.Ticked(b, "").Gate, gate(min(still+1, mostStill), c.fired); got != want {
				t.Errorf("behind %d ticks of nothing by %v the gate is %v, want %v", still, c.heights, got, want)
			}
		}
	}
}

// It is the height of this tick that tells, up as well as down.
func TestP16TheGateByWhatIsHeard(t *testing.T) {
	for _, c := range []struct {
		ahead, heard int64
		fired        bool
	}{{29, 30, true}, {30, 29, false}, {20, 60, true}, {60, 0, false}, {0, 29, false}, {40, 30, true}} {
		b := withGate(atKnownHeight(kite(mdChute), c.ahead), gate(3, false))
		got := impl.Ticked(b, wantShown(ordinary(impl.FrHeight, 21, c.heard)))
		if got.Gate != gate(4, c.fired) {
			t.Errorf("behind a height of %d, where %d is heard, the gate is %v", c.ahead, c.heard, got.Gate)
		}
	}
}

// A chute that is let go stays so, in whatever Mode a Brain is; and so does the
// Mode itself behind MdChute.
func TestP16WhatIsFiredStays(t *testing.T) {
	for _, mode := range eachMode() {
		for _, b := range facing(mode) {
			for _, still := range []int64{0, 3, 4, 100} {
				got := impl.Ticked(withGate(b, gate(still, true)), "")
				if got.Gate != gate(still, true) {
					t.Errorf("behind Mode %d and %v the gate is %v", mode, gate(still, true), got.Gate)
				}
			}
		}
	}
	b := withGate(kite(mdChute), gate(4, true))
	text := shownAll(ordinary(impl.FrSpeed, 11, 0), ordinary(impl.FrHeight, 21, 0), ordinary(impl.FrFans, 31, 1000), frame(impl.FrPilot, 41, piOut, 1))
	for range 20 {
		b = impl.Ticked(b, text)
		if b.Gate != gate(4, true) || b.Mode != mdChute || !allNothing(b.Outs) {
			t.Errorf("behind a chute let go: %+v", b)
		}
	}
}

// From the air to the chute: the Outs stand in the tick in which the Mode is
// MdChute, but only in the next one are they Still; and so it takes KillFor more.
func TestP16FromTheAirToTheChute(t *testing.T) {
	for _, mode := range []int64{mdHover, mdOut, mdGlide, mdBack} {
		b := givenUp(withOuts(kite(mode), sixAnd(500, 300)...), 5)
		for tick := int64(0); tick < 12; tick++ {
			b = impl.Ticked(b, wantShown(ordinary(impl.FrHeight, 21+tick, 400)))
			want := gate(min(tick, 4), tick >= 4)
			if b.Mode != mdChute || b.Timer != tick || !allNothing(b.Outs) || b.Gate != want {
				t.Errorf("behind Mode %d and %d ticks: Mode %d, Timer %d, Outs %v, %v, want %v", mode, tick+1, b.Mode, b.Timer, b.Outs, b.Gate, want)
			}
		}
	}
}

func TestP16ABrainThatIsNotRight(t *testing.T) {
	for _, b := range badBrains() {
		checkTicked(t, b, "", impl.Brain{})
		checkTicked(t, b, "x", impl.Brain{})
	}
	texts := []string{"\n", shownAll(said()...), pilotText(41), longLine, strings.Repeat("x", mostHeard), strings.Repeat("\n", mostHeard+1)}
	for _, b := range slices.Concat(wrongLists(someBrain()), oneBad(someBrain()), wrongLists(kite(mdChute)), []impl.Brain{{}}) {
		for _, text := range texts {
			checkTicked(t, b, text, impl.Brain{})
		}
	}
}

func roomyFans(l []impl.Fan) []impl.Fan {
	return append(slices.Clone(l), slices.Repeat([]impl.Fan{fan(spare, true, false)}, 9)...)[:len(l)]
}

func roomyBrain(b impl.Brain) impl.Brain {
	b.Fans, b.Outs, b.Senses = roomyFans(b.Fans), roomyNumbers(b.Outs), roomySenses(b.Senses)
	return b
}

func checkBrainRoom(t *testing.T, b, was impl.Brain) {
	t.Helper()
	if !sameBrain(b, was) {
		t.Errorf("given was %+v, and is %+v", was, b)
	}
	if room := b.Fans[len(b.Fans) : len(b.Fans)+9]; !slices.Equal(room, slices.Repeat([]impl.Fan{fan(spare, true, false)}, 9)) {
		t.Errorf("the room behind the Fans is %v", room)
	}
	if room := b.Outs[len(b.Outs) : len(b.Outs)+9]; !slices.Equal(room, slices.Repeat([]int64{spare}, 9)) {
		t.Errorf("the room behind the Outs is %v", room)
	}
	checkRoom(t, b.Senses, was.Senses)
}

func heardTexts() []string {
	return []string{"", "x", shownAll(said()...), pilotText(41) + "P 42", strings.Repeat("x", mostHeard+1)}
}

func TestP16WhatIsGivenStays(t *testing.T) {
	brains := slices.Concat(rightBrains(), wrongLists(someBrain()), []impl.Brain{givenUp(kite(mdOut), 3), armedKite()})
	for _, b := range brains {
		for _, heard := range heardTexts() {
			given := roomyBrain(b)
			impl.BrainOk(given)
			impl.IsStill(given.Outs)
			overwriteBrain(impl.Ticked(given, heard))
			checkBrainRoom(t, given, b)
		}
	}
}

func TestP16AnswersShareNoMemory(t *testing.T) {
	for _, b := range rightBrains() {
		for _, heard := range heardTexts() {
			want := wantTicked(b, heard)
			given := roomyBrain(b)
			one, other := impl.Ticked(given, heard), impl.Ticked(given, heard)
			overwriteBrain(given)
			overwriteBrain(one)
			if !sameBrain(other, want) {
				t.Errorf("what was given and another answer were changed, and the answer is %+v, want %+v", other, want)
			}
			checkBrainListsApart(t, func() impl.Brain { return impl.Ticked(b, heard) }, want)
			checkBrainListsApart(t, func() impl.Brain { return impl.Ticked(roomyBrain(b), heard) }, want)
		}
	}
}

// Not even where the lists that are given share theirs.
func TestP16AnswersOfSharedMemoryShareNone(t *testing.T) {
	readings := told(100, 0, 120, 1, 90, 2, 80, 0, 70, 1, 60, 2)
	numbers := []int64{10, 20, 30, 40, 50, 60, 70}
	b := someBrain()
	b.Senses.Speeds, b.Senses.Heights, b.Senses.Fans = readings[:3], readings[:2], readings
	b.Outs, b.Senses.Seqs = numbers, numbers[:4]
	for _, mode := range eachMode() {
		b.Mode = mode
		for _, heard := range heardTexts() {
			checkBrainListsApart(t, func() impl.Brain { return impl.Ticked(b, heard) }, wantTicked(b, heard))
		}
	}
}

// bent has one byte of a text changed, left out or put in, if there is any.
func bent(source *rand.Rand, s string) string {
	if s == "" {
		return s
	}
	i := source.Intn(len(s))
	other := string([]byte{"0123456789 -*SHFP\n\x00\xff"[source.Intn(20)]})
	switch source.Intn(3) {
	case 0:
		return s[:i] + s[i+1:]
	case 1:
		return s[:i] + other + s[i:]
	}
	return s[:i] + other + s[i+1:]
}

// anyText has Frames that are mostly a little newer and mostly sane, with noise
// between some of them.
func anyText(source *rand.Rand, s impl.Senses, lines []string) string {
	var text strings.Builder
	for range source.Intn(7) {
		switch source.Intn(12) {
		case 0:
			text.WriteString(lines[source.Intn(len(lines))])
		case 1:
			text.WriteString(bent(source, wantShown(anyFrame(source))))
		default:
			text.WriteString(wantShown(near(source, s, 1+source.Int63n(4))))
		}
	}
	if source.Intn(3) == 0 {
		text.WriteString(wantShown(anyFrame(source))[:source.Intn(12)])
	}
	return text.String()
}

// anyBrain is right, and mostly near what leads to another Mode.
func anyBrain(source *rand.Rand) impl.Brain {
	b := newBrain()
	b.Mode, b.Timer = source.Int63n(6), source.Int63n(100)
	if source.Intn(5) == 0 {
		b.Timer = source.Int63n(maxTimer + 1)
	}
	for i := range b.Fans {
		b.Fans[i] = fan(source.Int63n(6), source.Intn(40) == 0, source.Intn(20) == 0)
		if source.Intn(10) == 0 {
			b.Fans[i].Low.N = source.Int63n(101)
		}
	}
	b.Gate = gate(source.Int63n(6), source.Intn(6) == 0)
	b.Senses = anySenses(source)
	if source.Intn(2) == 0 {
		for i := range b.Outs {
			b.Outs[i] = source.Int63n(maxOut + 1)
		}
	}
	if source.Intn(2) == 0 {
		text := wantShown(near(source, b.Senses, 1+source.Int63n(4)))
		b.Tail = text[:source.Intn(min(len(text), maxLeft))]
	}
	return b
}

// oneNumberOfBrain makes one number of it any other one, or its Tail longer.
func oneNumberOfBrain(source *rand.Rand, b impl.Brain) impl.Brain {
	n := anyLength(source)
	return but(b, func(b *impl.Brain) {
		switch source.Intn(7) {
		case 0:
			b.Mode = n
		case 1:
			b.Timer = n
		case 2:
			b.Fans[source.Intn(sixFans)].Low.N = n
		case 3:
			b.Gate.Still = n
		case 4:
			b.Senses = oneNumberOff(source, b.Senses)
		case 5:
			b.Outs[source.Intn(sevenOuts)] = n
		case 6:
			b.Tail = strings.Repeat("x", source.Intn(100))
		}
	})
}

func TestP16OfDrawnBrains(t *testing.T) {
	source := rand.New(rand.NewSource(39))
	lines := noLines()
	followed := map[[2]int64]int{}
	for range 15000 {
		b := anyBrain(source)
		if source.Intn(6) == 0 {
			b = oneNumberOfBrain(source, b)
		}
		right := wantBrain(b)
		checkBrain(t, b, right)
		heard := ""
		if right {
			heard = anyText(source, b.Senses, lines)
		}
		if b.Tail != "" && source.Intn(2) == 0 {
			heard = "\n" + heard
		}
		if source.Intn(30) == 0 {
			heard = strings.Repeat("\n", max(0, mostHeard-1+source.Intn(4)-len(heard))) + heard
		}
		next := wantTicked(b, heard)
		checkTicked(t, b, heard, next)
		if right {
			followed[[2]int64{b.Mode, next.Mode}]++
		}
	}
	for _, mode := range eachMode() {
		for _, next := range wantFollowers(mode) {
			if followed[[2]int64{mode, next}] < 10 {
				t.Errorf("Mode %d was behind Mode %d only %d times: too few to tell", next, mode, followed[[2]int64{mode, next}])
			}
		}
	}
}

func TestP16OfDrawnLists(t *testing.T) {
	source := rand.New(rand.NewSource(40))
	for range 20000 {
		l := make([]int64, source.Intn(12))
		is := true
		for i := range l {
			if source.Intn(10) == 0 {
				l[i] = anyLength(source)
			}
			is = is && l[i] == 0
		}
		checkIsStill(t, l, is)
	}
}

// flown is a run of a brain from a new one on. It counts by itself how many ticks
// of nothing there were up to now, and what else there was.
type flown struct {
	b     impl.Brain
	quiet int
	modes map[int64]int
	fired int
}

func newFlown() *flown { return &flown{b: impl.NewBrain(), modes: map[int64]int{}} }

// further tells what of the promise a tick has broken, if anything.
func (r *flown) further(heard string) string {
	before := r.b
	r.b = impl.Ticked(before, heard)
	if !impl.BrainOk(r.b) || !wantBrain(r.b) {
		return "it is not BrainOk"
	}
	r.modes[r.b.Mode]++
	if allNothing(before.Outs) && allNothing(r.b.Outs) {
		r.quiet++
	} else {
		r.quiet = 0
	}
	if r.b.Gate.Fired {
		r.fired++
	}
	switch {
	case slices.Max(r.b.Outs) > maxOut || slices.Min(r.b.Outs) < 0:
		return "Outs are not in range"
	case !slices.Contains(wantFollowers(before.Mode), r.b.Mode):
		return "that Mode may not follow"
	case before.Gate.Fired && r.b.Gate != before.Gate:
		return "it does not stay Fired"
	case r.b.Gate.Fired && r.quiet < killFor:
		return "it is Fired, and the Outs were not 0 for so long"
	case r.b.Gate.Fired && r.b.Mode != mdChute:
		return "it is Fired, and not in MdChute"
	}
	return ""
}

// pilot draws what a brain hears, such as may lead it through all Modes: a world
// of its own, which need not be like any other one.
type pilot struct {
	source              *rand.Rand
	seq, speed, height  int64
	want                int64
	stands, lost, noisy int
	held                string
}

func newPilot(source *rand.Rand) *pilot {
	p := &pilot{source: source, height: source.Int63n(60), want: piOut, noisy: source.Intn(3)}
	if source.Intn(2) == 0 {
		p.height = source.Int63n(2000)
	}
	return p
}

func (p *pilot) changeMind() {
	switch p.source.Intn(40) {
	case 0, 1:
		p.want = p.source.Int63n(3)
	case 2:
		p.stands |= 1 << p.source.Intn(sixFans)
	case 3:
		p.lost = p.source.Intn(12)
	case 4:
		p.height = p.source.Int63n(70)
	}
}

// fans tells what each one was let to turn, but nothing of those that stand.
func (p *pilot) fans(b impl.Brain) []int64 {
	l := slices.Clone(b.Outs[:sixFans])
	for i := range l {
		if p.stands>>i&1 == 1 {
			l[i] = 0
		}
	}
	return l
}

func (p *pilot) says(b impl.Brain) string {
	p.changeMind()
	p.seq = (p.seq + 1) % 100
	p.speed = within(p.speed+b.Outs[6]/100-4+p.source.Int63n(3), 0, 400)
	p.height = within(p.height+p.source.Int63n(21)-10, 0, 2000)
	l := []impl.Frame{ordinary(impl.FrSpeed, p.seq, p.speed), ordinary(impl.FrHeight, p.seq, p.height), frame(impl.FrPilot, p.seq, p.want, 1)}
	if p.lost > 0 {
		p.lost--
	} else {
		l = append(l, frame(impl.FrFans, p.seq, p.fans(b)...))
	}
	p.source.Shuffle(len(l), func(i, j int) { l[i], l[j] = l[j], l[i] })
	return shownAll(l...)
}

// heard is what is said, some of it bent, cut and late, and with noise.
func (p *pilot) heard(b impl.Brain, lines []string) string {
	text := p.says(b)
	if p.source.Intn(30) < p.noisy {
		text = lines[p.source.Intn(len(lines))] + text
	}
	for p.source.Intn(20) < p.noisy {
		text = bent(p.source, text)
	}
	text = p.held + text
	p.held = ""
	if p.source.Intn(10) < p.noisy {
		i := p.source.Intn(len(text) + 1)
		text, p.held = text[:i], text[i:]
	}
	if p.source.Intn(200) < p.noisy {
		text += strings.Repeat("x", mostHeard)
	}
	return text
}

func TestP16FirstAllStop(t *testing.T) {
	source := rand.New(rand.NewSource(41))
	lines := noLines()
	modes, fired, waited := map[int64]int{}, 0, 0
	for range 500 {
		run, p := newFlown(), newPilot(source)
		for tick := range 160 {
			before, heard := run.b, p.heard(run.b, lines)
			if broken := run.further(heard); broken != "" {
				t.Fatalf("%s: in tick %d, behind %+v and %q: %+v", broken, tick, before, heard, run.b)
			}
			if tick%4 == 0 {
				checkTickedAsTold(t, before, heard)
			}
			if run.b.Gate.Still >= killFor && !run.b.Gate.Fired {
				waited++
			}
		}
		for mode := range run.modes {
			modes[mode]++
		}
		if run.fired > 0 {
			fired++
		}
	}
	for _, mode := range eachMode() {
		if modes[mode] < 50 {
			t.Errorf("only %d of 500 runs came to Mode %d: too few to tell", modes[mode], mode)
		}
	}
	if fired < 50 || fired > 450 || waited < 50 {
		t.Errorf("%d of 500 runs were fired, and %d ticks waited for the height: too few or too many to tell", fired, waited)
	}
}

// Whatever bytes: what is no Frame at all, long and short, and then what is.
func TestP16FirstAllStopOfAnyBytes(t *testing.T) {
	source := rand.New(rand.NewSource(42))
	lines := noLines()
	for range 60 {
		run, p := newFlown(), newPilot(source)
		for tick := range 60 {
			bytes := make([]byte, source.Intn([]int{2, 70, 2100}[source.Intn(3)]))
			source.Read(bytes)
			heard := string(bytes)
			switch source.Intn(4) {
			case 0:
				heard += "\n" + p.heard(run.b, lines)
			case 1:
				heard = p.heard(run.b, lines) + heard
			case 2:
				heard = anyStream(source)
			}
			before := run.b
			if broken := run.further(heard); broken != "" {
				t.Fatalf("%s: in tick %d, behind %+v and %q: %+v", broken, tick, before, heard, run.b)
			}
			checkTickedAsTold(t, before, heard)
		}
	}
}

// Where all fans stop telling they are given up, all is stopped, and a while
// later the chute is let go.
func TestP16ToTheEnd(t *testing.T) {
	run, fired := newFlown(), []int64{}
	for tick := int64(1); tick <= 30; tick++ {
		text := shownAll(ordinary(impl.FrSpeed, tick, 0), ordinary(impl.FrHeight, tick, 30), frame(impl.FrPilot, tick, piStay, 1))
		if broken := run.further(text); broken != "" {
			t.Fatalf("%s: in tick %d: %+v", broken, tick, run.b)
		}
		if run.b.Gate.Fired {
			fired = append(fired, tick)
		}
	}
	// In tick 1 it hovers, from 2 to 6 the fans are felt not to turn, and in 7 to
	// 10 all stands.
	if len(fired) == 0 || fired[0] != 10 || len(fired) != 21 || run.modes[mdHover] != 5 || run.modes[mdChute] != 25 {
		t.Errorf("it is Fired in %v, and was in these Modes: %v", fired, run.modes)
	}
}
