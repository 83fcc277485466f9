package tests

import (
	"math"
	"math/rand"
	"slices"
	"testing"

	"loop.example/g00619/impl"
)

// mdOut and mdGlide stand with the tests of the push.
const (
	mdGround = int64(0)
	mdHover  = int64(1)
	mdBack   = int64(4)
	mdChute  = int64(5)
)

const (
	piStay = int64(0)
	piOut  = int64(1)
	piLand = int64(2)
)

const maxTimer = int64(1000)

func eachMode() []int64 { return []int64{0, 1, 2, 3, 4, 5} }

func notWants() []int64 {
	return []int64{-1, 3, -2, 4, 100, 1 << 8, 1<<8 + 1, 1 << 32, 1<<32 + 2, math.MinInt64, math.MinInt64 + 1, math.MinInt64 + 2, math.MaxInt64 - 1, math.MaxInt64}
}

func notTimers() []int64 {
	return []int64{-1, maxTimer + 1, -60, -80, -maxTimer, maxTimer + 2, maxSize, 1 << 16, 1 << 32, 1<<32 + 60, math.MinInt64, math.MinInt64 + 80, math.MaxInt64 - 1, math.MaxInt64}
}

func setSpeed(f *impl.Facts, n int64)  { f.Speed = n }
func setHeight(f *impl.Facts, n int64) { f.Height = n }
func setCase(f *impl.Facts, n int64)   { f.Case = n }
func setWant(f *impl.Facts, n int64)   { f.Want = n }
func setTimer(f *impl.Facts, n int64)  { f.Timer = n }

// factNumber is a number of the Facts: some that are right of it, and some that
// are not. The right ones are the limits and both sides of what a chapter asks.
type factNumber struct {
	name  string
	set   func(*impl.Facts, int64)
	right []int64
	bad   []int64
}

func factNumbers() []factNumber {
	return []factNumber{
		{"Speed", setSpeed, []int64{-maxSize, -61, -1, 0, 1, 59, 60, 61, 119, 120, 121, 199, 200, 201, maxSize}, noSizes()},
		{"Height", setHeight, []int64{-maxSize, -2, -1, 0, 1, 2, 3, 30, 400, maxSize}, noSizes()},
		{"Case", setCase, eachCase(), notCases()},
		{"Want", setWant, []int64{piStay, piOut, piLand}, notWants()},
		{"Timer", setTimer, []int64{0, 1, 59, 60, 61, 79, 80, 81, maxTimer - 1, maxTimer}, notTimers()},
	}
}

// withFlags are the Facts with each flag both ways.
func withFlags(f impl.Facts) []impl.Facts {
	var l []impl.Facts
	for bits := range 8 {
		f.SpeedOk, f.HeightOk, f.Armed = bits&1 != 0, bits&2 != 0, bits&4 != 0
		l = append(l, f)
	}
	return l
}

// oneFieldAway are right Facts that differ from f in one field at most.
func oneFieldAway(f impl.Facts) []impl.Facts {
	var l []impl.Facts
	for _, field := range factNumbers() {
		for _, n := range field.right {
			other := f
			field.set(&other, n)
			l = append(l, other)
		}
	}
	speedOk, heightOk, armed := f, f, f
	speedOk.SpeedOk, heightOk.HeightOk, armed.Armed = !f.SpeedOk, !f.HeightOk, !f.Armed
	return append(l, speedOk, heightOk, armed)
}

// oneFieldBad are Facts that differ from f in one field, which is not right.
func oneFieldBad(f impl.Facts) []impl.Facts {
	var l []impl.Facts
	for _, field := range factNumbers() {
		for _, n := range field.bad {
			other := f
			field.set(&other, n)
			l = append(l, other)
		}
	}
	return l
}

// gridFacts are right Facts in which every field is on both sides of each limit
// of the chapter, and that in every way.
func gridFacts() []impl.Facts {
	var l []impl.Facts
	for _, speed := range []int64{-maxSize, 0, 60, 61, 119, 120, 199, 200, maxSize} {
		for _, height := range []int64{-maxSize, 0, 1, 2, maxSize} {
			for _, c := range eachCase() {
				for want := range int64(3) {
					for _, timer := range []int64{0, 59, 60, 79, 80, maxTimer} {
						l = append(l, withFlags(impl.Facts{Speed: speed, Height: height, Case: c, Want: want, Timer: timer})...)
					}
				}
			}
		}
	}
	return l
}

func anyFacts(source *rand.Rand) impl.Facts {
	flag := func() bool { return source.Intn(4) > 0 }
	f := impl.Facts{Speed: source.Int63n(300) - 20, SpeedOk: flag(), Height: source.Int63n(5) - 1, HeightOk: flag(), Armed: flag(), Want: source.Int63n(3), Timer: source.Int63n(100)}
	if !flag() {
		f.Case = source.Int63n(8)
	}
	if source.Intn(8) == 0 {
		f.Speed, f.Height, f.Timer = sizeWithin(source, maxSize), sizeWithin(source, maxSize), source.Int63n(maxTimer+1)
	}
	return f
}

func isMode(mode int64) bool { return mode >= 0 && mode <= 5 }

func wantFacts(f impl.Facts) bool {
	return isSize(f.Speed) && isSize(f.Height) && isCase(f.Case) && f.Want >= 0 && f.Want <= 2 && f.Timer >= 0 && f.Timer <= 1000
}

// wantNext goes through the chapter's rows one by one.
func wantNext(mode int64, f impl.Facts) int64 {
	if !isMode(mode) || !wantFacts(f) {
		return mdGround
	}
	if f.Case == caMany && mode != mdGround && mode != mdChute {
		return mdChute
	}
	switch mode {
	case mdGround:
		if f.Armed && f.SpeedOk && f.HeightOk && f.Case == caNone {
			return mdHover
		}
	case mdHover:
		if f.Want == piLand && f.HeightOk && f.Height <= 1 {
			return mdGround
		}
		if f.Want == piOut && f.SpeedOk && f.Case == caNone {
			return mdOut
		}
	case mdOut:
		if !f.SpeedOk || f.Case != caNone || f.Want != piOut || f.Timer >= 60 {
			return mdBack
		}
		if f.Speed >= 200 {
			return mdGlide
		}
	case mdGlide:
		if !f.SpeedOk || f.Want != piOut || f.Speed < 120 {
			return mdBack
		}
	case mdBack:
		if f.SpeedOk && f.Speed <= 60 {
			return mdHover
		}
		if f.Timer >= 80 {
			return mdHover
		}
	}
	return mode
}

// wantFollowers are written down at each mode, rising.
func wantFollowers(mode int64) []int64 {
	switch mode {
	case mdGround:
		return []int64{mdGround, mdHover}
	case mdHover:
		return []int64{mdGround, mdHover, mdOut, mdChute}
	case mdOut:
		return []int64{mdOut, mdGlide, mdBack, mdChute}
	case mdGlide:
		return []int64{mdGlide, mdBack, mdChute}
	case mdBack:
		return []int64{mdHover, mdBack, mdChute}
	case mdChute:
		return []int64{mdChute}
	}
	return nil
}

func checkFacts(t *testing.T, f impl.Facts, want bool) {
	t.Helper()
	if got := impl.FactsOk(f); got != want {
		t.Errorf("FactsOk(%+v) = %v, want %v", f, got, want)
	}
}

func checkNext(t *testing.T, mode int64, f impl.Facts, want int64) {
	t.Helper()
	if got := impl.NextMode(mode, f); got != want {
		t.Errorf("NextMode(%d, %+v) = %d, want %d", mode, f, got, want)
	}
}

func checkNextAsTold(t *testing.T, mode int64, f impl.Facts) {
	t.Helper()
	checkNext(t, mode, f, wantNext(mode, f))
}

func checkInAir(t *testing.T, mode int64, want bool) {
	t.Helper()
	if got := impl.InAir(mode); got != want {
		t.Errorf("InAir(%d) = %v, want %v", mode, got, want)
	}
}

func checkMayFollow(t *testing.T, a, b int64, want bool) {
	t.Helper()
	if got := impl.MayFollow(a, b); got != want {
		t.Errorf("MayFollow(%d, %d) = %v, want %v", a, b, got, want)
	}
}

func TestP13Numbers(t *testing.T) {
	got := []int64{impl.MdGround, impl.MdHover, impl.MdOut, impl.MdGlide, impl.MdBack, impl.MdChute, impl.PiStay, impl.PiOut, impl.PiLand, impl.MaxTimer, impl.OutMax, impl.GlideSpeed, impl.StallSpeed, impl.SlowSpeed, impl.BackMax}
	if want := []int64{0, 1, 2, 3, 4, 5, 0, 1, 2, 1000, 60, 200, 120, 60, 80}; !slices.Equal(got, want) {
		t.Errorf("the numbers of the chapter are %v, want %v", got, want)
	}
}

func TestP13FactsOk(t *testing.T) {
	checkFacts(t, impl.Facts{}, true)
	checkFacts(t, impl.Facts{Speed: 250, SpeedOk: true, Height: 400, HeightOk: true, Case: 3, Armed: true, Want: piOut, Timer: 12}, true)
	checkFacts(t, impl.Facts{Speed: maxSize, Height: maxSize, Case: caMany, Want: piLand, Timer: maxTimer}, true)
	checkFacts(t, impl.Facts{Speed: -maxSize, Height: -maxSize}, true)
	checkFacts(t, impl.Facts{Speed: maxSize + 1, Height: maxSize + 1, Case: caMany + 1, Want: piLand + 1, Timer: maxTimer + 1}, false)
}

func TestP13FactsOkAtTheLimits(t *testing.T) {
	limits := []struct {
		set         func(*impl.Facts, int64)
		least, most int64
	}{
		{setSpeed, -1000000, 1000000},
		{setHeight, -1000000, 1000000},
		{setCase, 0, 7},
		{setWant, 0, 2},
		{setTimer, 0, 1000},
	}
	for _, base := range []impl.Facts{{}, {Speed: 250, Height: 400, Case: 3, Want: piOut, Timer: 12}} {
		for _, limit := range limits {
			for _, c := range []struct {
				n    int64
				want bool
			}{
				{limit.least, true}, {limit.most, true},
				{limit.least - 1, false}, {limit.most + 1, false},
				{math.MinInt64, false}, {math.MaxInt64, false},
			} {
				for _, f := range withFlags(base) {
					limit.set(&f, c.n)
					checkFacts(t, f, c.want)
				}
			}
		}
	}
}

func TestP13FactsOkOfEachNumber(t *testing.T) {
	for _, base := range withFlags(impl.Facts{Speed: 250, Height: 400, Case: 3, Want: piOut, Timer: 12}) {
		for _, f := range oneFieldAway(base) {
			checkFacts(t, f, true)
		}
		for _, f := range oneFieldBad(base) {
			checkFacts(t, f, false)
		}
	}
}

// armed just lifts off.
func armed() impl.Facts { return impl.Facts{SpeedOk: true, HeightOk: true, Armed: true} }

func TestP13FromGround(t *testing.T) {
	checkNext(t, mdGround, armed(), mdHover)
	checkNext(t, mdGround, impl.Facts{}, mdGround)
	checkNext(t, mdGround, impl.Facts{SpeedOk: true, HeightOk: true}, mdGround)
	checkNext(t, mdGround, impl.Facts{HeightOk: true, Armed: true}, mdGround)
	checkNext(t, mdGround, impl.Facts{SpeedOk: true, Armed: true}, mdGround)
	for c := int64(1); c <= caMany; c++ {
		f := armed()
		f.Case = c
		checkNext(t, mdGround, f, mdGround)
	}
	for _, want := range []int64{piStay, piOut, piLand} {
		f := armed()
		f.Want, f.Height, f.Speed, f.Timer = want, 2000, 400, maxTimer
		checkNext(t, mdGround, f, mdHover)
	}
}

func TestP13FromHoverToLand(t *testing.T) {
	checkNext(t, mdHover, impl.Facts{Want: piLand, HeightOk: true, Height: 1}, mdGround)
	checkNext(t, mdHover, impl.Facts{Want: piLand, HeightOk: true, Height: 0}, mdGround)
	checkNext(t, mdHover, impl.Facts{Want: piLand, HeightOk: true, Height: -1}, mdGround)
	checkNext(t, mdHover, impl.Facts{Want: piLand, HeightOk: true, Height: -maxSize}, mdGround)
	checkNext(t, mdHover, impl.Facts{Want: piLand, HeightOk: true, Height: 2}, mdHover)
	checkNext(t, mdHover, impl.Facts{Want: piLand, Height: 1}, mdHover)
	checkNext(t, mdHover, impl.Facts{Want: piStay, HeightOk: true, Height: 1}, mdHover)
	checkNext(t, mdHover, impl.Facts{Want: piOut, HeightOk: true, Height: 1}, mdHover)
	for c := int64(1); c <= 6; c++ {
		checkNext(t, mdHover, impl.Facts{Want: piLand, HeightOk: true, Height: 1, Case: c}, mdGround)
	}
}

func TestP13FromHoverOut(t *testing.T) {
	checkNext(t, mdHover, impl.Facts{Want: piOut, SpeedOk: true}, mdOut)
	checkNext(t, mdHover, impl.Facts{Want: piOut, SpeedOk: true, Speed: 200, Timer: maxTimer}, mdOut)
	checkNext(t, mdHover, impl.Facts{Want: piOut, SpeedOk: true, Speed: -maxSize, Armed: true}, mdOut)
	checkNext(t, mdHover, impl.Facts{Want: piOut}, mdHover)
	checkNext(t, mdHover, impl.Facts{Want: piStay, SpeedOk: true}, mdHover)
	checkNext(t, mdHover, impl.Facts{Want: piLand, SpeedOk: true}, mdHover)
	for c := int64(1); c <= 6; c++ {
		checkNext(t, mdHover, impl.Facts{Want: piOut, SpeedOk: true, Case: c}, mdHover)
	}
}

func TestP13FromOutBack(t *testing.T) {
	checkNext(t, mdOut, impl.Facts{SpeedOk: true, Speed: 199, Want: piOut, Timer: 59}, mdOut)
	checkNext(t, mdOut, impl.Facts{SpeedOk: false, Speed: 199, Want: piOut, Timer: 59}, mdBack)
	checkNext(t, mdOut, impl.Facts{SpeedOk: true, Speed: 199, Want: piStay, Timer: 59}, mdBack)
	checkNext(t, mdOut, impl.Facts{SpeedOk: true, Speed: 199, Want: piLand, Timer: 59}, mdBack)
	checkNext(t, mdOut, impl.Facts{SpeedOk: true, Speed: 199, Want: piOut, Timer: 60}, mdBack)
	checkNext(t, mdOut, impl.Facts{SpeedOk: true, Speed: 199, Want: piOut, Timer: 61}, mdBack)
	checkNext(t, mdOut, impl.Facts{SpeedOk: true, Speed: 199, Want: piOut, Timer: maxTimer}, mdBack)
	for c := int64(1); c <= 6; c++ {
		checkNext(t, mdOut, impl.Facts{SpeedOk: true, Speed: 199, Want: piOut, Timer: 59, Case: c}, mdBack)
	}
}

func TestP13FromOutToGlide(t *testing.T) {
	checkNext(t, mdOut, impl.Facts{SpeedOk: true, Speed: 200, Want: piOut, Timer: 59}, mdGlide)
	checkNext(t, mdOut, impl.Facts{SpeedOk: true, Speed: 201, Want: piOut, Timer: 59}, mdGlide)
	checkNext(t, mdOut, impl.Facts{SpeedOk: true, Speed: maxSize, Want: piOut}, mdGlide)
	checkNext(t, mdOut, impl.Facts{SpeedOk: true, Speed: -200, Want: piOut}, mdOut)
}

func TestP13FromGlide(t *testing.T) {
	checkNext(t, mdGlide, impl.Facts{SpeedOk: true, Speed: 120, Want: piOut}, mdGlide)
	checkNext(t, mdGlide, impl.Facts{SpeedOk: true, Speed: 121, Want: piOut, Timer: maxTimer}, mdGlide)
	checkNext(t, mdGlide, impl.Facts{SpeedOk: true, Speed: maxSize, Want: piOut}, mdGlide)
	checkNext(t, mdGlide, impl.Facts{SpeedOk: true, Speed: 119, Want: piOut}, mdBack)
	checkNext(t, mdGlide, impl.Facts{SpeedOk: true, Speed: -maxSize, Want: piOut}, mdBack)
	checkNext(t, mdGlide, impl.Facts{SpeedOk: false, Speed: 120, Want: piOut}, mdBack)
	checkNext(t, mdGlide, impl.Facts{SpeedOk: true, Speed: 120, Want: piStay}, mdBack)
	checkNext(t, mdGlide, impl.Facts{SpeedOk: true, Speed: 120, Want: piLand}, mdBack)
	for c := int64(1); c <= 6; c++ {
		checkNext(t, mdGlide, impl.Facts{SpeedOk: true, Speed: 120, Want: piOut, Case: c}, mdGlide)
	}
}

func TestP13FromBack(t *testing.T) {
	checkNext(t, mdBack, impl.Facts{SpeedOk: true, Speed: 60}, mdHover)
	checkNext(t, mdBack, impl.Facts{SpeedOk: true, Speed: 59}, mdHover)
	checkNext(t, mdBack, impl.Facts{SpeedOk: true, Speed: -maxSize}, mdHover)
	checkNext(t, mdBack, impl.Facts{SpeedOk: true, Speed: 61}, mdBack)
	checkNext(t, mdBack, impl.Facts{SpeedOk: false, Speed: 60}, mdBack)
	checkNext(t, mdBack, impl.Facts{SpeedOk: true, Speed: 61, Timer: 79}, mdBack)
	checkNext(t, mdBack, impl.Facts{SpeedOk: true, Speed: 61, Timer: 80}, mdHover)
	checkNext(t, mdBack, impl.Facts{SpeedOk: false, Speed: 61, Timer: 79}, mdBack)
	checkNext(t, mdBack, impl.Facts{SpeedOk: false, Speed: 61, Timer: 80}, mdHover)
	checkNext(t, mdBack, impl.Facts{SpeedOk: true, Speed: maxSize, Timer: maxTimer}, mdHover)
	for c := int64(1); c <= 6; c++ {
		checkNext(t, mdBack, impl.Facts{SpeedOk: true, Speed: 60, Case: c}, mdHover)
		checkNext(t, mdBack, impl.Facts{Timer: 80, Case: c}, mdHover)
	}
	for _, want := range []int64{piStay, piOut, piLand} {
		checkNext(t, mdBack, impl.Facts{SpeedOk: true, Speed: 60, Want: want}, mdHover)
		checkNext(t, mdBack, impl.Facts{SpeedOk: true, Speed: 61, Want: want}, mdBack)
	}
}

func TestP13ManyInEveryMode(t *testing.T) {
	for _, f := range gridFacts() {
		f.Case = caMany
		checkNext(t, mdGround, f, mdGround)
		for _, mode := range []int64{mdHover, mdOut, mdGlide, mdBack, mdChute} {
			checkNext(t, mode, f, mdChute)
		}
	}
	for c := range caMany {
		for _, mode := range []int64{mdHover, mdOut, mdGlide, mdBack} {
			if impl.NextMode(mode, impl.Facts{Case: c}) == mdChute {
				t.Errorf("in case %d, mode %d goes to MdChute", c, mode)
			}
		}
	}
}

func TestP13TheFirstRowThatAppliesCounts(t *testing.T) {
	checkNext(t, mdHover, impl.Facts{Want: piLand, HeightOk: true, Height: 1, Case: caMany}, mdChute)
	checkNext(t, mdHover, impl.Facts{Want: piOut, SpeedOk: true, Case: caMany}, mdChute)
	checkNext(t, mdOut, impl.Facts{Case: caMany, Timer: 60}, mdChute)
	checkNext(t, mdOut, impl.Facts{SpeedOk: true, Speed: 200, Want: piOut, Case: caMany}, mdChute)
	checkNext(t, mdGlide, impl.Facts{Case: caMany}, mdChute)
	checkNext(t, mdBack, impl.Facts{SpeedOk: true, Speed: 60, Case: caMany}, mdChute)
	checkNext(t, mdBack, impl.Facts{Timer: 80, Case: caMany}, mdChute)
	checkNext(t, mdOut, impl.Facts{SpeedOk: true, Speed: 200, Want: piOut, Timer: 60}, mdBack)
	checkNext(t, mdOut, impl.Facts{SpeedOk: true, Speed: 200, Want: piStay}, mdBack)
	checkNext(t, mdOut, impl.Facts{SpeedOk: true, Speed: 200, Want: piLand}, mdBack)
	checkNext(t, mdOut, impl.Facts{SpeedOk: false, Speed: 200, Want: piOut}, mdBack)
	checkNext(t, mdOut, impl.Facts{SpeedOk: true, Speed: 200, Want: piOut, Case: 6}, mdBack)
	both := armed()
	both.Case, both.Want = caMany, piOut
	checkNext(t, mdGround, both, mdGround)
}

func TestP13FromChute(t *testing.T) {
	checkNext(t, mdChute, impl.Facts{}, mdChute)
	checkNext(t, mdChute, armed(), mdChute)
	checkNext(t, mdChute, impl.Facts{Want: piLand, HeightOk: true, SpeedOk: true, Timer: maxTimer}, mdChute)
}

// justApply are the Facts of each row of the chapter, at its last numbers, and
// those of which there is just no row.
func justApply() []impl.Facts {
	return []impl.Facts{
		{},
		armed(),
		{Case: caMany},
		{Want: piLand, HeightOk: true, Height: 1},
		{Want: piLand, HeightOk: true, Height: 2},
		{Want: piOut, SpeedOk: true},
		{Want: piOut, SpeedOk: true, Speed: 199, Timer: 59},
		{Want: piOut, SpeedOk: true, Speed: 199, Timer: 60},
		{Want: piOut, SpeedOk: true, Speed: 200, Timer: 59},
		{Want: piOut, SpeedOk: true, Speed: 200, Timer: 60},
		{Want: piOut, SpeedOk: true, Speed: 120},
		{Want: piOut, SpeedOk: true, Speed: 119},
		{SpeedOk: true, Speed: 60},
		{SpeedOk: true, Speed: 61},
		{Timer: 79},
		{Timer: 80},
		{Speed: 300, SpeedOk: true, Height: 300, HeightOk: true, Case: caMany, Armed: true, Want: piLand, Timer: 80},
	}
}

func TestP13OneFieldAway(t *testing.T) {
	for _, row := range justApply() {
		for _, base := range withFlags(row) {
			for _, f := range oneFieldAway(base) {
				for _, mode := range eachMode() {
					checkNextAsTold(t, mode, f)
				}
			}
		}
	}
}

func TestP13InEveryWay(t *testing.T) {
	for _, f := range gridFacts() {
		for _, mode := range eachMode() {
			checkNextAsTold(t, mode, f)
		}
	}
}

// What is not right is answered by MdGround in MdChute, too.
func TestP13FactsThatAreNotRight(t *testing.T) {
	for _, row := range justApply() {
		for _, f := range oneFieldBad(row) {
			for _, mode := range slices.Concat(eachMode(), noModes()) {
				checkNext(t, mode, f, mdGround)
			}
		}
	}
	checkNext(t, mdChute, impl.Facts{Timer: -1}, mdGround)
	checkNext(t, mdChute, impl.Facts{Case: caMany, Want: 3}, mdGround)
	checkNext(t, mdHover, impl.Facts{Case: caMany, Timer: maxTimer + 1}, mdGround)
	checkNext(t, mdBack, impl.Facts{Case: caMany + 1}, mdGround)
}

func TestP13NextOfNoMode(t *testing.T) {
	for _, mode := range slices.Concat([]int64{-1, 6, math.MinInt64, math.MaxInt64}, noModes()) {
		for _, row := range justApply() {
			for _, f := range withFlags(row) {
				checkNext(t, mode, f, mdGround)
			}
		}
	}
}

func TestP13InAir(t *testing.T) {
	checkInAir(t, mdGround, false)
	checkInAir(t, mdHover, true)
	checkInAir(t, mdOut, true)
	checkInAir(t, mdGlide, true)
	checkInAir(t, mdBack, true)
	checkInAir(t, mdChute, false)
	for _, mode := range slices.Concat([]int64{-1, 6, math.MinInt64, math.MaxInt64}, noModes()) {
		checkInAir(t, mode, false)
	}
}

func TestP13MayFollow(t *testing.T) {
	checkMayFollow(t, mdGround, mdHover, true)
	checkMayFollow(t, mdHover, mdGround, true)
	checkMayFollow(t, mdHover, mdGlide, false)
	checkMayFollow(t, mdHover, mdBack, false)
	checkMayFollow(t, mdGround, mdChute, false)
	checkMayFollow(t, mdGround, mdOut, false)
	checkMayFollow(t, mdOut, mdHover, false)
	checkMayFollow(t, mdGlide, mdOut, false)
	checkMayFollow(t, mdGlide, mdHover, false)
	checkMayFollow(t, mdBack, mdOut, false)
	for a := int64(-1); a <= 6; a++ {
		for b := int64(-1); b <= 6; b++ {
			checkMayFollow(t, a, b, slices.Contains(wantFollowers(a), b))
		}
	}
	for _, a := range eachMode() {
		checkMayFollow(t, a, a, true)
		checkMayFollow(t, mdChute, a, a == mdChute)
	}
}

// What is no mode follows none, not even itself, and none follows it.
func TestP13MayFollowOfNoMode(t *testing.T) {
	none := slices.Concat([]int64{math.MinInt64, math.MaxInt64}, noModes())
	for _, a := range none {
		for b := int64(-1); b <= 6; b++ {
			checkMayFollow(t, a, b, false)
			checkMayFollow(t, b, a, false)
		}
		for _, b := range none {
			checkMayFollow(t, a, b, false)
		}
	}
}

// Facts between the limits and past all of them, right or not, in any mode or
// in none.
func TestP13OfDrawnFacts(t *testing.T) {
	source := rand.New(rand.NewSource(32))
	fields := factNumbers()
	for range 100000 {
		f := anyFacts(source)
		if source.Intn(4) == 0 {
			fields[source.Intn(len(fields))].set(&f, anyLength(source))
		}
		checkFacts(t, f, wantFacts(f))
		for _, mode := range eachMode() {
			checkNextAsTold(t, mode, f)
		}
		mode, other := anyLength(source), anyLength(source)
		checkNextAsTold(t, mode, f)
		checkInAir(t, mode, mode >= 1 && mode <= 4)
		checkMayFollow(t, mode, other, slices.Contains(wantFollowers(mode), other))
	}
}

// TestP13ModesFollowAsTold asks both ways: whatever is next may follow, and
// whatever may follow is next with some of the Facts.
func TestP13ModesFollowAsTold(t *testing.T) {
	type pair struct{ a, b int64 }
	seen := map[pair]bool{}
	for _, f := range gridFacts() {
		for _, mode := range eachMode() {
			next := impl.NextMode(mode, f)
			if !impl.MayFollow(mode, next) {
				t.Errorf("NextMode(%d, %+v) = %d, which may not follow", mode, f, next)
			}
			seen[pair{mode, next}] = true
		}
	}
	for a := int64(-1); a <= 6; a++ {
		for b := int64(-1); b <= 6; b++ {
			if may := impl.MayFollow(a, b); may != seen[pair{a, b}] {
				t.Errorf("MayFollow(%d, %d) = %v, but whether there are Facts for it is %v", a, b, may, !may)
			}
		}
	}
}

func TestP13BehindChuteThereIsNone(t *testing.T) {
	for _, f := range gridFacts() {
		checkNext(t, mdChute, f, mdChute)
	}
	for _, row := range justApply() {
		for _, f := range oneFieldAway(row) {
			checkNext(t, mdChute, f, mdChute)
		}
	}
}

// A long way from the ground on, by whatever Facts: each step may follow, and
// once it is MdChute it stays so.
func TestP13OnAWayOfManyModes(t *testing.T) {
	source := rand.New(rand.NewSource(33))
	reached := map[int64]bool{}
	for range 2000 {
		mode := mdGround
		for range 100 {
			f := anyFacts(source)
			next := impl.NextMode(mode, f)
			if !isMode(next) || !impl.MayFollow(mode, next) || mode == mdChute && next != mdChute {
				t.Fatalf("NextMode(%d, %+v) = %d", mode, f, next)
			}
			mode = next
			reached[mode] = true
		}
	}
	for _, mode := range eachMode() {
		if !reached[mode] {
			t.Errorf("no way has come to mode %d", mode)
		}
	}
}
