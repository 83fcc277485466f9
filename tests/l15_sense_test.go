package tests

import (
	"math"
	"math/rand"
	"slices"
	"testing"

	"loop.example/g00619/impl"
)

const (
	manySpeeds = 3
	manyKinds  = 4
)

// notYet is the Seq of a Kind of which there was none.
const notYet = int64(-1)

func eachKind() []int64 { return []int64{1, 2, 3, 4} }

func notSeqs() []int64 {
	return []int64{-2, 100, -3, 101, -100, 199, 1 << 8, 1<<8 + 5, -1 << 32, 1 << 32, 1<<32 + 5, 1<<32 - 1, math.MinInt64, math.MinInt64 + 1, math.MinInt64 + 99, math.MaxInt64 - 1, math.MaxInt64}
}

// told are Readings that were, one behind the other with these Values and Ages.
func told(valuesAndAges ...int64) []impl.Reading {
	var l []impl.Reading
	for i := 0; i < len(valuesAndAges); i += 2 {
		l = append(l, reading(valuesAndAges[i], valuesAndAges[i+1], true))
	}
	return l
}

func zeroReadings(many int) []impl.Reading { return make([]impl.Reading, many) }

func newSenses() impl.Senses {
	return impl.Senses{Speeds: zeroReadings(3), Heights: zeroReadings(2), Fans: zeroReadings(6), Seqs: []int64{-1, -1, -1, -1}}
}

// someSenses have no field as a new one has it, and no two Readings alike.
func someSenses() impl.Senses {
	return impl.Senses{
		Speeds:  told(100, 0, 120, 1, 90, 5),
		Heights: told(400, 0, 405, 2),
		Fans:    told(500, 0, 510, 1, 520, 2, 530, 3, 540, 4, 550, 5),
		Want:    piOut,
		Armed:   true,
		Seqs:    []int64{10, 20, 30, 40},
	}
}

// someAged is someSenses behind a tick in which nothing is heard.
func someAged() impl.Senses {
	return impl.Senses{
		Speeds:  told(100, 1, 120, 2, 90, 6),
		Heights: told(400, 1, 405, 3),
		Fans:    told(500, 1, 510, 2, 520, 3, 530, 4, 540, 5, 550, 6),
		Want:    piOut,
		Armed:   true,
		Seqs:    []int64{10, 20, 30, 40},
	}
}

// edgeSenses have every number at a limit.
func edgeSenses() impl.Senses {
	return impl.Senses{
		Speeds:  []impl.Reading{reading(maxSize, maxAge, true), reading(-maxSize, 0, true), reading(-maxSize, maxAge, false)},
		Heights: []impl.Reading{reading(-maxSize, maxAge, true), reading(maxSize, 0, false)},
		Fans:    []impl.Reading{reading(maxSize, 0, true), reading(-maxSize, maxAge, true), reading(0, maxAge, false), {}, reading(maxSize, maxAge, false), reading(-maxSize, 0, false)},
		Want:    piLand,
		Seqs:    []int64{99, 0, -1, 98},
	}
}

func rightSenses() []impl.Senses {
	return []impl.Senses{newSenses(), someSenses(), someAged(), edgeSenses()}
}

func copyOf(s impl.Senses) impl.Senses {
	s.Speeds, s.Heights, s.Fans = slices.Clone(s.Speeds), slices.Clone(s.Heights), slices.Clone(s.Fans)
	s.Seqs = slices.Clone(s.Seqs)
	return s
}

func sameSenses(a, b impl.Senses) bool {
	return slices.Equal(a.Speeds, b.Speeds) && slices.Equal(a.Heights, b.Heights) && slices.Equal(a.Fans, b.Fans) &&
		a.Want == b.Want && a.Armed == b.Armed && slices.Equal(a.Seqs, b.Seqs)
}

// readingsIn are the three lists of Readings, so that a test can put others there.
func readingsIn(s *impl.Senses) []*[]impl.Reading {
	return []*[]impl.Reading{&s.Speeds, &s.Heights, &s.Fans}
}

// withReadings puts a list in the place of one of the three.
func withReadings(s impl.Senses, which int, l []impl.Reading) impl.Senses {
	s = copyOf(s)
	*readingsIn(&s)[which] = l
	return s
}

func withReading(s impl.Senses, which, place int, r impl.Reading) impl.Senses {
	s = copyOf(s)
	(*readingsIn(&s)[which])[place] = r
	return s
}

func withSeqs(s impl.Senses, seqs ...int64) impl.Senses {
	s = copyOf(s)
	s.Seqs = seqs
	return s
}

func withSeq(s impl.Senses, place int, seq int64) impl.Senses {
	s = copyOf(s)
	s.Seqs[place] = seq
	return s
}

func withWant(s impl.Senses, want int64) impl.Senses {
	s = copyOf(s)
	s.Want = want
	return s
}

// wrongLengths are s with one list that is too short or too long.
func wrongLengths(s impl.Senses) []impl.Senses {
	var l []impl.Senses
	for which, list := range readingsIn(&s) {
		many := len(*list)
		for _, n := range []int{0, 1, 2, 3, 4, 5, 6, 7, 100, 256 + many} {
			if n != many {
				l = append(l, withReadings(s, which, zeroReadings(n)))
			}
		}
		l = append(l, withReadings(s, which, nil), withReadings(s, which, (*list)[:many-1]), withReadings(s, which, append(slices.Clone(*list), impl.Reading{})))
	}
	for _, n := range []int{0, 1, 2, 3, 5, 6, 100, 260} {
		l = append(l, withSeqs(s, make([]int64, n)...))
	}
	return append(l, withSeqs(s), withSeqs(s, s.Seqs[:3]...), withSeqs(s, append(slices.Clone(s.Seqs), -1)...))
}

// oneReadingBad are s with a Reading that is not right, each in each place.
func oneReadingBad(s impl.Senses) []impl.Senses {
	var l []impl.Senses
	for which, list := range readingsIn(&s) {
		for place := range *list {
			for _, bad := range badReadings() {
				l = append(l, withReading(s, which, place, bad))
			}
		}
	}
	return l
}

func oneNumberBad(s impl.Senses) []impl.Senses {
	var l []impl.Senses
	for _, want := range notWants() {
		l = append(l, withWant(s, want))
	}
	for place := range manyKinds {
		for _, seq := range notSeqs() {
			l = append(l, withSeq(s, place, seq))
		}
	}
	return l
}

// badSenses are not right in one field each, and the zero Senses in several.
func badSenses() []impl.Senses {
	l := []impl.Senses{{}, {Want: piOut, Armed: true}, {Seqs: []int64{-1, -1, -1, -1}}}
	for _, s := range []impl.Senses{newSenses(), someSenses()} {
		l = slices.Concat(l, wrongLengths(s), oneReadingBad(s), oneNumberBad(s))
	}
	return l
}

func wantReadings(l []impl.Reading, many int) bool {
	right := len(l) == many
	for _, r := range l {
		_, is := wantAged(r)
		right = right && is
	}
	return right
}

func wantSenses(s impl.Senses) bool {
	right := wantReadings(s.Speeds, 3) && wantReadings(s.Heights, 2) && wantReadings(s.Fans, 6)
	right = right && s.Want >= 0 && s.Want <= 2 && len(s.Seqs) == 4
	for _, seq := range s.Seqs {
		right = right && seq >= -1 && seq <= 99
	}
	return right
}

// heardOf has nothing where nothing of that Kind is heard.
func heardOf(s impl.Senses, l []impl.Frame, kind int64) ([]int64, int64, bool) {
	place := wantHeard(l, kind, s.Seqs[kind-1])
	if place < 0 {
		return nil, s.Seqs[kind-1], false
	}
	return l[place].Values, l[place].Seq, true
}

func agedOnce(r impl.Reading) impl.Reading {
	aged, _ := wantAged(r)
	return aged
}

// wantFed goes Reading by Reading, where the program goes Frame by Frame.
func wantFed(s impl.Senses, l []impl.Frame) impl.Senses {
	if !wantSenses(s) {
		return impl.Senses{}
	}
	fed := copyOf(s)
	for i, old := range s.Speeds {
		if values, _, is := heardOf(s, l, 1); is {
			fed.Speeds[i] = wantTaken(rangeOf(0, 400, 20), old, values[i])
		} else {
			fed.Speeds[i] = agedOnce(old)
		}
	}
	for i, old := range s.Heights {
		if values, _, is := heardOf(s, l, 2); is {
			fed.Heights[i] = wantTaken(rangeOf(0, 2000, 60), old, values[i])
		} else {
			fed.Heights[i] = agedOnce(old)
		}
	}
	for i, old := range s.Fans {
		if values, _, is := heardOf(s, l, 3); is {
			fed.Fans[i] = reading(within(values[i], 0, 1000), 0, true)
		} else {
			fed.Fans[i] = agedOnce(old)
		}
	}
	if values, _, is := heardOf(s, l, 4); is {
		fed.Armed = values[1] > 0 || values[1] < 0
		if values[0] == 0 || values[0] == 1 || values[0] == 2 {
			fed.Want = values[0]
		}
	}
	for _, kind := range eachKind() {
		_, fed.Seqs[kind-1], _ = heardOf(s, l, kind)
	}
	return fed
}

func wantFactsOf(s impl.Senses, c, timer int64) impl.Facts {
	if !wantSenses(s) || !isCase(c) {
		return impl.Facts{}
	}
	f := impl.Facts{Case: c, Armed: s.Armed, Want: s.Want, Timer: within(timer, 0, 1000)}
	f.Speed, f.SpeedOk = wantThree(s.Speeds, 3)
	f.Height, f.HeightOk = wantTwo(s.Heights, 3, 10)
	return f
}

func checkSenses(t *testing.T, s impl.Senses, want bool) {
	t.Helper()
	if got := impl.SensesOk(s); got != want {
		t.Errorf("SensesOk(%+v) = %v, want %v", s, got, want)
	}
}

func checkFed(t *testing.T, s impl.Senses, l []impl.Frame, want impl.Senses) {
	t.Helper()
	if got := impl.Fed(s, l); !sameSenses(got, want) {
		t.Errorf("Fed(%+v, %v) =\n%+v, want\n%+v", s, l, got, want)
	}
}

func checkFedAsTold(t *testing.T, s impl.Senses, l []impl.Frame) {
	t.Helper()
	checkFed(t, s, l, wantFed(s, l))
}

func checkFactsOf(t *testing.T, s impl.Senses, c, timer int64, want impl.Facts) {
	t.Helper()
	if got := impl.FactsOf(s, c, timer); got != want {
		t.Errorf("FactsOf(%+v, %d, %d) =\n%+v, want\n%+v", s, c, timer, got, want)
	}
}

func checkFactsAsTold(t *testing.T, s impl.Senses, c, timer int64) {
	t.Helper()
	checkFactsOf(t, s, c, timer, wantFactsOf(s, c, timer))
}

func TestP15SensesOk(t *testing.T) {
	for _, s := range rightSenses() {
		checkSenses(t, s, true)
	}
	checkSenses(t, impl.Senses{}, false)
	for _, s := range badSenses() {
		checkSenses(t, s, false)
	}
}

func TestP15SensesOkAtTheLimits(t *testing.T) {
	for _, base := range rightSenses() {
		for _, c := range []struct {
			want int64
			ok   bool
		}{{-1, false}, {0, true}, {1, true}, {2, true}, {3, false}} {
			checkSenses(t, withWant(base, c.want), c.ok)
		}
		for place := range manyKinds {
			for _, c := range []struct {
				seq int64
				ok  bool
			}{{-2, false}, {-1, true}, {0, true}, {98, true}, {99, true}, {100, false}} {
				checkSenses(t, withSeq(base, place, c.seq), c.ok)
			}
		}
		for _, armed := range []bool{true, false} {
			base.Armed = armed
			checkSenses(t, base, true)
		}
	}
}

// Each Reading that is right may stand in each place.
func TestP15SensesOkOfEachReading(t *testing.T) {
	s := someSenses()
	for which, list := range readingsIn(&s) {
		for place := range *list {
			for _, r := range rightReadings() {
				checkSenses(t, withReading(s, which, place, r), true)
			}
		}
	}
}

func TestP15NewSenses(t *testing.T) {
	s := impl.NewSenses()
	if !sameSenses(s, newSenses()) {
		t.Errorf("NewSenses() = %+v, want %+v", s, newSenses())
	}
	checkSenses(t, s, true)
}

func overwrite(l []impl.Reading) {
	l = l[:cap(l)]
	for i := range l {
		l[i] = reading(-77, 7, true)
	}
}

func TestP15NewSensesShareNoMemory(t *testing.T) {
	one, other := impl.NewSenses(), impl.NewSenses()
	left := one
	overwrite(one.Speeds)
	left.Speeds = zeroReadings(3)
	if !sameSenses(left, newSenses()) {
		t.Errorf("Speeds were changed, and the others are %+v", left)
	}
	overwrite(one.Heights)
	left.Heights = zeroReadings(2)
	if !sameSenses(left, newSenses()) {
		t.Errorf("Heights were changed, and the others are %+v", left)
	}
	overwrite(one.Fans)
	writeOver(one.Seqs)
	if !sameSenses(other, newSenses()) {
		t.Errorf("one answer was changed, and the other is %+v", other)
	}
	if again := impl.NewSenses(); !sameSenses(again, newSenses()) {
		t.Errorf("two answers were changed, and the next one is %+v", again)
	}
}

// said has a Frame of each Kind, newer than what someSenses heard, and all sane.
func said() []impl.Frame {
	return []impl.Frame{frame(impl.FrSpeed, 11, 110, 115, 95), frame(impl.FrHeight, 22, 410, 400), frame(impl.FrFans, 33, 1, 22, 333, 444, 555, 666), frame(impl.FrPilot, 44, piLand, 0)}
}

// afterSaid is someAged with what is said of these Kinds.
func afterSaid(kinds ...int64) impl.Senses {
	s := someAged()
	for _, kind := range kinds {
		switch kind {
		case 1:
			s.Speeds, s.Seqs[0] = told(110, 0, 115, 0, 95, 0), 11
		case 2:
			s.Heights, s.Seqs[1] = told(410, 0, 400, 0), 22
		case 3:
			s.Fans, s.Seqs[2] = told(1, 0, 22, 0, 333, 0, 444, 0, 555, 0, 666, 0), 33
		case 4:
			s.Want, s.Armed, s.Seqs[3] = piLand, false, 44
		}
	}
	return s
}

func TestP15EachKindAlone(t *testing.T) {
	for i, f := range said() {
		checkFed(t, someSenses(), []impl.Frame{f}, afterSaid(int64(i+1)))
	}
}

// Every set of Kinds, once in order and once the other way round.
func TestP15EverySetOfKinds(t *testing.T) {
	for bits := range 1 << manyKinds {
		var l []impl.Frame
		var kinds []int64
		for i, f := range said() {
			if bits>>i&1 == 1 {
				l, kinds = append(l, f), append(kinds, int64(i+1))
			}
		}
		checkFed(t, someSenses(), l, afterSaid(kinds...))
		slices.Reverse(l)
		checkFed(t, someSenses(), l, afterSaid(kinds...))
	}
	checkFed(t, someSenses(), said(), afterSaid(1, 2, 3, 4))
}

func TestP15NothingIsHeard(t *testing.T) {
	for _, l := range [][]impl.Frame{nil, {}, {{}}, {{}, {}, {}}, badFrames()} {
		checkFed(t, someSenses(), l, someAged())
		for _, s := range rightSenses() {
			checkFedAsTold(t, s, l)
		}
	}
	want := newSenses()
	for _, list := range readingsIn(&want) {
		for i := range *list {
			(*list)[i].Age = 1
		}
	}
	checkFed(t, newSenses(), nil, want)
}

func TestP15FromNewSenses(t *testing.T) {
	l := []impl.Frame{frame(impl.FrSpeed, 99, 0, 400, 200), frame(impl.FrHeight, 0, 2000, 0), frame(impl.FrFans, 50, 0, 1000, 1, 999, 500, 501), frame(impl.FrPilot, 51, piOut, 1)}
	want := impl.Senses{
		Speeds:  told(0, 0, 400, 0, 200, 0),
		Heights: told(2000, 0, 0, 0),
		Fans:    told(0, 0, 1000, 0, 1, 0, 999, 0, 500, 0, 501, 0),
		Want:    piOut,
		Armed:   true,
		Seqs:    []int64{99, 0, 50, 51},
	}
	checkFed(t, newSenses(), l, want)
	checkFed(t, impl.NewSenses(), l, want)
}

// ordinary is a right Frame of that Kind that tells n in each place.
func ordinary(kind, seq, n int64) impl.Frame {
	return frame(kind, seq, slices.Repeat([]int64{n}, kindValues[kind])...)
}

// allSeqs are new Senses that have heard each Kind with that Seq.
func allSeqs(seq int64) impl.Senses { return withSeqs(newSenses(), seq, seq, seq, seq) }

func allAged(s impl.Senses) impl.Senses {
	s = copyOf(s)
	for _, list := range readingsIn(&s) {
		for i, r := range *list {
			(*list)[i] = agedOnce(r)
		}
	}
	return s
}

// afterOne is s behind an ordinary Frame, from 0 to 2 in each place, which is sane.
func afterOne(s impl.Senses, kind, seq, n int64) impl.Senses {
	s = withSeq(allAged(s), int(kind-1), seq)
	if kind == impl.FrPilot {
		s.Want, s.Armed = n, n != 0
		return s
	}
	list := *readingsIn(&s)[kind-1]
	for i := range list {
		list[i] = reading(n, 0, true)
	}
	return s
}

// Of several Frames of one Kind the last one counts that was newer than the one
// that was newer ahead of it, whatever the order. Each tells its place.
func TestP15SeveralOfOneKind(t *testing.T) {
	for _, c := range []struct {
		old   int64
		seqs  []int64
		place int64
	}{
		{5, []int64{6, 7, 8}, 2},
		{5, []int64{8, 7, 6}, 0},
		{5, []int64{7, 6, 8}, 2},
		{5, []int64{8, 6, 7}, 0},
		{5, []int64{6, 8, 7}, 1},
		{5, []int64{7, 8, 6}, 1},
		{5, []int64{6, 6, 6}, 0},
		{5, []int64{5, 5, 5}, -1},
		{5, []int64{4, 3, 2}, -1},
		{5, []int64{4, 6, 5}, 1},
		{5, []int64{55, 56, 57}, 2},
		{5, []int64{56, 57, 58}, -1},
		{98, []int64{99, 0, 1}, 2},
		{98, []int64{1, 0, 99}, 0},
		{99, []int64{0, 99, 98}, 0},
		{0, []int64{99, 98, 97}, -1},
		{-1, []int64{70, 10, 99}, 1},
		{-1, []int64{70, 10, 60}, 2},
		{-1, []int64{0, 0, 0}, 0},
		{-1, []int64{99, 98, 97}, 0},
	} {
		for _, kind := range eachKind() {
			var l []impl.Frame
			for i, seq := range c.seqs {
				l = append(l, ordinary(kind, seq, int64(i)))
			}
			s := allSeqs(c.old)
			want := allAged(s)
			if c.place >= 0 {
				want = afterOne(s, kind, c.seqs[c.place], c.place)
			}
			checkFed(t, s, l, want)
		}
	}
}

// Other Kinds in between take nothing away, and have Seqs of their own.
func TestP15SeveralOfEachKind(t *testing.T) {
	var l []impl.Frame
	for n := range int64(3) {
		for _, kind := range eachKind() {
			l = append(l, ordinary(kind, 10*kind+n, n))
		}
	}
	s := withSeqs(newSenses(), 10, 19, 32, 41)
	want := newSenses()
	want.Speeds, want.Heights, want.Fans = told(2, 0, 2, 0, 2, 0), told(2, 0, 2, 0), slices.Repeat(told(0, 1), 6)
	for i := range want.Fans {
		want.Fans[i].Was = false
	}
	want.Want, want.Armed, want.Seqs = piLand, true, []int64{12, 22, 32, 42}
	checkFed(t, s, l, want)
}

// A Frame is heard where its Seq is from 1 to 50 ahead, whichever Kind it is of,
// and however the other three Seqs are.
func TestP15EachSeqBehindEach(t *testing.T) {
	for _, kind := range eachKind() {
		for old := notYet; old <= 99; old++ {
			for seq := range int64(100) {
				s := withSeq(allSeqs(old/2), int(kind-1), old)
				l := []impl.Frame{ordinary(kind, seq, 1)}
				want := allAged(s)
				if wantNewer(old, seq) {
					want = afterOne(s, kind, seq, 1)
				}
				checkFed(t, s, l, want)
			}
		}
	}
}

// What was heard in one Fed is not heard again in the next one.
func TestP15HeardOnce(t *testing.T) {
	once := impl.Fed(someSenses(), said())
	checkFed(t, someSenses(), said(), once)
	checkFed(t, once, said(), allAged(afterSaid(1, 2, 3, 4)))
	for _, kind := range eachKind() {
		for _, old := range []int64{-1, 0, 50, 98, 99} {
			seq := (old + 1) % 100
			l := []impl.Frame{ordinary(kind, seq, 2)}
			first := afterOne(allSeqs(old), kind, seq, 2)
			checkFed(t, allSeqs(old), l, first)
			checkFed(t, first, l, allAged(first))
			checkFed(t, first, slices.Repeat(l, 9), allAged(first))
			checkFed(t, first, []impl.Frame{l[0], ordinary(kind, (seq+1)%100, 1)}, afterOne(first, kind, (seq+1)%100, 1))
		}
	}
}

func TestP15AFrameThatIsNotRight(t *testing.T) {
	for _, bad := range badFrames() {
		for _, s := range []impl.Senses{newSenses(), someSenses()} {
			checkFed(t, s, []impl.Frame{bad}, allAged(s))
		}
		// Neither ahead of right ones nor behind them nor between does it change anything.
		for place := range manyKinds + 1 {
			checkFed(t, someSenses(), slices.Insert(said(), place, bad), afterSaid(1, 2, 3, 4))
		}
	}
}

func TestP15AKindThatIsNone(t *testing.T) {
	for _, kind := range []int64{0, 5, -1, 6, 255, 257, 1<<32 + 1, -1 << 32, math.MinInt64, math.MinInt64 + 1, math.MaxInt64 - 1, math.MaxInt64} {
		for _, many := range []int{0, 2, 3, 6} {
			none := frame(kind, 11, make([]int64, many)...)
			checkFed(t, newSenses(), []impl.Frame{none}, allAged(newSenses()))
			checkFed(t, someSenses(), []impl.Frame{none, none}, someAged())
			checkFed(t, someSenses(), slices.Concat([]impl.Frame{none}, said(), []impl.Frame{none}), afterSaid(1, 2, 3, 4))
		}
	}
}

// checkSpeeds tells three speeds, each behind an old one of its own.
func checkSpeeds(t *testing.T, old []impl.Reading, values []int64, want []impl.Reading) {
	t.Helper()
	s := withReadings(someSenses(), 0, old)
	fed := withSeq(withReadings(someAged(), 0, want), 0, 11)
	checkFed(t, s, []impl.Frame{frame(impl.FrSpeed, 11, values...)}, fed)
}

func checkHeights(t *testing.T, old []impl.Reading, values []int64, want []impl.Reading) {
	t.Helper()
	s := withReadings(someSenses(), 1, old)
	fed := withSeq(withReadings(someAged(), 1, want), 1, 22)
	checkFed(t, s, []impl.Frame{frame(impl.FrHeight, 22, values...)}, fed)
}

// sensed is one value behind an old Reading, and whether it can be.
type sensed struct {
	old   impl.Reading
	value int64
	sane  bool
}

func (c sensed) behind() impl.Reading {
	if c.sane {
		return reading(c.value, 0, true)
	}
	return agedOnce(c.old)
}

// sensedBy has both sides of each limit of a Range, at each Age that is named,
// and behind nothing.
func sensedBy(most, rate int64) []sensed {
	never, gone := impl.Reading{}, reading(-5, 7, false)
	l := []sensed{
		{never, 0, true}, {never, most, true}, {never, -1, false}, {never, most + 1, false}, {never, most / 2, true},
		{gone, 0, true}, {gone, most, true}, {gone, -1, false}, {gone, most + 1, false},
		{never, -maxSize, false}, {never, maxSize, false},
		{reading(0, 0, true), 0, true}, {reading(0, 0, true), -1, false}, {reading(0, maxAge, true), -1, false},
		{reading(most, 0, true), most, true}, {reading(most, 0, true), most + 1, false}, {reading(most, maxAge, true), most + 1, false},
		{reading(-rate, 0, true), 0, true}, {reading(-rate-1, 0, true), 0, false}, {reading(most+rate, 0, true), most, true}, {reading(most+rate+1, 0, true), most, false},
		{reading(maxSize, maxAge, true), most, false}, {reading(-maxSize, maxAge, true), 0, false},
		{reading(0, maxAge, true), most, true}, {reading(most, maxAge, true), 0, true},
	}
	for _, age := range []int64{0, 1, 2, 3, 4} {
		old := reading(most/2, age, true)
		way := rate * (age + 1)
		l = append(l, sensed{old, most/2 + way, true}, sensed{old, most/2 + way + 1, false}, sensed{old, most/2 - way, true}, sensed{old, most/2 - way - 1, false}, sensed{old, most / 2, true})
	}
	return l
}

// Each speed is Taken by itself: in each place, beside two others that are sane
// and beside two that are not.
func TestP15SpeedsAreTakenOneByOne(t *testing.T) {
	beside := []sensed{{reading(100, 0, true), 120, true}, {reading(50, 2, true), 111, false}}
	for _, c := range sensedBy(400, 20) {
		for _, other := range beside {
			for place := range manySpeeds {
				all := []sensed{other, other, other}
				all[place] = c
				checkSpeeds(t, []impl.Reading{all[0].old, all[1].old, all[2].old}, []int64{all[0].value, all[1].value, all[2].value}, []impl.Reading{all[0].behind(), all[1].behind(), all[2].behind()})
			}
		}
	}
}

func TestP15HeightsAreTakenOneByOne(t *testing.T) {
	beside := []sensed{{reading(100, 0, true), 160, true}, {reading(50, 2, true), 231, false}}
	for _, c := range sensedBy(2000, 60) {
		for _, other := range beside {
			checkHeights(t, []impl.Reading{c.old, other.old}, []int64{c.value, other.value}, []impl.Reading{c.behind(), other.behind()})
			checkHeights(t, []impl.Reading{other.old, c.old}, []int64{other.value, c.value}, []impl.Reading{other.behind(), c.behind()})
		}
	}
}

// The limits in numbers that are written out.
func TestP15SpeedsAndHeightsAtTheLimits(t *testing.T) {
	none := zeroReadings(3)
	never := reading(0, 1, false)
	checkSpeeds(t, none, []int64{0, 400, -1}, []impl.Reading{reading(0, 0, true), reading(400, 0, true), never})
	checkSpeeds(t, none, []int64{401, 0, 400}, []impl.Reading{never, reading(0, 0, true), reading(400, 0, true)})
	checkSpeeds(t, told(100, 0, 100, 0, 100, 0), []int64{120, 121, 80}, []impl.Reading{reading(120, 0, true), reading(100, 1, true), reading(80, 0, true)})
	checkSpeeds(t, told(100, 0, 100, 1, 100, 1), []int64{79, 140, 141}, []impl.Reading{reading(100, 1, true), reading(140, 0, true), reading(100, 2, true)})
	checkSpeeds(t, told(100, 1, 100, 1, 100, 4), []int64{60, 59, 200}, []impl.Reading{reading(60, 0, true), reading(100, 2, true), reading(200, 0, true)})
	checkSpeeds(t, told(100, 4, 100, 4, 0, 1000), []int64{201, 0, 400}, []impl.Reading{reading(100, 5, true), reading(0, 0, true), reading(400, 0, true)})
	checkHeights(t, none[:2], []int64{0, 2000}, told(0, 0, 2000, 0))
	checkHeights(t, none[:2], []int64{-1, 2000}, []impl.Reading{never, reading(2000, 0, true)})
	checkHeights(t, none[:2], []int64{0, 2001}, []impl.Reading{reading(0, 0, true), never})
	checkHeights(t, told(100, 0, 100, 0), []int64{160, 161}, told(160, 0, 100, 1))
	checkHeights(t, told(100, 0, 100, 0), []int64{39, 40}, told(100, 1, 40, 0))
	checkHeights(t, told(500, 1, 500, 1), []int64{620, 621}, told(620, 0, 500, 2))
	checkHeights(t, told(500, 4, 500, 4), []int64{199, 200}, told(500, 5, 200, 0))
	checkHeights(t, told(0, 1000, 2000, 1000), []int64{2000, -1}, told(2000, 0, 2000, 1000))
}

func TestP15FansAreGot(t *testing.T) {
	for _, c := range []struct{ told, want int64 }{
		{-1, 0}, {0, 0}, {1, 1}, {2, 2}, {500, 500}, {999, 999}, {1000, 1000}, {1001, 1000}, {1002, 1000}, {-1000, 0}, {2000, 1000}, {-maxSize, 0}, {maxSize, 1000},
	} {
		for place := range sixFans {
			values := []int64{101, 202, 303, 404, 505, 606}
			values[place] = c.told
			want := withSeq(withReadings(someAged(), 2, told(101, 0, 202, 0, 303, 0, 404, 0, 505, 0, 606, 0)), 2, 33)
			want.Fans[place].Value = c.want
			checkFed(t, someSenses(), []impl.Frame{frame(impl.FrFans, 33, values...)}, want)
		}
	}
}

// Fans go by no Rate and no Range: whatever was ahead, they are Got.
func TestP15FansAreGotBehindEachReading(t *testing.T) {
	for _, r := range rightReadings() {
		for place := range sixFans {
			s := withReading(someSenses(), 2, place, r)
			checkFed(t, s, []impl.Frame{ordinary(impl.FrFans, 33, 700)}, withSeq(withReadings(someAged(), 2, slices.Repeat(told(700, 0), 6)), 2, 33))
		}
	}
}

func TestP15ThePilot(t *testing.T) {
	for was := range int64(3) {
		for want := range int64(3) {
			for _, armed := range []bool{true, false} {
				for _, n := range []int64{0, 1, -1, 2, -2, 100, 256, -256, 1 << 16, maxSize, -maxSize} {
					s, fed := withWant(someSenses(), was), withSeq(withWant(someAged(), want), 3, 41)
					s.Armed, fed.Armed = armed, n != 0
					checkFed(t, s, []impl.Frame{frame(impl.FrPilot, 41, want, n)}, fed)
				}
			}
		}
	}
}

// What is no want changes the Want alone by nothing: Armed and the Seq go on.
func TestP15AWantThatIsNone(t *testing.T) {
	for was := range int64(3) {
		for _, none := range []int64{-1, 3, -2, 4, 100, 256, 257, 1 << 16, 1<<16 + 1, maxSize, -maxSize} {
			for _, armed := range []bool{true, false} {
				for _, n := range []int64{0, 1, -1, 7} {
					s, fed := withWant(someSenses(), was), withSeq(withWant(someAged(), was), 3, 41)
					s.Armed, fed.Armed = armed, n != 0
					l := []impl.Frame{frame(impl.FrPilot, 41, none, n)}
					checkFed(t, s, l, fed)
					checkFed(t, fed, l, allAged(fed))
				}
			}
		}
	}
	// Only the last one is asked, even where one ahead of it had a want.
	fed := withSeq(someAged(), 3, 42)
	checkFed(t, someSenses(), []impl.Frame{frame(impl.FrPilot, 41, piLand, 0), frame(impl.FrPilot, 42, 3, 1)}, fed)
}

// A Kind that is heard leaves each other one's Readings to grow older by one.
func TestP15WhatIsNotHeardIsAged(t *testing.T) {
	for _, r := range rightReadings() {
		s := someSenses()
		for _, list := range readingsIn(&s) {
			for i := range *list {
				(*list)[i] = r
			}
		}
		checkFed(t, s, nil, allAged(s))
		for _, kind := range eachKind() {
			fed := impl.Fed(s, said()[kind-1:kind])
			for which, list := range readingsIn(&fed) {
				if int64(which+1) != kind && !slices.Equal(*list, slices.Repeat([]impl.Reading{agedOnce(r)}, len(*list))) {
					t.Errorf("Kind %d was heard behind %v, and list %d of Readings is %v", kind, r, which, *list)
				}
			}
			if kind != impl.FrPilot && (fed.Want != s.Want || fed.Armed != s.Armed || fed.Seqs[3] != s.Seqs[3]) {
				t.Errorf("Kind %d was heard, and of the pilot there is %+v", kind, fed)
			}
		}
	}
}

func TestP15AtMaxAge(t *testing.T) {
	old := slices.Repeat(told(7, maxAge), 6)
	s := someSenses()
	s.Speeds, s.Heights, s.Fans = slices.Clone(old[:3]), slices.Clone(old[:2]), slices.Clone(old)
	checkFed(t, s, nil, s)
	checkFed(t, s, []impl.Frame{frame(impl.FrPilot, 40, piLand, 0)}, s)
	one := withReading(s, 0, 1, reading(7, maxAge-1, true))
	checkFed(t, one, nil, s)
	// What can't be is Aged, though its Kind is heard.
	checkFed(t, s, []impl.Frame{frame(impl.FrSpeed, 11, -1, 401, 8)}, withSeq(withReading(s, 0, 2, reading(8, 0, true)), 0, 11))
}

func TestP15SensesThatAreNotRight(t *testing.T) {
	for _, s := range badSenses() {
		for _, l := range [][]impl.Frame{nil, said()} {
			checkFed(t, s, l, impl.Senses{})
		}
		checkFactsOf(t, s, caNone, 7, impl.Facts{})
		checkFactsOf(t, s, caMany, 0, impl.Facts{})
	}
}

// freshSpeeds has those of the bits with an Age of 3 at most, the others past it.
func freshSpeeds(bits int, values []int64, fresh, stale impl.Reading) []impl.Reading {
	var l []impl.Reading
	for i, value := range values {
		r := stale
		if bits>>i&1 == 1 {
			r = fresh
		}
		r.Value = value
		l = append(l, r)
	}
	return l
}

// staleOnes are not Fresh by 3, whatever their Value is.
func staleOnes() []impl.Reading {
	return []impl.Reading{reading(0, 4, true), reading(0, 5, true), reading(0, maxAge, true), reading(0, 0, false), reading(0, 3, false), reading(0, 4, false)}
}

func TestP15SpeedOfTheFreshOnes(t *testing.T) {
	for _, stale := range staleOnes() {
		for age := range int64(4) {
			for bits, c := range []struct {
				speed int64
				ok    bool
			}{{0, false}, {10, false}, {31, false}, {20, true}, {20, false}, {15, true}, {25, true}, {20, true}} {
				speeds := freshSpeeds(bits, []int64{10, 31, 20}, reading(0, age, true), stale)
				f := impl.Facts{Speed: c.speed, SpeedOk: c.ok, Height: 400, HeightOk: true, Armed: true, Want: piOut, Timer: 7}
				checkFactsOf(t, withReadings(someSenses(), 0, speeds), caNone, 7, f)
			}
		}
	}
}

func TestP15HeightOfTheFreshOnes(t *testing.T) {
	for _, stale := range staleOnes() {
		for age := range int64(4) {
			for _, c := range []struct {
				bits    int
				heights []int64
				height  int64
				ok      bool
			}{
				{0, []int64{300, 305}, 0, false},
				{1, []int64{300, 305}, 300, true},
				{2, []int64{300, 305}, 305, true},
				{3, []int64{300, 305}, 300, true},
				{3, []int64{305, 300}, 300, true},
				{3, []int64{300, 310}, 300, true},
				{3, []int64{310, 300}, 300, true},
				{3, []int64{300, 311}, 300, false},
				{3, []int64{311, 300}, 300, false},
				{3, []int64{300, 300}, 300, true},
				{3, []int64{0, 2000}, 0, false},
				{3, []int64{-5, 5}, -5, true},
				{3, []int64{-5, 6}, -5, false},
				{1, []int64{0, 2000}, 0, true},
				{2, []int64{0, 2000}, 2000, true},
				{3, []int64{-maxSize, maxSize}, -maxSize, false},
			} {
				heights := freshSpeeds(c.bits, c.heights, reading(0, age, true), stale)
				f := impl.Facts{Speed: 110, SpeedOk: true, Height: c.height, HeightOk: c.ok, Armed: true, Want: piOut}
				checkFactsOf(t, withReadings(someSenses(), 1, heights), caNone, 0, f)
			}
		}
	}
}

// The same of Readings that were heard 3 and 4 ticks ago.
func TestP15AgesThreeAndFour(t *testing.T) {
	s := someSenses()
	s.Speeds, s.Heights = told(10, 3, 31, 3, 20, 3), told(300, 3, 310, 3)
	want := impl.Facts{Speed: 20, SpeedOk: true, Height: 300, HeightOk: true, Armed: true, Want: piOut}
	checkFactsOf(t, s, caNone, 0, want)
	s.Speeds[2].Age, s.Heights[0].Age = 4, 4
	want.Height = 310
	checkFactsOf(t, s, caNone, 0, want)
	s.Speeds[0].Age, s.Heights[1].Age = 4, 4
	want.Speed, want.SpeedOk, want.Height, want.HeightOk = 31, false, 0, false
	checkFactsOf(t, s, caNone, 0, want)
	s.Speeds[1].Age = 4
	want.Speed = 0
	checkFactsOf(t, s, caNone, 0, want)
}

func TestP15TheCaseIsThatCase(t *testing.T) {
	for _, s := range rightSenses() {
		for _, c := range eachCase() {
			f := impl.FactsOf(s, c, 5)
			if f.Case != c || f.Armed != s.Armed || f.Want != s.Want || f.Timer != 5 || !impl.FactsOk(f) {
				t.Errorf("FactsOf(%+v, %d, 5) = %+v", s, c, f)
			}
			checkFactsAsTold(t, s, c, 5)
		}
		for _, none := range append(notCases(), -1, 8) {
			checkFactsOf(t, s, none, 5, impl.Facts{})
		}
	}
}

func TestP15TheTimerIsCut(t *testing.T) {
	for _, c := range []struct{ timer, want int64 }{
		{-1, 0}, {0, 0}, {1, 1}, {60, 60}, {999, 999}, {1000, 1000}, {1001, 1000}, {-1000, 0}, {2000, 1000}, {1 << 32, 1000}, {-1 << 32, 0}, {1<<32 + 5, 1000},
		{math.MinInt64, 0}, {math.MinInt64 + 1, 0}, {math.MaxInt64 - 1, 1000}, {math.MaxInt64, 1000},
	} {
		for _, s := range rightSenses() {
			f := impl.FactsOf(s, 3, c.timer)
			if f.Timer != c.want || !impl.FactsOk(f) {
				t.Errorf("FactsOf(%+v, 3, %d) has the Timer %d, want %d", s, c.timer, f.Timer, c.want)
			}
			checkFactsAsTold(t, s, 3, c.timer)
		}
	}
}

func TestP15WantAndArmedAreThoseOfTheSenses(t *testing.T) {
	for want := range int64(3) {
		for _, armed := range []bool{true, false} {
			s := withWant(someSenses(), want)
			s.Armed = armed
			checkFactsOf(t, s, 4, 60, impl.Facts{Speed: 110, SpeedOk: true, Height: 400, HeightOk: true, Case: 4, Armed: armed, Want: want, Timer: 60})
		}
	}
	checkFactsOf(t, newSenses(), caNone, 0, impl.Facts{})
}

const spare = int64(-77)

// roomyReadings has the list with room behind it that a test can ask again.
func roomyReadings(l []impl.Reading) []impl.Reading {
	return append(slices.Clone(l), slices.Repeat(told(spare, 7), 9)...)[:len(l)]
}

func roomyNumbers(l []int64) []int64 {
	return append(slices.Clone(l), slices.Repeat([]int64{spare}, 9)...)[:len(l)]
}

func roomySenses(s impl.Senses) impl.Senses {
	s.Speeds, s.Heights, s.Fans = roomyReadings(s.Speeds), roomyReadings(s.Heights), roomyReadings(s.Fans)
	s.Seqs = roomyNumbers(s.Seqs)
	return s
}

func roomyFrames(l []impl.Frame) []impl.Frame {
	roomy := append(slices.Clone(l), slices.Repeat([]impl.Frame{{Kind: 9, Seq: spare}}, 5)...)[:len(l)]
	for i, f := range roomy {
		roomy[i].Values = roomyNumbers(f.Values)
	}
	return roomy
}

func checkRoom(t *testing.T, s, was impl.Senses) {
	t.Helper()
	if !sameSenses(s, was) {
		t.Errorf("given were %+v, and are %+v", was, s)
	}
	rooms := withSeqs(s, s.Seqs[len(s.Seqs):len(s.Seqs)+9]...)
	for which, list := range readingsIn(&s) {
		rooms = withReadings(rooms, which, (*list)[len(*list):len(*list)+9])
	}
	for _, list := range readingsIn(&rooms) {
		if !slices.Equal(*list, slices.Repeat(told(spare, 7), 9)) {
			t.Errorf("the room behind a list of Readings is %v", *list)
		}
	}
	if !slices.Equal(rooms.Seqs, slices.Repeat([]int64{spare}, 9)) {
		t.Errorf("the room behind the Seqs is %v", rooms.Seqs)
	}
}

func checkFrameRoom(t *testing.T, l, was []impl.Frame) {
	t.Helper()
	if !sameFrames(l, was) {
		t.Errorf("given were %v, and are %v", was, l)
	}
	for _, f := range l {
		if !slices.Equal(f.Values[len(f.Values):len(f.Values)+9], slices.Repeat([]int64{spare}, 9)) {
			t.Errorf("the room behind the Values of %v is %v", f, f.Values[:len(f.Values)+9])
		}
	}
	for _, f := range l[len(l) : len(l)+5] {
		if !sameFrame(f, impl.Frame{Kind: 9, Seq: spare}) {
			t.Errorf("the room behind the Frames has %v", f)
		}
	}
}

func overwriteAll(s impl.Senses) {
	for _, list := range readingsIn(&s) {
		overwrite(*list)
	}
	writeOver(s.Seqs)
}

func TestP15WhatIsGivenStays(t *testing.T) {
	frames := [][]impl.Frame{nil, said(), said()[:1], badFrames()[:20], slices.Concat(said(), pilots(45, 46), said())}
	senses := append(rightSenses(), wrongLengths(someSenses())...)
	for _, s := range senses {
		for _, l := range frames {
			given, heard := roomySenses(s), roomyFrames(l)
			impl.SensesOk(given)
			impl.FactsOf(given, caNone, 7)
			overwriteAll(impl.Fed(given, heard))
			checkRoom(t, given, s)
			checkFrameRoom(t, heard, l)
		}
	}
}

// Whoever changes what was given, or another answer, does not change an answer.
func TestP15AnswersShareNoMemoryWithWhatIsGiven(t *testing.T) {
	for _, s := range rightSenses() {
		for _, l := range [][]impl.Frame{nil, said(), said()[1:3], said()[3:]} {
			given, heard := roomySenses(s), roomyFrames(l)
			one, other := impl.Fed(given, heard), impl.Fed(given, heard)
			overwriteAll(given)
			for _, f := range heard {
				writeOver(f.Values)
			}
			clear(heard)
			overwriteAll(one)
			if want := wantFed(s, l); !sameSenses(other, want) {
				t.Errorf("what was given and another answer were changed, and the answer is %+v, want %+v", other, want)
			}
		}
	}
}

// checkListsApart writes over each list of the answer by itself, with its room.
func checkListsApart(t *testing.T, s impl.Senses, l []impl.Frame) {
	t.Helper()
	want := wantFed(s, l)
	for which := range 4 {
		fed := impl.Fed(s, l)
		left := fed
		if which == 3 {
			writeOver(fed.Seqs)
			left.Seqs = want.Seqs
		} else {
			overwrite(*readingsIn(&fed)[which])
			*readingsIn(&left)[which] = *readingsIn(&want)[which]
		}
		if !sameSenses(left, want) {
			t.Errorf("list %d of the answer was changed, and the others are %+v, want %+v", which, left, want)
		}
	}
}

func TestP15ListsOfAnAnswerShareNoMemory(t *testing.T) {
	for _, s := range rightSenses() {
		for _, l := range [][]impl.Frame{nil, said(), said()[:2], said()[2:]} {
			checkListsApart(t, s, l)
			checkListsApart(t, roomySenses(s), l)
		}
	}
	// Not even where the lists that are given share theirs.
	all := told(100, 0, 120, 1, 90, 5, 80, 6, 70, 7, 60, 8)
	shared := someSenses()
	shared.Speeds, shared.Heights, shared.Fans = all[:3], all[:2], all
	values := []int64{110, 111, 112, 113, 114, 115}
	sharing := []impl.Frame{frame(impl.FrSpeed, 11, values[:3]...), frame(impl.FrHeight, 22, values[:2]...), frame(impl.FrFans, 33, values...), frame(impl.FrPilot, 44, values[1:3]...)}
	for _, l := range [][]impl.Frame{nil, sharing, sharing[:1], sharing[2:]} {
		checkListsApart(t, shared, l)
	}
}

// anySenses are right, and mostly near what can be heard.
func anySenses(source *rand.Rand) impl.Senses {
	s := newSenses()
	for which, list := range readingsIn(&s) {
		middle := sizeWithin(source, 1000)
		for i := range *list {
			r := reading(middle+sizeWithin(source, 12), source.Int63n(7), source.Intn(6) > 0)
			if source.Intn(10) == 0 {
				r = reading(sizeWithin(source, maxSize), source.Int63n(maxAge+1), r.Was)
			}
			if which == 0 {
				r.Value = r.Value * 2 / 5
			}
			(*list)[i] = r
		}
	}
	s.Want, s.Armed = source.Int63n(3), source.Intn(2) == 0
	for i := range s.Seqs {
		s.Seqs[i] = source.Int63n(101) - 1
	}
	return s
}

// near is a Frame of that Kind that is mostly a little newer and mostly sane.
func near(source *rand.Rand, s impl.Senses, kind int64) impl.Frame {
	f := frame(kind, (s.Seqs[kind-1]+100+source.Int63n(4))%100)
	if source.Intn(6) == 0 {
		f.Seq = source.Int63n(100)
	}
	for i := range kindValues[kind] {
		n := source.Int63n(5) - 1
		if kind != impl.FrPilot {
			wide := []int64{5, 30, 90, 300}[source.Intn(4)]
			n = (*readingsIn(&s)[kind-1])[i].Value + sizeWithin(source, wide)
		}
		if source.Intn(12) == 0 {
			n = sizeWithin(source, []int64{3, 420, 2100, maxSize}[source.Intn(4)])
		}
		f.Values = append(f.Values, within(n, -maxSize, maxSize))
	}
	return f
}

func anyHeard(source *rand.Rand, s impl.Senses, bad []impl.Frame) []impl.Frame {
	var l []impl.Frame
	for range source.Intn(8) {
		switch source.Intn(10) {
		case 0:
			l = append(l, bad[source.Intn(len(bad))])
		case 1:
			l = append(l, anyFrame(source))
		default:
			l = append(l, near(source, s, 1+source.Int63n(4)))
		}
	}
	return l
}

// oneNumberOff makes one number of right Senses any other one.
func oneNumberOff(source *rand.Rand, s impl.Senses) impl.Senses {
	s = copyOf(s)
	n := anyLength(source)
	which := source.Intn(5)
	switch which {
	case 3:
		s.Want = n
	case 4:
		s.Seqs[source.Intn(4)] = n
	default:
		list := *readingsIn(&s)[which]
		if place := source.Intn(len(list)); source.Intn(2) == 0 {
			list[place].Value = n
		} else {
			list[place].Age = n
		}
	}
	return s
}

func TestP15OfDrawnSenses(t *testing.T) {
	source := rand.New(rand.NewSource(37))
	bad := badFrames()
	for range 30000 {
		s := anySenses(source)
		if source.Intn(5) == 0 {
			s = oneNumberOff(source, s)
		}
		checkSenses(t, s, wantSenses(s))
		l := []impl.Frame{}
		if wantSenses(s) {
			l = anyHeard(source, s, bad)
		}
		checkFedAsTold(t, s, l)
		c, timer := source.Int63n(10)-1, source.Int63n(1100)-50
		if source.Intn(10) == 0 {
			c, timer = anyLength(source), anyLength(source)
		}
		checkFactsAsTold(t, s, c, timer)
	}
}

// noFresher asks of one Reading that was not heard whether it may be so.
func noFresher(old, now impl.Reading) bool {
	for _, most := range []int64{-1, 0, 1, 2, 3, 4, 10, 999, 1000} {
		if impl.IsFresh(now, most) && !impl.IsFresh(old, most) {
			return false
		}
	}
	return now.Age >= old.Age && now.Value == old.Value && now.Was == old.Was
}

func checkNoFresherSenses(t *testing.T, s impl.Senses, l []impl.Frame, fed impl.Senses) {
	t.Helper()
	for which, list := range readingsIn(&s) {
		if wantHeard(l, int64(which+1), s.Seqs[which]) >= 0 {
			continue
		}
		for i, old := range *list {
			if now := (*readingsIn(&fed)[which])[i]; !noFresher(old, now) {
				t.Errorf("behind %v, in which Kind %d is not heard, %v is %v", l, which+1, old, now)
			}
		}
	}
}

// quiet has nothing of the speeds nor the heights: not newer, not right, or of
// another Kind.
func quiet(source *rand.Rand, s impl.Senses, bad []impl.Frame) []impl.Frame {
	var l []impl.Frame
	for range source.Intn(5) {
		f := bad[source.Intn(len(bad))]
		switch source.Intn(3) {
		case 0:
			f = near(source, s, 3+source.Int63n(2))
		case 1:
			f = near(source, s, 1+source.Int63n(2))
			f.Seq = max(s.Seqs[f.Kind-1], 0)
			if s.Seqs[f.Kind-1] < 0 {
				f.Values = nil
			}
		}
		l = append(l, f)
	}
	return l
}

// checkSilence goes on from s with nothing: behind four ticks of it at the
// latest neither is Ok.
func checkSilence(t *testing.T, s impl.Senses, next func(impl.Senses) []impl.Frame) {
	t.Helper()
	now := s
	for range 4 {
		now = impl.Fed(now, next(now))
	}
	for tick := 4; tick <= 7; tick++ {
		f := impl.FactsOf(now, caNone, 0)
		if !impl.SensesOk(now) || f.SpeedOk || f.HeightOk || f.Speed != 0 || f.Height != 0 {
			t.Errorf("behind %d ticks of nothing from %+v on: %+v", tick, s, f)
		}
		now = impl.Fed(now, next(now))
	}
}

func TestP15WhatIsNotHeardIsNoFresher(t *testing.T) {
	source := rand.New(rand.NewSource(38))
	bad := badFrames()
	silence := func(impl.Senses) []impl.Frame { return nil }
	noise := func(s impl.Senses) []impl.Frame { return quiet(source, s, bad) }
	oks := [2]int{}
	for range 300 {
		s := impl.NewSenses()
		often := source.Intn(3)
		for range 60 {
			l := anyHeard(source, s, bad)
			if source.Intn(4) < often {
				l = noise(s)
			}
			fed := impl.Fed(s, l)
			checkSenses(t, fed, true)
			checkNoFresherSenses(t, s, l, fed)
			s = fed
			checkSilence(t, s, silence)
			checkSilence(t, s, noise)
			f := impl.FactsOf(s, caNone, 0)
			if f.SpeedOk {
				oks[0]++
			}
			if f.HeightOk {
				oks[1]++
			}
		}
	}
	if min(oks[0], oks[1]) < 1000 || max(oks[0], oks[1]) > 17000 {
		t.Errorf("of 18000 times the speed was Ok %d times, the height %d: too few or too many to tell", oks[0], oks[1])
	}
}

// Three ticks of nothing are not more than three: what was heard just ahead of
// them is Ok in all of them, and in no more.
func TestP15ThreeTicksOfNothing(t *testing.T) {
	s := impl.Fed(impl.NewSenses(), []impl.Frame{frame(impl.FrSpeed, 5, 70, 90, 80), frame(impl.FrHeight, 6, 30, 25)})
	for tick := range 10 {
		want := impl.Facts{}
		if tick <= 3 {
			want = impl.Facts{Speed: 80, SpeedOk: true, Height: 25, HeightOk: true}
		}
		checkFactsOf(t, s, caNone, 0, want)
		s = impl.Fed(s, nil)
	}
}

// What is heard of one Kind alone keeps no other one Ok.
func TestP15OneKindDoesNotKeepAnotherOk(t *testing.T) {
	s := impl.Fed(impl.NewSenses(), []impl.Frame{frame(impl.FrSpeed, 0, 70, 90, 80), frame(impl.FrHeight, 0, 30, 25)})
	speeds, heights := s, s
	for tick := int64(1); tick <= 30; tick++ {
		speeds = impl.Fed(speeds, []impl.Frame{frame(impl.FrSpeed, tick, 70, 90, 80), ordinary(impl.FrFans, tick, 9), ordinary(impl.FrPilot, tick, 0)})
		heights = impl.Fed(heights, []impl.Frame{frame(impl.FrHeight, tick, 30, 25), ordinary(impl.FrFans, tick, 9), ordinary(impl.FrPilot, tick, 0)})
		wantSpeeds, wantHeights := impl.Facts{Speed: 80, SpeedOk: true}, impl.Facts{Height: 25, HeightOk: true}
		if tick <= 3 {
			wantSpeeds.Height, wantSpeeds.HeightOk = 25, true
			wantHeights.Speed, wantHeights.SpeedOk = 80, true
		}
		checkFactsOf(t, speeds, caNone, 0, wantSpeeds)
		checkFactsOf(t, heights, caNone, 0, wantHeights)
	}
}
