package tests

import (
	"math"
	"math/rand"
	"slices"
	"strings"
	"testing"

	"loop.example/g00619/impl"
)

// The shortest text of a Frame, and the longest one, which is longer than
// what may be left over.
const (
	shortLine = "H 0 0 0 *177\n"
	longLine  = "F 99 -1000000 -1000000 -1000000 -1000000 -1000000 -1000000 *20\n"
)

const (
	maxStream = 4000
	maxLeft   = 60
	maxFrames = 50
)

// noLines are pieces that end with a byte 10 and are no Frames; none has
// another byte 10 in it.
func noLines() []string {
	bare := strings.TrimSuffix(shortLine, "\n")
	l := []string{
		"\n", " \n", "\r\n", "\x00\n", "x\n", "noise\n", "é\n", "\xff\xfe\n", "*\n", "*177\n", "H\n", "S\n",
		bare + "\r\n", bare + " \n", bare + "\x00\n", " " + shortLine, "\r" + shortLine, "x" + shortLine, "\ufeff" + shortLine,
		bare + bare + "\n", bare + shortLine, bare + "\r" + shortLine, bare + "\v" + shortLine, bare + "\u2028" + shortLine, bare + "\u0085" + shortLine, bare + ";" + shortLine,
		shortLine[1:], shortLine[3:], bare[:len(bare)-1] + "\n", bare + "7\n",
		"H 0 0 0 *176\n", "H 0 0 0 *178\n", "H 0 0 1 *177\n", "H 1 0 0 *177\n", "P 0 0 0 *177\n", "h 0 0 0 *177\n", "H 0 0 0  *177\n", "H 0 0 0*177\n", "H 0 0 0 177\n", "H 0 0 0 *0177\n", "H 0 0 0 *-74\n", "H 0 0 0 *428\n",
		summed("H 100 0 0 "), summed("H -1 0 0 "), summed("H 0 0 "), summed("H 0 0 0 0 "), summed("H 0 1000001 0 "), summed("T 0 0 0 "), summed("H 00 0 0 "),
		strings.Repeat("x", 58) + "\n", strings.Repeat("x", 59) + "\n", strings.Repeat("x", 60) + "\n", strings.Repeat("x", 61) + "\n", strings.Repeat("x", 200) + "\n", strings.Repeat("x", 201) + "\n", strings.Repeat("H 0 ", 100) + "\n",
	}
	for _, f := range badFrames() {
		if f.Kind >= impl.FrSpeed && f.Kind <= impl.FrPilot && len(f.Values) < 50 {
			l = append(l, wantShown(f))
		}
	}
	return l
}

// wantFrames cuts the text into all its pieces at once, and reads each by its
// form.
func wantFrames(s string) ([]impl.Frame, string) {
	if len(s) > maxStream {
		return nil, ""
	}
	pieces := strings.SplitAfter(s, "\n")
	rest := pieces[len(pieces)-1]
	var l []impl.Frame
	for _, piece := range pieces[:len(pieces)-1] {
		if f, is := wantRead(piece); is {
			l = append(l, f)
		}
	}
	if len(rest) > maxLeft {
		rest = ""
	}
	return l[:min(len(l), maxFrames)], rest
}

func sameFrames(a, b []impl.Frame) bool { return slices.EqualFunc(a, b, sameFrame) }

func shownAll(l ...impl.Frame) string {
	var s strings.Builder
	for _, f := range l {
		s.WriteString(wantShown(f))
	}
	return s.String()
}

// numbered are so many Frames that differ in Seq or in a Value.
func numbered(many int) []impl.Frame {
	var l []impl.Frame
	for i := range int64(many) {
		l = append(l, frame(impl.FrPilot, i%100, i, 0))
	}
	return l
}

func checkIn(t *testing.T, s string, want []impl.Frame, wantRest string) {
	t.Helper()
	if l, rest := impl.FramesIn(s); !sameFrames(l, want) || rest != wantRest {
		t.Errorf("FramesIn(%d bytes, %.100q) = %d Frames %v, %q, want %d Frames %v, %q", len(s), s, len(l), l, rest, len(want), want, wantRest)
	}
}

func checkInAsTold(t *testing.T, s string) {
	t.Helper()
	want, wantRest := wantFrames(s)
	checkIn(t, s, want, wantRest)
}

func TestP5MaxStream(t *testing.T) {
	if impl.MaxStream != maxStream {
		t.Errorf("MaxStream = %d, want %d", impl.MaxStream, maxStream)
	}
}

func TestP5FramesIn(t *testing.T) {
	a, b, c := frame(impl.FrHeight, 0, 0, 0), frame(impl.FrSpeed, 7, 10, 20, -5), frame(impl.FrPilot, 1, 0, 0)
	const aLine, bLine, cLine = shortLine, "S 7 10 20 -5 *131\n", "P 1 0 0 *188\n"
	for _, x := range []struct {
		s    string
		want []impl.Frame
		rest string
	}{
		{"", nil, ""},
		{"\n", nil, ""},
		{"\n\n\n", nil, ""},
		{"x", nil, "x"},
		{"x\ny", nil, "y"},
		{"\nx", nil, "x"},
		{aLine, []impl.Frame{a}, ""},
		{bLine, []impl.Frame{b}, ""},
		{longLine, []impl.Frame{frame(impl.FrFans, 99, -maxSize, -maxSize, -maxSize, -maxSize, -maxSize, -maxSize)}, ""},
		{aLine + bLine, []impl.Frame{a, b}, ""},
		{bLine + aLine, []impl.Frame{b, a}, ""},
		{aLine + bLine + cLine, []impl.Frame{a, b, c}, ""},
		{aLine + aLine + aLine, []impl.Frame{a, a, a}, ""},
		{cLine + bLine + cLine, []impl.Frame{c, b, c}, ""},
		{"noise\n" + aLine + bLine, []impl.Frame{a, b}, ""},
		{aLine + "noise\n" + bLine, []impl.Frame{a, b}, ""},
		{aLine + bLine + "noise\n", []impl.Frame{a, b}, ""},
		{aLine + "noise" + bLine + cLine, []impl.Frame{a, c}, ""},
		{"\n" + aLine + "\n\n" + bLine + "\n", []impl.Frame{a, b}, ""},
		{aLine + "H 0 0 0 *17", []impl.Frame{a}, "H 0 0 0 *17"},
		{aLine + "H 0 0 0 *177", []impl.Frame{a}, "H 0 0 0 *177"},
		{"H 0 0 0 *177", nil, "H 0 0 0 *177"},
		{"noise\nH", nil, "H"},
		{"H 0 0\n 0 *177\n", nil, ""},
		{aLine + "\r" + bLine, []impl.Frame{a}, ""},
		{aLine + bLine + "\r", []impl.Frame{a, b}, "\r"},
		{aLine + "\x00", []impl.Frame{a}, "\x00"},
		{aLine + " ", []impl.Frame{a}, " "},
		{aLine + "\xff\xfe", []impl.Frame{a}, "\xff\xfe"},
	} {
		checkIn(t, x.s, x.want, x.rest)
		checkInAsTold(t, x.s)
	}
}

func TestP5EachFrame(t *testing.T) {
	for _, f := range rightFrames() {
		checkIn(t, wantShown(f), []impl.Frame{f}, "")
	}
	checkIn(t, shownAll(rightFrames()...), rightFrames(), "")
}

// What is no Frame is put at each place among Frames, alone and twice.
func TestP5WhatIsNoFrameIsPassedOver(t *testing.T) {
	a, b, c := frame(impl.FrHeight, 0, 0, 0), frame(impl.FrSpeed, 7, 10, 20, -5), frame(impl.FrPilot, 1, 0, 0)
	all := []impl.Frame{a, b, c}
	for _, no := range noLines() {
		checkNone(t, no)
		for _, noise := range []string{no, no + no, no + "\n", "\n" + no} {
			checkIn(t, noise, nil, "")
			checkIn(t, noise+"H 0", nil, "H 0")
			for i := range len(all) + 1 {
				checkIn(t, shownAll(all[:i]...)+noise+shownAll(all[i:]...), all, "")
				checkIn(t, shownAll(all[:i]...)+noise+shownAll(all[i:]...)+"H 0", all, "H 0")
			}
			checkIn(t, noise+shownAll(a)+noise+shownAll(b)+noise+shownAll(c)+noise, all, "")
		}
	}
}

func TestP5WhatIsLeftOver(t *testing.T) {
	for _, ahead := range []string{"", "\n", "noise\n", shortLine, shortLine + longLine, strings.Repeat("x", 100) + "\n"} {
		frames, _ := wantFrames(ahead)
		for _, many := range []int{0, 1, 2, 30, 58, 59, 60} {
			rest := strings.Repeat("x", many)
			checkIn(t, ahead+rest, frames, rest)
			checkIn(t, ahead+rest+"\n", frames, "")
		}
		for _, many := range []int{61, 62, 63, 64, 100, 200, 201, 1000, 2000, 3000} {
			checkIn(t, ahead+strings.Repeat("x", many), frames, "")
		}
		// These are counted in bytes: 60, 62 and 120 of them.
		checkIn(t, ahead+strings.Repeat("é", 30), frames, strings.Repeat("é", 30))
		checkIn(t, ahead+strings.Repeat("é", 31), frames, "")
		checkIn(t, ahead+strings.Repeat("é", 60), frames, "")
		checkIn(t, ahead+strings.Repeat("\xff", 60), frames, strings.Repeat("\xff", 60))
		checkIn(t, ahead+strings.Repeat("\x00", 60), frames, strings.Repeat("\x00", 60))
		checkIn(t, ahead+strings.Repeat("\r", 61), frames, "")
	}
}

// The longest Frame is left over where no more than 60 bytes of it are here.
func TestP5TheLongestFrameLeftOver(t *testing.T) {
	for i := range len(longLine) {
		want := longLine[:i]
		if i > maxLeft {
			want = ""
		}
		checkIn(t, longLine[:i], nil, want)
		checkIn(t, shortLine+longLine[:i], []impl.Frame{frame(impl.FrHeight, 0, 0, 0)}, want)
	}
}

func TestP5FiftyFramesAtMost(t *testing.T) {
	for _, many := range []int{1, 2, 48, 49, 50, 51, 52, 60, 99, 100, 101, 150, 200} {
		l := numbered(many)
		want := l[:min(many, maxFrames)]
		for _, rest := range []string{"", "x", strings.Repeat("x", 60)} {
			checkIn(t, shownAll(l...)+rest, want, rest)
			checkIn(t, "noise\n"+shownAll(l...)+rest, want, rest)
			checkIn(t, shownAll(l...)+"noise\n"+rest, want, rest)
		}
		checkIn(t, shownAll(l...)+strings.Repeat("x", 61), want, "")
	}
}

// What is no Frame does not count among the 50.
func TestP5WhatIsNoFrameIsNotCounted(t *testing.T) {
	for _, many := range []int{49, 50, 51, 52} {
		l := numbered(many)
		for _, no := range []string{"\n", "noise\n", "H 0 0 0 *176\n"} {
			var mixed strings.Builder
			for _, f := range l {
				mixed.WriteString(no + wantShown(f) + no)
			}
			checkIn(t, mixed.String()+"H 0", l[:min(many, maxFrames)], "H 0")
			checkIn(t, strings.Repeat(no, 60)+shownAll(l...), l[:min(many, maxFrames)], "")
			checkIn(t, shownAll(l[:49]...)+strings.Repeat(no, 60)+shownAll(l[49:]...), l[:min(many, maxFrames)], "")
		}
	}
}

func TestP5MaxStreamBytes(t *testing.T) {
	f := frame(impl.FrHeight, 0, 0, 0)
	one := []impl.Frame{f}
	filled := func(many int) string { return strings.Repeat("x", many-1) + "\n" }
	room := maxStream - len(shortLine)
	checkIn(t, shortLine+filled(room), one, "")
	checkIn(t, filled(room)+shortLine, one, "")
	checkIn(t, shortLine+strings.Repeat("\n", room), one, "")
	checkIn(t, shortLine+filled(room-60)+strings.Repeat("y", 60), one, strings.Repeat("y", 60))
	checkIn(t, strings.Repeat("x", maxStream), nil, "")
	checkIn(t, strings.Repeat("\n", maxStream), nil, "")
	checkIn(t, strings.Repeat("\n", maxStream-60)+strings.Repeat("é", 30), nil, strings.Repeat("é", 30))
	for _, more := range []int{1, 2, 10, 60, 61, 1000, 1000000} {
		checkIn(t, shortLine+filled(room+more), nil, "")
		checkIn(t, filled(room+more)+shortLine, nil, "")
		checkIn(t, shortLine+strings.Repeat("\n", room+more), nil, "")
		checkIn(t, filled(maxStream)+strings.Repeat("y", more), nil, "")
		checkIn(t, shortLine+filled(room)+strings.Repeat("y", more), nil, "")
		checkIn(t, strings.Repeat("\n", maxStream-1+more)+"H", nil, "")
		checkIn(t, strings.Repeat("x", maxStream+more), nil, "")
	}
	checkIn(t, strings.Repeat("é", maxStream/2)+"\n"+shortLine, nil, "")
	checkIn(t, strings.Repeat("é", maxStream/2-7)+"\n"+shortLine, one, "")
	checkIn(t, strings.Repeat(shortLine, 307)+"H 0 0 0 *", slices.Repeat(one, maxFrames), "H 0 0 0 *")
	checkIn(t, strings.Repeat(shortLine, 307)+"H 0 0 0 *1", nil, "")
}

// checkCut reads s in two parts, cut at i, what is left over of the first one
// ahead of the second one. It tells whether the promise is about this cut.
func checkCut(t *testing.T, s string, i int) bool {
	t.Helper()
	if i-strings.LastIndex(s[:i], "\n")-1 > maxLeft {
		return false
	}
	want, wantRest := impl.FramesIn(s)
	first, left := impl.FramesIn(s[:i])
	second, rest := impl.FramesIn(left + s[i:])
	if got := slices.Concat(first, second); !sameFrames(got, want) || rest != wantRest {
		t.Errorf("cut at %d, %.300q is read as %v, %q, and in one as %v, %q", i, s, got, rest, want, wantRest)
	}
	return true
}

func TestP5WhatIsCutIsReadInTwoParts(t *testing.T) {
	all := shownAll(rightFrames()...)
	for _, s := range []string{
		"", "x", "\n", shortLine, longLine, longLine + longLine, all, all + "H 0 0", all + longLine[:60], all + longLine[:61],
		"noise\n" + all, all + "noise\n", "\n\n" + strings.ReplaceAll(all, "\n", "\n\n"), strings.ReplaceAll(all, "\n", "\nH 0 0 0 *176\n"), strings.ReplaceAll(all, "\n", "\r\n") + shortLine,
		shownAll(numbered(49)...), shownAll(numbered(50)...) + "P 1", strings.Repeat("\n", 100) + all, strings.Repeat("x", 60) + "\n" + all, strings.Repeat("é", 30) + "\n" + all,
	} {
		asked := 0
		for i := range len(s) + 1 {
			if checkCut(t, s, i) {
				asked++
			}
		}
		if asked*10 < len(s)*9 {
			t.Errorf("of %d cuts only %d were asked", len(s)+1, asked)
		}
	}
}

// Cut at each byte, a stream is read as in one: no more than a byte comes at
// a time.
func TestP5WhatComesByteByByte(t *testing.T) {
	l := slices.Concat(numbered(20), rightFrames()[:10])
	s := "noise\n" + strings.ReplaceAll(shownAll(l...), "\n", "\nP 0 0 *\n\n") + "H 0"
	var got []impl.Frame
	left := ""
	for i := range len(s) {
		var frames []impl.Frame
		frames, left = impl.FramesIn(left + s[i:i+1])
		got = append(got, frames...)
	}
	if !sameFrames(got, l) || left != "H 0" {
		t.Errorf("byte by byte %v, %q, want %v", got, left, l)
	}
}

// Of more than 60 bytes that are left over the Frame is gone, but none behind
// it.
func TestP5ACutThatLeavesTooMuch(t *testing.T) {
	for i := maxLeft + 1; i < len(longLine); i++ {
		first, left := impl.FramesIn(shortLine + longLine[:i])
		second, rest := impl.FramesIn(left + longLine[i:] + shortLine)
		if len(first) != 1 || left != "" || len(second) != 1 || rest != "" {
			t.Errorf("cut at %d: %v, %q, then %v, %q", i, first, left, second, rest)
		}
	}
}

func TestP5ALineAheadTakesNoneAway(t *testing.T) {
	streams := []string{"", "H 0", shortLine, longLine + "H", shownAll(rightFrames()...), shownAll(numbered(49)...) + "P", shownAll(numbered(50)...), shownAll(numbered(51)...) + "P 1", "noise\n" + shortLine + "\n\n"}
	for _, s := range streams {
		want, wantRest := impl.FramesIn(s)
		for _, no := range noLines() {
			checkIn(t, no+s, want, wantRest)
			checkIn(t, no+no+no+s, want, wantRest)
		}
		// As long a line ahead as may be, and one that is longer.
		room := maxStream - len(s)
		checkIn(t, strings.Repeat("x", room-1)+"\n"+s, want, wantRest)
		checkIn(t, strings.Repeat("\n", room)+s, want, wantRest)
		checkIn(t, strings.Repeat("x", room)+"\n"+s, nil, "")
		checkIn(t, strings.Repeat("\n", room+1)+s, nil, "")
	}
}

// anyStream has Frames, what is almost one, and what is none.
func anyStream(source *rand.Rand) string {
	var s strings.Builder
	for range source.Intn(20) {
		piece := wantShown(anyFrame(source))
		switch i := source.Intn(len(piece)); source.Intn(6) {
		case 0:
			piece = piece[:i] + "\n"
		case 1:
			piece = piece[:i] + piece[i+1:]
		case 2:
			piece = strings.Repeat("\n", source.Intn(3))
		case 3:
			piece = piece[:i] + "\n" + piece[i:]
		}
		s.WriteString(piece)
	}
	return s.String() + wantShown(anyFrame(source))[:source.Intn(12)]
}

func TestP5AnyStream(t *testing.T) {
	source := rand.New(rand.NewSource(12))
	lines := noLines()
	for range 3000 {
		s := anyStream(source)
		checkInAsTold(t, s)
		checkCut(t, s, source.Intn(len(s)+1))
		want, wantRest := impl.FramesIn(s)
		checkIn(t, lines[source.Intn(len(lines))]+s, want, wantRest)
	}
}

func TestP5AnyBytesOfAStream(t *testing.T) {
	source := rand.New(rand.NewSource(13))
	for range 3000 {
		bytes := make([]byte, source.Intn(maxStream+50))
		source.Read(bytes)
		checkInAsTold(t, string(bytes))
		checkInAsTold(t, shortLine+string(bytes))
		checkInAsTold(t, string(bytes)+"\n"+longLine+"H")
	}
}

func TestP5FramesInSharesNoMemory(t *testing.T) {
	s := shortLine + "S 7 10 20 -5 *131\n" + shortLine + longLine + "H 0"
	want, _ := wantFrames(s)
	one, _ := impl.FramesIn(s)
	other, _ := impl.FramesIn(s)
	for i := range one {
		room := one[i].Values[:cap(one[i].Values)]
		for j := range room {
			room[j] = 555
		}
		if !sameFrames(one[i+1:], want[i+1:]) {
			t.Errorf("Values of Frame %d were changed, and those behind are %v, want %v", i, one[i+1:], want[i+1:])
		}
	}
	clear(one[:cap(one)])
	if !sameFrames(other, want) {
		t.Errorf("one answer was changed, and the other is %v, want %v", other, want)
	}
	checkIn(t, s, want, "H 0")
}

// wantNewer goes on from old, one by one, 50 times.
func wantNewer(old, seq int64) bool {
	if old == -1 && seq >= 0 && seq <= 99 {
		return true
	}
	if old < 0 || old > 99 {
		return false
	}
	for range 50 {
		if old++; old == 100 {
			old = 0
		}
		if old == seq {
			return true
		}
	}
	return false
}

func checkNewer(t *testing.T, old, seq int64, want bool) {
	t.Helper()
	if got := impl.IsNewer(old, seq); got != want {
		t.Errorf("IsNewer(%d, %d) = %v, want %v", old, seq, got, want)
	}
}

func TestP5IsNewer(t *testing.T) {
	for _, c := range []struct {
		old, seq int64
		want     bool
	}{
		{0, 0, false}, {0, 1, true}, {0, 49, true}, {0, 50, true}, {0, 51, false}, {0, 98, false}, {0, 99, false}, {0, 100, false}, {0, -1, false},
		{1, 0, false}, {1, 1, false}, {1, 50, true}, {1, 51, true}, {1, 52, false}, {1, 99, false}, {1, 100, false},
		{49, 48, false}, {49, 99, true}, {49, 0, false}, {49, 100, false},
		{50, 99, true}, {50, 0, true}, {50, 1, false}, {50, 49, false}, {50, 100, false},
		{51, 0, true}, {51, 1, true}, {51, 2, false}, {51, 50, false},
		{98, 99, true}, {98, 0, true}, {98, 3, true}, {98, 48, true}, {98, 49, false}, {98, 98, false}, {98, 97, false},
		{99, 0, true}, {99, 49, true}, {99, 50, false}, {99, 98, false}, {99, 99, false}, {99, 100, false},
		{-1, 0, true}, {-1, 50, true}, {-1, 99, true}, {-1, -1, false}, {-1, 100, false}, {-1, -2, false},
		{-2, 0, false}, {-2, 50, false}, {-2, -1, false}, {100, 0, false}, {100, 1, false}, {100, 50, false}, {100, 101, false}, {-100, 1, false}, {-99, 2, false},
	} {
		checkNewer(t, c.old, c.seq, c.want)
	}
}

func TestP5IsNewerEachWithEach(t *testing.T) {
	newer := 0
	for old := int64(-120); old <= 220; old++ {
		for seq := int64(-120); seq <= 220; seq++ {
			checkNewer(t, old, seq, wantNewer(old, seq))
			if impl.IsNewer(old, seq) {
				newer++
			}
		}
	}
	if want := 100*50 + 100; newer != want {
		t.Errorf("%d are newer, want %d", newer, want)
	}
}

func TestP5IsNewerFarOff(t *testing.T) {
	far := []int64{math.MinInt64, math.MinInt64 + 1, math.MinInt64 + 50, -1 << 32, -1<<32 + 1, -101, -100, -99, -2, 100, 101, 199, 1<<32 - 1, 1 << 32, 1<<32 + 1, math.MaxInt64 - 1, math.MaxInt64}
	for _, n := range far {
		for m := int64(-2); m <= 100; m++ {
			checkNewer(t, n, m, false)
			checkNewer(t, m, n, false)
		}
		for _, m := range far {
			checkNewer(t, n, m, false)
		}
	}
}

// wantHeard gives the place of the Frame in the list, or -1.
func wantHeard(l []impl.Frame, kind, old int64) int {
	place := -1
	for i, f := range l {
		if _, is := wantRead(impl.ShowFrame(f)); !is || f.Kind != kind {
			continue
		}
		if wantNewer(old, f.Seq) {
			place, old = i, f.Seq
		}
	}
	return place
}

// checkHeard has want as the place of the Frame in the list, or -1.
func checkHeard(t *testing.T, l []impl.Frame, kind, old int64, want int) {
	t.Helper()
	var wantFrame impl.Frame
	if want >= 0 {
		wantFrame = l[want]
	}
	if f, is := impl.Heard(l, kind, old); is != (want >= 0) || !sameFrame(f, wantFrame) {
		t.Errorf("Heard(%v, %d, %d) = %v, %v, want %v, %v", l, kind, old, f, is, wantFrame, want >= 0)
	}
}

// pilots have their places as their first Values, so that two of one Seq
// differ.
func pilots(seqs ...int64) []impl.Frame {
	var l []impl.Frame
	for i, seq := range seqs {
		l = append(l, frame(impl.FrPilot, seq, int64(i), 1))
	}
	return l
}

func TestP5Heard(t *testing.T) {
	for _, c := range []struct {
		seqs []int64
		old  int64
		want int
	}{
		{[]int64{5}, 4, 0},
		{[]int64{5}, 5, -1},
		{[]int64{5}, 6, -1},
		{[]int64{5}, -1, 0},
		{[]int64{5}, 55, 0},
		{[]int64{5}, 54, -1},
		{[]int64{5, 6, 7}, 4, 2},
		{[]int64{5, 6, 7}, 5, 2},
		{[]int64{5, 6, 7}, 6, 2},
		{[]int64{5, 6, 7}, 7, -1},
		{[]int64{7, 6, 5}, 4, 0},
		{[]int64{7, 6, 5}, 5, 0},
		{[]int64{7, 6, 5}, 6, 0},
		{[]int64{7, 5, 8}, 4, 2},
		{[]int64{30, 20}, 10, 0},
		{[]int64{20, 30, 25}, 10, 1},
		{[]int64{20, 15, 30, 25, 31, 20}, 10, 4},
		{[]int64{5, 5, 5}, 4, 0},
		{[]int64{5, 6, 6}, 4, 1},
		{[]int64{98, 99, 0, 1}, 97, 3},
		{[]int64{98, 99, 0, 1}, 99, 3},
		{[]int64{1, 0, 99, 98}, 97, 0},
		{[]int64{99, 0, 99, 0}, 97, 1},
		{[]int64{50, 0, 50, 0}, 0, 3},
		{[]int64{50, 0, 50}, 0, 2},
		{[]int64{50, 1}, 0, 0},
		{[]int64{51, 50}, 0, 1},
		{[]int64{51, 52, 99}, 0, -1},
		{[]int64{40, 80, 20, 60, 0}, 0, 4},
		{[]int64{40, 80, 20, 60, 5}, 0, 4},
		{[]int64{90, 10}, -1, 1},
		{[]int64{10, 90}, -1, 0},
		{[]int64{0}, -1, 0},
		{[]int64{99}, -1, 0},
		{[]int64{0}, 99, 0},
		{[]int64{0}, 0, -1},
		{[]int64{5, 6, 7}, -2, -1},
		{[]int64{5, 6, 7}, 100, -1},
		{[]int64{0, 1, 2}, 100, -1},
		{[]int64{5, 6, 7}, math.MaxInt64, -1},
		{[]int64{5, 6, 7}, math.MinInt64, -1},
		{[]int64{5, 6, 7}, 1 << 32, -1},
		{nil, 4, -1},
		{nil, -1, -1},
	} {
		checkHeard(t, pilots(c.seqs...), impl.FrPilot, c.old, c.want)
	}
}

func TestP5HeardInNoFrames(t *testing.T) {
	for kind := int64(-1); kind <= 6; kind++ {
		for old := int64(-2); old <= 100; old++ {
			checkHeard(t, nil, kind, old, -1)
			checkHeard(t, []impl.Frame{}, kind, old, -1)
			checkHeard(t, []impl.Frame{{}}, kind, old, -1)
			checkHeard(t, badFrames()[:40], kind, old, -1)
		}
	}
}

func TestP5OtherKindsAreNotHeard(t *testing.T) {
	l := []impl.Frame{
		frame(impl.FrSpeed, 20, 1, 2, 3), frame(impl.FrHeight, 30, 1, 2), frame(impl.FrFans, 40, 1, 2, 3, 4, 5, 6), frame(impl.FrPilot, 10, 1, 2),
		frame(impl.FrPilot, 60, 1, 2), frame(impl.FrFans, 41, 1, 2, 3, 4, 5, 6), frame(impl.FrSpeed, 21, 1, 2, 3), frame(impl.FrHeight, 29, 1, 2),
	}
	for kind, want := range map[int64]int{impl.FrSpeed: 6, impl.FrHeight: 1, impl.FrFans: 5, impl.FrPilot: 4} {
		checkHeard(t, l, kind, -1, want)
		checkHeard(t, l, kind, 9, want)
	}
	for _, kind := range []int64{0, 5, -1, 6, 1<<32 + 1, 1<<32 + 4, math.MaxInt64, math.MinInt64} {
		checkHeard(t, l, kind, -1, -1)
		checkHeard(t, append(slices.Clone(l), frame(kind, 10, 1, 2), frame(kind, 10, 1, 2, 3), frame(kind, 10)), kind, -1, -1)
	}
}

// What is not right is neither heard nor makes what is behind it old, and it
// ends nothing.
func TestP5WrongFramesAreNotHeard(t *testing.T) {
	for _, bad := range badFrames() {
		for kind, many := range kindValues {
			one, other := frame(kind, 5, make([]int64, many)...), frame(kind, 6, make([]int64, many)...)
			checkHeard(t, []impl.Frame{bad}, kind, 4, -1)
			checkHeard(t, []impl.Frame{bad}, bad.Kind, -1, -1)
			checkHeard(t, []impl.Frame{bad, one, other}, kind, 4, 2)
			checkHeard(t, []impl.Frame{one, bad, other}, kind, 4, 2)
			checkHeard(t, []impl.Frame{one, other, bad}, kind, 4, 1)
			checkHeard(t, []impl.Frame{one, bad}, kind, -1, 0)
		}
	}
}

// Only the Frame's Seq tells, at each old one and whatever stands ahead.
func TestP5HeardOfOneAndOfTwo(t *testing.T) {
	for old := int64(-3); old <= 103; old++ {
		for seq := range int64(100) {
			l := pilots(seq, (seq+25)%100)
			checkHeard(t, l[:1], impl.FrPilot, old, wantHeard(l[:1], impl.FrPilot, old))
			checkHeard(t, l, impl.FrPilot, old, wantHeard(l, impl.FrPilot, old))
		}
	}
}

func TestP5HeardInALongList(t *testing.T) {
	l := numbered(10000)
	checkHeard(t, l, impl.FrPilot, -1, 9999)
	checkHeard(t, l, impl.FrPilot, 99, 9999)
	checkHeard(t, slices.Repeat(pilots(7), 10000), impl.FrPilot, 6, 0)
}

func TestP5HeardInAnyList(t *testing.T) {
	source := rand.New(rand.NewSource(14))
	bad := badFrames()
	for range 20000 {
		var l []impl.Frame
		seq := source.Int63n(100)
		for range source.Intn(12) {
			f := anyFrame(source)
			if source.Intn(2) == 0 {
				seq = (seq + source.Int63n(60)) % 100
				f.Seq = seq
			}
			if source.Intn(8) == 0 {
				f = bad[source.Intn(len(bad))]
			}
			l = append(l, f)
		}
		kind, old := source.Int63n(6), source.Int63n(103)-2
		checkHeard(t, l, kind, old, wantHeard(l, kind, old))
	}
}

func TestP5GivenFramesStay(t *testing.T) {
	made := func() []impl.Frame {
		l := slices.Concat(rightFrames(), badFrames()[:20], pilots(3, 4, 5), pilots(77, 78))
		for i, f := range l {
			l[i].Values = append(slices.Clone(f.Values), 71, 72, 73)[:len(f.Values)]
		}
		return l
	}
	room, was := made(), made()
	for kind := int64(0); kind <= 5; kind++ {
		for old := int64(-2); old <= 100; old++ {
			f, _ := impl.Heard(room[:len(room)-2], kind, old)
			clear(f.Values[:cap(f.Values)])
		}
	}
	for i, f := range room {
		many := len(was[i].Values) + 3
		if !sameFrame(f, was[i]) || !slices.Equal(f.Values[:many], was[i].Values[:many]) {
			t.Errorf("Frame %d is %v, and with the room behind it %v, was %v", i, f, f.Values[:many], was[i])
		}
	}
}

func TestP5HeardSharesNoMemory(t *testing.T) {
	for _, f := range rightFrames() {
		was := slices.Clone(f.Values)
		l := []impl.Frame{f}
		one, _ := impl.Heard(l, f.Kind, -1)
		other, _ := impl.Heard(l, f.Kind, -1)
		clear(one.Values[:cap(one.Values)])
		if !slices.Equal(other.Values, was) || !slices.Equal(f.Values, was) {
			t.Errorf("one answer was changed: what was given is %v, the other answer %v, want %v", f.Values, other.Values, was)
		}
		f.Values[0] = 12345
		if !slices.Equal(other.Values, was) {
			t.Errorf("what was given was changed, and the answer is %v, want %v", other.Values, was)
		}
	}
}
