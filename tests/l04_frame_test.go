package tests

import (
	"fmt"
	"math"
	"math/rand"
	"regexp"
	"slices"
	"strconv"
	"strings"
	"testing"

	"loop.example/g00619/impl"
)

// kindValues tells for each Kind how many Values it has.
var kindValues = map[int64]int{impl.FrSpeed: 3, impl.FrHeight: 2, impl.FrFans: 6, impl.FrPilot: 2}

// frameForm is what a shown Frame looks like, whatever its numbers are.
var frameForm = regexp.MustCompile(`\A([SHFP])((?: (?:0|-?[1-9][0-9]{0,8}))+) \*(0|[1-9][0-9]{0,2})\n\z`)

func frame(kind, seq int64, values ...int64) impl.Frame {
	return impl.Frame{Kind: kind, Seq: seq, Values: values}
}

func sameFrame(a, b impl.Frame) bool {
	return a.Kind == b.Kind && a.Seq == b.Seq && slices.Equal(a.Values, b.Values)
}

// wantSum takes the modulus at each byte, and gets to each place by adding.
func wantSum(s string) int64 {
	var sum int64
	for i := range len(s) {
		for range i + 1 {
			sum = (sum + int64(s[i])) % 251
		}
	}
	return sum
}

// summed puts the right sum behind a text, which may be wrong in other ways.
func summed(ahead string) string { return fmt.Sprintf("%s*%d\n", ahead, wantSum(ahead)) }

func wantShown(f impl.Frame) string {
	ahead := fmt.Sprintf("%c %d ", " SHFP"[f.Kind], f.Seq)
	for _, n := range f.Values {
		ahead += fmt.Sprintf("%d ", n)
	}
	return summed(ahead)
}

// wantRead looks at the form of the whole text first, and then at each part
// by itself, where the program goes byte by byte and shows what it has read.
func wantRead(s string) (impl.Frame, bool) {
	parts := frameForm.FindStringSubmatch(s)
	if parts == nil {
		return impl.Frame{}, false
	}
	var numbers []int64
	for _, word := range strings.Fields(parts[2]) {
		n, _ := strconv.ParseInt(word, 10, 64)
		numbers = append(numbers, n)
	}
	f := frame(int64(strings.Index(" SHFP", parts[1])), numbers[0], numbers[1:]...)
	right := f.Seq >= 0 && f.Seq <= 99 && len(f.Values) == kindValues[f.Kind]
	for _, n := range f.Values {
		right = right && n >= -maxSize && n <= maxSize
	}
	ahead, _, _ := strings.Cut(s, "*")
	if !right || parts[3] != strconv.FormatInt(wantSum(ahead), 10) {
		return impl.Frame{}, false
	}
	return f, true
}

// rightFrames has each Kind with ordinary Values and with those at the edges,
// the shortest Frame and the longest one.
func rightFrames() []impl.Frame {
	return []impl.Frame{
		frame(impl.FrSpeed, 7, 10, 20, -5),
		frame(impl.FrHeight, 0, 0, 0),
		frame(impl.FrHeight, 42, 1500, 1499),
		frame(impl.FrFans, 99, 1, 22, 333, 4444, 55555, 666666),
		frame(impl.FrPilot, 10, 3, 1),
		frame(impl.FrPilot, 9, -1, 9),
		frame(impl.FrSpeed, 0, 0, 0, 0),
		frame(impl.FrSpeed, 99, -maxSize, 0, maxSize),
		frame(impl.FrHeight, 99, maxSize, -maxSize),
		frame(impl.FrFans, 0, 0, -maxSize, maxSize, maxSize, -maxSize, 0),
		frame(impl.FrFans, 99, -maxSize, -maxSize, -maxSize, -maxSize, -maxSize, -maxSize),
		frame(impl.FrPilot, 0, maxSize, maxSize),
	}
}

// badFrames are wrong in one thing each, and the zero Frame in several.
func badFrames() []impl.Frame {
	l := []impl.Frame{{}, frame(0, 0, 1, 2), frame(0, 0, 1, 2, 3), frame(5, 0, 1, 2), frame(5, 0, 1, 2, 3), frame(0, 0), frame(5, 0)}
	for _, kind := range []int64{-1, 6, 1<<32 + 1, 1<<32 + 2, -1 << 32, math.MaxInt64, math.MinInt64, math.MinInt64 + 1} {
		l = append(l, frame(kind, 7), frame(kind, 7, 1, 2), frame(kind, 7, 1, 2, 3), frame(kind, 7, 1, 2, 3, 4, 5, 6))
	}
	for kind, many := range kindValues {
		zeros := make([]int64, many)
		for _, seq := range []int64{-1, 100, -2, 101, 1 << 32, -1 << 32, math.MaxInt64, math.MinInt64} {
			l = append(l, frame(kind, seq, zeros...))
		}
		for n := range 9 {
			if n != many {
				l = append(l, frame(kind, 7, make([]int64, n)...))
			}
		}
		l = append(l, impl.Frame{Kind: kind, Seq: 7}, impl.Frame{Kind: kind, Seq: 7, Values: []int64{}}, frame(kind, 7, make([]int64, 1000)...))
		for i := range zeros {
			for _, n := range []int64{maxSize + 1, -maxSize - 1, 1 << 32, -1 << 32, math.MaxInt64, math.MinInt64} {
				bad := frame(kind, 7, slices.Clone(zeros)...)
				bad.Values[i] = n
				l = append(l, bad)
			}
		}
	}
	return l
}

// anyFrame is a right one, with edges among its numbers.
func anyFrame(source *rand.Rand) impl.Frame {
	f := impl.Frame{Kind: 1 + source.Int63n(4), Seq: source.Int63n(100)}
	for range kindValues[f.Kind] {
		n := source.Int63n(2*maxSize+1) - maxSize
		switch source.Intn(4) {
		case 0:
			n = []int64{-maxSize, -1, 0, 1, maxSize}[source.Intn(5)]
		case 1:
			n %= 100
		}
		f.Values = append(f.Values, n)
	}
	return f
}

// checkNone asks for the zero Frame too.
func checkNone(t *testing.T, s string) {
	t.Helper()
	if f, is := impl.ReadFrame(s); is || !sameFrame(f, impl.Frame{}) {
		t.Errorf("ReadFrame(%.200q) = %v, %v, want none", s, f, is)
	}
}

// checkRead asks what the form and the sum of s tell.
func checkRead(t *testing.T, s string) {
	t.Helper()
	want, wantIs := wantRead(s)
	if f, is := impl.ReadFrame(s); is != wantIs || !sameFrame(f, want) {
		t.Errorf("ReadFrame(%q) = %v, %v, want %v, %v", s, f, is, want, wantIs)
	}
}

func checkBackAndForth(t *testing.T, f impl.Frame) {
	t.Helper()
	s := impl.ShowFrame(f)
	if want := wantShown(f); s != want {
		t.Errorf("ShowFrame(%v) = %q, want %q", f, s, want)
	}
	if got, is := impl.ReadFrame(s); !is || !sameFrame(got, f) {
		t.Errorf("ReadFrame(%q) = %v, %v, want %v, true", s, got, is, f)
	}
}

func TestP4FrameOk(t *testing.T) {
	for _, f := range rightFrames() {
		if !impl.FrameOk(f) {
			t.Errorf("FrameOk(%v) = false, want true", f)
		}
	}
	for _, f := range badFrames() {
		if impl.FrameOk(f) {
			t.Errorf("FrameOk(%v) = true, want false", f)
		}
	}
}

func TestP4FrameOkAtEachKindAndSeq(t *testing.T) {
	for kind := int64(-3); kind <= 8; kind++ {
		for seq := int64(-3); seq <= 103; seq++ {
			for n := range 9 {
				many, is := kindValues[kind]
				want := is && n == many && seq >= 0 && seq <= 99
				if f := frame(kind, seq, make([]int64, n)...); impl.FrameOk(f) != want {
					t.Errorf("FrameOk(%v) = %v, want %v", f, !want, want)
				}
			}
		}
	}
}

func TestP4SumOf(t *testing.T) {
	for _, c := range []struct {
		s    string
		want int64
	}{
		{"", 0},
		{"\x00", 0},
		{"\x01", 1},
		{"a", 97},
		{"\n", 10},
		{"ab", 42},
		{"ba", 41},
		{"\x00\x01", 2},
		{"\x00\x00\x01", 3},
		{"\xfa", 250},
		{"\xfb", 0},
		{"\xfc", 1},
		{"\x80", 128},
		{"\xff", 4},
		{"\xff\xff", 12},
		{"é", 31},
		{"\xe2\x82\xac", 249},
		{strings.Repeat("\x00", 199) + "\x01", 200},
		{strings.Repeat("\x00", 200), 0},
		{strings.Repeat("\x01", 200), 20},
		{strings.Repeat("\xff", 200), 80},
		{strings.Repeat("é", 100), wantSum(strings.Repeat("é", 100))},
		{strings.Repeat("\x00", 201), -1},
		{strings.Repeat("\xff", 201), -1},
		{strings.Repeat("é", 101), -1},
		{strings.Repeat("a", 100000), -1},
	} {
		if got := impl.SumOf(c.s); got != c.want {
			t.Errorf("SumOf(%d bytes, %.20q) = %d, want %d", len(c.s), c.s, got, c.want)
		}
	}
}

func TestP4SumOfAnyBytes(t *testing.T) {
	source := rand.New(rand.NewSource(7))
	for range 5000 {
		bytes := make([]byte, source.Intn(210))
		source.Read(bytes)
		want := int64(-1)
		if len(bytes) <= 200 {
			want = wantSum(string(bytes))
		}
		if got := impl.SumOf(string(bytes)); got != want {
			t.Errorf("SumOf(%q) = %d, want %d", bytes, got, want)
		}
	}
}

// The sums are written out here, so that they do not depend on wantSum.
func TestP4ShowFrameExactly(t *testing.T) {
	for _, c := range []struct {
		f    impl.Frame
		want string
	}{
		{frame(impl.FrHeight, 0, 0, 0), "H 0 0 0 *177\n"},
		{frame(impl.FrPilot, 0, 0, 0), "P 0 0 0 *185\n"},
		{frame(impl.FrSpeed, 0, 0, 0, 0), "S 0 0 0 0 *187\n"},
		{frame(impl.FrPilot, 1, 0, 0), "P 1 0 0 *188\n"},
		{frame(impl.FrHeight, 0, -1, 0), "H 0 -1 0 *66\n"},
		{frame(impl.FrSpeed, 7, 10, 20, -5), "S 7 10 20 -5 *131\n"},
		{frame(impl.FrFans, 99, 1, 22, 333, 4444, 55555, 666666), "F 99 1 22 333 4444 55555 666666 *242\n"},
		{frame(impl.FrFans, 99, -maxSize, -maxSize, -maxSize, -maxSize, -maxSize, -maxSize), "F 99 -1000000 -1000000 -1000000 -1000000 -1000000 -1000000 *20\n"},
	} {
		if got := impl.ShowFrame(c.f); got != c.want {
			t.Errorf("ShowFrame(%v) = %q, want %q", c.f, got, c.want)
		}
		if f, is := impl.ReadFrame(c.want); !is || !sameFrame(f, c.f) {
			t.Errorf("ReadFrame(%q) = %v, %v, want %v, true", c.want, f, is, c.f)
		}
	}
}

func TestP4WhatIsShownIsRead(t *testing.T) {
	for _, f := range rightFrames() {
		checkBackAndForth(t, f)
	}
}

func TestP4WhatIsShownIsReadAtEachSeq(t *testing.T) {
	for kind, many := range kindValues {
		for seq := range int64(100) {
			checkBackAndForth(t, frame(kind, seq, make([]int64, many)...))
		}
	}
}

func TestP4WhatIsShownIsReadOfAnyFrame(t *testing.T) {
	source := rand.New(rand.NewSource(8))
	for range 20000 {
		checkBackAndForth(t, anyFrame(source))
	}
}

func TestP4WrongFramesAreShownEmpty(t *testing.T) {
	for _, f := range badFrames() {
		if s := impl.ShowFrame(f); s != "" {
			t.Errorf("ShowFrame(%v) = %q, want nothing", f, s)
		}
	}
}

func TestP4AnotherByteIsNone(t *testing.T) {
	source := rand.New(rand.NewSource(9))
	l := rightFrames()
	for range 50 {
		l = append(l, anyFrame(source))
	}
	for _, f := range l {
		s := []byte(impl.ShowFrame(f))
		for i, was := range s {
			for c := range 256 {
				if s[i] = byte(c); s[i] != was {
					checkNone(t, string(s))
				}
			}
			s[i] = was
		}
	}
}

func TestP4OneByteLeftOutOrPutIn(t *testing.T) {
	for _, f := range rightFrames() {
		s := impl.ShowFrame(f)
		for i := range len(s) {
			checkRead(t, s[:i]+s[i+1:])
			checkNone(t, s[:i])
		}
		for i := range len(s) + 1 {
			for c := range 256 {
				checkRead(t, s[:i]+string([]byte{byte(c)})+s[i:])
			}
		}
	}
}

func TestP4TwoBytesChangePlaces(t *testing.T) {
	for _, f := range rightFrames() {
		s := impl.ShowFrame(f)
		star := strings.Index(s, "*")
		for i := range len(s) {
			for j := range i {
				other := []byte(s)
				other[i], other[j] = other[j], other[i]
				checkRead(t, string(other))
				if s[i] != s[j] && i < star {
					checkNone(t, string(other))
				}
			}
		}
	}
}

// All of these have the sum that their bytes make.
func TestP4RightSumsOfWhatIsNoFrame(t *testing.T) {
	for _, ahead := range []string{
		"", " ", "S", "S ", "S  ", "S 7", "S 7 ", "7 10 20 -5 ", " 7 10 20 -5 ",
		"S +7 10 20 -5 ", "S -7 10 20 -5 ", "S -0 10 20 -5 ", "S 07 10 20 -5 ", "S 007 10 20 -5 ", "S 00 10 20 -5 ", "S 100 10 20 -5 ", "S 101 10 20 -5 ",
		"S 7 +10 20 -5 ", "S 7 10 20 +5 ", "S 7 -0 20 -5 ", "S 7 +0 20 -5 ", "S 7 010 20 -5 ", "S 7 10 20 -05 ", "S 7 10 20 05 ", "S 7 00 20 -5 ", "S 7 -00 20 -5 ",
		"S 7 --10 20 -5 ", "S 7 - 20 -5 ", "S 7 10 20 - ", "S 7 10- 20 -5 ", "S 7 1-0 20 -5 ", "S 7 - 10 20 -5 ", "S 7 10 20 5- ",
		"S  7 10 20 -5 ", "S 7  10 20 -5 ", "S 7 10 20  -5 ", "S 7 10 20 -5  ", " S 7 10 20 -5 ",
		"S7 10 20 -5 ", "S 710 20 -5 ", "S 7 10 20-5 ", "S 7 10 20 -5", "S\t7 10 20 -5 ", "S 7\t10 20 -5 ", "S 7 10 20 -5\t", "S\u00a07 10 20 -5 ",
		"S 7\n10 20 -5 ", "S 7 10 20 -5 \n", "S 7 10 20 -5 \r", "S 7 10 20 -5\n", "\nS 7 10 20 -5 ", "S\n 7 10 20 -5 ", "S 7 10 20\x00 -5 ", "S 7 10 20 -5\x00 ", "\x00 7 10 20 -5 ",
		"T 7 10 20 -5 ", "s 7 10 20 -5 ", "R 7 10 20 -5 ", "SS 7 10 20 -5 ", "SH 7 10 20 -5 ", "1 7 10 20 -5 ", "Ｓ 7 10 20 -5 ", "\xff 7 10 20 -5 ", "* 7 10 20 -5 ", "- 7 10 20 -5 ",
		"S 7 10 20 ", "S 7 10 ", "S 7 10 20 -5 1 ", "S 7 10 20 -5 1 2 3 ", "H 7 10 ", "H 7 10 20 -5 ", "H 7 ", "P 7 10 ", "P 7 10 20 -5 ", "F 7 1 2 3 4 5 ", "F 7 1 2 3 4 5 6 7 ", "F 7 1 2 3 ", "F 7 1 2 ",
		"S 7 1000001 20 -5 ", "S 7 10 -1000001 -5 ", "S 7 10 20 999999999 ", "S 7 10 20 -999999999 ", "S 7 10 20 1000000000 ", "S 7 10 20 -1000000000 ",
		"S 7 10 20 4294967296 ", "S 7 10 20 4294967291 ", "S 7 10 20 9223372036854775807 ", "S 7 10 20 9223372036854775808 ", "S 7 10 20 -9223372036854775808 ", "S 7 10 20 -9223372036854775809 ",
		"S 7 10 20 18446744073709551611 ", "S 7 10 20 18446744073709551616 ", "S 7 10 20 18446744073709551621 ", "S 18446744073709551623 10 20 -5 ", "S 4294967303 10 20 -5 ", "S 7 10 20 " + strings.Repeat("9", 100) + " ", "S 7 10 20 " + strings.Repeat("0", 100) + "5 ",
		"S 7 1e1 20 -5 ", "S 7 0x0a 20 -5 ", "S 7 1_0 20 -5 ", "S 7 10. 20 -5 ", "S 7 1,0 20 -5 ", "S 7 x 20 -5 ", "S x 10 20 -5 ", "S 7 / 20 -5 ", "S 7 : 20 -5 ", "S 7 1: 20 -5 ", "S 7 1/ 20 -5 ", "S 7 ١ 20 -5 ", "S 7 １ 20 -5 ", "S 7 −5 20 -5 ",
		"S 7 10 20 -5 *", "S 7 10 20 -5 * ", "S 7 10 20 * -5 ", "S 7 * 10 20 -5 ", "S * 7 10 20 -5 ", "*S 7 10 20 -5 ", "S 7 10 20 -5 *4", "S 7 10 20 -5 *0\nS 7 10 20 -5 ",
	} {
		checkNone(t, summed(ahead))
		checkRead(t, summed(ahead))
	}
}

func TestP4WrongSums(t *testing.T) {
	for _, f := range rightFrames() {
		s := impl.ShowFrame(f)
		ahead, sum, _ := strings.Cut(strings.TrimSuffix(s, "\n"), "*")
		for n := -300; n <= 1300; n++ {
			if other := strconv.Itoa(n); other != sum {
				checkNone(t, ahead+"*"+other+"\n")
			}
		}
		right, _ := strconv.ParseInt(sum, 10, 64)
		for _, other := range []string{
			"", " ", "-" + sum, "+" + sum, "0" + sum, "00" + sum, " " + sum, sum + " ", sum + "0", sum + ".", "*" + sum, sum + "*" + sum, sum + "\x00", sum + "\r",
			strconv.FormatInt(right+251, 10), strconv.FormatInt(right-251, 10), strconv.FormatInt(right+1<<32, 10), fmt.Sprintf("%x", right+256),
			"18446744073709551616", "-1", "-0", strings.Repeat("9", 100), strings.Repeat("0", 100) + sum,
		} {
			checkNone(t, ahead+"*"+other+"\n")
		}
	}
}

func TestP4TheEnds(t *testing.T) {
	for _, f := range rightFrames() {
		s := impl.ShowFrame(f)
		bare := strings.TrimSuffix(s, "\n")
		for _, other := range []string{
			bare, s + "\n", bare + "\n\n\n", bare + "\r\n", bare + "\r", bare + " \n", bare + "\n ", bare + "\n\x00", bare + "\x00\n", bare + "\v", bare + "\u2028",
			s + s, s + bare, s + "x", "x" + s, " " + s, "\n" + s, "\x00" + s, "\ufeff" + s, s + "S", "S" + s, s + "S 7 10 20 -5 *0\n", "S 7 10 20 -5 *0\n" + s,
			strings.ToLower(s), s[1:], s[2:], bare + "*\n", s + "*", bare + "*0\n",
		} {
			checkNone(t, other)
		}
	}
}

func TestP4WhatIsNoTextOfAFrame(t *testing.T) {
	for _, s := range []string{
		"", "\n", " ", "*", "*0", "*0\n", " *0\n", "S", "H", "F", "P", "S\n", "S *", "S *\n", "S \n", "S 7", "S 7 ", "S 7 *", "S 7 1", "S 7 1 2 3", "S 7 1 2 3 ", "S 7 1 2 3 *", "S 7 1 2 3 *\n", "S -", "S 7 -", "S 7 1 2 -",
		"\x00", "\xff", "é", "hello", "S 7 1 2 3 250\n", strings.Repeat("S", 1000), strings.Repeat(" ", 1000), strings.Repeat("\n", 1000), strings.Repeat("*", 1000),
		"S 7" + strings.Repeat(" 1", 100000) + " *-1\n", "S 7" + strings.Repeat(" 1", 100) + " *-1\n", "F 7 " + strings.Repeat("1", 300) + " *-1\n",
	} {
		checkNone(t, s)
	}
}

// anyWord is a number, or something near to one.
func anyWord(source *rand.Rand) string {
	if source.Intn(5) > 0 {
		return strconv.FormatInt(source.Int63n(200)-20, 10)
	}
	words := []string{"0", "-0", "00", "01", "+1", "-", "", "1000000", "-1000000", "1000001", "-1000001", "99", "100", "*", "x", "-01", "1-", "9999999999"}
	return words[source.Intn(len(words))]
}

func TestP4WhatLooksLikeAFrame(t *testing.T) {
	source := rand.New(rand.NewSource(10))
	read := 0
	for range 100000 {
		words := []string{string("SHFPTs*"[source.Intn(7)])}
		for range 2 + source.Intn(7) {
			words = append(words, anyWord(source))
		}
		s := summed(strings.Join(words, " ") + " ")
		checkRead(t, s)
		if _, is := impl.ReadFrame(s); is {
			read++
		}
	}
	if read < 1000 {
		t.Errorf("only %d texts were read, the test asks too little", read)
	}
}

func TestP4AnyBytesOfAFrame(t *testing.T) {
	source := rand.New(rand.NewSource(11))
	for range 100000 {
		bytes := make([]byte, source.Intn(30))
		for i := range bytes {
			bytes[i] = "SHFP 0123456789-*\n"[source.Intn(18)]
		}
		checkRead(t, string(bytes))
		checkRead(t, summed("S "+string(bytes)+" "))
		checkRead(t, summed("H 1 2 "+string(bytes[:len(bytes)/6])+" "))
	}
}

func TestP4GivenValuesStay(t *testing.T) {
	for _, f := range append(rightFrames(), badFrames()...) {
		room := append(slices.Clone(f.Values), 77, 78, 79, 80, 81, 82, 83, 84)
		was := slices.Clone(room)
		f.Values = room[:len(f.Values)]
		impl.FrameOk(f)
		impl.ShowFrame(f)
		if !slices.Equal(room, was) {
			t.Errorf("Values and the room behind them are %v, were %v", room, was)
		}
	}
}

func TestP4AnswersShareNoMemory(t *testing.T) {
	for _, f := range rightFrames() {
		s := impl.ShowFrame(f)
		one, _ := impl.ReadFrame(s)
		other, _ := impl.ReadFrame(s)
		for i := range one.Values {
			one.Values[i] = 555
		}
		one.Values = append(one.Values, 556, 557, 558)
		third, _ := impl.ReadFrame(s)
		if !sameFrame(other, f) || !sameFrame(third, f) || impl.ShowFrame(f) != s {
			t.Errorf("ReadFrame(%q) is %v, and again %v, where one answer was changed", s, other, third)
		}
	}
}
