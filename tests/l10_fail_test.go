package tests

import (
	"math"
	"math/rand"
	"slices"
	"testing"

	"loop.example/g00619/impl"
)

const (
	caNone = int64(0)
	caMany = int64(7)
	noFan  = int64(-1)
)

func eachFan() []int64 { return []int64{0, 1, 2, 3, 4, 5} }

func eachCase() []int64 { return []int64{0, 1, 2, 3, 4, 5, 6, 7} }

// notFans are on both sides of the six; some of them have the lowest bits of
// one.
func notFans() []int64 {
	return []int64{-1, 6, -2, 7, -3, -6, 8, 9, 12, 100, 1 << 8, 1<<8 + 2, 1<<16 + 3, -1 << 32, 1 << 32, 1<<32 + 5, math.MinInt64, math.MinInt64 + 1, math.MinInt64 + 2, math.MinInt64 + 5, math.MaxInt64 - 5, math.MaxInt64 - 1, math.MaxInt64}
}

func notCases() []int64 {
	return []int64{-1, 8, -2, 9, -6, -7, -8, 10, 13, 14, 100, 1 << 8, 1<<8 + 2, 1<<16 + 3, -1 << 32, 1 << 32, 1<<32 + 7, math.MinInt64, math.MinInt64 + 1, math.MinInt64 + 2, math.MinInt64 + 6, math.MaxInt64 - 6, math.MaxInt64 - 1, math.MaxInt64}
}

// wantAcross is written down, and not counted out as in the program.
func wantAcross(fan int64) int64 {
	switch fan {
	case 0:
		return 3
	case 1:
		return 4
	case 2:
		return 5
	case 3:
		return 0
	case 4:
		return 1
	case 5:
		return 2
	}
	return -1
}

// wantStays is written down likewise.
func wantStays(c int64) []int64 {
	switch c {
	case 0:
		return []int64{0, 1, 2, 3, 4, 5}
	case 1, 4:
		return []int64{1, 2, 4, 5}
	case 2, 5:
		return []int64{0, 2, 3, 5}
	case 3, 6:
		return []int64{0, 1, 3, 4}
	}
	return nil
}

func checkCaseOf(t *testing.T, out []int64, want int64) {
	t.Helper()
	if got := impl.CaseOf(out); got != want {
		t.Errorf("CaseOf(%v) = %d, want %d", out, got, want)
	}
}

func checkAcross(t *testing.T, fan, want int64) {
	t.Helper()
	if got := impl.Across(fan); got != want {
		t.Errorf("Across(%d) = %d, want %d", fan, got, want)
	}
}

func checkStaysIn(t *testing.T, c int64, want []int64) {
	t.Helper()
	if got := impl.StaysIn(c); !slices.Equal(got, want) {
		t.Errorf("StaysIn(%d) = %v, want %v", c, got, want)
	}
}

func checkStaysOn(t *testing.T, c, fan int64, want bool) {
	t.Helper()
	if got := impl.StaysOn(c, fan); got != want {
		t.Errorf("StaysOn(%d, %d) = %v, want %v", c, fan, got, want)
	}
}

func checkCaseOk(t *testing.T, c int64, want bool) {
	t.Helper()
	if got := impl.CaseOk(c); got != want {
		t.Errorf("CaseOk(%d) = %v, want %v", c, got, want)
	}
}

func TestP10Cases(t *testing.T) {
	if impl.CaNone != caNone || impl.CaMany != caMany {
		t.Errorf("CaNone and CaMany = %d and %d, want %d and %d", impl.CaNone, impl.CaMany, caNone, caMany)
	}
}

func TestP10CaseOk(t *testing.T) {
	for _, c := range []struct {
		n    int64
		want bool
	}{
		{math.MinInt64, false},
		{-1, false},
		{0, true},
		{1, true},
		{6, true},
		{7, true},
		{8, false},
		{math.MaxInt64, false},
	} {
		checkCaseOk(t, c.n, c.want)
	}
	for _, c := range eachCase() {
		checkCaseOk(t, c, true)
	}
	for _, c := range notCases() {
		checkCaseOk(t, c, false)
	}
}

func TestP10CaseOfNone(t *testing.T) {
	checkCaseOf(t, nil, caNone)
	checkCaseOf(t, []int64{}, caNone)
	checkCaseOf(t, eachFan()[:0], caNone)
	checkCaseOf(t, []int64{9, -1}[1:1], caNone)
}

func TestP10CaseOfOne(t *testing.T) {
	checkCaseOf(t, []int64{0}, 1)
	checkCaseOf(t, []int64{1}, 2)
	checkCaseOf(t, []int64{2}, 3)
	checkCaseOf(t, []int64{3}, 4)
	checkCaseOf(t, []int64{4}, 5)
	checkCaseOf(t, []int64{5}, 6)
}

func TestP10CaseOfOneThatIsNoFan(t *testing.T) {
	checkCaseOf(t, []int64{-1}, caMany)
	checkCaseOf(t, []int64{6}, caMany)
	checkCaseOf(t, []int64{math.MinInt64}, caMany)
	checkCaseOf(t, []int64{math.MaxInt64}, caMany)
	for _, n := range notFans() {
		checkCaseOf(t, []int64{n}, caMany)
	}
}

// Two are many in either order, one twice and two across from each other too.
func TestP10CaseOfTwo(t *testing.T) {
	for _, a := range eachFan() {
		for _, b := range eachFan() {
			checkCaseOf(t, []int64{a, b}, caMany)
		}
	}
}

func TestP10CaseOfMore(t *testing.T) {
	for n := 3; n <= 6; n++ {
		for first := range 6 {
			l := slices.Concat(eachFan(), eachFan())[first : first+n]
			checkCaseOf(t, l, caMany)
			slices.Reverse(l)
			checkCaseOf(t, l, caMany)
		}
	}
	for _, fan := range eachFan() {
		for _, n := range []int{2, 3, 6, 7, 8, 255, 256, 257, 10000} {
			checkCaseOf(t, slices.Repeat([]int64{fan}, n), caMany)
		}
	}
	checkCaseOf(t, []int64{0, 1, 2, 3, 4, 5, 0}, caMany)
	checkCaseOf(t, slices.Repeat(eachFan(), 1000), caMany)
}

// Each set of fans, rising as OutIn tells them.
func TestP10CaseOfInEveryWay(t *testing.T) {
	for bits := range 1 << sixFans {
		l, out := outs(sixFans, bits)
		want := caMany
		switch len(out) {
		case 0:
			want = caNone
		case 1:
			want = out[0] + 1
		}
		checkCaseOf(t, out, want)
		checkCaseOf(t, impl.OutIn(l), want)
	}
}

func TestP10CaseOfManyOfWhichOneIsNoFan(t *testing.T) {
	for _, bad := range notFans() {
		for n := 2; n <= 8; n++ {
			for place := range n {
				l := slices.Concat(eachFan(), eachFan())[:n]
				l[place] = bad
				checkCaseOf(t, l, caMany)
			}
			checkCaseOf(t, slices.Repeat([]int64{bad}, n), caMany)
		}
	}
}

// TestP10WhatIsOutStaysAsItWas looks at the spare room behind the list too.
func TestP10WhatIsOutStaysAsItWas(t *testing.T) {
	for _, room := range [][]int64{{5, 4, 3, 2, 1, 0, 5}, {0, 0, 0, 0}, {-1, 6, 2, 2}, {math.MaxInt64, math.MinInt64, 0}, notFans()} {
		was := slices.Clone(room)
		for n := range len(room) + 1 {
			impl.CaseOf(room[:n])
		}
		if !slices.Equal(room, was) {
			t.Errorf("the list was %v, and is %v", was, room)
		}
	}
}

func TestP10Across(t *testing.T) {
	checkAcross(t, 0, 3)
	checkAcross(t, 1, 4)
	checkAcross(t, 2, 5)
	checkAcross(t, 3, 0)
	checkAcross(t, 4, 1)
	checkAcross(t, 5, 2)
}

func TestP10AcrossOfNoFan(t *testing.T) {
	checkAcross(t, -1, noFan)
	checkAcross(t, 6, noFan)
	checkAcross(t, math.MinInt64, noFan)
	checkAcross(t, math.MaxInt64, noFan)
	for _, n := range notFans() {
		checkAcross(t, n, noFan)
	}
}

func TestP10AcrossAndBack(t *testing.T) {
	for _, fan := range eachFan() {
		over := impl.Across(fan)
		if over == fan || over < 0 || over > 5 {
			t.Errorf("Across(%d) = %d, want another fan", fan, over)
		}
		if back := impl.Across(over); back != fan {
			t.Errorf("across from %d is %d, and across from that %d, want %d", fan, over, back, fan)
		}
	}
}

func TestP10StaysIn(t *testing.T) {
	checkStaysIn(t, caNone, []int64{0, 1, 2, 3, 4, 5})
	checkStaysIn(t, 1, []int64{1, 2, 4, 5})
	checkStaysIn(t, 2, []int64{0, 2, 3, 5})
	checkStaysIn(t, 3, []int64{0, 1, 3, 4})
	checkStaysIn(t, 4, []int64{1, 2, 4, 5})
	checkStaysIn(t, 5, []int64{0, 2, 3, 5})
	checkStaysIn(t, 6, []int64{0, 1, 3, 4})
	checkStaysIn(t, caMany, nil)
}

func TestP10StaysInOfNoCase(t *testing.T) {
	checkStaysIn(t, -1, nil)
	checkStaysIn(t, 8, nil)
	checkStaysIn(t, math.MinInt64, nil)
	checkStaysIn(t, math.MaxInt64, nil)
	for _, c := range notCases() {
		checkStaysIn(t, c, nil)
	}
}

func TestP10StaysInRises(t *testing.T) {
	for _, c := range slices.Concat(eachCase(), notCases()) {
		l := impl.StaysIn(c)
		for i := 1; i < len(l); i++ {
			if l[i] <= l[i-1] {
				t.Errorf("StaysIn(%d) = %v, which does not rise", c, l)
			}
		}
	}
}

// TestP10StaysInSharesNoMemory writes over an answer, and asks all cases again.
func TestP10StaysInSharesNoMemory(t *testing.T) {
	for _, c := range slices.Concat(eachCase(), notCases()) {
		one, other := impl.StaysIn(c), impl.StaysIn(c)
		writeOver(one)
		if !slices.Equal(other, wantStays(c)) {
			t.Errorf("one answer of StaysIn(%d) was changed, and the other one is %v, want %v", c, other, wantStays(c))
		}
		for _, again := range eachCase() {
			checkStaysIn(t, again, wantStays(again))
			for _, fan := range eachFan() {
				checkStaysOn(t, again, fan, slices.Contains(wantStays(again), fan))
				checkAcross(t, fan, wantAcross(fan))
			}
		}
	}
}

func TestP10StaysOn(t *testing.T) {
	for _, c := range []struct {
		n, fan int64
		want   bool
	}{
		{caNone, -1, false}, {caNone, 0, true}, {caNone, 5, true}, {caNone, 6, false},
		{1, -1, false}, {1, 0, false}, {1, 1, true}, {1, 2, true}, {1, 3, false}, {1, 4, true}, {1, 5, true}, {1, 6, false},
		{3, 1, true}, {3, 2, false}, {3, 3, true}, {3, 5, false},
		{4, 0, false}, {4, 1, true}, {4, 3, false}, {4, 4, true},
		{6, -1, false}, {6, 0, true}, {6, 2, false}, {6, 4, true}, {6, 5, false}, {6, 6, false},
		{caMany, -1, false}, {caMany, 0, false}, {caMany, 5, false}, {caMany, 6, false},
		{-1, 0, false}, {-1, 5, false}, {8, 0, false}, {8, 5, false},
	} {
		checkStaysOn(t, c.n, c.fan, c.want)
	}
}

func TestP10StaysOnOfEachCaseAndEachFan(t *testing.T) {
	ends := []int64{math.MinInt64, math.MaxInt64}
	cases := slices.Concat([]int64{-1}, eachCase(), []int64{8}, ends, notCases())
	fans := slices.Concat([]int64{-1}, eachFan(), []int64{6}, ends, notFans())
	for _, c := range cases {
		for _, fan := range fans {
			checkStaysOn(t, c, fan, slices.Contains(wantStays(c), fan))
		}
	}
}

func TestP10StaysInAndStaysOnTellTheSame(t *testing.T) {
	for _, c := range slices.Concat(eachCase(), notCases()) {
		l := impl.StaysIn(c)
		for _, fan := range slices.Concat(eachFan(), notFans()) {
			if on, in := impl.StaysOn(c, fan), slices.Contains(l, fan); on != in {
				t.Errorf("StaysOn(%d, %d) = %v, but StaysIn(%d) = %v", c, fan, on, c, l)
			}
		}
	}
}

func TestP10AnywhereItIsAsTold(t *testing.T) {
	source := rand.New(rand.NewSource(26))
	for range 20000 {
		c, fan := anyLength(source), anyLength(source)
		if source.Intn(2) == 0 {
			c = source.Int63n(8)
		}
		checkAcross(t, fan, wantAcross(fan))
		checkStaysIn(t, c, wantStays(c))
		checkStaysOn(t, c, fan, slices.Contains(wantStays(c), fan))
		checkCaseOk(t, c, c == 7 || len(wantStays(c)) > 0)
		want := caMany
		if wantAcross(fan) != noFan {
			want = fan + 1
		}
		checkCaseOf(t, []int64{fan}, want)
		checkCaseOf(t, []int64{fan, c}, caMany)
	}
}

func TestP10WhoIsGivenUpAndWhoIsAcrossDoesNotStayOn(t *testing.T) {
	for _, out := range eachFan() {
		c, over := impl.CaseOf([]int64{out}), impl.Across(out)
		l := impl.StaysIn(c)
		if len(l) != 4 {
			t.Errorf("where %d is given up %v stay on, want four", out, l)
		}
		for _, fan := range eachFan() {
			want := fan != out && fan != over
			checkStaysOn(t, c, fan, want)
			if got := slices.Contains(l, fan); got != want {
				t.Errorf("where %d is given up %v stay on: of %d that is %v, want %v", out, l, fan, got, want)
			}
		}
	}
}

func TestP10WhereManyAreGivenUpNoneStaysOn(t *testing.T) {
	checkStaysIn(t, impl.CaMany, nil)
	for _, fan := range slices.Concat(eachFan(), notFans()) {
		checkStaysOn(t, impl.CaMany, fan, false)
	}
}

// Whichever Fans are Out: none of them stays on, nor any across from one.
func TestP10OfAllThatAreOutNoneStaysOn(t *testing.T) {
	for bits := range 1 << sixFans {
		l, _ := outs(sixFans, bits)
		out := impl.OutIn(l)
		c := impl.CaseOf(out)
		checkCaseOk(t, c, true)
		for _, fan := range out {
			checkStaysOn(t, c, fan, false)
			checkStaysOn(t, c, impl.Across(fan), false)
		}
	}
}
