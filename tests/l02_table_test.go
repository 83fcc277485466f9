package tests

import (
	"math"
	"math/rand"
	"slices"
	"testing"

	"loop.example/g00619/impl"
)

const maxSize = int64(impl.MaxSize)

// line is a table of n Points, a step of 10 apart in X, whose Ys are 3 by their X.
func line(n int) []impl.Point {
	var l []impl.Point
	for i := range int64(n) {
		l = append(l, impl.Point{X: 10 * i, Y: 30 * i})
	}
	return l
}

// withYs is a line with other Ys.
func withYs(ys []int64) []impl.Point {
	l := line(len(ys))
	for i, y := range ys {
		l[i].Y = y
	}
	return l
}

func hill() []impl.Point {
	return []impl.Point{{X: -10, Y: -5}, {X: 0, Y: 10}, {X: 10, Y: 20}, {X: 13, Y: 20}, {X: 20, Y: 0}, {X: 27, Y: -3}}
}

type namedTable struct {
	name   string
	points []impl.Point
}

// changed is a line of n Points, of which one was put in the place of another.
func changed(n int, place int, p impl.Point) []impl.Point {
	l := line(n)
	l[place] = p
	return l
}

// badPoints are one past each limit, and as far past it as there are numbers.
func badPoints(x, y int64) []impl.Point {
	var l []impl.Point
	for _, bad := range []int64{maxSize + 1, -maxSize - 1, 1 << 32, -1 << 32, math.MaxInt64, math.MinInt64} {
		l = append(l, impl.Point{X: bad, Y: y}, impl.Point{X: x, Y: bad})
	}
	return l
}

func noTables() []namedTable {
	l := []namedTable{
		{"nil", nil},
		{"empty", []impl.Point{}},
		{"one Point", line(1)},
		{"one Point at 0", []impl.Point{{}}},
		{"nine Points", line(9)},
		{"a hundred Points", line(100)},
		{"two Points alike", []impl.Point{{X: 5, Y: 6}, {X: 5, Y: 6}}},
		{"one X with two Ys", []impl.Point{{X: 5, Y: 6}, {X: 5, Y: 7}}},
		{"X falls", []impl.Point{{X: 5, Y: 6}, {X: 4, Y: 7}}},
		{"X falls by far", []impl.Point{{X: maxSize, Y: 6}, {X: -maxSize, Y: 7}}},
		{"X rises and goes round", []impl.Point{{X: math.MinInt64, Y: 1}, {X: math.MaxInt64, Y: 2}}},
	}
	for place := range 8 {
		x, y := int64(10*place), int64(30*place)
		for _, p := range badPoints(x, y) {
			l = append(l, namedTable{"a Point that is not right", changed(8, place, p)})
		}
		if place > 0 {
			l = append(l,
				namedTable{"an X as the one ahead", changed(8, place, impl.Point{X: x - 10, Y: y})},
				namedTable{"an X below the one ahead", changed(8, place, impl.Point{X: x - 11, Y: y})})
		}
	}
	for _, p := range badPoints(0, 0) {
		l = append(l, namedTable{"of two the first one not right", changed(2, 0, p)})
	}
	for _, p := range badPoints(10, 30) {
		l = append(l, namedTable{"of two the last one not right", changed(2, 1, p)})
	}
	return l
}

func tables() []namedTable {
	return []namedTable{
		{"two Points", line(2)},
		{"three Points", line(3)},
		{"seven Points", line(7)},
		{"eight Points", line(8)},
		{"a hill", hill()},
		{"one step", []impl.Point{{X: 0, Y: -maxSize}, {X: 1, Y: maxSize}}},
		{"falls", []impl.Point{{X: 100, Y: 1000}, {X: 200, Y: 0}}},
		{"below 0", []impl.Point{{X: -30, Y: -8}, {X: -20, Y: -1}, {X: -11, Y: -9}}},
		{"level", []impl.Point{{X: 1, Y: 7}, {X: 9, Y: 7}}},
		{"both just a size apart", []impl.Point{{X: 0, Y: -maxSize}, {X: maxSize, Y: 0}}},
		{"X one more than a size apart", []impl.Point{{X: -1, Y: 3}, {X: maxSize, Y: 9}}},
		{"Y one more than a size apart", []impl.Point{{X: 0, Y: -1}, {X: 4, Y: maxSize}}},
		{"all there is", []impl.Point{{X: -maxSize, Y: -maxSize}, {X: maxSize, Y: maxSize}}},
		{"all there is, falling", []impl.Point{{X: -maxSize, Y: maxSize}, {X: maxSize, Y: -maxSize}}},
		{"up and down", []impl.Point{{X: -maxSize, Y: -maxSize}, {X: 0, Y: maxSize}, {X: maxSize, Y: -maxSize}}},
	}
}

// exactAt goes through the table from its end, as the program does not.
func exactAt(l []impl.Point, x int64) int64 {
	if x <= l[0].X {
		return l[0].Y
	}
	for i := len(l) - 1; ; i-- {
		p := l[i]
		if p.X > x {
			continue
		}
		if i == len(l)-1 {
			return p.Y
		}
		q := l[i+1]
		return p.Y + exactPart(q.Y-p.Y, x-p.X, q.X-p.X)
	}
}

// askedOf are the xs at, beside, halfway between and far from the Points of a table; they rise.
func askedOf(l []impl.Point) []int64 {
	xs := fixEdges()
	for i, p := range l {
		xs = append(xs, p.X-1, p.X, p.X+1)
		if i > 0 {
			way := p.X - l[i-1].X
			xs = append(xs, p.X-way/2, p.X-way/3, p.X-way/7, l[i-1].X+way/7, l[i-1].X+2)
		}
	}
	slices.Sort(xs)
	return xs
}

func checkAt(t *testing.T, l []impl.Point, x int64) {
	t.Helper()
	if got, want := impl.At(l, x), exactAt(l, x); got != want {
		t.Errorf("At(%v, %d) = %d, want %d", l, x, got, want)
	}
}

// checkMoreIsNeverLess asks P2 of a table that IsRising, at xs that rise.
func checkMoreIsNeverLess(t *testing.T, l []impl.Point, xs []int64) {
	t.Helper()
	if !impl.IsRising(l) {
		t.Errorf("IsRising(%v) = false, want true", l)
		return
	}
	last := l[0].Y
	for _, x := range xs {
		y := impl.At(l, x)
		if y < last {
			t.Errorf("At(%v, %d) = %d, but it was %d already", l, x, y, last)
		}
		if y < l[0].Y || y > l[len(l)-1].Y {
			t.Errorf("At(%v, %d) = %d, which is outside", l, x, y)
		}
		checkNeighbours(t, l, x, y)
		last = y
	}
}

func checkNeighbours(t *testing.T, l []impl.Point, x, y int64) {
	t.Helper()
	for _, p := range l {
		if p.X <= x && y < p.Y || p.X >= x && y > p.Y {
			t.Errorf("At(%v, %d) = %d, which is on the wrong side of %v", l, x, y, p)
		}
	}
}

// anyTable has X and Y rising by steps of every length, the Y sometimes by none.
func anyTable(source *rand.Rand) []impl.Point {
	n := 2 + source.Intn(7)
	xs, ys := map[int64]bool{}, []int64{}
	wide := 1 + int64(source.Intn(1<<source.Intn(21)))
	for len(xs) < n {
		xs[sizeWithin(source, wide+8)] = true
	}
	for range n {
		ys = append(ys, sizeWithin(source, 1+int64(source.Intn(1<<source.Intn(21)))))
	}
	slices.Sort(ys)
	var l []impl.Point
	for x := range xs {
		l = append(l, impl.Point{X: x})
	}
	slices.SortFunc(l, func(p, q impl.Point) int { return int(p.X - q.X) })
	for i := range l {
		l[i].Y = ys[i]
	}
	return l
}

func sizeWithin(source *rand.Rand, wide int64) int64 {
	return max(-maxSize, min(maxSize, source.Int63n(2*wide+1)-wide))
}

func TestP2TableOk(t *testing.T) {
	for _, c := range tables() {
		if !impl.TableOk(c.points) {
			t.Errorf("%s: TableOk(%v) = false, want true", c.name, c.points)
		}
	}
	for n := range 12 {
		if got, want := impl.TableOk(line(n)), n >= 2 && n <= 8; got != want {
			t.Errorf("TableOk of %d Points = %v, want %v", n, got, want)
		}
	}
}

func TestP2TableOkAtTheLimitsOfEachPlace(t *testing.T) {
	for place := range 8 {
		for _, y := range []int64{-maxSize, maxSize} {
			if l := changed(8, place, impl.Point{X: int64(10 * place), Y: y}); !impl.TableOk(l) {
				t.Errorf("TableOk(%v) = false, want true", l)
			}
		}
	}
	for _, l := range [][]impl.Point{
		changed(8, 0, impl.Point{X: -maxSize, Y: 0}),
		changed(8, 7, impl.Point{X: maxSize, Y: 0}),
		changed(8, 3, impl.Point{X: 21, Y: 0}),
		changed(8, 3, impl.Point{X: 39, Y: 0}),
	} {
		if !impl.TableOk(l) {
			t.Errorf("TableOk(%v) = false, want true", l)
		}
	}
}

func TestP2WhatIsNoTable(t *testing.T) {
	for _, c := range noTables() {
		if impl.TableOk(c.points) {
			t.Errorf("%s: TableOk(%v) = true, want false", c.name, c.points)
		}
		if impl.IsRising(c.points) {
			t.Errorf("%s: IsRising(%v) = true, want false", c.name, c.points)
		}
		if got := impl.GreatestY(c.points); got != 0 {
			t.Errorf("%s: GreatestY(%v) = %d, want 0", c.name, c.points, got)
		}
		for _, x := range askedOf(c.points) {
			if got := impl.At(c.points, x); got != 0 {
				t.Errorf("%s: At(%v, %d) = %d, want 0", c.name, c.points, x, got)
			}
		}
	}
}

func TestP2At(t *testing.T) {
	for _, c := range []struct{ x, want int64 }{
		{math.MinInt64, -5}, {-maxSize - 1, -5}, {-11, -5}, {-10, -5},
		{-9, -4}, {-8, -2}, {-7, -1}, {-5, 2}, {-1, 8},
		{0, 10}, {3, 13}, {9, 19}, {10, 20}, {11, 20}, {12, 20}, {13, 20},
		{14, 18}, {15, 15}, {16, 12}, {19, 3}, {20, 0},
		{21, 0}, {22, 0}, {23, -1}, {25, -2}, {26, -2}, {27, -3},
		{28, -3}, {maxSize, -3}, {maxSize + 1, -3}, {math.MaxInt64, -3},
	} {
		if got := impl.At(hill(), c.x); got != c.want {
			t.Errorf("At(%v, %d) = %d, want %d", hill(), c.x, got, c.want)
		}
	}
}

func TestP2AtEachPointIsItsY(t *testing.T) {
	for _, c := range tables() {
		for _, p := range c.points {
			if got := impl.At(c.points, p.X); got != p.Y {
				t.Errorf("%s: At(%v, %d) = %d, want %d", c.name, c.points, p.X, got, p.Y)
			}
		}
	}
}

func TestP2AtOfPointsFarApart(t *testing.T) {
	for _, c := range []struct {
		l       []impl.Point
		x, want int64
	}{
		{[]impl.Point{{X: 0, Y: 0}, {X: maxSize, Y: maxSize}}, 7, 7},
		{[]impl.Point{{X: 0, Y: 0}, {X: maxSize, Y: maxSize}}, maxSize - 1, maxSize - 1},
		{[]impl.Point{{X: -1, Y: 3}, {X: maxSize, Y: 9}}, 0, 3},
		{[]impl.Point{{X: -1, Y: 3}, {X: maxSize, Y: 9}}, maxSize - 1, 3},
		{[]impl.Point{{X: -1, Y: 3}, {X: maxSize, Y: 9}}, maxSize, 9},
		{[]impl.Point{{X: -maxSize, Y: -maxSize}, {X: maxSize, Y: maxSize}}, 0, -maxSize},
		{[]impl.Point{{X: -maxSize, Y: -maxSize}, {X: maxSize, Y: maxSize}}, maxSize - 1, -maxSize},
		{[]impl.Point{{X: -maxSize, Y: -maxSize}, {X: maxSize, Y: maxSize}}, maxSize, maxSize},
		{[]impl.Point{{X: 0, Y: 0}, {X: 4, Y: maxSize}}, 1, 250000},
		{[]impl.Point{{X: 0, Y: -1}, {X: 4, Y: maxSize}}, 1, 249999},
		{[]impl.Point{{X: 0, Y: -1}, {X: 4, Y: maxSize}}, 3, 749999},
		{[]impl.Point{{X: 0, Y: -maxSize}, {X: 4, Y: maxSize}}, 1, -750000},
		{[]impl.Point{{X: 0, Y: -maxSize}, {X: 4, Y: maxSize}}, 3, -250000},
		{[]impl.Point{{X: 0, Y: -maxSize}, {X: 4, Y: maxSize}}, 4, maxSize},
		{[]impl.Point{{X: 0, Y: maxSize}, {X: 4, Y: -maxSize}}, 1, 750000},
		{[]impl.Point{{X: 0, Y: maxSize}, {X: 4, Y: -maxSize}}, 3, 250000},
		{[]impl.Point{{X: 0, Y: maxSize}, {X: 4, Y: -maxSize}}, 4, -maxSize},
	} {
		if got := impl.At(c.l, c.x); got != c.want {
			t.Errorf("At(%v, %d) = %d, want %d", c.l, c.x, got, c.want)
		}
	}
}

func TestP2AtEdges(t *testing.T) {
	for _, c := range tables() {
		for _, x := range askedOf(c.points) {
			checkAt(t, c.points, x)
		}
	}
}

func TestP2AtAnywhere(t *testing.T) {
	source := rand.New(rand.NewSource(2))
	for range 2000 {
		l := anyTable(source)
		source.Shuffle(len(l), func(i, j int) { l[i].Y, l[j].Y = l[j].Y, l[i].Y })
		for _, x := range askedOf(l) {
			checkAt(t, l, x)
		}
	}
}

func TestP2IsRising(t *testing.T) {
	for _, c := range []struct {
		ys   []int64
		want bool
	}{
		{[]int64{1, 2}, true},
		{[]int64{2, 2}, true},
		{[]int64{2, 1}, false},
		{[]int64{-1, -2}, false},
		{[]int64{-2, -1}, true},
		{[]int64{-maxSize, maxSize}, true},
		{[]int64{maxSize, -maxSize}, false},
		{[]int64{maxSize, maxSize}, true},
		{[]int64{-maxSize, -maxSize}, true},
		{[]int64{0, 0, 0, 0, 0, 0, 0, 0}, true},
		{[]int64{0, 0, 1, 1, 2, 2, 3, 3}, true},
		{[]int64{1, 0, 1, 2, 3, 4, 5, 6}, false},
		{[]int64{0, 1, 2, 3, 2, 4, 5, 6}, false},
		{[]int64{0, 1, 2, 3, 4, 5, 6, 5}, false},
		{[]int64{0, 9, 1, 9}, false},
	} {
		l := withYs(c.ys)
		if got := impl.IsRising(l); got != c.want {
			t.Errorf("IsRising(%v) = %v, want %v", l, got, c.want)
		}
	}
}

func TestP2GreatestY(t *testing.T) {
	for _, c := range []struct {
		ys   []int64
		want int64
	}{
		{[]int64{1, 2}, 2},
		{[]int64{2, 1}, 2},
		{[]int64{2, 2}, 2},
		{[]int64{0, 0}, 0},
		{[]int64{-7, -3, -5}, -3},
		{[]int64{-3, -7, -5}, -3},
		{[]int64{-7, -5, -3}, -3},
		{[]int64{-maxSize, -maxSize}, -maxSize},
		{[]int64{-maxSize, maxSize}, maxSize},
		{[]int64{maxSize, -maxSize}, maxSize},
		{[]int64{1, 8, 2, 7, 3, 6, 4, 5}, 8},
		{[]int64{1, 2, 3, 4, 5, 6, 7, 8}, 8},
		{[]int64{8, 7, 6, 5, 4, 3, 2, 1}, 8},
	} {
		l := withYs(c.ys)
		if got := impl.GreatestY(l); got != c.want {
			t.Errorf("GreatestY(%v) = %d, want %d", l, got, c.want)
		}
	}
}

func TestP2MoreIsNeverLess(t *testing.T) {
	for _, l := range [][]impl.Point{
		line(2),
		line(8),
		{{X: 1, Y: 7}, {X: 9, Y: 7}},
		{{X: 0, Y: 0}, {X: 3, Y: 1}, {X: 10, Y: 2}, {X: 11, Y: 90}},
		{{X: -40, Y: -9}, {X: -33, Y: -2}, {X: 0, Y: -2}, {X: 2, Y: 1}, {X: 60, Y: 4}},
	} {
		var xs []int64
		for x := int64(-100); x <= 200; x++ {
			xs = append(xs, x)
		}
		checkMoreIsNeverLess(t, l, xs)
	}
}

func TestP2MoreIsNeverLessAtEdges(t *testing.T) {
	for _, c := range tables() {
		if slices.IsSortedFunc(c.points, func(p, q impl.Point) int { return int(p.Y - q.Y) }) {
			checkMoreIsNeverLess(t, c.points, askedOf(c.points))
		}
	}
}

func TestP2MoreIsNeverLessAnywhere(t *testing.T) {
	source := rand.New(rand.NewSource(3))
	for range 2000 {
		l := anyTable(source)
		checkMoreIsNeverLess(t, l, askedOf(l))
	}
}

// TestP2TheListStaysAsItWas looks at the spare room behind the list too.
func TestP2TheListStaysAsItWas(t *testing.T) {
	for _, c := range append(tables(), noTables()...) {
		room := append(slices.Clone(c.points), impl.Point{X: 77, Y: 78}, impl.Point{X: 79, Y: 80})
		before := slices.Clone(room)
		given := room[:len(c.points)]
		impl.TableOk(given)
		impl.IsRising(given)
		impl.GreatestY(given)
		for _, x := range askedOf(c.points) {
			impl.At(given, x)
		}
		if !slices.Equal(room, before) {
			t.Errorf("%s: the list was %v, and is %v", c.name, before, room)
		}
	}
}
