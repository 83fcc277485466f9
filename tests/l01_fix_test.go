package tests

import (
	"math"
	"math/big"
	"math/rand"
	"testing"

	"loop.example/g00619/impl"
)

const greatestSquare = int64(impl.MaxSize) * impl.MaxSize

// fixEdges are numbers on both sides of every limit of chapter 1, up to the ends of int64.
func fixEdges() []int64 {
	edges := []int64{0, 1, 2, 3, 7, 999, 1000, math.MaxInt64, math.MaxInt64 - 1, math.MaxInt64 - impl.MaxSize, math.MaxInt64 / 2}
	for _, limit := range []int64{impl.MaxSize, 2 * impl.MaxSize, greatestSquare, math.MaxInt32, 1 << 32} {
		edges = append(edges, limit-1, limit, limit+1)
	}
	for _, n := range edges {
		edges = append(edges, -n)
	}
	return append(edges, math.MinInt64)
}

// exact cuts a number of any length to a size, so that the wanted answers are worked out where nothing can go round.
func exact(n *big.Int) *big.Int {
	most := big.NewInt(impl.MaxSize)
	if n.CmpAbs(most) <= 0 {
		return n
	}
	if n.Sign() < 0 {
		return new(big.Int).Neg(most)
	}
	return most
}

func exactSize(n int64) *big.Int { return exact(big.NewInt(n)) }

func exactPlus(a, b int64) int64 {
	return exact(new(big.Int).Add(exactSize(a), exactSize(b))).Int64()
}

func exactApart(a, b int64) int64 {
	way := new(big.Int).Sub(exactSize(a), exactSize(b))
	return exact(way.Abs(way)).Int64()
}

func exactPart(a, b, c int64) int64 {
	if c == 0 || c < -impl.MaxSize || c > impl.MaxSize {
		return 0
	}
	product := new(big.Int).Mul(exactSize(a), exactSize(b))
	return exact(product.Quo(product, big.NewInt(c))).Int64()
}

func exactToward(x, to, step int64) int64 {
	from, goal := exactSize(x), exactSize(to)
	if step < 0 {
		return from.Int64()
	}
	way := new(big.Int).Sub(goal, from)
	if way.CmpAbs(big.NewInt(step)) <= 0 {
		return goal.Int64()
	}
	return from.Int64() + int64(way.Sign())*step
}

func checkFixPair(t *testing.T, a, b int64) {
	t.Helper()
	if got, want := impl.Plus(a, b), exactPlus(a, b); got != want {
		t.Errorf("Plus(%d, %d) = %d, want %d", a, b, got, want)
	}
	if got, want := impl.Apart(a, b), exactApart(a, b); got != want {
		t.Errorf("Apart(%d, %d) = %d, want %d", a, b, got, want)
	}
}

func checkFixTriple(t *testing.T, a, b, c int64) {
	t.Helper()
	if got, want := impl.Part(a, b, c), exactPart(a, b, c); got != want {
		t.Errorf("Part(%d, %d, %d) = %d, want %d", a, b, c, got, want)
	}
	if got, want := impl.Toward(a, b, c), exactToward(a, b, c); got != want {
		t.Errorf("Toward(%d, %d, %d) = %d, want %d", a, b, c, got, want)
	}
}

// checkRoot asks for the meaning of a root, in numbers that cannot go round.
func checkRoot(t *testing.T, n int64) {
	t.Helper()
	got := impl.Root(n)
	if n < 1 || n > greatestSquare {
		if got != 0 {
			t.Errorf("Root(%d) = %d, want 0", n, got)
		}
		return
	}
	if want := new(big.Int).Sqrt(big.NewInt(n)).Int64(); got != want {
		t.Errorf("Root(%d) = %d, want %d", n, got, want)
	}
}

func TestP1SizeOk(t *testing.T) {
	for _, n := range []int64{0, 1, -1, 500, -500, impl.MaxSize - 1, impl.MaxSize, -impl.MaxSize, -impl.MaxSize + 1} {
		if !impl.SizeOk(n) {
			t.Errorf("SizeOk(%d) = false, want true", n)
		}
	}
	for _, n := range []int64{impl.MaxSize + 1, -impl.MaxSize - 1, greatestSquare, 1 << 32, -1 << 32, math.MaxInt64, math.MinInt64} {
		if impl.SizeOk(n) {
			t.Errorf("SizeOk(%d) = true, want false", n)
		}
	}
}

func TestP1MaxSize(t *testing.T) {
	if impl.MaxSize != 1000000 {
		t.Errorf("MaxSize = %d, want 1000000", impl.MaxSize)
	}
}

func TestP1Between(t *testing.T) {
	for _, c := range []struct{ x, low, high, want int64 }{
		{2, 1, 3, 2},
		{1, 1, 3, 1},
		{3, 1, 3, 3},
		{0, 1, 3, 1},
		{4, 1, 3, 3},
		{-9, -5, -2, -5},
		{9, -5, -2, -2},
		{5, 4, 4, 4},
		{3, 4, 4, 4},
		{5, 9, 3, 3},
		{1, 9, 3, 3},
		{10, 9, 3, 3},
		{0, 1, -1, -1},
		{impl.MaxSize + 5, 0, impl.MaxSize + 7, impl.MaxSize + 5},
		{math.MaxInt64, math.MinInt64, math.MaxInt64, math.MaxInt64},
		{math.MinInt64, math.MinInt64, math.MaxInt64, math.MinInt64},
		{math.MinInt64, math.MaxInt64, math.MaxInt64, math.MaxInt64},
		{0, math.MaxInt64, math.MinInt64, math.MinInt64},
	} {
		if got := impl.Between(c.x, c.low, c.high); got != c.want {
			t.Errorf("Between(%d, %d, %d) = %d, want %d", c.x, c.low, c.high, got, c.want)
		}
	}
}

func TestP1BetweenAtEdges(t *testing.T) {
	edges := fixEdges()
	for _, x := range edges {
		for _, low := range edges {
			for _, high := range edges {
				want := x
				if want < low {
					want = low
				}
				if want > high {
					want = high
				}
				if got := impl.Between(x, low, high); got != want {
					t.Errorf("Between(%d, %d, %d) = %d, want %d", x, low, high, got, want)
				}
			}
		}
	}
}

func TestP1Plus(t *testing.T) {
	for _, c := range []struct{ a, b, want int64 }{
		{0, 0, 0},
		{2, 3, 5},
		{2, -5, -3},
		{impl.MaxSize, 0, impl.MaxSize},
		{impl.MaxSize - 1, 1, impl.MaxSize},
		{impl.MaxSize, 1, impl.MaxSize},
		{-impl.MaxSize, -1, -impl.MaxSize},
		{impl.MaxSize, impl.MaxSize, impl.MaxSize},
		{-impl.MaxSize, -impl.MaxSize, -impl.MaxSize},
		{impl.MaxSize, -impl.MaxSize, 0},
		{impl.MaxSize + 1, -1, impl.MaxSize - 1},
		{-1, impl.MaxSize + 1, impl.MaxSize - 1},
		{-impl.MaxSize - 1, 1, -impl.MaxSize + 1},
		{math.MaxInt64, math.MaxInt64, impl.MaxSize},
		{math.MinInt64, math.MinInt64, -impl.MaxSize},
		{math.MaxInt64, math.MinInt64, 0},
		{math.MinInt64, 7, -impl.MaxSize + 7},
	} {
		if got := impl.Plus(c.a, c.b); got != c.want {
			t.Errorf("Plus(%d, %d) = %d, want %d", c.a, c.b, got, c.want)
		}
	}
}

func TestP1Part(t *testing.T) {
	for _, c := range []struct{ a, b, c, want int64 }{
		{6, 5, 2, 15},
		{7, 5, 2, 17},
		{-7, 5, 2, -17},
		{7, -5, 2, -17},
		{7, 5, -2, -17},
		{-7, -5, 2, 17},
		{-7, -5, -2, -17},
		{1, 1, 2, 0},
		{-1, 1, 2, 0},
		{0, 9, 5, 0},
		{1, 1, 0, 0},
		{impl.MaxSize, impl.MaxSize, 0, 0},
		{impl.MaxSize, impl.MaxSize, 1, impl.MaxSize},
		{impl.MaxSize, impl.MaxSize, -1, -impl.MaxSize},
		{impl.MaxSize, impl.MaxSize, impl.MaxSize, impl.MaxSize},
		{impl.MaxSize, impl.MaxSize, -impl.MaxSize, -impl.MaxSize},
		{impl.MaxSize, impl.MaxSize, impl.MaxSize + 1, 0},
		{impl.MaxSize, impl.MaxSize, -impl.MaxSize - 1, 0},
		{impl.MaxSize, impl.MaxSize - 1, impl.MaxSize, impl.MaxSize - 1},
		{impl.MaxSize + 1, 1, 1, impl.MaxSize},
		{2 * impl.MaxSize, 1, 2, impl.MaxSize / 2},
		{1, -2 * impl.MaxSize, 2, -impl.MaxSize / 2},
		{math.MaxInt64, math.MaxInt64, impl.MaxSize, impl.MaxSize},
		{math.MinInt64, math.MaxInt64, impl.MaxSize, -impl.MaxSize},
		{math.MinInt64, 1, -1, impl.MaxSize},
		{1, 1, math.MaxInt64, 0},
		{impl.MaxSize, impl.MaxSize, math.MinInt64, 0},
	} {
		if got := impl.Part(c.a, c.b, c.c); got != c.want {
			t.Errorf("Part(%d, %d, %d) = %d, want %d", c.a, c.b, c.c, got, c.want)
		}
	}
}

func TestP1Toward(t *testing.T) {
	for _, c := range []struct{ x, to, step, want int64 }{
		{10, 50, 7, 17},
		{10, 0, 7, 3},
		{10, 17, 7, 17},
		{10, 3, 7, 3},
		{10, 12, 7, 12},
		{10, 8, 7, 8},
		{10, 10, 7, 10},
		{-3, 3, 4, 1},
		{3, -3, 4, -1},
		{10, 12, 0, 10},
		{10, 12, -1, 10},
		{12, 10, -1, 12},
		{10, 12, math.MinInt64, 10},
		{10, 12, math.MaxInt64, 12},
		{12, 10, math.MaxInt64, 10},
		{-impl.MaxSize, impl.MaxSize, impl.MaxSize, 0},
		{-impl.MaxSize, impl.MaxSize, impl.MaxSize + 500, 500},
		{impl.MaxSize, -impl.MaxSize, impl.MaxSize + 500, -500},
		{-impl.MaxSize, impl.MaxSize, 2*impl.MaxSize - 1, impl.MaxSize - 1},
		{-impl.MaxSize, impl.MaxSize, 2 * impl.MaxSize, impl.MaxSize},
		{impl.MaxSize + 1, 0, 1, impl.MaxSize - 1},
		{0, -impl.MaxSize - 1, 2 * impl.MaxSize, -impl.MaxSize},
		{math.MinInt64, math.MaxInt64, 1, -impl.MaxSize + 1},
		{math.MaxInt64, math.MinInt64, math.MaxInt64, -impl.MaxSize},
		{math.MaxInt64, 5, 0, impl.MaxSize},
		{math.MinInt64, 5, -1, -impl.MaxSize},
	} {
		if got := impl.Toward(c.x, c.to, c.step); got != c.want {
			t.Errorf("Toward(%d, %d, %d) = %d, want %d", c.x, c.to, c.step, got, c.want)
		}
	}
}

func TestP1Apart(t *testing.T) {
	for _, c := range []struct{ a, b, want int64 }{
		{0, 0, 0},
		{3, -4, 7},
		{-4, 3, 7},
		{9, 2, 7},
		{-9, -2, 7},
		{impl.MaxSize, 0, impl.MaxSize},
		{impl.MaxSize - 1, -1, impl.MaxSize},
		{impl.MaxSize, -1, impl.MaxSize},
		{1, -impl.MaxSize, impl.MaxSize},
		{-impl.MaxSize, impl.MaxSize, impl.MaxSize},
		{impl.MaxSize + 9, impl.MaxSize, 0},
		{impl.MaxSize + 9, impl.MaxSize - 1, 1},
		{-impl.MaxSize - 9, -impl.MaxSize + 1, 1},
		{math.MinInt64, math.MaxInt64, impl.MaxSize},
		{math.MaxInt64, impl.MaxSize, 0},
		{math.MinInt64, math.MinInt64, 0},
	} {
		if got := impl.Apart(c.a, c.b); got != c.want {
			t.Errorf("Apart(%d, %d) = %d, want %d", c.a, c.b, got, c.want)
		}
	}
}

func TestP1Root(t *testing.T) {
	for _, c := range []struct{ n, want int64 }{
		{0, 0}, {1, 1}, {2, 1}, {3, 1}, {4, 2}, {8, 2}, {9, 3}, {99, 9}, {100, 10}, {101, 10},
		{999998000000, 999998},
		{999998000001, 999999},
		{999999999999, 999999},
		{1000000000000, 1000000},
		{1000000000001, 0},
		{-1, 0}, {-100, 0}, {-1000000000000, 0},
		{math.MaxInt64, 0}, {math.MinInt64, 0},
	} {
		if got := impl.Root(c.n); got != c.want {
			t.Errorf("Root(%d) = %d, want %d", c.n, got, c.want)
		}
	}
}

func TestP1RootOfEverySmallNumberAndAroundSquares(t *testing.T) {
	for n := int64(-100); n <= 20000; n++ {
		checkRoot(t, n)
	}
	for root := int64(1); root <= impl.MaxSize+1; root += 997 {
		for beside := int64(-1); beside <= 1; beside++ {
			checkRoot(t, root*root+beside)
		}
	}
	for power := int64(1); power <= impl.MaxSize; power *= 10 {
		for root := power - 1; root <= power+1; root++ {
			for beside := int64(-1); beside <= 1; beside++ {
				checkRoot(t, root*root+beside)
			}
		}
	}
}

func TestP1NothingGoesRoundAtEdges(t *testing.T) {
	edges := fixEdges()
	for _, a := range edges {
		checkRoot(t, a)
		for _, b := range edges {
			checkFixPair(t, a, b)
			for _, c := range edges {
				checkFixTriple(t, a, b, c)
			}
		}
	}
}

// anyLength gives numbers of every length, since evenly drawn ones are almost never sizes.
func anyLength(source *rand.Rand) int64 { return int64(source.Uint64()) >> source.Intn(64) }

func TestP1NothingGoesRoundAnywhere(t *testing.T) {
	source := rand.New(rand.NewSource(1))
	for range 20000 {
		a, b, c := anyLength(source), anyLength(source), anyLength(source)
		checkRoot(t, a)
		checkFixPair(t, a, b)
		checkFixTriple(t, a, b, c)
	}
}

func TestP1AllSumsAreSizes(t *testing.T) {
	edges := fixEdges()
	for _, a := range edges {
		for _, b := range edges {
			for _, c := range edges {
				for name, got := range map[string]int64{
					"Plus":   impl.Plus(a, b),
					"Part":   impl.Part(a, b, c),
					"Toward": impl.Toward(a, b, c),
					"Apart":  impl.Apart(a, b),
					"Root":   impl.Root(a),
				} {
					if got < -impl.MaxSize || got > impl.MaxSize {
						t.Errorf("%s of %d, %d, %d is %d, which is no size", name, a, b, c, got)
					}
				}
			}
		}
	}
}
