package impl

const MaxSize = 1000000

// maxSquare is the greatest number of which the root is still a size.
const maxSquare = MaxSize * MaxSize

// size is a number from -MaxSize to MaxSize. Two of them can be added,
// subtracted and multiplied in 64 bits, so no method of a size goes round.
type size int64

func sized(n int64) size { return size(Between(n, -MaxSize, MaxSize)) }

func (s size) plus(other size) size { return sized(int64(s + other)) }

func (s size) apart(other size) size { return sized(int64(max(s, other) - min(s, other))) }

func (s size) times(other size) int64 { return int64(s) * int64(other) }

func (s size) squareIsWithin(n int64) bool { return s.times(s) <= n }

// withSize makes the second number a size before it meets the first one,
// which the method value op holds as a size already.
func withSize(op func(size) size, n int64) int64 { return int64(op(sized(n))) }

// greatestSize halves the range instead of counting up, which could take
// MaxSize steps. 0 has to be within n.
func greatestSize(isWithin func(size, int64) bool, n int64) size {
	low, high := size(0), size(MaxSize)
	for low < high {
		middle := high - (high-low)/2
		if isWithin(middle, n) {
			low = middle
		} else {
			high = middle - 1
		}
	}
	return low
}

func SizeOk(n int64) bool { return n >= -MaxSize && n <= MaxSize }

// Between asks high last, so that high wins where low is above it.
func Between(x int64, low int64, high int64) int64 { return min(max(x, low), high) }

func Plus(a int64, b int64) int64 { return withSize(sized(a).plus, b) }

func Part(a int64, b int64, c int64) int64 {
	if c == 0 || !SizeOk(c) {
		return 0
	}
	return int64(sized(sized(a).times(sized(b)) / c))
}

// Toward keeps the step within the longest way there is between two sizes,
// which is twice MaxSize: a longer step would go round and changes nothing.
func Toward(x int64, to int64, step int64) int64 {
	from := int64(sized(x))
	most := Between(step, 0, 2*MaxSize)
	return Between(int64(sized(to)), from-most, from+most)
}

func Apart(a int64, b int64) int64 { return withSize(sized(a).apart, b) }

func Root(n int64) int64 {
	if n < 1 || n > maxSquare {
		return 0
	}
	return int64(greatestSize(size.squareIsWithin, n))
}
