package impl

const (
	FieldCount = 9
	MaxList    = 4096
)

// fieldNumber is the number of a field. Apart from known, its methods are
// for the numbers of existing fields only, and apart from reduce, inverses,
// has and hasAll they take elements only, so that no product exceeds an int.
type fieldNumber int

const (
	mod17 fieldNumber = iota
	mod97
	mod193
	mod257
	mod7681
	mod12289
	mod998244353
	mod469762049
	mod1004535809
)

type fieldRow struct {
	prime     int
	generator int
	twoPower  int
}

var fieldTable = [FieldCount]fieldRow{
	mod17:         {17, 3, 4},
	mod97:         {97, 5, 5},
	mod193:        {193, 5, 6},
	mod257:        {257, 3, 8},
	mod7681:       {7681, 17, 9},
	mod12289:      {12289, 11, 12},
	mod998244353:  {998244353, 3, 23},
	mod469762049:  {469762049, 3, 26},
	mod1004535809: {1004535809, 3, 21},
}

func (n fieldNumber) known() bool { return n >= mod17 && n <= mod1004535809 }

func (n fieldNumber) prime() int { return fieldTable[n].prime }

func (n fieldNumber) generator() int { return fieldTable[n].generator }

func (n fieldNumber) twoPower() int { return fieldTable[n].twoPower }

// has reports whether the integer is an element.
func (n fieldNumber) has(x int) bool { return x >= 0 && x < n.prime() }

func (n fieldNumber) hasAll(list []int) bool {
	for _, x := range list {
		if !n.has(x) {
			return false
		}
	}
	return true
}

func (n fieldNumber) reduce(x int) int { return residue(x, n.prime()) }

func (n fieldNumber) add(a int, b int) int { return n.reduce(a + b) }

func (n fieldNumber) sub(a int, b int) int { return n.reduce(a - b) }

func (n fieldNumber) mul(a int, b int) int { return n.reduce(a * b) }

// power returns a^e for e that is not negative.
func (n fieldNumber) power(a int, e int) int { return bySquaring(1, a, e, n.mul) }

// order returns the order of a, which is not 0. The order divides P - 1, so
// it is what remains of P - 1 after every prime factor that can go is gone.
func (n fieldNumber) order(a int) int {
	k := n.prime() - 1
	rest := k
	for q := 2; rest > 1; q++ {
		for ; rest%q == 0; rest /= q {
			if n.power(a, k/q) == 1 {
				k /= q
			}
		}
	}
	return k
}

// isSquare applies Euler's criterion to a, which is not 0.
func (n fieldNumber) isSquare(a int) bool {
	return n.power(a, (n.prime()-1)/2) == 1
}

// rootOfSquare returns the smaller square root of a, which is a square other
// than 0. In the loop root·root = a·excess, the order of excess divides 2^k
// and the order of step is 2^(k+1), so that excess is 1 at the end.
func (n fieldNumber) rootOfSquare(a int) int {
	p := n.prime()
	odd := (p - 1) >> n.twoPower()
	root := n.power(a, (odd+1)/2)
	excess := n.power(a, odd)
	step := n.power(n.generator(), odd)
	for k := n.twoPower() - 1; k > 0; k-- {
		square := n.mul(step, step)
		if n.power(excess, 1<<(k-1)) != 1 {
			root = n.mul(root, step)
			excess = n.mul(excess, square)
		}
		step = square
	}
	return min(root, p-root)
}

// inverse returns the inverse of a, which is not 0.
func (n fieldNumber) inverse(a int) int { return n.power(a, n.prime()-2) }

// inverses inverts only the product of all elements: a division for each of
// them would cost about thirty times as much.
func (n fieldNumber) inverses(list []int) []int {
	out := make([]int, len(list))
	before := make([]int, len(list))
	product := 1
	for i, x := range list {
		out[i] = n.reduce(x)
		before[i] = product
		if out[i] != 0 {
			product = n.mul(product, out[i])
		}
	}
	back := n.inverse(product)
	for i := len(list) - 1; i >= 0; i-- {
		if x := out[i]; x != 0 {
			out[i] = n.mul(back, before[i])
			back = n.mul(back, x)
		}
	}
	return out
}

// residue returns the number in 0..m-1 that is congruent to x modulo m.
func residue(x int, m int) int {
	r := x % m
	if r < 0 {
		r += m
	}
	return r
}

// nearZero returns the integer of smallest absolute value that is congruent to
// x modulo m, for x in 0..m-1. It is unique for odd m.
func nearZero(x int, m int) int {
	if x > m/2 {
		return x - m
	}
	return x
}

// bySquaring returns a^e for e that is not negative, where one is a^0.
func bySquaring[T any](one T, a T, e int, times func(T, T) T) T {
	result := one
	for ; e > 0; e /= 2 {
		if e%2 == 1 {
			result = times(result, a)
		}
		a = times(a, a)
	}
	return result
}

func powerOfZero(e int) int {
	switch {
	case e < 0:
		return -1
	case e == 0:
		return 1
	}
	return 0
}

func Modulus(f int) int {
	n := fieldNumber(f)
	if !n.known() {
		return 0
	}
	return n.prime()
}

func Generator(f int) int {
	n := fieldNumber(f)
	if !n.known() {
		return 0
	}
	return n.generator()
}

func TwoPower(f int) int {
	n := fieldNumber(f)
	if !n.known() {
		return -1
	}
	return n.twoPower()
}

func Reduce(f int, x int) int {
	n := fieldNumber(f)
	if !n.known() {
		return -1
	}
	return n.reduce(x)
}

func Add(f int, a int, b int) int {
	n := fieldNumber(f)
	if !n.known() {
		return -1
	}
	return n.add(n.reduce(a), n.reduce(b))
}

func Sub(f int, a int, b int) int {
	n := fieldNumber(f)
	if !n.known() {
		return -1
	}
	return n.sub(n.reduce(a), n.reduce(b))
}

func Mul(f int, a int, b int) int {
	n := fieldNumber(f)
	if !n.known() {
		return -1
	}
	return n.mul(n.reduce(a), n.reduce(b))
}

func Inverse(f int, a int) int { return Power(f, a, -1) }

// Power takes the exponent modulo P - 1, since a^(P-1) = 1; the smallest int
// could not be negated.
func Power(f int, a int, e int) int {
	n := fieldNumber(f)
	if !n.known() {
		return -1
	}
	x := n.reduce(a)
	if x == 0 {
		return powerOfZero(e)
	}
	return n.power(x, residue(e, n.prime()-1))
}

func Order(f int, a int) int {
	n := fieldNumber(f)
	if !n.known() {
		return -1
	}
	x := n.reduce(a)
	if x == 0 {
		return -1
	}
	return n.order(x)
}

func SquareRoot(f int, a int) int {
	n := fieldNumber(f)
	if !n.known() {
		return -1
	}
	x := n.reduce(a)
	if x == 0 {
		return 0
	}
	if !n.isSquare(x) {
		return -1
	}
	return n.rootOfSquare(x)
}

func BatchInverse(f int, list []int) []int {
	n := fieldNumber(f)
	if !n.known() || len(list) > MaxList {
		return nil
	}
	return n.inverses(list)
}

func Dot(f int, a []int, b []int) int {
	n := fieldNumber(f)
	if !n.known() || len(a) > MaxList || len(b) > MaxList {
		return -1
	}
	sum := 0
	for i := range min(len(a), len(b)) {
		sum = n.add(sum, n.mul(n.reduce(a[i]), n.reduce(b[i])))
	}
	return sum
}
