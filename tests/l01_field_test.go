package tests

import (
	"math"
	"math/big"
	"slices"
	"testing"

	"loop.example/g00710/impl"
)

// The table of chapter 1.
var fields = []struct{ p, g, t int }{
	{17, 3, 4},
	{97, 5, 5},
	{193, 5, 6},
	{257, 3, 8},
	{7681, 17, 9},
	{12289, 11, 12},
	{998244353, 3, 23},
	{469762049, 3, 26},
	{1004535809, 3, 21},
}

// Up to this field every element is tried.
const smallFields = 6

var noFields = []int{-1, 9, 10, -9, 17, 1 << 32, math.MaxInt, math.MinInt}

// numbers is a repeatable source of integers of all sizes and signs.
type numbers uint64

func (s *numbers) next() int {
	*s += 0x9e3779b97f4a7c15
	z := uint64(*s)
	z = (z ^ z>>30) * 0xbf58476d1ce4e5b9
	z = (z ^ z>>27) * 0x94d049bb133111eb
	return int(z^z>>31) >> (*s % 48)
}

// edges returns the integers of a field at which something changes, and
// integers of any size and sign.
func edges(p int) []int {
	list := []int{
		0, 1, 2, 3, 5, -1, -2,
		p - 1, p, p + 1, -p, -p - 1, 1 - p, 2 * p, 7*p + 4, (p - 1) / 2, (p + 1) / 2,
		math.MaxInt / p * p, math.MinInt / p * p,
		math.MaxInt32, math.MinInt32, 1 << 62, -1 << 62,
		math.MaxInt, math.MaxInt - 1, math.MinInt, math.MinInt + 1,
	}
	source := numbers(p)
	for range 12 {
		list = append(list, source.next())
	}
	return list
}

// element works out in numbers of any size what Reduce must return.
func element(p int, x *big.Int) int {
	return int(new(big.Int).Mod(x, big.NewInt(int64(p))).Int64())
}

func large(x int) *big.Int { return big.NewInt(int64(x)) }

// powerOf works out in numbers of any size what Power must return.
func powerOf(p int, a int, e int) int {
	base, exponent := large(element(p, large(a))), large(e)
	if base.Sign() == 0 && e <= 0 {
		if e < 0 {
			return -1
		}
		return 1
	}
	if e < 0 {
		base.ModInverse(base, large(p))
		exponent.Neg(exponent)
	}
	return int(base.Exp(base, exponent, large(p)).Int64())
}

// samples returns every element of a small field, and elements from all
// over a great one.
func samples(f int) []int {
	p := fields[f].p
	if f < smallFields {
		list := make([]int, p)
		for i := range list {
			list[i] = i
		}
		return list
	}
	list := []int{0, 1, 2, p - 1, p - 2, (p - 1) / 2, (p + 1) / 2}
	source := numbers(p)
	for range 500 {
		list = append(list, element(p, large(source.next())))
	}
	return list
}

func factorsOf(n int) []int {
	var list []int
	for q := 2; n > 1; q++ {
		if n%q == 0 {
			list = append(list, q)
		}
		for n%q == 0 {
			n /= q
		}
	}
	return list
}

func TestFieldExamples(t *testing.T) {
	cases := []struct {
		name      string
		got, want int
	}{
		{"Modulus(0)", impl.Modulus(0), 17},
		{"TwoPower(7)", impl.TwoPower(7), 26},
		{"Reduce(0, -1)", impl.Reduce(0, -1), 16},
		{"Add(0, 9, 9)", impl.Add(0, 9, 9), 1},
		{"Sub(0, 3, 5)", impl.Sub(0, 3, 5), 15},
		{"Mul(0, 5, 7)", impl.Mul(0, 5, 7), 1},
		{"Inverse(0, 5)", impl.Inverse(0, 5), 7},
		{"Inverse(0, 34)", impl.Inverse(0, 34), -1},
		{"Power(0, 2, -1)", impl.Power(0, 2, -1), 9},
		{"Order(0, 2)", impl.Order(0, 2), 8},
		{"SquareRoot(0, 2)", impl.SquareRoot(0, 2), 6},
		{"SquareRoot(0, 3)", impl.SquareRoot(0, 3), -1},
		{"Dot(0, {1, 2, 3}, {4, 5})", impl.Dot(0, []int{1, 2, 3}, []int{4, 5}), 14},
	}
	for _, c := range cases {
		if c.got != c.want {
			t.Errorf("%s is %d, not %d", c.name, c.got, c.want)
		}
	}
	if got := impl.BatchInverse(0, []int{5, 0, 18}); !slices.Equal(got, []int{7, 0, 1}) {
		t.Errorf("BatchInverse(0, {5, 0, 18}) is %v", got)
	}
}

func TestFieldTable(t *testing.T) {
	if impl.FieldCount != 9 || impl.MaxList != 4096 {
		t.Errorf("the constants are %d and %d", impl.FieldCount, impl.MaxList)
	}
	for f, want := range fields {
		if impl.Modulus(f) != want.p || impl.Generator(f) != want.g || impl.TwoPower(f) != want.t {
			t.Errorf("field %d: %d, %d, %d", f, impl.Modulus(f), impl.Generator(f), impl.TwoPower(f))
		}
		for g := 1; g < want.g; g++ {
			if impl.Order(f, g) == want.p-1 {
				t.Errorf("field %d: %d also generates it", f, g)
			}
		}
		if impl.Order(f, want.g) != want.p-1 {
			t.Errorf("field %d: %d does not generate it", f, want.g)
		}
	}
}

func TestNoField(t *testing.T) {
	for _, f := range noFields {
		if impl.Modulus(f) != 0 || impl.Generator(f) != 0 || impl.TwoPower(f) != -1 {
			t.Errorf("field %d: %d, %d, %d", f, impl.Modulus(f), impl.Generator(f), impl.TwoPower(f))
		}
		for _, a := range []int{0, 1, 2, -1, math.MaxInt, math.MinInt} {
			results := []int{
				impl.Reduce(f, a), impl.Inverse(f, a), impl.Order(f, a), impl.SquareRoot(f, a),
				impl.Add(f, a, 3), impl.Sub(f, a, 3), impl.Mul(f, a, 3),
				impl.Power(f, a, 0), impl.Power(f, a, 3), impl.Power(f, a, -3), impl.Power(f, a, math.MinInt),
				impl.Dot(f, []int{a}, []int{3}), impl.Dot(f, nil, nil),
				impl.Dot(f, make([]int, impl.MaxList+1), nil),
			}
			for i, got := range results {
				if got != -1 {
					t.Errorf("field %d, argument %d: result %d is %d", f, a, i, got)
				}
			}
			if got := impl.BatchInverse(f, []int{a, 3}); got != nil {
				t.Errorf("field %d: BatchInverse is %v", f, got)
			}
		}
		if got := impl.BatchInverse(f, nil); got != nil {
			t.Errorf("field %d: BatchInverse of nothing is %v", f, got)
		}
	}
}

// Every sum, difference and product of integers of any size is what the
// arithmetic of big numbers gives.
func TestArithmeticOfAnyIntegers(t *testing.T) {
	for f, field := range fields {
		list := edges(field.p)
		for _, a := range list {
			if got, want := impl.Reduce(f, a), element(field.p, large(a)); got != want {
				t.Errorf("Reduce(%d, %d) is %d, not %d", f, a, got, want)
			}
			for _, b := range list {
				x, y := large(a), large(b)
				if got, want := impl.Add(f, a, b), element(field.p, new(big.Int).Add(x, y)); got != want {
					t.Errorf("Add(%d, %d, %d) is %d, not %d", f, a, b, got, want)
				}
				if got, want := impl.Sub(f, a, b), element(field.p, new(big.Int).Sub(x, y)); got != want {
					t.Errorf("Sub(%d, %d, %d) is %d, not %d", f, a, b, got, want)
				}
				if got, want := impl.Mul(f, a, b), element(field.p, new(big.Int).Mul(x, y)); got != want {
					t.Errorf("Mul(%d, %d, %d) is %d, not %d", f, a, b, got, want)
				}
			}
		}
	}
}

func TestRingLaws(t *testing.T) {
	for f, field := range fields {
		list := edges(field.p)
		if f == 0 {
			list = samples(f)
		}
		for _, a := range list {
			if impl.Add(f, a, 0) != impl.Reduce(f, a) || impl.Mul(f, a, 1) != impl.Reduce(f, a) || impl.Sub(f, a, a) != 0 {
				t.Errorf("field %d: 0 and 1 are not neutral for %d", f, a)
			}
			for _, b := range list {
				checkPair(t, f, a, b)
				for _, c := range list {
					checkTriple(t, f, a, b, c)
				}
			}
		}
	}
}

func checkPair(t *testing.T, f int, a int, b int) {
	t.Helper()
	if impl.Add(f, a, b) != impl.Add(f, b, a) || impl.Mul(f, a, b) != impl.Mul(f, b, a) {
		t.Errorf("field %d: %d and %d do not commute", f, a, b)
	}
	if impl.Add(f, impl.Sub(f, a, b), b) != impl.Reduce(f, a) {
		t.Errorf("field %d: %d - %d + %d is not the first", f, a, b, b)
	}
}

func checkTriple(t *testing.T, f int, a int, b int, c int) {
	t.Helper()
	if impl.Add(f, impl.Add(f, a, b), c) != impl.Add(f, a, impl.Add(f, b, c)) {
		t.Errorf("field %d: sums of %d, %d, %d differ", f, a, b, c)
	}
	if impl.Mul(f, impl.Mul(f, a, b), c) != impl.Mul(f, a, impl.Mul(f, b, c)) {
		t.Errorf("field %d: products of %d, %d, %d differ", f, a, b, c)
	}
	if impl.Mul(f, a, impl.Add(f, b, c)) != impl.Add(f, impl.Mul(f, a, b), impl.Mul(f, a, c)) {
		t.Errorf("field %d: %d does not distribute over %d, %d", f, a, b, c)
	}
}

func TestInverse(t *testing.T) {
	for f, field := range fields {
		for _, a := range append(samples(f), edges(field.p)...) {
			got := impl.Inverse(f, a)
			if element(field.p, large(a)) == 0 {
				if got != -1 {
					t.Errorf("Inverse(%d, %d) is %d", f, a, got)
				}
				continue
			}
			product := new(big.Int).Mul(large(a), large(got))
			if got <= 0 || got >= field.p || element(field.p, product) != 1 {
				t.Errorf("Inverse(%d, %d) is %d", f, a, got)
			}
		}
	}
}

func TestPower(t *testing.T) {
	for f, field := range fields {
		p := field.p
		exponents := append(edges(p), edges(p-1)...)
		for _, a := range edges(p) {
			for _, e := range exponents {
				if got, want := impl.Power(f, a, e), powerOf(p, a, e); got != want {
					t.Errorf("Power(%d, %d, %d) is %d, not %d", f, a, e, got, want)
				}
			}
		}
	}
}

func TestPowerOfZero(t *testing.T) {
	for f, field := range fields {
		for _, zero := range []int{0, field.p, -field.p, math.MaxInt / field.p * field.p, math.MinInt / field.p * field.p} {
			for e, want := range map[int]int{
				0: 1, 1: 0, 2: 0, field.p - 1: 0, math.MaxInt: 0,
				-1: -1, 1 - field.p: -1, math.MinInt: -1,
			} {
				if got := impl.Power(f, zero, e); got != want {
					t.Errorf("Power(%d, %d, %d) is %d, not %d", f, zero, e, got, want)
				}
			}
		}
	}
}

// orderBySteps counts the multiplications by a that lead back to 1.
func orderBySteps(p int, a int) int {
	k := 1
	for x := a; x != 1; x = x * a % p {
		k++
	}
	return k
}

func TestOrderInSmallFields(t *testing.T) {
	for f, field := range fields[:smallFields] {
		for a := 1; a < field.p; a++ {
			if got, want := impl.Order(f, a), orderBySteps(field.p, a); got != want {
				t.Errorf("Order(%d, %d) is %d, not %d", f, a, got, want)
			}
		}
	}
}

// k is the order of a exactly if a^k is 1 and a^(k/q) is not, for every
// prime q that divides k.
func TestOrderOfAnyIntegers(t *testing.T) {
	for f, field := range fields {
		list := edges(field.p)
		if f >= smallFields {
			list = append(list, samples(f)...)
		}
		for j := range field.t {
			list = append(list, powerOf(field.p, field.g, (field.p-1)>>j))
		}
		for _, a := range list {
			k := impl.Order(f, a)
			if element(field.p, large(a)) == 0 {
				if k != -1 {
					t.Errorf("Order(%d, %d) is %d", f, a, k)
				}
				continue
			}
			if k < 1 || powerOf(field.p, a, k) != 1 {
				t.Errorf("Order(%d, %d) is %d", f, a, k)
				continue
			}
			for _, q := range factorsOf(k) {
				if powerOf(field.p, a, k/q) == 1 {
					t.Errorf("Order(%d, %d) is %d, but the power %d is 1 too", f, a, k, k/q)
				}
			}
		}
	}
}

func TestSquareRootInSmallFields(t *testing.T) {
	for f, field := range fields[:smallFields] {
		want := make([]int, field.p)
		for i := range want {
			want[i] = -1
		}
		for s := field.p - 1; s >= 0; s-- {
			want[s*s%field.p] = s
		}
		for a := range want {
			for _, x := range []int{a, a - field.p, a + 5*field.p} {
				if got := impl.SquareRoot(f, x); got != want[a] {
					t.Errorf("SquareRoot(%d, %d) is %d, not %d", f, x, got, want[a])
				}
			}
		}
	}
}

// A square has the roots s and P - s; times the generator it has none.
func TestSquareRootInGreatFields(t *testing.T) {
	for f := smallFields; f < len(fields); f++ {
		p, g := fields[f].p, fields[f].g
		list := samples(f)
		for j := range fields[f].t + 1 {
			list = append(list, powerOf(p, g, (p-1)>>j))
		}
		for _, s := range list {
			if s == 0 {
				continue
			}
			square := s * s % p
			if got, want := impl.SquareRoot(f, square), min(s, p-s); got != want {
				t.Errorf("SquareRoot(%d, %d) is %d, not %d", f, square, got, want)
			}
			if got := impl.SquareRoot(f, square*g%p); got != -1 {
				t.Errorf("SquareRoot(%d, %d) is %d, not -1", f, square*g%p, got)
			}
		}
	}
}

func TestSquareRootOfAnyIntegers(t *testing.T) {
	for f, field := range fields {
		for _, a := range edges(field.p) {
			x := element(field.p, large(a))
			want := -1
			if root := new(big.Int).ModSqrt(large(x), large(field.p)); root != nil {
				s := int(root.Int64())
				want = min(s, (field.p-s)%field.p)
			}
			if got := impl.SquareRoot(f, a); got != want {
				t.Errorf("SquareRoot(%d, %d) is %d, not %d", f, a, got, want)
			}
		}
	}
}

func checkBatch(t *testing.T, f int, list []int) {
	t.Helper()
	kept := slices.Clone(list)
	got := impl.BatchInverse(f, list)
	if !slices.Equal(list, kept) {
		t.Errorf("field %d: BatchInverse changes its list", f)
	}
	if len(got) != len(list) {
		t.Fatalf("field %d: BatchInverse of %d integers has %d", f, len(list), len(got))
	}
	for i, a := range kept {
		want := max(powerOf(fields[f].p, a, -1), 0)
		if got[i] != want {
			t.Errorf("field %d: the inverse of %d at index %d is %d, not %d", f, a, i, got[i], want)
		}
	}
	if len(got) > 0 {
		got[0]++
		if !slices.Equal(list, kept) {
			t.Errorf("field %d: BatchInverse shares memory with its list", f)
		}
	}
}

func TestBatchInverse(t *testing.T) {
	for f, field := range fields {
		p := field.p
		most := make([]int, impl.MaxList)
		source := numbers(p)
		for i := range most {
			most[i] = source.next()
		}
		most[0], most[7], most[impl.MaxList-1] = 0, p, -p
		for _, list := range [][]int{
			nil, {}, {0}, {p}, {1}, {-1}, {0, 0, 0}, {0, 2, 0}, {3, 0, 4, p, 5},
			{math.MinInt, math.MaxInt}, edges(p), most, most[:impl.MaxList-1],
		} {
			checkBatch(t, f, list)
		}
		if got := impl.BatchInverse(f, append(most, 1)); got != nil {
			t.Errorf("field %d: BatchInverse of a list that is too long has %d elements", f, len(got))
		}
	}
}

func dotOf(p int, a []int, b []int) int {
	sum := new(big.Int)
	for i := range min(len(a), len(b)) {
		sum.Add(sum, new(big.Int).Mul(large(a[i]), large(b[i])))
	}
	return element(p, sum)
}

func TestDot(t *testing.T) {
	for f, field := range fields {
		p := field.p
		most, greatest := make([]int, impl.MaxList), make([]int, impl.MaxList)
		source := numbers(p)
		for i := range most {
			most[i], greatest[i] = source.next(), p-1
		}
		lists := [][]int{
			nil, {}, {0}, {1}, {-1}, {1, 2, 3}, {p, 5 * p, 1}, {math.MinInt, math.MaxInt},
			edges(p), most, greatest, most[1:],
		}
		for i, a := range lists {
			for j, b := range lists {
				x, y := slices.Clone(a), slices.Clone(b)
				if got, want := impl.Dot(f, a, b), dotOf(p, x, y); got != want {
					t.Errorf("field %d: Dot of the lists %d and %d is %d, not %d", f, i, j, got, want)
				}
				if !slices.Equal(a, x) || !slices.Equal(b, y) {
					t.Errorf("field %d: Dot changes the list %d or %d", f, i, j)
				}
			}
		}
		tooLong := append(slices.Clone(most), 1)
		for i, b := range append(lists, tooLong) {
			if impl.Dot(f, tooLong, b) != -1 || impl.Dot(f, b, tooLong) != -1 {
				t.Errorf("field %d: Dot takes a list that is too long, beside the list %d", f, i)
			}
		}
	}
}
