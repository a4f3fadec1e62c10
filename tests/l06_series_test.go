package tests

import (
	"math"
	"math/big"
	"slices"
	"testing"

	"loop.example/g00710/impl"
)

// seriesLengths are the lengths beside powers of 2, up to MaxSeries; 16, 17
// and 18 are P - 1, P and P + 1 in field 0.
var seriesLengths = []int{1, 2, 3, 4, 5, 6, 7, 8, 9, 15, 16, 17, 18, 31, 32, 33, 63, 64}

// ofLength cuts the list after n elements or puts zeros behind it.
func ofLength(list []int, n int) []int {
	out := make([]int, n)
	copy(out, list)
	return out
}

func startingWith(a []int, x int) []int {
	out := slices.Clone(a)
	out[0] = x
	return out
}

// someSeries returns series of n elements: zeros only, with zeros at the end,
// with the greatest elements, and arbitrary ones.
func someSeries(p int, n int) [][]int {
	return append(someVectors(p, n), ofLength(someVector(p, (n+1)/2, 4), n), unit(n, min(1, n-1), 1))
}

// eachSeries calls check for series of every length of seriesLengths over
// every field.
func eachSeries(check func(f int, a []int)) {
	for f, field := range fields {
		for _, n := range seriesLengths {
			for _, a := range someSeries(field.p, n) {
				check(f, a)
			}
		}
	}
}

// eachStart calls check for the same series with another first element.
func eachStart(x int, check func(f int, a []int)) {
	eachSeries(func(f int, a []int) { check(f, startingWith(a, x)) })
}

// eachUnit calls check for series with a first element other than 0.
func eachUnit(check func(f int, a []int)) {
	eachSeries(func(f int, a []int) {
		p := fields[f].p
		for _, x := range []int{1, 2, p - 1, p / 2, 1 + element(p-1, large(len(a)*31+a[len(a)-1]))} {
			check(f, startingWith(a, x))
		}
	})
}

// eachTwo calls check for pairs of series of the same length: the shorter ones
// in all combinations, the longer ones in some.
func eachTwo(check func(f int, a []int, b []int)) {
	for f, field := range fields {
		for _, n := range seriesLengths {
			list := someSeries(field.p, n)
			for i, a := range list {
				for j, b := range list {
					if n <= 9 || (i+2*j)%3 == 0 {
						check(f, a, b)
					}
				}
			}
		}
	}
}

// eachShort calls check for every series over field 0 of one, two or three
// elements, of which the first one is x.
func eachShort(x int, check func(f int, a []int)) {
	check(0, []int{x})
	for y := range 17 {
		check(0, []int{x, y})
		for z := range 17 {
			check(0, []int{x, y, z})
		}
	}
}

// hasIntegrals tells whether n elements are at most P.
func hasIntegrals(f int, n int) bool { return n <= fields[f].p }

// cutOf is the product of two series, coefficient by coefficient.
func cutOf(p int, a []int, b []int) []int {
	out := make([]int, len(a))
	for i := range out {
		for j := range i + 1 {
			out[i] = (out[i] + a[j]*b[i-j]) % p
		}
	}
	return out
}

// sumOf is a + c·b for an element c, with the zeros at the end.
func sumOf(p int, a []int, b []int, c int) []int {
	out := make([]int, len(a))
	for i, x := range a {
		out[i] = (x + c*b[i]) % p
	}
	return out
}

// inverseOf finds each element from those before it.
func inverseOf(p int, a []int) []int {
	out := make([]int, len(a))
	first := powerOf(p, a[0], -1)
	out[0] = first
	for i := 1; i < len(a); i++ {
		rest := 0
		for j := 1; j <= i; j++ {
			rest = (rest + a[j]*out[i-j]) % p
		}
		out[i] = (p - rest) % p * first % p
	}
	return out
}

func slopeOf(p int, a []int) []int {
	out := make([]int, len(a))
	for i := 1; i < len(a); i++ {
		out[i-1] = element(p, large(i)) * a[i] % p
	}
	return out
}

func integralOf(p int, a []int) []int {
	out := make([]int, len(a))
	for i := 1; i < len(a); i++ {
		out[i] = a[i-1] * powerOf(p, i, -1) % p
	}
	return out
}

// logOf finds each element from those before it: i·a[i] is the sum of
// j·out[j]·a[i-j] over j in 1..i.
func logOf(p int, a []int) []int {
	out := make([]int, len(a))
	for i := 1; i < len(a); i++ {
		rest := i * a[i] % p
		for j := 1; j < i; j++ {
			rest = (rest + (p-j*out[j]%p)*a[i-j]) % p
		}
		out[i] = rest * powerOf(p, i, -1) % p
	}
	return out
}

func expOf(p int, a []int) []int {
	out := unit(len(a), 0, 1)
	for i := 1; i < len(a); i++ {
		sum := 0
		for j := 1; j <= i; j++ {
			sum = (sum + j*a[j]%p*out[i-j]) % p
		}
		out[i] = sum * powerOf(p, i, -1) % p
	}
	return out
}

// raisedOf takes e apart by halves; a[0] is not 0 if e is negative.
func raisedOf(p int, a []int, e int) []int {
	switch {
	case e < 0:
		return raisedOf(p, inverseOf(p, a), -e)
	case e == 0:
		return unit(len(a), 0, 1)
	case e%2 == 1:
		return cutOf(p, a, raisedOf(p, a, e-1))
	}
	half := raisedOf(p, a, e/2)
	return cutOf(p, half, half)
}

// intoOf adds up a[i]·b^i.
func intoOf(p int, a []int, b []int) []int {
	out := make([]int, len(a))
	power := unit(len(a), 0, 1)
	for _, x := range a {
		out = sumOf(p, out, power, x)
		power = cutOf(p, power, b)
	}
	return out
}

// elementaryOf returns the elementary symmetric sums of the numbers, which are
// the coefficients of the product of 1 + r·x.
func elementaryOf(p int, numbers []int) []int {
	product := []int{1}
	for _, r := range numbers {
		factor := ofLength([]int{1, r}, len(product)+1)
		product = cutOf(p, factor, append(product, 0))
	}
	return product[1:]
}

func powerSumsOf(p int, numbers []int) []int {
	out := make([]int, len(numbers))
	for i := range out {
		for _, r := range numbers {
			out[i] = (out[i] + powerOf(p, r, i+1)) % p
		}
	}
	return out
}

// newtonOf follows the chapter's formula.
func newtonOf(p int, list []int) []int {
	out := make([]int, len(list))
	for i := 1; i <= len(list); i++ {
		sum := new(big.Int).Mul(large(i), large(list[i-1]))
		if i%2 == 0 {
			sum.Neg(sum)
		}
		for j := 1; j < i; j++ {
			term := new(big.Int).Mul(large(list[j-1]), large(out[i-j-1]))
			if j%2 == 0 {
				term.Neg(term)
			}
			sum.Add(sum, term)
		}
		out[i-1] = element(p, sum)
	}
	return out
}

// checkSeries makes a call that must return want and true.
func checkSeries(t *testing.T, name string, f int, a []int, want []int, call func(int, []int) ([]int, bool)) {
	t.Helper()
	if got, ok := call(f, a); !ok || !slices.Equal(got, want) {
		t.Errorf("%s in field %d of %v is %v, %v, not %v", name, f, a, got, ok, want)
	}
}

func checkPow(t *testing.T, f int, a []int, e int, want []int) {
	t.Helper()
	if got, ok := impl.SeriesPow(f, a, e); !ok || !slices.Equal(got, want) {
		t.Errorf("SeriesPow(%d, %v, %d) is %v, %v, not %v", f, a, e, got, ok, want)
	}
}

func checkInto(t *testing.T, f int, a []int, b []int, want []int) {
	t.Helper()
	if got, ok := impl.SeriesInto(f, a, b); !ok || !slices.Equal(got, want) {
		t.Errorf("SeriesInto(%d, %v, %v) is %v, %v, not %v", f, a, b, got, ok, want)
	}
}

// done returns the list of a call that must not be refused.
func done(t *testing.T, list []int, ok bool) []int {
	t.Helper()
	if !ok {
		t.Fatalf("a series is refused; beside false is %v", list)
	}
	return list
}

func TestSeriesExamples(t *testing.T) {
	if got := impl.SeriesMul(0, []int{1, 1, 0}, []int{1, 1, 0}); !slices.Equal(got, []int{1, 2, 1}) {
		t.Errorf("SeriesMul is %v", got)
	}
	if got := impl.SeriesDiff(0, []int{1, 2, 3}); !slices.Equal(got, []int{2, 6, 0}) {
		t.Errorf("SeriesDiff is %v", got)
	}
	checkSeries(t, "SeriesInv", 0, []int{1, 16, 0}, []int{1, 1, 1}, impl.SeriesInv)
	checkSeries(t, "SeriesSum", 0, []int{2, 6, 0}, []int{0, 2, 3}, impl.SeriesSum)
	checkSeries(t, "SeriesLog", 0, []int{1, 16, 0}, []int{0, 16, 8}, impl.SeriesLog)
	checkSeries(t, "SeriesExp", 0, []int{0, 1, 0}, []int{1, 1, 9}, impl.SeriesExp)
	checkPow(t, 0, []int{1, 1, 0}, -1, []int{1, 16, 1})
	checkSeries(t, "SeriesSqrt", 0, []int{1, 2, 1}, []int{1, 1, 0}, impl.SeriesSqrt)
	checkInto(t, 0, []int{1, 1, 1}, []int{0, 2, 0}, []int{1, 2, 4})
	checkSeries(t, "Newton", 0, []int{5, 6}, []int{5, 13}, impl.Newton)
	if impl.MaxSeries != 64 {
		t.Errorf("MaxSeries is %d", impl.MaxSeries)
	}
}

func TestSeriesOk(t *testing.T) {
	for f, field := range fields {
		for n := range 200 {
			for _, list := range [][]int{make([]int, n), equalElements(n, field.p-1), someVector(field.p, n, 1)} {
				if got := impl.SeriesOk(f, list); got != (n >= 1 && n <= 64) {
					t.Errorf("SeriesOk in field %d of %d elements is %v", f, n, got)
				}
			}
		}
		for _, x := range samples(f) {
			if !impl.SeriesOk(f, []int{x}) || !impl.SeriesOk(f, []int{0, x, 0}) {
				t.Errorf("SeriesOk in field %d refuses %d", f, x)
			}
		}
	}
}

func TestSeriesMul(t *testing.T) {
	eachTwo(func(f int, a []int, b []int) {
		if got, want := impl.SeriesMul(f, a, b), cutOf(fields[f].p, a, b); !slices.Equal(got, want) {
			t.Errorf("SeriesMul(%d, %v, %v) is %v, not %v", f, a, b, got, want)
		}
	})
	for f, field := range fields {
		for n := 1; n <= 64; n++ {
			a := someVector(field.p, n, 5)
			if got := impl.SeriesMul(f, a, unit(n, 0, 1)); !slices.Equal(got, a) {
				t.Errorf("field %d: %v times 1 is %v", f, a, got)
			}
			if got, want := impl.SeriesMul(f, unit(n, n-1, 1), a), unit(n, n-1, a[0]); !slices.Equal(got, want) {
				t.Errorf("field %d: the last power of x times %v is %v", f, a, got)
			}
		}
	}
}

// What the series are of two polynomials, their product is of the product.
func TestSeriesMulIsAPolynomialCut(t *testing.T) {
	eachTwo(func(f int, a []int, b []int) {
		product, ok := impl.MulPoly(f, impl.Trim(f, a), impl.Trim(f, b))
		if got := impl.SeriesMul(f, a, b); !ok || !slices.Equal(got, ofLength(product, len(a))) {
			t.Errorf("SeriesMul(%d, %v, %v) is %v, MulPoly is %v, %v", f, a, b, got, product, ok)
		}
	})
}

func TestSeriesInv(t *testing.T) {
	check := func(f int, a []int) {
		checkSeries(t, "SeriesInv", f, a, inverseOf(fields[f].p, a), impl.SeriesInv)
		inverse, _ := impl.SeriesInv(f, a)
		if got := impl.SeriesMul(f, a, inverse); !slices.Equal(got, unit(len(a), 0, 1)) {
			t.Errorf("field %d: %v times its inverse %v is %v", f, a, inverse, got)
		}
		checkSeries(t, "SeriesInv", f, inverse, a, impl.SeriesInv)
	}
	eachUnit(check)
	for x := 1; x < 17; x++ {
		eachShort(x, check)
	}
	for f := range fields {
		for _, x := range samples(f) {
			if x != 0 {
				check(f, []int{x})
				check(f, []int{x, 1, 0, 3})
			}
		}
	}
}

// 1 / (1 - x - x^2) has the Fibonacci numbers.
func TestSeriesInvOfFibonacci(t *testing.T) {
	for f, field := range fields {
		for n := 3; n <= 64; n++ {
			want := []int{1, 1}
			for i := 2; i < n; i++ {
				want = append(want, (want[i-1]+want[i-2])%field.p)
			}
			checkSeries(t, "SeriesInv", f, ofLength([]int{1, field.p - 1, field.p - 1}, n), want, impl.SeriesInv)
		}
	}
}

func TestSeriesDiff(t *testing.T) {
	eachSeries(func(f int, a []int) {
		p := fields[f].p
		got := impl.SeriesDiff(f, a)
		if want := slopeOf(p, a); !slices.Equal(got, want) {
			t.Errorf("SeriesDiff(%d, %v) is %v, not %v", f, a, got, want)
		}
		if want := impl.Derivative(f, impl.Trim(f, a)); !slices.Equal(got, ofLength(want, len(a))) {
			t.Errorf("SeriesDiff(%d, %v) is %v, Derivative is %v", f, a, got, want)
		}
	})
	for n := 18; n <= 64; n++ {
		if got := impl.SeriesDiff(0, unit(n, 17, 5)); !slices.Equal(got, make([]int, n)) {
			t.Errorf("the derivative of 5·x^17 modulo 17 is %v", got)
		}
	}
}

func TestSeriesSum(t *testing.T) {
	eachSeries(func(f int, a []int) {
		if !hasIntegrals(f, len(a)) {
			return
		}
		p, n := fields[f].p, len(a)
		checkSeries(t, "SeriesSum", f, a, integralOf(p, a), impl.SeriesSum)
		sum, _ := impl.SeriesSum(f, a)
		if got, want := impl.SeriesDiff(f, sum), ofLength(a[:n-1], n); !slices.Equal(got, want) {
			t.Errorf("field %d: the derivative of the integral of %v is %v", f, a, got)
		}
		checkSeries(t, "SeriesSum", f, impl.SeriesDiff(f, a), startingWith(a, 0), impl.SeriesSum)
	})
}

// Each inverse of an index is that of chapter 1.
func TestSeriesSumOfOnes(t *testing.T) {
	for f := range fields {
		for n := 1; n <= 64 && hasIntegrals(f, n); n++ {
			sum, ok := impl.SeriesSum(f, equalElements(n, 1))
			if !ok || len(sum) != n || sum[0] != 0 {
				t.Errorf("SeriesSum in field %d of %d ones is %v, %v", f, n, sum, ok)
				continue
			}
			for i := 1; i < n; i++ {
				if sum[i] != impl.Inverse(f, i) {
					t.Errorf("SeriesSum in field %d of %d ones is %v", f, n, sum)
				}
			}
		}
	}
}

func TestSeriesLog(t *testing.T) {
	check := func(f int, a []int) {
		if !hasIntegrals(f, len(a)) {
			return
		}
		p := fields[f].p
		checkSeries(t, "SeriesLog", f, a, logOf(p, a), impl.SeriesLog)
		checkSeries(t, "SeriesLog", f, a, integralOf(p, cutOf(p, slopeOf(p, a), inverseOf(p, a))), impl.SeriesLog)
		log, ok := impl.SeriesLog(f, a)
		checkSeries(t, "SeriesExp of SeriesLog", f, done(t, log, ok), a, impl.SeriesExp)
	}
	eachStart(1, check)
	eachShort(1, check)
}

func TestSeriesExp(t *testing.T) {
	check := func(f int, a []int) {
		if !hasIntegrals(f, len(a)) {
			return
		}
		p := fields[f].p
		checkSeries(t, "SeriesExp", f, a, expOf(p, a), impl.SeriesExp)
		exp, ok := impl.SeriesExp(f, a)
		checkSeries(t, "SeriesLog of SeriesExp", f, done(t, exp, ok), a, impl.SeriesLog)
	}
	eachStart(0, check)
	eachShort(0, check)
}

// Every length that a field allows, and the refusal from P + 1 on: that is
// within MaxSeries in field 0 only.
func TestSeriesAboutThePrime(t *testing.T) {
	calls := []struct {
		name  string
		first int
		call  func(int, []int) ([]int, bool)
		model func(int, []int) []int
	}{
		{"SeriesSum", 5, impl.SeriesSum, integralOf},
		{"SeriesLog", 1, impl.SeriesLog, logOf},
		{"SeriesExp", 0, impl.SeriesExp, expOf},
	}
	for f, field := range fields {
		for _, c := range calls {
			for n := 1; n <= 64; n++ {
				for _, list := range someSeries(field.p, n) {
					a := startingWith(list, c.first)
					if hasIntegrals(f, n) {
						checkSeries(t, c.name, f, a, c.model(field.p, a), c.call)
					} else if got, ok := c.call(f, a); ok || got != nil {
						t.Errorf("%s in field %d of %d elements is %v, %v", c.name, f, n, got, ok)
					}
				}
			}
		}
	}
}

// The exponential of c·x has c^i / i!, and the logarithm of 1 + c·x has
// -(-c)^i / i.
func TestKnownSeries(t *testing.T) {
	for f, field := range fields {
		p := field.p
		for n := 2; n <= 64 && hasIntegrals(f, n); n++ {
			for _, c := range []int{0, 1, 2, p - 1, p / 2} {
				exp, log := unit(n, 0, 1), make([]int, n)
				factorial := 1
				for i := 1; i < n; i++ {
					factorial = factorial * i % p
					exp[i] = powerOf(p, c, i) * powerOf(p, factorial, -1) % p
					log[i] = (p - powerOf(p, -c, i)*powerOf(p, i, -1)%p) % p
				}
				checkSeries(t, "SeriesExp", f, unit(n, 1, c), exp, impl.SeriesExp)
				checkSeries(t, "SeriesLog", f, startingWith(unit(n, 1, c), 1), log, impl.SeriesLog)
			}
		}
	}
}

func TestLogOfProductsAndExpOfSums(t *testing.T) {
	eachTwo(func(f int, a []int, b []int) {
		if !hasIntegrals(f, len(a)) {
			return
		}
		p := fields[f].p
		a, b = startingWith(a, 1), startingWith(b, 1)
		left, ok := impl.SeriesLog(f, a)
		right, ok2 := impl.SeriesLog(f, b)
		checkSeries(t, "SeriesLog of a product", f, impl.SeriesMul(f, a, b), sumOf(p, done(t, left, ok), done(t, right, ok2), 1), impl.SeriesLog)
		a, b = startingWith(a, 0), startingWith(b, 0)
		left, ok = impl.SeriesExp(f, a)
		right, ok2 = impl.SeriesExp(f, b)
		checkSeries(t, "SeriesExp of a sum", f, sumOf(p, a, b, 1), impl.SeriesMul(f, done(t, left, ok), done(t, right, ok2)), impl.SeriesExp)
	})
}

// The first powers, each made from the one before.
func TestSeriesPowStepByStep(t *testing.T) {
	eachSeries(func(f int, a []int) {
		p := fields[f].p
		want := unit(len(a), 0, 1)
		for e := range 20 {
			checkPow(t, f, a, e, want)
			want = cutOf(p, want, a)
		}
	})
	eachUnit(func(f int, a []int) {
		p := fields[f].p
		want, inverse := unit(len(a), 0, 1), inverseOf(p, a)
		for e := range 6 {
			checkPow(t, f, a, -e, want)
			want = cutOf(p, want, inverse)
		}
	})
	for x := range 17 {
		eachShort(x, func(f int, a []int) {
			for _, e := range []int{0, 1, 2, 3, 16, 17, 18} {
				checkPow(t, f, a, e, raisedOf(17, a, e))
			}
		})
	}
}

func TestSeriesPowOfGreatExponents(t *testing.T) {
	exponents := []int{100, 289, 65535, 999999, impl.MaxExp}
	eachSeries(func(f int, a []int) {
		for _, e := range exponents {
			checkPow(t, f, a, e, raisedOf(fields[f].p, a, e))
		}
	})
	for f, field := range fields {
		for _, n := range seriesLengths {
			for _, x := range []int{1, 2, field.p - 1} {
				a := startingWith(someVector(field.p, n, 6), x)
				for _, e := range exponents {
					checkPow(t, f, a, -e, raisedOf(field.p, a, -e))
				}
			}
		}
	}
}

// A power of 1 + x has the binomial coefficients, whatever the exponent.
func TestSeriesPowOfBinomials(t *testing.T) {
	for f, field := range fields {
		for _, n := range []int{2, 3, 16, 17, 18, 64} {
			for _, e := range []int{0, 1, 2, 5, 16, 17, 18, 97, 1000, 999999, impl.MaxExp} {
				above, below := make([]int, n), make([]int, n)
				for i := range n {
					above[i] = element(field.p, new(big.Int).Binomial(int64(e), int64(i)))
					below[i] = element(field.p, new(big.Int).Binomial(int64(e+i-1), int64(i)))
					if i%2 == 1 {
						below[i] = (field.p - below[i]) % field.p
					}
				}
				if e == 0 {
					below = unit(n, 0, 1)
				}
				a := ofLength([]int{1, 1}, n)
				checkPow(t, f, a, e, above)
				checkPow(t, f, a, -e, below)
			}
		}
	}
}

// The power P of a series puts x^P in for x.
func TestSeriesPowOfThePrime(t *testing.T) {
	for f := range smallFields {
		p := fields[f].p
		for _, n := range seriesLengths {
			for _, a := range someSeries(p, n) {
				want := make([]int, n)
				for i := 0; i*p < n; i++ {
					want[i*p] = a[i]
				}
				checkPow(t, f, a, p, want)
			}
		}
	}
}

func TestSeriesPowWithoutAndWithOne(t *testing.T) {
	eachSeries(func(f int, a []int) {
		checkPow(t, f, a, 0, unit(len(a), 0, 1))
		checkPow(t, f, startingWith(a, 0), 0, unit(len(a), 0, 1))
		checkPow(t, f, a, 1, a)
		checkPow(t, f, a, 2, impl.SeriesMul(f, a, a))
	})
	eachUnit(func(f int, a []int) {
		inverse, ok := impl.SeriesInv(f, a)
		checkPow(t, f, a, -1, done(t, inverse, ok))
		checkPow(t, f, a, -2, impl.SeriesMul(f, inverse, inverse))
	})
}

// A series whose first element other than 0 is at index k leaves nothing if
// e·k is at least n.
func TestSeriesPowThatLeavesNothing(t *testing.T) {
	for f, field := range fields {
		for _, n := range seriesLengths {
			for k := 1; k < n; k++ {
				a := append(make([]int, k), someVector(field.p, n-k, 7)...)
				a[k] = field.p - 1
				last := (n - 1) / k
				want := make([]int, n)
				copy(want[last*k:], raisedOf(field.p, a[k:], last))
				checkPow(t, f, a, last, want)
				for _, e := range []int{last + 1, last + 2, n, 64, 65, 4096, impl.MaxExp} {
					if e > last {
						checkPow(t, f, a, e, make([]int, n))
					}
				}
			}
			for _, e := range []int{1, 2, 3, 64, impl.MaxExp} {
				checkPow(t, f, make([]int, n), e, make([]int, n))
			}
		}
	}
}

func TestLawsOfExponents(t *testing.T) {
	exponents := []int{0, 1, -1, 2, -2, 3, -17, 300, -999, 499999, -500000}
	for f, field := range fields {
		for _, n := range []int{1, 2, 3, 17, 18, 33, 64} {
			a := startingWith(someVector(field.p, n, 8), 1+n%3)
			b := startingWith(someVector(field.p, n, 9), field.p-1)
			for _, d := range exponents {
				left, ok := impl.SeriesPow(f, a, d)
				done(t, left, ok)
				other, ok := impl.SeriesPow(f, b, d)
				checkPow(t, f, impl.SeriesMul(f, a, b), d, impl.SeriesMul(f, left, done(t, other, ok)))
				for _, e := range exponents {
					right, ok := impl.SeriesPow(f, a, e)
					checkPow(t, f, a, d+e, impl.SeriesMul(f, left, done(t, right, ok)))
					if d*e >= -impl.MaxExp && d*e <= impl.MaxExp {
						whole, ok := impl.SeriesPow(f, a, d*e)
						checkPow(t, f, left, e, done(t, whole, ok))
					}
				}
			}
		}
	}
}

// The laws without negative exponents hold also for series that start with 0.
func TestLawsOfExponentsFromZero(t *testing.T) {
	exponents := []int{0, 1, 2, 3, 5, 8, 17, 64, 1000}
	for f, field := range fields {
		for _, n := range []int{1, 2, 3, 16, 17, 18, 33, 64} {
			a := startingWith(someVector(field.p, n, 8), 0)
			for _, d := range exponents {
				for _, e := range exponents {
					left, ok := impl.SeriesPow(f, a, d)
					right, ok2 := impl.SeriesPow(f, a, e)
					checkPow(t, f, a, d+e, impl.SeriesMul(f, done(t, left, ok), done(t, right, ok2)))
					whole, ok := impl.SeriesPow(f, a, d*e)
					checkPow(t, f, left, e, done(t, whole, ok))
				}
			}
		}
	}
}

// The logarithm of a^e is e times that of a.
func TestLogOfPowers(t *testing.T) {
	eachStart(1, func(f int, a []int) {
		if !hasIntegrals(f, len(a)) {
			return
		}
		p := fields[f].p
		log, ok := impl.SeriesLog(f, a)
		done(t, log, ok)
		for _, e := range []int{0, 1, -1, 2, -2, 5, 17, 1000, impl.MaxExp, -impl.MaxExp} {
			power, ok := impl.SeriesPow(f, a, e)
			want := sumOf(p, make([]int, len(a)), log, element(p, large(e)))
			checkSeries(t, "SeriesLog of a power", f, done(t, power, ok), want, impl.SeriesLog)
		}
	})
}

func TestSeriesSqrt(t *testing.T) {
	check := func(f int, a []int) {
		p, n := fields[f].p, len(a)
		root, ok := impl.SeriesSqrt(f, a)
		if done(t, root, ok); len(root) != n || root[0] != 1 || !slices.Equal(cutOf(p, root, root), a) {
			t.Errorf("SeriesSqrt(%d, %v) is %v", f, a, root)
		}
		checkSeries(t, "SeriesSqrt of a square", f, cutOf(p, a, a), a, impl.SeriesSqrt)
		if hasIntegrals(f, n) {
			half := sumOf(p, make([]int, n), logOf(p, a), (p+1)/2)
			checkSeries(t, "SeriesSqrt", f, a, expOf(p, half), impl.SeriesSqrt)
		}
	}
	eachStart(1, check)
	eachShort(1, check)
	for f := range fields {
		for n := 1; n <= 64; n++ {
			checkSeries(t, "SeriesSqrt", f, unit(n, 0, 1), unit(n, 0, 1), impl.SeriesSqrt)
		}
	}
}

// The root of 1 - 4x is 1 - 2x·c, where c has the Catalan numbers.
func TestSeriesSqrtOfCatalan(t *testing.T) {
	for f, field := range fields {
		for n := 2; n <= 64; n++ {
			want := unit(n, 0, 1)
			for i := 1; i < n; i++ {
				catalan := new(big.Int).Binomial(int64(2*i-2), int64(i-1))
				catalan.Div(catalan, large(i))
				want[i] = element(field.p, catalan.Mul(catalan, large(-2)))
			}
			checkSeries(t, "SeriesSqrt", f, ofLength([]int{1, field.p - 4}, n), want, impl.SeriesSqrt)
		}
	}
}

func TestSeriesInto(t *testing.T) {
	eachTwo(func(f int, a []int, b []int) {
		b = startingWith(b, 0)
		checkInto(t, f, a, b, intoOf(fields[f].p, a, b))
	})
	for f, field := range fields {
		for n := 1; n <= 64; n++ {
			a := someVector(field.p, n, 10)
			checkInto(t, f, a, make([]int, n), unit(n, 0, a[0]))
			for _, c := range []int{1, 2, field.p - 1} {
				inner, want := make([]int, n), make([]int, n)
				for i, x := range a {
					want[i] = x * powerOf(field.p, c, i) % field.p
				}
				if n > 1 {
					inner[1] = c
				}
				checkInto(t, f, a, inner, want)
			}
		}
	}
}

func TestSeriesIntoIsACompositionCut(t *testing.T) {
	for f, field := range fields {
		for _, n := range []int{1, 2, 3, 8, 16, 17, 18, 20} {
			for _, a := range someSeries(field.p, n) {
				for _, b := range someSeries(field.p, n) {
					inner := startingWith(b, 0)
					composed, ok := impl.Compose(f, impl.Trim(f, a), impl.Trim(f, inner))
					checkInto(t, f, a, inner, ofLength(done(t, composed, ok), n))
				}
			}
		}
	}
}

// Substitution is associative and goes through products.
func TestLawsOfSeriesInto(t *testing.T) {
	for f, field := range fields {
		for _, n := range seriesLengths {
			list := someSeries(field.p, n)
			for i, a := range list {
				b := startingWith(list[(i+1)%len(list)], 0)
				c := startingWith(list[(i+4)%len(list)], 0)
				outer, ok := impl.SeriesInto(f, a, b)
				inner, ok2 := impl.SeriesInto(f, b, c)
				twice, ok3 := impl.SeriesInto(f, done(t, outer, ok), c)
				checkInto(t, f, a, done(t, inner, ok2), done(t, twice, ok3))
				checkInto(t, f, impl.SeriesMul(f, a, a), b, impl.SeriesMul(f, outer, outer))
			}
		}
	}
}

// The exponential is what the series of 1 / i! gives with another put in.
func TestSeriesExpIsASeriesInto(t *testing.T) {
	eachStart(0, func(f int, a []int) {
		if n := len(a); hasIntegrals(f, n) {
			exp, ok := impl.SeriesExp(f, ofLength([]int{0, 1}, n))
			want, ok2 := impl.SeriesExp(f, a)
			checkInto(t, f, done(t, exp, ok), a, done(t, want, ok2))
		}
	})
}

func TestNewton(t *testing.T) {
	for f, field := range fields {
		for m := 1; m <= 64; m++ {
			for _, list := range someSeries(field.p, m) {
				checkSeries(t, "Newton", f, list, newtonOf(field.p, list), impl.Newton)
			}
		}
	}
}

// The numbers whose sums are converted: arbitrary ones, equal ones, zeros, and
// every element in turn.
func TestNewtonOfNumbers(t *testing.T) {
	for f, field := range fields {
		for m := 1; m <= 64; m++ {
			turn := make([]int, m)
			for i := range turn {
				turn[i] = i % field.p
			}
			for _, r := range [][]int{someVector(field.p, m, 11), equalElements(m, 1), equalElements(m, field.p-1), make([]int, m), unit(m, m/2, 3), turn} {
				checkSeries(t, "Newton", f, elementaryOf(field.p, r), powerSumsOf(field.p, r), impl.Newton)
			}
		}
	}
	checkSeries(t, "Newton of 2, 3 and 4", 6, []int{9, 26, 24}, []int{9, 29, 99}, impl.Newton)
	for f := range fields {
		for _, x := range samples(f) {
			checkSeries(t, "Newton", f, []int{x}, []int{x}, impl.Newton)
		}
	}
}

// anyStart stands for a first element that may be any.
const anyStart = -1

// seriesCalls are the functions of the chapter with one series or two, as in
// polyCalls, and the elements with which these must start.
var seriesCalls = []struct {
	name          string
	places        int
	first, second int
	integrals     bool
	call          func(f int, a []int, b []int) ([][]int, int)
}{
	{"SeriesOk", 1, anyStart, anyStart, false, func(f int, a []int, b []int) ([][]int, int) { return nil, asNumber(impl.SeriesOk(f, a)) }},
	{"SeriesMul", 2, anyStart, anyStart, false, func(f int, a []int, b []int) ([][]int, int) { return [][]int{impl.SeriesMul(f, a, b)}, 0 }},
	{"SeriesInv", 1, 3, anyStart, false, seriesCall(impl.SeriesInv)},
	{"SeriesDiff", 1, anyStart, anyStart, false, func(f int, a []int, b []int) ([][]int, int) { return [][]int{impl.SeriesDiff(f, a)}, 0 }},
	{"SeriesSum", 1, anyStart, anyStart, true, seriesCall(impl.SeriesSum)},
	{"SeriesLog", 1, 1, anyStart, true, seriesCall(impl.SeriesLog)},
	{"SeriesExp", 1, 0, anyStart, true, seriesCall(impl.SeriesExp)},
	{"SeriesPow with 0", 1, anyStart, anyStart, false, powCall(0)},
	{"SeriesPow with 1", 1, anyStart, anyStart, false, powCall(1)},
	{"SeriesPow with -1", 1, 2, anyStart, false, powCall(-1)},
	{"SeriesPow with 5", 1, anyStart, anyStart, false, powCall(5)},
	{"SeriesPow with -MaxExp", 1, 2, anyStart, false, powCall(-impl.MaxExp)},
	{"SeriesSqrt", 1, 1, anyStart, false, seriesCall(impl.SeriesSqrt)},
	{"SeriesInto", 2, anyStart, 0, false, func(f int, a []int, b []int) ([][]int, int) {
		list, ok := impl.SeriesInto(f, a, b)
		return [][]int{list}, asNumber(ok)
	}},
	{"Newton", 1, anyStart, anyStart, false, seriesCall(impl.Newton)},
}

func seriesCall(call func(int, []int) ([]int, bool)) func(int, []int, []int) ([][]int, int) {
	return func(f int, a []int, b []int) ([][]int, int) {
		list, ok := call(f, a)
		return [][]int{list}, asNumber(ok)
	}
}

func powCall(e int) func(int, []int, []int) ([][]int, int) {
	return seriesCall(func(f int, a []int) ([]int, bool) { return impl.SeriesPow(f, a, e) })
}

// begun gives the series the first element that a call asks for, if it has
// any elements.
func begun(a []int, first int) []int {
	if first == anyStart || len(a) == 0 {
		return a
	}
	return startingWith(a, first)
}

// noSeries returns lists that have no element or too many, or one that is not
// one, in each place of some of them, and starts as a call asks for.
func noSeries(p int, first int) [][]int {
	list := [][]int{nil, {}}
	for _, n := range []int{65, 66, 100, 128, 400, 4096, 5000} {
		list = append(list, begun(make([]int, n), first), begun(someVector(p, n, 12), first), begun(equalElements(n, 1), first))
	}
	outside := []int{p, p + 1, 2 * p, p * p, -1, -2, -p, 1 - p, 1 << 32, 1<<32 + 1, math.MaxInt, math.MinInt, math.MinInt + 1, math.MinInt / p * p, math.MaxInt/p*p + 1}
	for _, n := range []int{1, 2, 3, 17, 64} {
		right := begun(someVector(p, n, 12), first)
		for _, x := range outside {
			for index := range n {
				wrong := slices.Clone(right)
				wrong[index] = x
				list = append(list, wrong)
			}
		}
	}
	return list
}

func TestListsThatAreNoSeries(t *testing.T) {
	for f, field := range fields {
		for _, c := range seriesCalls {
			for _, wrong := range noSeries(field.p, c.first) {
				for _, b := range [][]int{nil, {1}, begun(make([]int, len(wrong)), c.second), wrong} {
					checkRefused(t, c.name, 0, f, wrong, b, c.call)
				}
			}
			if c.places < 2 {
				continue
			}
			for _, wrong := range noSeries(field.p, c.second) {
				for _, a := range [][]int{nil, {1}, make([]int, len(wrong)), equalElements(len(wrong), 1)} {
					checkRefused(t, c.name, 0, f, a, wrong, c.call)
				}
			}
		}
	}
}

func TestSeriesOfNoField(t *testing.T) {
	for _, f := range noFields {
		for _, c := range seriesCalls {
			for _, n := range []int{0, 1, 2, 3, 16, 17, 64, 65} {
				for _, list := range [][]int{make([]int, n), equalElements(n, 1), equalElements(n, -1), equalElements(n, 20)} {
					checkRefused(t, c.name, 0, f, begun(list, c.first), begun(list, c.second), c.call)
				}
			}
			checkRefused(t, c.name, 0, f, nil, nil, c.call)
		}
	}
}

func TestSeriesOfDifferentLengths(t *testing.T) {
	for f, field := range fields {
		for _, c := range seriesCalls {
			for _, n := range seriesLengths {
				for _, m := range seriesLengths {
					if n != m && c.places > 1 {
						checkRefused(t, c.name, 0, f, someVector(field.p, n, 1), begun(someVector(field.p, m, 2), c.second), c.call)
						checkRefused(t, c.name, 0, f, make([]int, n), make([]int, m), c.call)
					}
				}
			}
		}
	}
}

// Every other first element is refused, whatever follows it.
func TestSeriesThatStartOtherwise(t *testing.T) {
	for f, field := range fields {
		for _, x := range samples(f) {
			for _, n := range []int{1, 2, 3, 16, 17, 18, 64} {
				a := startingWith(someVector(field.p, n, 13), x)
				if x != 0 {
					checkRefused(t, "SeriesExp", 0, f, a, nil, seriesCall(impl.SeriesExp))
					list, ok := impl.SeriesInto(f, someVector(field.p, n, 14), a)
					if ok || list != nil {
						t.Errorf("SeriesInto in field %d with %v put in is %v, %v", f, a, list, ok)
					}
				}
				if x != 1 {
					checkRefused(t, "SeriesLog", 0, f, a, nil, seriesCall(impl.SeriesLog))
					checkRefused(t, "SeriesSqrt", 0, f, a, nil, seriesCall(impl.SeriesSqrt))
				}
			}
		}
	}
	eachStart(0, func(f int, a []int) {
		checkRefused(t, "SeriesInv", 0, f, a, nil, seriesCall(impl.SeriesInv))
		for _, e := range []int{-1, -2, -3, -17, -64, -1000, 1 - impl.MaxExp, -impl.MaxExp} {
			checkRefused(t, "SeriesPow of a series that starts with 0", 0, f, a, nil, powCall(e))
		}
	})
}

func TestSeriesPowOfOtherExponents(t *testing.T) {
	for _, e := range []int{
		impl.MaxExp + 1, -impl.MaxExp - 1, impl.MaxExp + 2, 2 * impl.MaxExp, -2 * impl.MaxExp, 1 << 32, 1<<32 + 1, -1 << 32, 1 << 62,
		math.MaxInt, math.MaxInt - 1, math.MinInt, math.MinInt + 1,
	} {
		eachSeries(func(f int, a []int) {
			checkRefused(t, "SeriesPow", 0, f, a, nil, powCall(e))
			checkRefused(t, "SeriesPow", 0, f, startingWith(a, 1), nil, powCall(e))
		})
	}
}

func TestSeriesShareNoMemory(t *testing.T) {
	for f, field := range fields {
		for _, c := range seriesCalls {
			for _, n := range seriesLengths {
				if c.integrals && !hasIntegrals(f, n) {
					continue
				}
				list := someSeries(field.p, n)
				for i := range list {
					checkMemory(t, c.name, f, begun(list[i], c.first), begun(list[(i+1)%len(list)], c.second), c.call)
				}
			}
		}
		// One list may be both: then both start with 0.
		for _, n := range seriesLengths {
			a := startingWith(someVector(field.p, n, 15), 0)
			want := slices.Clone(a)
			checkInto(t, f, a, a, intoOf(field.p, want, want))
			if !slices.Equal(a, want) {
				t.Errorf("SeriesInto in field %d changes %v", f, want)
			}
		}
	}
}

// A result stays as it is when the same call is made again: nothing is kept.
func TestSeriesAreNewEachTime(t *testing.T) {
	for f, field := range fields {
		for _, c := range seriesCalls {
			for _, n := range []int{1, 2, 3, 16, 17, 64} {
				if c.integrals && !hasIntegrals(f, n) {
					continue
				}
				a, b := begun(someVector(field.p, n, 16), c.first), begun(someVector(field.p, n, 17), c.second)
				first, ok := c.call(f, a, b)
				for i, list := range first {
					kept := slices.Clone(list)
					for j := range list {
						list[j] = -1
					}
					second, ok2 := c.call(f, a, b)
					if ok2 != ok || len(kept) != n || !slices.Equal(second[i], kept) {
						t.Errorf("%s in field %d with %d elements is kept", c.name, f, n)
					}
					checkApart(t, c.name, second[i], list)
				}
			}
		}
	}
}
