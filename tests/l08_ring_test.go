package tests

import (
	"math"
	"math/big"
	"math/bits"
	"slices"
	"testing"

	"loop.example/g00710/impl"
)

// longestSplitting are the greatest lengths of a splitting vector, by field.
var longestSplitting = []int{8, 16, 32, 128, 256, 512, 512, 512, 512}

// splittingLengths returns the lengths of the splitting vectors of field f.
func splittingLengths(f int) []int {
	return permuted[:slices.Index(permuted, longestSplitting[f])+1]
}

// eachSplitting calls check for splitting vectors of every length of every
// field.
func eachSplitting(check func(f int, v []int)) {
	eachVector(func(f int, v []int) {
		if len(v) <= longestSplitting[f] {
			check(f, v)
		}
	})
}

func eachSplittingPair(check func(f int, a []int, b []int)) {
	eachPair(func(f int, a []int, b []int) {
		if len(a) <= longestSplitting[f] {
			check(f, a, b)
		}
	})
}

// oddPowers returns the z^(2i+1) for vectors of n elements, worked out from the
// generator.
func oddPowers(f int, n int) []int {
	p := fields[f].p
	z := powerOf(p, fields[f].g, (p-1)/(2*n))
	list := []int{z}
	for len(list) < n {
		list = append(list, list[len(list)-1]*z%p*z%p)
	}
	return list
}

func oddValuesOf(f int, v []int) []int {
	return valuesOf(fields[f].p, v, oddPowers(f, len(v)))
}

// oddBackOf divides by n, at each index j, the sum of the values times
// z^(-(2i+1)·j). As z^(2n) is 1, backwards the odd powers are their inverses.
func oddBackOf(f int, values []int) []int {
	p, n := fields[f].p, len(values)
	inverses := oddPowers(f, n)
	slices.Reverse(inverses)
	share := powerOf(p, n, -1)
	out, terms := make([]int, n), slices.Clone(values)
	for j := range out {
		for i, x := range terms {
			out[j] = (out[j] + x*share) % p
			terms[i] = x * inverses[i] % p
		}
	}
	return out
}

func productOf(p int, list []int) int {
	product := 1
	for _, x := range list {
		product = product * x % p
	}
	return product
}

func ringProductOf(p int, a []int, b []int) []int { return convolvedOf(p, a, b, -1) }

// repeatedOf multiplies e times by v.
func repeatedOf(p int, v []int, e int) []int {
	out := unit(len(v), 0, 1)
	for range e {
		out = ringProductOf(p, out, v)
	}
	return out
}

// greatPowerOf goes down the binary digits of e.
func greatPowerOf(p int, v []int, e int) []int {
	out := unit(len(v), 0, 1)
	for i := bits.Len(uint(e)) - 1; i >= 0; i-- {
		out = ringProductOf(p, out, out)
		if e>>i&1 == 1 {
			out = ringProductOf(p, out, v)
		}
	}
	return out
}

func automorphOf(p int, v []int, g int) []int {
	n := len(v)
	step := element(2*n, large(g))
	out := make([]int, n)
	for i, x := range v {
		if place := i * step % (2 * n); place < n {
			out[place] = x
		} else {
			out[place-n] = (p - x) % p
		}
	}
	return out
}

// oddExponents returns odd integers of any size and sign.
func oddExponents(n int) []int {
	list := []int{
		1, -1, 3, -3, 5, -7, n/2 | 1, -n | 1, 2*n - 1, 2*n + 1, 1 - 2*n, -2*n - 1, 2*n + 3, 4*n - 1, -4*n + 1, 1000001, -1000001,
		1<<32 + 1, 1<<32 - 3, -1<<32 + 1, 1<<62 + 1, -1<<62 - 1, math.MaxInt, math.MaxInt - 2, math.MinInt + 1, math.MinInt + 3,
	}
	source := numbers(n)
	for range 10 {
		list = append(list, source.next()|1)
	}
	return list
}

func evenExponents(n int) []int {
	list := []int{
		0, 2, -2, 4, -4, 6, 2 * n, -2 * n, 2*n + 2, 2*n - 2, 1000000, -1000000,
		1 << 32, -1 << 32, 1 << 62, -1 << 62, math.MaxInt - 1, math.MinInt, math.MinInt + 2,
	}
	source := numbers(n)
	for range 10 {
		list = append(list, source.next()&^1)
	}
	return list
}

// signedOf returns the integer of smallest absolute value congruent to x.
func signedOf(p int, x int) int {
	if 2*x > p {
		return x - p
	}
	return x
}

func checkRingPower(t *testing.T, f int, v []int, e int, want []int) {
	t.Helper()
	if got, ok := impl.RingPower(f, v, e); !ok || !slices.Equal(got, want) {
		t.Errorf("RingPower(%d, %v, %d) is %v, %v, not %v", f, v, e, got, ok, want)
	}
}

func checkNoRingPower(t *testing.T, f int, v []int, e int) {
	t.Helper()
	if got, ok := impl.RingPower(f, v, e); ok || got != nil {
		t.Errorf("RingPower(%d, %v, %d) is %v, %v", f, v, e, got, ok)
	}
}

func checkAutomorph(t *testing.T, f int, v []int, g int, want []int) {
	t.Helper()
	if got := impl.Automorph(f, v, g); !slices.Equal(got, want) {
		t.Errorf("Automorph(%d, %v, %d) is %v, not %v", f, v, g, got, want)
	}
}

func checkOddValues(t *testing.T, f int, v []int, want []int) {
	t.Helper()
	if got := impl.OddValues(f, v); !slices.Equal(got, want) {
		t.Errorf("OddValues(%d, %v) is %v, not %v", f, v, got, want)
	}
}

func checkOddBack(t *testing.T, f int, v []int, want []int) {
	t.Helper()
	if got := impl.OddBack(f, v); !slices.Equal(got, want) {
		t.Errorf("OddBack(%d, %v) is %v, not %v", f, v, got, want)
	}
}

func checkNorm(t *testing.T, f int, v []int, want int) {
	t.Helper()
	if got := impl.Norm(f, v); got != want {
		t.Errorf("Norm(%d, %v) is %d, not %d", f, v, got, want)
	}
}

func checkRingInverse(t *testing.T, f int, v []int, want []int) {
	t.Helper()
	if got, ok := impl.RingInverse(f, v); !ok || !slices.Equal(got, want) {
		t.Errorf("RingInverse(%d, %v) is %v, %v, not %v", f, v, got, ok, want)
	}
}

func checkNoRingInverse(t *testing.T, f int, v []int) {
	t.Helper()
	if got, ok := impl.RingInverse(f, v); ok || got != nil {
		t.Errorf("RingInverse(%d, %v) is %v, %v", f, v, got, ok)
	}
}

func checkTrace(t *testing.T, f int, v []int, want []int) {
	t.Helper()
	if got := impl.Trace(f, v); !slices.Equal(got, want) {
		t.Errorf("Trace(%d, %v) is %v, not %v", f, v, got, want)
	}
}

// checkParts holds every element against its digits: no other digits below the
// base add up to it.
func checkParts(t *testing.T, f int, v []int, base int, count int) {
	t.Helper()
	parts, ok := impl.DigitParts(f, v, base, count)
	if !ok || len(parts) != count {
		t.Fatalf("DigitParts(%d, %v, %d, %d) has %d parts, %v", f, v, base, count, len(parts), ok)
	}
	for d, part := range parts {
		if len(part) != len(v) {
			t.Fatalf("DigitParts(%d, %v, %d, %d) has %v in part %d", f, v, base, count, part, d)
		}
	}
	for i, x := range v {
		sum := new(big.Int)
		for d := count - 1; d >= 0; d-- {
			digit := parts[d][i]
			if digit < 0 || digit >= base {
				t.Fatalf("DigitParts(%d, %v, %d, %d) has the digit %d of %d", f, v, base, count, digit, x)
			}
			sum.Add(sum.Mul(sum, large(base)), large(digit))
		}
		if sum.Cmp(large(x)) != 0 {
			t.Fatalf("DigitParts(%d, %v, %d, %d) has digits of %v instead of %d", f, v, base, count, sum, x)
		}
	}
	checkRejoined(t, f, parts, base, v)
}

func checkNoParts(t *testing.T, f int, v []int, base int, count int) {
	t.Helper()
	if parts, ok := impl.DigitParts(f, v, base, count); ok || parts != nil {
		t.Errorf("DigitParts(%d, %v, %d, %d) is %v, %v", f, v, base, count, parts, ok)
	}
}

// rejoinedOf adds up in numbers of any size.
func rejoinedOf(p int, parts [][]int, base int) []int {
	out := make([]int, len(parts[0]))
	for i := range out {
		sum, power := new(big.Int), large(1)
		for _, part := range parts {
			sum.Add(sum, new(big.Int).Mul(power, large(part[i])))
			power.Mul(power, large(base))
		}
		out[i] = element(p, sum)
	}
	return out
}

func checkRejoined(t *testing.T, f int, parts [][]int, base int, want []int) {
	t.Helper()
	if got, ok := impl.Rejoin(f, parts, base); !ok || !slices.Equal(got, want) {
		t.Errorf("Rejoin(%d, %v, %d) is %v, %v, not %v", f, parts, base, got, ok, want)
	}
}

func checkNotRejoined(t *testing.T, f int, parts [][]int, base int) {
	t.Helper()
	if got, ok := impl.Rejoin(f, parts, base); ok || got != nil {
		t.Errorf("Rejoin(%d, %v, %d) is %v, %v", f, parts, base, got, ok)
	}
}

// checkRescaled looks half a step down and up from each result: e / by is not
// below the one and is below the other.
func checkRescaled(t *testing.T, f int, v []int, by int) {
	t.Helper()
	p := fields[f].p
	got, ok := impl.Rescale(f, v, by)
	if !ok || len(got) != len(v) {
		t.Fatalf("Rescale(%d, %v, %d) is %v, %v", f, v, by, got, ok)
	}
	for i, x := range v {
		e, q := signedOf(p, x), signedOf(p, got[i])
		if got[i] < 0 || got[i] >= p || 2*e < (2*q-1)*by || 2*e >= (2*q+1)*by {
			t.Fatalf("Rescale(%d, %v, %d) is %v: %d becomes %d", f, v, by, got, e, q)
		}
	}
}

func checkNotRescaled(t *testing.T, f int, v []int, by int) {
	t.Helper()
	if got, ok := impl.Rescale(f, v, by); ok || got != nil {
		t.Errorf("Rescale(%d, %v, %d) is %v, %v", f, v, by, got, ok)
	}
}

func TestRingExamples(t *testing.T) {
	if got := impl.RingOne(0, 2); !slices.Equal(got, []int{1, 0}) {
		t.Errorf("RingOne(0, 2) is %v", got)
	}
	checkRingPower(t, 0, []int{0, 1}, 2, []int{16, 0})
	checkAutomorph(t, 0, []int{1, 2}, 3, []int{1, 15})
	checkOddValues(t, 0, []int{0, 1}, []int{13, 4})
	checkOddBack(t, 0, []int{13, 4}, []int{0, 1})
	checkRingInverse(t, 0, []int{0, 1}, []int{0, 16})
	checkNorm(t, 0, []int{0, 1}, 1)
	checkTrace(t, 0, []int{3, 5}, []int{6, 0})
	parts, ok := impl.DigitParts(0, []int{5, 16}, 4, 3)
	if !ok || !slices.EqualFunc(parts, [][]int{{1, 0}, {1, 0}, {0, 1}}, slices.Equal) {
		t.Errorf("DigitParts(0, {5, 16}, 4, 3) is %v, %v", parts, ok)
	}
	checkRejoined(t, 0, [][]int{{1, 0}, {1, 0}, {0, 1}}, 4, []int{5, 16})
	if got, ok := impl.Rescale(0, []int{5, 16}, 2); !ok || !slices.Equal(got, []int{3, 0}) {
		t.Errorf("Rescale(0, {5, 16}, 2) is %v, %v", got, ok)
	}
}

// Every length up to more than MaxLog allows, greater powers of 2, negative
// lengths, and lengths for which there is no memory.
func TestRingOne(t *testing.T) {
	lengths := []int{
		1536, 2048, 4096, 1 << 16, 1 << 32, 1<<32 + 1, 1 << 62, math.MaxInt, math.MaxInt - 1,
		-512, -1024, -1 << 32, -1 << 62, math.MinInt, math.MinInt + 1,
	}
	for n := -70; n <= 1100; n++ {
		lengths = append(lengths, n)
	}
	for f := range fields {
		for _, n := range lengths {
			got := impl.RingOne(f, n)
			if slices.Contains(lengthsOf(f), n) {
				if !slices.Equal(got, unit(n, 0, 1)) {
					t.Errorf("RingOne(%d, %d) is %v", f, n, got)
				}
			} else if got != nil {
				t.Errorf("RingOne(%d, %d) is %v", f, n, got)
			}
		}
	}
	for _, f := range noFields {
		for _, n := range lengths {
			if got := impl.RingOne(f, n); got != nil {
				t.Errorf("there is no field %d, but RingOne of length %d is %v", f, n, got)
			}
		}
	}
}

func TestRingOneIsNeutral(t *testing.T) {
	eachVector(func(f int, v []int) {
		one := impl.RingOne(f, len(v))
		if !slices.Equal(impl.Twisted(f, one, v), v) || !slices.Equal(impl.Twisted(f, v, one), v) {
			t.Errorf("field %d: RingOne changes %v", f, v)
		}
	})
}

// Longer vectors are raised to fewer exponents.
func TestRingPowerIsARepeatedProduct(t *testing.T) {
	for f, field := range fields {
		for _, n := range lengthsOf(f) {
			for i, v := range someVectors(field.p, n) {
				want := unit(n, 0, 1)
				for e := range max(1, 40/(1+n/8), 6-i) {
					checkRingPower(t, f, v, e, want)
					want = ringProductOf(field.p, want, v)
				}
			}
		}
	}
}

func TestRingPowerOfGreatExponents(t *testing.T) {
	for f, field := range fields {
		for _, n := range lengthsOf(f) {
			for i, v := range someVectors(field.p, n) {
				if n > 64 && i > 0 {
					break
				}
				for _, e := range []int{impl.MaxExp, impl.MaxExp - 1, 1 << 19, 1<<19 - 1, 65537} {
					if n <= 64 || e == impl.MaxExp {
						checkRingPower(t, f, v, e, greatPowerOf(field.p, v, e))
					}
				}
			}
		}
	}
}

// At the odd powers of z, the values of a power are the powers of the values.
func TestOddValuesOfRingPower(t *testing.T) {
	eachSplitting(func(f int, v []int) {
		if len(v) > 64 {
			return
		}
		for _, e := range []int{0, 1, 2, 7, 999983, impl.MaxExp} {
			got, ok := impl.RingPower(f, v, e)
			if !ok {
				t.Fatalf("RingPower(%d, %v, %d) is %v, %v", f, v, e, got, ok)
			}
			want := oddValuesOf(f, v)
			for i, x := range want {
				want[i] = powerOf(fields[f].p, x, e)
			}
			checkOddValues(t, f, got, want)
		}
	})
}

func TestRingPowerOfZeroAndOne(t *testing.T) {
	for f := range fields {
		for _, n := range lengthsOf(f) {
			zero, one := make([]int, n), unit(n, 0, 1)
			checkRingPower(t, f, zero, 0, one)
			for _, e := range []int{1, 2, 3, 1 << 10, impl.MaxExp} {
				checkRingPower(t, f, zero, e, zero)
				checkRingPower(t, f, one, e, one)
			}
			checkRingPower(t, f, one, 0, one)
		}
	}
}

// x^n is -1 in the ring, so x^e is known.
func TestRingPowerOfX(t *testing.T) {
	for f, field := range fields {
		for _, n := range lengthsOf(f) {
			x := unit(n, 1%n, 1)
			if n == 1 {
				x[0] = field.p - 1
			}
			for _, e := range []int{0, 1, n - 1, n, n + 1, 2*n - 1, 2 * n, 3 * n, 1000, impl.MaxExp - 1, impl.MaxExp} {
				want := unit(n, e%n, 1)
				if e/n%2 == 1 {
					want[e%n] = field.p - 1
				}
				checkRingPower(t, f, x, e, want)
			}
		}
	}
}

func TestNoRingPower(t *testing.T) {
	eachVector(func(f int, v []int) {
		for _, e := range []int{
			-1, -2, -1000, -impl.MaxExp, impl.MaxExp + 1, impl.MaxExp + 2, 2 * impl.MaxExp,
			1 << 32, -1 << 32, 1 << 62, math.MaxInt, math.MaxInt - 1, math.MinInt, math.MinInt + 1,
		} {
			checkNoRingPower(t, f, v, e)
		}
	})
}

func TestAutomorphIsItsDefinition(t *testing.T) {
	eachVector(func(f int, v []int) {
		for _, g := range oddExponents(len(v)) {
			checkAutomorph(t, f, v, g, automorphOf(fields[f].p, v, g))
		}
	})
	for f, field := range fields {
		for _, n := range permuted[:5] {
			for g := -6*n - 1; g <= 6*n+1; g += 2 {
				v := someVector(field.p, n, 4)
				checkAutomorph(t, f, v, g, automorphOf(field.p, v, g))
			}
		}
	}
}

// x^g for x in 1 + 2x + 3x^2 + 4x^3, where x^4 is -1.
func TestAutomorphOfFourElements(t *testing.T) {
	for f, field := range fields {
		p := field.p
		for _, c := range []struct {
			exponents []int
			want      []int
		}{
			{[]int{1, 9, -7, 17, 1<<62 + 1, math.MaxInt - 6, math.MinInt + 1}, []int{1, 2, 3, 4}},
			{[]int{3, 11, -5, math.MaxInt - 4, math.MinInt + 3}, []int{1, 4, p - 3, 2}},
			{[]int{5, 13, -3, math.MaxInt - 2, math.MinInt + 5}, []int{1, p - 2, 3, p - 4}},
			{[]int{7, 15, -1, math.MaxInt, math.MinInt + 7}, []int{1, p - 4, p - 3, p - 2}},
		} {
			for _, g := range c.exponents {
				checkAutomorph(t, f, []int{1, 2, 3, 4}, g, c.want)
			}
		}
	}
}

// The exponent 1 and those congruent to it modulo 2n change nothing; with one
// element, all odd exponents are.
func TestAutomorphsThatChangeNothing(t *testing.T) {
	eachVector(func(f int, v []int) {
		n := len(v)
		for _, g := range []int{1, 2*n + 1, 1 - 2*n, 1 - 4*n, math.MaxInt - 2*n + 2, math.MinInt + 1} {
			checkAutomorph(t, f, v, g, v)
		}
		if n == 1 {
			for _, g := range oddExponents(n) {
				checkAutomorph(t, f, v, g, v)
			}
		}
	})
}

func TestAutomorphOfEvenExponents(t *testing.T) {
	eachVector(func(f int, v []int) {
		for _, g := range evenExponents(len(v)) {
			if got := impl.Automorph(f, v, g); got != nil {
				t.Errorf("Automorph(%d, %v, %d) is %v", f, v, g, got)
			}
		}
	})
}

func TestAutomorphRespectsProducts(t *testing.T) {
	eachPair(func(f int, a []int, b []int) {
		p, n := fields[f].p, len(a)
		product := impl.Twisted(f, a, b)
		list := oddExponents(n)
		if n > 32 {
			list = []int{-1, 3, n + 1, math.MaxInt - 2}
		}
		for _, g := range list {
			x, y := impl.Automorph(f, a, g), impl.Automorph(f, b, g)
			if len(x) != n || len(y) != n {
				t.Fatalf("field %d: Automorph of %d elements has %d and %d", f, n, len(x), len(y))
			}
			checkAutomorph(t, f, product, g, impl.Twisted(f, x, y))
			checkAutomorph(t, f, sumOf(p, a, b, 1), g, sumOf(p, x, y, 1))
		}
		checkAutomorph(t, f, unit(n, 0, 1), list[0], unit(n, 0, 1))
	})
}

// One after the other, two of them have the product of their exponents.
func TestAutomorphsCompose(t *testing.T) {
	eachVector(func(f int, v []int) {
		n := len(v)
		list := oddExponents(n)
		for i, g := range list {
			h := list[(3*i+1)%len(list)]
			product := element(2*n, new(big.Int).Mul(large(g), large(h)))
			checkAutomorph(t, f, impl.Automorph(f, v, g), h, impl.Automorph(f, v, product))
			back := int(new(big.Int).ModInverse(large(element(2*n, large(g))), large(2*n)).Int64())
			checkAutomorph(t, f, impl.Automorph(f, v, g), back, v)
		}
	})
}

// The value of an image at z^(2i+1) is that of the vector at z^((2i+1)·g), so
// that the values are the same in another order.
func TestOddValuesOfAutomorph(t *testing.T) {
	eachSplitting(func(f int, v []int) {
		n := len(v)
		values := oddValuesOf(f, v)
		for _, g := range oddExponents(n) {
			step, want := element(2*n, large(g)), make([]int, n)
			for i := range want {
				want[i] = values[(2*i+1)*step%(2*n)/2]
			}
			image := impl.Automorph(f, v, g)
			checkOddValues(t, f, image, want)
			checkNorm(t, f, image, productOf(fields[f].p, values))
		}
	})
}

func TestOddValues(t *testing.T) {
	eachSplitting(func(f int, v []int) {
		checkOddValues(t, f, v, oddValuesOf(f, v))
	})
}

// RingOne and other constants have one value everywhere; x has the odd powers
// of z themselves, in their order, and x^(n-1) their inverses, negated.
func TestOddValuesOfPowersOfX(t *testing.T) {
	for f, field := range fields {
		for k, n := range splittingLengths(f) {
			p := field.p
			checkOddValues(t, f, impl.RingOne(f, n), equalElements(n, 1))
			for _, c := range []int{0, 2, p / 2, p - 1} {
				checkOddValues(t, f, unit(n, 0, c), equalElements(n, c))
				checkOddBack(t, f, equalElements(n, c), unit(n, 0, c))
			}
			if n == 1 {
				continue
			}
			z := impl.RootOf(f, k+1)
			want, inverses := make([]int, n), make([]int, n)
			for i := range want {
				want[i] = impl.Power(f, z, 2*i+1)
				inverses[i] = impl.Sub(f, 0, impl.Inverse(f, want[i]))
			}
			checkOddValues(t, f, unit(n, 1, 1), want)
			checkOddBack(t, f, want, unit(n, 1, 1))
			checkOddValues(t, f, unit(n, n-1, 1), inverses)
			checkOddBack(t, f, inverses, unit(n, n-1, 1))
		}
	}
}

func TestOddBackInvertsOddValues(t *testing.T) {
	eachSplitting(func(f int, v []int) {
		checkOddBack(t, f, impl.OddValues(f, v), v)
		checkOddValues(t, f, impl.OddBack(f, v), v)
		checkOddBack(t, f, v, oddBackOf(f, v))
	})
}

func TestOddValuesOfProducts(t *testing.T) {
	eachSplittingPair(func(f int, a []int, b []int) {
		p := fields[f].p
		x, y := oddValuesOf(f, a), oddValuesOf(f, b)
		product := impl.Twisted(f, a, b)
		checkOddValues(t, f, product, pointwiseOf(p, x, y))
		checkNorm(t, f, product, impl.Mul(f, impl.Norm(f, a), impl.Norm(f, b)))
	})
}

// The longest splitting vectors of every field; and the shortest that are not
// splitting, for which the field has no root of order 2n.
func TestSplittingVectors(t *testing.T) {
	tried := 0
	for f, field := range fields {
		n := longestSplitting[f]
		for _, v := range someVectors(field.p, n) {
			if len(impl.OddValues(f, v)) != n || len(impl.OddBack(f, v)) != n || impl.Norm(f, v) < 0 {
				t.Errorf("field %d: %d elements are not splitting", f, n)
			}
		}
		if _, ok := impl.RingInverse(f, unit(n, 0, 1)); !ok {
			t.Errorf("field %d: %d elements are not splitting", f, n)
		}
		full := fullLength(f)
		if full == 0 {
			continue
		}
		tried++
		if full != 2*n {
			t.Errorf("field %d: %d elements are not splitting, but %d are", f, full, n)
		}
		for _, v := range someVectors(field.p, full) {
			for _, c := range ringCalls {
				if c.splitting {
					checkRefused(t, c.name, c.refused, f, v, nil, c.call)
				}
			}
			checkNoRingInverse(t, f, v)
			checkNorm(t, f, v, -1)
		}
	}
	if tried != 5 {
		t.Errorf("%d fields have vectors that are not splitting", tried)
	}
}

func TestNormIsTheProductOfOddValues(t *testing.T) {
	eachSplitting(func(f int, v []int) {
		checkNorm(t, f, v, productOf(fields[f].p, oddValuesOf(f, v)))
	})
	for f, field := range fields {
		for _, n := range splittingLengths(f) {
			for _, c := range []int{0, 1, 3, field.p - 1} {
				checkNorm(t, f, unit(n, 0, c), powerOf(field.p, c, n))
			}
		}
	}
}

// nonzeroValues returns n elements other than 0.
func nonzeroValues(p int, n int, seed int) []int {
	list := someVector(p-1, n, seed)
	for i := range list {
		list[i]++
	}
	return list
}

func TestRingInverse(t *testing.T) {
	for f, field := range fields {
		for _, n := range splittingLengths(f) {
			for seed := range 6 {
				values := nonzeroValues(field.p, n, seed)
				v := oddBackOf(f, values)
				checkNorm(t, f, v, productOf(field.p, values))
				for i, x := range values {
					values[i] = powerOf(field.p, x, -1)
				}
				want := oddBackOf(f, values)
				checkRingInverse(t, f, v, want)
				checkRingInverse(t, f, want, v)
				if product := ringProductOf(field.p, v, want); !slices.Equal(product, unit(n, 0, 1)) {
					t.Errorf("field %d: %v times its inverse is %v", f, v, product)
				}
			}
		}
	}
}

// There is an inverse exactly if the Norm is not 0, and the product with it is
// RingOne.
func TestProductWithRingInverse(t *testing.T) {
	eachSplitting(func(f int, v []int) {
		norm := productOf(fields[f].p, oddValuesOf(f, v))
		if norm == 0 {
			checkNoRingInverse(t, f, v)
			return
		}
		got, ok := impl.RingInverse(f, v)
		if !ok || !impl.VectorOk(f, got) || len(got) != len(v) {
			t.Fatalf("RingInverse(%d, %v) is %v, %v", f, v, got, ok)
		}
		if product := impl.Twisted(f, v, got); !slices.Equal(product, impl.RingOne(f, len(v))) {
			t.Errorf("field %d: %v times its inverse %v is %v", f, v, got, product)
		}
		checkNorm(t, f, got, powerOf(fields[f].p, norm, -1))
	})
}

// One value of 0, at each index of short vectors, or one that is not, or none.
func TestRingInverseOfValuesOfZero(t *testing.T) {
	for f, field := range fields {
		for _, n := range splittingLengths(f) {
			for i := range n {
				if n > 16 && i != 0 && i != n/2 && i != n-1 {
					continue
				}
				values := nonzeroValues(field.p, n, i)
				values[i] = 0
				v := oddBackOf(f, values)
				checkNorm(t, f, v, 0)
				checkNoRingInverse(t, f, v)
				if n > 1 {
					single := oddBackOf(f, unit(n, i, 1))
					checkNorm(t, f, single, 0)
					checkNoRingInverse(t, f, single)
				}
			}
			checkNorm(t, f, make([]int, n), 0)
			checkNoRingInverse(t, f, make([]int, n))
		}
	}
}

// Among all vectors of two elements over the smallest field, at most one is the
// inverse.
func TestRingInverseOfTwoElements(t *testing.T) {
	for number := range 17 * 17 {
		v, found := list17(number, 2), false
		for other := range 17 * 17 {
			if w := list17(other, 2); slices.Equal(ringProductOf(17, v, w), []int{1, 0}) {
				checkRingInverse(t, 0, v, w)
				found = true
			}
		}
		if !found {
			checkNoRingInverse(t, 0, v)
		}
		// With z·z = -1, the values at z and -z multiply to a·a + b·b.
		checkNorm(t, 0, v, (v[0]*v[0]+v[1]*v[1])%17)
	}
}

// Vectors of one element are numbers: x is -1, and no constant changes.
func TestRingOfOneElement(t *testing.T) {
	for f, field := range fields {
		for _, x := range samples(f)[:17] {
			v := []int{x}
			checkOddValues(t, f, v, v)
			checkOddBack(t, f, v, v)
			checkNorm(t, f, v, x)
			checkTrace(t, f, v, v)
			checkRingPower(t, f, v, impl.MaxExp, []int{powerOf(field.p, x, impl.MaxExp)})
			if x == 0 {
				checkNoRingInverse(t, f, v)
			} else {
				checkRingInverse(t, f, v, []int{powerOf(field.p, x, -1)})
			}
		}
	}
}

func TestTraceIsItsSum(t *testing.T) {
	eachVector(func(f int, v []int) {
		p, n := fields[f].p, len(v)
		want := make([]int, n)
		for g := 1; g < 2*n; g += 2 {
			for i, x := range automorphOf(p, v, g) {
				want[i] = (want[i] + x) % p
			}
		}
		checkTrace(t, f, v, want)
		checkTrace(t, f, v, unit(n, 0, v[0]*n%p))
	})
}

func TestTraceOfAutomorphs(t *testing.T) {
	eachVector(func(f int, v []int) {
		if len(v) > 32 {
			return
		}
		for _, g := range oddExponents(len(v)) {
			checkTrace(t, f, impl.Automorph(f, v, g), impl.Trace(f, v))
		}
	})
}

// digitBases are bases near every P that is one, and near the roots of the
// great ones, which have two digits or three.
var digitBases = []int{
	2, 3, 4, 5, 10, 16, 17, 18, 96, 97, 98, 192, 193, 194, 255, 256, 257, 258, 776, 999, 1000, 1001,
	7680, 7681, 7682, 12288, 12289, 12290, 21673, 21674, 31595, 31596, 31694, 31695, 65535, 65536,
}

func TestDigitParts(t *testing.T) {
	for f, field := range fields {
		v := append(samples(f)[:12], field.p/2, field.p/2+1, field.p-2, field.p-1)
		for _, base := range digitBases {
			for count := 1; count <= 32; count++ {
				power := new(big.Int).Exp(large(base), large(count), nil)
				if power.Cmp(large(field.p)) >= 0 {
					checkParts(t, f, v, base, count)
				} else {
					checkNoParts(t, f, v, base, count)
				}
			}
		}
	}
}

// The least numbers of digits that are enough, and what is one too few: a power
// of P - 1 and of P among them.
func TestLeastDigitParts(t *testing.T) {
	for _, c := range []struct{ f, base, count int }{
		{0, 2, 5}, {0, 4, 3}, {0, 16, 2}, {0, 17, 1}, {0, 18, 1}, {0, 65536, 1},
		{1, 2, 7}, {1, 96, 2}, {1, 97, 1}, {1, 98, 1},
		{2, 2, 8}, {2, 192, 2}, {2, 193, 1}, {2, 194, 1},
		{3, 2, 9}, {3, 4, 5}, {3, 16, 3}, {3, 17, 2}, {3, 256, 2}, {3, 257, 1}, {3, 258, 1},
		{4, 2, 13}, {4, 7680, 2}, {4, 7681, 1}, {4, 7682, 1},
		{5, 2, 14}, {5, 12288, 2}, {5, 12289, 1}, {5, 12290, 1}, {5, 65536, 1},
		{6, 2, 30}, {6, 31595, 3}, {6, 31596, 2}, {6, 999, 4}, {6, 1000, 3}, {6, 65536, 2},
		{7, 2, 29}, {7, 21673, 3}, {7, 21674, 2}, {7, 65536, 2},
		{8, 2, 30}, {8, 31694, 3}, {8, 31695, 2}, {8, 1001, 4}, {8, 1002, 3}, {8, 65536, 2},
	} {
		for _, v := range [][]int{{0}, {fields[c.f].p - 1}, {1, fields[c.f].p - 1}, {0, 0, 0, 0}} {
			for count := 1; count <= 32; count++ {
				if count < c.count {
					checkNoParts(t, c.f, v, c.base, count)
				} else {
					checkParts(t, c.f, v, c.base, count)
				}
			}
		}
	}
}

func TestDigitPartsOfEachLength(t *testing.T) {
	eachVector(func(f int, v []int) {
		checkParts(t, f, v, 65536, 2)
		checkParts(t, f, v, 65536, 32)
		checkParts(t, f, v, 2, 30)
		checkParts(t, f, v, 2, 32)
		checkParts(t, f, v, 1001, 4)
	})
}

// otherBases and otherCounts are those that DigitParts refuses.
var (
	otherBases  = []int{1, 65537, 65538, 0, -1, -2, -4, -65536, 1 << 17, 1 << 32, 1<<32 + 4, 1 << 62, math.MaxInt, math.MinInt, math.MinInt + 1}
	otherCounts = []int{0, 33, 34, 64, -1, -2, -32, 1 << 32, 1<<32 + 3, -1 << 32, 1 << 62, math.MaxInt, math.MinInt, math.MinInt + 1}
)

func TestNoDigitParts(t *testing.T) {
	eachVector(func(f int, v []int) {
		for _, base := range otherBases {
			for _, count := range append([]int{1, 2, 3, 31, 32}, otherCounts...) {
				checkNoParts(t, f, v, base, count)
			}
		}
		for _, count := range otherCounts {
			for _, base := range []int{2, 3, 257, 40000, 65535, 65536} {
				checkNoParts(t, f, v, base, count)
			}
		}
	})
}

// someParts returns parts of n elements from all over the field: most are not
// below the base.
func someParts(p int, n int, count int) [][]int {
	var parts [][]int
	for d := range count {
		parts = append(parts, someVector(p, n, d))
	}
	return parts
}

func TestRejoin(t *testing.T) {
	for f, field := range fields {
		for _, n := range lengthsOf(f) {
			for _, count := range []int{1, 2, 3, 4, 5, 31, 32} {
				parts := someParts(field.p, n, count)
				greatest := slices.Repeat([][]int{equalElements(n, field.p-1)}, count)
				for i, base := range digitBases {
					if n > 8 && i%7 != n%7 && base != 2 && base != 65536 {
						continue
					}
					checkRejoined(t, f, parts, base, rejoinedOf(field.p, parts, base))
					checkRejoined(t, f, greatest, base, rejoinedOf(field.p, greatest, base))
				}
			}
		}
	}
}

// A single part is the vector itself; in a base that is P, so is the first one.
func TestRejoinOfOnePart(t *testing.T) {
	eachVector(func(f int, v []int) {
		p := fields[f].p
		for _, base := range digitBases {
			checkRejoined(t, f, [][]int{v}, base, v)
		}
		zero := make([]int, len(v))
		checkRejoined(t, f, [][]int{zero, v}, 2, sumOf(p, v, v, 1))
		for base := p; base <= 65536 && base <= 5*p; base += p {
			checkRejoined(t, f, [][]int{v, equalElements(len(v), p-1), someVector(p, len(v), 9)}, base, v)
		}
	})
}

func TestRejoinInNoBase(t *testing.T) {
	eachVector(func(f int, v []int) {
		for _, base := range otherBases {
			checkNotRejoined(t, f, [][]int{v}, base)
			checkNotRejoined(t, f, [][]int{v, v, v}, base)
			checkNotRejoined(t, f, nil, base)
		}
	})
}

// No part, too many, one that is no vector or of another length in each place.
func TestRejoinOfNoParts(t *testing.T) {
	for f, field := range fields {
		checkNotRejoined(t, f, nil, 4)
		checkNotRejoined(t, f, [][]int{}, 4)
		for _, n := range lengthsOf(f) {
			checkNotRejoined(t, f, someParts(field.p, n, 33), 4)
			checkNotRejoined(t, f, slices.Repeat([][]int{make([]int, n)}, 33), 65536)
			checkNotRejoined(t, f, slices.Repeat([][]int{make([]int, n)}, 64), 2)
			for _, m := range lengthsOf(f) {
				for _, count := range []int{2, 3, 32} {
					if n != m {
						checkEachPlace(t, f, someParts(field.p, n, count), make([]int, m))
					}
				}
			}
		}
		for _, wrong := range noVectors(f) {
			checkNotRejoined(t, f, [][]int{wrong}, 4)
			checkNotRejoined(t, f, [][]int{wrong, wrong}, 4)
			if n := len(wrong); slices.Contains(lengthsOf(f), n) {
				checkEachPlace(t, f, someParts(field.p, n, 3), wrong)
			} else {
				checkEachPlace(t, f, someParts(field.p, 2, 3), wrong)
			}
		}
		checkEachPlace(t, f, someParts(field.p, 4, 32), nil)
		checkEachPlace(t, f, someParts(field.p, 1, 32), []int{})
		checkEachPlace(t, f, someParts(field.p, 1, 2), []int{field.p})
	}
}

func checkEachPlace(t *testing.T, f int, parts [][]int, wrong []int) {
	t.Helper()
	for i, part := range parts {
		parts[i] = wrong
		checkNotRejoined(t, f, parts, 4)
		parts[i] = part
	}
}

// rescalings returns divisors of all sizes up to P.
func rescalings(p int) []int {
	list := []int{1, 2, 3, 4, 5, 6, 7, 8, 10, 15, 16, 17, (p - 1) / 4, (p - 1) / 2, (p + 1) / 2, p - 2, p - 1, p}
	source := numbers(p)
	for range 6 {
		list = append(list, 1+element(p, large(source.next())))
	}
	return list
}

func TestRescale(t *testing.T) {
	eachVector(func(f int, v []int) {
		for _, by := range rescalings(fields[f].p) {
			checkRescaled(t, f, v, by)
		}
	})
	for by := 1; by <= 17; by++ {
		for x := range 17 {
			checkRescaled(t, 0, []int{x}, by)
		}
	}
	for f, field := range fields {
		for _, x := range samples(f) {
			for _, by := range rescalings(field.p) {
				checkRescaled(t, f, []int{x, field.p / 2, field.p/2 + 1, 0}, by)
			}
		}
	}
}

// Divided by 2 and 4, ties of positive and of negative integers go up; by 3
// there are none.
func TestRescaleOfTies(t *testing.T) {
	integers := []int{-8, -7, -6, -5, -4, -3, -2, -1, 0, 1, 2, 3, 4, 5, 6, 7}
	for _, c := range []struct {
		by   int
		want []int
	}{
		{1, integers},
		{2, []int{-4, -3, -3, -2, -2, -1, -1, 0, 0, 1, 1, 2, 2, 3, 3, 4}},
		{3, []int{-3, -2, -2, -2, -1, -1, -1, 0, 0, 0, 1, 1, 1, 2, 2, 2}},
		{4, []int{-2, -2, -1, -1, -1, -1, 0, 0, 0, 0, 1, 1, 1, 1, 2, 2}},
		{16, []int{0, 0, 0, 0, 0, 0, 0, 0, 0, 0, 0, 0, 0, 0, 0, 0}},
		{17, []int{0, 0, 0, 0, 0, 0, 0, 0, 0, 0, 0, 0, 0, 0, 0, 0}},
	} {
		for f, field := range fields {
			v, want := elements(field.p, integers), elements(field.p, c.want)
			if got, ok := impl.Rescale(f, v, c.by); !ok || !slices.Equal(got, want) {
				t.Errorf("Rescale(%d, %v, %d) is %v, %v, not %v", f, v, c.by, got, ok, want)
			}
		}
	}
}

// elements returns the elements congruent to the integers of a list.
func elements(p int, list []int) []int {
	out := make([]int, len(list))
	for i, x := range list {
		out[i] = element(p, large(x))
	}
	return out
}

// The greatest and the smallest of the integers are (P - 1)/2 at the element
// (P - 1)/2 and -(P - 1)/2 at the next one.
func TestRescaleOfTheGreatest(t *testing.T) {
	for f, field := range fields {
		p := field.p
		half := (p - 1) / 2
		for _, c := range []struct{ by, above, below int }{
			{1, half, -half},
			{2, half / 2, -half / 2},
			{half - 1, 1, -1},
			{half, 1, -1},
			{half + 1, 1, -1},
			{p - 2, 1, -1},
			{p - 1, 1, 0},
			{p, 0, 0},
		} {
			v, want := []int{half, half + 1, 0, 0}, elements(p, []int{c.above, c.below, 0, 0})
			if got, ok := impl.Rescale(f, v, c.by); !ok || !slices.Equal(got, want) {
				t.Errorf("Rescale(%d, %v, %d) is %v, %v, not %v", f, v, c.by, got, ok, want)
			}
		}
	}
}

func TestNoRescale(t *testing.T) {
	eachVector(func(f int, v []int) {
		p := fields[f].p
		for _, by := range []int{0, -1, -2, -p, p + 1, p + 2, 2 * p, 1 << 32, 1<<32 + 1, -1 << 32, 1 << 62, math.MaxInt, math.MinInt, math.MinInt + 1} {
			checkNotRescaled(t, f, v, by)
		}
		checkRescaled(t, f, v, 1)
		checkRescaled(t, f, v, p)
	})
}

// ringCalls are the functions of the chapter with a vector, as in polyCalls,
// and whether it is to be splitting. Rejoin takes the second vector too.
var ringCalls = []struct {
	name      string
	splitting bool
	refused   int
	call      func(f int, v []int, w []int) ([][]int, int)
}{
	{"RingPower with 0", false, 0, ringPowerCall(0)},
	{"RingPower with 1", false, 0, ringPowerCall(1)},
	{"RingPower with 2", false, 0, ringPowerCall(2)},
	{"RingPower with -1", false, 0, ringPowerCall(-1)},
	{"Automorph with 1", false, 0, automorphCall(1)},
	{"Automorph with -3", false, 0, automorphCall(-3)},
	{"Automorph with the greatest", false, 0, automorphCall(math.MaxInt)},
	{"Automorph with 0", false, 0, automorphCall(0)},
	{"OddValues", true, 0, func(f int, v []int, w []int) ([][]int, int) { return [][]int{impl.OddValues(f, v)}, 0 }},
	{"OddBack", true, 0, func(f int, v []int, w []int) ([][]int, int) { return [][]int{impl.OddBack(f, v)}, 0 }},
	{"RingInverse", true, 0, func(f int, v []int, w []int) ([][]int, int) {
		list, ok := impl.RingInverse(f, v)
		return [][]int{list}, asNumber(ok)
	}},
	{"Norm", true, -1, func(f int, v []int, w []int) ([][]int, int) { return nil, impl.Norm(f, v) }},
	{"Trace", false, 0, func(f int, v []int, w []int) ([][]int, int) { return [][]int{impl.Trace(f, v)}, 0 }},
	{"DigitParts in two", false, 0, partsCall(65536, 2)},
	{"DigitParts in 32", false, 0, partsCall(2, 32)},
	{"DigitParts in none", false, 0, partsCall(2, 0)},
	{"Rejoin of one", false, 0, func(f int, v []int, w []int) ([][]int, int) {
		list, ok := impl.Rejoin(f, [][]int{v}, 2)
		return [][]int{list}, asNumber(ok)
	}},
	{"Rejoin of three", false, 0, func(f int, v []int, w []int) ([][]int, int) {
		list, ok := impl.Rejoin(f, [][]int{v, w, v}, 65536)
		return [][]int{list}, asNumber(ok)
	}},
	{"Rescale by 0", false, 0, rescaleCall(0)},
	{"Rescale by 1", false, 0, rescaleCall(1)},
	{"Rescale by 3", false, 0, rescaleCall(3)},
}

func ringPowerCall(e int) func(int, []int, []int) ([][]int, int) {
	return func(f int, v []int, w []int) ([][]int, int) {
		list, ok := impl.RingPower(f, v, e)
		return [][]int{list}, asNumber(ok)
	}
}

func automorphCall(g int) func(int, []int, []int) ([][]int, int) {
	return func(f int, v []int, w []int) ([][]int, int) { return [][]int{impl.Automorph(f, v, g)}, 0 }
}

func partsCall(base int, count int) func(int, []int, []int) ([][]int, int) {
	return func(f int, v []int, w []int) ([][]int, int) {
		parts, ok := impl.DigitParts(f, v, base, count)
		return parts, asNumber(ok)
	}
}

func rescaleCall(by int) func(int, []int, []int) ([][]int, int) {
	return func(f int, v []int, w []int) ([][]int, int) {
		list, ok := impl.Rescale(f, v, by)
		return [][]int{list}, asNumber(ok)
	}
}

func TestListsThatAreNoRingElements(t *testing.T) {
	for f := range fields {
		for _, wrong := range noVectors(f) {
			for _, c := range ringCalls {
				checkRefused(t, c.name, c.refused, f, wrong, wrong, c.call)
			}
			checkNoParts(t, f, wrong, 65536, 2)
			checkNoParts(t, f, wrong, 2, 32)
		}
	}
}

// An integer that is no element, in each place.
func TestRingElementsOfNoElements(t *testing.T) {
	for f, field := range fields {
		for _, n := range permuted[:5] {
			for i := range n {
				for _, x := range noElements(field.p) {
					wrong := someVector(field.p, n, i)
					wrong[i] = x
					for _, c := range ringCalls {
						checkRefused(t, c.name, c.refused, f, wrong, wrong, c.call)
					}
				}
			}
		}
	}
}

func TestRingsOfNoField(t *testing.T) {
	for _, f := range noFields {
		for _, c := range ringCalls {
			for _, n := range append([]int{0, 3, 1024}, permuted...) {
				checkRefused(t, c.name, c.refused, f, make([]int, n), make([]int, n), c.call)
				checkRefused(t, c.name, c.refused, f, equalElements(n, 1), equalElements(n, 1), c.call)
			}
			checkRefused(t, c.name, c.refused, f, nil, nil, c.call)
		}
		checkNotRejoined(t, f, nil, 2)
		checkNoParts(t, f, []int{0}, 65536, 32)
		checkNoParts(t, f, nil, 65536, 32)
	}
}

func TestRingsShareNoMemory(t *testing.T) {
	for f, field := range fields {
		for _, n := range lengthsOf(f) {
			list := someVectors(field.p, n)
			for _, c := range ringCalls {
				for i := range list {
					checkMemory(t, c.name, f, list[i], list[(i+1)%len(list)], c.call)
				}
			}
			one := impl.RingOne(f, n)
			checkApart(t, "RingOne", one, impl.RingOne(f, n))
		}
	}
}

func TestPartsShareNoMemory(t *testing.T) {
	eachVector(func(f int, v []int) {
		for _, count := range []int{2, 3, 32} {
			parts, ok := impl.DigitParts(f, v, 65536, count)
			if !ok {
				t.Fatalf("DigitParts(%d, %v, 65536, %d) fails", f, v, count)
			}
			for d, part := range parts {
				checkApart(t, "DigitParts", part, append(slices.Clone(parts[:d]), parts[d+1:]...)...)
			}
			kept := slices.Clone(parts)
			got, _ := impl.Rejoin(f, parts, 65536)
			for d, part := range kept {
				if len(parts) != count || &parts[d][0] != &part[0] {
					t.Errorf("field %d: Rejoin changes its parts of %v", f, v)
				}
			}
			checkApart(t, "Rejoin", got, parts...)
		}
	})
}

// A result stays as it is when the same call is made again: nothing is kept.
func TestRingsAreNewEachTime(t *testing.T) {
	for f, field := range fields {
		for _, n := range lengthsOf(f) {
			v, w := someVector(field.p, n, 8), someVector(field.p, n, 9)
			for _, c := range ringCalls {
				first, other := c.call(f, v, w)
				for i, list := range first {
					kept := slices.Clone(list)
					for j := range list {
						list[j] = -1
					}
					second, other2 := c.call(f, v, w)
					if other2 != other || !slices.Equal(second[i], kept) {
						t.Errorf("%s in field %d with %d elements is kept", c.name, f, n)
					}
					checkApart(t, c.name, second[i], list)
				}
			}
		}
	}
}
