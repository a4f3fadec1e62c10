package tests

import (
	"math"
	"math/big"
	"slices"
	"testing"

	"loop.example/g00710/impl"
)

// lengthsOf returns the lengths of the vectors over field f.
func lengthsOf(f int) []int { return permuted[:mostListed(f)+1] }

// fullLength is the length of the vectors of field f for which there is no
// root of twice the order, or 0 if they would be too long.
func fullLength(f int) int {
	if fields[f].t > 9 {
		return 0
	}
	return 1 << fields[f].t
}

// someVector returns n elements, another vector for each seed.
func someVector(p int, n int, seed int) []int {
	source := numbers(p + 1000003*n + 7919*seed)
	list := make([]int, n)
	for i := range list {
		list[i] = element(p, large(source.next()))
	}
	return list
}

// unit returns a vector of n elements with c at one index and 0 elsewhere.
func unit(n int, index int, c int) []int {
	list := make([]int, n)
	list[index] = c
	return list
}

func equalElements(n int, c int) []int {
	list := make([]int, n)
	for i := range list {
		list[i] = c
	}
	return list
}

// someVectors returns vectors of n elements: with one element other than 0 or
// none, with the greatest elements, and arbitrary ones.
func someVectors(p int, n int) [][]int {
	return [][]int{
		someVector(p, n, 1), make([]int, n), equalElements(n, p-1), unit(n, 0, 1), unit(n, n-1, p-1),
		someVector(p, n, 2), unit(n, n/2, 3), equalElements(n, 1), someVector(p, n, 3),
	}
}

// eachVector calls check for vectors of every length of every field.
func eachVector(check func(f int, v []int)) {
	for f, field := range fields {
		for _, n := range lengthsOf(f) {
			for _, v := range someVectors(field.p, n) {
				check(f, v)
			}
		}
	}
}

// eachPair calls check for pairs of vectors of every length of every field:
// the shorter ones in all combinations, the longer ones in some.
func eachPair(check func(f int, a []int, b []int)) {
	for f, field := range fields {
		for _, n := range lengthsOf(f) {
			list := someVectors(field.p, n)
			for i, a := range list {
				for j, b := range list {
					if n <= 32 || (i+2*j)%len(list) == 1 || i == j && i%2 == 0 {
						check(f, a, b)
					}
				}
			}
		}
	}
}

// rootPowers returns the powers of RootOf(f, k) for vectors of n = 2^k
// elements, worked out from the generator.
func rootPowers(f int, n int) []int {
	p := fields[f].p
	w := powerOf(p, fields[f].g, (p-1)/n)
	list := []int{1}
	for len(list) < n {
		list = append(list, list[len(list)-1]*w%p)
	}
	return list
}

func forwardOf(f int, v []int) []int {
	p, n := fields[f].p, len(v)
	w := rootPowers(f, n)
	out := make([]int, n)
	for i := range out {
		for j, x := range v {
			out[i] = (out[i] + x*w[i*j%n]) % p
		}
	}
	return out
}

func stageOf(f int, v []int, s int) []int {
	p, n, h := fields[f].p, len(v), 1<<s
	w := rootPowers(f, n)
	out := make([]int, n)
	for i := 0; i < n; i += 2 * h {
		for j := range h {
			x, y := v[i+j], v[i+j+h]*w[j*n/(2*h)]%p
			out[i+j] = (x + y) % p
			out[i+j+h] = (x - y + p) % p
		}
	}
	return out
}

func pointwiseOf(p int, a []int, b []int) []int {
	out := make([]int, len(a))
	for i := range out {
		out[i] = a[i] * b[i] % p
	}
	return out
}

// convolvedOf adds every product at the sum of its indices; with the sign -1
// those that go beyond the end are subtracted instead.
func convolvedOf(p int, a []int, b []int, sign int) []int {
	n := len(a)
	out := make([]int, n)
	for j, x := range a {
		for l, y := range b {
			if j+l < n {
				out[j+l] = (out[j+l] + x*y) % p
			} else {
				out[j+l-n] = (out[j+l-n] + sign*(x*y%p) + p) % p
			}
		}
	}
	return out
}

func correlatedOf(p int, a []int, b []int) []int {
	n := len(a)
	out := make([]int, n)
	for i := range out {
		for j, x := range a {
			out[i] = (out[i] + x*b[(j+i)%n]) % p
		}
	}
	return out
}

func energyOf(p int, v []int) int {
	sum := 0
	for i, x := range v {
		sum = (sum + x*v[(len(v)-i)%len(v)]) % p
	}
	return sum
}

func TestTransformExamples(t *testing.T) {
	cases := []struct {
		name      string
		got, want []int
	}{
		{"Forward(0, {1, 2, 3, 4})", impl.Forward(0, []int{1, 2, 3, 4}), []int{10, 6, 15, 7}},
		{"Backward(0, {10, 6, 15, 7})", impl.Backward(0, []int{10, 6, 15, 7}), []int{1, 2, 3, 4}},
		{"Pointwise(0, {2, 3}, {4, 6})", impl.Pointwise(0, []int{2, 3}, []int{4, 6}), []int{8, 1}},
		{"Cyclic(0, {1, 2, 0, 0}, {0, 0, 0, 1})", impl.Cyclic(0, []int{1, 2, 0, 0}, []int{0, 0, 0, 1}), []int{2, 0, 0, 1}},
		{"Twisted(0, {1, 2, 0, 0}, {0, 0, 0, 1})", impl.Twisted(0, []int{1, 2, 0, 0}, []int{0, 0, 0, 1}), []int{15, 0, 0, 1}},
		{"Stage(0, {4, 15, 6, 15}, 1)", impl.Stage(0, []int{4, 15, 6, 15}, 1), []int{10, 6, 15, 7}},
		{"Rotate(0, {1, 2, 3, 4}, -1)", impl.Rotate(0, []int{1, 2, 3, 4}, -1), []int{2, 3, 4, 1}},
		{"Correlate(0, {0, 1, 0, 0}, {5, 6, 7, 8})", impl.Correlate(0, []int{0, 1, 0, 0}, []int{5, 6, 7, 8}), []int{6, 7, 8, 5}},
	}
	for _, c := range cases {
		if !slices.Equal(c.got, c.want) {
			t.Errorf("%s is %v, not %v", c.name, c.got, c.want)
		}
	}
	if got := impl.Energy(0, []int{1, 2, 3, 4}); got != 9 {
		t.Errorf("Energy(0, {1, 2, 3, 4}) is %d", got)
	}
}

// Every length up to more than MaxLog allows, and greater powers of 2.
func TestVectorOkOfAnyLength(t *testing.T) {
	lengths := []int{1536, 2048, 4096, 8192, 1 << 16}
	for n := range 1100 {
		lengths = append(lengths, n)
	}
	for f, field := range fields {
		for _, n := range lengths {
			want := slices.Contains(lengthsOf(f), n)
			for _, v := range [][]int{make([]int, n), equalElements(n, field.p-1)} {
				if got := impl.VectorOk(f, v); got != want {
					t.Errorf("field %d: VectorOk of %d elements is %v", f, n, got)
				}
			}
		}
		if impl.VectorOk(f, nil) || impl.VectorOk(f, []int{}) {
			t.Errorf("VectorOk(%d, nil) is %v", f, impl.VectorOk(f, nil))
		}
	}
	for _, f := range noFields {
		for _, n := range lengths[:600] {
			if impl.VectorOk(f, make([]int, n)) {
				t.Errorf("there is no field %d, but VectorOk of %d elements is true", f, n)
			}
		}
	}
}

func TestVectorOkOfAnyElement(t *testing.T) {
	eachVector(func(f int, v []int) {
		if !impl.VectorOk(f, v) {
			t.Errorf("VectorOk(%d, %v) is false", f, v)
		}
	})
	for f, field := range fields {
		list := edges(field.p)
		for x := -300; x <= 600; x++ {
			list = append(list, x)
		}
		for _, x := range list {
			want := x >= 0 && x < field.p
			for _, v := range [][]int{{x}, {x, 0}, {0, x}, {1, 2, x, 3}} {
				if got := impl.VectorOk(f, v); got != want {
					t.Errorf("VectorOk(%d, %v) is %v", f, v, got)
				}
			}
		}
	}
}

func TestForwardIsItsSum(t *testing.T) {
	eachVector(func(f int, v []int) {
		if got, want := impl.Forward(f, v), forwardOf(f, v); !slices.Equal(got, want) {
			t.Errorf("Forward(%d, %v) is %v, not %v", f, v, got, want)
		}
	})
}

// The transform of 1 at one index lists powers of the root, also where that
// root is the last one that the field has.
func TestForwardOfUnits(t *testing.T) {
	for f := range fields {
		for k, n := range lengthsOf(f) {
			roots := impl.Roots(f, k)
			if got := impl.Forward(f, unit(n, 1%n, 1)); !slices.Equal(got, roots) {
				t.Errorf("field %d: the transform of x in %d elements is %v", f, n, got)
			}
			if got := impl.Forward(f, equalElements(n, 1)); !slices.Equal(got, unit(n, 0, n)) {
				t.Errorf("field %d: the transform of %d ones is %v", f, n, got)
			}
		}
	}
}

func TestBackwardInvertsForward(t *testing.T) {
	eachVector(func(f int, v []int) {
		there := impl.Forward(f, v)
		if got := impl.Backward(f, there); !slices.Equal(got, v) {
			t.Errorf("Backward(%d, %v) is %v, not %v", f, there, got, v)
		}
		back := impl.Backward(f, v)
		if got := forwardOf(f, back); !slices.Equal(got, v) {
			t.Errorf("Backward(%d, %v) is %v, and the transform of that is %v", f, v, back, got)
		}
		if got := impl.Forward(f, back); !slices.Equal(got, v) {
			t.Errorf("Forward(%d, %v) is %v, not %v", f, back, got, v)
		}
	})
}

// Every vector of two elements over the smallest field.
func TestTransformsOfTwoElements(t *testing.T) {
	for x := range 17 {
		for y := range 17 {
			v, want := []int{x, y}, []int{(x + y) % 17, (x - y + 17) % 17}
			if got := impl.Forward(0, v); !slices.Equal(got, want) {
				t.Errorf("Forward(0, %v) is %v, not %v", v, got, want)
			}
			if got := impl.Stage(0, v, 0); !slices.Equal(got, want) {
				t.Errorf("Stage(0, %v, 0) is %v, not %v", v, got, want)
			}
			if got := impl.Backward(0, want); !slices.Equal(got, v) {
				t.Errorf("Backward(0, %v) is %v, not %v", want, got, v)
			}
			if got, want := impl.Energy(0, v), (x*x+y*y)%17; got != want {
				t.Errorf("Energy(0, %v) is %d, not %d", v, got, want)
			}
		}
	}
}

// Vectors of one element are numbers: there is nothing to transform.
func TestVectorsOfOneElement(t *testing.T) {
	for f, field := range fields {
		for _, x := range samples(f)[:17] {
			v := []int{x}
			unchanged := [][]int{
				impl.Forward(f, v), impl.Backward(f, v), impl.Rotate(f, v, 0), impl.Rotate(f, v, 5), impl.Rotate(f, v, math.MinInt),
			}
			for i, got := range unchanged {
				if !slices.Equal(got, v) {
					t.Errorf("field %d: result %d of %v is %v", f, i, v, got)
				}
			}
			for _, y := range samples(f)[:17] {
				u, want := []int{y}, []int{x * y % field.p}
				products := [][]int{impl.Pointwise(f, v, u), impl.Cyclic(f, v, u), impl.Twisted(f, v, u), impl.Correlate(f, v, u)}
				for i, got := range products {
					if !slices.Equal(got, want) {
						t.Errorf("field %d: product %d of %v and %v is %v", f, i, v, u, got)
					}
				}
			}
			if got := impl.Energy(f, v); got != x*x%field.p {
				t.Errorf("Energy(%d, %v) is %d", f, v, got)
			}
			if got := impl.Stage(f, v, 0); got != nil {
				t.Errorf("Stage(%d, %v, 0) is %v", f, v, got)
			}
		}
	}
}

func TestPointwise(t *testing.T) {
	eachPair(func(f int, a []int, b []int) {
		if got, want := impl.Pointwise(f, a, b), pointwiseOf(fields[f].p, a, b); !slices.Equal(got, want) {
			t.Errorf("Pointwise(%d, %v, %v) is %v, not %v", f, a, b, got, want)
		}
	})
}

func TestCyclicIsItsSum(t *testing.T) {
	eachPair(func(f int, a []int, b []int) {
		if got, want := impl.Cyclic(f, a, b), convolvedOf(fields[f].p, a, b, 1); !slices.Equal(got, want) {
			t.Errorf("Cyclic(%d, %v, %v) is %v, not %v", f, a, b, got, want)
		}
	})
}

func TestCyclicBecomesPointwise(t *testing.T) {
	eachPair(func(f int, a []int, b []int) {
		got := impl.Forward(f, impl.Cyclic(f, a, b))
		if want := impl.Pointwise(f, impl.Forward(f, a), impl.Forward(f, b)); got == nil || !slices.Equal(got, want) {
			t.Errorf("field %d: the transform of the convolution of %v and %v is %v, not %v", f, a, b, got, want)
		}
	})
}

func TestTwistedIsItsSum(t *testing.T) {
	eachPair(func(f int, a []int, b []int) {
		if got, want := impl.Twisted(f, a, b), convolvedOf(fields[f].p, a, b, -1); !slices.Equal(got, want) {
			t.Errorf("Twisted(%d, %v, %v) is %v, not %v", f, a, b, got, want)
		}
	})
}

// Powers of x, where the exponents of the product are below, at and above n.
func TestTwistedPowersOfX(t *testing.T) {
	for f, field := range fields {
		for _, n := range lengthsOf(f) {
			for _, i := range []int{0, 1 % n, n / 2, n - 1} {
				for _, j := range []int{0, 1 % n, n / 2, n - 1} {
					want := unit(n, (i+j)%n, 6)
					if i+j >= n {
						want = unit(n, i+j-n, field.p-6)
					}
					if got := impl.Twisted(f, unit(n, i, 2), unit(n, j, 3)); !slices.Equal(got, want) {
						t.Errorf("field %d: Twisted of 2·x^%d and 3·x^%d with %d elements is %v", f, i, j, n, got)
					}
				}
			}
		}
	}
}

// The remainder modulo x^n + 1 by chapter 3, as far as its polynomials reach.
func TestTwistedIsARemainder(t *testing.T) {
	eachPair(func(f int, a []int, b []int) {
		n := len(a)
		if n > 128 {
			return
		}
		product, _ := impl.MulPoly(f, impl.Trim(f, a), impl.Trim(f, b))
		modulus := monomial(n, 1)
		modulus[0] = 1
		_, rest, ok := impl.DivMod(f, product, modulus)
		if got := impl.Twisted(f, a, b); !ok || len(got) != n || !slices.Equal(impl.Trim(f, got), rest) {
			t.Errorf("Twisted(%d, %v, %v) is %v, not %v", f, a, b, got, rest)
		}
	})
}

// Where n is 2^TwoPower the field has no root of order 2n, and the next length
// is not one of a vector. All functions are defined for n nevertheless.
func TestTheLongestVectorsOfSmallFields(t *testing.T) {
	tried := 0
	for f, field := range fields {
		n := fullLength(f)
		if n == 0 {
			continue
		}
		tried++
		p, k := field.p, field.t
		a, b := someVector(p, n, 4), someVector(p, n, 5)
		if impl.RootOf(f, k+1) != -1 || !impl.VectorOk(f, a) || impl.VectorOk(f, make([]int, 2*n)) {
			t.Errorf("field %d: %d elements are not the most", f, n)
		}
		if got := impl.Twisted(f, a, b); !slices.Equal(got, convolvedOf(p, a, b, -1)) {
			t.Errorf("Twisted(%d, %v, %v) is %v", f, a, b, got)
		}
		if got := impl.Twisted(f, unit(n, n-1, 1), unit(n, 1, 1)); !slices.Equal(got, unit(n, 0, p-1)) {
			t.Errorf("field %d: x^%d in %d elements is %v", f, n, n, got)
		}
		if got := impl.Cyclic(f, a, b); !slices.Equal(got, convolvedOf(p, a, b, 1)) {
			t.Errorf("Cyclic(%d, %v, %v) is %v", f, a, b, got)
		}
		if got := impl.Backward(f, forwardOf(f, a)); !slices.Equal(got, a) {
			t.Errorf("field %d: Backward of the transform of %v is %v", f, a, got)
		}
		if got := impl.Stage(f, a, k-1); !slices.Equal(got, stageOf(f, a, k-1)) {
			t.Errorf("Stage(%d, %v, %d) is %v", f, a, k-1, got)
		}
	}
	if tried != 5 {
		t.Errorf("%d fields have vectors of 2^TwoPower elements", tried)
	}
}

func TestStage(t *testing.T) {
	eachVector(func(f int, v []int) {
		for s := range impl.LogOf(len(v)) {
			if got, want := impl.Stage(f, v, s), stageOf(f, v, s); !slices.Equal(got, want) {
				t.Errorf("Stage(%d, %v, %d) is %v, not %v", f, v, s, got, want)
			}
		}
	})
}

func TestStagesAreForward(t *testing.T) {
	eachVector(func(f int, v []int) {
		got := impl.Permute(v)
		for s := range impl.LogOf(len(v)) {
			got = impl.Stage(f, got, s)
		}
		if want := forwardOf(f, v); !slices.Equal(got, want) {
			t.Errorf("field %d: all stages of %v are %v, not %v", f, v, got, want)
		}
		if want := impl.Forward(f, v); !slices.Equal(got, want) {
			t.Errorf("field %d: all stages of %v are %v, but Forward is %v", f, v, got, want)
		}
	})
}

func TestNoStage(t *testing.T) {
	eachVector(func(f int, v []int) {
		k := impl.LogOf(len(v))
		list := []int{-1, -2, -k - 1, k, k + 1, 9, 10, 31, 32, 62, 63, 64, 65, 1 << 32, 1 << 62, -1 << 32, math.MaxInt, math.MinInt, math.MinInt + 1}
		for _, s := range list {
			if got := impl.Stage(f, v, s); got != nil {
				t.Errorf("Stage(%d, %v, %d) is %v", f, v, s, got)
			}
		}
	})
}

func TestEnergy(t *testing.T) {
	eachVector(func(f int, v []int) {
		p, got := fields[f].p, impl.Energy(f, v)
		if want := energyOf(p, v); got != want {
			t.Errorf("Energy(%d, %v) is %d, not %d", f, v, got, want)
		}
		squares := 0
		for _, x := range impl.Forward(f, v) {
			squares = (squares + x*x) % p
		}
		if squares != len(v)*got%p {
			t.Errorf("field %d: the squares of the transform of %v add up to %d, Energy is %d", f, v, squares, got)
		}
	})
}

// shifts returns integers of any size and sign by which n elements are moved.
func shifts(n int) []int {
	list := []int{
		0, 1, -1, 2, -2, n / 2, -n / 2, n - 1, 1 - n, n, -n, n + 1, -n - 1, 2 * n, 7*n + 3, -5*n - 3, 511, 512, 513, -512, 1000001,
		1 << 32, -1 << 32, 1<<32 + 1, 1 << 62, math.MaxInt, math.MaxInt - 1, math.MaxInt - 511, math.MinInt, math.MinInt + 1, math.MinInt + 511,
	}
	source := numbers(n)
	for range 10 {
		list = append(list, source.next())
	}
	return list
}

// residueOf works out in numbers of any size where index i is moved to by r.
func residueOf(n int, i int, r int) int {
	return element(n, new(big.Int).Add(large(i), large(r)))
}

func TestRotate(t *testing.T) {
	for f, field := range fields {
		for _, n := range lengthsOf(f) {
			for _, v := range someVectors(field.p, n)[:5] {
				for _, r := range shifts(n) {
					want := make([]int, n)
					for i, x := range v {
						want[residueOf(n, i, r)] = x
					}
					if got := impl.Rotate(f, v, r); !slices.Equal(got, want) {
						t.Errorf("Rotate(%d, %v, %d) is %v, not %v", f, v, r, got, want)
					}
				}
			}
		}
	}
}

func TestRotateAndBack(t *testing.T) {
	for f, field := range fields {
		for _, n := range lengthsOf(f) {
			v := someVector(field.p, n, 6)
			for r := -n - 1; r <= n+1; r++ {
				if got := impl.Rotate(f, impl.Rotate(f, v, r), -r); !slices.Equal(got, v) {
					t.Errorf("field %d: %v rotated by %d and back is %v", f, v, r, got)
				}
			}
			if got := impl.Rotate(f, v, math.MinInt); !slices.Equal(got, v) {
				t.Errorf("field %d: %v rotated by the smallest int is %v", f, v, got)
			}
			if got, want := impl.Rotate(f, v, math.MaxInt), impl.Rotate(f, v, -1); !slices.Equal(got, want) {
				t.Errorf("field %d: %v rotated by the greatest int is %v", f, v, got)
			}
		}
	}
}

// Rotating the input by r multiplies the output at index i by w^(i·r).
func TestTransformsOfRotated(t *testing.T) {
	for f, field := range fields {
		for _, n := range lengthsOf(f) {
			w := rootPowers(f, n)
			for _, v := range someVectors(field.p, n) {
				plain := impl.Forward(f, v)
				if len(plain) != n {
					t.Fatalf("Forward(%d, %v) is %v", f, v, plain)
				}
				for _, r := range shifts(n) {
					shift, want := residueOf(n, 0, r), make([]int, n)
					for i, x := range plain {
						want[i] = x * w[i*shift%n] % field.p
					}
					if got := impl.Forward(f, impl.Rotate(f, v, r)); !slices.Equal(got, want) {
						t.Errorf("field %d: the transform of %v rotated by %d is %v, not %v", f, v, r, got, want)
					}
				}
			}
		}
	}
}

func TestCorrelateIsItsSum(t *testing.T) {
	eachPair(func(f int, a []int, b []int) {
		if got, want := impl.Correlate(f, a, b), correlatedOf(fields[f].p, a, b); !slices.Equal(got, want) {
			t.Errorf("Correlate(%d, %v, %v) is %v, not %v", f, a, b, got, want)
		}
	})
}

// The order of the two vectors matters: exchanged, they give the result
// mirrored.
func TestCorrelateExchanged(t *testing.T) {
	eachPair(func(f int, a []int, b []int) {
		n := len(a)
		one, other := impl.Correlate(f, a, b), impl.Correlate(f, b, a)
		if len(one) != n || len(other) != n {
			t.Fatalf("field %d: Correlate of %d elements has %d and %d", f, n, len(one), len(other))
		}
		for i, x := range one {
			if other[(n-i)%n] != x {
				t.Errorf("field %d: Correlate of %v and %v is %v, and exchanged it is %v", f, a, b, one, other)
			}
		}
	})
}

// checkConv holds ConvPoly against MulPoly, and against the product itself.
func checkConv(t *testing.T, f int, a []int, b []int) {
	t.Helper()
	p, limit := fields[f].p, 1<<mostListed(f)
	got, ok := impl.ConvPoly(f, a, b)
	want, wantOk := impl.MulPoly(f, a, b)
	if !isZero(a) && !isZero(b) && len(a)+len(b)-1 > min(limit, 400) {
		if ok || got != nil {
			t.Errorf("field %d: ConvPoly of %d and %d coefficients has %d, %v", f, len(a), len(b), len(got), ok)
		}
		return
	}
	if ok != wantOk || !slices.Equal(got, want) {
		t.Errorf("ConvPoly(%d, %v, %v) is %v, %v, but MulPoly is %v, %v", f, a, b, got, ok, want, wantOk)
	}
	if product := timesOf(p, a, b); !ok || !slices.Equal(got, product) {
		t.Errorf("ConvPoly(%d, %v, %v) is %v, %v, not %v", f, a, b, got, ok, product)
	}
}

func TestConvPoly(t *testing.T) {
	for f, field := range fields {
		for _, a := range somePolys(field.p) {
			for _, b := range somePolys(field.p) {
				checkConv(t, f, a, b)
			}
		}
	}
}

// Products of every number of coefficients from 1 to beyond each limit: at
// the powers of 2 the convolution has no room to spare.
func TestConvPolyOfEachSize(t *testing.T) {
	for f, field := range fields {
		p := field.p
		for size := 1; size <= 420; size++ {
			for _, n := range []int{1, (size + 1) / 2, size} {
				if n <= 400 && size-n+1 <= 400 {
					checkConv(t, f, somePoly(p, n, 10), somePoly(p, size-n+1, 11))
					checkConv(t, f, monomial(n-1, p-1), monomial(size-n, p-1))
				}
			}
		}
	}
}

// Where m is TwoPower and 2^m coefficients are a polynomial, 2^m are the most.
func TestMostOfConvPoly(t *testing.T) {
	for f, most := range []int{16, 32, 64, 256} {
		p := fields[f].p
		for n := 1; n <= most; n++ {
			a, b := somePoly(p, n, 12), somePoly(p, most-n+1, 13)
			got, ok := impl.ConvPoly(f, a, b)
			if !ok || len(got) != most || !slices.Equal(got, timesOf(p, a, b)) {
				t.Errorf("field %d: ConvPoly of %d and %d coefficients has %d, %v", f, len(a), len(b), len(got), ok)
			}
			longer := somePoly(p, most-n+2, 13)
			if got, ok := impl.ConvPoly(f, a, longer); ok || got != nil {
				t.Errorf("field %d: ConvPoly of %d and %d coefficients has %d, %v", f, len(a), len(longer), len(got), ok)
			}
			if got, ok := impl.ConvPoly(f, longer, a); ok || got != nil {
				t.Errorf("field %d: ConvPoly of %d and %d coefficients has %d, %v", f, len(longer), len(a), len(got), ok)
			}
		}
	}
}

// Where m is MaxLog, MaxPoly is the lesser limit: 2^m coefficients are already
// more than MulPoly allows.
func TestConvPolyRefusesWithMulPoly(t *testing.T) {
	for f := 4; f < len(fields); f++ {
		p := fields[f].p
		for _, n := range []int{2, 3, 113, 114, 200, 201, 256, 257, 399, 400} {
			for size := 399; size <= 514; size++ {
				if m := size - n + 1; m >= 1 && m <= 400 {
					got, ok := impl.ConvPoly(f, somePoly(p, n, 14), somePoly(p, m, 15))
					if ok != (size <= 400) || ok && len(got) != size || !ok && got != nil {
						t.Errorf("field %d: ConvPoly of %d and %d coefficients has %d, %v", f, n, m, len(got), ok)
					}
				}
			}
		}
		got, ok := impl.ConvPoly(f, somePoly(p, 400, 14), somePoly(p, 400, 15))
		if ok || got != nil {
			t.Errorf("field %d: ConvPoly of 400 and 400 coefficients has %d, %v", f, len(got), ok)
		}
	}
}

// A product with zero has no coefficients, however long the other factor is.
func TestConvPolyWithZero(t *testing.T) {
	for f, field := range fields {
		for _, a := range somePolys(field.p) {
			for _, zero := range [][]int{nil, {}} {
				left, ok := impl.ConvPoly(f, zero, a)
				right, ok2 := impl.ConvPoly(f, a, zero)
				if !ok || !ok2 || !isZero(left) || !isZero(right) {
					t.Errorf("field %d: ConvPoly of zero and %v is %v, %v and %v, %v", f, a, left, ok, right, ok2)
				}
			}
		}
	}
}

func convCall(f int, a []int, b []int) ([][]int, int) {
	list, ok := impl.ConvPoly(f, a, b)
	return [][]int{list}, asNumber(ok)
}

func TestConvPolyOfNoPolys(t *testing.T) {
	for f, field := range fields {
		for _, wrong := range noPolys(field.p) {
			for _, b := range [][]int{nil, {1}, {1, 1}, somePoly(field.p, 400, 1), {0}} {
				checkRefused(t, "ConvPoly", 0, f, wrong, b, convCall)
				checkRefused(t, "ConvPoly", 0, f, b, wrong, convCall)
			}
		}
	}
	for _, f := range noFields {
		for _, a := range [][]int{nil, {}, {1}, {1, 2, 1}, {0}} {
			for _, b := range [][]int{nil, {}, {1}, {1, 1}, {0}} {
				checkRefused(t, "ConvPoly", 0, f, a, b, convCall)
			}
		}
	}
}

// vectorCalls are the functions of the chapter with one vector or two, as in
// polyCalls.
var vectorCalls = []struct {
	name    string
	places  int
	refused int
	call    func(f int, a []int, b []int) ([][]int, int)
}{
	{"VectorOk", 1, 0, func(f int, a []int, b []int) ([][]int, int) { return nil, asNumber(impl.VectorOk(f, a)) }},
	{"Forward", 1, 0, func(f int, a []int, b []int) ([][]int, int) { return [][]int{impl.Forward(f, a)}, 0 }},
	{"Backward", 1, 0, func(f int, a []int, b []int) ([][]int, int) { return [][]int{impl.Backward(f, a)}, 0 }},
	{"Pointwise", 2, 0, func(f int, a []int, b []int) ([][]int, int) { return [][]int{impl.Pointwise(f, a, b)}, 0 }},
	{"Cyclic", 2, 0, func(f int, a []int, b []int) ([][]int, int) { return [][]int{impl.Cyclic(f, a, b)}, 0 }},
	{"Twisted", 2, 0, func(f int, a []int, b []int) ([][]int, int) { return [][]int{impl.Twisted(f, a, b)}, 0 }},
	{"Stage 0", 1, 0, stageCall(0)},
	{"Stage 1", 1, 0, stageCall(1)},
	{"Stage -1", 1, 0, stageCall(-1)},
	{"Stage 8", 1, 0, stageCall(8)},
	{"Stage 9", 1, 0, stageCall(9)},
	{"Energy", 1, -1, func(f int, a []int, b []int) ([][]int, int) { return nil, impl.Energy(f, a) }},
	{"Rotate by 0", 1, 0, rotateCall(0)},
	{"Rotate by 1", 1, 0, rotateCall(1)},
	{"Rotate by the smallest", 1, 0, rotateCall(math.MinInt)},
	{"Correlate", 2, 0, func(f int, a []int, b []int) ([][]int, int) { return [][]int{impl.Correlate(f, a, b)}, 0 }},
}

func stageCall(s int) func(int, []int, []int) ([][]int, int) {
	return func(f int, a []int, b []int) ([][]int, int) { return [][]int{impl.Stage(f, a, s)}, 0 }
}

func rotateCall(r int) func(int, []int, []int) ([][]int, int) {
	return func(f int, a []int, b []int) ([][]int, int) { return [][]int{impl.Rotate(f, a, r)}, 0 }
}

// noVectors returns lists that are not vectors over field f: their length is
// no power of 2, or one for which the field has no root or which is too great,
// or one of their elements is not one.
func noVectors(f int) [][]int {
	p := fields[f].p
	list := [][]int{nil, {}}
	for _, n := range []int{3, 5, 6, 7, 9, 10, 12, 15, 17, 24, 31, 33, 48, 96, 255, 257, 511, 513, 768, 1023, 1025, 1024, 2048, 4096, 4097} {
		list = append(list, make([]int, n), someVector(p, n, 7))
	}
	for n := 2 << mostListed(f); n <= 1024; n *= 2 {
		list = append(list, make([]int, n), someVector(p, n, 7))
	}
	outside := []int{p, p + 1, 2 * p, -1, -p, 1 - p, math.MaxInt, math.MinInt, 1 << 32, 1<<32 + 1}
	for i, x := range outside {
		for _, n := range []int{1, 2, 4, 1 << mostListed(f)} {
			for _, index := range []int{0, n / 2, n - 1} {
				v := someVector(p, n, i)
				v[index] = x
				list = append(list, v)
			}
		}
	}
	return list
}

func TestListsThatAreNoVectors(t *testing.T) {
	for f, field := range fields {
		for _, wrong := range noVectors(f) {
			beside := [][]int{nil, {1}, {1, 2}, someVector(field.p, 1<<mostListed(f), 1), make([]int, len(wrong)), wrong}
			for _, c := range vectorCalls {
				for _, b := range beside {
					checkRefused(t, c.name, c.refused, f, wrong, b, c.call)
					if c.places > 1 {
						checkRefused(t, c.name, c.refused, f, b, wrong, c.call)
					}
				}
			}
		}
	}
}

func TestVectorsOfDifferentLengths(t *testing.T) {
	for f, field := range fields {
		for _, n := range lengthsOf(f) {
			for _, m := range lengthsOf(f) {
				for _, c := range vectorCalls {
					if n != m && c.places > 1 {
						checkRefused(t, c.name, c.refused, f, someVector(field.p, n, 1), someVector(field.p, m, 2), c.call)
						checkRefused(t, c.name, c.refused, f, make([]int, n), make([]int, m), c.call)
					}
				}
			}
		}
	}
}

func TestVectorsOfNoField(t *testing.T) {
	for _, f := range noFields {
		for _, c := range vectorCalls {
			for _, n := range append([]int{0, 3, 1024}, permuted...) {
				checkRefused(t, c.name, c.refused, f, make([]int, n), make([]int, n), c.call)
				checkRefused(t, c.name, c.refused, f, equalElements(n, 1), unit(n+1, 0, 1), c.call)
			}
			checkRefused(t, c.name, c.refused, f, nil, nil, c.call)
		}
	}
}

func TestVectorsShareNoMemory(t *testing.T) {
	for f, field := range fields {
		for _, n := range lengthsOf(f) {
			list := someVectors(field.p, n)
			for _, c := range vectorCalls {
				for i := range list {
					checkMemory(t, c.name, f, list[i], list[(i+1)%len(list)], c.call)
				}
			}
		}
		for _, a := range append(shortPolys(field.p), somePoly(field.p, 200, 1)) {
			for _, b := range shortPolys(field.p) {
				checkMemory(t, "ConvPoly", f, a, b, convCall)
			}
		}
	}
}

// checkMemory makes a call whose arguments have room behind them, which is not
// to be used either, and one whose two arguments are one list.
func checkMemory(t *testing.T, name string, f int, first []int, second []int, call func(int, []int, []int) ([][]int, int)) {
	t.Helper()
	a := append(slices.Clone(first), 7, 7, 7)[:len(first)]
	b := append(slices.Clone(second), 7, 7, 7)[:len(second)]
	results, _ := call(f, a, b)
	checkUntouched(t, name, a, first)
	checkUntouched(t, name, b, second)
	for _, result := range results {
		checkApart(t, name, result, a[:len(a)+3], b[:len(b)+3])
	}
	again, _ := call(f, a, a)
	checkUntouched(t, name, a, first)
	for i, result := range again {
		checkApart(t, name, result, a[:len(a)+3], results[i])
	}
}

// A result stays as it is when the same call is made again: nothing is kept.
func TestTransformsAreNewEachTime(t *testing.T) {
	for f, field := range fields {
		for _, n := range lengthsOf(f) {
			a, b := someVector(field.p, n, 8), someVector(field.p, n, 9)
			for _, c := range vectorCalls {
				first, _ := c.call(f, a, b)
				for i, list := range first {
					kept := slices.Clone(list)
					second, _ := c.call(f, a, b)
					checkApart(t, c.name, list, second[i])
					for j := range list {
						list[j] = -1
					}
					third, _ := c.call(f, a, b)
					if !slices.Equal(second[i], kept) || !slices.Equal(third[i], kept) {
						t.Errorf("%s in field %d with %d elements is kept and shared", c.name, f, n)
					}
				}
			}
		}
	}
}
