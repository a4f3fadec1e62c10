package tests

import (
	"math"
	"math/big"
	"slices"
	"testing"

	"loop.example/g00710/impl"
)

// somePoly returns a polynomial with n coefficients, another one for each
// seed. About a quarter of the coefficients below the last one are 0.
func somePoly(p int, n int, seed int) []int {
	source := numbers(p + 1000003*n + 7919*seed)
	list := make([]int, n)
	for i := range list {
		if source.next()&3 != 0 || i == n-1 {
			list[i] = 1 + element(p-1, large(source.next()))
		}
	}
	return list
}

// monomial returns c·x^n.
func monomial(n int, c int) []int {
	list := make([]int, n+1)
	list[n] = c
	return list
}

// shortPolys returns polynomials of few coefficients: zero, constants, powers
// of x, sums that cancel each other, and arbitrary ones.
func shortPolys(p int) [][]int {
	list := [][]int{
		nil, {}, {1}, {2}, {p - 1}, {0, 1}, {0, p - 1}, {1, 1}, {p - 1, 1}, {1, p - 1},
		{p - 1, 0, 1}, {1, 2, 1}, {1, 0, 1}, {0, 0, 0, 5}, {3, 0, 0, p - 5}, {p - 1, p - 1, p - 1, p - 1},
	}
	for n := 1; n < 24; n += 3 {
		list = append(list, somePoly(p, n, 1))
	}
	return list
}

// longPolys returns polynomials of up to MaxPoly coefficients.
func longPolys(p int) [][]int {
	greatest := make([]int, 400)
	for i := range greatest {
		greatest[i] = p - 1
	}
	return [][]int{
		somePoly(p, 133, 1), somePoly(p, 200, 1), somePoly(p, 201, 1), somePoly(p, 399, 1),
		somePoly(p, 400, 1), somePoly(p, 400, 2), monomial(399, 1), monomial(399, p-1), greatest,
	}
}

func somePolys(p int) [][]int { return append(shortPolys(p), longPolys(p)...) }

// noPolys returns lists that are not polynomials over the field: an element at
// the start, inside or at the end is not one, the last one is 0, or there are
// too many of them.
func noPolys(p int) [][]int {
	tooLong := somePoly(p, 401, 1)
	last := slices.Clone(tooLong[:400])
	last[399] = 0
	outside := slices.Clone(tooLong[:400])
	outside[200] = p
	list := [][]int{
		{0}, {0, 0}, {1, 0}, {5, 3, 0}, {0, 1, 0}, {1, 0, 0, 0}, tooLong, last, outside,
		monomial(400, 1), make([]int, 400), make([]int, 401), make([]int, 5000), somePoly(p, 4096, 1),
	}
	for _, x := range []int{p, p + 1, 2 * p, -1, -p, 1 - p, math.MaxInt, math.MinInt, 1 << 32, 1<<32 + 1} {
		list = append(list, []int{x}, []int{x, 1}, []int{1, x}, []int{1, x, 1})
	}
	return list
}

// trimmed reduces every integer and drops the zeros at the end.
func trimmed(p int, list []int) []int {
	out := make([]int, len(list))
	size := 0
	for i, x := range list {
		out[i] = element(p, large(x))
		if out[i] != 0 {
			size = i + 1
		}
	}
	return out[:size]
}

// at returns the coefficient of x^i, which is 0 beyond the end of the list.
func at(list []int, i int) int {
	if i < 0 || i >= len(list) {
		return 0
	}
	return list[i]
}

// mixed returns a + c·b for an element c.
func mixed(p int, a []int, b []int, c int) []int {
	list := make([]int, max(len(a), len(b)))
	for i := range list {
		list[i] = at(a, i) + c*at(b, i)
	}
	return trimmed(p, list)
}

// timesOf works out the product coefficient by coefficient.
func timesOf(p int, a []int, b []int) []int {
	list := make([]int, len(a)+len(b))
	for i := range list {
		for j := max(0, i-len(b)+1); j < min(i+1, len(a)); j++ {
			list[i] = (list[i] + a[j]*b[i-j]) % p
		}
	}
	return trimmed(p, list)
}

// valueOf works out a_0 + a_1·x + a_2·x^2 + ..., each power by itself.
func valueOf(p int, a []int, x int) int {
	sum := new(big.Int)
	base, modulus := large(element(p, large(x))), large(p)
	for i, c := range a {
		power := new(big.Int).Exp(base, large(i), modulus)
		sum.Add(sum, power.Mul(power, large(c)))
	}
	return element(p, sum)
}

// withRoots returns c times the product of x - r over all roots r.
func withRoots(p int, c int, roots ...int) []int {
	list := []int{c}
	for _, r := range roots {
		list = timesOf(p, list, []int{element(p, large(-r)), 1})
	}
	return list
}

func isZero(list []int) bool { return len(list) == 0 }

func TestPolyExamples(t *testing.T) {
	product, okProduct := impl.MulPoly(0, []int{1, 1}, []int{16, 1})
	quotient, rest, okDivided := impl.DivMod(0, []int{1, 0, 1}, []int{1, 1})
	shifted, okShifted := impl.ShiftPoly(0, []int{1, 2}, -1)
	power, okPower := impl.PowMod(0, []int{0, 1}, 4, []int{1, 0, 1})
	composed, okComposed := impl.Compose(0, []int{1, 0, 1}, []int{1, 1})
	lists := []struct {
		name      string
		got, want []int
	}{
		{"Trim(0, {18, -1, 17, 0})", impl.Trim(0, []int{18, -1, 17, 0}), []int{1, 16}},
		{"AddPoly(0, {1, 16}, {0, 1})", impl.AddPoly(0, []int{1, 16}, []int{0, 1}), []int{1}},
		{"MulPoly(0, {1, 1}, {16, 1})", product, []int{16, 0, 1}},
		{"the quotient of {1, 0, 1} by {1, 1}", quotient, []int{16, 1}},
		{"the remainder of {1, 0, 1} by {1, 1}", rest, []int{2}},
		{"GcdPoly(0, {16, 0, 1}, {1, 2, 1})", impl.GcdPoly(0, []int{16, 0, 1}, []int{1, 2, 1}), []int{1, 1}},
		{"Derivative(0, {5, 3, 2})", impl.Derivative(0, []int{5, 3, 2}), []int{3, 4}},
		{"ShiftPoly(0, {1, 2}, -1)", shifted, []int{2}},
		{"x^4 modulo 1 + x^2", power, []int{1}},
		{"Compose(0, {1, 0, 1}, {1, 1})", composed, []int{2, 2, 1}},
	}
	for _, c := range lists {
		if !slices.Equal(c.got, c.want) {
			t.Errorf("%s is %v, not %v", c.name, c.got, c.want)
		}
	}
	if !okProduct || !okDivided || !okShifted || !okPower || !okComposed {
		t.Error("an example is refused:", okProduct, okDivided, okShifted, okPower, okComposed)
	}
	if impl.PolyOk(0, []int{1, 0}) || !impl.PolyOk(0, nil) {
		t.Error("PolyOk of {1, 0} and nil is not false and true")
	}
	if got := impl.EvalPoly(0, []int{16, 0, 1}, 3); got != 8 {
		t.Errorf("EvalPoly(0, {16, 0, 1}, 3) is %d", got)
	}
	if impl.SquareFree(0, []int{1, 2, 1}) || !impl.SquareFree(0, []int{16, 0, 1}) {
		t.Error("SquareFree of {1, 2, 1} and {16, 0, 1} is not false and true")
	}
}

func TestPolyOkAndDegree(t *testing.T) {
	if impl.MaxPoly != 400 || impl.MaxExp != 1000000 {
		t.Errorf("MaxPoly is %d, MaxExp is %d", impl.MaxPoly, impl.MaxExp)
	}
	for f, field := range fields {
		for _, a := range somePolys(field.p) {
			if !impl.PolyOk(f, a) || impl.Degree(f, a) != len(a)-1 {
				t.Errorf("field %d: PolyOk is %v and Degree %d for %v", f, impl.PolyOk(f, a), impl.Degree(f, a), a)
			}
		}
		for _, a := range noPolys(field.p) {
			if impl.PolyOk(f, a) || impl.Degree(f, a) != -2 {
				t.Errorf("field %d: PolyOk is %v and Degree %d for %v", f, impl.PolyOk(f, a), impl.Degree(f, a), a)
			}
		}
	}
	for _, f := range noFields {
		for _, a := range somePolys(17) {
			if impl.PolyOk(f, a) || impl.Degree(f, a) != -2 {
				t.Errorf("there is no field %d, but PolyOk is %v and Degree %d for %v", f, impl.PolyOk(f, a), impl.Degree(f, a), a)
			}
		}
	}
}

// Every element of a small field is one, and no other number.
func TestPolyOkOfConstants(t *testing.T) {
	for f, field := range fields[:smallFields] {
		for x := -field.p; x <= 2*field.p; x++ {
			if got, want := impl.PolyOk(f, []int{x}), x > 0 && x < field.p; got != want {
				t.Errorf("PolyOk(%d, {%d}) is %v", f, x, got)
			}
			if got, want := impl.PolyOk(f, []int{x, 1}), x >= 0 && x < field.p; got != want {
				t.Errorf("PolyOk(%d, {%d, 1}) is %v", f, x, got)
			}
		}
	}
}

func TestTrim(t *testing.T) {
	for f, field := range fields {
		p := field.p
		long := make([]int, 400)
		source := numbers(p)
		for i := range long {
			long[i] = source.next()
		}
		ending := slices.Clone(long)
		for i := 250; i < 400; i++ {
			ending[i] = (i - 300) * p
		}
		lists := [][]int{
			nil, {}, {0}, {p}, {-p}, {0, 0, 0}, {1, 0}, {0, 1, 0, p, 0}, {-1}, {p + 1, -p, 3 * p},
			{0, p, 2 * p, 1}, {math.MinInt, math.MaxInt}, {1, math.MaxInt / p * p, math.MinInt / p * p},
			edges(p), long, long[:399], ending, make([]int, 400),
		}
		for _, list := range append(lists, somePolys(p)...) {
			got := impl.Trim(f, list)
			if want := trimmed(p, list); !slices.Equal(got, want) {
				t.Errorf("Trim(%d, %v) is %v, not %v", f, list, got, want)
			}
			if !impl.PolyOk(f, got) {
				t.Errorf("Trim(%d, %v) is %v, not a polynomial", f, list, got)
			}
		}
		for _, list := range [][]int{make([]int, 401), append(long, 1), append(long, 0), append(long, p), make([]int, 5000)} {
			if got := impl.Trim(f, list); got != nil {
				t.Errorf("field %d: Trim of %d integers is %v", f, len(list), got)
			}
		}
	}
	for _, f := range noFields {
		for _, list := range [][]int{nil, {0}, {1}, {1, 2, 3}, {-1, 18}} {
			if got := impl.Trim(f, list); got != nil {
				t.Errorf("Trim(%d, %v) is %v", f, list, got)
			}
		}
	}
}

func TestSumsOfPolys(t *testing.T) {
	for f, field := range fields {
		p := field.p
		for _, a := range somePolys(p) {
			for _, b := range somePolys(p) {
				if got, want := impl.AddPoly(f, a, b), mixed(p, a, b, 1); !slices.Equal(got, want) {
					t.Errorf("AddPoly(%d, %v, %v) is %v, not %v", f, a, b, got, want)
				}
				if got, want := impl.SubPoly(f, a, b), mixed(p, a, b, p-1); !slices.Equal(got, want) {
					t.Errorf("SubPoly(%d, %v, %v) is %v, not %v", f, a, b, got, want)
				}
			}
			if got := impl.SubPoly(f, a, a); !isZero(got) {
				t.Errorf("field %d: %v minus itself is %v", f, a, got)
			}
		}
	}
}

// Two polynomials whose coefficients agree or cancel from some index on.
func TestCancellingSums(t *testing.T) {
	for f, field := range fields {
		p := field.p
		for _, n := range []int{1, 2, 5, 40, 399, 400} {
			for _, kept := range []int{0, 1, n / 2, n - 1} {
				a := somePoly(p, n, 3)
				b := slices.Clone(a)
				for i := range kept {
					b[i] = (a[i] + 1) % p
				}
				negative := make([]int, n)
				for i, x := range b {
					negative[i] = (p - x) % p
				}
				want := make([]int, kept)
				for i := range want {
					want[i] = p - 1
				}
				if got := impl.SubPoly(f, a, b); !slices.Equal(got, want) {
					t.Errorf("SubPoly(%d, %v, %v) is %v, not %v", f, a, b, got, want)
				}
				if got := impl.AddPoly(f, a, negative); !slices.Equal(got, want) {
					t.Errorf("AddPoly(%d, %v, %v) is %v, not %v", f, a, negative, got, want)
				}
			}
		}
	}
}

func TestScalePoly(t *testing.T) {
	for f, field := range fields {
		p := field.p
		for _, a := range somePolys(p) {
			for _, c := range edges(p) {
				want := mixed(p, nil, a, element(p, large(c)))
				if got := impl.ScalePoly(f, a, c); !slices.Equal(got, want) {
					t.Errorf("ScalePoly(%d, %v, %d) is %v, not %v", f, a, c, got, want)
				}
			}
			for _, c := range []int{0, p, -p, 5 * p, math.MaxInt / p * p, math.MinInt / p * p} {
				if got := impl.ScalePoly(f, a, c); !isZero(got) {
					t.Errorf("ScalePoly(%d, %v, %d) is %v", f, a, c, got)
				}
			}
		}
	}
}

func TestMulPoly(t *testing.T) {
	for f, field := range fields {
		p := field.p
		for _, a := range somePolys(p) {
			for _, b := range somePolys(p) {
				got, ok := impl.MulPoly(f, a, b)
				if len(a)+len(b) > 401 && !isZero(a) && !isZero(b) {
					if ok || got != nil {
						t.Errorf("field %d: the product of %d and %d coefficients is %v", f, len(a), len(b), got)
					}
				} else if want := timesOf(p, a, b); !ok || !slices.Equal(got, want) {
					t.Errorf("MulPoly(%d, %v, %v) is %v, %v, not %v", f, a, b, got, ok, want)
				}
			}
		}
	}
}

func TestMostOfAProduct(t *testing.T) {
	for f, field := range fields {
		for _, n := range []int{1, 2, 3, 199, 200, 201, 399, 400} {
			a, b := somePoly(field.p, n, 1), somePoly(field.p, 401-n, 2)
			got, ok := impl.MulPoly(f, a, b)
			if want := timesOf(field.p, a, b); !ok || len(got) != 400 || !slices.Equal(got, want) {
				t.Errorf("field %d: the product of %d and %d coefficients has %d, %v", f, n, 401-n, len(got), ok)
			}
			if n == 1 {
				continue
			}
			if got, ok := impl.MulPoly(f, a, somePoly(field.p, 402-n, 2)); ok || got != nil {
				t.Errorf("field %d: the product of %d and %d coefficients has %d, %v", f, n, 402-n, len(got), ok)
			}
		}
		for _, a := range longPolys(field.p) {
			left, ok := impl.MulPoly(f, nil, a)
			right, ok2 := impl.MulPoly(f, a, nil)
			if !ok || !ok2 || !isZero(left) || !isZero(right) {
				t.Errorf("field %d: the products of zero and %d coefficients are %v, %v and %v, %v", f, len(a), left, ok, right, ok2)
			}
		}
	}
}

func TestEvalPoly(t *testing.T) {
	for f, field := range fields {
		p := field.p
		for _, a := range shortPolys(p) {
			for _, x := range append(samples(f)[:17], edges(p)...) {
				if got, want := impl.EvalPoly(f, a, x), valueOf(p, a, x); got != want {
					t.Errorf("EvalPoly(%d, %v, %d) is %d, not %d", f, a, x, got, want)
				}
			}
		}
		for _, a := range longPolys(p) {
			for _, x := range []int{0, 1, -1, 3, p, p - 1, -p - 2, math.MaxInt, math.MinInt} {
				if got, want := impl.EvalPoly(f, a, x), valueOf(p, a, x); got != want {
					t.Errorf("EvalPoly(%d, %v, %d) is %d, not %d", f, a, x, got, want)
				}
			}
		}
	}
}

func TestValuesOfProducts(t *testing.T) {
	for f, field := range fields {
		p := field.p
		for _, a := range somePolys(p) {
			for _, b := range shortPolys(p) {
				product, ok := impl.MulPoly(f, a, b)
				if !ok {
					continue
				}
				for _, x := range []int{0, 1, 2, -1, p / 3, math.MinInt} {
					if impl.EvalPoly(f, product, x) != impl.EvalPoly(f, a, x)*impl.EvalPoly(f, b, x)%p {
						t.Errorf("field %d: at %d the value of the product of %v and %v is not the product of the values", f, x, a, b)
					}
				}
			}
		}
	}
}

func mulOf(t *testing.T, f int, a []int, b []int) []int {
	t.Helper()
	list, ok := impl.MulPoly(f, a, b)
	if !ok {
		t.Errorf("MulPoly(%d, %v, %v) is refused", f, a, b)
	}
	return list
}

func TestLawsOfTheRing(t *testing.T) {
	for f, field := range fields {
		list := shortPolys(field.p)
		for i, a := range list {
			for j, b := range list {
				c := list[(5*i+3*j)%len(list)]
				if !slices.Equal(mulOf(t, f, a, b), mulOf(t, f, b, a)) || !slices.Equal(impl.AddPoly(f, a, b), impl.AddPoly(f, b, a)) {
					t.Errorf("field %d: %v and %v do not commute", f, a, b)
				}
				if !slices.Equal(mulOf(t, f, mulOf(t, f, a, b), c), mulOf(t, f, a, mulOf(t, f, b, c))) {
					t.Errorf("field %d: the product of %v, %v and %v is not associative", f, a, b, c)
				}
				if !slices.Equal(impl.AddPoly(f, impl.AddPoly(f, a, b), c), impl.AddPoly(f, a, impl.AddPoly(f, b, c))) {
					t.Errorf("field %d: the sum of %v, %v and %v is not associative", f, a, b, c)
				}
				if !slices.Equal(mulOf(t, f, a, impl.AddPoly(f, b, c)), impl.AddPoly(f, mulOf(t, f, a, b), mulOf(t, f, a, c))) {
					t.Errorf("field %d: %v is not distributed over %v and %v", f, a, b, c)
				}
			}
			if !slices.Equal(mulOf(t, f, a, []int{1}), a) || !slices.Equal(impl.AddPoly(f, a, nil), a) {
				t.Errorf("field %d: 1 or 0 changes %v", f, a)
			}
		}
	}
}

func checkDivision(t *testing.T, f int, a []int, b []int) {
	t.Helper()
	q, r, ok := impl.DivMod(f, a, b)
	if isZero(b) {
		if ok || q != nil || r != nil {
			t.Errorf("DivMod(%d, %v, %v) is %v, %v, %v", f, a, b, q, r, ok)
		}
		return
	}
	if !ok || !impl.PolyOk(f, q) || !impl.PolyOk(f, r) || len(r) >= len(b) {
		t.Errorf("DivMod(%d, %v, %v) is %v, %v, %v", f, a, b, q, r, ok)
	}
	if back := mixed(fields[f].p, timesOf(fields[f].p, q, b), r, 1); !slices.Equal(back, a) {
		t.Errorf("field %d: %v times %v plus %v is not %v", f, q, b, r, a)
	}
}

func TestDivMod(t *testing.T) {
	for f, field := range fields {
		for _, a := range somePolys(field.p) {
			for _, b := range somePolys(field.p) {
				checkDivision(t, f, a, b)
			}
		}
	}
}

// The dividend is made from a quotient and a remainder of every length, so
// that it leaves just these, zeros between the coefficients or not.
func TestDivModGivesBack(t *testing.T) {
	for f, field := range fields {
		p := field.p
		for _, b := range [][]int{{1}, {p - 1}, {0, 1}, {0, 0, 0, 2}, {1, p - 1}, somePoly(p, 2, 1), somePoly(p, 9, 1), somePoly(p, 200, 1)} {
			for _, q := range [][]int{nil, {3}, monomial(150, 2), {1, 0, 0, 0, 1}, somePoly(p, 7, 4), somePoly(p, 201, 4)} {
				for _, rest := range []int{0, 1, len(b) / 2, len(b) - 1} {
					r := somePoly(p, min(rest, len(b)-1), 5)
					a := mixed(p, timesOf(p, q, b), r, 1)
					gotQ, gotR, ok := impl.DivMod(f, a, b)
					if !ok || !slices.Equal(gotQ, q) || !slices.Equal(gotR, r) {
						t.Errorf("DivMod(%d, %v, %v) is %v, %v, %v, not %v, %v", f, a, b, gotQ, gotR, ok, q, r)
					}
				}
			}
		}
	}
}

// All dividends of degree at most 2 and all divisors of degree at most 1 over
// the smallest field.
func TestDivModOfAllShortPolys(t *testing.T) {
	for a0 := range 17 {
		for a1 := range 17 {
			for a2 := range 17 {
				a := trimmed(17, []int{a0, a1, a2})
				for b0 := range 17 {
					checkDivision(t, 0, a, trimmed(17, []int{b0, (a0 + a1 + b0) % 17}))
				}
			}
		}
	}
}

// The roots of two polynomials, as indices, with a factor that has none:
// what they have in common is known.
func TestGcdPoly(t *testing.T) {
	cases := []struct{ left, right, common []int }{
		{nil, nil, nil},
		{[]int{1}, nil, nil},
		{[]int{1}, []int{2}, nil},
		{[]int{1}, []int{1}, []int{1}},
		{[]int{1, 1}, []int{1}, []int{1}},
		{[]int{1, 1, 1, 2}, []int{1, 1, 2, 2, 3}, []int{1, 1, 2}},
		{[]int{0, 0, 0, 4, 5}, []int{0, 0, 6}, []int{0, 0}},
		{[]int{0, 1, 2, 3, 4, 5, 6, 7}, []int{8, 7, 6, 5, 4}, []int{4, 5, 6, 7}},
		{[]int{1, 2, 3, 4}, []int{5, 6, 7, 8, 9}, nil},
	}
	for f, field := range fields {
		p := field.p
		// g is not a square, so x^2 - g and x^2 - g^3 have no roots.
		noRoots, others := []int{p - field.g, 0, 1}, []int{p - powerOf(p, field.g, 3), 0, 1}
		for _, c := range cases {
			left, right, common := withRoots(p, 3, c.left...), withRoots(p, p-2, c.right...), withRoots(p, 1, c.common...)
			checkGcd(t, f, left, right, common)
			checkGcd(t, f, timesOf(p, left, noRoots), right, common)
			checkGcd(t, f, timesOf(p, left, noRoots), timesOf(p, right, others), common)
			checkGcd(t, f, timesOf(p, left, noRoots), timesOf(p, right, noRoots), timesOf(p, common, noRoots))
		}
	}
}

func checkGcd(t *testing.T, f int, a []int, b []int, want []int) {
	t.Helper()
	for _, got := range [][]int{impl.GcdPoly(f, a, b), impl.GcdPoly(f, b, a)} {
		if !slices.Equal(got, want) {
			t.Errorf("GcdPoly(%d, %v, %v) is %v, not %v", f, a, b, got, want)
		}
	}
}

func TestGcdPolyDividesBoth(t *testing.T) {
	for f, field := range fields {
		p := field.p
		list := append(shortPolys(p), somePoly(p, 201, 1), somePoly(p, 400, 1), monomial(399, 2))
		for _, a := range list {
			for _, b := range list {
				got := impl.GcdPoly(f, a, b)
				if isZero(a) && isZero(b) {
					if !isZero(got) {
						t.Errorf("GcdPoly(%d, %v, %v) is %v", f, a, b, got)
					}
					continue
				}
				if isZero(got) || got[len(got)-1] != 1 {
					t.Fatalf("GcdPoly(%d, %v, %v) is %v, not monic", f, a, b, got)
				}
				first, r, ok := impl.DivMod(f, a, got)
				second, s, ok2 := impl.DivMod(f, b, got)
				if !ok || !ok2 || !isZero(r) || !isZero(s) {
					t.Errorf("GcdPoly(%d, %v, %v) is %v and does not divide both", f, a, b, got)
				}
				if left := impl.GcdPoly(f, first, second); !slices.Equal(left, []int{1}) {
					t.Errorf("GcdPoly(%d, %v, %v) is %v and leaves %v", f, a, b, got, left)
				}
			}
		}
	}
}

// A polynomial and zero have the polynomial itself, made monic, in common.
func TestGcdPolyWithZero(t *testing.T) {
	for f, field := range fields {
		p := field.p
		for _, a := range somePolys(p) {
			if isZero(a) {
				continue
			}
			want := mixed(p, nil, a, powerOf(p, a[len(a)-1], -1))
			checkGcd(t, f, a, nil, want)
			checkGcd(t, f, a, []int{}, want)
			checkGcd(t, f, a, a, want)
			checkGcd(t, f, a, []int{p - 1}, []int{1})
		}
	}
}

func derivativeOf(p int, a []int) []int {
	list := make([]int, len(a))
	for i := 1; i < len(a); i++ {
		list[i-1] = i * a[i] % p
	}
	return trimmed(p, list)
}

func TestDerivative(t *testing.T) {
	for f, field := range fields {
		p := field.p
		for _, a := range somePolys(p) {
			if got, want := impl.Derivative(f, a), derivativeOf(p, a); !slices.Equal(got, want) {
				t.Errorf("Derivative(%d, %v) is %v, not %v", f, a, got, want)
			}
			for _, b := range shortPolys(p) {
				product, ok := impl.MulPoly(f, a, b)
				if !ok {
					continue
				}
				want := impl.AddPoly(f, mulOf(t, f, impl.Derivative(f, a), b), mulOf(t, f, a, impl.Derivative(f, b)))
				if got := impl.Derivative(f, product); !slices.Equal(got, want) {
					t.Errorf("field %d: the derivative of %v times %v is %v, not %v", f, a, b, got, want)
				}
			}
		}
	}
}

// An exponent that P divides leaves nothing of its coefficient.
func TestDerivativeWhereTheExponentIsZero(t *testing.T) {
	for f, field := range fields {
		p := field.p
		for e := p; e < 400; e += p {
			if got := impl.Derivative(f, monomial(e, 3)); !isZero(got) {
				t.Errorf("field %d: the derivative of 3·x^%d is %v", f, e, got)
			}
			a := monomial(e, p-1)
			a[e-1], a[2], a[0] = 5, 4, 3
			want := monomial(e-2, p-5)
			want[1] = 8
			if got := impl.Derivative(f, a); !slices.Equal(got, want) {
				t.Errorf("Derivative(%d, %v) is %v, not %v", f, a, got, want)
			}
		}
		if f > 3 {
			if got := impl.Derivative(f, monomial(399, 1)); !slices.Equal(got, monomial(398, 399)) {
				t.Errorf("field %d: the derivative of x^399 is %v", f, got)
			}
		}
	}
}

func TestShiftPoly(t *testing.T) {
	greatest := []int{math.MaxInt, math.MaxInt - 1, math.MaxInt - 399, 1 << 32, 1<<32 + 1, 1 << 62, 801, 4096}
	smallest := []int{math.MinInt, math.MinInt + 1, math.MinInt + 400, -1 << 32, 1 - 1<<32, -1 << 62, -401, -4096}
	for f, field := range fields {
		for _, a := range somePolys(field.p) {
			for n := -402; n <= 402; n++ {
				checkShift(t, f, a, n)
			}
			for i, n := range greatest {
				checkShift(t, f, a, n)
				checkShift(t, f, a, smallest[i])
			}
		}
	}
}

func checkShift(t *testing.T, f int, a []int, n int) {
	t.Helper()
	got, ok := impl.ShiftPoly(f, a, n)
	var want []int
	switch {
	case isZero(a):
	case n > 400 || n > 400-len(a):
		if ok || got != nil {
			t.Errorf("field %d: %d coefficients shifted by %d are %d, %v", f, len(a), n, len(got), ok)
		}
		return
	case n >= 0:
		want = append(make([]int, n), a...)
	case n > -401:
		want = a[min(-n, len(a)):]
	}
	if !ok || !slices.Equal(got, want) {
		t.Errorf("ShiftPoly(%d, %v, %d) is %v, %v, not %v", f, a, n, got, ok, want)
	}
}

// A power modulo a polynomial with distinct roots has at each root the power
// of the value there, which determines it.
func TestPowModByValues(t *testing.T) {
	exponents := []int{0, 1, 2, 3, 5, 16, 17, 31, 255, 256, 1000, 65535, 524288, 999999, 1000000}
	for f, field := range fields {
		p := field.p
		for _, count := range []int{1, 5, 16} {
			roots := make([]int, count)
			for i := range roots {
				roots[i] = (7*i + 3) % p
			}
			m := withRoots(p, 3, roots...)
			for _, a := range append(shortPolys(p), somePoly(p, 400, 1)) {
				for _, e := range exponents {
					got, ok := impl.PowMod(f, a, e, m)
					if !ok || !impl.PolyOk(f, got) || len(got) > count {
						t.Fatalf("PowMod(%d, %v, %d, %v) is %v, %v", f, a, e, m, got, ok)
					}
					for _, r := range roots {
						if valueOf(p, got, r) != powerOf(p, valueOf(p, a, r), e) {
							t.Errorf("PowMod(%d, %v, %d, %v) is %v, wrong at %d", f, a, e, m, got, r)
						}
					}
				}
			}
		}
	}
}

// Moduli of any kind, against one multiplication and division at a time.
func TestPowModByStepping(t *testing.T) {
	for f, field := range fields {
		p := field.p
		for _, m := range shortPolys(p) {
			if isZero(m) {
				continue
			}
			for _, a := range [][]int{nil, {1}, {p - 1}, {0, 1}, {2, 1}, somePoly(p, 5, 6), somePoly(p, 60, 6)} {
				_, power, _ := impl.DivMod(f, []int{1}, m)
				for e := range 20 {
					got, ok := impl.PowMod(f, a, e, m)
					if !ok || !slices.Equal(got, power) {
						t.Errorf("PowMod(%d, %v, %d, %v) is %v, %v, not %v", f, a, e, m, got, ok, power)
					}
					_, power, _ = impl.DivMod(f, timesOf(p, power, a), m)
				}
			}
		}
	}
}

// Modulo x^n - c the powers of x go round, and each round multiplies by c.
func TestPowModOfTheLongest(t *testing.T) {
	for f, field := range fields {
		p := field.p
		for _, n := range []int{1, 2, 200, 398, 399} {
			for _, c := range []int{1, p - 1, 2} {
				m := monomial(n, 1)
				m[0] = (m[0] + p - c) % p
				for _, e := range []int{0, 1, n - 1, n, n + 1, 12345, 999999, 1000000} {
					want := monomial(e%n, powerOf(p, c, e/n))
					got, ok := impl.PowMod(f, []int{0, 1}, e, m)
					if !ok || !slices.Equal(got, want) {
						t.Errorf("field %d: x^%d modulo x^%d - %d is %v, %v", f, e, n, c, got, ok)
					}
				}
			}
		}
	}
}

func TestPowModEdges(t *testing.T) {
	for f, field := range fields {
		p := field.p
		for _, a := range somePolys(p) {
			for _, e := range []int{0, 1, 2, 7, 999999, 1000000} {
				for _, c := range []int{1, 2, p - 1} {
					if got, ok := impl.PowMod(f, a, e, []int{c}); !ok || !isZero(got) {
						t.Errorf("PowMod(%d, %v, %d, {%d}) is %v, %v", f, a, e, c, got, ok)
					}
				}
			}
			for _, m := range [][]int{{0, 1}, {1, 1}, {3, 0, 2}, somePoly(p, 400, 1)} {
				if got, ok := impl.PowMod(f, a, 0, m); !ok || !slices.Equal(got, []int{1}) {
					t.Errorf("PowMod(%d, %v, 0, %v) is %v, %v", f, a, m, got, ok)
				}
			}
			for _, e := range []int{0, 1, 2, 1000000} {
				for _, zero := range [][]int{nil, {}} {
					if got, ok := impl.PowMod(f, a, e, zero); ok || got != nil {
						t.Errorf("PowMod(%d, %v, %d) modulo zero is %v, %v", f, a, e, got, ok)
					}
				}
			}
			for _, e := range []int{-1, -2, 1000001, 1000002, 1 << 32, -1 << 32, math.MaxInt, math.MinInt} {
				for _, m := range [][]int{nil, {1}, {5}, {1, 0, 1}, {0, 1}} {
					if got, ok := impl.PowMod(f, a, e, m); ok || got != nil {
						t.Errorf("PowMod(%d, %v, %d, %v) is %v, %v", f, a, e, m, got, ok)
					}
				}
			}
		}
	}
}

// Over the smallest field the monic polynomials of degree 4 that are not
// square-free are listed: they are d·d·e for a d of degree 1 or 2.
func TestSquareFreeOfDegreeFour(t *testing.T) {
	var square [17 * 17 * 17 * 17]bool
	mark := func(list []int) {
		square[list[0]+17*list[1]+17*17*list[2]+17*17*17*list[3]] = true
	}
	for i := range 17 {
		for j := range 17 {
			quadratic := []int{i, j, 1}
			mark(timesOf(17, quadratic, quadratic))
			for r := range 17 {
				mark(timesOf(17, withRoots(17, 1, r, r), quadratic))
			}
		}
	}
	for i, want := range square {
		c := 1 + i%16
		a := mixed(17, nil, []int{i % 17, i / 17 % 17, i / (17 * 17) % 17, i / (17 * 17 * 17), 1}, c)
		if got := impl.SquareFree(0, a); got == want {
			t.Errorf("SquareFree(0, %v) is %v", a, got)
		}
	}
}

func TestSquareFree(t *testing.T) {
	for f, field := range fields {
		p := field.p
		noRoots := []int{p - field.g, 0, 1}
		cases := []struct {
			a    []int
			want bool
		}{
			{nil, false}, {[]int{}, false}, {[]int{1}, true}, {[]int{p - 1}, true}, {[]int{0, 2}, true},
			{monomial(2, 1), false}, {monomial(399, 1), false}, {noRoots, true},
			{timesOf(p, noRoots, noRoots), false},
			{timesOf(p, noRoots, []int{0, 1}), true},
			{withRoots(p, 5, 1, 2, 3, 4, 5, 6, 7), true},
			{withRoots(p, 5, 1, 2, 3, 4, 5, 6, 7, 1), false},
			{withRoots(p, 2, 4, 4, 4), false},
			{timesOf(p, timesOf(p, noRoots, noRoots), withRoots(p, 1, 2, 3)), false},
		}
		for _, c := range cases {
			if got := impl.SquareFree(f, c.a); got != c.want {
				t.Errorf("SquareFree(%d, %v) is %v", f, c.a, got)
			}
		}
	}
}

// x^P + c is the P-th power of x + c, and its derivative is zero. With an x
// added the derivative is 1.
func TestSquareFreeOfPowersOfP(t *testing.T) {
	for f, field := range fields {
		for e := field.p; e < 400; e += field.p {
			for _, c := range []int{0, 1, 5} {
				a := monomial(e, 3)
				a[0] = c
				if impl.SquareFree(f, a) {
					t.Errorf("field %d: 3·x^%d + %d is square-free", f, e, c)
				}
				a[1] = 1
				if !impl.SquareFree(f, a) {
					t.Errorf("field %d: 3·x^%d + x + %d is not square-free", f, e, c)
				}
			}
		}
	}
}

func TestSquareFreeByDefinition(t *testing.T) {
	for f, field := range fields {
		p := field.p
		for _, a := range somePolys(p) {
			want := len(impl.GcdPoly(f, a, derivativeOf(p, a))) == 1
			if got := impl.SquareFree(f, a); got != want {
				t.Errorf("SquareFree(%d, %v) is %v", f, a, got)
			}
			if len(a) < 190 && len(a) > 1 && impl.SquareFree(f, timesOf(p, a, a)) {
				t.Errorf("field %d: the square of %v is square-free", f, a)
			}
		}
	}
}

// composedOf adds up a_0 + a_1·b + a_2·b^2 + ...
func composedOf(p int, a []int, b []int) []int {
	var sum []int
	power := []int{1}
	for _, c := range a {
		sum = mixed(p, sum, power, c)
		power = timesOf(p, power, b)
	}
	return sum
}

func checkCompose(t *testing.T, f int, a []int, b []int) {
	t.Helper()
	p := fields[f].p
	got, ok := impl.Compose(f, a, b)
	if len(a) > 1 && len(b) > 1 && (len(a)-1)*(len(b)-1) >= 400 {
		if ok || got != nil {
			t.Errorf("field %d: Compose of %d and %d coefficients has %d, %v", f, len(a), len(b), len(got), ok)
		}
		return
	}
	if want := composedOf(p, a, b); !ok || !slices.Equal(got, want) {
		t.Errorf("Compose(%d, %v, %v) is %v, %v, not %v", f, a, b, got, ok, want)
	}
	for _, x := range []int{0, 1, -3, p / 2, math.MaxInt} {
		if impl.EvalPoly(f, got, x) != impl.EvalPoly(f, a, impl.EvalPoly(f, b, x)) {
			t.Errorf("Compose(%d, %v, %v) has another value at %d", f, a, b, x)
		}
	}
}

func TestCompose(t *testing.T) {
	for f, field := range fields {
		list := append(shortPolys(field.p), somePoly(field.p, 200, 1), somePoly(field.p, 400, 1))
		for _, a := range list {
			for _, b := range list {
				checkCompose(t, f, a, b)
			}
		}
	}
}

func TestMostOfCompose(t *testing.T) {
	degrees := []struct{ a, b int }{
		{1, 399}, {399, 1}, {3, 133}, {133, 3}, {7, 57}, {57, 7}, {19, 21}, {21, 19}, {2, 199}, {199, 2},
		{20, 20}, {2, 200}, {200, 2}, {16, 25}, {25, 16}, {4, 100}, {40, 10}, {3, 134}, {2, 399}, {399, 2}, {399, 399},
		{0, 399}, {399, 0}, {0, 0},
	}
	for f, field := range fields {
		for _, d := range degrees {
			a, b := somePoly(field.p, d.a+1, 8), somePoly(field.p, d.b+1, 9)
			checkCompose(t, f, a, b)
			got, ok := impl.Compose(f, a, b)
			if ok != (d.a*d.b < 400) {
				t.Errorf("field %d: Compose of the degrees %d and %d is %v", f, d.a, d.b, ok)
			}
			if ok && d.a*d.b > 0 && impl.Degree(f, got) != d.a*d.b {
				t.Errorf("field %d: Compose of the degrees %d and %d has degree %d", f, d.a, d.b, impl.Degree(f, got))
			}
		}
	}
}

// A constant that is a root, or zero where there is no constant coefficient,
// leaves nothing of the other polynomial.
func TestComposeToZero(t *testing.T) {
	for f, field := range fields {
		p := field.p
		a := withRoots(p, 2, 1, 3, 5, p-1)
		for _, r := range []int{1, 3, 5, p - 1} {
			if got, ok := impl.Compose(f, a, []int{r}); !ok || !isZero(got) {
				t.Errorf("Compose(%d, %v, {%d}) is %v, %v", f, a, r, got, ok)
			}
		}
		for _, a := range [][]int{{0, 1}, {0, 3, 2}, monomial(399, 1)} {
			if got, ok := impl.Compose(f, a, nil); !ok || !isZero(got) {
				t.Errorf("Compose(%d, %v, nil) is %v, %v", f, a, got, ok)
			}
		}
		if got, ok := impl.Compose(f, []int{4, 1}, nil); !ok || !slices.Equal(got, []int{4}) {
			t.Errorf("Compose(%d, {4, 1}, nil) is %v, %v", f, got, ok)
		}
	}
}

// polyCalls are the functions of the chapter with one polynomial or two. Each
// call returns its lists and its other result, a bool as 0 or 1.
var polyCalls = []struct {
	name    string
	places  int
	refused int
	call    func(f int, a []int, b []int) ([][]int, int)
}{
	{"Trim", 0, 0, func(f int, a []int, b []int) ([][]int, int) { return [][]int{impl.Trim(f, a)}, 0 }},
	{"AddPoly", 2, 0, func(f int, a []int, b []int) ([][]int, int) { return [][]int{impl.AddPoly(f, a, b)}, 0 }},
	{"SubPoly", 2, 0, func(f int, a []int, b []int) ([][]int, int) { return [][]int{impl.SubPoly(f, a, b)}, 0 }},
	{"ScalePoly", 1, 0, func(f int, a []int, b []int) ([][]int, int) { return [][]int{impl.ScalePoly(f, a, 1)}, 0 }},
	{"MulPoly", 2, 0, func(f int, a []int, b []int) ([][]int, int) {
		list, ok := impl.MulPoly(f, a, b)
		return [][]int{list}, asNumber(ok)
	}},
	{"EvalPoly", 1, -1, func(f int, a []int, b []int) ([][]int, int) { return nil, impl.EvalPoly(f, a, 3) }},
	{"DivMod", 2, 0, func(f int, a []int, b []int) ([][]int, int) {
		quotient, rest, ok := impl.DivMod(f, a, b)
		return [][]int{quotient, rest}, asNumber(ok)
	}},
	{"GcdPoly", 2, 0, func(f int, a []int, b []int) ([][]int, int) { return [][]int{impl.GcdPoly(f, a, b)}, 0 }},
	{"Derivative", 1, 0, func(f int, a []int, b []int) ([][]int, int) { return [][]int{impl.Derivative(f, a)}, 0 }},
	{"ShiftPoly by 0", 1, 0, shiftedBy(0)},
	{"ShiftPoly by 1", 1, 0, shiftedBy(1)},
	{"ShiftPoly by -1", 1, 0, shiftedBy(-1)},
	{"ShiftPoly by the smallest", 1, 0, shiftedBy(math.MinInt)},
	{"PowMod with 0", 2, 0, raisedTo(0)},
	{"PowMod with 1", 2, 0, raisedTo(1)},
	{"PowMod with 3", 2, 0, raisedTo(3)},
	{"PowMod with MaxExp + 1", 2, 0, raisedTo(impl.MaxExp + 1)},
	{"SquareFree", 1, 0, func(f int, a []int, b []int) ([][]int, int) { return nil, asNumber(impl.SquareFree(f, a)) }},
	{"Compose", 2, 0, func(f int, a []int, b []int) ([][]int, int) {
		list, ok := impl.Compose(f, a, b)
		return [][]int{list}, asNumber(ok)
	}},
}

func shiftedBy(n int) func(int, []int, []int) ([][]int, int) {
	return func(f int, a []int, b []int) ([][]int, int) {
		list, ok := impl.ShiftPoly(f, a, n)
		return [][]int{list}, asNumber(ok)
	}
}

func raisedTo(e int) func(int, []int, []int) ([][]int, int) {
	return func(f int, a []int, b []int) ([][]int, int) {
		list, ok := impl.PowMod(f, a, e, b)
		return [][]int{list}, asNumber(ok)
	}
}

func asNumber(b bool) int {
	if b {
		return 1
	}
	return 0
}

func TestListsThatAreNoPolys(t *testing.T) {
	for f, field := range fields {
		beside := [][]int{nil, {1}, {1, 1}, somePoly(field.p, 400, 1), {0}}
		for _, c := range polyCalls {
			for _, wrong := range noPolys(field.p) {
				for _, b := range beside {
					if c.places > 0 {
						checkRefused(t, c.name, c.refused, f, wrong, b, c.call)
					}
					if c.places > 1 {
						checkRefused(t, c.name, c.refused, f, b, wrong, c.call)
					}
				}
			}
		}
	}
}

func TestPolysOfNoField(t *testing.T) {
	for _, f := range noFields {
		for _, c := range polyCalls {
			for _, a := range [][]int{nil, {}, {1}, {1, 2, 1}, {0}} {
				for _, b := range [][]int{nil, {}, {1}, {1, 1}, {0}} {
					checkRefused(t, c.name, c.refused, f, a, b, c.call)
				}
			}
		}
	}
}

func checkRefused(t *testing.T, name string, refused int, f int, a []int, b []int, call func(int, []int, []int) ([][]int, int)) {
	t.Helper()
	lists, other := call(f, a, b)
	if other != refused {
		t.Errorf("%s in field %d with %v and %v gives %d", name, f, a, b, other)
	}
	for _, list := range lists {
		if list != nil {
			t.Errorf("%s in field %d with %v and %v gives %v", name, f, a, b, list)
		}
	}
}

// checkApart writes into a result, up to its capacity, and looks whether
// anything that must not share its memory has changed.
func checkApart(t *testing.T, name string, result []int, others ...[]int) {
	t.Helper()
	var kept [][]int
	for _, list := range others {
		kept = append(kept, slices.Clone(list))
	}
	whole := result[:cap(result)]
	for i := range whole {
		whole[i] ^= -1
	}
	for i, list := range others {
		if !slices.Equal(list, kept[i]) {
			t.Errorf("%s shares the memory of %v", name, kept[i])
		}
	}
	for i := range whole {
		whole[i] ^= -1
	}
}

func TestPolysShareNoMemory(t *testing.T) {
	for f, field := range fields {
		list := append(shortPolys(field.p), somePoly(field.p, 200, 1), somePoly(field.p, 400, 1))
		for _, c := range polyCalls {
			for _, first := range list {
				for _, second := range list {
					// Each argument has room behind it, which is not to be used either.
					a := append(slices.Clone(first), 7, 7, 7)[:len(first)]
					b := append(slices.Clone(second), 7, 7, 7)[:len(second)]
					results, _ := c.call(f, a, b)
					checkUntouched(t, c.name, a, first)
					checkUntouched(t, c.name, b, second)
					for i, result := range results {
						checkApart(t, c.name, result, append([][]int{a[:len(a)+3], b[:len(b)+3]}, results[:i]...)...)
					}
				}
			}
			// The two arguments may be one list.
			for _, first := range list {
				a := slices.Clone(first)
				results, _ := c.call(f, a, a)
				if !slices.Equal(a, first) {
					t.Errorf("%s in field %d changes %v", c.name, f, first)
				}
				for _, result := range results {
					checkApart(t, c.name, result, a)
				}
			}
		}
	}
}

// checkUntouched takes an argument with three sevens behind it.
func checkUntouched(t *testing.T, name string, a []int, before []int) {
	t.Helper()
	if !slices.Equal(a, before) || !slices.Equal(a[len(a):len(a)+3], []int{7, 7, 7}) {
		t.Errorf("%s changes its argument %v", name, before)
	}
}
