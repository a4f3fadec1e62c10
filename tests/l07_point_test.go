package tests

import (
	"math"
	"math/bits"
	"slices"
	"testing"

	"loop.example/g00710/impl"
)

// pointCounts are numbers of points, up to MaxPoints or to as many as a field
// has.
func pointCounts(p int) []int {
	var list []int
	for _, n := range []int{1, 2, 3, 4, 5, 7, 8, 9, 10, 11, 16, 17, 31, 32, 33, 39, 40} {
		if n <= p {
			list = append(list, n)
		}
	}
	return list
}

// somePoints returns n distinct elements in no order, others for each seed.
func somePoints(p int, n int, seed int) []int {
	source := numbers(p + 1000003*n + 7919*seed)
	var list []int
	for len(list) < n {
		if x := element(p, large(source.next())); !slices.Contains(list, x) {
			list = append(list, x)
		}
	}
	return list
}

// pointLists returns lists of n points: ascending, descending and in no order.
func pointLists(p int, n int) [][]int {
	up, down := make([]int, n), make([]int, n)
	for i := range n {
		up[i], down[i] = i, p-1-i
	}
	return [][]int{up, down, somePoints(p, n, 1), somePoints(p, n, 2)}
}

// eachPoints calls check for lists of points of every field.
func eachPoints(check func(f int, xs []int)) {
	for f, field := range fields {
		for _, n := range pointCounts(field.p) {
			for _, xs := range pointLists(field.p, n) {
				check(f, xs)
			}
		}
	}
}

// eachValued calls check for points with values: zeros only, equal ones, the
// greatest ones, arbitrary ones, and one other than 0 at the first, at the
// middle and at the last point.
func eachValued(check func(f int, xs []int, ys []int)) {
	eachPoints(func(f int, xs []int) {
		for _, ys := range someVectors(fields[f].p, len(xs)) {
			check(f, xs, ys)
		}
	})
}

// eachCode calls check for points and every size of a message, in every field.
func eachCode(check func(f int, xs []int, k int)) {
	for f, field := range fields {
		for n := 1; n <= 10; n++ {
			for k := 1; k <= n; k++ {
				check(f, somePoints(field.p, n, k), k)
			}
		}
	}
}

// someMessages returns messages of k elements: zeros only, with zeros at the
// end, with zeros before the last element, and arbitrary ones.
func someMessages(p int, k int) [][]int {
	return [][]int{make([]int, k), unit(k, 0, p-1), unit(k, k-1, 1), ofLength(somePoly(p, (k+1)/2, 1), k), someVector(p, k, 1)}
}

// inTurn reports whether the choice with index j is tried with the message or
// in the field with index i: in short words with all of them, in longer ones
// with one of five.
func inTurn(n int, i int, j int) bool { return n <= 6 || (i+j)%5 == n%5 }

// valuesOf works out each power of a point from the one before. Elements are
// so small that their products are ints.
func valuesOf(p int, a []int, xs []int) []int {
	out := make([]int, len(xs))
	for i, x := range xs {
		power := 1
		for _, c := range a {
			out[i] = (out[i] + c*power) % p
			power = power * x % p
		}
	}
	return out
}

// throughOf adds up, for each point, its value times the polynomial that is 1
// there and 0 at the others.
func throughOf(p int, xs []int, ys []int) []int {
	out := make([]int, len(xs))
	for i, x := range xs {
		basis, below := []int{1}, 1
		for j, c := range xs {
			if j == i {
				continue
			}
			below = below * (x - c + p) % p
			longer := append(basis, 0)
			basis = make([]int, len(longer))
			for d := range longer {
				basis[d] = (at(longer, d-1) + (p-c)*longer[d]) % p
			}
		}
		share := ys[i] * powerOf(p, below, -1) % p
		out = sumOf(p, out, basis, share)
	}
	return out
}

// choices returns every way to choose e of the indices 0..n-1.
func choices(n int, e int) [][]int {
	var list [][]int
	for mask := range uint(1) << n {
		if bits.OnesCount(mask) != e {
			continue
		}
		var chosen []int
		for i := range n {
			if mask>>i&1 == 1 {
				chosen = append(chosen, i)
			}
		}
		list = append(list, chosen)
	}
	return list
}

func chosenFrom(list []int, indices []int) []int {
	var out []int
	for _, i := range indices {
		out = append(out, list[i])
	}
	return out
}

// others returns the indices 0..n-1 without those of the list.
func others(n int, list []int) []int {
	var out []int
	for i := range n {
		if !slices.Contains(list, i) {
			out = append(out, i)
		}
	}
	return out
}

// differencesOf returns the indices at which two lists of one length differ.
func differencesOf(a []int, b []int) []int {
	var out []int
	for i, x := range a {
		if x != b[i] {
			out = append(out, i)
		}
	}
	return out
}

// bent returns the word with other elements at the given indices.
func bent(p int, word []int, wrong []int, seed int) []int {
	source := numbers(p + 7919*seed)
	out := slices.Clone(word)
	for _, i := range wrong {
		out[i] = (out[i] + 1 + element(p-1, large(source.next()))) % p
	}
	return out
}

// nearestOf looks for the message by the chapter's definition. At least k of
// the values are right, so some k of them lead to it.
func nearestOf(p int, xs []int, ys []int, k int) ([]int, []int, bool) {
	for _, right := range choices(len(xs), k) {
		message := throughOf(p, chosenFrom(xs, right), chosenFrom(ys, right))
		wrong := differencesOf(ys, valuesOf(p, message, xs))
		if len(wrong) <= (len(xs)-k)/2 {
			return message, wrong, true
		}
	}
	return nil, nil, false
}

func checkDecoded(t *testing.T, f int, xs []int, ys []int, message []int, wrong []int) {
	t.Helper()
	k := len(message)
	if got, count, ok := impl.DecodeWord(f, xs, ys, k); !ok || count != len(wrong) || !slices.Equal(got, message) {
		t.Errorf("DecodeWord(%d, %v, %v, %d) is %v, %d, %v, not %v", f, xs, ys, k, got, count, ok, message)
	}
	if got := impl.Blame(f, xs, ys, k); !slices.Equal(got, wrong) {
		t.Errorf("Blame(%d, %v, %v, %d) is %v, not %v", f, xs, ys, k, got, wrong)
	}
}

func checkUndecoded(t *testing.T, f int, xs []int, ys []int, k int) {
	t.Helper()
	if got, count, ok := impl.DecodeWord(f, xs, ys, k); ok || count != 0 || got != nil {
		t.Errorf("DecodeWord(%d, %v, %v, %d) is %v, %d, %v", f, xs, ys, k, got, count, ok)
	}
	if got := impl.Blame(f, xs, ys, k); got != nil {
		t.Errorf("Blame(%d, %v, %v, %d) is %v", f, xs, ys, k, got)
	}
}

// checkNearest holds a word against the search for its message.
func checkNearest(t *testing.T, f int, xs []int, ys []int, k int) {
	t.Helper()
	if message, wrong, ok := nearestOf(fields[f].p, xs, ys, k); ok {
		checkDecoded(t, f, xs, ys, message, wrong)
	} else {
		checkUndecoded(t, f, xs, ys, k)
	}
}

func checkGaps(t *testing.T, f int, xs []int, ys []int, gone []int, message []int, errors int) {
	t.Helper()
	k := len(message)
	if got, count, ok := impl.DecodeGaps(f, xs, ys, k, gone); !ok || count != errors || !slices.Equal(got, message) {
		t.Errorf("DecodeGaps(%d, %v, %v, %d, %v) is %v, %d, %v, not %v, %d", f, xs, ys, k, gone, got, count, ok, message, errors)
	}
}

func checkNoGaps(t *testing.T, f int, xs []int, ys []int, k int, gone []int) {
	t.Helper()
	if got, count, ok := impl.DecodeGaps(f, xs, ys, k, gone); ok || count != 0 || got != nil {
		t.Errorf("DecodeGaps(%d, %v, %v, %d, %v) is %v, %d, %v", f, xs, ys, k, gone, got, count, ok)
	}
}

func checkThrough(t *testing.T, f int, xs []int, ys []int, want []int) {
	t.Helper()
	if got, ok := impl.Interpolate(f, xs, ys); !ok || !slices.Equal(got, want) {
		t.Errorf("Interpolate(%d, %v, %v) is %v, %v, not %v", f, xs, ys, got, ok, want)
	}
}

func TestPointExamples(t *testing.T) {
	if !impl.PointsOk(0, []int{4, 2}) {
		t.Error("PointsOk is false")
	}
	if got := impl.Vanish(0, []int{1, 2}); !slices.Equal(got, []int{2, 14, 1}) {
		t.Errorf("Vanish is %v", got)
	}
	if got := impl.EvalMany(0, []int{1, 1}, []int{0, 5, 5}); !slices.Equal(got, []int{1, 6, 6}) {
		t.Errorf("EvalMany is %v", got)
	}
	checkThrough(t, 0, []int{0, 1}, []int{3, 5}, []int{3, 2})
	if got := impl.Extend(0, []int{0, 1}, []int{3, 5}, 2); got != 7 {
		t.Errorf("Extend is %d", got)
	}
	if got := impl.Weights(0, []int{0, 1}); !slices.Equal(got, []int{16, 1}) {
		t.Errorf("Weights is %v", got)
	}
	if got := impl.Differ([]int{1, 2}, []int{1, 3, 4}); got != 2 {
		t.Errorf("Differ is %d", got)
	}
	xs := []int{0, 1, 2, 3, 4}
	if got := impl.EncodeWord(0, xs, []int{1, 1}); !slices.Equal(got, []int{1, 2, 3, 4, 5}) {
		t.Errorf("EncodeWord is %v", got)
	}
	checkDecoded(t, 0, xs, []int{1, 2, 9, 4, 5}, []int{1, 1}, []int{2})
	checkGaps(t, 0, xs, []int{1, 2, 9, 9, 5}, []int{2, 3}, []int{1, 1}, 0)
	if impl.MaxPoints != 40 || impl.MaxCode != 10 {
		t.Errorf("MaxPoints is %d, MaxCode is %d", impl.MaxPoints, impl.MaxCode)
	}
}

func TestPointsOk(t *testing.T) {
	for f, field := range fields {
		for n := range min(field.p, 60) + 1 {
			for _, xs := range pointLists(field.p, n) {
				if got := impl.PointsOk(f, xs); got != (n >= 1 && n <= 40) {
					t.Errorf("PointsOk in field %d of %d points is %v", f, n, got)
				}
			}
		}
		for _, x := range samples(f) {
			if !impl.PointsOk(f, []int{x}) || impl.PointsOk(f, []int{x, x}) || !impl.PointsOk(f, []int{(x + 1) % field.p, x}) {
				t.Errorf("PointsOk in field %d takes %d wrongly", f, x)
			}
		}
	}
}

func TestVanish(t *testing.T) {
	eachPoints(func(f int, xs []int) {
		p := fields[f].p
		got := impl.Vanish(f, xs)
		if want := withRoots(p, 1, xs...); !slices.Equal(got, want) {
			t.Errorf("Vanish(%d, %v) is %v, not %v", f, xs, got, want)
		}
		sorted := slices.Sorted(slices.Values(xs))
		if ordered := impl.Vanish(f, sorted); !slices.Equal(got, ordered) {
			t.Errorf("Vanish(%d, %v) is %v, in ascending order %v", f, xs, got, ordered)
		}
	})
}

func TestEvalMany(t *testing.T) {
	for f, field := range fields {
		for _, a := range somePolys(field.p) {
			for _, n := range []int{0, 1, 2, 3, 5, 17, 39, 40} {
				xs := someVector(field.p, n, 1)
				if got, want := impl.EvalMany(f, a, xs), valuesOf(field.p, a, xs); !slices.Equal(got, want) {
					t.Errorf("EvalMany(%d, %v, %v) is %v, not %v", f, a, xs, got, want)
				}
			}
		}
	}
}

// Each value is that of chapter 3.
func TestEvalManyIsEvalPoly(t *testing.T) {
	eachPoints(func(f int, xs []int) {
		for _, a := range append(shortPolys(fields[f].p), somePoly(fields[f].p, 400, 3)) {
			got := impl.EvalMany(f, a, xs)
			if len(got) != len(xs) {
				t.Fatalf("EvalMany in field %d at %d points has %d values", f, len(xs), len(got))
			}
			for i, x := range xs {
				if want := impl.EvalPoly(f, a, x); got[i] != want {
					t.Errorf("EvalMany(%d, %v, %v) has %d at %d, not %d", f, a, xs, got[i], i, want)
				}
			}
		}
	})
}

func TestEvalManyOfRepeatedPoints(t *testing.T) {
	for f, field := range fields {
		for _, a := range somePolys(field.p) {
			for _, x := range []int{0, 1, 5, field.p - 1} {
				value := valuesOf(field.p, a, []int{x})[0]
				for _, n := range []int{2, 3, 17, 40} {
					if got := impl.EvalMany(f, a, equalElements(n, x)); !slices.Equal(got, equalElements(n, value)) {
						t.Errorf("EvalMany(%d, %v) at %d, %d times, is %v", f, a, x, n, got)
					}
				}
			}
			xs := []int{3, 0, 3, 1, 0, 0, 1, 3, field.p - 1, field.p - 1}
			if got, want := impl.EvalMany(f, a, xs), valuesOf(field.p, a, xs); !slices.Equal(got, want) {
				t.Errorf("EvalMany(%d, %v, %v) is %v, not %v", f, a, xs, got, want)
			}
		}
	}
}

func TestEvalManyOfNothing(t *testing.T) {
	for f, field := range fields {
		for _, a := range somePolys(field.p) {
			if got := impl.EvalMany(f, a, nil); len(got) != 0 {
				t.Errorf("EvalMany(%d, %v) at no points is %v", f, a, got)
			}
		}
		for n := range 41 {
			xs := someVector(field.p, n, 2)
			for _, zero := range [][]int{nil, {}} {
				if got := impl.EvalMany(f, zero, xs); !slices.Equal(got, make([]int, n)) {
					t.Errorf("EvalMany(%d) of zero at %v is %v", f, xs, got)
				}
			}
			if got := impl.EvalMany(f, []int{field.p - 1}, xs); !slices.Equal(got, equalElements(n, field.p-1)) {
				t.Errorf("EvalMany(%d) of a constant at %v is %v", f, xs, got)
			}
		}
	}
}

// No other polynomial of a degree below the number of points has these values.
func TestInterpolate(t *testing.T) {
	eachValued(func(f int, xs []int, ys []int) {
		p := fields[f].p
		got, ok := impl.Interpolate(f, xs, ys)
		if !ok || len(got) > len(xs) || !impl.PolyOk(f, got) || !slices.Equal(valuesOf(p, got, xs), ys) {
			t.Errorf("Interpolate(%d, %v, %v) is %v, %v", f, xs, ys, got, ok)
		}
		if values := impl.EvalMany(f, got, xs); !slices.Equal(values, ys) {
			t.Errorf("field %d: the values of %v through %v at %v are %v", f, got, ys, xs, values)
		}
		if len(xs) <= 11 {
			checkThrough(t, f, xs, ys, trimmed(p, throughOf(p, xs, ys)))
		}
	})
}

// Zero, constants and every other degree below the number of points.
func TestInterpolateOfEvalMany(t *testing.T) {
	eachPoints(func(f int, xs []int) {
		p := fields[f].p
		for size := range len(xs) + 1 {
			a := somePoly(p, size, 2)
			ys := impl.EvalMany(f, a, xs)
			checkThrough(t, f, xs, ys, a)
		}
		for _, c := range []int{1, 2, p / 2, p - 1} {
			checkThrough(t, f, xs, equalElements(len(xs), c), []int{c})
		}
		checkThrough(t, f, xs, make([]int, len(xs)), nil)
	})
}

func TestInterpolateInAnyOrder(t *testing.T) {
	eachValued(func(f int, xs []int, ys []int) {
		want, _ := impl.Interpolate(f, xs, ys)
		for _, r := range []int{1, len(xs) / 2, len(xs) - 1} {
			checkThrough(t, f, turned(xs, r), turned(ys, r), want)
		}
		reversed, values := slices.Clone(xs), slices.Clone(ys)
		slices.Reverse(reversed)
		slices.Reverse(values)
		checkThrough(t, f, reversed, values, want)
	})
}

func turned(list []int, r int) []int { return slices.Concat(list[r:], list[:r]) }

// At all elements of field 0, x^17 - x is 0, and every list of values has a
// polynomial.
func TestAllElementsAsPoints(t *testing.T) {
	for seed := range 20 {
		xs := somePoints(17, 17, seed)
		if got := impl.Vanish(0, xs); !slices.Equal(got, append([]int{0, 16}, monomial(15, 1)...)) {
			t.Errorf("Vanish of %v is %v", xs, got)
		}
		if got := impl.Weights(0, xs); !slices.Equal(got, equalElements(17, 16)) {
			t.Errorf("Weights of %v are %v", xs, got)
		}
		ys := someVector(17, 17, seed)
		checkThrough(t, 0, xs, ys, trimmed(17, throughOf(17, xs, ys)))
		for i, x := range xs {
			if got := impl.Extend(0, xs, ys, x); got != ys[i] {
				t.Errorf("Extend(0, %v, %v, %d) is %d", xs, ys, x, got)
			}
		}
		squares := valuesOf(17, []int{0, 0, 1}, xs)
		checkThrough(t, 0, xs, squares, []int{0, 0, 1})
		if got := impl.EvalMany(0, monomial(17, 1), xs); !slices.Equal(got, xs) {
			t.Errorf("the 17th powers of %v are %v", xs, got)
		}
	}
}

func TestExtend(t *testing.T) {
	eachPoints(func(f int, xs []int) {
		p := fields[f].p
		for _, a := range [][]int{nil, {p - 1}, somePoly(p, (len(xs)+1)/2, 1), somePoly(p, len(xs), 1)} {
			ys := valuesOf(p, a, xs)
			for i, x := range xs {
				if got := impl.Extend(f, xs, ys, x); got != ys[i] {
					t.Errorf("Extend(%d, %v, %v, %d) at a point is %d", f, xs, ys, x, got)
				}
			}
			for _, x := range somePoints(p, min(p, 20), 3) {
				if got, want := impl.Extend(f, xs, ys, x), valuesOf(p, a, []int{x})[0]; got != want {
					t.Errorf("Extend(%d, %v, %v, %d) is %d, not %d", f, xs, ys, x, got, want)
				}
			}
		}
	})
}

func TestExtendToEachElement(t *testing.T) {
	for f, field := range fields {
		xs, a := somePoints(field.p, 5, 4), somePoly(field.p, 5, 4)
		ys := valuesOf(field.p, a, xs)
		for _, x := range samples(f) {
			if got, want := impl.Extend(f, xs, ys, x), valuesOf(field.p, a, []int{x})[0]; got != want {
				t.Errorf("Extend(%d, %v, %v, %d) is %d, not %d", f, xs, ys, x, got, want)
			}
			if got := impl.Extend(f, []int{x}, []int{3}, field.p-1); got != 3 {
				t.Errorf("Extend(%d) from the point %d is %d", f, x, got)
			}
		}
	}
}

func TestWeights(t *testing.T) {
	eachPoints(func(f int, xs []int) {
		p := fields[f].p
		got := impl.Weights(f, xs)
		if len(got) != len(xs) {
			t.Fatalf("Weights(%d, %v) are %v", f, xs, got)
		}
		for i, x := range xs {
			product := 1
			for j, c := range xs {
				if j != i {
					product = product * (x - c + p) % p
				}
			}
			if want := powerOf(p, product, -1); got[i] != want {
				t.Errorf("Weights(%d, %v) are %v, with %d at %d", f, xs, got, want, i)
			}
		}
	})
	for f := range fields {
		for _, x := range samples(f) {
			if got := impl.Weights(f, []int{x}); !slices.Equal(got, []int{1}) {
				t.Errorf("Weights(%d) of the point %d are %v", f, x, got)
			}
		}
	}
}

func TestEncodeWord(t *testing.T) {
	eachCode(func(f int, xs []int, k int) {
		p := fields[f].p
		for _, points := range append(pointLists(p, len(xs)), xs) {
			for _, message := range append(someMessages(p, k), equalElements(k, p-1), someVector(p, k, 2)) {
				got := impl.EncodeWord(f, points, message)
				if want := valuesOf(p, message, points); !slices.Equal(got, want) {
					t.Errorf("EncodeWord(%d, %v, %v) is %v, not %v", f, points, message, got, want)
				}
			}
		}
	})
}

// Two words of one code have at most k - 1 elements in common.
func TestWordsOfDifferentMessages(t *testing.T) {
	eachCode(func(f int, xs []int, k int) {
		messages := append(someMessages(fields[f].p, k), someVector(fields[f].p, k, 3))
		for _, a := range messages {
			for _, b := range messages {
				apart := impl.Differ(impl.EncodeWord(f, xs, a), impl.EncodeWord(f, xs, b))
				if slices.Equal(a, b) && apart != 0 || !slices.Equal(a, b) && apart <= len(xs)-k {
					t.Errorf("field %d: the words of %v and %v at %v differ in %d", f, a, b, xs, apart)
				}
			}
		}
	})
}

func TestDiffer(t *testing.T) {
	long := arbitrary(4096)
	bentInside := slices.Clone(long)
	bentInside[0], bentInside[4095] = bentInside[0]^1, bentInside[4095]^1
	for _, c := range []struct {
		a, b []int
		want int
	}{
		{nil, nil, 0},
		{nil, []int{}, 0},
		{nil, []int{0}, 1},
		{[]int{0}, []int{0, 0}, 1},
		{[]int{5}, []int{6}, 1},
		{[]int{1, 2, 3}, []int{1, 2, 3}, 0},
		{[]int{1, 2, 3}, []int{3, 2, 1}, 2},
		{[]int{1, 2, 3}, []int{2, 3}, 3},
		{[]int{math.MaxInt, math.MinInt}, []int{math.MinInt, math.MinInt}, 1},
		{[]int{0, 17, -1}, []int{17, 0, 16}, 3},
		{make([]int, 4096), nil, 4096},
		{make([]int, 4096), equalElements(4096, 1), 4096},
		{make([]int, 4096), make([]int, 4095), 1},
		{long, long, 0},
		{long, bentInside, 2},
		{long, bentInside[:4095], 2},
		{long, nil, 4096},
	} {
		for _, got := range []int{impl.Differ(c.a, c.b), impl.Differ(c.b, c.a)} {
			if got != c.want {
				t.Errorf("Differ of lists of %d and %d elements is %d, not %d", len(c.a), len(c.b), got, c.want)
			}
		}
	}
}

func TestDifferOfTooLongLists(t *testing.T) {
	for _, n := range []int{4097, 4098, 5000, 100000} {
		for _, m := range []int{0, 1, 4095, 4096, 4097, n} {
			if got := impl.Differ(make([]int, n), make([]int, m)); got != -1 {
				t.Errorf("Differ of lists of %d and %d elements is %d", n, m, got)
			}
			if got := impl.Differ(make([]int, m), make([]int, n)); got != -1 {
				t.Errorf("Differ of lists of %d and %d elements is %d", m, n, got)
			}
		}
	}
}

// Up to half of the redundant symbols may be wrong, at any indices.
func TestDecodeWord(t *testing.T) {
	eachCode(func(f int, xs []int, k int) {
		p, n := fields[f].p, len(xs)
		for i, message := range someMessages(p, k) {
			word := valuesOf(p, message, xs)
			for e := range (n-k)/2 + 1 {
				for j, wrong := range choices(n, e) {
					if e == 0 || inTurn(n, i, j) {
						checkDecoded(t, f, xs, bent(p, word, wrong, i+7*j), message, wrong)
					}
				}
			}
		}
	})
}

// The errors are of any size, and the points in any order.
func TestDecodeWordWithAnyErrors(t *testing.T) {
	for f, field := range fields {
		for _, xs := range append(pointLists(field.p, 10), pointLists(field.p, 9)...) {
			for k := 1; k <= len(xs); k++ {
				message := someVector(field.p, k, 4)
				word := impl.EncodeWord(f, xs, message)
				wrong := others(len(xs), nil)[:(len(xs)-k)/2]
				for _, x := range []int{1, 2, field.p / 2, field.p - 1} {
					ys := slices.Clone(word)
					for _, i := range wrong {
						ys[i] = (ys[i] + x) % field.p
					}
					checkDecoded(t, f, xs, ys, message, wrong)
				}
			}
		}
	}
}

// With n - k odd, one error more than half leaves a word that is not within
// half of any message's word; with n - k even it may be, but of another one's.
func TestDecodeWordWithOneErrorTooMany(t *testing.T) {
	eachCode(func(f int, xs []int, k int) {
		p, n := fields[f].p, len(xs)
		for i, message := range someMessages(p, k) {
			word := valuesOf(p, message, xs)
			for j, wrong := range choices(n, (n-k)/2+1) {
				if !inTurn(n, i, j) {
					continue
				}
				ys := bent(p, word, wrong, i+7*j)
				if (n-k)%2 == 1 {
					checkUndecoded(t, f, xs, ys, k)
				} else if got, _, ok := impl.DecodeWord(f, xs, ys, k); ok && slices.Equal(got, message) {
					t.Errorf("DecodeWord(%d, %v, %v, %d) is %v in spite of %d errors", f, xs, ys, k, got, len(wrong))
				} else if j%16 == 0 {
					checkNearest(t, f, xs, ys, k)
				}
			}
		}
	})
}

// Two messages whose words have k - 1 elements in common: beyond half of the
// way from one word to the other, the other message is found.
func TestDecodeWordNearAnotherMessage(t *testing.T) {
	eachCode(func(f int, xs []int, k int) {
		p, n := fields[f].p, len(xs)
		first := someVector(p, k, 5)
		second := sumOf(p, first, ofLength(withRoots(p, 1, xs[:k-1]...), k), 1)
		from, to := valuesOf(p, first, xs), valuesOf(p, second, xs)
		for moved := range n - k + 2 {
			ys := slices.Concat(to[:k-1+moved], from[k-1+moved:])
			switch half := (n - k) / 2; {
			case moved <= half:
				checkDecoded(t, f, xs, ys, first, others(n, nil)[k-1:k-1+moved])
			case n-k+1-moved <= half:
				checkDecoded(t, f, xs, ys, second, others(n, nil)[k-1+moved:])
			default:
				checkUndecoded(t, f, xs, ys, k)
			}
		}
	})
}

// Arbitrary words: mostly, but not always, no message is near enough.
func TestDecodeAnyWord(t *testing.T) {
	eachCode(func(f int, xs []int, k int) {
		p, n := fields[f].p, len(xs)
		for seed := range 6 {
			checkNearest(t, f, xs, someVector(p, n, 10+seed), k)
		}
		checkNearest(t, f, xs, unit(n, n/2, 1), k)
		checkNearest(t, f, xs, append(make([]int, n/2), equalElements(n-n/2, p-1)...), k)
		checkDecoded(t, f, xs, make([]int, n), make([]int, k), nil)
		checkDecoded(t, f, xs, equalElements(n, p-1), unit(k, 0, p-1), nil)
	})
}

// lists17 are the numbers of lists of 0, 1, ... elements of field 0.
var lists17 = []int{1, 17, 289, 4913, 83521}

func list17(number int, n int) []int {
	list := make([]int, n)
	for i := range list {
		list[i] = number / lists17[i] % 17
	}
	return list
}

// nearWords goes over all messages of k elements of field 0, and keeps every
// word within half of theirs with the message behind it.
func nearWords(xs []int, k int) map[[4]int][]int {
	list := map[[4]int][]int{}
	for number := range lists17[k] {
		message := list17(number, k)
		word := [4]int(ofLength(valuesOf(17, message, xs), 4))
		list[word] = message
		if (len(xs)-k)/2 < 1 {
			continue
		}
		for i := range xs {
			for x := range 17 {
				near := word
				near[i] = x
				list[near] = message
			}
		}
	}
	return list
}

// Every word of up to four elements of field 0, where half of the redundant
// symbols is one symbol or none.
func TestEveryShortWord(t *testing.T) {
	for n := 1; n <= 4; n++ {
		xs := []int{5, 0, 16, 3}[:n]
		for k := 1; k <= n; k++ {
			near := nearWords(xs, k)
			for number := range lists17[n] {
				ys := list17(number, n)
				message, want := near[[4]int(ofLength(ys, 4))]
				got, _, ok := impl.DecodeWord(0, xs, ys, k)
				if ok != want || !slices.Equal(got, message) {
					t.Fatalf("DecodeWord(0, %v, %v, %d) is %v, %v, not %v", xs, ys, k, got, ok, message)
				}
			}
		}
	}
}

// noElements are integers that are not elements of the field of p.
func noElements(p int) []int {
	return []int{p, p + 1, 2 * p, p * p, -1, -2, -p, 1 - p, 1 << 32, 1<<32 + 1, math.MaxInt, math.MinInt, math.MinInt + 1, math.MinInt / p * p, math.MaxInt/p*p + 1}
}

// Erasures only: none, as many as leave k points, more of them, and all. The
// values there need not be elements.
func TestDecodeGaps(t *testing.T) {
	eachCode(func(f int, xs []int, k int) {
		p, n := fields[f].p, len(xs)
		outside := noElements(p)
		for i, message := range someMessages(p, k) {
			word := valuesOf(p, message, xs)
			for count := range n + 1 {
				for j, gone := range choices(n, count) {
					if !inTurn(n, i, j) {
						continue
					}
					ys := bent(p, word, gone, j)
					if j%2 == 1 {
						for place, index := range gone {
							ys[index] = outside[(place+j/2)%len(outside)]
						}
					}
					if count <= n-k {
						checkGaps(t, f, xs, ys, gone, message, 0)
					} else {
						checkNoGaps(t, f, xs, ys, k, gone)
					}
				}
			}
		}
	})
}

// Of the redundant symbols that are left beside erasures, half may be wrong.
func TestDecodeGapsWithErrors(t *testing.T) {
	eachCode(func(f int, xs []int, k int) {
		p, n := fields[f].p, len(xs)
		message := someVector(p, k, 6)
		word := valuesOf(p, message, xs)
		for count := range n - k + 1 {
			half := (n - count - k) / 2
			for j, gone := range choices(n, count) {
				if !inTurn(n, f, j) {
					continue
				}
				left := others(n, gone)
				for e := range half + 1 {
					wrong := turned(left, j%len(left))[:e]
					ys := bent(p, bent(p, word, gone, j), wrong, j)
					checkGaps(t, f, xs, ys, gone, message, e)
				}
				wrong := turned(left, j%len(left))[:half+1]
				ys := bent(p, bent(p, word, gone, j), wrong, j)
				points, values := chosenFrom(xs, left), chosenFrom(ys, left)
				want, errors, ok := impl.DecodeWord(f, points, values, k)
				got, again, ok2 := impl.DecodeGaps(f, xs, ys, k, gone)
				if !slices.Equal(got, want) || again != errors || ok2 != ok || ok && slices.Equal(got, message) || ok && (n-count-k)%2 == 1 {
					t.Errorf("DecodeGaps(%d, %v, %v, %d, %v) is %v, %d, %v, without erasures %v, %d, %v", f, xs, ys, k, gone, got, again, ok2, want, errors, ok)
				}
			}
		}
	})
}

func TestDecodeGapsWithoutErasures(t *testing.T) {
	eachCode(func(f int, xs []int, k int) {
		p, n := fields[f].p, len(xs)
		message := someVector(p, k, 7)
		for e := range (n-k)/2 + 2 {
			ys := bent(p, valuesOf(p, message, xs), others(n, nil)[:min(e, n)], e)
			want, errors, ok := impl.DecodeWord(f, xs, ys, k)
			for _, gone := range [][]int{nil, {}} {
				got, again, ok2 := impl.DecodeGaps(f, xs, ys, k, gone)
				if !slices.Equal(got, want) || again != errors || ok2 != ok {
					t.Errorf("DecodeGaps(%d, %v, %v, %d) is %v, %d, %v, DecodeWord %v, %d, %v", f, xs, ys, k, got, again, ok2, want, errors, ok)
				}
			}
		}
	})
}

func TestErasuresThatAreNone(t *testing.T) {
	for f, field := range fields {
		for n := 1; n <= 10; n++ {
			xs, ys := somePoints(field.p, n, 8), equalElements(n, 1)
			for _, x := range []int{-1, -2, -n, n, n + 1, 10, 17, 1 << 32, -1 << 32, math.MaxInt, math.MinInt, math.MinInt + 1} {
				checkNoGaps(t, f, xs, ys, 1, []int{x})
				if n > 2 {
					checkNoGaps(t, f, xs, ys, 1, []int{0, x})
					checkNoGaps(t, f, xs, ys, 1, []int{x, 0})
					checkNoGaps(t, f, xs, ys, 1, []int{0, x, 1})
				}
			}
			for i := range n {
				checkNoGaps(t, f, xs, ys, 1, []int{i, i})
				checkNoGaps(t, f, xs, ys, 1, append(others(i+1, nil), i))
				for j := range i {
					checkNoGaps(t, f, xs, ys, 1, []int{i, j})
					checkNoGaps(t, f, xs, ys, 1, []int{j, i, j})
				}
			}
			checkNoGaps(t, f, xs, ys, 1, others(n+1, nil))
			checkNoGaps(t, f, xs, ys, 1, make([]int, 5000))
			checkNoGaps(t, f, xs, ys, 1, others(5000, nil))
		}
	}
}

// The points and k are those of a code before anything is removed.
func TestErasuresDoNotMendACode(t *testing.T) {
	for f, field := range fields {
		xs := somePoints(field.p, 11, 9)
		checkNoGaps(t, f, xs, equalElements(11, 1), 1, []int{10})
		checkNoGaps(t, f, xs, equalElements(11, 1), 1, others(11, []int{4}))
		for i := range 6 {
			for _, x := range append(noElements(field.p), xs[(i+1)%6]) {
				wrong := slices.Clone(xs[:6])
				wrong[i] = x
				checkNoGaps(t, f, wrong, equalElements(6, 1), 2, []int{i})
			}
		}
		checkNoGaps(t, f, xs[:6], equalElements(7, 1), 2, []int{5})
		checkNoGaps(t, f, xs[:6], equalElements(5, 1), 2, []int{5})
		for i := range 6 {
			for _, x := range noElements(field.p) {
				ys := equalElements(6, 1)
				ys[i] = x
				checkNoGaps(t, f, xs[:6], ys, 2, []int{(i + 1) % 6})
				checkNoGaps(t, f, xs[:6], ys, 2, nil)
				checkGaps(t, f, xs[:6], ys, []int{i}, []int{1, 0}, 0)
			}
		}
	}
}

// pointCalls are the functions of the chapter that take points, and beside
// them values, a message or nothing, as in polyCalls. Each takes lists of one
// length, up to most.
var pointCalls = []struct {
	name    string
	most    int
	values  bool
	refused int
	call    func(f int, xs []int, ys []int) ([][]int, int)
}{
	{"PointsOk", 40, false, 0, func(f int, xs []int, ys []int) ([][]int, int) { return nil, asNumber(impl.PointsOk(f, xs)) }},
	{"Vanish", 40, false, 0, func(f int, xs []int, ys []int) ([][]int, int) { return [][]int{impl.Vanish(f, xs)}, 0 }},
	{"Interpolate", 40, true, 0, func(f int, xs []int, ys []int) ([][]int, int) {
		list, ok := impl.Interpolate(f, xs, ys)
		return [][]int{list}, asNumber(ok)
	}},
	{"Extend", 40, true, -1, func(f int, xs []int, ys []int) ([][]int, int) { return nil, impl.Extend(f, xs, ys, 3) }},
	{"Weights", 40, false, 0, func(f int, xs []int, ys []int) ([][]int, int) { return [][]int{impl.Weights(f, xs)}, 0 }},
	{"EncodeWord", 10, true, 0, func(f int, xs []int, ys []int) ([][]int, int) { return [][]int{impl.EncodeWord(f, xs, ys)}, 0 }},
	{"DecodeWord", 10, true, 0, wordCall(1)},
	{"Blame", 10, true, 0, func(f int, xs []int, ys []int) ([][]int, int) { return [][]int{impl.Blame(f, xs, ys, 1)}, 0 }},
	{"DecodeGaps", 10, true, 0, gapsCall(1, nil)},
}

func wordCall(k int) func(int, []int, []int) ([][]int, int) {
	return func(f int, xs []int, ys []int) ([][]int, int) {
		list, count, ok := impl.DecodeWord(f, xs, ys, k)
		return [][]int{list}, count + 100*asNumber(ok)
	}
}

func gapsCall(k int, gone []int) func(int, []int, []int) ([][]int, int) {
	return func(f int, xs []int, ys []int) ([][]int, int) {
		list, count, ok := impl.DecodeGaps(f, xs, ys, k, gone)
		return [][]int{list}, count + 100*asNumber(ok)
	}
}

// noPoints returns lists that are not points: none, more than most, and some
// with a repeated point or an integer that is not an element in each place.
func noPoints(p int, most int) [][]int {
	list := [][]int{nil, {}, make([]int, most+1), make([]int, 5000), someVector(p, 4096, 1)}
	for _, n := range []int{most + 1, most + 2, 41, 64, 96} {
		if n <= p {
			list = append(list, pointLists(p, n)...)
		}
	}
	for _, n := range []int{1, 2, 3, 10, 17, 40} {
		if n > min(p, most) {
			break
		}
		right := somePoints(p, n, 3)
		for i := range n {
			for _, x := range append(noElements(p), turned(right, i)[1:]...) {
				wrong := slices.Clone(right)
				wrong[i] = x
				list = append(list, wrong)
			}
		}
	}
	return list
}

func TestListsThatAreNoPoints(t *testing.T) {
	for f, field := range fields {
		for _, c := range pointCalls {
			for _, wrong := range noPoints(field.p, c.most) {
				for _, ys := range [][]int{nil, {1}, equalElements(len(wrong), 1)} {
					checkRefused(t, c.name, c.refused, f, wrong, ys, c.call)
				}
			}
		}
	}
}

func TestPointsOfNoField(t *testing.T) {
	for _, f := range noFields {
		for _, c := range pointCalls {
			for _, xs := range [][]int{nil, {0}, {1}, {0, 1}, {2, 5, 3}, {-1}, others(10, nil), others(40, nil)} {
				checkRefused(t, c.name, c.refused, f, xs, equalElements(len(xs), 1), c.call)
				checkRefused(t, c.name, c.refused, f, xs, make([]int, len(xs)), c.call)
			}
		}
		for _, a := range [][]int{nil, {1}, {1, 2, 1}} {
			for _, xs := range [][]int{nil, {0}, {1, 1}, {2, 5, 3}} {
				checkRefused(t, "EvalMany", 0, f, a, xs, manyCall)
			}
		}
	}
}

func TestValuesThatAreNoElements(t *testing.T) {
	for f, field := range fields {
		for _, c := range pointCalls {
			for _, n := range []int{1, 2, 3, 10, 17, 40} {
				if !c.values || n > min(c.most, field.p) {
					continue
				}
				xs := somePoints(field.p, n, 3)
				for i := range n {
					for _, x := range noElements(field.p) {
						ys := someVector(field.p, n, 3)
						ys[i] = x
						checkRefused(t, c.name, c.refused, f, xs, ys, c.call)
					}
				}
			}
		}
	}
}

func TestPointsAndValuesOfDifferentLengths(t *testing.T) {
	for f, field := range fields {
		for _, c := range pointCalls {
			for _, n := range []int{1, 2, 9, 10, 17, 39, 40} {
				if !c.values || n > min(c.most, field.p) {
					continue
				}
				xs := somePoints(field.p, n, 4)
				for _, m := range []int{0, 1, n - 1, n + 1, 2 * n, 40, 41, 5000} {
					// A message may be shorter than the list of points.
					if m == n || c.name == "EncodeWord" && m > 0 && m < n {
						continue
					}
					checkRefused(t, c.name, c.refused, f, xs, make([]int, m), c.call)
					checkRefused(t, c.name, c.refused, f, xs, equalElements(m, 1), c.call)
				}
			}
		}
	}
}

func TestExtendToNoElement(t *testing.T) {
	eachPoints(func(f int, xs []int) {
		for _, x := range noElements(fields[f].p) {
			for _, ys := range [][]int{make([]int, len(xs)), someVector(fields[f].p, len(xs), 1)} {
				if got := impl.Extend(f, xs, ys, x); got != -1 {
					t.Errorf("Extend(%d, %v, %v, %d) is %d", f, xs, ys, x, got)
				}
			}
		}
	})
}

func TestOtherSizesOfMessages(t *testing.T) {
	for f, field := range fields {
		for n := 1; n <= 10; n++ {
			xs := somePoints(field.p, n, 5)
			for _, k := range []int{0, -1, -n, n + 1, n + 2, 2 * n, 11, 1 << 32, 1<<32 + 1, -1 << 32, math.MaxInt, math.MaxInt - 1, math.MinInt, math.MinInt + 1} {
				if k >= 1 && k <= n {
					continue
				}
				for _, ys := range [][]int{make([]int, n), equalElements(n, 1), someVector(field.p, n, 4)} {
					checkUndecoded(t, f, xs, ys, k)
					for _, gone := range [][]int{nil, {0}, {n - 1}} {
						checkNoGaps(t, f, xs, ys, k, gone)
					}
				}
			}
		}
	}
}

func manyCall(f int, a []int, xs []int) ([][]int, int) { return [][]int{impl.EvalMany(f, a, xs)}, 0 }

func TestEvalManyOfNoPolyOrNoElements(t *testing.T) {
	for f, field := range fields {
		for _, wrong := range noPolys(field.p) {
			for _, xs := range [][]int{nil, {0}, {1, 1}, someVector(field.p, 40, 1)} {
				checkRefused(t, "EvalMany", 0, f, wrong, xs, manyCall)
			}
		}
		for _, a := range [][]int{nil, {1}, {1, 1}, somePoly(field.p, 400, 1)} {
			for _, n := range []int{41, 42, 80, 4096, 5000} {
				checkRefused(t, "EvalMany", 0, f, a, make([]int, n), manyCall)
				checkRefused(t, "EvalMany", 0, f, a, someVector(field.p, n, 1), manyCall)
			}
			for _, n := range []int{1, 2, 3, 40} {
				for i := range n {
					for _, x := range noElements(field.p) {
						xs := someVector(field.p, n, 2)
						xs[i] = x
						checkRefused(t, "EvalMany", 0, f, a, xs, manyCall)
					}
				}
			}
		}
	}
}

func TestPointsShareNoMemory(t *testing.T) {
	for f, field := range fields {
		for _, c := range pointCalls {
			for _, n := range pointCounts(min(field.p, c.most)) {
				for _, xs := range pointLists(field.p, n) {
					for _, ys := range [][]int{make([]int, n), equalElements(n, 1), someVector(field.p, n, 5)} {
						checkMemory(t, c.name, f, xs, ys, c.call)
					}
				}
			}
		}
		for _, a := range shortPolys(field.p) {
			for _, n := range []int{0, 1, 2, 5, 40} {
				checkMemory(t, "EvalMany", f, a, someVector(field.p, n, 3), manyCall)
			}
		}
		for _, list := range [][]int{nil, {5}, {5, 6, 7}} {
			checkMemory(t, "Differ", f, list, []int{5, 7}, func(f int, a []int, b []int) ([][]int, int) { return nil, impl.Differ(a, b) })
		}
	}
}

// The message of a word that is one, the indices of one with errors, and the
// message behind erasures are apart from all the arguments.
func TestDecodingsShareNoMemory(t *testing.T) {
	eachCode(func(f int, xs []int, k int) {
		p, n := fields[f].p, len(xs)
		word := valuesOf(p, someVector(p, k, 8), xs)
		wrong := others(n, nil)[:(n-k)/2]
		ys := bent(p, word, wrong, 1)
		checkMemory(t, "DecodeWord", f, xs, ys, wordCall(k))
		checkMemory(t, "Blame", f, xs, ys, func(f int, xs []int, ys []int) ([][]int, int) { return [][]int{impl.Blame(f, xs, ys, k)}, 0 })
		gone := append(slices.Clone(wrong), 7, 7, 7)[:len(wrong)]
		checkMemory(t, "DecodeGaps", f, xs, ys, gapsCall(k, gone))
		message, _, _ := impl.DecodeGaps(f, xs, ys, k, gone)
		checkUntouched(t, "DecodeGaps", gone, wrong)
		checkApart(t, "DecodeGaps", message, gone[:len(gone)+3])
	})
}

// A result stays as it is when the same call is made again: nothing is kept.
func TestPointsAreNewEachTime(t *testing.T) {
	for f, field := range fields {
		for _, c := range pointCalls {
			for _, n := range pointCounts(min(field.p, c.most)) {
				xs, ys := somePoints(field.p, n, 6), equalElements(n, 1)
				first, other := c.call(f, xs, ys)
				for i, list := range first {
					kept := slices.Clone(list)
					for j := range list {
						list[j] = -1
					}
					second, other2 := c.call(f, xs, ys)
					if other2 != other || !slices.Equal(second[i], kept) {
						t.Errorf("%s in field %d with %d points is kept", c.name, f, n)
					}
					checkApart(t, c.name, second[i], list)
				}
			}
		}
	}
}
