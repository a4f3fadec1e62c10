package tests

import (
	"math"
	"slices"
	"strconv"
	"testing"

	"loop.example/g00710/impl"
)

// Exponents of 2 that no field and no list has.
var noLogs = []int{-1, -2, -9, 27, 31, 32, 62, 63, 64, 65, 1 << 32, 1<<32 + 1, math.MaxInt, math.MinInt, math.MinInt + 1}

// Lengths of lists that Permute takes.
var permuted = []int{1, 2, 4, 8, 16, 32, 64, 128, 256, 512}

// mostListed is the greatest k for which Roots lists the roots of field f.
func mostListed(f int) int { return min(fields[f].t, 9) }

func TestRootExamples(t *testing.T) {
	cases := []struct {
		name      string
		got, want int
	}{
		{"LogOf(8)", impl.LogOf(8), 3},
		{"LogOf(1024)", impl.LogOf(1024), -1},
		{"RootOf(0, 2)", impl.RootOf(0, 2), 13},
		{"Reverse(3, 3)", impl.Reverse(3, 3), 6},
		{"RootSum(0, 2, -4)", impl.RootSum(0, 2, -4), 4},
		{"RootSum(0, 2, 1)", impl.RootSum(0, 2, 1), 0},
	}
	for _, c := range cases {
		if c.got != c.want {
			t.Errorf("%s is %d, not %d", c.name, c.got, c.want)
		}
	}
	if !impl.IsRoot(0, 4, 2) || impl.IsRoot(0, 30, 2) {
		t.Error("IsRoot of 4 and 30 is not true and false")
	}
	if got := impl.Roots(0, 2); !slices.Equal(got, []int{1, 13, 16, 4}) {
		t.Errorf("Roots(0, 2) is %v", got)
	}
	if got := impl.Permute([]int{0, 1, 2, 3, 4, 5, 6, 7}); !slices.Equal(got, []int{0, 4, 2, 6, 1, 5, 3, 7}) {
		t.Errorf("the list 0, ..., 7 becomes %v", got)
	}
}

func TestLogOf(t *testing.T) {
	if impl.MaxLog != 9 {
		t.Errorf("MaxLog is %d", impl.MaxLog)
	}
	list := []int{math.MaxInt, math.MinInt, math.MinInt + 1, math.MaxInt - 1}
	for n := -1100; n <= 5000; n++ {
		list = append(list, n)
	}
	for k := range 63 {
		list = append(list, 1<<k, -1<<k, 1<<k+1, 1<<k-1, 1<<k|1<<62)
	}
	for _, n := range list {
		if got, want := impl.LogOf(n), slices.Index(permuted, n); got != want {
			t.Errorf("LogOf(%d) is %d, not %d", n, got, want)
		}
	}
}

// Each k up to TwoPower(f) is tried, whether or not it exceeds MaxLog.
func TestRootOf(t *testing.T) {
	for f, field := range fields {
		for k := range field.t + 1 {
			got := impl.RootOf(f, k)
			if want := powerOf(field.p, field.g, (field.p-1)/(1<<k)); got != want {
				t.Errorf("RootOf(%d, %d) is %d, not %d", f, k, got, want)
			}
			if impl.Order(f, got) != 1<<k {
				t.Errorf("RootOf(%d, %d) is %d, of order %d", f, k, got, impl.Order(f, got))
			}
			if k > 0 && impl.RootOf(f, k-1) != got*got%field.p {
				t.Errorf("the square of RootOf(%d, %d) is not RootOf(%d, %d)", f, k, f, k-1)
			}
		}
		if impl.RootOf(f, 0) != 1 || impl.RootOf(f, 1) != field.p-1 {
			t.Errorf("field %d: the first roots are %d and %d", f, impl.RootOf(f, 0), impl.RootOf(f, 1))
		}
	}
}

func TestNoRoot(t *testing.T) {
	for f, field := range fields {
		list := slices.Clone(noLogs)
		for k := field.t + 1; k < field.t+70; k++ {
			list = append(list, k)
		}
		for _, k := range list {
			checkNoRoot(t, f, k)
		}
	}
	for _, f := range noFields {
		for k := -1; k < 30; k++ {
			checkNoRoot(t, f, k)
		}
		for _, k := range noLogs {
			checkNoRoot(t, f, k)
		}
	}
}

func checkNoRoot(t *testing.T, f int, k int) {
	t.Helper()
	if got := impl.RootOf(f, k); got != -1 {
		t.Errorf("RootOf(%d, %d) is %d", f, k, got)
	}
	for _, w := range []int{-1, 0, 1, 2, 4, 13, 16, 96, math.MaxInt, math.MinInt} {
		if impl.IsRoot(f, w, k) {
			t.Errorf("IsRoot(%d, %d, %d) is true", f, w, k)
		}
	}
	checkNotListed(t, f, k)
}

func checkNotListed(t *testing.T, f int, k int) {
	t.Helper()
	if got := impl.Roots(f, k); got != nil {
		t.Errorf("Roots(%d, %d) has %d elements", f, k, len(got))
	}
	for _, j := range []int{0, 1, -1, 2, 1024, math.MaxInt, math.MinInt} {
		if got := impl.RootSum(f, k, j); got != -1 {
			t.Errorf("RootSum(%d, %d, %d) is %d", f, k, j, got)
		}
	}
}

// Fields that have roots of a greater order than a list may have elements.
func TestMoreRootsThanAreListed(t *testing.T) {
	for f, field := range fields {
		for k := 10; k <= field.t; k++ {
			if impl.RootOf(f, k) == -1 || !impl.IsRoot(f, impl.RootOf(f, k), k) {
				t.Errorf("field %d has no root of order 2^%d", f, k)
			}
			checkNotListed(t, f, k)
		}
	}
}

func TestIsRootInSmallFields(t *testing.T) {
	for f, field := range fields[:smallFields] {
		for w := 1; w < field.p; w++ {
			order := orderBySteps(field.p, w)
			for k := range field.t + 3 {
				if got, want := impl.IsRoot(f, w, k), k <= field.t && order == 1<<k; got != want {
					t.Errorf("IsRoot(%d, %d, %d) is %v", f, w, k, got)
				}
			}
		}
	}
}

// The odd powers of a root have its order, the even ones a smaller order, and
// a factor whose order is odd leads out of the roots.
func TestIsRootInGreatFields(t *testing.T) {
	for f := smallFields; f < len(fields); f++ {
		p, g, most := fields[f].p, fields[f].g, fields[f].t
		other := powerOf(p, g, 1<<most)
		source := numbers(p)
		for k := range most + 1 {
			w := powerOf(p, g, (p-1)>>k)
			for range 40 {
				e := source.next()
				odd, even := powerOf(p, w, e|1), powerOf(p, w, e&^1)
				if !impl.IsRoot(f, odd, k) {
					t.Errorf("IsRoot(%d, %d, %d) is false", f, odd, k)
				}
				if impl.IsRoot(f, even, k) != (k == 0) {
					t.Errorf("IsRoot(%d, %d, %d) is %v", f, even, k, k != 0)
				}
				if impl.IsRoot(f, odd*other%p, k) {
					t.Errorf("IsRoot(%d, %d, %d) is true", f, odd*other%p, k)
				}
				if impl.IsRoot(f, odd, k+1) || impl.IsRoot(f, odd, k-1) {
					t.Errorf("%d in field %d has two orders", odd, f)
				}
			}
		}
	}
}

// Only elements are roots: what is congruent to a root is none.
func TestIsRootDoesNotReduce(t *testing.T) {
	for f, field := range fields {
		p := field.p
		for k := range field.t + 1 {
			w := powerOf(p, field.g, (p-1)>>k)
			if !impl.IsRoot(f, w, k) {
				t.Errorf("IsRoot(%d, %d, %d) is false", f, w, k)
			}
			outside := []int{
				0, p, -p, -1, w + p, w - p, w - 2*p, w + 2*p, -w, w + 1<<32*p, w - 1<<32*p,
				math.MaxInt, math.MinInt, math.MaxInt/p*p + w - p, math.MinInt/p*p + w,
			}
			for _, x := range outside {
				if impl.IsRoot(f, x, k) {
					t.Errorf("IsRoot(%d, %d, %d) is true", f, x, k)
				}
			}
		}
	}
}

func TestRootsAreDistinctPowers(t *testing.T) {
	for f, field := range fields {
		for k := range mostListed(f) + 1 {
			list := impl.Roots(f, k)
			if len(list) != 1<<k {
				t.Fatalf("Roots(%d, %d) has %d elements", f, k, len(list))
			}
			w := powerOf(field.p, field.g, (field.p-1)>>k)
			for i, got := range list {
				if want := powerOf(field.p, w, i); got != want {
					t.Errorf("Roots(%d, %d) has %d, not %d, at index %d", f, k, got, want, i)
				}
				if slices.Index(list, got) != i {
					t.Errorf("Roots(%d, %d) has %d twice", f, k, got)
				}
			}
		}
	}
}

// With each two of the roots their product is one, at the sum of their
// indices; so every root of odd index has all of them as its powers.
func TestRootsArePowersOfEachOther(t *testing.T) {
	for f, field := range fields {
		for k := range mostListed(f) + 1 {
			list := impl.Roots(f, k)
			if len(list) != 1<<k {
				t.Fatalf("Roots(%d, %d) has %d elements", f, k, len(list))
			}
			for i, x := range list {
				for j, y := range list {
					if list[(i+j)%(1<<k)] != x*y%field.p {
						t.Errorf("Roots(%d, %d): the product of the indices %d and %d is not at their sum", f, k, i, j)
					}
				}
				if impl.IsRoot(f, x, k) != (i%2 == 1 || k == 0) {
					t.Errorf("IsRoot(%d, %d, %d) is wrong for index %d", f, x, k, i)
				}
			}
			if k > 0 && !slices.Equal(impl.Roots(f, k-1), everySecond(list)) {
				t.Errorf("Roots(%d, %d) is not every second of Roots(%d, %d)", f, k-1, f, k)
			}
		}
	}
}

func everySecond(list []int) []int {
	var out []int
	for i := 0; i < len(list); i += 2 {
		out = append(out, list[i])
	}
	return out
}

func TestRootsAreNewEachTime(t *testing.T) {
	for f := range fields {
		for k := range mostListed(f) + 1 {
			list := impl.Roots(f, k)
			kept := slices.Clone(list)
			for i := range list {
				list[i] = -1
			}
			if got := impl.Roots(f, k); !slices.Equal(got, kept) {
				t.Errorf("Roots(%d, %d) are kept and shared", f, k)
			}
		}
	}
}

// reversedBits writes x with k digits and reads the digits backwards.
func reversedBits(x int, k int) int {
	digits := []byte(strconv.FormatInt(int64(1<<k+x), 2)[1:])
	slices.Reverse(digits)
	value, _ := strconv.ParseInt("0"+string(digits), 2, 64)
	return int(value)
}

func TestReverse(t *testing.T) {
	for k := range 10 {
		for x := range 1 << k {
			got := impl.Reverse(x, k)
			if want := reversedBits(x, k); got != want {
				t.Errorf("Reverse(%d, %d) is %d, not %d", x, k, got, want)
			}
			if back := impl.Reverse(got, k); back != x {
				t.Errorf("Reverse(%d, %d) is %d, but back it is %d", x, k, got, back)
			}
		}
		if impl.Reverse(0, k) != 0 || impl.Reverse(1<<k-1, k) != 1<<k-1 {
			t.Errorf("Reverse with %d bits moves 0 or the greatest number", k)
		}
		for _, x := range []int{-1, -2, -1 << k, 1 << k, 1<<k + 1, 2 << k, 1024, 1 << 32, math.MaxInt, math.MinInt} {
			if got := impl.Reverse(x, k); got != -1 {
				t.Errorf("Reverse(%d, %d) is %d", x, k, got)
			}
		}
	}
}

func TestReverseOfNoLog(t *testing.T) {
	for _, k := range append([]int{10, 11, 12, 23, 26}, noLogs...) {
		for _, x := range []int{0, 1, 2, 3, 511, 512, 1023, 1024, -1, math.MaxInt, math.MinInt} {
			if got := impl.Reverse(x, k); got != -1 {
				t.Errorf("Reverse(%d, %d) is %d", x, k, got)
			}
		}
	}
}

// arbitrary returns n integers of any size and sign, each other than the rest.
func arbitrary(n int) []int {
	ends := []int{math.MinInt, math.MaxInt, 0, -1, 1, math.MinInt + 1}
	list := ends[:min(n, len(ends))]
	source := numbers(n)
	for len(list) < n {
		if x := source.next(); !slices.Contains(list, x) {
			list = append(list, x)
		}
	}
	return list
}

func TestPermute(t *testing.T) {
	for k, length := range permuted {
		for _, list := range [][]int{arbitrary(length), make([]int, length)} {
			kept := slices.Clone(list)
			got := impl.Permute(list)
			if len(got) != length {
				t.Fatalf("Permute of %d integers has %d", length, len(got))
			}
			for i, x := range kept {
				if got[reversedBits(i, k)] != x {
					t.Errorf("Permute of %d integers has not the one at index %d at %d", length, i, reversedBits(i, k))
				}
			}
			if back := impl.Permute(got); !slices.Equal(back, kept) {
				t.Errorf("Permute of %d integers is not its own inverse", length)
			}
			for i := range got {
				got[i] ^= 1
			}
			if !slices.Equal(list, kept) {
				t.Errorf("Permute of %d integers changes its list or shares memory with it", length)
			}
		}
	}
}

func TestPermuteOfOtherLengths(t *testing.T) {
	lengths := []int{2048, 4096, 4097, 8192, 1 << 16}
	for n := range 1100 {
		lengths = append(lengths, n)
	}
	for _, n := range lengths {
		if slices.Contains(permuted, n) {
			continue
		}
		if got := impl.Permute(make([]int, n)); got != nil {
			t.Errorf("Permute of %d integers has %d", n, len(got))
		}
	}
	if got := impl.Permute(nil); got != nil {
		t.Errorf("Permute of nil has %d integers", len(got))
	}
}

// The sum by its definition: each root is raised to j and added.
func TestRootSumByDefinition(t *testing.T) {
	for f, field := range fields {
		p := field.p
		for k := range mostListed(f) + 1 {
			w := powerOf(p, field.g, (p-1)>>k)
			size := 1 << k
			for _, j := range []int{0, 1, -1, size, -size, size / 2, 3*size + 1, -7 * size, math.MaxInt, math.MinInt, math.MinInt + 1} {
				sum := 0
				for i := range size {
					sum = (sum + powerOf(p, powerOf(p, w, i), j)) % p
				}
				if got := impl.RootSum(f, k, j); got != sum {
					t.Errorf("RootSum(%d, %d, %d) is %d, not %d", f, k, j, got, sum)
				}
			}
		}
	}
}

func TestRootSumOfAnyExponent(t *testing.T) {
	for f, field := range fields {
		list := append(edges(field.p), edges(field.p-1)...)
		for j := -1030; j <= 1030; j++ {
			list = append(list, j)
		}
		for i := range 63 {
			list = append(list, 1<<i, -1<<i, 3<<i)
		}
		for k := range mostListed(f) + 1 {
			for _, j := range list {
				want := 0
				if element(1<<k, large(j)) == 0 {
					want = 1 << k
				}
				if got := impl.RootSum(f, k, j); got != want {
					t.Errorf("RootSum(%d, %d, %d) is %d, not %d", f, k, j, got, want)
				}
			}
		}
	}
}
