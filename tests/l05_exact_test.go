package tests

import (
	"fmt"
	"math"
	"math/big"
	"slices"
	"strings"
	"testing"

	"loop.example/g00710/impl"
)

// The moduli of chapter 5, their product, and the greatest integer below half
// of it.
const (
	firstPrime  = 998244353
	secondPrime = 469762049
	bothPrimes  = 468937312667959297
	belowHalf   = 234468656333979648
)

// terms returns n integers in -MaxTerm..MaxTerm, others for each seed.
func terms(n int, seed int) []int {
	source := numbers(1000003*n + 7919*seed)
	list := make([]int, n)
	for i := range list {
		list[i] = element(2000001, large(source.next())) - 1000000
	}
	return list
}

// turning returns n integers c and -c in turn.
func turning(n int, c int) []int {
	list := equalElements(n, c)
	for i := 1; i < n; i += 2 {
		list[i] = -c
	}
	return list
}

// termLists returns lists of n terms: arbitrary and the greatest ones.
func termLists(n int) [][]int {
	list := [][]int{
		terms(n, 1), make([]int, n), equalElements(n, 1000000), equalElements(n, -1000000), turning(n, 1000000), terms(n, 2),
	}
	if n > 0 {
		list = append(list, unit(n, 0, 1), unit(n, n-1, -1000000), unit(n, n/2, 999999))
	}
	return list
}

var termLengths = []int{0, 1, 2, 3, 4, 7, 50, 127, 128, 199, 200}

func exactOf(a []int, b []int) []int {
	if len(a) == 0 || len(b) == 0 {
		return nil
	}
	out := make([]int, len(a)+len(b)-1)
	for i, x := range a {
		for j, y := range b {
			out[i+j] += x * y
		}
	}
	return out
}

// within returns integers in 0..M-1: those at which something changes, and
// arbitrary ones.
func within() []int {
	list := []int{
		0, 1, 2, 5, 7, secondPrime - 1, secondPrime, secondPrime + 1, 2 * secondPrime, firstPrime - 1, firstPrime, firstPrime + 1, 2*firstPrime - 1,
		firstPrime * (secondPrime - 1), secondPrime * (firstPrime - 1), 1 << 31, 1 << 32, 1<<32 + 1, 200000000000000,
		belowHalf - 1, belowHalf, belowHalf + 1, belowHalf + 2, bothPrimes - 200000000000000,
		bothPrimes - firstPrime, bothPrimes - secondPrime, bothPrimes - 3, bothPrimes - 2, bothPrimes - 1,
	}
	source := numbers(5)
	for range 2000 {
		list = append(list, element(bothPrimes, large(source.next())))
	}
	return list
}

func TestExactExamples(t *testing.T) {
	if a, b := impl.Split(-1); a != 998244352 || b != 469762048 {
		t.Errorf("Split(-1) is %d and %d", a, b)
	}
	if got := impl.Joined(5, 5); got != 5 {
		t.Errorf("Joined(5, 5) is %d", got)
	}
	if got, ok := impl.Centered(998244346, 469762042); !ok || got != -7 {
		t.Errorf("Centered(998244346, 469762042) is %d, %v", got, ok)
	}
	if got, ok := impl.ConvExact([]int{1, -2}, []int{3, 4}); !ok || !slices.Equal(got, []int{3, -2, -8}) {
		t.Errorf("ConvExact({1, -2}, {3, 4}) is %v, %v", got, ok)
	}
	if !impl.DigitsOk("0") || impl.DigitsOk("00") {
		t.Errorf("DigitsOk is %v for 0 and %v for 00", impl.DigitsOk("0"), impl.DigitsOk("00"))
	}
	if got, ok := impl.MulText("99999", "99999"); !ok || got != "9999800001" {
		t.Errorf("MulText is %q, %v", got, ok)
	}
	if got, ok := impl.PowText("2", 10); !ok || got != "1024" {
		t.Errorf("PowText is %q, %v", got, ok)
	}
	if got, ok := impl.AddText("999", "1"); !ok || got != "1000" {
		t.Errorf("AddText is %q, %v", got, ok)
	}
	if got := impl.ModText("1000", 0); got != 14 {
		t.Errorf("ModText is %d", got)
	}
	if got := impl.CompareText("9", "10"); got != -1 {
		t.Errorf("CompareText is %d", got)
	}
	if got := impl.Bound(2, 3); got != 2000000000000 {
		t.Errorf("Bound(2, 3) is %d", got)
	}
}

func TestExactConstants(t *testing.T) {
	if impl.MaxTerm != 1000000 || impl.MaxExact != 200 || impl.MaxDigits != 300 {
		t.Errorf("the constants are %d, %d and %d", impl.MaxTerm, impl.MaxExact, impl.MaxDigits)
	}
	if impl.Modulus(6)*impl.Modulus(7) != bothPrimes || 2*belowHalf+1 != bothPrimes {
		t.Errorf("the moduli are %d and %d", impl.Modulus(6), impl.Modulus(7))
	}
}

func checkSplit(t *testing.T, x int) {
	t.Helper()
	a, b := impl.Split(x)
	if a != element(firstPrime, large(x)) || b != element(secondPrime, large(x)) {
		t.Errorf("Split(%d) is %d and %d", x, a, b)
	}
}

func TestSplit(t *testing.T) {
	for _, x := range slices.Concat(edges(firstPrime), edges(secondPrime), edges(bothPrimes), within()) {
		checkSplit(t, x)
		checkSplit(t, -x)
		checkSplit(t, x+bothPrimes)
	}
	known := []struct{ x, a, b int }{
		{0, 0, 0}, {1, 1, 1}, {-1, 998244352, 469762048},
		{math.MaxInt, 466025954, 230087575}, {math.MinInt, 532218398, 239674473},
	}
	for _, c := range known {
		if a, b := impl.Split(c.x); a != c.a || b != c.b {
			t.Errorf("Split(%d) is %d and %d, not %d and %d", c.x, a, b, c.a, c.b)
		}
	}
}

func TestJoinedGivesBack(t *testing.T) {
	for _, x := range within() {
		if got := impl.Joined(x%firstPrime, x%secondPrime); got != x {
			t.Errorf("Joined of the residues of %d is %d", x, got)
		}
		if got := impl.Joined(impl.Split(x)); got != x {
			t.Errorf("Joined of Split(%d) is %d", x, got)
		}
		if got := impl.Joined(impl.Split(x - bothPrimes)); got != x {
			t.Errorf("Joined of Split(%d) is %d", x-bothPrimes, got)
		}
	}
	if a, b := impl.Joined(0, 0), impl.Joined(firstPrime-1, secondPrime-1); a != 0 || b != bothPrimes-1 {
		t.Errorf("Joined(0, 0) is %d, and that of the greatest elements is %d", a, b)
	}
}

// Any two elements are the residues of one integer, whichever they are.
func TestJoinedOfAnyElements(t *testing.T) {
	for _, a := range samples(6)[:120] {
		for _, b := range samples(7)[:120] {
			got := impl.Joined(a, b)
			if got < 0 || got >= bothPrimes || got%firstPrime != a || got%secondPrime != b {
				t.Errorf("Joined(%d, %d) is %d", a, b, got)
			}
			middle, ok := impl.Centered(a, b)
			if !ok || middle < -belowHalf || middle > belowHalf || element(firstPrime, large(middle)) != a || element(secondPrime, large(middle)) != b {
				t.Errorf("Centered(%d, %d) is %d, %v", a, b, middle, ok)
			}
		}
	}
}

func checkCentered(t *testing.T, x int, want int) {
	t.Helper()
	a, b := element(firstPrime, large(x)), element(secondPrime, large(x))
	if got, ok := impl.Centered(a, b); !ok || got != want {
		t.Errorf("Centered of the residues of %d is %d, %v, not %d", x, got, ok, want)
	}
	if got, ok := impl.Centered(impl.Split(x)); !ok || got != want {
		t.Errorf("Centered of Split(%d) is %d, %v, not %d", x, got, ok, want)
	}
}

func TestCenteredGivesBack(t *testing.T) {
	for _, x := range within() {
		if x <= belowHalf {
			checkCentered(t, x, x)
			checkCentered(t, -x, -x)
		} else {
			checkCentered(t, x, x-bothPrimes)
			checkCentered(t, -x, bothPrimes-x)
		}
	}
}

func TestCenteredAroundHalf(t *testing.T) {
	known := []struct{ x, want int }{
		{0, 0}, {1, 1}, {-1, -1}, {bothPrimes, 0}, {bothPrimes - 1, -1}, {1 - bothPrimes, 1},
		{belowHalf, belowHalf}, {belowHalf + 1, -belowHalf}, {belowHalf + 2, 1 - belowHalf},
		{-belowHalf, -belowHalf}, {-belowHalf - 1, belowHalf}, {-belowHalf - 2, belowHalf - 1},
	}
	for _, c := range known {
		checkCentered(t, c.x, c.want)
	}
	for i := range 1000 {
		checkCentered(t, belowHalf-i, belowHalf-i)
		checkCentered(t, i-belowHalf, i-belowHalf)
		checkCentered(t, belowHalf+1+i, i-belowHalf)
		checkCentered(t, -belowHalf-1-i, belowHalf-i)
	}
}

func checkNoPair(t *testing.T, a int, b int) {
	t.Helper()
	if got := impl.Joined(a, b); got != -1 {
		t.Errorf("Joined(%d, %d) is %d", a, b, got)
	}
	if got, ok := impl.Centered(a, b); ok || got != 0 {
		t.Errorf("Centered(%d, %d) is %d, %v", a, b, got, ok)
	}
}

func TestPairsThatAreNoElements(t *testing.T) {
	outside := func(p int) []int {
		return []int{
			-1, -2, -7, -p, 1 - p, -p - 1, p, p + 1, 2 * p, 2*p - 1, 1 << 32, 1<<32 + 1, -1 << 32, 1 << 32 * p, bothPrimes, bothPrimes - 1,
			math.MaxInt, math.MinInt, math.MinInt + 1, math.MaxInt / p * p, math.MinInt / p * p,
		}
	}
	for _, a := range outside(firstPrime) {
		for _, b := range []int{0, 1, 5, secondPrime - 1, secondPrime / 2} {
			checkNoPair(t, a, b)
		}
		for _, b := range outside(secondPrime) {
			checkNoPair(t, a, b)
		}
	}
	for _, b := range append(outside(secondPrime), secondPrime+5, firstPrime-1, firstPrime) {
		for _, a := range []int{0, 1, 5, secondPrime, firstPrime - 1, firstPrime / 2} {
			checkNoPair(t, a, b)
		}
	}
}

// The first field is the greater one: its elements from the second modulus on
// are valid.
func TestJoinedOfUnequalModuli(t *testing.T) {
	for _, a := range []int{secondPrime, secondPrime + 1, 2 * secondPrime, firstPrime - 1} {
		for _, b := range []int{0, 1, secondPrime - 1, a % secondPrime} {
			if got := impl.Joined(a, b); got%firstPrime != a || got%secondPrime != b {
				t.Errorf("Joined(%d, %d) is %d", a, b, got)
			}
			if _, ok := impl.Centered(a, b); !ok {
				t.Errorf("Centered(%d, %d) is refused", a, b)
			}
		}
	}
}

func TestConvExact(t *testing.T) {
	for _, n := range termLengths {
		for _, m := range termLengths {
			for i, a := range termLists(n) {
				for j, b := range termLists(m) {
					if n*m > 5000 && i%3 != j%3 {
						continue
					}
					got, ok := impl.ConvExact(a, b)
					if want := exactOf(a, b); !ok || !slices.Equal(got, want) {
						t.Errorf("ConvExact(%v, %v) is %v, %v, not %v", a, b, got, ok, want)
					}
				}
			}
		}
	}
}

// Every pair of lists of at most two small terms.
func TestConvExactOfShortLists(t *testing.T) {
	lists := [][]int{nil, {}}
	for x := -3; x <= 3; x++ {
		lists = append(lists, []int{x})
		for y := -3; y <= 3; y++ {
			lists = append(lists, []int{x, y})
		}
	}
	for _, a := range lists {
		for _, b := range lists {
			if got, ok := impl.ConvExact(a, b); !ok || !slices.Equal(got, exactOf(a, b)) {
				t.Errorf("ConvExact(%v, %v) is %v, %v", a, b, got, ok)
			}
		}
	}
}

// Zeros at the end stay: the number of elements hangs on the lengths alone.
func TestConvExactKeepsZeros(t *testing.T) {
	for _, n := range []int{1, 2, 3, 100, 200} {
		for _, m := range []int{1, 2, 3, 100, 200} {
			if got, ok := impl.ConvExact(make([]int, n), make([]int, m)); !ok || !slices.Equal(got, make([]int, n+m-1)) {
				t.Errorf("ConvExact of %d and %d zeros is %v, %v", n, m, got, ok)
			}
			if got, ok := impl.ConvExact(unit(n, 0, -1000000), unit(m, 0, 1000000)); !ok || !slices.Equal(got, unit(n+m-1, 0, -1000000000000)) {
				t.Errorf("ConvExact of units of %d and %d elements is %v, %v", n, m, got, ok)
			}
		}
	}
}

// What ConvExact returns is in both fields what chapters 3 and 4 return there.
func TestConvExactInBothFields(t *testing.T) {
	for _, f := range []int{6, 7} {
		for _, n := range termLengths {
			for _, m := range termLengths {
				for seed := range 3 {
					a, b := terms(n, 10+seed), terms(m, 20+seed)
					exact, ok := impl.ConvExact(a, b)
					product, ok2 := impl.MulPoly(f, impl.Trim(f, a), impl.Trim(f, b))
					if got := impl.Trim(f, exact); !ok || !ok2 || !slices.Equal(got, product) {
						t.Errorf("field %d: ConvExact of %v and %v is %v, MulPoly is %v", f, a, b, got, product)
					}
					product, ok2 = impl.ConvPoly(f, impl.Trim(f, a), impl.Trim(f, b))
					if got := impl.Trim(f, exact); !ok2 || !slices.Equal(got, product) {
						t.Errorf("field %d: ConvExact of %v and %v is %v, ConvPoly is %v", f, a, b, got, product)
					}
				}
			}
		}
	}
}

func greatestOf(list []int) int {
	most := 0
	for _, x := range list {
		most = max(most, x, -x)
	}
	return most
}

func TestBoundIsReached(t *testing.T) {
	for _, n := range termLengths[1:] {
		for _, m := range termLengths[1:] {
			want := impl.Bound(n, m)
			for _, a := range [][]int{equalElements(n, 1000000), equalElements(n, -1000000)} {
				for _, b := range [][]int{equalElements(m, 1000000), equalElements(m, -1000000)} {
					got, ok := impl.ConvExact(a, b)
					if !ok || greatestOf(got) != want || !slices.Contains(got, a[0]/1000000*b[0]/1000000*want) {
						t.Errorf("Bound(%d, %d) is %d, and ConvExact is %v, %v", n, m, want, got, ok)
					}
				}
			}
			for seed := range 3 {
				if got, ok := impl.ConvExact(terms(n, seed), terms(m, seed+3)); !ok || greatestOf(got) > want {
					t.Errorf("Bound(%d, %d) is %d, and ConvExact is %v, %v", n, m, want, got, ok)
				}
			}
		}
	}
}

func TestBound(t *testing.T) {
	for n := 1; n <= 200; n++ {
		for m := 1; m <= 200; m++ {
			got := impl.Bound(n, m)
			if want := min(n, m) * 1000000000000; got != want || got > belowHalf {
				t.Errorf("Bound(%d, %d) is %d", n, m, got)
			}
			if n == m || n == 1 {
				checkCentered(t, got, got)
				checkCentered(t, -got, -got)
			}
		}
	}
}

func TestNoBound(t *testing.T) {
	outside := []int{0, -1, -2, -200, 201, 202, 400, 1 << 32, 1<<32 + 1, math.MaxInt, math.MinInt, math.MinInt + 1}
	for _, n := range outside {
		for _, m := range append(outside, 1, 2, 199, 200) {
			if a, b := impl.Bound(n, m), impl.Bound(m, n); a != -1 || b != -1 {
				t.Errorf("Bound of %d and %d is %d and %d", n, m, a, b)
			}
		}
	}
}

// exactCall makes the call of ConvExact that the checks of lists make; there
// is no field in it.
func exactCall(f int, a []int, b []int) ([][]int, int) {
	list, ok := impl.ConvExact(a, b)
	return [][]int{list}, asNumber(ok)
}

// noTerms returns lists that are too long or have an element that is too great
// or too small.
func noTerms() [][]int {
	list := [][]int{make([]int, 201), terms(201, 1), make([]int, 202), terms(400, 1), make([]int, 4097), make([]int, 1<<16)}
	outside := []int{1000001, -1000001, 1000002, 2000000, -2000000, 1 << 32, 1<<32 + 1, -1 << 32, bothPrimes, math.MaxInt, math.MinInt, math.MinInt + 1}
	for _, x := range outside {
		for _, n := range []int{1, 2, 3, 200, 201} {
			for _, index := range []int{0, n / 2, n - 1} {
				wrong := terms(n, 30)
				wrong[index] = x
				list = append(list, wrong)
			}
		}
	}
	return list
}

func TestListsThatAreNoTerms(t *testing.T) {
	for _, wrong := range noTerms() {
		for _, b := range [][]int{nil, {}, {0}, {1}, {1, 2}, terms(200, 1), make([]int, 200), wrong} {
			checkRefused(t, "ConvExact", 0, 6, wrong, b, exactCall)
			checkRefused(t, "ConvExact", 0, 6, b, wrong, exactCall)
		}
	}
	for _, empty := range [][]int{nil, {}} {
		for _, a := range [][]int{nil, {}, {0}, {1000000}, {-1000000}, terms(200, 1)} {
			left, ok := impl.ConvExact(empty, a)
			right, ok2 := impl.ConvExact(a, empty)
			if !ok || !ok2 || !isZero(left) || !isZero(right) {
				t.Errorf("ConvExact of an empty list and %v is %v, %v and %v, %v", a, left, ok, right, ok2)
			}
		}
	}
}

func TestConvExactSharesNoMemory(t *testing.T) {
	for _, n := range []int{0, 1, 2, 3, 50, 200} {
		for _, m := range []int{0, 1, 2, 3, 50, 200} {
			lists := termLists(m)
			for i, a := range termLists(n) {
				checkMemory(t, "ConvExact", 6, a, lists[i%len(lists)], exactCall)
			}
			first, _ := impl.ConvExact(terms(n, 1), terms(m, 2))
			kept := slices.Clone(first)
			second, _ := impl.ConvExact(terms(n, 1), terms(m, 2))
			checkApart(t, "ConvExact", first, second)
			for i := range first {
				first[i] = -1
			}
			third, _ := impl.ConvExact(terms(n, 1), terms(m, 2))
			if !slices.Equal(second, kept) || !slices.Equal(third, kept) {
				t.Errorf("ConvExact of %d and %d terms is kept and shared", n, m)
			}
		}
	}
}

// digitsFrom returns a numeral of n digits, another one for each seed.
func digitsFrom(n int, seed int) string {
	source := numbers(1000003*n + 104729*seed)
	text := []byte{byte('1' + element(9, large(source.next())))}
	for len(text) < n {
		text = append(text, byte('0'+element(10, large(source.next()))))
	}
	return string(text)
}

func nines(n int) string { return strings.Repeat("9", n) }

func zeros(n int) string { return strings.Repeat("0", n) }

// numerals returns small numbers, powers of 10 and the numbers beside them at
// many lengths, and arbitrary ones.
func numerals() []string {
	list := []string{"0", "1", "2", "3", "9", "10", "11", "17", "99", "100", "101", "998244353", "469762049", fmt.Sprint(math.MaxInt), fmt.Sprint(bothPrimes)}
	for _, n := range []int{3, 5, 6, 7, 11, 12, 13, 18, 19, 20, 60, 149, 150, 151, 200, 293, 294, 295, 299, 300} {
		list = append(list, nines(n), "1"+zeros(n-1), "1"+zeros(n-2)+"1", digitsFrom(n, 1), digitsFrom(n, 2))
	}
	return list
}

// noNumerals returns texts that are not numerals.
func noNumerals() []string {
	list := []string{
		"", "00", "01", "000", "010", "0000000", "+1", "-1", "-0", "+0", "-", "+", " ", " 1", "1 ", "1 1", "\t1", "1\n", "\n", "1\x00", "\x001", "\x00",
		"a", "1a", "a1", "1a1", "0x1", "1e3", "1.0", "1,0", "1_0", "/", ":", "1/", "1:", "/1", ":1", "\xff", "1\xff", "\xb1", "1\xb1", "1\xb0", "é", "1é",
		"١", "１", "1１", "²", "½", "∞", "0 ", " 0", "0a", "0.", "NaN",
		zeros(300), zeros(301), "0" + nines(299), "0" + nines(300), nines(301), "1" + zeros(300), nines(302), nines(600), nines(4096), digitsFrom(301, 1),
		"-" + nines(299), "+" + nines(299), nines(299) + " ", nines(150) + "a" + nines(149), nines(299) + "\xff", nines(299) + ":", "/" + nines(299), nines(299) + "é",
	}
	return list
}

func number(text string) *big.Int {
	x, ok := new(big.Int).SetString(text, 10)
	if !ok {
		panic("not a number: " + text)
	}
	return x
}

func TestDigitsOk(t *testing.T) {
	for _, text := range numerals() {
		if !impl.DigitsOk(text) {
			t.Errorf("DigitsOk(%q) is false", text)
		}
	}
	for _, text := range noNumerals() {
		if impl.DigitsOk(text) {
			t.Errorf("DigitsOk(%q) is true", text)
		}
	}
	for n := 1; n <= 310; n++ {
		for _, text := range []string{nines(n), "1" + zeros(n-1), digitsFrom(n, 3)} {
			if got := impl.DigitsOk(text); got != (n <= 300) {
				t.Errorf("DigitsOk of %d digits is %v", n, got)
			}
		}
		if got := impl.DigitsOk(zeros(n)); got != (n == 1) {
			t.Errorf("DigitsOk of %d zeros is %v", n, got)
		}
	}
}

// Every text of one byte or two, and every byte in a long text.
func TestDigitsOkOfAnyBytes(t *testing.T) {
	digit := func(c int) bool { return c >= '0' && c <= '9' }
	for c := range 256 {
		if got := impl.DigitsOk(string([]byte{byte(c)})); got != digit(c) {
			t.Errorf("DigitsOk of the byte %d is %v", c, got)
		}
		for d := range 256 {
			want := digit(c) && digit(d) && c != '0'
			if got := impl.DigitsOk(string([]byte{byte(c), byte(d)})); got != want {
				t.Errorf("DigitsOk of the bytes %d and %d is %v", c, d, got)
			}
		}
		for _, i := range []int{1, 2, 5, 6, 150, 298, 299} {
			text := []byte(digitsFrom(300, 4))
			text[i] = byte(c)
			if got := impl.DigitsOk(string(text)); got != digit(c) {
				t.Errorf("DigitsOk of 300 bytes with the byte %d at %d is %v", c, i, got)
			}
		}
	}
}

func checkPairOfNumerals(t *testing.T, a string, b string) {
	t.Helper()
	x, y := number(a), number(b)
	if got, ok := impl.MulText(a, b); !ok || got != new(big.Int).Mul(x, y).String() {
		t.Errorf("MulText(%s, %s) is %q, %v", a, b, got, ok)
	}
	if got, ok := impl.AddText(a, b); !ok || got != new(big.Int).Add(x, y).String() {
		t.Errorf("AddText(%s, %s) is %q, %v", a, b, got, ok)
	}
	if got := impl.CompareText(a, b); got != x.Cmp(y) {
		t.Errorf("CompareText(%s, %s) is %d", a, b, got)
	}
}

func TestPairsOfNumerals(t *testing.T) {
	for _, a := range numerals() {
		for _, b := range numerals() {
			checkPairOfNumerals(t, a, b)
		}
	}
	for a := range 130 {
		for b := range 130 {
			checkPairOfNumerals(t, fmt.Sprint(a), fmt.Sprint(b))
		}
	}
}

func TestNumeralsOfEachLength(t *testing.T) {
	for n := 1; n <= 300; n++ {
		for seed := range 3 {
			checkPairOfNumerals(t, digitsFrom(n, 5+seed), digitsFrom(301-n, 8+seed))
			checkPairOfNumerals(t, digitsFrom(n, 5+seed), digitsFrom(n, 8+seed))
			checkPairOfNumerals(t, digitsFrom(n, 5+seed), digitsFrom(300, 8+seed))
		}
		checkPairOfNumerals(t, nines(n), nines(n))
		checkPairOfNumerals(t, nines(n), nines(300))
	}
}

// A carry goes through every digit, in either place, up to one more than
// MaxDigits.
func TestSumsThatCarry(t *testing.T) {
	for n := 1; n <= 300; n++ {
		want := "1" + zeros(n)
		if got, ok := impl.AddText(nines(n), "1"); !ok || got != want {
			t.Errorf("%d nines and 1 are %q, %v", n, got, ok)
		}
		if got, ok := impl.AddText("1", nines(n)); !ok || got != want {
			t.Errorf("1 and %d nines are %q, %v", n, got, ok)
		}
		if got, ok := impl.AddText(nines(n), nines(n)); !ok || got != "1"+nines(n-1)+"8" {
			t.Errorf("%d nines and %d nines are %q, %v", n, n, got, ok)
		}
	}
}

func TestGreatestProducts(t *testing.T) {
	for n := 1; n <= 300; n++ {
		got, ok := impl.MulText(nines(n), nines(n))
		if want := nines(n-1) + "8" + zeros(n-1) + "1"; !ok || got != want {
			t.Errorf("the square of %d nines is %q, %v", n, got, ok)
		}
		if got, ok := impl.MulText("1"+zeros(n-1), "1"+zeros(299)); !ok || got != "1"+zeros(n+298) {
			t.Errorf("10^%d times 10^299 is %q, %v", n-1, got, ok)
		}
	}
}

func TestNumeralsWithZeroAndOne(t *testing.T) {
	for _, a := range numerals() {
		results := []struct {
			name string
			want string
			call func(string, string) (string, bool)
			b    string
		}{
			{"MulText", "0", impl.MulText, "0"}, {"MulText", a, impl.MulText, "1"}, {"AddText", a, impl.AddText, "0"},
		}
		for _, r := range results {
			if got, ok := r.call(a, r.b); !ok || got != r.want {
				t.Errorf("%s(%s, %s) is %q, %v", r.name, a, r.b, got, ok)
			}
			if got, ok := r.call(r.b, a); !ok || got != r.want {
				t.Errorf("%s(%s, %s) is %q, %v", r.name, r.b, a, got, ok)
			}
		}
	}
}

func TestCompareText(t *testing.T) {
	list := numerals()
	slices.SortFunc(list, func(a string, b string) int { return number(a).Cmp(number(b)) })
	list = slices.Compact(list)
	for i, a := range list {
		for j, b := range list {
			want := 0
			if i < j {
				want = -1
			} else if i > j {
				want = 1
			}
			if got := impl.CompareText(a, b); got != want {
				t.Errorf("CompareText(%s, %s) is %d", a, b, got)
			}
		}
	}
	for i := range 300 {
		a := []byte(digitsFrom(300, 6))
		a[i] = '5'
		b := slices.Clone(a)
		b[i] = '6'
		if got := impl.CompareText(string(a), string(b)); got != -1 {
			t.Errorf("numerals whose digit %d is less compare as %d", i, got)
		}
		if got := impl.CompareText(string(b), string(a)); got != 1 {
			t.Errorf("numerals whose digit %d is greater compare as %d", i, got)
		}
		if got := impl.CompareText(string(a), string(slices.Clone(a))); got != 0 {
			t.Errorf("equal numerals compare as %d", got)
		}
	}
}

// checkPower holds PowText against the power in numbers of any size.
func checkPower(t *testing.T, a string, e int) {
	t.Helper()
	got, ok := impl.PowText(a, e)
	want := new(big.Int).Exp(number(a), large(e), nil).String()
	if len(want) > 300 {
		if ok || got != "" {
			t.Errorf("PowText(%s, %d) is %q, %v, but it has %d digits", a, e, got, ok, len(want))
		}
	} else if !ok || got != want {
		t.Errorf("PowText(%s, %d) is %q, %v, not %s", a, e, got, ok, want)
	}
}

func TestPowText(t *testing.T) {
	for a := range 13 {
		for e := range 1001 {
			checkPower(t, fmt.Sprint(a), e)
		}
	}
	for _, a := range numerals() {
		for _, e := range []int{0, 1, 2, 3, 4, 5, 7, 8, 15, 16, 17, 31, 33, 49, 50, 51, 99, 100, 101} {
			checkPower(t, a, e)
		}
	}
	for a := 13; a < 400; a++ {
		for _, e := range []int{0, 1, 2, 6, 20, 64, 100, 125, 150, 151, 200, 255, 256, 1000} {
			checkPower(t, fmt.Sprint(a), e)
		}
	}
}

func TestPowTextOfZeroAndOne(t *testing.T) {
	for e := range 1001 {
		want := "0"
		if e == 0 {
			want = "1"
		}
		if got, ok := impl.PowText("0", e); !ok || got != want {
			t.Errorf("PowText(0, %d) is %q, %v", e, got, ok)
		}
		if got, ok := impl.PowText("1", e); !ok || got != "1" {
			t.Errorf("PowText(1, %d) is %q, %v", e, got, ok)
		}
	}
	for _, a := range numerals() {
		if got, ok := impl.PowText(a, 0); !ok || got != "1" {
			t.Errorf("PowText(%s, 0) is %q, %v", a, got, ok)
		}
		if got, ok := impl.PowText(a, 1); !ok || got != a {
			t.Errorf("PowText(%s, 1) is %q, %v", a, got, ok)
		}
	}
}

// greatestBase returns the greatest number whose power e has 300 digits or
// fewer.
func greatestBase(e int) *big.Int {
	limit := new(big.Int).Exp(large(10), large(300), nil)
	low, high := large(1), new(big.Int).Exp(large(10), large(300/e+1), nil)
	for {
		middle := new(big.Int).Add(low, high)
		middle.Rsh(middle, 1)
		if middle.Cmp(low) == 0 {
			return low
		}
		if new(big.Int).Exp(middle, large(e), nil).Cmp(limit) < 0 {
			low = middle
		} else {
			high = middle
		}
	}
}

func TestPowersThatJustFit(t *testing.T) {
	for _, e := range []int{1, 2, 3, 4, 5, 6, 7, 8, 9, 10, 12, 13, 30, 50, 99, 100, 127, 128, 150, 299, 300, 301, 400, 500, 628, 629, 996, 997, 1000} {
		base := greatestBase(e)
		fits := new(big.Int).Exp(base, large(e), nil).String()
		if got, ok := impl.PowText(base.String(), e); !ok || got != fits {
			t.Errorf("PowText(%v, %d) is %q, %v", base, e, got, ok)
		}
		next := new(big.Int).Add(base, large(1)).String()
		if got, ok := impl.PowText(next, e); ok || got != "" {
			t.Errorf("PowText(%s, %d) is %q, %v", next, e, got, ok)
		}
	}
	limits := []struct {
		a string
		e int
	}{{"10", 299}, {"2", 996}, {"1" + zeros(13), 23}, {"1" + zeros(23), 13}, {nines(150), 2}, {nines(100), 3}, {nines(300), 1}}
	for _, c := range limits {
		if got, ok := impl.PowText(c.a, c.e); !ok || len(got) != 300 {
			t.Errorf("PowText(%s, %d) has %d digits, %v", c.a, c.e, len(got), ok)
		}
		if got, ok := impl.PowText(c.a, c.e+1); ok || got != "" {
			t.Errorf("PowText(%s, %d) is %q, %v", c.a, c.e+1, got, ok)
		}
	}
}

func TestPowTextOfOtherExponents(t *testing.T) {
	for _, e := range []int{-1, -2, -10, -1000, 1001, 1002, 1024, 2000, 1 << 32, 1<<32 + 1, -1 << 32, math.MaxInt, math.MinInt, math.MinInt + 1} {
		for _, a := range append(numerals(), noNumerals()...) {
			if got, ok := impl.PowText(a, e); ok || got != "" {
				t.Errorf("PowText(%q, %d) is %q, %v", a, e, got, ok)
			}
		}
	}
}

func TestModText(t *testing.T) {
	list := numerals()
	for x := range 300 {
		list = append(list, fmt.Sprint(x))
	}
	for f, field := range fields {
		for _, x := range []int{field.p - 1, field.p, field.p + 1, 2*field.p - 1, 2 * field.p, 10 * field.p, field.p * field.p, field.p*field.p - 1} {
			list = append(list, fmt.Sprint(x))
		}
		for _, a := range list {
			if got, want := impl.ModText(a, f), element(field.p, number(a)); got != want {
				t.Errorf("ModText(%s, %d) is %d, not %d", a, f, got, want)
			}
		}
		for n := 1; n <= 300; n++ {
			for _, a := range []string{nines(n), digitsFrom(n, 7)} {
				if got, want := impl.ModText(a, f), element(field.p, number(a)); got != want {
					t.Errorf("ModText(%s, %d) is %d, not %d", a, f, got, want)
				}
			}
		}
	}
}

func TestModTextOfNoField(t *testing.T) {
	for _, f := range noFields {
		for _, a := range append(numerals(), noNumerals()...) {
			if got := impl.ModText(a, f); got != -1 {
				t.Errorf("ModText(%q, %d) is %d", a, f, got)
			}
		}
	}
}

// Texts that are no numerals, in each place, beside numerals and each other.
func TestTextsThatAreNoNumerals(t *testing.T) {
	for _, wrong := range noNumerals() {
		for _, other := range []string{"0", "1", "10", nines(300), "", "00", wrong} {
			checkNoNumeral(t, wrong, other)
			checkNoNumeral(t, other, wrong)
		}
		for _, e := range []int{0, 1, 2, 1000} {
			if got, ok := impl.PowText(wrong, e); ok || got != "" {
				t.Errorf("PowText(%q, %d) is %q, %v", wrong, e, got, ok)
			}
		}
		for f := range fields {
			if got := impl.ModText(wrong, f); got != -1 {
				t.Errorf("ModText(%q, %d) is %d", wrong, f, got)
			}
		}
	}
}

func checkNoNumeral(t *testing.T, a string, b string) {
	t.Helper()
	if got, ok := impl.MulText(a, b); ok || got != "" {
		t.Errorf("MulText(%q, %q) is %q, %v", a, b, got, ok)
	}
	if got, ok := impl.AddText(a, b); ok || got != "" {
		t.Errorf("AddText(%q, %q) is %q, %v", a, b, got, ok)
	}
	if got := impl.CompareText(a, b); got != -2 {
		t.Errorf("CompareText(%q, %q) is %d", a, b, got)
	}
}
