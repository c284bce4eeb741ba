package tests

import (
	"math"
	"math/big"
	"slices"
	"strconv"
	"strings"
	"testing"

	"loop.example/g00812/impl"
)

// natOfBig returns the limbs of n, computed without the program.
func natOfBig(n *big.Int) []int {
	var limbs []int
	base := big.NewInt(1000000000)
	for rest := new(big.Int).Set(n); rest.Sign() > 0; {
		limb := new(big.Int)
		rest.DivMod(rest, base, limb)
		limbs = append(limbs, int(limb.Int64()))
	}
	return limbs
}

// bigOfNat returns the value of a, computed without the program.
func bigOfNat(a []int) *big.Int {
	n := new(big.Int)
	for _, limb := range slices.Backward(a) {
		n.Mul(n, big.NewInt(1000000000))
		n.Add(n, big.NewInt(int64(limb)))
	}
	return n
}

// limitedNat is natOfBig, or 0 if the document's limit of 60 limbs is exceeded.
func limitedNat(n *big.Int) []int {
	limbs := natOfBig(n)
	if len(limbs) > 60 {
		return nil
	}
	return limbs
}

// repeatedLimb returns n times the same limb.
func repeatedLimb(limb int, n int) []int {
	return slices.Repeat([]int{limb}, n)
}

// powerOfBase returns 1 with n zero limbs below it.
func powerOfBase(n int) []int {
	return append(repeatedLimb(0, n), 1)
}

// source yields the same numbers at every run.
type source uint64

func (s *source) upTo(n int) int {
	*s = *s*6364136223846793005 + 1442695040888963407
	return int(uint64(*s>>33) % uint64(n))
}

// nat returns a natural number with n limbs, among them many that are 0, 1, or
// close to the base.
func (s *source) nat(n int) []int {
	limbs := make([]int, n)
	for i := range limbs {
		switch s.upTo(5) {
		case 0:
			limbs[i] = s.upTo(3)
		case 1:
			limbs[i] = 999999999 - s.upTo(3)
		default:
			limbs[i] = s.upTo(1000000000)
		}
	}
	if n > 0 && limbs[n-1] == 0 {
		limbs[n-1] = 1
	}
	return limbs
}

// edgeNats returns the natural numbers at which carries, lengths and limits are
// most likely to go wrong.
func edgeNats() [][]int {
	list := [][]int{
		nil, {1}, {2}, {10}, {499999999}, {500000000}, {999999998}, {999999999},
		{0, 1}, {1, 1}, {999999999, 1}, {0, 2}, {0, 999999999}, {999999998, 999999999},
		{854775806, 223372036, 9}, {854775807, 223372036, 9}, {854775808, 223372036, 9}, {0, 223372037, 9},
		{709551615, 446744073, 18}, {709551616, 446744073, 18},
		{0, 0, 999999999}, {999999999, 0, 1}, {0, 999999999, 1}, {999999999, 999999999, 500000000},
	}
	for _, n := range []int{2, 3, 4, 29, 30, 31, 58, 59} {
		list = append(list, repeatedLimb(999999999, n), powerOfBase(n), repeatedLimb(1, n))
	}
	return append(list, repeatedLimb(999999999, 60), repeatedLimb(1, 60), append(repeatedLimb(0, 59), 999999999))
}

// sampleNats returns edgeNats and numbers of many lengths.
func sampleNats() [][]int {
	list := edgeNats()
	s := source(2)
	for _, n := range []int{1, 1, 2, 2, 3, 3, 4, 5, 8, 13, 21, 29, 30, 31, 34, 45, 59, 60} {
		list = append(list, s.nat(n), s.nat(n))
	}
	return list
}

// notNats returns lists that are not natural numbers.
func notNats() [][]int {
	return [][]int{
		{0}, {0, 0}, {1, 0}, {5, 7, 0}, {-1}, {1, -1}, {-1, 1}, {math.MinInt}, {0, math.MinInt, 1},
		{1000000000}, {1000000000, 1}, {1, 1000000000}, {math.MaxInt}, {3, math.MaxInt, 3},
		repeatedLimb(1, 61), powerOfBase(60), repeatedLimb(0, 60), repeatedLimb(0, 61), repeatedLimb(1, 5000),
		append(repeatedLimb(1, 59), 0), append(repeatedLimb(1, 59), -1), append(repeatedLimb(1, 60), 0),
	}
}

func sameNat(t *testing.T, got []int, want []int, name string, args ...[]int) {
	t.Helper()
	if !slices.Equal(got, want) {
		t.Errorf("%s%v = %v, want %v", name, args, got, want)
	}
}

func TestP1NatsAreRecoveredFromTheirText(t *testing.T) {
	for _, a := range sampleNats() {
		s := impl.FormatNat(a)
		back, ok := impl.ParseNat(s)
		if !ok || !slices.Equal(back, a) {
			t.Errorf("ParseNat(%q) = %v, %t, want %v, true", s, back, ok, a)
		}
	}
}

func TestP1TextsAreRecoveredFromTheirNats(t *testing.T) {
	texts := textsOver([]string{"-", "+", "0", "1", "9", " ", "\u0661", "a"}, 4)
	for _, zeros := range []int{7, 8, 9, 10, 17, 18, 19, 539, 540} {
		long := strings.Repeat("0", zeros)
		texts = append(texts, long, "1"+long, "1"+long[1:], "0"+long[1:]+"1", "-1"+long, "1"+long+" ", "1"+long[1:]+"x")
	}
	for _, s := range texts {
		a, ok := impl.ParseNat(s)
		if ok && impl.FormatNat(a) != s {
			t.Errorf("ParseNat(%q) = %v, whose FormatNat is %q", s, a, impl.FormatNat(a))
		}
		if !ok && len(a) != 0 {
			t.Errorf("ParseNat(%q) = %v, false", s, a)
		}
	}
}

func TestP1NatsAreRecoveredFromInts(t *testing.T) {
	for _, n := range sampleInts() {
		a := impl.NatOf(n)
		if n < 0 {
			sameNat(t, a, nil, "NatOf of a negative int")
			continue
		}
		if m, ok := impl.NatToInt(a); !ok || m != n {
			t.Errorf("NatToInt(NatOf(%d)) = %d, %t", n, m, ok)
		}
		if impl.FormatNat(a) != strconv.Itoa(n) {
			t.Errorf("FormatNat(NatOf(%d)) = %q", n, impl.FormatNat(a))
		}
	}
}

func TestP1DivisionLaw(t *testing.T) {
	for _, a := range sampleNats() {
		for _, b := range sampleNats() {
			if len(b) == 0 {
				continue
			}
			q, r := impl.NatDiv(a, b)
			if impl.NatCmp(r, b) != -1 {
				t.Errorf("NatDiv(%v, %v) leaves %v, which is not less than the divisor", a, b, r)
			}
			sameNat(t, impl.NatAdd(impl.NatMul(q, b), r), a, "quotient times divisor plus remainder of NatDiv", a, b)
		}
	}
}

func TestP1LawsOfArithmetic(t *testing.T) {
	s := source(3)
	for range 400 {
		a, b, c := s.nat(s.upTo(20)), s.nat(s.upTo(20)), s.nat(s.upTo(20))
		sum, product := impl.NatAdd(a, b), impl.NatMul(a, b)
		sameNat(t, impl.NatAdd(b, a), sum, "NatAdd the other way round", a, b)
		sameNat(t, impl.NatMul(b, a), product, "NatMul the other way round", a, b)
		sameNat(t, impl.NatAdd(sum, c), impl.NatAdd(a, impl.NatAdd(b, c)), "associative sum", a, b, c)
		sameNat(t, impl.NatMul(product, c), impl.NatMul(a, impl.NatMul(b, c)), "associative product", a, b, c)
		sameNat(t, impl.NatMul(sum, c), impl.NatAdd(impl.NatMul(a, c), impl.NatMul(b, c)), "distributive product", a, b, c)
		sameNat(t, impl.NatSub(sum, b), a, "NatSub of NatAdd", a, b)
		sameNat(t, impl.NatSub(a, a), nil, "NatSub", a, a)
		if impl.NatCmp(a, b) != -impl.NatCmp(b, a) || impl.NatCmp(a, sum) > 0 {
			t.Errorf("NatCmp of %v, %v and their sum is not an order", a, b)
		}
	}
}

func TestP15NatOk(t *testing.T) {
	if impl.Base != 1000000000 || impl.MaxLimbs != 60 {
		t.Errorf("Base = %d, MaxLimbs = %d", impl.Base, impl.MaxLimbs)
	}
	if !impl.NatOk([]int{}) {
		t.Error("NatOk of an empty list = false")
	}
	for _, a := range sampleNats() {
		if !impl.NatOk(a) {
			t.Errorf("NatOk(%v) = false", a)
		}
	}
	for _, a := range notNats() {
		if impl.NatOk(a) {
			t.Errorf("NatOk(%v) = true", a)
		}
	}
}

func TestP15NatOf(t *testing.T) {
	tests := []struct {
		n    int
		want []int
	}{
		{0, nil}, {1, []int{1}}, {999999999, []int{999999999}}, {1000000000, []int{0, 1}}, {1000000001, []int{1, 1}},
		{999999999999999999, []int{999999999, 999999999}}, {1000000000000000000, []int{0, 0, 1}},
		{math.MaxInt, []int{854775807, 223372036, 9}}, {-1, nil}, {-1000000000, nil}, {math.MinInt, nil},
	}
	for _, c := range tests {
		sameNat(t, impl.NatOf(c.n), c.want, "NatOf("+strconv.Itoa(c.n)+")")
	}
}

func TestP15NatToInt(t *testing.T) {
	for _, a := range sampleNats() {
		want, fits := 0, bigOfNat(a).IsInt64()
		if fits {
			want = int(bigOfNat(a).Int64())
		}
		if n, ok := impl.NatToInt(a); ok != fits || n != want {
			t.Errorf("NatToInt(%v) = %d, %t, want %d, %t", a, n, ok, want, fits)
		}
	}
	for _, a := range notNats() {
		if n, ok := impl.NatToInt(a); ok || n != 0 {
			t.Errorf("NatToInt(%v) = %d, %t, want 0, false", a, n, ok)
		}
	}
}

func TestP15NatCmp(t *testing.T) {
	for _, a := range sampleNats() {
		for _, b := range sampleNats() {
			if got, want := impl.NatCmp(a, b), bigOfNat(a).Cmp(bigOfNat(b)); got != want {
				t.Errorf("NatCmp(%v, %v) = %d, want %d", a, b, got, want)
			}
		}
	}
}

func TestP15SumsDifferencesAndProducts(t *testing.T) {
	for _, a := range sampleNats() {
		for _, b := range sampleNats() {
			x, y := bigOfNat(a), bigOfNat(b)
			sameNat(t, impl.NatAdd(a, b), limitedNat(new(big.Int).Add(x, y)), "NatAdd", a, b)
			sameNat(t, impl.NatMul(a, b), limitedNat(new(big.Int).Mul(x, y)), "NatMul", a, b)
			var difference []int
			if x.Cmp(y) > 0 {
				difference = natOfBig(new(big.Int).Sub(x, y))
			}
			sameNat(t, impl.NatSub(a, b), difference, "NatSub", a, b)
		}
	}
}

func TestP15ResultsOfMoreThanMaxLimbs(t *testing.T) {
	greatest := repeatedLimb(999999999, 60)
	sameNat(t, impl.NatAdd(greatest, nil), greatest, "NatAdd", greatest, nil)
	sameNat(t, impl.NatAdd(greatest, []int{1}), nil, "NatAdd", greatest, []int{1})
	sameNat(t, impl.NatAdd([]int{1}, greatest), nil, "NatAdd", []int{1}, greatest)
	sameNat(t, impl.NatMul(greatest, []int{1}), greatest, "NatMul", greatest, []int{1})
	sameNat(t, impl.NatMul(greatest, []int{2}), nil, "NatMul", greatest, []int{2})
	sameNat(t, impl.NatMul(greatest, nil), nil, "NatMul", greatest, nil)
	sameNat(t, impl.NatMul(greatest, greatest), nil, "NatMul", greatest, greatest)
	sameNat(t, impl.NatMul(powerOfBase(30), powerOfBase(29)), powerOfBase(59), "NatMul", powerOfBase(30), powerOfBase(29))
	sameNat(t, impl.NatMul(powerOfBase(30), powerOfBase(30)), nil, "NatMul", powerOfBase(30), powerOfBase(30))
}

func TestP15NatDiv(t *testing.T) {
	for _, a := range sampleNats() {
		for _, b := range sampleNats() {
			q, r := impl.NatDiv(a, b)
			if len(b) == 0 {
				sameNat(t, q, nil, "quotient of NatDiv", a, b)
				sameNat(t, r, nil, "remainder of NatDiv", a, b)
				continue
			}
			quotient, rest := new(big.Int).QuoRem(bigOfNat(a), bigOfNat(b), new(big.Int))
			sameNat(t, q, natOfBig(quotient), "quotient of NatDiv", a, b)
			sameNat(t, r, natOfBig(rest), "remainder of NatDiv", a, b)
		}
	}
}

// TestP15NatDivNextToMultiples divides numbers that are just below and just
// above a multiple of the divisor, where a quotient is most likely to be wrong
// by one.
func TestP15NatDivNextToMultiples(t *testing.T) {
	s := source(4)
	one := big.NewInt(1)
	for range 3000 {
		b, f := s.nat(1+s.upTo(12)), s.nat(1+s.upTo(12))
		multiple := new(big.Int).Mul(bigOfNat(b), bigOfNat(f))
		below := natOfBig(new(big.Int).Sub(multiple, one))
		q, r := impl.NatDiv(below, b)
		sameNat(t, q, natOfBig(new(big.Int).Sub(bigOfNat(f), one)), "quotient of NatDiv", below, b)
		sameNat(t, r, natOfBig(new(big.Int).Sub(bigOfNat(b), one)), "remainder of NatDiv", below, b)
		q, r = impl.NatDiv(natOfBig(multiple), b)
		sameNat(t, q, f, "quotient of NatDiv", natOfBig(multiple), b)
		sameNat(t, r, nil, "remainder of NatDiv", natOfBig(multiple), b)
	}
}

func TestP15NatDivCorrectsItsGuess(t *testing.T) {
	a := []int{999999999, 999999999, 0, 1}
	for _, b := range [][]int{{999999999, 0, 1}, {999999999, 999999999, 1}, {999999999, 0, 500000000}, {1, 0, 999999999}, {999999999, 1}} {
		for _, top := range []int{1, 2, 499999999, 500000000, 999999998, 999999999} {
			x := append(slices.Clone(a), top)
			q, r := impl.NatDiv(x, b)
			quotient, rest := new(big.Int).QuoRem(bigOfNat(x), bigOfNat(b), new(big.Int))
			sameNat(t, q, natOfBig(quotient), "quotient of NatDiv", x, b)
			sameNat(t, r, natOfBig(rest), "remainder of NatDiv", x, b)
		}
	}
}

func checkGcd(t *testing.T, a []int, b []int) {
	t.Helper()
	want := natOfBig(new(big.Int).GCD(nil, nil, bigOfNat(a), bigOfNat(b)))
	sameNat(t, impl.NatGcd(a, b), want, "NatGcd", a, b)
	sameNat(t, impl.NatGcd(b, a), want, "NatGcd", b, a)
}

func TestP15NatGcd(t *testing.T) {
	sameNat(t, impl.NatGcd(nil, nil), nil, "NatGcd", nil, nil)
	sameNat(t, impl.NatGcd([]int{12}, []int{18}), []int{6}, "NatGcd", []int{12}, []int{18})
	for _, a := range sampleNats() {
		sameNat(t, impl.NatGcd(a, nil), a, "NatGcd", a, nil)
		sameNat(t, impl.NatGcd(nil, a), a, "NatGcd", nil, a)
		sameNat(t, impl.NatGcd(a, a), a, "NatGcd", a, a)
		for _, b := range sampleNats() {
			checkGcd(t, a, b)
		}
	}
	for a := range 60 {
		for b := range 60 {
			checkGcd(t, impl.NatOf(a), impl.NatOf(b))
		}
	}
}

func TestP15NatGcdOfNumbersWithCommonFactors(t *testing.T) {
	s := source(5)
	for range 3000 {
		factor := bigOfNat(s.nat(s.upTo(20)))
		x := new(big.Int).Mul(factor, bigOfNat(s.nat(s.upTo(20))))
		y := new(big.Int).Mul(factor, bigOfNat(s.nat(s.upTo(20))))
		checkGcd(t, natOfBig(x), natOfBig(y))
	}
}

// TestP15NatGcdOfLongRunsOfSteps takes successive elements of a sequence of
// which each one is q times the one before it plus the one before that: all
// quotients of Euclid's algorithm are q.
func TestP15NatGcdOfLongRunsOfSteps(t *testing.T) {
	limit := bigOfNat(powerOfBase(60))
	for _, q := range []int{1, 2, 3, 1000, 999999999, 1000000000, math.MaxInt} {
		for _, first := range []int{1, 7, math.MaxInt} {
			a, b := big.NewInt(int64(first)), new(big.Int).Mul(big.NewInt(int64(q)), big.NewInt(int64(first)))
			for b.Cmp(limit) < 0 {
				checkGcd(t, natOfBig(a), natOfBig(b))
				a, b = b, new(big.Int).Add(a, new(big.Int).Mul(big.NewInt(int64(q)), b))
			}
		}
	}
}

func TestP15FormatNat(t *testing.T) {
	wants := map[string][]int{
		"0": nil, "1": {1}, "999999999": {999999999}, "1000000000": {0, 1}, "1000000007": {7, 1},
		"12000000034000000056": {56, 34, 12}, "7000000000000000000": {0, 0, 7},
		strings.Repeat("9", 540): repeatedLimb(999999999, 60), "1" + strings.Repeat("0", 531): powerOfBase(59),
	}
	for want, a := range wants {
		if got := impl.FormatNat(a); got != want {
			t.Errorf("FormatNat(%v) = %q, want %q", a, got, want)
		}
	}
	for _, a := range sampleNats() {
		if got, want := impl.FormatNat(a), bigOfNat(a).String(); got != want {
			t.Errorf("FormatNat(%v) = %q, want %q", a, got, want)
		}
	}
	for _, a := range notNats() {
		if got := impl.FormatNat(a); got != "" {
			t.Errorf("FormatNat(%v) = %q, want an empty string", a, got)
		}
	}
}

func TestP15ParseNat(t *testing.T) {
	for _, a := range sampleNats() {
		s := bigOfNat(a).String()
		if got, ok := impl.ParseNat(s); !ok || !slices.Equal(got, a) {
			t.Errorf("ParseNat(%q) = %v, %t, want %v, true", s, got, ok, a)
		}
	}
	for digits := 1; digits <= 540; digits++ {
		for _, digit := range []string{"1", "9"} {
			s := strings.Repeat(digit, digits)
			n, _ := new(big.Int).SetString(s, 10)
			if got, ok := impl.ParseNat(s); !ok || !slices.Equal(got, natOfBig(n)) {
				t.Errorf("ParseNat(%q) = %v, %t", s, got, ok)
			}
		}
	}
}

func TestP15ParseNatRejectsOtherTexts(t *testing.T) {
	nines := strings.Repeat("9", 540)
	texts := []string{
		"", "-", "+", "-1", "+1", "-0", "00", "01", "007", "0000000000", "0000000001", "1 ", " 1", "1\n", "\n1", "1\x00",
		"1.0", "1e3", "1_0", "0x1", "a", "1a", "1/1", "1,1", "\u0661", "\uff11", "\xff", "1\xff", "12\u0663",
		"1-00000000", "+123456789", "1+12345678", "1-12345678", "12345678\u0663", "123456789 123456789",
		"0" + strings.Repeat("0", 5000), "0" + nines, "0" + nines[1:], nines + "9", "1" + strings.Repeat("0", 540), strings.Repeat("9", 100000),
		nines[1:] + "a", "-" + nines[1:], nines[:200] + "+" + nines[:100],
	}
	for _, s := range texts {
		if a, ok := impl.ParseNat(s); ok || len(a) != 0 {
			t.Errorf("ParseNat(%.20q) = %v, %t, want nil, false", s, a, ok)
		}
	}
}

func TestP15InvalidArgumentsOfNats(t *testing.T) {
	good := [][]int{nil, {1}, {5, 7}, {3, 3, 3, 3}, repeatedLimb(999999999, 60)}
	pairs := [][2][]int{}
	for _, bad := range notNats() {
		for _, a := range append(good, bad, []int{0}, []int{-1}) {
			pairs = append(pairs, [2][]int{a, bad}, [2][]int{bad, a})
		}
	}
	for _, p := range pairs {
		if got := impl.NatCmp(p[0], p[1]); got != 0 {
			t.Errorf("NatCmp(%v, %v) = %d, want 0", p[0], p[1], got)
		}
		sameNat(t, impl.NatAdd(p[0], p[1]), nil, "NatAdd", p[0], p[1])
		sameNat(t, impl.NatSub(p[0], p[1]), nil, "NatSub", p[0], p[1])
		sameNat(t, impl.NatMul(p[0], p[1]), nil, "NatMul", p[0], p[1])
		sameNat(t, impl.NatGcd(p[0], p[1]), nil, "NatGcd", p[0], p[1])
		q, r := impl.NatDiv(p[0], p[1])
		sameNat(t, q, nil, "quotient of NatDiv", p[0], p[1])
		sameNat(t, r, nil, "remainder of NatDiv", p[0], p[1])
	}
}

// withSpare returns a copy of a that has limbs behind its end, which no function
// may change.
func withSpare(a []int) []int {
	return append(slices.Clone(a), 77, 88, 99)[:len(a)]
}

func spareIsKept(a []int) bool {
	return slices.Equal(a[len(a):len(a)+3], []int{77, 88, 99})
}

// natResults returns everything that the functions compute from a and b.
func natResults(a []int, b []int) [][]int {
	q, r := impl.NatDiv(a, b)
	parsed, _ := impl.ParseNat(impl.FormatNat(a))
	return [][]int{impl.NatAdd(a, b), impl.NatSub(a, b), impl.NatMul(a, b), impl.NatGcd(a, b), q, r, parsed}
}

func TestP15NatArgumentsAreKept(t *testing.T) {
	for _, a := range edgeNats() {
		for _, b := range edgeNats() {
			x, y := withSpare(a), withSpare(b)
			natResults(x, y)
			impl.NatCmp(x, y)
			impl.NatToInt(x)
			if !slices.Equal(x, a) || !slices.Equal(y, b) || !spareIsKept(x) || !spareIsKept(y) {
				t.Fatalf("the arguments %v and %v were changed to %v and %v", a, b, x, y)
			}
		}
	}
}

// overwrite changes all memory that belongs to a result, spare capacity included.
func overwrite(a []int) {
	whole := a[:cap(a)]
	for i := range whole {
		whole[i] = -5
	}
}

func TestP15NatResultsAreNew(t *testing.T) {
	for _, a := range edgeNats() {
		for _, b := range edgeNats() {
			x, y := withSpare(a), withSpare(b)
			wants := natResults(x, y)
			for i, want := range wants {
				results := natResults(x, y)
				overwrite(results[i])
				for j, other := range results {
					if j != i {
						sameNat(t, other, wants[j], "a result after a change of another one", a, b)
					}
				}
				sameNat(t, natResults(x, y)[i], want, "a result after a change of it", a, b)
			}
			if !slices.Equal(x, a) || !slices.Equal(y, b) || !spareIsKept(x) || !spareIsKept(y) {
				t.Fatalf("changes of the results for %v and %v reach the arguments", a, b)
			}
		}
	}
}
