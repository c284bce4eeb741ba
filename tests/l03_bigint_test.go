package tests

import (
	"math"
	"math/big"
	"slices"
	"strconv"
	"strings"
	"testing"

	"loop.example/g00812/impl"
)

// bigIntOfBig returns the fields for n, computed without the program.
func bigIntOfBig(n *big.Int) impl.BigInt {
	return impl.BigInt{Neg: n.Sign() < 0, Mag: natOfBig(new(big.Int).Abs(n))}
}

// bigOfBigInt returns the value of x, computed without the program.
func bigOfBigInt(x impl.BigInt) *big.Int {
	n := bigOfNat(x.Mag)
	if x.Neg {
		n.Neg(n)
	}
	return n
}

// limitedBigInt is bigIntOfBig, or 0 if the document's limit of 60 limbs is
// exceeded.
func limitedBigInt(n *big.Int) impl.BigInt {
	x := bigIntOfBig(n)
	if len(x.Mag) > 60 {
		return impl.BigInt{}
	}
	return x
}

// bothSigns returns the big integers with the given magnitudes.
func bothSigns(magnitudes [][]int) []impl.BigInt {
	var list []impl.BigInt
	for _, a := range magnitudes {
		list = append(list, impl.BigInt{Mag: a})
		if len(a) > 0 {
			list = append(list, impl.BigInt{Neg: true, Mag: a})
		}
	}
	return list
}

func edgeBigInts() []impl.BigInt {
	return bothSigns(edgeNats())
}

func sampleBigInts() []impl.BigInt {
	return bothSigns(sampleNats())
}

// notBigInts returns values that are not big integers.
func notBigInts() []impl.BigInt {
	return append(bothSigns(notNats()), impl.BigInt{Neg: true}, impl.BigInt{Neg: true, Mag: []int{}})
}

func (s *source) bigInt(limbs int) impl.BigInt {
	x := impl.BigInt{Mag: s.nat(s.upTo(limbs))}
	x.Neg = len(x.Mag) > 0 && s.upTo(2) == 0
	return x
}

func equalBigInts(x impl.BigInt, y impl.BigInt) bool {
	return x.Neg == y.Neg && slices.Equal(x.Mag, y.Mag)
}

func sameBigInt(t *testing.T, got impl.BigInt, want impl.BigInt, name string, args ...impl.BigInt) {
	t.Helper()
	if !equalBigInts(got, want) {
		t.Errorf("%s%v = %v, want %v", name, args, got, want)
	}
}

func TestP1BigIntsAreRecoveredFromTheirText(t *testing.T) {
	for _, x := range sampleBigInts() {
		s := impl.FormatBigInt(x)
		back, ok := impl.ParseBigInt(s)
		if !ok || !equalBigInts(back, x) {
			t.Errorf("ParseBigInt(%q) = %v, %t, want %v, true", s, back, ok, x)
		}
	}
}

func TestP1TextsAreRecoveredFromTheirBigInts(t *testing.T) {
	texts := textsOver([]string{"-", "+", "0", "1", "9", " ", "\u0661", "a"}, 4)
	for _, zeros := range []int{7, 8, 9, 10, 17, 18, 19, 539, 540} {
		long := strings.Repeat("0", zeros)
		texts = append(texts, "-"+long, "-1"+long, "--1"+long, "-0"+long, "-+1"+long, "-1"+long+"-", "1"+long, "+1"+long)
	}
	for _, s := range texts {
		x, ok := impl.ParseBigInt(s)
		if ok && impl.FormatBigInt(x) != s {
			t.Errorf("ParseBigInt(%q) = %v, whose FormatBigInt is %q", s, x, impl.FormatBigInt(x))
		}
		if !ok && !equalBigInts(x, impl.BigInt{}) {
			t.Errorf("ParseBigInt(%q) = %v, false", s, x)
		}
	}
}

func TestP1BigIntsAreRecoveredFromInts(t *testing.T) {
	for _, n := range sampleInts() {
		x := impl.BigIntOf(n)
		if impl.FormatBigInt(x) != strconv.Itoa(n) {
			t.Errorf("FormatBigInt(BigIntOf(%d)) = %q", n, impl.FormatBigInt(x))
		}
		// The magnitude of the least int is too large for BigIntToInt.
		if m, ok := impl.BigIntToInt(x); n != math.MinInt && (!ok || m != n) {
			t.Errorf("BigIntToInt(BigIntOf(%d)) = %d, %t", n, m, ok)
		}
	}
}

func checkSumLaws(t *testing.T, x, y, z impl.BigInt) {
	t.Helper()
	sum := impl.BigIntAdd(x, y)
	sameBigInt(t, impl.BigIntAdd(y, x), sum, "BigIntAdd the other way round", x, y)
	sameBigInt(t, impl.BigIntAdd(sum, z), impl.BigIntAdd(x, impl.BigIntAdd(y, z)), "associative sum", x, y, z)
	sameBigInt(t, impl.BigIntAdd(x, impl.BigInt{}), x, "BigIntAdd of 0", x)
	sameBigInt(t, impl.BigIntAdd(x, impl.BigIntNeg(x)), impl.BigInt{}, "BigIntAdd of the negative", x)
	sameBigInt(t, impl.BigIntSub(sum, y), x, "BigIntSub of BigIntAdd", x, y)
	sameBigInt(t, impl.BigIntSub(x, y), impl.BigIntAdd(x, impl.BigIntNeg(y)), "BigIntSub", x, y)
	sameBigInt(t, impl.BigIntSub(x, y), impl.BigIntNeg(impl.BigIntSub(y, x)), "BigIntSub the other way round", x, y)
	sameBigInt(t, impl.BigIntNeg(impl.BigIntNeg(x)), x, "BigIntNeg of BigIntNeg", x)
}

func checkProductLaws(t *testing.T, x, y, z impl.BigInt) {
	t.Helper()
	product := impl.BigIntMul(x, y)
	sameBigInt(t, impl.BigIntMul(y, x), product, "BigIntMul the other way round", x, y)
	sameBigInt(t, impl.BigIntMul(product, z), impl.BigIntMul(x, impl.BigIntMul(y, z)), "associative product", x, y, z)
	sameBigInt(t, impl.BigIntMul(impl.BigIntAdd(x, y), z), impl.BigIntAdd(impl.BigIntMul(x, z), impl.BigIntMul(y, z)), "distributive product", x, y, z)
	sameBigInt(t, impl.BigIntMul(x, impl.BigIntOf(1)), x, "BigIntMul by 1", x)
	sameBigInt(t, impl.BigIntMul(x, impl.BigIntOf(-1)), impl.BigIntNeg(x), "BigIntMul by -1", x)
	sameBigInt(t, impl.BigIntMul(x, impl.BigInt{}), impl.BigInt{}, "BigIntMul by 0", x)
}

func TestP1LawsOfBigInts(t *testing.T) {
	s := source(6)
	for range 600 {
		x, y, z := s.bigInt(20), s.bigInt(20), s.bigInt(20)
		checkSumLaws(t, x, y, z)
		checkProductLaws(t, x, y, z)
	}
	small := []int{-1000000001, -1000000000, -999999999, -2, -1, 0, 1, 2, 999999999, 1000000000, 1000000001}
	for _, a := range small {
		for _, b := range small {
			for _, c := range small {
				x, y, z := impl.BigIntOf(a), impl.BigIntOf(b), impl.BigIntOf(c)
				checkSumLaws(t, x, y, z)
				checkProductLaws(t, x, y, z)
			}
		}
	}
}

func TestP1BigIntCmpIsTheOrderOfDifferences(t *testing.T) {
	s := source(7)
	for range 2000 {
		x, y := s.bigInt(5), s.bigInt(5)
		difference := bigOfBigInt(impl.BigIntSub(x, y)).Sign()
		if got := impl.BigIntCmp(x, y); got != difference || impl.BigIntCmp(y, x) != -got {
			t.Errorf("BigIntCmp(%v, %v) = %d, but the sign of the difference is %d", x, y, got, difference)
		}
	}
}

func TestP1FloorDivisionLaw(t *testing.T) {
	for _, x := range sampleBigInts() {
		for _, m := range sampleNats() {
			if len(m) == 0 {
				continue
			}
			q, r := impl.BigIntFloorDiv(x, m)
			if impl.NatCmp(r, m) != -1 {
				t.Errorf("BigIntFloorDiv(%v, %v) leaves %v, which is not less than the divisor", x, m, r)
			}
			// The product may have more limbs than a big integer, although x has not.
			back := bigOfBigInt(q)
			back.Mul(back, bigOfNat(m))
			back.Add(back, bigOfNat(r))
			sameBigInt(t, bigIntOfBig(back), x, "quotient times divisor plus remainder of BigIntFloorDiv", x, impl.BigInt{Mag: m})
		}
	}
}

func TestP15BigIntOk(t *testing.T) {
	for _, x := range append(sampleBigInts(), impl.BigInt{}, impl.BigInt{Mag: []int{}}) {
		if !impl.BigIntOk(x) {
			t.Errorf("BigIntOk(%v) = false", x)
		}
	}
	for _, x := range notBigInts() {
		if impl.BigIntOk(x) {
			t.Errorf("BigIntOk(%v) = true", x)
		}
	}
}

func TestP15BigIntOf(t *testing.T) {
	tests := []struct {
		n    int
		want impl.BigInt
	}{
		{0, impl.BigInt{}},
		{1, impl.BigInt{Mag: []int{1}}},
		{-1, impl.BigInt{Neg: true, Mag: []int{1}}},
		{-7, impl.BigInt{Neg: true, Mag: []int{7}}},
		{999999999, impl.BigInt{Mag: []int{999999999}}},
		{-999999999, impl.BigInt{Neg: true, Mag: []int{999999999}}},
		{1000000000, impl.BigInt{Mag: []int{0, 1}}},
		{-1000000000, impl.BigInt{Neg: true, Mag: []int{0, 1}}},
		{-1000000001, impl.BigInt{Neg: true, Mag: []int{1, 1}}},
		{math.MaxInt, impl.BigInt{Mag: []int{854775807, 223372036, 9}}},
		{-math.MaxInt, impl.BigInt{Neg: true, Mag: []int{854775807, 223372036, 9}}},
		{math.MinInt, impl.BigInt{Neg: true, Mag: []int{854775808, 223372036, 9}}},
	}
	for _, c := range tests {
		sameBigInt(t, impl.BigIntOf(c.n), c.want, "BigIntOf("+strconv.Itoa(c.n)+")")
	}
	for _, n := range sampleInts() {
		sameBigInt(t, impl.BigIntOf(n), bigIntOfBig(big.NewInt(int64(n))), "BigIntOf("+strconv.Itoa(n)+")")
	}
}

func TestP15BigIntToInt(t *testing.T) {
	for _, x := range sampleBigInts() {
		want, fits := 0, bigOfNat(x.Mag).IsInt64()
		if fits {
			want = int(bigOfBigInt(x).Int64())
		}
		if n, ok := impl.BigIntToInt(x); ok != fits || n != want {
			t.Errorf("BigIntToInt(%v) = %d, %t, want %d, %t", x, n, ok, want, fits)
		}
	}
	for _, x := range append(notBigInts(), impl.BigIntOf(math.MinInt)) {
		if n, ok := impl.BigIntToInt(x); ok || n != 0 {
			t.Errorf("BigIntToInt(%v) = %d, %t, want 0, false", x, n, ok)
		}
	}
}

func TestP15BigIntNeg(t *testing.T) {
	sameBigInt(t, impl.BigIntNeg(impl.BigInt{}), impl.BigInt{}, "BigIntNeg", impl.BigInt{})
	for _, x := range sampleBigInts() {
		sameBigInt(t, impl.BigIntNeg(x), bigIntOfBig(new(big.Int).Neg(bigOfBigInt(x))), "BigIntNeg", x)
	}
}

func TestP15BigIntCmp(t *testing.T) {
	for _, x := range sampleBigInts() {
		for _, y := range sampleBigInts() {
			if got, want := impl.BigIntCmp(x, y), bigOfBigInt(x).Cmp(bigOfBigInt(y)); got != want {
				t.Errorf("BigIntCmp(%v, %v) = %d, want %d", x, y, got, want)
			}
		}
	}
}

func TestP15SumsDifferencesAndProductsOfBigInts(t *testing.T) {
	for _, x := range sampleBigInts() {
		for _, y := range sampleBigInts() {
			a, b, n := bigOfBigInt(x), bigOfBigInt(y), new(big.Int)
			sameBigInt(t, impl.BigIntAdd(x, y), limitedBigInt(n.Add(a, b)), "BigIntAdd", x, y)
			sameBigInt(t, impl.BigIntSub(x, y), limitedBigInt(n.Sub(a, b)), "BigIntSub", x, y)
			sameBigInt(t, impl.BigIntMul(x, y), limitedBigInt(n.Mul(a, b)), "BigIntMul", x, y)
		}
	}
}

func TestP15BigIntResultsOfMoreThanMaxLimbs(t *testing.T) {
	zero, one, two := impl.BigInt{}, impl.BigInt{Mag: []int{1}}, impl.BigInt{Mag: []int{2}}
	minusOne, minusTwo := impl.BigInt{Neg: true, Mag: []int{1}}, impl.BigInt{Neg: true, Mag: []int{2}}
	greatest := impl.BigInt{Mag: repeatedLimb(999999999, 60)}
	least := impl.BigInt{Neg: true, Mag: repeatedLimb(999999999, 60)}
	below := impl.BigInt{Mag: append([]int{999999998}, repeatedLimb(999999999, 59)...)}
	sameBigInt(t, impl.BigIntAdd(greatest, one), zero, "BigIntAdd", greatest, one)
	sameBigInt(t, impl.BigIntAdd(minusOne, least), zero, "BigIntAdd", minusOne, least)
	sameBigInt(t, impl.BigIntAdd(greatest, minusOne), below, "BigIntAdd", greatest, minusOne)
	sameBigInt(t, impl.BigIntAdd(greatest, least), zero, "BigIntAdd", greatest, least)
	sameBigInt(t, impl.BigIntSub(least, one), zero, "BigIntSub", least, one)
	sameBigInt(t, impl.BigIntSub(greatest, minusOne), zero, "BigIntSub", greatest, minusOne)
	sameBigInt(t, impl.BigIntSub(greatest, one), below, "BigIntSub", greatest, one)
	sameBigInt(t, impl.BigIntSub(zero, greatest), least, "BigIntSub", zero, greatest)
	sameBigInt(t, impl.BigIntMul(greatest, minusOne), least, "BigIntMul", greatest, minusOne)
	sameBigInt(t, impl.BigIntMul(greatest, minusTwo), zero, "BigIntMul", greatest, minusTwo)
	sameBigInt(t, impl.BigIntMul(two, least), zero, "BigIntMul", two, least)
	sameBigInt(t, impl.BigIntMul(least, least), zero, "BigIntMul", least, least)
}

func TestP15BigIntFloorDiv(t *testing.T) {
	tests := []struct {
		x, m, q, r int
	}{
		{7, 2, 3, 1}, {-7, 2, -4, 1}, {6, 2, 3, 0}, {-6, 2, -3, 0}, {1, 5, 0, 1}, {-1, 5, -1, 4}, {-4, 5, -1, 1}, {-5, 5, -1, 0},
		{-6, 5, -2, 4}, {0, 5, 0, 0}, {-9, 1, -9, 0}, {-1000000000, 3, -333333334, 2}, {-1, math.MaxInt, -1, math.MaxInt - 1},
		{-999999999, 1000000000, -1, 1}, {-999999999999999999, 2, -500000000000000000, 1},
	}
	for _, c := range tests {
		q, r := impl.BigIntFloorDiv(impl.BigIntOf(c.x), impl.NatOf(c.m))
		sameBigInt(t, q, bigIntOfBig(big.NewInt(int64(c.q))), "quotient of BigIntFloorDiv", impl.BigIntOf(c.x), impl.BigIntOf(c.m))
		sameNat(t, r, natOfBig(big.NewInt(int64(c.r))), "remainder of BigIntFloorDiv", impl.NatOf(c.m))
	}
	for _, x := range sampleBigInts() {
		for _, m := range sampleNats() {
			q, r := impl.BigIntFloorDiv(x, m)
			wantQ, wantR := new(big.Int), new(big.Int)
			if len(m) > 0 {
				// A quotient whose remainder is not negative is rounded down.
				wantQ.DivMod(bigOfBigInt(x), bigOfNat(m), wantR)
			}
			sameBigInt(t, q, bigIntOfBig(wantQ), "quotient of BigIntFloorDiv", x, impl.BigInt{Mag: m})
			sameNat(t, r, natOfBig(wantR), "remainder of BigIntFloorDiv", x.Mag, m)
		}
	}
}

func TestP15BigIntFloorDivRejectsOtherDivisors(t *testing.T) {
	for _, x := range append(edgeBigInts(), notBigInts()...) {
		for _, m := range append(notNats(), nil, []int{}) {
			q, r := impl.BigIntFloorDiv(x, m)
			sameBigInt(t, q, impl.BigInt{}, "quotient of BigIntFloorDiv", x, impl.BigInt{Mag: m})
			sameNat(t, r, nil, "remainder of BigIntFloorDiv", x.Mag, m)
		}
	}
	for _, x := range notBigInts() {
		for _, m := range edgeNats() {
			q, r := impl.BigIntFloorDiv(x, m)
			sameBigInt(t, q, impl.BigInt{}, "quotient of BigIntFloorDiv", x, impl.BigInt{Mag: m})
			sameNat(t, r, nil, "remainder of BigIntFloorDiv", x.Mag, m)
		}
	}
}

func TestP15FormatBigInt(t *testing.T) {
	tests := []struct {
		x    impl.BigInt
		want string
	}{
		{impl.BigInt{}, "0"},
		{impl.BigInt{Mag: []int{7}}, "7"},
		{impl.BigInt{Neg: true, Mag: []int{7}}, "-7"},
		{impl.BigInt{Neg: true, Mag: []int{7, 1}}, "-1000000007"},
		{impl.BigInt{Neg: true, Mag: []int{0, 0, 5}}, "-5000000000000000000"},
		{impl.BigInt{Neg: true, Mag: repeatedLimb(999999999, 60)}, "-" + strings.Repeat("9", 540)},
	}
	for _, c := range tests {
		if got := impl.FormatBigInt(c.x); got != c.want {
			t.Errorf("FormatBigInt(%v) = %q, want %q", c.x, got, c.want)
		}
	}
	for _, x := range sampleBigInts() {
		if got, want := impl.FormatBigInt(x), bigOfBigInt(x).String(); got != want {
			t.Errorf("FormatBigInt(%v) = %q, want %q", x, got, want)
		}
	}
	for _, x := range notBigInts() {
		if got := impl.FormatBigInt(x); got != "" {
			t.Errorf("FormatBigInt(%v) = %q, want an empty string", x, got)
		}
	}
}

func TestP15ParseBigInt(t *testing.T) {
	sameParse := func(s string, want impl.BigInt) {
		if got, ok := impl.ParseBigInt(s); !ok || !equalBigInts(got, want) {
			t.Errorf("ParseBigInt(%q) = %v, %t, want %v, true", s, got, ok, want)
		}
	}
	sameParse("0", impl.BigInt{})
	sameParse("-1", impl.BigInt{Neg: true, Mag: []int{1}})
	sameParse("-1000000000", impl.BigInt{Neg: true, Mag: []int{0, 1}})
	sameParse("-"+strings.Repeat("9", 540), impl.BigInt{Neg: true, Mag: repeatedLimb(999999999, 60)})
	for _, x := range sampleBigInts() {
		sameParse(bigOfBigInt(x).String(), x)
	}
}

func TestP15ParseBigIntRejectsOtherTexts(t *testing.T) {
	nines := strings.Repeat("9", 540)
	texts := []string{
		"", "-", "+", "--", "--1", "-+1", "+-1", "+1", "+0", "-0", "--0", "-00", "00", "01", "-01", "-007", "-0000000001",
		"- 1", " -1", "-1 ", "-1\n", "\n-1", "-1\x00", "1-", "1-1", "-1-", "-1-1", "-1.0", "-1e3", "-1_0", "-0x1", "-a", "-1a",
		"1/1", "-1/1", "-1,1", "\u22121", "-\u0661", "-\uff11", "\xff", "-\xff", "-1\xff",
		"-0" + nines[1:], "-0" + strings.Repeat("0", 5000), "-" + nines + "9", nines + "9", "-1" + strings.Repeat("0", 540),
		"-" + strings.Repeat("9", 100000), "-" + nines[1:] + "a", nines[:200] + "-" + nines[:100], "-12345678-", "-1-34567890",
	}
	for _, s := range texts {
		if x, ok := impl.ParseBigInt(s); ok || !equalBigInts(x, impl.BigInt{}) {
			t.Errorf("ParseBigInt(%.20q) = %v, %t, want the zero value, false", s, x, ok)
		}
	}
}

func TestP15InvalidArgumentsOfBigInts(t *testing.T) {
	good := []impl.BigInt{{}, {Mag: []int{1}}, {Neg: true, Mag: []int{5, 7}}, {Neg: true, Mag: repeatedLimb(999999999, 60)}}
	pairs := [][2]impl.BigInt{}
	for _, bad := range notBigInts() {
		sameBigInt(t, impl.BigIntNeg(bad), impl.BigInt{}, "BigIntNeg", bad)
		for _, x := range append(good, bad, impl.BigInt{Neg: true}) {
			pairs = append(pairs, [2]impl.BigInt{x, bad}, [2]impl.BigInt{bad, x})
		}
	}
	for _, p := range pairs {
		if got := impl.BigIntCmp(p[0], p[1]); got != 0 {
			t.Errorf("BigIntCmp(%v, %v) = %d, want 0", p[0], p[1], got)
		}
		sameBigInt(t, impl.BigIntAdd(p[0], p[1]), impl.BigInt{}, "BigIntAdd", p[0], p[1])
		sameBigInt(t, impl.BigIntSub(p[0], p[1]), impl.BigInt{}, "BigIntSub", p[0], p[1])
		sameBigInt(t, impl.BigIntMul(p[0], p[1]), impl.BigInt{}, "BigIntMul", p[0], p[1])
	}
}

// bigIntResults returns the memory of everything that the functions compute from
// x and y.
func bigIntResults(x impl.BigInt, y impl.BigInt) [][]int {
	q, r := impl.BigIntFloorDiv(x, y.Mag)
	parsed, _ := impl.ParseBigInt(impl.FormatBigInt(x))
	sum, difference, product := impl.BigIntAdd(x, y), impl.BigIntSub(x, y), impl.BigIntMul(x, y)
	return [][]int{impl.BigIntNeg(x).Mag, sum.Mag, difference.Mag, product.Mag, q.Mag, r, parsed.Mag}
}

func keepsLimbs(x impl.BigInt, limbs []int) bool {
	return slices.Equal(x.Mag, limbs) && spareIsKept(x.Mag)
}

func TestP15BigIntArgumentsAreKept(t *testing.T) {
	for _, a := range edgeBigInts() {
		for _, b := range edgeBigInts() {
			x, y := impl.BigInt{Neg: a.Neg, Mag: withSpare(a.Mag)}, impl.BigInt{Neg: b.Neg, Mag: withSpare(b.Mag)}
			bigIntResults(x, y)
			impl.BigIntCmp(x, y)
			impl.BigIntToInt(x)
			if !keepsLimbs(x, a.Mag) || !keepsLimbs(y, b.Mag) {
				t.Fatalf("the arguments %v and %v were changed to %v and %v", a, b, x, y)
			}
		}
	}
}

func TestP15BigIntResultsAreNew(t *testing.T) {
	for _, a := range edgeBigInts() {
		for _, b := range edgeBigInts() {
			x, y := impl.BigInt{Neg: a.Neg, Mag: withSpare(a.Mag)}, impl.BigInt{Neg: b.Neg, Mag: withSpare(b.Mag)}
			wants := bigIntResults(a, b)
			for i := range wants {
				results := bigIntResults(x, y)
				overwrite(results[i])
				for j, other := range results {
					if j != i {
						sameNat(t, other, wants[j], "a result after a change of another one", a.Mag, b.Mag)
					}
				}
			}
			if !keepsLimbs(x, a.Mag) || !keepsLimbs(y, b.Mag) {
				t.Fatalf("changes of the results for %v and %v reach the arguments", a, b)
			}
			for i, again := range bigIntResults(x, y) {
				sameNat(t, again, wants[i], "a result after changes of all results", a.Mag, b.Mag)
			}
		}
	}
}
