package tests

import (
	"math"
	"math/big"
	"slices"
	"strings"
	"testing"

	"loop.example/g00812/impl"
)

// ratOfBig returns the fields for r, computed without the program.
func ratOfBig(r *big.Rat) impl.Rat {
	return impl.Rat{Num: bigIntOfBig(r.Num()), Den: natOfBig(r.Denom())}
}

// bigOfRat returns the value of r, computed without the program.
func bigOfRat(r impl.Rat) *big.Rat {
	return new(big.Rat).SetFrac(bigOfBigInt(r.Num), bigOfNat(r.Den))
}

// limitedRat is ratOfBig, or the zero value if the document's limit of 24 limbs is
// exceeded.
func limitedRat(n *big.Rat) impl.Rat {
	r := ratOfBig(n)
	if len(r.Num.Mag) > 24 || len(r.Den) > 24 {
		return impl.Rat{}
	}
	return r
}

// smallRat returns n / d, computed without the program.
func smallRat(n int64, d int64) impl.Rat {
	return ratOfBig(big.NewRat(n, d))
}

// edgeRats returns the fractions at which carries, signs and limits are most likely
// to go wrong.
func edgeRats() []impl.Rat {
	numbers := [][]int{
		{1}, {2}, {3}, {6}, {999999999}, {0, 1}, {999999999, 999999999}, {0, 0, 1}, {854775808, 223372036, 9},
		repeatedLimb(999999999, 12), powerOfBase(12), repeatedLimb(999999999, 23), powerOfBase(23),
		repeatedLimb(1, 24), repeatedLimb(999999999, 24),
	}
	list := []impl.Rat{{Den: []int{1}}}
	one := big.NewInt(1)
	for _, den := range numbers {
		for _, num := range bothSigns(numbers) {
			if new(big.Int).GCD(nil, nil, bigOfNat(num.Mag), bigOfNat(den)).Cmp(one) == 0 {
				list = append(list, impl.Rat{Num: num, Den: den})
			}
		}
	}
	return list
}

// rat returns a fraction of numbers of at most the given number of limbs.
func (s *source) rat(limbs int) impl.Rat {
	den := s.nat(1 + s.upTo(limbs))
	return ratOfBig(bigOfRat(impl.Rat{Num: s.bigInt(limbs + 1), Den: den}))
}

// sampleRats returns edgeRats, small fractions and fractions of many lengths.
func sampleRats() []impl.Rat {
	list := edgeRats()
	for _, n := range []int64{-7, -4, -3, -1, 1, 2, 5, 12} {
		list = append(list, smallRat(n, 1), smallRat(n, 4), smallRat(n, 6), smallRat(n, 35))
	}
	s := source(8)
	for _, limbs := range []int{1, 1, 2, 3, 5, 8, 12, 13, 16, 20, 23, 24} {
		list = append(list, s.rat(limbs), s.rat(limbs), s.rat(limbs))
	}
	return list
}

// notRats returns values that are not fractions.
func notRats() []impl.Rat {
	one, minusOne := impl.BigInt{Mag: []int{1}}, impl.BigInt{Neg: true, Mag: []int{1}}
	list := []impl.Rat{
		{}, {Den: []int{}}, {Num: one}, {Num: minusOne}, {Num: impl.BigInt{Mag: []int{5, 7}}},
		{Den: []int{2}}, {Den: []int{0, 1}}, {Num: impl.BigInt{Mag: []int{2}}, Den: []int{2}},
		{Num: impl.BigInt{Mag: []int{2}}, Den: []int{4}}, {Num: impl.BigInt{Neg: true, Mag: []int{6}}, Den: []int{9}},
		{Num: impl.BigInt{Mag: []int{0, 1}}, Den: []int{5}}, {Num: impl.BigInt{Mag: []int{3}}, Den: []int{999999999, 3, 999999999}},
		{Num: impl.BigInt{Mag: repeatedLimb(7, 24)}, Den: []int{7}},
		{Num: one, Den: repeatedLimb(1, 25)}, {Num: minusOne, Den: powerOfBase(24)}, {Num: one, Den: repeatedLimb(1, 60)},
		{Num: impl.BigInt{Mag: powerOfBase(24)}, Den: []int{1}}, {Num: impl.BigInt{Neg: true, Mag: repeatedLimb(1, 25)}, Den: []int{2}},
		{Num: impl.BigInt{Mag: repeatedLimb(999999999, 60)}, Den: []int{1}}, {Num: impl.BigInt{Mag: powerOfBase(30)}, Den: repeatedLimb(1, 30)},
	}
	for _, bad := range notBigInts() {
		list = append(list, impl.Rat{Num: bad, Den: []int{1}}, impl.Rat{Num: bad, Den: []int{7}})
	}
	for _, bad := range notNats() {
		list = append(list, impl.Rat{Num: one, Den: bad}, impl.Rat{Num: impl.BigInt{}, Den: bad})
	}
	return list
}

func equalRats(r impl.Rat, s impl.Rat) bool {
	return equalBigInts(r.Num, s.Num) && slices.Equal(r.Den, s.Den)
}

func sameRat(t *testing.T, got impl.Rat, want impl.Rat, name string, args ...impl.Rat) {
	t.Helper()
	if !equalRats(got, want) {
		t.Errorf("%s%v = %v, want %v", name, args, got, want)
	}
}

func TestP1RatsAreRecoveredFromTheirText(t *testing.T) {
	for _, r := range sampleRats() {
		s := impl.FormatRat(r)
		back, ok := impl.ParseRat(s)
		if !ok || !equalRats(back, r) {
			t.Errorf("ParseRat(%q) = %v, %t, want %v, true", s, back, ok, r)
		}
	}
}

func TestP1TextsAreRecoveredFromTheirRats(t *testing.T) {
	texts := textsOver([]string{"-", "/", "0", "1", "2", "4", " "}, 5)
	for _, zeros := range []int{8, 9, 10, 215, 216, 217, 539, 540} {
		long := strings.Repeat("0", zeros)
		texts = append(texts, "1/1"+long, "-1/1"+long, "3"+long+"/7", "-3"+long+"/7", "3"+long+"/2", "1"+long, "-1"+long, "1"+long+"/1")
	}
	for _, s := range texts {
		r, ok := impl.ParseRat(s)
		if ok && impl.FormatRat(r) != s {
			t.Errorf("ParseRat(%q) = %v, whose FormatRat is %q", s, r, impl.FormatRat(r))
		}
		if !ok && !equalRats(r, impl.Rat{}) {
			t.Errorf("ParseRat(%q) = %v, false", s, r)
		}
	}
}

func checkRatSumLaws(t *testing.T, r, s, u impl.Rat) {
	t.Helper()
	sum := impl.RatAdd(r, s)
	sameRat(t, impl.RatAdd(s, r), sum, "RatAdd the other way round", r, s)
	sameRat(t, impl.RatAdd(sum, u), impl.RatAdd(r, impl.RatAdd(s, u)), "associative sum", r, s, u)
	sameRat(t, impl.RatAdd(r, impl.RatFromInt(0)), r, "RatAdd of 0", r)
	sameRat(t, impl.RatAdd(r, impl.RatNeg(r)), impl.RatFromInt(0), "RatAdd of the negative", r)
	sameRat(t, impl.RatSub(sum, s), r, "RatSub of RatAdd", r, s)
	sameRat(t, impl.RatSub(r, s), impl.RatAdd(r, impl.RatNeg(s)), "RatSub", r, s)
	sameRat(t, impl.RatSub(r, s), impl.RatNeg(impl.RatSub(s, r)), "RatSub the other way round", r, s)
	sameRat(t, impl.RatNeg(impl.RatNeg(r)), r, "RatNeg of RatNeg", r)
}

func checkRatProductLaws(t *testing.T, r, s, u impl.Rat) {
	t.Helper()
	one, product := impl.RatFromInt(1), impl.RatMul(r, s)
	sameRat(t, impl.RatMul(s, r), product, "RatMul the other way round", r, s)
	sameRat(t, impl.RatMul(product, u), impl.RatMul(r, impl.RatMul(s, u)), "associative product", r, s, u)
	sameRat(t, impl.RatMul(impl.RatAdd(r, s), u), impl.RatAdd(impl.RatMul(r, u), impl.RatMul(s, u)), "distributive product", r, s, u)
	sameRat(t, impl.RatMul(r, one), r, "RatMul by 1", r)
	sameRat(t, impl.RatMul(r, impl.RatFromInt(-1)), impl.RatNeg(r), "RatMul by -1", r)
	sameRat(t, impl.RatMul(r, impl.RatFromInt(0)), impl.RatFromInt(0), "RatMul by 0", r)
	sameRat(t, impl.RatDiv(r, one), r, "RatDiv by 1", r)
	if impl.RatSign(s) == 0 {
		return
	}
	sameRat(t, impl.RatDiv(product, s), r, "RatDiv of RatMul", r, s)
	sameRat(t, impl.RatDiv(r, s), impl.RatMul(r, impl.RatDiv(one, s)), "RatDiv", r, s)
	sameRat(t, impl.RatDiv(s, s), one, "RatDiv", s, s)
}

// checkRatOrderLaws checks the order and what sums and products do to it.
func checkRatOrderLaws(t *testing.T, r, s, u impl.Rat) {
	t.Helper()
	order := impl.RatCmp(r, s)
	if difference := impl.RatSign(impl.RatSub(r, s)); order != difference || impl.RatCmp(s, r) != -order {
		t.Errorf("RatCmp(%v, %v) = %d, but the sign of the difference is %d", r, s, order, difference)
	}
	if got := impl.RatCmp(impl.RatAdd(r, u), impl.RatAdd(s, u)); got != order {
		t.Errorf("adding %v changes RatCmp(%v, %v) from %d to %d", u, r, s, order, got)
	}
	if got := impl.RatCmp(impl.RatMul(r, u), impl.RatMul(s, u)); got != order*impl.RatSign(u) {
		t.Errorf("multiplying by %v changes RatCmp(%v, %v) from %d to %d", u, r, s, order, got)
	}
	if order <= 0 && impl.RatCmp(s, u) <= 0 && impl.RatCmp(r, u) > 0 {
		t.Errorf("RatCmp is not transitive for %v, %v, %v", r, s, u)
	}
	low, high := impl.RatMin(r, s), impl.RatMax(r, s)
	if impl.RatCmp(low, high) > 0 || (order == 0) != impl.RatEqual(low, high) {
		t.Errorf("RatMin and RatMax of %v, %v are %v and %v", r, s, low, high)
	}
	sameRat(t, impl.RatAdd(low, high), impl.RatAdd(r, s), "RatMin plus RatMax", r, s)
}

func TestP1LawsOfRats(t *testing.T) {
	check := func(r, s, u impl.Rat) {
		checkRatSumLaws(t, r, s, u)
		checkRatProductLaws(t, r, s, u)
		checkRatOrderLaws(t, r, s, u)
	}
	s := source(9)
	for range 400 {
		check(s.rat(6), s.rat(6), s.rat(6))
	}
	var small []impl.Rat
	for _, d := range []int64{1, 2, 3, 4, 6, 1000000000} {
		for _, n := range []int64{-4, -1, 0, 1, 3, 999999999} {
			if r := smallRat(n, d); !slices.ContainsFunc(small, func(s impl.Rat) bool { return equalRats(r, s) }) {
				small = append(small, r)
			}
		}
	}
	for _, a := range small {
		for _, b := range small {
			for _, c := range small {
				check(a, b, c)
			}
		}
	}
}

func TestP15RatOk(t *testing.T) {
	if impl.MaxRat != 24 {
		t.Errorf("MaxRat = %d", impl.MaxRat)
	}
	for _, r := range sampleRats() {
		if !impl.RatOk(r) {
			t.Errorf("RatOk(%v) = false", r)
		}
	}
	for _, r := range notRats() {
		if impl.RatOk(r) {
			t.Errorf("RatOk(%v) = true", r)
		}
	}
}

func TestP15RatMake(t *testing.T) {
	tests := []struct {
		num, den int
		want     impl.Rat
	}{
		{6, -4, impl.Rat{Num: impl.BigInt{Neg: true, Mag: []int{3}}, Den: []int{2}}},
		{-6, -4, impl.Rat{Num: impl.BigInt{Mag: []int{3}}, Den: []int{2}}},
		{-6, 4, impl.Rat{Num: impl.BigInt{Neg: true, Mag: []int{3}}, Den: []int{2}}},
		{0, -5, impl.Rat{Den: []int{1}}},
		{0, 1000000000, impl.Rat{Den: []int{1}}},
		{8, 2, impl.Rat{Num: impl.BigInt{Mag: []int{4}}, Den: []int{1}}},
		{1, 1000000000, impl.Rat{Num: impl.BigInt{Mag: []int{1}}, Den: []int{0, 1}}},
		{0, 0, impl.Rat{}}, {1, 0, impl.Rat{}}, {-1, 0, impl.Rat{}},
	}
	for _, c := range tests {
		sameRat(t, impl.RatMake(impl.BigIntOf(c.num), impl.BigIntOf(c.den)), c.want, "RatMake")
		sameRat(t, impl.RatOf(c.num, c.den), c.want, "RatOf")
	}
	for _, num := range sampleBigInts() {
		for _, den := range sampleBigInts() {
			want := impl.Rat{}
			if len(den.Mag) > 0 {
				want = limitedRat(new(big.Rat).SetFrac(bigOfBigInt(num), bigOfBigInt(den)))
			}
			if got := impl.RatMake(num, den); !equalRats(got, want) {
				t.Errorf("RatMake(%v, %v) = %v, want %v", num, den, got, want)
			}
		}
	}
}

func TestP15RatMakeReducesBeforeItLimits(t *testing.T) {
	s := source(10)
	for _, limbs := range []int{1, 20, 35, 36} {
		for _, r := range edgeRats() {
			factor := bigOfNat(s.nat(limbs))
			num, den := new(big.Int).Mul(bigOfBigInt(r.Num), factor), new(big.Int).Mul(bigOfNat(r.Den), factor)
			x, y := bigIntOfBig(num), bigIntOfBig(den)
			sameRat(t, impl.RatMake(x, y), r, "RatMake of multiples of", r)
			sameRat(t, impl.RatMake(impl.BigIntNeg(x), impl.BigIntNeg(y)), r, "RatMake of negative multiples of", r)
		}
	}
}

func TestP15RatMakeRejectsOtherArguments(t *testing.T) {
	good := []impl.BigInt{{}, {Mag: []int{1}}, {Neg: true, Mag: []int{5, 7}}}
	for _, bad := range notBigInts() {
		for _, x := range append(good, notBigInts()...) {
			sameRat(t, impl.RatMake(x, bad), impl.Rat{}, "RatMake with an invalid denominator")
			sameRat(t, impl.RatMake(bad, x), impl.Rat{}, "RatMake with an invalid numerator")
		}
	}
}

func TestP15RatOfAndRatFromInt(t *testing.T) {
	edges := []int{math.MinInt, math.MinInt + 1, -6000000000, -999999999, -6, -2, -1, 0, 1, 2, 3, 4, 1000000000, math.MaxInt - 1, math.MaxInt}
	for _, n := range sampleInts() {
		sameRat(t, impl.RatFromInt(n), smallRat(int64(n), 1), "RatFromInt")
		for _, d := range edges {
			if d == 0 {
				sameRat(t, impl.RatOf(n, 0), impl.Rat{}, "RatOf with the denominator 0")
				continue
			}
			got, want := impl.RatOf(n, d), smallRat(int64(n), int64(d))
			if !equalRats(got, want) {
				t.Errorf("RatOf(%d, %d) = %v, want %v", n, d, got, want)
			}
		}
	}
}

func TestP15SumsDifferencesProductsAndQuotientsOfRats(t *testing.T) {
	list := sampleRats()
	for _, r := range list {
		a := bigOfRat(r)
		sameRat(t, impl.RatNeg(r), ratOfBig(new(big.Rat).Neg(a)), "RatNeg", r)
		for _, s := range list {
			b, n, quotient := bigOfRat(s), new(big.Rat), impl.Rat{}
			if b.Sign() != 0 {
				quotient = limitedRat(n.Quo(a, b))
			}
			sameRat(t, impl.RatAdd(r, s), limitedRat(n.Add(a, b)), "RatAdd", r, s)
			sameRat(t, impl.RatSub(r, s), limitedRat(n.Sub(a, b)), "RatSub", r, s)
			sameRat(t, impl.RatMul(r, s), limitedRat(n.Mul(a, b)), "RatMul", r, s)
			sameRat(t, impl.RatDiv(r, s), quotient, "RatDiv", r, s)
		}
	}
}

// TestP15SumsThatAreReduced uses denominators with common factors, which the sum
// has in part or not at all.
func TestP15SumsThatAreReduced(t *testing.T) {
	s := source(11)
	for range 3000 {
		common := new(big.Int).Mul(bigOfNat(s.nat(1+s.upTo(3))), big.NewInt(int64(1+s.upTo(60))))
		a := new(big.Rat).SetFrac(bigOfBigInt(s.bigInt(5)), new(big.Int).Mul(common, big.NewInt(int64(1+s.upTo(30)))))
		b := new(big.Rat).SetFrac(bigOfBigInt(s.bigInt(5)), new(big.Int).Mul(common, big.NewInt(int64(1+s.upTo(30)))))
		x, y, n := ratOfBig(a), ratOfBig(b), new(big.Rat)
		sameRat(t, impl.RatAdd(x, y), ratOfBig(n.Add(a, b)), "RatAdd", x, y)
		sameRat(t, impl.RatSub(x, y), ratOfBig(n.Sub(a, b)), "RatSub", x, y)
		// The difference from a short fraction is short, whatever the other one is.
		short := new(big.Rat).Add(a, big.NewRat(int64(s.upTo(9)-4), int64(1+s.upTo(12))))
		sameRat(t, impl.RatSub(ratOfBig(short), x), ratOfBig(n.Sub(short, a)), "RatSub", ratOfBig(short), x)
	}
}

func TestP15RatResultsOfMoreThanMaxRatLimbs(t *testing.T) {
	none, one, minusOne := impl.Rat{}, smallRat(1, 1), smallRat(-1, 1)
	greatest := impl.Rat{Num: impl.BigInt{Mag: repeatedLimb(999999999, 24)}, Den: []int{1}}
	least := impl.Rat{Num: impl.BigInt{Neg: true, Mag: repeatedLimb(999999999, 24)}, Den: []int{1}}
	smallest := impl.Rat{Num: impl.BigInt{Mag: []int{1}}, Den: repeatedLimb(999999999, 24)}
	power := impl.Rat{Num: impl.BigInt{Mag: powerOfBase(12)}, Den: []int{1}}
	share := impl.Rat{Num: impl.BigInt{Mag: []int{1}}, Den: powerOfBase(12)}
	sameRat(t, impl.RatAdd(greatest, one), none, "RatAdd", greatest, one)
	sameRat(t, impl.RatAdd(least, minusOne), none, "RatAdd", least, minusOne)
	sameRat(t, impl.RatSub(least, one), none, "RatSub", least, one)
	sameRat(t, impl.RatSub(greatest, minusOne), none, "RatSub", greatest, minusOne)
	sameRat(t, impl.RatAdd(greatest, least), smallRat(0, 1), "RatAdd", greatest, least)
	sameRat(t, impl.RatAdd(smallest, smallRat(1, 2)), none, "RatAdd", smallest, smallRat(1, 2))
	sameRat(t, impl.RatMul(power, power), none, "RatMul", power, power)
	sameRat(t, impl.RatMul(share, share), none, "RatMul", share, share)
	sameRat(t, impl.RatMul(power, share), one, "RatMul", power, share)
	sameRat(t, impl.RatMul(greatest, smallest), one, "RatMul", greatest, smallest)
	sameRat(t, impl.RatDiv(greatest, smallest), none, "RatDiv", greatest, smallest)
	sameRat(t, impl.RatDiv(greatest, least), minusOne, "RatDiv", greatest, least)
	sameRat(t, impl.RatDiv(smallest, power), none, "RatDiv", smallest, power)
	sameRat(t, impl.RatDiv(one, greatest), smallest, "RatDiv", one, greatest)
	sameRat(t, impl.RatMake(impl.BigInt{Mag: powerOfBase(24)}, impl.BigIntOf(1)), none, "RatMake of 10 to the power 216")
	sameRat(t, impl.RatMake(impl.BigIntOf(1), impl.BigInt{Mag: powerOfBase(24)}), none, "RatMake of 10 to the power -216")
	sameRat(t, impl.RatMake(impl.BigIntOf(1), impl.BigInt{Mag: powerOfBase(23)}), impl.Rat{Num: impl.BigIntOf(1), Den: powerOfBase(23)}, "RatMake of 10 to the power -207")
}

func TestP15RatCmpAndRatSign(t *testing.T) {
	list := sampleRats()
	for _, r := range list {
		a := bigOfRat(r)
		if got := impl.RatSign(r); got != a.Sign() {
			t.Errorf("RatSign(%v) = %d", r, got)
		}
		for _, s := range list {
			if got, want := impl.RatCmp(r, s), a.Cmp(bigOfRat(s)); got != want {
				t.Errorf("RatCmp(%v, %v) = %d, want %d", r, s, got, want)
			}
		}
	}
}

func TestP15RatEqual(t *testing.T) {
	list := append(sampleRats(), notRats()...)
	for i, r := range list {
		for j, s := range list {
			if got, want := impl.RatEqual(r, s), equalRats(r, s); got != want || i == j && !got {
				t.Errorf("RatEqual(%v, %v) = %t", r, s, got)
			}
		}
	}
	two, minusTwo := impl.BigInt{Mag: []int{2}}, impl.BigInt{Neg: true, Mag: []int{2}}
	different := [][2]impl.Rat{
		{{Num: two, Den: []int{3}}, {Num: minusTwo, Den: []int{3}}},
		{{Num: two, Den: []int{3}}, {Num: two, Den: []int{5}}},
		{{Num: two, Den: []int{3}}, {Num: two, Den: []int{3, 1}}},
		{{Num: two, Den: []int{4}}, {Num: impl.BigInt{Mag: []int{1}}, Den: []int{2}}},
		{{}, {Den: []int{1}}}, {{}, {Num: impl.BigInt{Neg: true}}}, {{}, {Num: impl.BigInt{Mag: []int{0}}}},
	}
	for _, p := range different {
		if impl.RatEqual(p[0], p[1]) || impl.RatEqual(p[1], p[0]) {
			t.Errorf("RatEqual(%v, %v) = true", p[0], p[1])
		}
	}
	empty := impl.Rat{Num: impl.BigInt{Mag: []int{}}, Den: []int{}}
	if !impl.RatEqual(impl.Rat{}, empty) || !impl.RatEqual(empty, impl.Rat{}) {
		t.Error("RatEqual tells nil from an empty list")
	}
}

func TestP15RatMinAndRatMax(t *testing.T) {
	list := sampleRats()
	for _, r := range list {
		for _, s := range list {
			low, high := r, s
			if bigOfRat(r).Cmp(bigOfRat(s)) > 0 {
				low, high = s, r
			}
			sameRat(t, impl.RatMin(r, s), low, "RatMin", r, s)
			sameRat(t, impl.RatMax(r, s), high, "RatMax", r, s)
		}
	}
}

func TestP15FormatRat(t *testing.T) {
	tests := []struct {
		r    impl.Rat
		want string
	}{
		{impl.Rat{Den: []int{1}}, "0"},
		{smallRat(7, 1), "7"},
		{smallRat(-7, 1), "-7"},
		{smallRat(-3, 2), "-3/2"},
		{smallRat(1, 1000000000), "1/1000000000"},
		{smallRat(1000000007, 10), "1000000007/10"},
		{impl.Rat{Num: impl.BigInt{Neg: true, Mag: repeatedLimb(999999999, 24)}, Den: powerOfBase(23)}, "-" + strings.Repeat("9", 216) + "/1" + strings.Repeat("0", 207)},
	}
	for _, c := range tests {
		if got := impl.FormatRat(c.r); got != c.want {
			t.Errorf("FormatRat(%v) = %q, want %q", c.r, got, c.want)
		}
	}
	for _, r := range sampleRats() {
		if got, want := impl.FormatRat(r), bigOfRat(r).RatString(); got != want {
			t.Errorf("FormatRat(%v) = %q, want %q", r, got, want)
		}
	}
	for _, r := range notRats() {
		if got := impl.FormatRat(r); got != "" {
			t.Errorf("FormatRat(%v) = %q, want an empty string", r, got)
		}
	}
}

func TestP15ParseRat(t *testing.T) {
	sameParse := func(s string, want impl.Rat) {
		if got, ok := impl.ParseRat(s); !ok || !equalRats(got, want) {
			t.Errorf("ParseRat(%q) = %v, %t, want %v, true", s, got, ok, want)
		}
	}
	sameParse("0", impl.Rat{Den: []int{1}})
	sameParse("-1", impl.Rat{Num: impl.BigInt{Neg: true, Mag: []int{1}}, Den: []int{1}})
	sameParse("-3/2", impl.Rat{Num: impl.BigInt{Neg: true, Mag: []int{3}}, Den: []int{2}})
	sameParse("1/1000000000", impl.Rat{Num: impl.BigInt{Mag: []int{1}}, Den: []int{0, 1}})
	sameParse(strings.Repeat("9", 216), impl.Rat{Num: impl.BigInt{Mag: repeatedLimb(999999999, 24)}, Den: []int{1}})
	sameParse("-1/"+strings.Repeat("9", 216), impl.Rat{Num: impl.BigInt{Neg: true, Mag: []int{1}}, Den: repeatedLimb(999999999, 24)})
	for _, r := range sampleRats() {
		sameParse(bigOfRat(r).RatString(), r)
	}
}

func TestP15ParseRatRejectsOtherTexts(t *testing.T) {
	nines := strings.Repeat("9", 216)
	texts := []string{
		"", "-", "/", "//", "-/", "/-", "/1", "/2", "1/", "-1/", "0/", "0/0", "1/0", "-1/0", "0/1", "0/2", "-0", "-0/1", "-0/3",
		"1/1", "5/1", "-5/1", "2/2", "2/4", "-2/4", "6/3", "4/2", "999999999/3", "1000000000/2000000000", "1/-2", "-1/-2", "1/+2", "+1/2", "+1",
		"1/02", "01/2", "00", "1/00", "1/2/3", "1//2", "1/2/", "/1/2", "1/2 ", " 1/2", "1 /2", "1/ 2", "1/2\n", "\n1/2", "1\n/2", "1/2\x00",
		"1.5", "0.5", "1e3", "1:2", "1\\2", "1\u20442", "\u00bd", "\u22121/2", "1/\u0662", "\xff", "1/\xff", "a", "1/a", "a/2", "1/2a", "nil",
		"1" + nines, nines + "9/2", "1/1" + nines, "1/" + nines + "9", "-1" + strings.Repeat("0", 216), "1/1" + strings.Repeat("0", 216), "3/" + nines, nines + "/" + nines,
		"2/1" + strings.Repeat("0", 100), "1/" + strings.Repeat("9", 541), strings.Repeat("9", 541), strings.Repeat("9", 50000) + "/2", "1/" + strings.Repeat("7", 50000),
		strings.Repeat("/", 5000), strings.Repeat("1/", 5000), "0" + nines[1:], "1/0" + nines[1:],
	}
	for _, s := range texts {
		if r, ok := impl.ParseRat(s); ok || !equalRats(r, impl.Rat{}) {
			t.Errorf("ParseRat(%.20q) = %v, %t, want the zero value, false", s, r, ok)
		}
	}
}

func TestP15InvalidArgumentsOfRats(t *testing.T) {
	good := []impl.Rat{smallRat(0, 1), smallRat(1, 1), smallRat(-5, 7), {Num: impl.BigInt{Mag: powerOfBase(20)}, Den: repeatedLimb(1, 22)}}
	pairs := [][2]impl.Rat{}
	for _, bad := range notRats() {
		sameRat(t, impl.RatNeg(bad), impl.Rat{}, "RatNeg", bad)
		if got := impl.RatSign(bad); got != 0 {
			t.Errorf("RatSign(%v) = %d, want 0", bad, got)
		}
		for _, r := range append(good, bad, impl.Rat{}) {
			pairs = append(pairs, [2]impl.Rat{r, bad}, [2]impl.Rat{bad, r})
		}
	}
	for _, p := range pairs {
		if got := impl.RatCmp(p[0], p[1]); got != 0 {
			t.Errorf("RatCmp(%v, %v) = %d, want 0", p[0], p[1], got)
		}
		sameRat(t, impl.RatAdd(p[0], p[1]), impl.Rat{}, "RatAdd", p[0], p[1])
		sameRat(t, impl.RatSub(p[0], p[1]), impl.Rat{}, "RatSub", p[0], p[1])
		sameRat(t, impl.RatMul(p[0], p[1]), impl.Rat{}, "RatMul", p[0], p[1])
		sameRat(t, impl.RatDiv(p[0], p[1]), impl.Rat{}, "RatDiv", p[0], p[1])
		sameRat(t, impl.RatMin(p[0], p[1]), impl.Rat{}, "RatMin", p[0], p[1])
		sameRat(t, impl.RatMax(p[0], p[1]), impl.Rat{}, "RatMax", p[0], p[1])
	}
}

// fewRats returns fractions of all kinds, few enough for a look at all pairs.
func fewRats() []impl.Rat {
	s := source(12)
	return []impl.Rat{
		smallRat(0, 1), smallRat(1, 1), smallRat(-1, 1), smallRat(5, 1), smallRat(1, 6), smallRat(-7, 10), smallRat(1000000000, 3),
		s.rat(3), s.rat(3), s.rat(12), s.rat(24), {Num: impl.BigInt{Neg: true, Mag: repeatedLimb(1, 24)}, Den: powerOfBase(23)},
	}
}

// ratResults returns everything that the functions compute from r and s.
func ratResults(r impl.Rat, s impl.Rat) []impl.Rat {
	parsed, _ := impl.ParseRat(impl.FormatRat(r))
	return []impl.Rat{
		impl.RatAdd(r, s), impl.RatSub(r, s), impl.RatMul(r, s), impl.RatDiv(r, s), impl.RatNeg(r), impl.RatMin(r, s), impl.RatMax(r, s),
		impl.RatMake(r.Num, s.Num), impl.RatMake(r.Num, impl.BigInt{Mag: s.Den}), impl.RatFromInt(3), impl.RatOf(3, 7), parsed,
	}
}

func ratWithSpare(r impl.Rat) impl.Rat {
	return impl.Rat{Num: impl.BigInt{Neg: r.Num.Neg, Mag: withSpare(r.Num.Mag)}, Den: withSpare(r.Den)}
}

func keepsRat(r impl.Rat, want impl.Rat) bool {
	return equalRats(r, want) && spareIsKept(r.Num.Mag) && spareIsKept(r.Den)
}

func TestP15RatArgumentsAreKept(t *testing.T) {
	for _, a := range fewRats() {
		for _, b := range fewRats() {
			r, s := ratWithSpare(a), ratWithSpare(b)
			ratResults(r, s)
			impl.RatCmp(r, s)
			impl.RatSign(r)
			impl.RatEqual(r, s)
			if !keepsRat(r, a) || !keepsRat(s, b) {
				t.Fatalf("the arguments %v and %v were changed to %v and %v", a, b, r, s)
			}
		}
	}
}

// TestP15RatResultsAreNew overwrites the numerator or the denominator of a result
// and looks for the change in everything else.
func TestP15RatResultsAreNew(t *testing.T) {
	for _, a := range fewRats() {
		for _, b := range fewRats() {
			r, s := ratWithSpare(a), ratWithSpare(b)
			wants := ratResults(a, b)
			for i, want := range wants {
				results := ratResults(r, s)
				overwrite(results[i].Num.Mag)
				sameNat(t, results[i].Den, want.Den, "a denominator after a change of its numerator")
				overwrite(results[i].Den)
				for j, other := range results {
					if j != i {
						sameRat(t, other, wants[j], "a result after a change of another one", a, b)
					}
				}
			}
			if !keepsRat(r, a) || !keepsRat(s, b) {
				t.Fatalf("changes of the results for %v and %v reach the arguments", a, b)
			}
			for i, again := range ratResults(r, s) {
				sameRat(t, again, wants[i], "a result after changes of all results", a, b)
			}
		}
	}
}
