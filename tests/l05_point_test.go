package tests

import (
	"math/big"
	"slices"
	"strings"
	"testing"

	"loop.example/g00812/impl"
)

// A bigRat is a fraction that is computed without the program. It is nil if it, or
// a fraction from which it is computed, exceeds the document's limit.
type bigRat = *big.Rat

// beyondLimit is the least natural number that has more than 24 limbs.
var beyondLimit = new(big.Int).Exp(big.NewInt(1000000000), big.NewInt(24), nil)

func checkedBig(n bigRat) bigRat {
	if n.Num().CmpAbs(beyondLimit) >= 0 || n.Denom().Cmp(beyondLimit) >= 0 {
		return nil
	}
	return n
}

func bigSum(a bigRat, b bigRat) bigRat {
	if a == nil || b == nil {
		return nil
	}
	return checkedBig(new(big.Rat).Add(a, b))
}

func bigDifference(a bigRat, b bigRat) bigRat {
	if a == nil || b == nil {
		return nil
	}
	return checkedBig(new(big.Rat).Sub(a, b))
}

func bigProduct(a bigRat, b bigRat) bigRat {
	if a == nil || b == nil {
		return nil
	}
	return checkedBig(new(big.Rat).Mul(a, b))
}

// bigQuotient does not divide by 0.
func bigQuotient(a bigRat, b bigRat) bigRat {
	if a == nil || b == nil {
		return nil
	}
	return checkedBig(new(big.Rat).Quo(a, b))
}

func ratOrZero(n bigRat) impl.Rat {
	if n == nil {
		return impl.Rat{}
	}
	return ratOfBig(n)
}

// pointOrZero returns the point with the coordinates x and y, or the zero value if
// one of them is nil.
func pointOrZero(x bigRat, y bigRat) impl.Point {
	if x == nil || y == nil {
		return impl.Point{}
	}
	return impl.Point{X: ratOfBig(x), Y: ratOfBig(y)}
}

// smallPoint returns the point (x / d, y / d), computed without the program.
func smallPoint(x int64, y int64, d int64) impl.Point {
	return impl.Point{X: smallRat(x, d), Y: smallRat(y, d)}
}

// longRats returns fractions at the limit.
func longRats() []impl.Rat {
	nines := repeatedLimb(999999999, 24)
	return []impl.Rat{
		{Num: impl.BigInt{Mag: nines}, Den: []int{1}},
		{Num: impl.BigInt{Neg: true, Mag: nines}, Den: []int{1}},
		{Num: impl.BigInt{Mag: []int{1}}, Den: nines},
		{Num: impl.BigInt{Neg: true, Mag: powerOfBase(12)}, Den: []int{1}},
		{Num: impl.BigInt{Mag: []int{7}}, Den: powerOfBase(12)},
	}
}

// edgePoints returns the points at which carries, signs and limits are most likely
// to go wrong.
func edgePoints() []impl.Point {
	var list []impl.Point
	rats := append(longRats(), smallRat(0, 1), smallRat(-1, 1), smallRat(1, 2))
	for _, x := range rats {
		for _, y := range rats {
			list = append(list, impl.Point{X: x, Y: y})
		}
	}
	return list
}

// point returns a point with coordinates of at most the given number of limbs.
func (s *source) point(limbs int) impl.Point {
	return impl.Point{X: s.rat(limbs), Y: s.rat(limbs)}
}

// samplePoints returns edgePoints, small points and points of many lengths.
func samplePoints() []impl.Point {
	list := edgePoints()
	for _, d := range []int64{1, 2, 6} {
		list = append(list, smallPoint(3, -5, d), smallPoint(-1, 4, d), smallPoint(7, 7, d))
	}
	s := source(13)
	for _, limbs := range []int{1, 2, 5, 8, 12, 16, 24} {
		list = append(list, s.point(limbs))
	}
	return list
}

// notPoints returns values that are not points.
func notPoints() []impl.Point {
	one := smallRat(1, 1)
	list := []impl.Point{{}}
	for _, bad := range notRats() {
		list = append(list, impl.Point{X: bad, Y: one}, impl.Point{X: one, Y: bad}, impl.Point{X: bad, Y: bad})
	}
	return list
}

func equalPoints(p impl.Point, q impl.Point) bool {
	return equalRats(p.X, q.X) && equalRats(p.Y, q.Y)
}

func samePoint(t *testing.T, got impl.Point, want impl.Point, name string, args ...impl.Point) {
	t.Helper()
	if !equalPoints(got, want) {
		t.Errorf("%s%v = %v, want %v", name, args, got, want)
	}
}

// sameRatOfPoints is sameRat for a function of points.
func sameRatOfPoints(t *testing.T, got impl.Rat, want impl.Rat, name string, args ...impl.Point) {
	t.Helper()
	if !equalRats(got, want) {
		t.Errorf("%s%v = %v, want %v", name, args, got, want)
	}
}

// checkAreaLaws checks what DoubleArea is for other orders of the corners and for
// the parts of a triangle.
func checkAreaLaws(t *testing.T, a, b, c, p impl.Point) {
	t.Helper()
	area := impl.DoubleArea(a, b, c)
	sameRatOfPoints(t, impl.DoubleArea(b, c, a), area, "DoubleArea from the second corner", a, b, c)
	sameRatOfPoints(t, impl.DoubleArea(c, a, b), area, "DoubleArea from the third corner", a, b, c)
	sameRatOfPoints(t, impl.DoubleArea(b, a, c), impl.RatNeg(area), "DoubleArea with a and b exchanged", a, b, c)
	sameRatOfPoints(t, impl.DoubleArea(a, c, b), impl.RatNeg(area), "DoubleArea with b and c exchanged", a, b, c)
	sameRatOfPoints(t, impl.DoubleArea(c, b, a), impl.RatNeg(area), "DoubleArea with a and c exchanged", a, b, c)
	sameRatOfPoints(t, impl.DoubleArea(a, a, b), impl.RatFromInt(0), "DoubleArea of", a, a, b)
	sameRatOfPoints(t, impl.DoubleArea(a, b, impl.Middle(a, b)), impl.RatFromInt(0), "DoubleArea with the middle of", a, b)
	parts := impl.RatAdd(impl.RatAdd(impl.DoubleArea(p, b, c), impl.DoubleArea(a, p, c)), impl.DoubleArea(a, b, p))
	sameRatOfPoints(t, parts, area, "the sum of the parts of DoubleArea", a, b, c, p)
	half := impl.DoubleArea(a, b, impl.Middle(b, c))
	sameRatOfPoints(t, impl.RatAdd(half, half), area, "twice the part of DoubleArea", a, b, c)
	moved := impl.DoubleArea(impl.AddPoints(a, p), impl.AddPoints(b, p), impl.AddPoints(c, p))
	sameRatOfPoints(t, moved, area, "DoubleArea moved by the last point", a, b, c, p)
	scaled := impl.DoubleArea(impl.ScalePoint(p.X, a), impl.ScalePoint(p.X, b), impl.ScalePoint(p.X, c))
	sameRatOfPoints(t, scaled, impl.RatMul(impl.RatMul(p.X, p.X), area), "DoubleArea scaled by the last X", a, b, c, p)
	sides := impl.Cross(impl.SubtractPoints(b, a), impl.SubtractPoints(c, a))
	sameRatOfPoints(t, sides, area, "Cross of the sides", a, b, c)
	if !impl.RatOk(parts) || !impl.RatOk(moved) || !impl.RatOk(scaled) {
		t.Errorf("the numbers %v, %v, %v, %v are too large for this test", a, b, c, p)
	}
}

// checkPointProductLaws checks that Inner and Cross are bilinear and belong together.
func checkPointProductLaws(t *testing.T, p, q, u impl.Point, r impl.Rat) {
	t.Helper()
	inner, cross := impl.Inner(p, q), impl.Cross(p, q)
	sameRatOfPoints(t, impl.Inner(q, p), inner, "Inner the other way round", p, q)
	sameRatOfPoints(t, impl.Cross(q, p), impl.RatNeg(cross), "Cross the other way round", p, q)
	sameRatOfPoints(t, impl.Cross(p, p), impl.RatFromInt(0), "Cross", p, p)
	sum := impl.AddPoints(p, u)
	sameRatOfPoints(t, impl.Inner(sum, q), impl.RatAdd(inner, impl.Inner(u, q)), "Inner of a sum", p, u, q)
	sameRatOfPoints(t, impl.Cross(sum, q), impl.RatAdd(cross, impl.Cross(u, q)), "Cross of a sum", p, u, q)
	multiple := impl.ScalePoint(r, p)
	sameRatOfPoints(t, impl.Inner(multiple, q), impl.RatMul(r, inner), "Inner of a multiple", p, q)
	sameRatOfPoints(t, impl.Cross(multiple, q), impl.RatMul(r, cross), "Cross of a multiple", p, q)
	squares := impl.RatAdd(impl.RatMul(inner, inner), impl.RatMul(cross, cross))
	sameRatOfPoints(t, squares, impl.RatMul(impl.Inner(p, p), impl.Inner(q, q)), "the squares of Inner and Cross", p, q)
	if !impl.RatOk(squares) || !impl.IsValidPoint(sum) || !impl.IsValidPoint(multiple) {
		t.Errorf("the numbers %v, %v, %v, %v are too large for this test", p, q, u, r)
	}
	samePoint(t, impl.SubtractPoints(sum, u), p, "SubtractPoints of AddPoints", p, u)
	samePoint(t, impl.AddPoints(u, p), sum, "AddPoints the other way round", p, u)
	samePoint(t, impl.ScalePoint(impl.RatOf(1, 2), sum), impl.Middle(p, u), "half of AddPoints", p, u)
	samePoint(t, impl.Middle(p, p), p, "Middle", p, p)
}

func TestP2AreasAndProductsOfPoints(t *testing.T) {
	s := source(14)
	for range 300 {
		checkAreaLaws(t, s.point(2), s.point(2), s.point(2), s.point(1))
		checkPointProductLaws(t, s.point(2), s.point(2), s.point(2), s.rat(2))
	}
	var small []impl.Point
	for _, n := range []int64{-2, 0, 1} {
		small = append(small, smallPoint(n, 0, 1), smallPoint(0, n, 3), smallPoint(n, n, 2), smallPoint(3, n, 1))
	}
	for _, a := range small {
		for _, b := range small {
			for _, c := range small {
				checkAreaLaws(t, a, b, c, smallPoint(-5, 2, 3))
				checkPointProductLaws(t, a, b, c, smallRat(-3, 2))
			}
		}
	}
}

// TestP2SignOfDoubleArea looks at the order of the corners only.
func TestP2SignOfDoubleArea(t *testing.T) {
	tests := []struct {
		a, b, c impl.Point
		want    int
	}{
		{smallPoint(0, 0, 1), smallPoint(1, 0, 1), smallPoint(0, 1, 1), 1},
		{smallPoint(0, 0, 1), smallPoint(0, 1, 1), smallPoint(1, 0, 1), -1},
		{smallPoint(-3, -3, 1), smallPoint(-1, -3, 2), smallPoint(5, 7, 3), 1},
		{smallPoint(0, 0, 1), smallPoint(3, 1, 1), smallPoint(1000000001, 333333333, 1), -1},
		{smallPoint(0, 0, 1), smallPoint(3, 1, 1), smallPoint(999999999, 333333333, 1), 0},
		{smallPoint(0, 0, 1), smallPoint(3, 1, 1), smallPoint(999999998, 333333333, 1), 1},
		{smallPoint(1, 1, 1), smallPoint(1, 1, 1), smallPoint(2, 1, 1), 0},
	}
	for _, c := range tests {
		if got := impl.RatSign(impl.DoubleArea(c.a, c.b, c.c)); got != c.want {
			t.Errorf("the sign of DoubleArea(%v, %v, %v) is %d, want %d", c.a, c.b, c.c, got, c.want)
		}
		if got := impl.RatSign(impl.DoubleArea(c.b, c.a, c.c)); got != -c.want {
			t.Errorf("the sign of DoubleArea(%v, %v, %v) is %d, want %d", c.b, c.a, c.c, got, -c.want)
		}
	}
}

func TestP2PointsAreRecoveredFromTheirText(t *testing.T) {
	for _, p := range samplePoints() {
		s := impl.FormatPoint(p)
		back, ok := impl.ParsePoint(s)
		if !ok || !equalPoints(back, p) {
			t.Errorf("ParsePoint(%q) = %v, %t, want %v, true", s, back, ok, p)
		}
	}
}

func TestP2TextsAreRecoveredFromTheirPoints(t *testing.T) {
	texts := textsOver([]string{"-", "/", ",", "0", "1", "2"}, 6)
	for _, s := range texts {
		p, ok := impl.ParsePoint(s)
		if ok && impl.FormatPoint(p) != s {
			t.Errorf("ParsePoint(%q) = %v, whose FormatPoint is %q", s, p, impl.FormatPoint(p))
		}
		if !ok && !equalPoints(p, impl.Point{}) {
			t.Errorf("ParsePoint(%q) = %v, false", s, p)
		}
	}
}

func TestP15IsValidPoint(t *testing.T) {
	for _, p := range samplePoints() {
		if !impl.IsValidPoint(p) {
			t.Errorf("IsValidPoint(%v) = false", p)
		}
	}
	for _, p := range notPoints() {
		if impl.IsValidPoint(p) {
			t.Errorf("IsValidPoint(%v) = true", p)
		}
	}
}

func TestP15SamePoint(t *testing.T) {
	list := append(samplePoints(), notPoints()...)
	for i, p := range list {
		for j, q := range list {
			if got, want := impl.SamePoint(p, q), equalPoints(p, q); got != want || i == j && !got {
				t.Errorf("SamePoint(%v, %v) = %t", p, q, got)
			}
		}
	}
	if impl.SamePoint(smallPoint(1, 2, 1), smallPoint(2, 1, 1)) || impl.SamePoint(impl.Point{}, smallPoint(0, 0, 1)) {
		t.Error("SamePoint does not tell points apart")
	}
	empty := impl.Rat{Num: impl.BigInt{Mag: []int{}}, Den: []int{}}
	if !impl.SamePoint(impl.Point{}, impl.Point{X: empty, Y: empty}) {
		t.Error("SamePoint tells nil from an empty list")
	}
}

func TestP15PointAtAndHalfPoint(t *testing.T) {
	list := sampleInts()
	for i, x := range list {
		for _, y := range []int{x, list[len(list)-1-i], 0, -3} {
			whole := smallPoint(int64(x), int64(y), 1)
			if got := impl.PointAt(x, y); !equalPoints(got, whole) {
				t.Errorf("PointAt(%d, %d) = %v, want %v", x, y, got, whole)
			}
			half := smallPoint(int64(x), int64(y), 2)
			if got := impl.HalfPoint(x, y); !equalPoints(got, half) {
				t.Errorf("HalfPoint(%d, %d) = %v, want %v", x, y, got, half)
			}
		}
	}
}

func TestP15SumsDifferencesAndMiddlesOfPoints(t *testing.T) {
	list, half := samplePoints(), big.NewRat(1, 2)
	for _, p := range list {
		px, py := bigOfRat(p.X), bigOfRat(p.Y)
		for _, q := range list {
			qx, qy := bigOfRat(q.X), bigOfRat(q.Y)
			x, y := bigSum(px, qx), bigSum(py, qy)
			samePoint(t, impl.AddPoints(p, q), pointOrZero(x, y), "AddPoints", p, q)
			samePoint(t, impl.Middle(p, q), pointOrZero(bigProduct(x, half), bigProduct(y, half)), "Middle", p, q)
			difference := pointOrZero(bigDifference(px, qx), bigDifference(py, qy))
			samePoint(t, impl.SubtractPoints(p, q), difference, "SubtractPoints", p, q)
		}
	}
}

func TestP15ScalePoint(t *testing.T) {
	rats, points := append(longRats(), fewRats()...), samplePoints()
	for _, r := range rats {
		n := bigOfRat(r)
		for _, p := range points {
			want := pointOrZero(bigProduct(n, bigOfRat(p.X)), bigProduct(n, bigOfRat(p.Y)))
			if got := impl.ScalePoint(r, p); !equalPoints(got, want) {
				t.Errorf("ScalePoint(%v, %v) = %v, want %v", r, p, got, want)
			}
		}
	}
}

// bigCross is Cross for the coordinates of two points.
func bigCross(px, py, qx, qy bigRat) bigRat {
	return bigDifference(bigProduct(px, qy), bigProduct(py, qx))
}

func TestP15InnerAndCross(t *testing.T) {
	list := samplePoints()
	for _, p := range list {
		px, py := bigOfRat(p.X), bigOfRat(p.Y)
		for _, q := range list {
			qx, qy := bigOfRat(q.X), bigOfRat(q.Y)
			inner := bigSum(bigProduct(px, qx), bigProduct(py, qy))
			sameRatOfPoints(t, impl.Inner(p, q), ratOrZero(inner), "Inner", p, q)
			sameRatOfPoints(t, impl.Cross(p, q), ratOrZero(bigCross(px, py, qx, qy)), "Cross", p, q)
		}
	}
}

// bigDoubleArea is DoubleArea, computed without the program.
func bigDoubleArea(a, b, c impl.Point) bigRat {
	ax, ay := bigOfRat(a.X), bigOfRat(a.Y)
	bx, by := bigDifference(bigOfRat(b.X), ax), bigDifference(bigOfRat(b.Y), ay)
	cx, cy := bigDifference(bigOfRat(c.X), ax), bigDifference(bigOfRat(c.Y), ay)
	return bigCross(bx, by, cx, cy)
}

func checkDoubleArea(t *testing.T, a, b, c impl.Point) {
	t.Helper()
	sameRatOfPoints(t, impl.DoubleArea(a, b, c), ratOrZero(bigDoubleArea(a, b, c)), "DoubleArea", a, b, c)
}

func TestP15DoubleArea(t *testing.T) {
	list := samplePoints()
	s := source(15)
	for range 4000 {
		checkDoubleArea(t, list[s.upTo(len(list))], list[s.upTo(len(list))], list[s.upTo(len(list))])
		checkDoubleArea(t, s.point(8), s.point(8), s.point(8))
		checkDoubleArea(t, s.point(1), s.point(1), s.point(1))
	}
}

// TestP15PointResultsOfMoreThanMaxRatLimbs uses points of which one coordinate, one
// product or one difference is too large and everything else is not.
func TestP15PointResultsOfMoreThanMaxRatLimbs(t *testing.T) {
	noPoint, noRat, zero, one := impl.Point{}, impl.Rat{}, smallRat(0, 1), smallRat(1, 1)
	greatest, least, power := longRats()[0], longRats()[1], longRats()[3]
	right, up := impl.Point{X: greatest, Y: one}, impl.Point{X: one, Y: greatest}
	left, down := impl.Point{X: least, Y: one}, impl.Point{X: one, Y: least}
	samePoint(t, impl.AddPoints(right, smallPoint(1, 1, 1)), noPoint, "AddPoints with a great X")
	samePoint(t, impl.AddPoints(up, smallPoint(1, 1, 1)), noPoint, "AddPoints with a great Y")
	samePoint(t, impl.SubtractPoints(left, smallPoint(1, 1, 1)), noPoint, "SubtractPoints with a small X")
	samePoint(t, impl.SubtractPoints(down, smallPoint(1, 1, 1)), noPoint, "SubtractPoints with a small Y")
	samePoint(t, impl.Middle(right, right), noPoint, "Middle with a great sum of X")
	samePoint(t, impl.Middle(up, up), noPoint, "Middle with a great sum of Y")
	samePoint(t, impl.Middle(right, left), impl.Point{X: zero, Y: one}, "Middle of opposite points")
	samePoint(t, impl.ScalePoint(smallRat(2, 1), right), noPoint, "ScalePoint of a great X")
	samePoint(t, impl.ScalePoint(smallRat(2, 1), up), noPoint, "ScalePoint of a great Y")
	samePoint(t, impl.ScalePoint(smallRat(-1, 1), right), impl.Point{X: least, Y: smallRat(-1, 1)}, "ScalePoint by -1")
	samePoint(t, impl.ScalePoint(zero, up), smallPoint(0, 0, 1), "ScalePoint by 0")

	// The first and the second products are too large, but cancel.
	wide := impl.Point{X: power, Y: power}
	other := impl.Point{X: power, Y: impl.RatNeg(power)}
	sameRatOfPoints(t, impl.Inner(wide, other), noRat, "Inner with great products")
	sameRatOfPoints(t, impl.Cross(wide, wide), noRat, "Cross with great products")
	// Only the sum or the difference of the products is too large.
	sameRatOfPoints(t, impl.Inner(right, smallPoint(1, 1, 1)), noRat, "Inner with a great sum")
	sameRatOfPoints(t, impl.Inner(right, smallPoint(1, 0, 1)), greatest, "Inner with a great result")
	sameRatOfPoints(t, impl.Cross(right, smallPoint(-1, 1, 1)), noRat, "Cross with a great difference")
	sameRatOfPoints(t, impl.Cross(right, smallPoint(0, 1, 1)), greatest, "Cross with a great result")
	// Only one of the products is too large, and the other one is 0.
	sameRatOfPoints(t, impl.Inner(impl.Point{X: power, Y: zero}, wide), noRat, "Inner with a great first product")
	sameRatOfPoints(t, impl.Inner(impl.Point{X: zero, Y: power}, wide), noRat, "Inner with a great second product")
	sameRatOfPoints(t, impl.Cross(impl.Point{X: power, Y: zero}, wide), noRat, "Cross with a great first product")
	sameRatOfPoints(t, impl.Cross(impl.Point{X: zero, Y: power}, wide), noRat, "Cross with a great second product")

	// A difference that is too large counts also where it is multiplied by 0.
	start := impl.Point{X: smallRat(-1, 1), Y: zero}
	sameRatOfPoints(t, impl.DoubleArea(start, right, impl.Point{X: zero, Y: zero}), noRat, "DoubleArea with a great difference")
	sameRatOfPoints(t, impl.DoubleArea(start, start, right), noRat, "DoubleArea with a great difference to the last corner")
	sameRatOfPoints(t, impl.DoubleArea(right, right, right), zero, "DoubleArea of equal points")
	// The difference of b and c is too large, but is not computed.
	far := impl.Point{X: greatest, Y: zero}
	sameRatOfPoints(t, impl.DoubleArea(smallPoint(0, 0, 1), far, smallPoint(-1, 1, 1)), greatest, "DoubleArea with distant corners")
}

func TestP15FormatPoint(t *testing.T) {
	tests := []struct {
		p    impl.Point
		want string
	}{
		{smallPoint(0, 0, 1), "0,0"},
		{smallPoint(-3, 4, 2), "-3/2,2"},
		{impl.PointAt(7, -12), "7,-12"},
		{impl.HalfPoint(7, -12), "7/2,-6"},
		{impl.Point{X: longRats()[1], Y: longRats()[4]}, "-" + strings.Repeat("9", 216) + ",7/1" + strings.Repeat("0", 108)},
	}
	for _, c := range tests {
		if got := impl.FormatPoint(c.p); got != c.want {
			t.Errorf("FormatPoint(%v) = %q, want %q", c.p, got, c.want)
		}
	}
	for _, p := range samplePoints() {
		want := bigOfRat(p.X).RatString() + "," + bigOfRat(p.Y).RatString()
		if got := impl.FormatPoint(p); got != want {
			t.Errorf("FormatPoint(%v) = %q, want %q", p, got, want)
		}
	}
	for _, p := range notPoints() {
		if got := impl.FormatPoint(p); got != "" {
			t.Errorf("FormatPoint(%v) = %q, want an empty string", p, got)
		}
	}
}

func TestP15ParsePoint(t *testing.T) {
	for _, p := range samplePoints() {
		s := bigOfRat(p.X).RatString() + "," + bigOfRat(p.Y).RatString()
		if got, ok := impl.ParsePoint(s); !ok || !equalPoints(got, p) {
			t.Errorf("ParsePoint(%q) = %v, %t, want %v, true", s, got, ok, p)
		}
	}
	got, ok := impl.ParsePoint("-3/4,12")
	if want := (impl.Point{X: smallRat(-3, 4), Y: smallRat(12, 1)}); !ok || !equalPoints(got, want) {
		t.Errorf("ParsePoint = %v, %t, want %v, true", got, ok, want)
	}
}

func TestP15ParsePointRejectsOtherTexts(t *testing.T) {
	nines := strings.Repeat("9", 216)
	texts := []string{
		"", ",", ",,", "1", "1,", ",1", "1,,2", "1,2,", ",1,2", "1,2,3", "1 2", "1;2", "1, 2", " 1,2", "1 ,2", "1,2 ", "1,2\n", "\n1,2", "1\n,2", "(1,2)",
		"01,2", "1,02", "-0,1", "1,-0", "+1,2", "1,+2", "2/2,1", "1,2/4", "1/1,2", "1,3/1", "1/0,1", "1,1/0", "1/-2,1", "1,1/-2", "1/2/3,1", "1,1/2/3",
		"x,1", "1,y", "1.5,2", "1,2.5", "1,2\x00", "\xff,1", "1,\xff", "1\u201a2", "1\uff0c2", "nil", "1/,2", "1,/2", "/1,2", "1,2/", "-,1", "1,-", "--1,2", "1,--2",
		"1" + nines + ",1", "1,1" + nines, "1/1" + nines + ",1", "1,1/1" + nines, "1," + nines + "9/2", strings.Repeat("1,", 5000), strings.Repeat(",", 5000),
		strings.Repeat("9", 50000) + ",1", "1," + strings.Repeat("9", 50000),
	}
	for _, s := range texts {
		if p, ok := impl.ParsePoint(s); ok || !equalPoints(p, impl.Point{}) {
			t.Errorf("ParsePoint(%.20q) = %v, %t, want the zero value, false", s, p, ok)
		}
	}
}

func checkPairIsRejected(t *testing.T, p impl.Point, q impl.Point) {
	t.Helper()
	samePoint(t, impl.AddPoints(p, q), impl.Point{}, "AddPoints", p, q)
	samePoint(t, impl.SubtractPoints(p, q), impl.Point{}, "SubtractPoints", p, q)
	samePoint(t, impl.Middle(p, q), impl.Point{}, "Middle", p, q)
	sameRatOfPoints(t, impl.Inner(p, q), impl.Rat{}, "Inner", p, q)
	sameRatOfPoints(t, impl.Cross(p, q), impl.Rat{}, "Cross", p, q)
	for _, good := range []impl.Point{smallPoint(0, 0, 1), smallPoint(-5, 3, 2)} {
		sameRatOfPoints(t, impl.DoubleArea(p, q, good), impl.Rat{}, "DoubleArea", p, q, good)
		sameRatOfPoints(t, impl.DoubleArea(p, good, q), impl.Rat{}, "DoubleArea", p, good, q)
		sameRatOfPoints(t, impl.DoubleArea(good, p, q), impl.Rat{}, "DoubleArea", good, p, q)
	}
}

func TestP15InvalidArgumentsOfPoints(t *testing.T) {
	good := []impl.Point{smallPoint(0, 0, 1), smallPoint(-5, 3, 2), {X: longRats()[0], Y: longRats()[4]}}
	for _, bad := range notPoints() {
		for _, p := range append(slices.Clone(good), bad) {
			checkPairIsRejected(t, p, bad)
			checkPairIsRejected(t, bad, p)
		}
		for _, r := range []impl.Rat{smallRat(0, 1), smallRat(1, 1), smallRat(-5, 7), {}} {
			samePoint(t, impl.ScalePoint(r, bad), impl.Point{}, "ScalePoint", bad)
		}
	}
	for _, bad := range notRats() {
		for _, p := range good {
			samePoint(t, impl.ScalePoint(bad, p), impl.Point{}, "ScalePoint by a value that is not a fraction", p)
		}
	}
}

// fewPoints returns points of all kinds, few enough for a look at all pairs.
func fewPoints() []impl.Point {
	s := source(16)
	return []impl.Point{smallPoint(0, 0, 1), smallPoint(1, -1, 1), smallPoint(5, 7, 6), s.point(3), s.point(10), {X: longRats()[1], Y: longRats()[2]}}
}

// pointResults returns everything that the functions compute from p, q and r, a
// fraction as both coordinates of a point.
func pointResults(p impl.Point, q impl.Point, r impl.Rat) []impl.Point {
	parsed, _ := impl.ParsePoint(impl.FormatPoint(p))
	return []impl.Point{
		impl.AddPoints(p, q), impl.SubtractPoints(p, q), impl.Middle(p, q), impl.ScalePoint(r, p), parsed,
		{X: impl.Inner(p, q), Y: impl.Cross(p, q)}, {X: impl.DoubleArea(p, q, impl.Point{X: r, Y: r}), Y: impl.DoubleArea(p, p, q)},
		impl.PointAt(3, 3), impl.HalfPoint(3, 3),
	}
}

func pointWithSpare(p impl.Point) impl.Point {
	return impl.Point{X: ratWithSpare(p.X), Y: ratWithSpare(p.Y)}
}

func keepsPoint(p impl.Point, want impl.Point) bool {
	return keepsRat(p.X, want.X) && keepsRat(p.Y, want.Y)
}

func TestP15PointArgumentsAreKept(t *testing.T) {
	third := smallRat(1, 3)
	for _, a := range fewPoints() {
		for _, b := range fewPoints() {
			p, q, r := pointWithSpare(a), pointWithSpare(b), ratWithSpare(third)
			pointResults(p, q, r)
			impl.IsValidPoint(p)
			impl.SamePoint(p, q)
			if !keepsPoint(p, a) || !keepsPoint(q, b) || !keepsRat(r, third) {
				t.Fatalf("the arguments %v, %v and %v were changed to %v, %v and %v", a, b, third, p, q, r)
			}
		}
	}
}

// limbsOf returns the four lists of limbs of a point.
func limbsOf(p impl.Point) [][]int {
	return [][]int{p.X.Num.Mag, p.X.Den, p.Y.Num.Mag, p.Y.Den}
}

// TestP15PointResultsAreNew overwrites one list of limbs after the other and looks
// for the change in the lists after it, in the other results and in the arguments.
func TestP15PointResultsAreNew(t *testing.T) {
	whole := smallRat(1, 1)
	for _, a := range fewPoints() {
		for _, b := range fewPoints() {
			p, q, r := pointWithSpare(a), pointWithSpare(b), ratWithSpare(whole)
			wants, results := pointResults(a, b, whole), pointResults(p, q, r)
			for i, result := range results {
				for k, limbs := range limbsOf(result) {
					sameNat(t, limbs, limbsOf(wants[i])[k], "a list of limbs after changes of others")
					overwrite(limbs)
				}
			}
			if !keepsPoint(p, a) || !keepsPoint(q, b) || !keepsRat(r, whole) {
				t.Fatalf("changes of the results for %v and %v reach the arguments", a, b)
			}
			for i, again := range pointResults(p, q, r) {
				samePoint(t, again, wants[i], "a result after changes of all results", a, b)
			}
		}
	}
}
