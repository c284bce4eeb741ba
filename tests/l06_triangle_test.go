package tests

import (
	"math/big"
	"slices"
	"testing"

	"loop.example/g00812/impl"
)

// cornersAt returns the corner list with these coordinates, each divided by d.
func cornersAt(d int64, ax, ay, bx, by, cx, cy int64) []impl.Point {
	return []impl.Point{smallPoint(ax, ay, d), smallPoint(bx, by, d), smallPoint(cx, cy, d)}
}

// rotations returns the list from each of its corners on.
func rotations(l []impl.Point) [][]impl.Point {
	return [][]impl.Point{{l[0], l[1], l[2]}, {l[1], l[2], l[0]}, {l[2], l[0], l[1]}}
}

// turnedLeft exchanges two points of a list that is clockwise.
func turnedLeft(l []impl.Point) []impl.Point {
	if area := bigDoubleArea(l[0], l[1], l[2]); area != nil && area.Sign() < 0 {
		return []impl.Point{l[1], l[0], l[2]}
	}
	return l
}

// corners returns a proper corner list with coordinates of at most the given number
// of limbs.
func (s *source) corners(limbs int) []impl.Point {
	for {
		l := turnedLeft([]impl.Point{s.point(limbs), s.point(limbs), s.point(limbs)})
		if isProperList(l) {
			return l
		}
	}
}

// isProperList is IsProper for valid points, computed without the program.
func isProperList(l []impl.Point) bool {
	area := bigDoubleArea(l[0], l[1], l[2])
	return area != nil && area.Sign() > 0
}

// smallLists returns right-angled, obtuse, equal-sided, flat and tiny triangles.
func smallLists() [][]impl.Point {
	var list [][]impl.Point
	for _, l := range [][]impl.Point{
		cornersAt(1, 0, 0, 2, 0, 0, 2), cornersAt(1, -3, -5, 1, -2, -4, 7), cornersAt(1, 0, 0, 5, 0, 7, 1),
		cornersAt(2, 1, 1, 3, 1, 2, 3), cornersAt(3, 0, 0, 3000000001, 1, -1, 1), cornersAt(6, -7, 4, 5, -2, 9, 1),
		cornersAt(1000000007, 0, 0, 1, 0, 0, 1), cornersAt(1, 1000000000, 0, 1000000000, 1, 0, 1),
	} {
		list = append(list, rotations(l)...)
	}
	return list
}

// properLists returns smallLists and proper corner lists with long coordinates.
func properLists() [][]impl.Point {
	list := smallLists()
	s := source(17)
	for _, limbs := range []int{1, 1, 2, 2, 3, 3, 4, 4, 5} {
		list = append(list, rotations(s.corners(limbs))...)
	}
	zero, one, far := smallRat(0, 1), smallRat(1, 1), longRats()
	near := impl.Point{X: far[2], Y: zero}
	right, left := impl.Point{X: far[0], Y: zero}, impl.Point{X: zero, Y: far[4]}
	list = append(list, []impl.Point{smallPoint(0, 0, 1), right, smallPoint(0, 1, 1)})
	list = append(list, []impl.Point{smallPoint(0, 0, 1), near, {X: zero, Y: one}})
	return append(list, []impl.Point{left, {X: zero, Y: zero}, {X: one, Y: one}})
}

// clockwiseAndFlatLists returns lists of three valid points that are not proper.
func clockwiseAndFlatLists() [][]impl.Point {
	a, b, c := smallPoint(0, 0, 1), smallPoint(3, 1, 1), smallPoint(1, 2, 1)
	long := longRats()
	// The differences and areas of these are too large.
	right, left := impl.Point{X: long[0], Y: long[0]}, impl.Point{X: long[1], Y: long[0]}
	wide := []impl.Point{a, {X: impl.RatNeg(long[3]), Y: a.Y}, {X: a.X, Y: impl.RatNeg(long[3])}}
	return [][]impl.Point{
		{a, c, b}, {c, b, a}, {b, a, c}, {a, a, a}, {a, a, b}, {a, b, b}, {a, b, a},
		{a, b, smallPoint(6, 2, 1)}, {smallPoint(3, 1, 2), a, b}, {b, a, smallPoint(-3, -1, 1)},
		cornersAt(1, 0, 0, 3, 1, 1000000001, 333333333), wide, {left, a, right}, {a, right, left}, {right, left, a},
	}
}

// notProperLists returns clockwiseAndFlatLists and lists that are too short, too long
// or with values that are not points.
func notProperLists() [][]impl.Point {
	l := cornersAt(1, 0, 0, 2, 0, 0, 2)
	list := append(clockwiseAndFlatLists(), nil, l[:0], l[:1], l[:2], append(slices.Clone(l), l[0]), append(slices.Clone(l), smallPoint(-2, 0, 1)), append(slices.Clone(l), l...))
	list = append(list, append(slices.Clone(l), impl.Point{}), make([]impl.Point, 3), make([]impl.Point, 4))
	for _, bad := range notPoints() {
		list = append(list, []impl.Point{bad, l[1], l[2]}, []impl.Point{l[0], bad, l[2]}, []impl.Point{l[0], l[1], bad})
	}
	return list
}

func sameRatOfList(t *testing.T, got impl.Rat, want impl.Rat, name string, l []impl.Point) {
	t.Helper()
	if !equalRats(got, want) {
		t.Errorf("%s of %v = %v, want %v", name, l, got, want)
	}
}

func samePointOfList(t *testing.T, got impl.Point, want impl.Point, name string, l []impl.Point) {
	t.Helper()
	if !equalPoints(got, want) {
		t.Errorf("%s of %v = %v, want %v", name, l, got, want)
	}
}

func sameRats(t *testing.T, got []impl.Rat, want []impl.Rat, name string, l []impl.Point, p impl.Point) {
	t.Helper()
	if !slices.EqualFunc(got, want, equalRats) {
		t.Errorf("%s(%v, %v) = %v, want %v", name, l, p, got, want)
	}
}

func samePoints(t *testing.T, got []impl.Point, want []impl.Point, name string, l []impl.Point) {
	t.Helper()
	if !slices.EqualFunc(got, want, equalPoints) {
		t.Errorf("%s(%v) = %v, want %v", name, l, got, want)
	}
}

// checkAreasOfParts checks the areas of the parts into which a triangle is divided by
// its centroid and by the middle of a side.
func checkAreasOfParts(t *testing.T, l []impl.Point) {
	t.Helper()
	area := impl.AreaOf(l)
	sameRatOfList(t, impl.RatAdd(area, area), impl.DoubleArea(l[0], l[1], l[2]), "twice AreaOf", l)
	third := impl.RatMul(area, impl.RatOf(1, 3))
	half := impl.RatMul(area, impl.RatOf(1, 2))
	center := impl.Centroid(l)
	for _, r := range rotations(l) {
		middle := impl.Middle(r[1], r[2])
		sameRatOfList(t, impl.AreaOf(r), area, "AreaOf from another corner", l)
		samePointOfList(t, impl.Centroid(r), center, "Centroid from another corner", l)
		sameRatOfList(t, impl.AreaOf([]impl.Point{center, r[1], r[2]}), third, "AreaOf a part beside the centroid", l)
		sameRatOfList(t, impl.AreaOf([]impl.Point{r[0], r[1], middle}), half, "AreaOf a half", l)
	}
}

func TestP2AreasOfTriangles(t *testing.T) {
	for _, l := range smallLists() {
		checkAreasOfParts(t, l)
	}
	s := source(18)
	for range 200 {
		checkAreasOfParts(t, s.corners(2))
	}
}

// checkCoordinates checks that the coordinates of p have the sum 1, reproduce p and
// belong to the areas between p and the sides.
func checkCoordinates(t *testing.T, l []impl.Point, p impl.Point) {
	t.Helper()
	b := impl.Barycentric(l, p)
	if len(b) != 3 {
		t.Fatalf("Barycentric(%v, %v) = %v", l, p, b)
	}
	sum, point := impl.RatFromInt(0), impl.PointAt(0, 0)
	least := 1
	for i, r := range b {
		sum = impl.RatAdd(sum, r)
		point = impl.AddPoints(point, impl.ScalePoint(r, l[i]))
		least = min(least, impl.RatSign(r))
		part := []impl.Point{p, l[(i+1)%3], l[(i+2)%3]}
		if impl.RatSign(r) > 0 {
			sameRatOfList(t, impl.AreaOf(part), impl.RatMul(r, impl.AreaOf(l)), "AreaOf", part)
		} else if impl.IsProper(part) {
			t.Errorf("coordinate %d of %v in %v is %v, but the part is proper", i, p, l, r)
		}
	}
	sameRatOfList(t, sum, impl.RatFromInt(1), "the sum of Barycentric", l)
	samePointOfList(t, point, p, "the point with Barycentric", l)
	if got := impl.SideOf(l, p); got != least {
		t.Errorf("SideOf(%v, %v) = %d, but Barycentric is %v", l, p, got, b)
	}
}

// checkKnownCoordinates looks at the corners, the centroid and the middles of sides.
func checkKnownCoordinates(t *testing.T, l []impl.Point) {
	t.Helper()
	zero, one, half, third := smallRat(0, 1), smallRat(1, 1), smallRat(1, 2), smallRat(1, 3)
	sameRats(t, impl.Barycentric(l, l[0]), []impl.Rat{one, zero, zero}, "Barycentric", l, l[0])
	sameRats(t, impl.Barycentric(l, l[1]), []impl.Rat{zero, one, zero}, "Barycentric", l, l[1])
	sameRats(t, impl.Barycentric(l, l[2]), []impl.Rat{zero, zero, one}, "Barycentric", l, l[2])
	center, middle := impl.Centroid(l), impl.Middle(l[0], l[1])
	sameRats(t, impl.Barycentric(l, center), []impl.Rat{third, third, third}, "Barycentric", l, center)
	sameRats(t, impl.Barycentric(l, middle), []impl.Rat{half, half, zero}, "Barycentric", l, middle)
	beyond := impl.SubtractPoints(impl.ScalePoint(smallRat(2, 1), l[2]), l[0])
	sameRats(t, impl.Barycentric(l, beyond), []impl.Rat{smallRat(-1, 1), zero, smallRat(2, 1)}, "Barycentric", l, beyond)
	for _, p := range []impl.Point{l[0], l[1], l[2], center, middle, beyond} {
		checkCoordinates(t, l, p)
	}
}

func TestP2BarycentricCoordinates(t *testing.T) {
	for _, l := range smallLists() {
		checkKnownCoordinates(t, l)
		for _, p := range []impl.Point{smallPoint(0, 0, 1), smallPoint(1, 1, 2), smallPoint(-7, 5, 3)} {
			checkCoordinates(t, l, p)
		}
	}
	s := source(19)
	for range 200 {
		l := s.corners(2)
		checkKnownCoordinates(t, l)
		checkCoordinates(t, l, s.point(1))
	}
}

// checkGradientLaws checks that the gradients have the sum 0, that they are those of
// Barycentric, and that they belong to the area.
func checkGradientLaws(t *testing.T, l []impl.Point, p impl.Point) {
	t.Helper()
	g, b, one := impl.Gradients(l), impl.Barycentric(l, p), impl.RatFromInt(1)
	if len(g) != 3 || len(b) != 3 {
		t.Fatalf("Gradients(%v) = %v and Barycentric = %v", l, g, b)
	}
	sum := impl.PointAt(0, 0)
	for i := range g {
		sum = impl.AddPoints(sum, g[i])
		rise := impl.Inner(g[i], impl.SubtractPoints(p, l[i]))
		sameRatOfList(t, impl.RatAdd(one, rise), b[i], "the linear function with the gradient", l)
		j, k := (i+1)%3, (i+2)%3
		along := impl.Inner(g[i], impl.SubtractPoints(l[k], l[j]))
		sameRatOfList(t, along, impl.RatFromInt(0), "the gradient along the opposite side", l)
		cross := impl.RatMul(impl.Cross(g[i], g[j]), impl.DoubleArea(l[0], l[1], l[2]))
		sameRatOfList(t, cross, one, "Cross of two gradients, times DoubleArea", l)
	}
	samePointOfList(t, sum, impl.PointAt(0, 0), "the sum of Gradients", l)
}

func TestP2Gradients(t *testing.T) {
	for _, l := range smallLists() {
		for _, p := range []impl.Point{l[0], l[2], smallPoint(0, 0, 1), smallPoint(-7, 5, 3)} {
			checkGradientLaws(t, l, p)
		}
	}
	s := source(20)
	for range 200 {
		checkGradientLaws(t, s.corners(2), s.point(1))
	}
}

// TestP2ShapesAndSidesAreKept moves, turns and stretches triangles.
func TestP2ShapesAndSidesAreKept(t *testing.T) {
	s := source(21)
	turned := func(p impl.Point) impl.Point { return impl.Point{X: impl.RatNeg(p.Y), Y: p.X} }
	for range 100 {
		l, p, by, factor := s.corners(1), s.point(1), s.point(1), smallRat(int64(1+s.upTo(9)), int64(1+s.upTo(9)))
		changed := func(q impl.Point) impl.Point { return impl.AddPoints(by, impl.ScalePoint(factor, turned(q))) }
		m := []impl.Point{changed(l[1]), changed(l[2]), changed(l[0])}
		sameRatOfList(t, impl.ShapeOf(m), impl.ShapeOf(l), "ShapeOf", m)
		sameRatOfList(t, impl.AreaOf(m), impl.RatMul(impl.RatMul(factor, factor), impl.AreaOf(l)), "AreaOf", m)
		samePointOfList(t, impl.Centroid(m), changed(impl.Centroid(l)), "Centroid", m)
		q := impl.Middle(impl.Centroid(l), p)
		if got, want := impl.SideOf(m, changed(q)), impl.SideOf(l, q); got != want {
			t.Errorf("SideOf(%v, %v) = %d, want %d as before", m, changed(q), got, want)
		}
	}
}

func TestP15IsProper(t *testing.T) {
	for _, l := range properLists() {
		if !impl.IsProper(l) {
			t.Errorf("IsProper(%v) = false", l)
		}
	}
	for _, l := range notProperLists() {
		if impl.IsProper(l) {
			t.Errorf("IsProper(%v) = true", l)
		}
	}
}

// mixedLists returns properLists, clockwiseAndFlatLists and lists of all lengths of
// coordinates, of which many are too large to be proper.
func mixedLists() [][]impl.Point {
	list := append(properLists(), clockwiseAndFlatLists()...)
	s := source(22)
	for _, limbs := range []int{1, 2, 3, 4, 5, 6, 8, 12, 24} {
		for range 12 {
			list = append(list, turnedLeft([]impl.Point{s.point(limbs), s.point(limbs), s.point(limbs)}))
			list = append(list, turnedLeft([]impl.Point{s.point(limbs), s.point(1), s.point(1)}))
		}
	}
	return list
}

func TestP15AreaOfAndCentroid(t *testing.T) {
	half, third := big.NewRat(1, 2), big.NewRat(1, 3)
	for _, l := range mixedLists() {
		area, center := impl.Rat{}, impl.Point{}
		if isProperList(l) {
			area = ratOrZero(bigProduct(bigDoubleArea(l[0], l[1], l[2]), half))
			x := bigSum(bigSum(bigOfRat(l[0].X), bigOfRat(l[1].X)), bigOfRat(l[2].X))
			y := bigSum(bigSum(bigOfRat(l[0].Y), bigOfRat(l[1].Y)), bigOfRat(l[2].Y))
			center = pointOrZero(bigProduct(x, third), bigProduct(y, third))
		}
		sameRatOfList(t, impl.AreaOf(l), area, "AreaOf", l)
		samePointOfList(t, impl.Centroid(l), center, "Centroid", l)
		if got := impl.IsProper(l); got != isProperList(l) {
			t.Errorf("IsProper(%v) = %t", l, got)
		}
	}
}

// wantedCoordinates is Barycentric, computed without the program.
func wantedCoordinates(l []impl.Point, p impl.Point) []impl.Rat {
	if !isProperList(l) {
		return nil
	}
	whole := bigDoubleArea(l[0], l[1], l[2])
	parts := []bigRat{bigDoubleArea(p, l[1], l[2]), bigDoubleArea(l[0], p, l[2]), bigDoubleArea(l[0], l[1], p)}
	var want []impl.Rat
	for _, part := range parts {
		share := bigQuotient(part, whole)
		if share == nil {
			return nil
		}
		want = append(want, ratOfBig(share))
	}
	return want
}

func TestP15Barycentric(t *testing.T) {
	s := source(23)
	for _, l := range mixedLists() {
		for _, p := range []impl.Point{smallPoint(0, 0, 1), smallPoint(1, -2, 3), l[0], l[2], s.point(1), s.point(4), s.point(24)} {
			sameRats(t, impl.Barycentric(l, p), wantedCoordinates(l, p), "Barycentric", l, p)
		}
	}
	l := cornersAt(1, 0, 0, 2, 0, 0, 2)
	sameRats(t, impl.Barycentric(l, smallPoint(1, 0, 1)), []impl.Rat{smallRat(1, 2), smallRat(1, 2), smallRat(0, 1)}, "Barycentric", l, smallPoint(1, 0, 1))
	sameRats(t, impl.Barycentric(l, smallPoint(3, -5, 2)), []impl.Rat{smallRat(3, 2), smallRat(3, 4), smallRat(-5, 4)}, "Barycentric", l, smallPoint(3, -5, 2))
}

// A bigPoint is a point that is computed without the program and without limits.
type bigPoint struct {
	x, y *big.Rat
}

func bigOfPoint(p impl.Point) bigPoint {
	return bigPoint{bigOfRat(p.X), bigOfRat(p.Y)}
}

// toTheLeft is DoubleArea(a, b, p).
func toTheLeft(a, b, p bigPoint) *big.Rat {
	difference := func(r, s *big.Rat) *big.Rat { return new(big.Rat).Sub(r, s) }
	first := new(big.Rat).Mul(difference(b.x, a.x), difference(p.y, a.y))
	second := new(big.Rat).Mul(difference(b.y, a.y), difference(p.x, a.x))
	return first.Sub(first, second)
}

// exactSide returns the side of a proper corner list on which p is, however large the
// areas are.
func exactSide(l []impl.Point, p impl.Point) int {
	side := 1
	for i := range l {
		area := toTheLeft(bigOfPoint(l[i]), bigOfPoint(l[(i+1)%3]), bigOfPoint(p))
		side = min(side, area.Sign())
	}
	return side
}

// wantedSide is SideOf for a proper corner list and a valid point: 0 if an area is
// too large.
func wantedSide(l []impl.Point, p impl.Point) int {
	side := 1
	for i := range l {
		area := bigDoubleArea(l[i], l[(i+1)%3], p)
		if area == nil {
			return 0
		}
		side = min(side, area.Sign())
	}
	return side
}

func checkSide(t *testing.T, l []impl.Point, p impl.Point, want int) {
	t.Helper()
	if got := impl.SideOf(l, p); got != want {
		t.Errorf("SideOf(%v, %v) = %d, want %d", l, p, got, want)
	}
}

func TestP15SideOf(t *testing.T) {
	for _, l := range smallLists() {
		for x := int64(-8); x <= 12; x++ {
			for y := int64(-8); y <= 12; y++ {
				p := smallPoint(x, y, 3)
				checkSide(t, l, p, exactSide(l, p))
			}
		}
	}
	s := source(24)
	for range 2000 {
		l := s.corners(2)
		first, second := smallRat(int64(s.upTo(5)-2), 3), smallRat(int64(s.upTo(5)-2), 3)
		along, across := impl.SubtractPoints(l[1], l[0]), impl.SubtractPoints(l[2], l[0])
		p := impl.AddPoints(l[0], impl.AddPoints(impl.ScalePoint(first, along), impl.ScalePoint(second, across)))
		checkSide(t, l, p, exactSide(l, p))
	}
}

// TestP15SideOfNextToTheBoundary looks at each side of (0, 0), (2, 0), (0, 2).
func TestP15SideOfNextToTheBoundary(t *testing.T) {
	tests := []struct {
		p    impl.Point
		want int
	}{
		{smallPoint(0, 0, 1), 0}, {smallPoint(2, 0, 1), 0}, {smallPoint(0, 2, 1), 0},
		{smallPoint(1, 0, 1), 0}, {smallPoint(1, 1, 1), 0}, {smallPoint(0, 1, 1), 0}, {smallPoint(1, 5, 3), 0},
		{smallPoint(1, 1, 2), 1}, {smallPoint(1, 1, 1000000007), 1}, {smallPoint(999999999, 999999999, 1000000000), 1},
		{smallPoint(1000000000, 1, 1000000000), 1}, {smallPoint(1, 1000000000, 1000000000), 1},
		{smallPoint(1000000000, -1, 1000000000), -1}, {smallPoint(-1, 1000000000, 1000000000), -1},
		{smallPoint(1000000001, 1000000000, 1000000000), -1}, {smallPoint(2, 2, 1), -1}, {smallPoint(-1, -1, 1), -1},
		// On the line through a side, but beyond its ends.
		{smallPoint(3, 0, 1), -1}, {smallPoint(-1, 0, 1), -1}, {smallPoint(3, -1, 1), -1}, {smallPoint(-1, 3, 1), -1},
		{smallPoint(0, 3, 1), -1}, {smallPoint(0, -1, 1), -1}, {smallPoint(2000000001, 0, 1000000000), -1},
	}
	for _, c := range tests {
		for _, l := range rotations(cornersAt(1, 0, 0, 2, 0, 0, 2)) {
			checkSide(t, l, c.p, c.want)
		}
	}
}

// wantedGradients is Gradients, computed without the program.
func wantedGradients(l []impl.Point) []impl.Point {
	if !isProperList(l) {
		return nil
	}
	whole := bigDoubleArea(l[0], l[1], l[2])
	var want []impl.Point
	for i := range l {
		j, k := l[(i+1)%3], l[(i+2)%3]
		x := bigQuotient(bigDifference(bigOfRat(j.Y), bigOfRat(k.Y)), whole)
		y := bigQuotient(bigDifference(bigOfRat(k.X), bigOfRat(j.X)), whole)
		if x == nil || y == nil {
			return nil
		}
		want = append(want, pointOrZero(x, y))
	}
	return want
}

func TestP15Gradients(t *testing.T) {
	for _, l := range mixedLists() {
		samePoints(t, impl.Gradients(l), wantedGradients(l), "Gradients", l)
	}
	l := cornersAt(1, 0, 0, 4, 0, 1, 2)
	samePoints(t, impl.Gradients(l), []impl.Point{smallPoint(-2, -3, 8), smallPoint(2, -1, 8), smallPoint(0, 4, 8)}, "Gradients", l)
}

// wantedShape is ShapeOf, computed without the program.
func wantedShape(l []impl.Point) impl.Rat {
	if !isProperList(l) {
		return impl.Rat{}
	}
	longest := new(big.Rat)
	for i := range l {
		p, q := l[i], l[(i+1)%3]
		x, y := bigDifference(bigOfRat(q.X), bigOfRat(p.X)), bigDifference(bigOfRat(q.Y), bigOfRat(p.Y))
		square := bigSum(bigProduct(x, x), bigProduct(y, y))
		if square == nil {
			return impl.Rat{}
		}
		if square.Cmp(longest) > 0 {
			longest = square
		}
	}
	return ratOrZero(bigQuotient(bigDoubleArea(l[0], l[1], l[2]), longest))
}

func TestP15ShapeOf(t *testing.T) {
	for _, l := range mixedLists() {
		sameRatOfList(t, impl.ShapeOf(l), wantedShape(l), "ShapeOf", l)
	}
	tests := []struct {
		l    []impl.Point
		want impl.Rat
	}{
		{cornersAt(1, 0, 0, 2, 0, 0, 2), smallRat(1, 2)},
		{cornersAt(1, 0, 0, 3, 0, 0, 4), smallRat(12, 25)},
		{cornersAt(5, 0, 0, 3, 0, 0, 4), smallRat(12, 25)},
		{cornersAt(1, 0, 0, 4, 0, 2, 1), smallRat(1, 4)},
		{cornersAt(1, 0, 0, 1000, 0, 500, 1), smallRat(1, 1000)},
		{cornersAt(1, 0, 0, 4, 0, 2, 7), smallRat(28, 53)},
	}
	for _, c := range tests {
		for _, l := range rotations(c.l) {
			sameRatOfList(t, impl.ShapeOf(l), c.want, "ShapeOf", l)
		}
	}
}

// crossing returns the point between p and q that is on a line, of which p and q are
// at the distances from and to.
func crossing(p, q bigPoint, from, to *big.Rat) bigPoint {
	share := new(big.Rat).Quo(from, new(big.Rat).Sub(from, to))
	between := func(r, s *big.Rat) *big.Rat {
		step := new(big.Rat).Mul(share, new(big.Rat).Sub(s, r))
		return step.Add(step, r)
	}
	return bigPoint{between(p.x, q.x), between(p.y, q.y)}
}

// cutAt returns the part of a polygon to the left of the line from a to b.
func cutAt(polygon []bigPoint, a, b bigPoint) []bigPoint {
	var rest []bigPoint
	for i, p := range polygon {
		q := polygon[(i+1)%len(polygon)]
		from, to := toTheLeft(a, b, p), toTheLeft(a, b, q)
		if from.Sign() >= 0 {
			rest = append(rest, p)
		}
		if from.Sign()*to.Sign() < 0 {
			rest = append(rest, crossing(p, q, from, to))
		}
	}
	return rest
}

// haveCommonArea is Overlap of proper corner lists, computed from the polygon that
// both triangles have in common.
func haveCommonArea(l []impl.Point, m []impl.Point) bool {
	polygon := []bigPoint{bigOfPoint(l[0]), bigOfPoint(l[1]), bigOfPoint(l[2])}
	for i := range m {
		polygon = cutAt(polygon, bigOfPoint(m[i]), bigOfPoint(m[(i+1)%3]))
	}
	area := new(big.Rat)
	for i := 2; i < len(polygon); i++ {
		area.Add(area, toTheLeft(polygon[0], polygon[i-1], polygon[i]))
	}
	return area.Sign() > 0
}

func checkOverlap(t *testing.T, l []impl.Point, m []impl.Point, want bool) {
	t.Helper()
	if got := impl.Overlap(l, m); got != want {
		t.Errorf("Overlap(%v, %v) = %t, want %t", l, m, got, want)
	}
	if got := impl.Overlap(m, l); got != want {
		t.Errorf("Overlap(%v, %v) = %t, want %t", m, l, got, want)
	}
}

// gridLists returns all triangles with corners from a grid of three by three points,
// each from one corner on.
func gridLists() [][]impl.Point {
	var points []impl.Point
	for i := range int64(9) {
		points = append(points, smallPoint(i%3, i/3, 1))
	}
	var list [][]impl.Point
	for i := range points {
		for j := range i {
			for k := range j {
				l := turnedLeft([]impl.Point{points[i], points[j], points[k]})
				if isProperList(l) {
					list = append(list, rotations(l)[len(list)%3])
				}
			}
		}
	}
	return list
}

func TestP15OverlapOnAGrid(t *testing.T) {
	list := gridLists()
	if len(list) != 76 {
		t.Fatalf("there are %d triangles on the grid, want 76", len(list))
	}
	for i, l := range list {
		for _, m := range list[:i+1] {
			checkOverlap(t, l, m, haveCommonArea(l, m))
		}
	}
}

func TestP15OverlapOfOtherTriangles(t *testing.T) {
	s := source(25)
	overlaps := 0
	for range 600 {
		d := int64(1 + s.upTo(3))
		near := func() impl.Point { return smallPoint(int64(s.upTo(13)), int64(s.upTo(13)), d) }
		l, m := turnedLeft([]impl.Point{near(), near(), near()}), turnedLeft([]impl.Point{near(), near(), near()})
		if !isProperList(l) || !isProperList(m) {
			checkOverlap(t, l, m, false)
			continue
		}
		want := haveCommonArea(l, m)
		checkOverlap(t, l, m, want)
		if want {
			overlaps++
		}
	}
	if overlaps < 100 || overlaps > 500 {
		t.Errorf("%d of 600 pairs overlap: this test has too few of one kind", overlaps)
	}
}

func TestP15OverlapAtTheEdge(t *testing.T) {
	l := cornersAt(1, 0, 0, 2, 0, 0, 2)
	tests := []struct {
		m    []impl.Point
		want bool
	}{
		{l, true},
		{cornersAt(1, 2, 0, 2, 2, 0, 2), false},                                  // a common side
		{cornersAt(2, 3, 1, 4, 4, 1, 3), false},                                  // a part of a common side
		{cornersAt(1, 2, 0, 3, 0, 3, 1), false},                                  // a common corner
		{cornersAt(1, 1, 1, 2, 1, 1, 2), false},                                  // a corner on a side
		{cornersAt(1, 5, 5, 6, 5, 5, 6), false},                                  // apart
		{cornersAt(1, 0, 0, 1, 0, 0, 1), true},                                   // the same corner and angle
		{cornersAt(8, 2, 2, 4, 2, 2, 4), true},                                   // inside
		{cornersAt(1, -9, -9, 30, -9, -9, 30), true},                             // around
		{cornersAt(3, 2, -1, 4, 7, -1, 2), true},                                 // a star
		{cornersAt(1, 1, -1, 2, 4, 0, 4), true},                                  // no corner inside the other
		{cornersAt(1, -1, 3, 3, -1, 3, 3), false},                                // a longer common side
		{cornersAt(1000000000, 999999999, 1000000000, 3e9, 3e9, 2e9, 4e9), true}, // a corner just inside
		{cornersAt(1000000000, 1000000001, 1000000000, 3e9, 3e9, 2e9, 4e9), false},
		{cornersAt(1, -5, 1, 0, -5, 0, 7), false}, // outside of the left side only
	}
	for _, c := range tests {
		for _, a := range rotations(l) {
			for _, b := range rotations(c.m) {
				checkOverlap(t, a, b, c.want)
			}
		}
		if got := haveCommonArea(l, c.m); got != c.want {
			t.Errorf("the test has %t for %v and %v, but the common area says %t", c.want, l, c.m, got)
		}
	}
}

// TestP15TriangleResultsOfMoreThanMaxRatLimbs uses proper corner lists of which one
// intermediate result is too large and the others are not.
func TestP15TriangleResultsOfMoreThanMaxRatLimbs(t *testing.T) {
	noRat, noPoint, zero, one := impl.Rat{}, impl.Point{}, smallRat(0, 1), smallRat(1, 1)
	greatest, smallest := longRats()[0], longRats()[2]
	origin, far := smallPoint(0, 0, 1), impl.Point{X: greatest, Y: zero}

	// DoubleArea is 1 / (10^216 - 1).
	thin := []impl.Point{origin, smallPoint(1, 0, 1), {X: zero, Y: smallest}}
	sameRatOfList(t, impl.AreaOf(thin), noRat, "AreaOf", thin)
	samePointOfList(t, impl.Centroid(thin), noPoint, "Centroid with a third that is too large", thin)
	sameRatOfList(t, impl.ShapeOf(thin), noRat, "ShapeOf", thin)
	samePoints(t, impl.Gradients(thin), []impl.Point{{X: smallRat(-1, 1), Y: longRats()[1]}, smallPoint(1, 0, 1), {X: zero, Y: greatest}}, "Gradients", thin)
	sameRats(t, impl.Barycentric(thin, smallPoint(0, 2, 1)), nil, "Barycentric", thin, smallPoint(0, 2, 1))
	sameRats(t, impl.Barycentric(thin, smallPoint(1, 0, 1)), []impl.Rat{zero, one, zero}, "Barycentric", thin, smallPoint(1, 0, 1))

	// The sum of the first two corners is too large, the sum of all is not.
	l := []impl.Point{smallPoint(1, 0, 1), far, smallPoint(-1, 1, 1)}
	samePointOfList(t, impl.Centroid(l), noPoint, "Centroid with a sum that is too large", l)
	l = []impl.Point{smallPoint(1, 0, 1), smallPoint(-1, 0, 1), {X: greatest, Y: smallRat(-1, 1)}}
	third := impl.Rat{Num: impl.BigInt{Mag: repeatedLimb(333333333, 24)}, Den: []int{1}}
	samePointOfList(t, impl.Centroid(l), impl.Point{X: third, Y: smallRat(-1, 3)}, "Centroid", l)
	// The difference of the second and the third corner is too large.
	l = []impl.Point{origin, far, smallPoint(-1, 1, 1)}
	samePoints(t, impl.Gradients(l), nil, "Gradients", l)
	sameRatOfList(t, impl.ShapeOf(l), noRat, "ShapeOf with a side that is too large", l)
	sameRatOfList(t, impl.AreaOf(l), impl.RatMul(greatest, smallRat(1, 2)), "AreaOf with a side that is too large", l)
	sameRats(t, impl.Barycentric(l, origin), []impl.Rat{one, zero, zero}, "Barycentric", l, origin)
	// The square of a side is too large, the side is not.
	l = []impl.Point{origin, {X: impl.RatNeg(longRats()[3]), Y: zero}, smallPoint(0, 1, 1)}
	sameRatOfList(t, impl.ShapeOf(l), noRat, "ShapeOf with a square that is too large", l)
	if len(impl.Gradients(l)) != 3 {
		t.Errorf("Gradients(%v) = %v", l, impl.Gradients(l))
	}
	// Two of the gradients are too large, and the third one is (0, 1).
	great := impl.Rat{Num: impl.BigInt{Mag: powerOfBase(23)}, Den: []int{1}}
	l = []impl.Point{{X: smallRat(1, 1000000000), Y: one}, origin, {X: great, Y: zero}}
	for _, r := range rotations(l) {
		sameRatOfList(t, impl.AreaOf(r), impl.RatMul(great, smallRat(1, 2)), "AreaOf", r)
		samePoints(t, impl.Gradients(r), nil, "Gradients", r)
	}
}

// TestP15SidesOfMoreThanMaxRatLimbs looks at points for which areas are too large.
func TestP15SidesOfMoreThanMaxRatLimbs(t *testing.T) {
	l, long := cornersAt(1, 0, 0, 2, 0, 0, 2), longRats()
	share := impl.Rat{Num: impl.BigInt{Mag: []int{1}}, Den: powerOfBase(20)}
	other := impl.Rat{Num: impl.BigInt{Mag: []int{1}}, Den: append([]int{1}, repeatedLimb(1, 19)...)}
	tests := []struct {
		p    impl.Point
		want int
	}{
		{impl.Point{X: long[0], Y: long[0]}, 0},
		// The areas beside the sides are not too large, but products in Barycentric are.
		{impl.Point{X: share, Y: share}, 1},
		{impl.Point{X: share, Y: impl.RatNeg(share)}, -1},
		// Inside, but the second area is too large.
		{impl.Point{X: share, Y: other}, 0},
		// The second area is too large, and the first or the third one is negative.
		{impl.Point{X: share, Y: impl.RatNeg(other)}, 0},
		{impl.Point{X: impl.RatNeg(share), Y: other}, 0},
	}
	for _, c := range tests {
		for _, r := range rotations(l) {
			checkSide(t, r, c.p, c.want)
			sameRats(t, impl.Barycentric(r, c.p), wantedCoordinates(r, c.p), "Barycentric", r, c.p)
		}
	}
	sameRats(t, impl.Barycentric(l, tests[1].p), nil, "Barycentric", l, tests[1].p)
	tooLarge := 0
	for _, l := range append(properLists(), []impl.Point{smallPoint(0, 0, 1), smallPoint(4, 0, 1), tests[3].p}) {
		for _, p := range append(samplePoints(), l...) {
			checkSide(t, l, p, wantedSide(l, p))
			if wantedSide(l, p) != exactSide(l, p) {
				tooLarge++
			}
		}
	}
	if tooLarge < 100 {
		t.Errorf("the areas are too large for %d points only", tooLarge)
	}
}

// TestP15OverlapsOfMoreThanMaxRatLimbs uses areas that are too large and therefore
// not positive.
func TestP15OverlapsOfMoreThanMaxRatLimbs(t *testing.T) {
	zero, great := smallRat(0, 1), impl.Rat{Num: impl.BigInt{Mag: powerOfBase(23)}, Den: []int{1}}
	right, up := impl.Point{X: great, Y: zero}, impl.Point{X: zero, Y: great}
	flat := []impl.Point{smallPoint(0, 0, 1), right, smallPoint(0, 1, 1)}
	high := []impl.Point{smallPoint(0, 0, 1), smallPoint(1, 0, 1), up}
	checkOverlap(t, flat, high, false)
	// Here, every side also has a corner with a positive area.
	middle := []impl.Point{smallPoint(-1, 2, 4), smallPoint(1, 1, 2), up}
	checkOverlap(t, flat, middle, true)
	checkOverlap(t, flat, flat, true)
	checkOverlap(t, high, high, true)
}

// checkListIsRejected checks every function for a list that is not proper.
func checkListIsRejected(t *testing.T, l []impl.Point) {
	t.Helper()
	sameRatOfList(t, impl.AreaOf(l), impl.Rat{}, "AreaOf", l)
	sameRatOfList(t, impl.ShapeOf(l), impl.Rat{}, "ShapeOf", l)
	samePointOfList(t, impl.Centroid(l), impl.Point{}, "Centroid", l)
	samePoints(t, impl.Gradients(l), nil, "Gradients", l)
	points := append(slices.Clone(l), smallPoint(0, 0, 1), smallPoint(1, 1, 2), impl.Point{}, impl.Point{X: longRats()[0], Y: longRats()[1]})
	for _, p := range points {
		sameRats(t, impl.Barycentric(l, p), nil, "Barycentric", l, p)
		checkSide(t, l, p, -1)
	}
	checkOverlap(t, l, l, false)
	checkOverlap(t, l, cornersAt(1, 0, 0, 2, 0, 0, 2), false)
	checkOverlap(t, l, cornersAt(1, -99, -99, 99, -99, 0, 99), false)
}

func TestP15InvalidArgumentsOfTriangles(t *testing.T) {
	for _, l := range notProperLists() {
		checkListIsRejected(t, l)
	}
	for _, l := range smallLists()[:6] {
		for _, bad := range notPoints() {
			sameRats(t, impl.Barycentric(l, bad), nil, "Barycentric", l, bad)
			checkSide(t, l, bad, -1)
		}
	}
}

// listWithSpare returns a copy of l that has a point behind its end, which no
// function may change.
func listWithSpare(l []impl.Point) []impl.Point {
	var list []impl.Point
	for _, p := range l {
		list = append(list, pointWithSpare(p))
	}
	return append(list, pointWithSpare(smallPoint(77, 88, 99)))[:len(l)]
}

func keepsList(l []impl.Point, want []impl.Point) bool {
	return slices.EqualFunc(l, want, keepsPoint) && keepsPoint(l[:len(l)+1][len(l)], smallPoint(77, 88, 99))
}

// fewLists returns corner lists of all kinds.
func fewLists() [][]impl.Point {
	s := source(26)
	unit := cornersAt(1, 0, 0, 1, 0, 0, 1)
	return append(rotations(unit), cornersAt(6, -7, 4, 5, -2, 9, 1), s.corners(2), s.corners(5), unit[:2], clockwiseAndFlatLists()[0])
}

// triangleLimbs returns the lists of limbs of everything that the functions compute
// from l and p, and overwrites the lists of fractions and points that contain them.
func triangleLimbs(l []impl.Point, p impl.Point) [][]int {
	points := []impl.Point{impl.Centroid(l), {X: impl.AreaOf(l), Y: impl.ShapeOf(l)}}
	coordinates, gradients := impl.Barycentric(l, p), impl.Gradients(l)
	for _, r := range coordinates {
		points = append(points, impl.Point{X: r})
	}
	points = append(points, gradients...)
	var limbs [][]int
	for _, q := range points {
		limbs = append(limbs, limbsOf(q)...)
	}
	clear(coordinates[:cap(coordinates)])
	clear(gradients[:cap(gradients)])
	return limbs
}

func TestP15TriangleArgumentsAreKept(t *testing.T) {
	for _, a := range fewLists() {
		for _, p := range fewPoints() {
			l, q := listWithSpare(a), pointWithSpare(p)
			triangleLimbs(l, q)
			impl.IsProper(l)
			impl.SideOf(l, q)
			impl.Overlap(l, l)
			if !keepsList(l, a) || !keepsPoint(q, p) {
				t.Fatalf("the arguments %v and %v were changed to %v and %v", a, p, l, q)
			}
			for _, b := range fewLists() {
				m := listWithSpare(b)
				impl.Overlap(l, m)
				if !keepsList(l, a) || !keepsList(m, b) {
					t.Fatalf("the arguments %v and %v were changed to %v and %v", a, b, l, m)
				}
			}
		}
	}
}

// TestP15TriangleResultsAreNew overwrites one list of limbs after the other and looks
// for the change in the lists after it and in the arguments.
func TestP15TriangleResultsAreNew(t *testing.T) {
	for _, a := range fewLists() {
		for _, p := range append(fewPoints(), a...) {
			l, q := listWithSpare(a), pointWithSpare(p)
			wants, results := triangleLimbs(a, p), triangleLimbs(l, q)
			for i, limbs := range results {
				sameNat(t, limbs, wants[i], "a list of limbs after changes of others")
				overwrite(limbs)
			}
			if !keepsList(l, a) || !keepsPoint(q, p) {
				t.Fatalf("changes of the results for %v and %v reach the arguments", a, p)
			}
			for i, limbs := range triangleLimbs(l, q) {
				sameNat(t, limbs, wants[i], "a list of limbs after changes of all results")
			}
		}
	}
}
