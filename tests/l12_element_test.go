package tests

import (
	"math/big"
	"slices"
	"strings"
	"testing"

	"loop.example/g00812/impl"
)

// elementLists returns proper corner lists with coordinates that are not long.
func elementLists() [][]impl.Point {
	s := source(101)
	list := smallLists()
	for range 60 {
		list = append(list, s.corners(1))
	}
	return list
}

// cornerValues returns the values of a linear function at the corners of a list.
func cornerValues(l []impl.Point, gradient impl.Point, start impl.Rat) []impl.Rat {
	return linearFunction(impl.Mesh{Points: l}, gradient, start)
}

// partsOf returns the triangles into which a list is divided by its centroid and by the
// middle of a side.
func partsOf(l []impl.Point) [][][]impl.Point {
	center, middle := impl.Centroid(l), wantedMiddle(l[1], l[2])
	return [][][]impl.Point{
		{{center, l[0], l[1]}, {center, l[1], l[2]}, {center, l[2], l[0]}},
		{{middle, l[0], l[1]}, {middle, l[2], l[0]}},
	}
}

func TestP5GradientsAndValuesOfLinearFunctions(t *testing.T) {
	s := source(102)
	for _, l := range elementLists() {
		gradient, start := s.point(1), s.rat(1)
		u := cornerValues(l, gradient, start)
		samePointOfList(t, impl.LocalGradient(l, u), gradient, "LocalGradient", l)
		points := append(slices.Clone(l), impl.Centroid(l), wantedMiddle(l[2], l[0]), smallPoint(0, 0, 1), s.point(1))
		for i, want := range cornerValues(points, gradient, start) {
			sameRatOfList(t, impl.ValueIn(l, u, points[i]), want, "ValueIn of a linear function", l)
		}
		flat := slices.Repeat([]impl.Rat{start}, 3)
		samePointOfList(t, impl.LocalGradient(l, flat), smallPoint(0, 0, 1), "LocalGradient of a constant", l)
		sameRatOfList(t, impl.ValueIn(l, flat, s.point(1)), start, "ValueIn of a constant", l)
	}
}

// sumOfProducts returns the sum of the products of two linear functions at the middles
// of the sides.
func sumOfProducts(u []impl.Rat, v []impl.Rat) *big.Rat {
	sum := new(big.Rat)
	for i := range u {
		j := (i + 1) % 3
		first := new(big.Rat).Add(bigOfRat(u[i]), bigOfRat(u[j]))
		second := new(big.Rat).Add(bigOfRat(v[i]), bigOfRat(v[j]))
		sum.Add(sum, first.Mul(first, second))
	}
	return sum.Mul(sum, big.NewRat(1, 4))
}

// TestP5IntegralsOfLinearFunctions uses that a third of the area, times the values at the
// middles of the sides, is exact for products of linear functions.
func TestP5IntegralsOfLinearFunctions(t *testing.T) {
	s := source(103)
	one := slices.Repeat([]impl.Rat{smallRat(1, 1)}, 3)
	for _, l := range elementLists() {
		gradient, start, v := s.point(1), s.rat(1), s.vector(3, 1)
		u := cornerValues(l, gradient, start)
		area := bigOfRat(impl.AreaOf(l))
		center := cornerValues([]impl.Point{impl.Centroid(l)}, gradient, start)
		sameRatOfList(t, impl.IntegralOf(l, u), ratOrZero(bigProduct(area, bigOfRat(center[0]))), "IntegralOf", l)
		sameRatOfList(t, impl.IntegralOf(l, one), impl.AreaOf(l), "IntegralOf 1", l)
		third := new(big.Rat).Mul(area, big.NewRat(1, 3))
		sameRatOfList(t, impl.ProductIntegral(l, u, v), ratOfBig(third.Mul(third, sumOfProducts(u, v))), "ProductIntegral", l)
		sameRatOfList(t, impl.ProductIntegral(l, v, u), impl.ProductIntegral(l, u, v), "ProductIntegral the other way round", l)
		sameRatOfList(t, impl.ProductIntegral(l, u, one), impl.IntegralOf(l, u), "ProductIntegral with 1", l)
	}
}

// TestP5IntegralsOverParts adds the integrals over the parts of a triangle.
func TestP5IntegralsOverParts(t *testing.T) {
	s := source(104)
	for _, l := range elementLists() {
		gradient, other, start := s.point(1), smallPoint(int64(s.upTo(9))-4, int64(s.upTo(9))-4, 3), smallRat(1, 2)
		u, v := cornerValues(l, gradient, start), cornerValues(l, other, start)
		for _, parts := range partsOf(l) {
			whole, product := smallRat(0, 1), smallRat(0, 1)
			for _, part := range parts {
				x, y := cornerValues(part, gradient, start), cornerValues(part, other, start)
				samePointOfList(t, impl.LocalGradient(part, x), gradient, "LocalGradient in a part", part)
				whole = impl.RatAdd(whole, impl.IntegralOf(part, x))
				product = impl.RatAdd(product, impl.ProductIntegral(part, x, y))
			}
			sameRatOfList(t, whole, impl.IntegralOf(l, u), "the sum of IntegralOf over parts", l)
			sameRatOfList(t, product, impl.ProductIntegral(l, u, v), "the sum of ProductIntegral over parts", l)
		}
	}
}

// integralsOver returns the sums of IntegralOf and ProductIntegral over a mesh, and of
// the energies according to LocalStiffness.
func integralsOver(m impl.Mesh, u []impl.Rat, v []impl.Rat) [3]string {
	var sums [3]big.Rat
	add := func(i int, r impl.Rat) { sums[i].Add(&sums[i], bigOfRat(r)) }
	for k, triangle := range m.Triangles {
		l := impl.Corners(m, k)
		x := []impl.Rat{u[triangle.A], u[triangle.B], u[triangle.C]}
		y := []impl.Rat{v[triangle.A], v[triangle.B], v[triangle.C]}
		add(0, impl.IntegralOf(l, x))
		add(1, impl.ProductIntegral(l, x, y))
		add(2, wantedForm(impl.LocalStiffness(l), x, y))
	}
	return [3]string{sums[0].String(), sums[1].String(), sums[2].String()}
}

// wantedForm returns the product of a vector, a matrix and another vector.
func wantedForm(rows [][]impl.Rat, u []impl.Rat, v []impl.Rat) impl.Rat {
	sum := new(big.Rat)
	for i, row := range rows {
		for j, r := range row {
			product := new(big.Rat).Mul(bigOfRat(u[i]), bigOfRat(v[j]))
			sum.Add(sum, product.Mul(product, bigOfRat(r)))
		}
	}
	return ratOfBig(sum)
}

func TestP5ProlongationKeepsIntegrals(t *testing.T) {
	s := source(105)
	for i, c := range transfers() {
		if i%3 != 1 {
			continue
		}
		u, v := s.integers(len(c.coarse.Points)), s.integers(len(c.coarse.Points))
		x, y := impl.Prolong(c.coarse, c.fine, u), impl.Prolong(c.coarse, c.fine, v)
		if got, want := integralsOver(c.fine, x, y), integralsOver(c.coarse, u, v); got != want {
			t.Errorf("the integrals on %v are %v, and on %v %v", c.fine, got, c.coarse, want)
		}
	}
}

// TestP5LocalMatricesOfLinearFunctions looks at the products of the matrices with the
// values of linear functions.
func TestP5LocalMatricesOfLinearFunctions(t *testing.T) {
	s := source(106)
	one := slices.Repeat([]impl.Rat{smallRat(1, 1)}, 3)
	for _, l := range elementLists() {
		gradient, other := s.point(1), s.point(1)
		u, v := cornerValues(l, gradient, s.rat(1)), cornerValues(l, other, s.rat(1))
		stiffness, mass := impl.LocalStiffness(l), impl.LocalMass(l)
		energy := impl.RatMul(impl.AreaOf(l), impl.Inner(gradient, other))
		sameRatOfList(t, wantedForm(stiffness, u, v), energy, "the energy of LocalStiffness", l)
		sameRatOfList(t, wantedForm(stiffness, one, v), smallRat(0, 1), "the energy with a constant", l)
		sameRatOfList(t, wantedForm(mass, u, v), impl.ProductIntegral(l, u, v), "the integral of LocalMass", l)
		sameRatOfList(t, wantedForm(mass, one, v), impl.IntegralOf(l, v), "the integral with 1", l)
		for i := range 3 {
			for j := range i {
				sameRatOfList(t, stiffness[i][j], stiffness[j][i], "LocalStiffness below the diagonal", l)
				sameRatOfList(t, mass[i][j], mass[j][i], "LocalMass below the diagonal", l)
			}
		}
	}
}

// wantedLocalGradient is LocalGradient for three valid values, computed without the
// program.
func wantedLocalGradient(l []impl.Point, u []impl.Rat) impl.Point {
	x, y := new(big.Rat), new(big.Rat)
	gradients := wantedGradients(l)
	if gradients == nil {
		return impl.Point{}
	}
	for i, g := range gradients {
		x = bigSum(x, bigProduct(bigOfRat(u[i]), bigOfRat(g.X)))
		y = bigSum(y, bigProduct(bigOfRat(u[i]), bigOfRat(g.Y)))
	}
	return pointOrZero(x, y)
}

// wantedElementArea is AreaOf, computed without the program. It is nil if there is none.
func wantedElementArea(l []impl.Point) bigRat {
	if !isProperList(l) {
		return nil
	}
	return bigProduct(bigDoubleArea(l[0], l[1], l[2]), big.NewRat(1, 2))
}

// wantedLocalMatrix returns a matrix with these elements, or nil if one is too large.
func wantedLocalMatrix(element func(i int, j int) bigRat) [][]impl.Rat {
	var rows [][]impl.Rat
	for i := range 3 {
		var row []impl.Rat
		for j := range 3 {
			n := element(i, j)
			if n == nil {
				return nil
			}
			row = append(row, ratOfBig(n))
		}
		rows = append(rows, row)
	}
	return rows
}

// wantedStiffness is LocalStiffness, computed without the program.
func wantedStiffness(l []impl.Point) [][]impl.Rat {
	area, g := wantedElementArea(l), wantedGradients(l)
	if g == nil {
		return nil
	}
	return wantedLocalMatrix(func(i int, j int) bigRat {
		x := bigProduct(bigOfRat(g[i].X), bigOfRat(g[j].X))
		y := bigProduct(bigOfRat(g[i].Y), bigOfRat(g[j].Y))
		return bigProduct(area, bigSum(x, y))
	})
}

// wantedMass is LocalMass, computed without the program.
func wantedMass(l []impl.Point) [][]impl.Rat {
	area := wantedElementArea(l)
	return wantedLocalMatrix(func(i int, j int) bigRat {
		if i == j {
			return bigProduct(area, big.NewRat(1, 6))
		}
		return bigProduct(area, big.NewRat(1, 12))
	})
}

// wantedIntegral is IntegralOf for three valid values, computed without the program.
func wantedIntegral(l []impl.Point, u []impl.Rat) impl.Rat {
	sum := bigSum(bigSum(bigOfRat(u[0]), bigOfRat(u[1])), bigOfRat(u[2]))
	return ratOrZero(bigProduct(wantedElementArea(l), bigProduct(sum, big.NewRat(1, 3))))
}

// wantedProductIntegral is ProductIntegral for three valid values each, computed without
// the program.
func wantedProductIntegral(l []impl.Point, u []impl.Rat, v []impl.Rat) impl.Rat {
	mass, sum := wantedMass(l), new(big.Rat)
	if mass == nil {
		return impl.Rat{}
	}
	for i := range 3 {
		for j := range 3 {
			product := bigProduct(bigOfRat(u[i]), bigOfRat(v[j]))
			sum = bigSum(sum, bigProduct(product, bigOfRat(mass[i][j])))
		}
	}
	return ratOrZero(sum)
}

// wantedValueIn is ValueIn for three valid values and a valid point, computed without the
// program.
func wantedValueIn(l []impl.Point, u []impl.Rat, p impl.Point) impl.Rat {
	shares, sum := wantedCoordinates(l, p), new(big.Rat)
	if shares == nil {
		return impl.Rat{}
	}
	for i, share := range shares {
		sum = bigSum(sum, bigProduct(bigOfRat(u[i]), bigOfRat(share)))
	}
	return ratOrZero(sum)
}

func sameLocalMatrix(t *testing.T, got [][]impl.Rat, want [][]impl.Rat, name string, l []impl.Point) {
	t.Helper()
	equalRows := func(u []impl.Rat, v []impl.Rat) bool { return slices.EqualFunc(u, v, equalRats) }
	if !slices.EqualFunc(got, want, equalRows) {
		t.Errorf("%s(%v) = %v, want %v", name, l, got, want)
	}
}

// checkElement compares every function for a list of three valid points, valid values and
// a valid point with what is wanted, and returns which results there are.
func checkElement(t *testing.T, l []impl.Point, u []impl.Rat, v []impl.Rat, p impl.Point) [6]bool {
	t.Helper()
	gradient, integral, value := wantedLocalGradient(l, u), wantedIntegral(l, u), wantedValueIn(l, u, p)
	stiffness, mass, product := wantedStiffness(l), wantedMass(l), wantedProductIntegral(l, u, v)
	samePointOfList(t, impl.LocalGradient(l, u), gradient, "LocalGradient", l)
	sameLocalMatrix(t, impl.LocalStiffness(l), stiffness, "LocalStiffness", l)
	sameLocalMatrix(t, impl.LocalMass(l), mass, "LocalMass", l)
	sameRatOfList(t, impl.IntegralOf(l, u), integral, "IntegralOf", l)
	sameRatOfList(t, impl.ProductIntegral(l, u, v), product, "ProductIntegral", l)
	sameRatOfList(t, impl.ValueIn(l, u, p), value, "ValueIn", l)
	return [6]bool{impl.IsValidPoint(gradient), stiffness != nil, mass != nil, impl.RatOk(integral), impl.RatOk(product), impl.RatOk(value)}
}

// countResults adds to the numbers of missing results and of others.
func countResults(counts *[6][2]int, results [6]bool) {
	for i, exists := range results {
		if exists {
			counts[i][1]++
		} else {
			counts[i][0]++
		}
	}
}

// checkCounts checks that each function had results that are too large, and others.
func checkCounts(t *testing.T, counts [6][2]int, least int) {
	t.Helper()
	for _, c := range counts {
		if min(c[0], c[1]) < least {
			t.Errorf("the numbers of results that are too large, and of others, are %v", counts)
			return
		}
	}
}

func TestP15Elements(t *testing.T) {
	s := source(107)
	for _, l := range elementLists() {
		checkElement(t, l, s.integers(3), s.integers(3), smallPoint(1, -2, 3))
		results := checkElement(t, l, s.vector(3, 2), s.vector(3, 1), s.point(1))
		if results != [6]bool{true, true, true, true, true, true} {
			t.Errorf("a result for %v is too large", l)
		}
	}
	var counts [6][2]int
	for _, l := range mixedLists() {
		countResults(&counts, checkElement(t, l, s.integers(3), s.vector(3, 1+s.upTo(12)), l[s.upTo(3)]))
		countResults(&counts, checkElement(t, l, s.vector(3, 1+s.upTo(4)), s.integers(3), s.point(1)))
	}
	checkCounts(t, counts, 40)
}

// TestP15ElementsOfMoreThanMaxRatLimbs uses values at the limit in triangles of all kinds.
func TestP15ElementsOfMoreThanMaxRatLimbs(t *testing.T) {
	s, rats := source(108), limitRats()
	pick := func() []impl.Rat {
		u := s.integers(3)
		for range 1 + s.upTo(3) {
			u[s.upTo(3)] = rats[s.upTo(len(rats))]
		}
		return u
	}
	lists := append(smallLists(), properLists()[len(smallLists()):]...)
	lists = append(lists, thinLists()...)
	var counts [6][2]int
	for _, l := range lists {
		for range 12 {
			p := []impl.Point{l[0], l[1], l[2], smallPoint(0, 0, 1), smallPoint(1, 1, 3), s.point(2)}[s.upTo(6)]
			countResults(&counts, checkElement(t, l, pick(), pick(), p))
		}
	}
	checkCounts(t, counts, 40)
}

// thinLists returns proper corner lists of which the area or another result is too large.
func thinLists() [][]impl.Point {
	zero, one, long := smallRat(0, 1), smallRat(1, 1), longRats()
	origin, right := smallPoint(0, 0, 1), smallPoint(1, 0, 1)
	great := impl.Rat{Num: impl.BigInt{Mag: powerOfBase(23)}, Den: []int{1}}
	sixth := impl.Rat{Num: impl.BigInt{Mag: []int{1}}, Den: append([]int{1}, repeatedLimb(166666666, 23)...)}
	var list [][]impl.Point
	for _, height := range []impl.Rat{long[2], long[4], impl.RatMul(long[2], smallRat(3, 1)), sixth, impl.RatMul(sixth, smallRat(2, 1)), impl.RatMul(sixth, smallRat(4, 1)), great} {
		list = append(list, rotations([]impl.Point{origin, right, {X: zero, Y: height}})...)
	}
	list = append(list, rotations([]impl.Point{{X: smallRat(1, 1000000000), Y: one}, origin, {X: great, Y: zero}})...)
	// Of the inner products, only the square of the first gradient is too large.
	near := impl.Rat{Num: impl.BigInt{Mag: []int{1}}, Den: powerOfBase(12)}
	list = append(list, rotations([]impl.Point{{X: near, Y: zero}, smallPoint(0, 1, 2), smallPoint(0, -1, 2)})...)
	return append(list, rotations([]impl.Point{origin, {X: impl.RatNeg(long[3]), Y: zero}, smallPoint(0, 1, 1)})...)
}

// matrixOf returns the matrix of a text with three lines, separated by semicolons.
func matrixOf(text string) [][]impl.Rat {
	var rows [][]impl.Rat
	for line := range strings.SplitSeq(text, ";") {
		rows = append(rows, vectorOf(line))
	}
	return rows
}

func TestP15LocalMatricesOfSomeTriangles(t *testing.T) {
	tests := []struct {
		l               []impl.Point
		stiffness, mass string
	}{
		{cornersAt(1, 0, 0, 1, 0, 0, 1), "1 -1/2 -1/2; -1/2 1/2 0; -1/2 0 1/2", "1/12 1/24 1/24; 1/24 1/12 1/24; 1/24 1/24 1/12"},
		{cornersAt(7, 3, 5, 10, 5, 3, 12), "1 -1/2 -1/2; -1/2 1/2 0; -1/2 0 1/2", "1/12 1/24 1/24; 1/24 1/12 1/24; 1/24 1/24 1/12"},
		{cornersAt(1, 0, 2, 0, 0, 2, 0), "1/2 -1/2 0; -1/2 1 -1/2; 0 -1/2 1/2", "1/3 1/6 1/6; 1/6 1/3 1/6; 1/6 1/6 1/3"},
		{cornersAt(1, 0, 0, 3, 0, 1, 2), "2/3 -1/6 -1/2; -1/6 5/12 -1/4; -1/2 -1/4 3/4", "1/2 1/4 1/4; 1/4 1/2 1/4; 1/4 1/4 1/2"},
		{cornersAt(1, 0, 0, 4, 0, 2, 1), "5/8 3/8 -1; 3/8 5/8 -1; -1 -1 2", "1/3 1/6 1/6; 1/6 1/3 1/6; 1/6 1/6 1/3"},
	}
	for _, c := range tests {
		sameLocalMatrix(t, impl.LocalStiffness(c.l), matrixOf(c.stiffness), "LocalStiffness", c.l)
		sameLocalMatrix(t, impl.LocalMass(c.l), matrixOf(c.mass), "LocalMass", c.l)
	}
}

func TestP15SomeLinearFunctions(t *testing.T) {
	unit := cornersAt(1, 0, 0, 1, 0, 0, 1)
	tests := []struct {
		l        []impl.Point
		u, v     string
		p        impl.Point
		gradient impl.Point
		numbers  string
	}{
		{l: unit, u: "0 3 6", v: "1 1 1", p: smallPoint(1, 1, 2), gradient: smallPoint(3, 6, 1), numbers: "3/2 3/2 9/2"},
		{l: unit, u: "5 5 5", v: "0 1 2", p: smallPoint(-9, 7, 2), gradient: smallPoint(0, 0, 1), numbers: "5/2 5/2 5"},
		{l: unit, u: "0 0 0", v: "1 2 3", p: smallPoint(1, 1, 3), gradient: smallPoint(0, 0, 1), numbers: "0 0 0"},
		{l: unit, u: "1 0 0", v: "0 1 0", p: smallPoint(1, 0, 4), gradient: smallPoint(-1, -1, 1), numbers: "1/6 1/24 3/4"},
		{l: unit, u: "0 0 1", v: "0 0 1", p: smallPoint(2, 3, 1), gradient: smallPoint(0, 1, 1), numbers: "1/6 1/12 3"},
		{l: cornersAt(1, 0, 0, 4, 0, 1, 2), u: "-1 1 1/2", v: "2 0 -2", p: smallPoint(1, 2, 1), gradient: smallPoint(4, 4, 8), numbers: "2/3 -1 1/2"},
		{l: cornersAt(2, 1, 1, 3, 1, 2, 3), u: "1/3 2/3 1", v: "3 6 9", p: smallPoint(0, 0, 1), gradient: smallPoint(2, 3, 6), numbers: "1/3 25/12 -1/12"},
	}
	for _, c := range tests {
		u, v, want := vectorOf(c.u), vectorOf(c.v), vectorOf(c.numbers)
		samePointOfList(t, impl.LocalGradient(c.l, u), c.gradient, "LocalGradient", c.l)
		sameRatOfList(t, impl.IntegralOf(c.l, u), want[0], "IntegralOf", c.l)
		sameRatOfList(t, impl.ProductIntegral(c.l, u, v), want[1], "ProductIntegral", c.l)
		sameRatOfList(t, impl.ValueIn(c.l, u, c.p), want[2], "ValueIn", c.l)
		checkElement(t, c.l, u, v, c.p)
	}
}

// limitVector returns the fractions of a text in which F is the greatest fraction, G is
// F - 1, M is a half of G, N is M - 2, and T is 1 / F. A text without words gives nil.
func limitVector(text string) []impl.Rat {
	far, one := bigOfRat(longRats()[0]), big.NewRat(1, 1)
	near := new(big.Rat).Sub(far, one)
	most := new(big.Rat).Mul(near, big.NewRat(1, 2))
	less := new(big.Rat).Sub(most, big.NewRat(2, 1))
	tiny := new(big.Rat).Inv(far)
	words := strings.NewReplacer("F", far.RatString(), "G", near.RatString(), "M", most.RatString(), "N", less.RatString(), "T", tiny.RatString())
	return vectorOf(words.Replace(text))
}

// sameLimit compares a result with the fraction of a text, or with the zero value if there
// is none, and with what is wanted according to another computation.
func sameLimit(t *testing.T, got impl.Rat, text string, expected impl.Rat, name string, args ...string) {
	t.Helper()
	var want impl.Rat
	if text != "" {
		want = limitVector(text)[0]
	}
	if !equalRats(want, expected) {
		t.Errorf("the test has %s for %s%q, but the computation has %v", text, name, args, expected)
	}
	if !equalRats(got, want) {
		t.Errorf("%s%q = %v, want %s", name, args, got, text)
	}
}

// TestP15PartialSumsOfGradients has partial sums that are too large. The gradients of the
// coordinates are (-1, -1), (2, -1) and (-1, 2).
func TestP15PartialSumsOfGradients(t *testing.T) {
	l := cornersAt(3, 0, 0, 2, 1, 1, 2)
	tests := []struct {
		corner  int
		u, x, y string
	}{
		{0, "F 0 0", "-F", "-F"}, {0, "0 F 0", "", ""}, {0, "0 0 F", "", ""}, {0, "F F F", "", ""},
		{0, "M M M", "0", "0"}, {0, "T T T", "0", "0"}, {0, "T 0 0", "-T", "-T"}, {0, "T 1/2 0", "", ""},
		// Only a partial sum of the first or the second coordinate is too large.
		{0, "-G 1 1", "", ""}, {1, "1 1 -G", "F", "F"}, {2, "1 -G 1", "", ""},
		{0, "-G -2 -1", "", ""}, {0, "-G 0 0", "G", "G"}, {0, "-G 0 1", "", ""}, {0, "-G 1 0", "", ""},
	}
	for _, c := range tests {
		r, u := rotations(l)[c.corner], limitVector(c.u)
		got, want := impl.LocalGradient(r, u), wantedLocalGradient(r, u)
		sameLimit(t, got.X, c.x, want.X, "the first coordinate of LocalGradient", c.u)
		sameLimit(t, got.Y, c.y, want.Y, "the second coordinate of LocalGradient", c.u)
	}
}

// TestP15PartialSumsOfIntegrals has sums, averages and products that are too large.
func TestP15PartialSumsOfIntegrals(t *testing.T) {
	small, unit, great := cornersAt(3, 0, 0, 3, 0, 0, 2), cornersAt(1, 0, 0, 1, 0, 0, 2), cornersAt(1, 0, 0, 3, 0, 0, 2)
	third := strings.Repeat("3", 216)
	tests := []struct {
		l       []impl.Point
		u, want string
	}{
		{unit, "F 0 0", third}, {unit, "F 1 -1", ""}, {unit, "F -1 1", third}, {unit, "1 F -1", ""}, {unit, "1 -1 F", third},
		{unit, "-1 1 F", third}, {unit, "-1 F 1", third}, {unit, "F F F", ""}, {unit, "F -F 0", "0"}, {unit, "F -F F", third},
		{unit, "1 F F", ""}, {unit, "0 F -F", "0"}, {unit, "0 0 T", ""}, {unit, "1/2 T -1/2", ""}, {unit, "T -T 0", "0"}, {unit, "T T T", "T"},
		// The area is 3: an average that is too large is not saved by it, and a sum is divided first.
		{great, "0 F 0", "F"}, {great, "0 M M", "G"}, {great, "T 0 0", ""}, {great, "T T T", "3/" + strings.Repeat("9", 216)},
		// The area is 1/3.
		{small, "T T T", ""}, {small, "F 0 0", strings.Repeat("1", 216)},
	}
	for _, c := range tests {
		u := limitVector(c.u)
		sameLimit(t, impl.IntegralOf(c.l, u), c.want, wantedIntegral(c.l, u), "IntegralOf", c.u)
	}
}

// TestP15PartialSumsOfProducts has products and partial sums that are too large. The
// elements of LocalMass are 2 for equal indices and 1 otherwise.
func TestP15PartialSumsOfProducts(t *testing.T) {
	l := cornersAt(1, 0, 0, 4, 0, 0, 6)
	tests := []struct{ u, v, want string }{
		{"F 0 0", "0 1 0", "F"}, {"F 0 0", "1 0 0", ""}, {"M 0 0", "1 0 0", "G"}, {"0 M 0", "0 1 0", "G"}, {"0 F 0", "0 0 1", "F"}, {"0 0 F", "0 0 1", ""},
		{"M 0 0", "1 2 0", ""}, {"M 0 0", "1 -2 0", "0"}, {"M 0 0", "1 2 -2", ""}, {"M 0 0", "1 -2 2", "G"},
		{"1 0 0", "M 1 0", "F"}, {"1 0 0", "M 1 1", ""}, {"1 0 0", "M 1 -1", "G"}, {"1 0 0", "M 2 -1", ""},
		{"0 0 1", "1 1 M", ""}, {"0 0 1", "1 -1 M", "G"}, {"0 0 1", "2 -1 M", "F"},
		{"1 0 1", "M 1 0", ""}, {"1 0 -1", "M 1 1", ""}, {"1 0 -1", "M 1 0", "M"},
		// The sum goes from row to row.
		{"1 -1 0", "M 3 0", ""}, {"M 2 0", "1 -1 0", "N"},
		{"F 0 0", "0 2 -1", ""}, {"F 0 0", "0 -1 2", ""}, {"F 0 0", "0 1 -1", "0"}, {"F 0 0", "0 F 0", ""}, {"F 0 0", "0 T 0", "1"},
		{"T 0 0", "1/2 0 0", ""}, {"T 0 0", "0 1/2 0", ""}, {"T 0 0", "0 1 0", "T"}, {"0 1 0", "0 T 1/2", ""},
	}
	for _, c := range tests {
		u, v := limitVector(c.u), limitVector(c.v)
		sameLimit(t, impl.ProductIntegral(l, u, v), c.want, wantedProductIntegral(l, u, v), "ProductIntegral", c.u, c.v)
	}
}

// TestP15PartialSumsOfValues has sums that are too large at points where the coordinates
// are 1 - x - y, x and y.
func TestP15PartialSumsOfValues(t *testing.T) {
	l := cornersAt(1, 0, 0, 1, 0, 0, 1)
	tests := []struct {
		u    string
		p    impl.Point
		want string
	}{
		{"F 0 0", smallPoint(0, 0, 1), "F"}, {"F 5 7", smallPoint(0, 0, 1), "F"},
		{"F 1 1", smallPoint(-1, 1, 1), "F"}, {"F 1 1", smallPoint(1, -1, 1), ""},
		{"F -1 -1", smallPoint(1, -1, 1), "F"}, {"F -1 -1", smallPoint(-1, 1, 1), ""},
		{"1 F 1", smallPoint(1, 1, 1), "F"}, {"-1 F -1", smallPoint(1, 1, 1), ""},
		{"F F 0", smallPoint(2, 0, 1), ""}, {"F F F", smallPoint(1, 1, 1), "F"},
		{"F F F", smallPoint(2, -1, 1), ""}, {"F F F", smallPoint(-1, -1, 1), ""},
		{"0 0 T", smallPoint(1, 1, 2), ""}, {"0 0 T", smallPoint(1, 2, 2), "T"},
	}
	for _, c := range tests {
		u := limitVector(c.u)
		sameLimit(t, impl.ValueIn(l, u, c.p), c.want, wantedValueIn(l, u, c.p), "ValueIn", c.u, impl.FormatPoint(c.p))
	}
}

// TestP15ElementsWithOneResultThatIsTooLarge has areas, elements of the matrices and
// coordinates that are too large, which leave no result even where the values are 0.
func TestP15ElementsWithOneResultThatIsTooLarge(t *testing.T) {
	zeros, ones := vectorOf("0 0 0"), vectorOf("1 1 1")
	kinds := map[string]int{}
	for _, l := range thinLists() {
		area := wantedElementArea(l)
		hasSixth, hasTwelfth := bigProduct(area, big.NewRat(1, 6)) != nil, bigProduct(area, big.NewRat(1, 12)) != nil
		checkElement(t, l, ones, ones, smallPoint(0, 0, 1))
		for _, p := range append(slices.Clone(l), smallPoint(1, 1, 2)) {
			results := checkElement(t, l, zeros, zeros, p)
			hasMass, hasGradients, hasCoordinates := hasSixth && hasTwelfth, wantedGradients(l) != nil, wantedCoordinates(l, p) != nil
			if results[0] != hasGradients || results[2] != hasMass || results[3] != (area != nil) || results[4] != hasMass || results[5] != hasCoordinates {
				t.Errorf("the results for 0 in %v are %v", l, results)
			}
			switch {
			case area == nil:
				kinds["no area"]++
			case hasSixth != hasTwelfth:
				kinds["one element of the mass matrix only"]++
			case !hasMass:
				kinds["no mass matrix"]++
			case hasGradients && !results[1]:
				kinds["no stiffness matrix"]++
			case !hasGradients || !hasCoordinates:
				kinds["no gradients or coordinates"]++
			}
		}
	}
	if len(kinds) != 5 {
		t.Errorf("there are some kinds of results only: %v", kinds)
	}
}

// checkNoElement checks that no function returns a result that needs the values.
func checkNoElement(t *testing.T, l []impl.Point, u []impl.Rat, p impl.Point) {
	t.Helper()
	good := vectorOf("1 0 1/2")
	samePointOfList(t, impl.LocalGradient(l, u), impl.Point{}, "LocalGradient", l)
	sameRatOfList(t, impl.IntegralOf(l, u), impl.Rat{}, "IntegralOf", l)
	sameRatOfList(t, impl.ProductIntegral(l, u, good), impl.Rat{}, "ProductIntegral", l)
	sameRatOfList(t, impl.ProductIntegral(l, good, u), impl.Rat{}, "ProductIntegral", l)
	sameRatOfList(t, impl.ProductIntegral(l, u, u), impl.Rat{}, "ProductIntegral", l)
	sameRatOfList(t, impl.ValueIn(l, u, p), impl.Rat{}, "ValueIn", l)
}

func TestP15ElementsOfListsThatAreNotProper(t *testing.T) {
	for _, l := range notProperLists() {
		for _, u := range [][]impl.Rat{vectorOf("0 0 0"), vectorOf("1 2 -1/2"), vectorOf("1 2 3 4"), nil} {
			checkNoElement(t, l, u, smallPoint(0, 0, 1))
		}
		sameLocalMatrix(t, impl.LocalStiffness(l), nil, "LocalStiffness", l)
		sameLocalMatrix(t, impl.LocalMass(l), nil, "LocalMass", l)
	}
}

// TestP15ElementsWithOtherVectors uses vectors of other lengths and with elements that are
// not valid.
func TestP15ElementsWithOtherVectors(t *testing.T) {
	p := smallPoint(1, 1, 3)
	for _, l := range smallLists()[:4] {
		for _, n := range []int{0, 1, 2, 4, 5, 6, 9, 1000} {
			checkNoElement(t, l, slices.Repeat(vectorOf("0"), n), p)
			checkNoElement(t, l, slices.Repeat(vectorOf("7/2"), n), p)
		}
		for _, bad := range notRats() {
			for i := range 3 {
				checkNoElement(t, l, withElement(vectorOf("0 0 0"), i, bad), p)
				checkNoElement(t, l, withElement(vectorOf("1 1 1"), i, bad), p)
			}
			checkNoElement(t, l, append(vectorOf("1 1 1"), bad), p)
			checkNoElement(t, l, []impl.Rat{bad}, p)
		}
		checkNoElement(t, l, make([]impl.Rat, 3), p)
	}
}

func TestP15ValueInAtOtherPoints(t *testing.T) {
	for _, l := range smallLists()[:4] {
		for _, bad := range notPoints() {
			for _, u := range []string{"0 0 0", "1 2 3", "1 1 1"} {
				sameRatOfList(t, impl.ValueIn(l, vectorOf(u), bad), impl.Rat{}, "ValueIn", l)
			}
		}
		checkNoElement(t, l, vectorOf("1 2"), impl.Point{})
	}
	// The coordinates of a valid point may be too large, even where the values are 0.
	unit, far := cornersAt(1, 0, 0, 1, 0, 0, 1), longRats()[0]
	for _, p := range []impl.Point{{X: far, Y: far}, {X: impl.RatNeg(far), Y: smallRat(0, 1)}, {X: smallRat(-1, 1), Y: impl.RatNeg(far)}} {
		sameRatOfList(t, impl.ValueIn(unit, vectorOf("0 0 0"), p), impl.Rat{}, "ValueIn", unit)
	}
	sameRatOfList(t, impl.ValueIn(unit, vectorOf("0 0 0"), impl.Point{X: far, Y: smallRat(0, 1)}), smallRat(0, 1), "ValueIn", unit)
}

// elementLimbs returns the lists of limbs of everything that the functions compute, and
// overwrites the lists that contain them.
func elementLimbs(l []impl.Point, u []impl.Rat, v []impl.Rat, p impl.Point) [][]int {
	limbs := limbsOf(impl.LocalGradient(l, u))
	rows := [][]impl.Rat{{impl.IntegralOf(l, u), impl.ProductIntegral(l, u, v), impl.ValueIn(l, u, p)}}
	for _, matrix := range [][][]impl.Rat{impl.LocalStiffness(l), impl.LocalMass(l)} {
		rows = append(rows, matrix...)
		clear(matrix[:cap(matrix)])
	}
	for _, row := range rows {
		for _, r := range row {
			limbs = append(limbs, r.Num.Mag, r.Den)
		}
		clear(row[:cap(row)])
	}
	return limbs
}

func TestP15ElementArgumentsAreKept(t *testing.T) {
	s := source(109)
	for _, a := range fewLists() {
		for _, p := range append(fewPoints(), notPoints()[:12]...) {
			for _, x := range [][]impl.Rat{s.vector(3, 2), s.vector(2, 1), notRats()[5:8], vectorOf("0 0 1"), limitRats()[:3]} {
				l, u, v, q := listWithSpare(a), vectorWithSpare(x), vectorWithSpare(vectorOf("1 0 -2")), pointWithSpare(p)
				elementLimbs(l, u, v, q)
				elementLimbs(l, v, u, q)
				if !keepsList(l, a) || !keepsVector(u, x) || !keepsVector(v, vectorOf("1 0 -2")) || !keepsPoint(q, p) {
					t.Fatalf("the arguments %v, %v and %v were changed to %v, %v and %v", a, x, p, l, u, q)
				}
			}
		}
	}
}

// TestP15ElementResultsAreNew overwrites one list of limbs after the other and looks for
// the change in the lists after it and in the arguments.
func TestP15ElementResultsAreNew(t *testing.T) {
	s := source(110)
	for _, a := range fewLists() {
		for _, x := range [][]impl.Rat{s.vector(3, 2), vectorOf("1 0 0"), vectorOf("0 0 5"), vectorOf("0 0 0")} {
			for _, p := range []impl.Point{a[0], a[1], smallPoint(1, 1, 2)} {
				y := vectorOf("1 0 0")
				l, u, v, q := listWithSpare(a), vectorWithSpare(x), vectorWithSpare(y), pointWithSpare(p)
				wants := elementLimbs(a, x, y, p)
				for i, limbs := range elementLimbs(l, u, v, q) {
					sameNat(t, limbs, wants[i], "a list of limbs after changes of others")
					overwrite(limbs)
				}
				if !keepsList(l, a) || !keepsVector(u, x) || !keepsVector(v, y) || !keepsPoint(q, p) {
					t.Fatalf("changes of the results for %v, %v and %v reach the arguments", a, x, p)
				}
				for i, limbs := range elementLimbs(l, u, v, q) {
					sameNat(t, limbs, wants[i], "a list of limbs after changes of all results")
				}
			}
		}
	}
}
