package tests

import (
	"math"
	"math/big"
	"slices"
	"strings"
	"testing"

	"loop.example/g00812/impl"
)

// transfer is a mesh with a refinement of it and the edges that are bisected.
type transfer struct {
	coarse impl.Mesh
	fine   impl.Mesh
	edges  []int
}

// transferOf returns the refinement of a mesh for these marks, if it is not too large.
func transferOf(m impl.Mesh, marks []int) (transfer, bool) {
	fine, ok := wantedBisection(m, marks)
	return transfer{m, fine, wantedClosure(m, marks)}, ok
}

// transfers returns refinements of all kinds, of no edge up to all edges.
func transfers() []transfer {
	s := source(81)
	var list []transfer
	for _, m := range append(refinableMeshes(), matchingMeshes()...) {
		n := len(wantedEdges(m))
		for _, marks := range [][]int{nil, {s.upTo(n)}, s.indices(n, 3), s.indices(n, n), s.order(n)} {
			if c, ok := transferOf(m, marks); ok {
				list = append(list, c)
			}
		}
	}
	return list
}

// fewTransfers returns refinements of few points, few enough for a look at all unit
// vectors.
func fewTransfers() []transfer {
	s := source(82)
	var list []transfer
	for _, m := range []impl.Mesh{simpleMeshes()[0], squareWithCenter(), s.mixed(gridMesh(2, 1)), turned(gridMesh(1, 1)), impl.CornerMesh(), spiralMesh()} {
		n := len(wantedEdges(m))
		for _, marks := range [][]int{nil, {s.upTo(n)}, s.indices(n, 4), s.order(n)} {
			if c, ok := transferOf(lowered(m), marks); ok {
				list = append(list, c)
			}
		}
	}
	return list
}

// middleOf returns the midpoint of an edge, computed without the program.
func middleOf(m impl.Mesh, e impl.Edge) impl.Point {
	return wantedMiddle(m.Points[e.A], m.Points[e.B])
}

func hasPoint(m impl.Mesh, p impl.Point) bool {
	return slices.ContainsFunc(m.Points, func(q impl.Point) bool { return equalPoints(p, q) })
}

// wantedRefinedEdges is RefinedEdges, computed without the program but for IsMesh.
func wantedRefinedEdges(coarse impl.Mesh, fine impl.Mesh) ([]int, bool) {
	if !impl.IsMesh(coarse) || !impl.IsMesh(fine) {
		return nil, false
	}
	var marks []int
	for i, e := range wantedEdges(coarse) {
		if hasPoint(fine, middleOf(coarse, e)) {
			marks = append(marks, i)
		}
	}
	next, ok := wantedBisection(coarse, marks)
	if !ok || !equalMeshes(next, fine) {
		return nil, false
	}
	return marks, true
}

// wantedParentLists is ParentsOf for a refinement, computed without the program. It looks
// for each point among the midpoints.
func wantedParentLists(c transfer) [][]int {
	var list [][]int
	edges := wantedEdges(c.coarse)
	for i, p := range c.fine.Points {
		parents := []int{i}
		for _, k := range c.edges {
			if equalPoints(p, middleOf(c.coarse, edges[k])) {
				parents = []int{edges[k].A, edges[k].B}
			}
		}
		list = append(list, parents)
	}
	return list
}

// wantedProlonged is Prolong for a refinement and a vector, computed without the program.
func wantedProlonged(c transfer, u []impl.Rat) []impl.Rat {
	var values []impl.Rat
	for _, parents := range wantedParentLists(c) {
		sum := new(big.Rat)
		for _, p := range parents {
			sum = bigSum(sum, bigOfRat(u[p]))
		}
		average := bigProduct(sum, big.NewRat(1, int64(len(parents))))
		if average == nil {
			return nil
		}
		values = append(values, ratOfBig(average))
	}
	return values
}

// wantedGathered is Gather for a refinement and a vector, computed without the program.
func wantedGathered(c transfer, u []impl.Rat) []impl.Rat {
	var sums []impl.Rat
	lists := wantedParentLists(c)
	for p := range c.coarse.Points {
		sum := new(big.Rat)
		for i, parents := range lists {
			if slices.Contains(parents, p) {
				sum = bigSum(sum, bigProduct(bigOfRat(u[i]), big.NewRat(1, int64(len(parents)))))
			}
		}
		if sum == nil {
			return nil
		}
		sums = append(sums, ratOfBig(sum))
	}
	return sums
}

// wantedInner is InnerVector for vectors of the same length, computed without the program.
func wantedInner(u []impl.Rat, v []impl.Rat) impl.Rat {
	sum := new(big.Rat)
	for i := range u {
		sum = bigSum(sum, bigProduct(bigOfRat(u[i]), bigOfRat(v[i])))
	}
	return ratOrZero(sum)
}

// vector returns n fractions of at most the given number of limbs.
func (s *source) vector(n int, limbs int) []impl.Rat {
	u := make([]impl.Rat, n)
	for i := range u {
		u[i] = s.rat(limbs)
	}
	return u
}

// vectorOf returns the fractions of a text, which has spaces between them.
func vectorOf(text string) []impl.Rat {
	var u []impl.Rat
	for _, word := range strings.Fields(text) {
		n, ok := new(big.Rat).SetString(word)
		if !ok {
			panic(word)
		}
		u = append(u, ratOfBig(n))
	}
	return u
}

// unitVector returns n fractions of which one is 1 and the others are 0.
func unitVector(n int, i int) []impl.Rat {
	u := slices.Repeat([]impl.Rat{smallRat(0, 1)}, n)
	u[i] = smallRat(1, 1)
	return u
}

// withElement returns the vector with another element.
func withElement(u []impl.Rat, i int, r impl.Rat) []impl.Rat {
	next := slices.Clone(u)
	next[i] = r
	return next
}

func sameVector(t *testing.T, got []impl.Rat, want []impl.Rat, name string, u []impl.Rat) {
	t.Helper()
	if !slices.EqualFunc(got, want, equalRats) {
		t.Errorf("%s of %v = %v, want %v", name, u, got, want)
	}
}

// checkTransfer compares RefinedEdges and ParentsOf with what is wanted, and returns
// whether there is a refinement.
func checkTransfer(t *testing.T, coarse impl.Mesh, fine impl.Mesh) bool {
	t.Helper()
	want, wantOk := wantedRefinedEdges(coarse, fine)
	var wantParents [][]int
	if wantOk {
		wantParents = wantedParentLists(transfer{coarse, fine, want})
	}
	if got, ok := impl.RefinedEdges(coarse, fine); ok != wantOk || !slices.Equal(got, want) {
		t.Errorf("RefinedEdges(%v, %v) = %v, %t, want %v, %t", coarse, fine, got, ok, want, wantOk)
	}
	if got := impl.ParentsOf(coarse, fine); !slices.EqualFunc(got, wantParents, slices.Equal) {
		t.Errorf("ParentsOf(%v, %v) = %v, want %v", coarse, fine, got, wantParents)
	}
	return wantOk
}

// checkNoTransfer checks that no function finds a refinement.
func checkNoTransfer(t *testing.T, coarse impl.Mesh, fine impl.Mesh) {
	t.Helper()
	edges, ok := impl.RefinedEdges(coarse, fine)
	parents := impl.ParentsOf(coarse, fine)
	if ok || len(edges) != 0 || len(parents) != 0 {
		t.Errorf("RefinedEdges(%v, %v) = %v, %t, and ParentsOf is %v", coarse, fine, edges, ok, parents)
	}
	for _, n := range []int{len(coarse.Points), len(fine.Points)} {
		u := slices.Repeat([]impl.Rat{smallRat(1, 1)}, min(n, 50))
		sameVector(t, impl.Prolong(coarse, fine, u), nil, "Prolong without a refinement", u)
		sameVector(t, impl.Gather(coarse, fine, u), nil, "Gather without a refinement", u)
	}
}

// linearFunction returns the values at the points of a mesh of a linear function,
// computed without the program.
func linearFunction(m impl.Mesh, gradient impl.Point, start impl.Rat) []impl.Rat {
	var values []impl.Rat
	for _, p := range m.Points {
		x := bigProduct(bigOfRat(gradient.X), bigOfRat(p.X))
		y := bigProduct(bigOfRat(gradient.Y), bigOfRat(p.Y))
		values = append(values, ratOrZero(bigSum(bigSum(x, y), bigOfRat(start))))
	}
	return values
}

// prolongedAlong prolongs a vector from each mesh to the next one.
func prolongedAlong(meshes []impl.Mesh, u []impl.Rat) []impl.Rat {
	for i := range len(meshes) - 1 {
		u = impl.Prolong(meshes[i], meshes[i+1], u)
	}
	return u
}

func TestP5ProlongationIsExactForLinearFunctions(t *testing.T) {
	s := source(83)
	for _, c := range transfers() {
		gradient, start := s.point(2), s.rat(2)
		u := linearFunction(c.coarse, gradient, start)
		sameVector(t, impl.Prolong(c.coarse, c.fine, u), linearFunction(c.fine, gradient, start), "Prolong of a linear function", u)
	}
	for _, m := range append(matchingMeshes(), turned(spiralMesh()), s.mixed(gridMesh(2, 2))) {
		gradient, start, grown := s.point(1), s.rat(1), s.grown(lowered(m), 7)
		last := grown[len(grown)-1]
		u := linearFunction(m, gradient, start)
		sameVector(t, prolongedAlong(grown, u), linearFunction(last, gradient, start), "Prolong, several times, of a linear function", u)
		if len(grown) < 4 {
			t.Errorf("%v was refined %d times only", m, len(grown)-1)
		}
	}
}

// wantedValue returns the value at a point of the function that is linear in each
// triangle.
func wantedValue(m impl.Mesh, u []impl.Rat, p impl.Point) impl.Rat {
	triangle := m.Triangles[wantedTriangle(m, p)]
	shares := wantedCoordinates(cornersOf(m, triangle), p)
	sum := new(big.Rat)
	for i, corner := range []int{triangle.A, triangle.B, triangle.C} {
		sum = bigSum(sum, bigProduct(bigOfRat(shares[i]), bigOfRat(u[corner])))
	}
	return ratOrZero(sum)
}

func TestP5ProlongationKeepsTheFunction(t *testing.T) {
	s := source(84)
	for i, c := range transfers() {
		if i%3 != 0 {
			continue
		}
		u := s.vector(len(c.coarse.Points), 1)
		values := impl.Prolong(c.coarse, c.fine, u)
		if len(values) != len(c.fine.Points) {
			t.Errorf("Prolong(%v, %v, %v) = %v", c.coarse, c.fine, u, values)
			continue
		}
		for k, p := range c.fine.Points {
			sameRatOfMesh(t, values[k], wantedValue(c.coarse, u, p), "the value of a prolonged function", c.fine)
		}
		// The function is linear in each part, too.
		for k := range c.fine.Triangles {
			center := impl.Centroid(impl.Corners(c.fine, k))
			sameRatOfMesh(t, wantedValue(c.fine, values, center), wantedValue(c.coarse, u, center), "the value at a center", c.fine)
		}
	}
}

// energyIn returns, for each region, the integral of the inner product of the gradients
// of two functions.
func energyIn(m impl.Mesh, u []impl.Rat, v []impl.Rat) [3]string {
	sums := [3]*big.Rat{new(big.Rat), new(big.Rat), new(big.Rat)}
	for _, triangle := range m.Triangles {
		l := cornersOf(m, triangle)
		area, gradients := bigOfRat(impl.AreaOf(l)), wantedGradients(l)
		corners := []int{triangle.A, triangle.B, triangle.C}
		for i := range corners {
			for j := range corners {
				product := bigOfRat(impl.Inner(gradients[i], gradients[j]))
				product.Mul(product, bigOfRat(u[corners[i]]))
				product.Mul(product, bigOfRat(v[corners[j]]))
				sums[triangle.Region].Add(sums[triangle.Region], product.Mul(product, area))
			}
		}
	}
	return [3]string{sums[0].String(), sums[1].String(), sums[2].String()}
}

func TestP5ProlongationPreservesEnergies(t *testing.T) {
	s := source(85)
	compared := 0
	for i, c := range transfers() {
		if i%2 == 0 {
			continue
		}
		n := len(c.coarse.Points)
		u, v := s.vector(n, 1), s.vector(n, 1)
		x, y := impl.Prolong(c.coarse, c.fine, u), impl.Prolong(c.coarse, c.fine, v)
		if got, want := energyIn(c.fine, x, y), energyIn(c.coarse, u, v); got != want {
			t.Errorf("the energies on %v and %v are %v and %v", c.fine, c.coarse, got, want)
		}
		compared++
	}
	for _, m := range []impl.Mesh{impl.SquareMesh(1), impl.CornerMesh(), turned(gridMesh(2, 1))} {
		grown := s.grown(m, 5)
		u := s.vector(len(m.Points), 1)
		last, x := grown[len(grown)-1], prolongedAlong(grown, u)
		if got, want := energyIn(last, x, x), energyIn(m, u, u); got != want {
			t.Errorf("the energies on %v and %v are %v and %v", last, m, got, want)
		}
	}
	if compared < 80 {
		t.Errorf("%d energies were compared only", compared)
	}
}

// checkTransposed checks that products with a prolonged and with a gathered vector are
// equal.
func checkTransposed(t *testing.T, c transfer, u []impl.Rat, v []impl.Rat) {
	t.Helper()
	long, short := impl.Prolong(c.coarse, c.fine, u), impl.Gather(c.coarse, c.fine, v)
	product := impl.InnerVector(long, v)
	if len(long) != len(v) || len(short) != len(u) || !impl.RatOk(product) || !equalRats(product, impl.InnerVector(u, short)) {
		t.Errorf("for %v and %v, Prolong of %v is %v, and Gather of %v is %v", c.coarse, c.fine, u, long, v, short)
	}
}

func TestP5ProlongationIsTheTransposeOfGathering(t *testing.T) {
	s := source(86)
	for _, c := range transfers() {
		checkTransposed(t, c, s.integers(len(c.coarse.Points)), s.integers(len(c.fine.Points)))
	}
	for _, c := range fewTransfers() {
		n, more := len(c.coarse.Points), len(c.fine.Points)
		for p := range n {
			checkTransposed(t, c, unitVector(n, p), s.vector(more, 1))
			column := impl.Prolong(c.coarse, c.fine, unitVector(n, p))
			for i := range more {
				row := impl.Gather(c.coarse, c.fine, unitVector(more, i))
				sameRatOfMesh(t, row[p], column[i], "an element of Gather", c.fine)
			}
		}
	}
}

// integers returns n small numbers, so that sums of many of them are not too large.
func (s *source) integers(n int) []impl.Rat {
	u := make([]impl.Rat, n)
	for i := range u {
		u[i] = smallRat(int64(s.upTo(2001)-1000), int64(1+s.upTo(3)))
	}
	return u
}

// TestP5GatheringKeepsTotals uses that the shares of the parents of a point add up to 1.
func TestP5GatheringKeepsTotals(t *testing.T) {
	s := source(87)
	one := smallRat(1, 1)
	for _, c := range transfers() {
		n, more := len(c.coarse.Points), len(c.fine.Points)
		ones, u := slices.Repeat([]impl.Rat{one}, more), s.integers(more)
		sameVector(t, impl.Prolong(c.coarse, c.fine, ones[:n]), ones, "Prolong", ones[:n])
		total := impl.InnerVector(impl.Gather(c.coarse, c.fine, u), ones[:n])
		sameRatOfMesh(t, total, wantedInner(u, ones), "the sum of the elements of Gather", c.fine)
	}
}

func TestP15RefinedEdgesAndParentsOf(t *testing.T) {
	list := transfers()
	for _, c := range list {
		if !checkTransfer(t, c.coarse, c.fine) {
			t.Errorf("%v is not a refinement of %v", c.fine, c.coarse)
		}
		edges, ok := impl.RefinedEdges(c.coarse, c.fine)
		if !ok || !slices.Equal(edges, c.edges) {
			t.Errorf("RefinedEdges(%v, %v) = %v, %t, want %v", c.coarse, c.fine, edges, ok, c.edges)
		}
		if len(c.edges) > 0 {
			checkNoTransfer(t, c.fine, c.coarse)
		}
	}
	if len(list) < 150 {
		t.Errorf("there are %d refinements only", len(list))
	}
}

// TestP15AMeshIsARefinementOfItself also has meshes that have no room for others.
func TestP15AMeshIsARefinementOfItself(t *testing.T) {
	for _, m := range slices.Concat(simpleMeshes(), brokenUpMeshes(), sampleMeshes(), coarsenableMeshes()[:20], []impl.Mesh{impl.SquareMesh(3), fullMesh(), withLevel(squareWithCenter(), 60)}) {
		edges, ok := impl.RefinedEdges(m, m)
		if !ok || len(edges) != 0 {
			t.Errorf("RefinedEdges(%v, itself) = %v, %t", m, edges, ok)
		}
		parents := impl.ParentsOf(m, m)
		u := make([]impl.Rat, len(m.Points))
		for i := range m.Points {
			u[i] = smallRat(int64(i), 7)
			if len(parents) != len(u) || !slices.Equal(parents[i], []int{i}) {
				t.Errorf("ParentsOf(%v, itself) = %v", m, parents)
				break
			}
		}
		sameVector(t, impl.Prolong(m, m, u), u, "Prolong to the same mesh", u)
		sameVector(t, impl.Gather(m, m, u), u, "Gather from the same mesh", u)
	}
}

// TestP15RefinedEdgesOfAllPairs looks at all refinements of a square, and at which of
// them is a refinement of which other one.
func TestP15RefinedEdgesOfAllPairs(t *testing.T) {
	s := source(88)
	for _, m := range []impl.Mesh{gridMesh(1, 1), squareWithCenter(), s.mixed(gridMesh(1, 1))} {
		m = lowered(m)
		n := len(wantedEdges(m))
		var list []impl.Mesh
		for set := range 1 << n {
			var marks []int
			for i := range n {
				if set>>i&1 == 1 {
					marks = append(marks, i)
				}
			}
			fine, _ := wantedBisection(m, marks)
			if !slices.ContainsFunc(list, func(other impl.Mesh) bool { return equalMeshes(other, fine) }) {
				list = append(list, fine)
			}
		}
		found := 0
		for _, coarse := range list {
			for _, fine := range list {
				if checkTransfer(t, coarse, fine) {
					found++
				}
			}
		}
		if len(list) < 10 || found < 2*len(list)-1 {
			t.Errorf("there are %d meshes and %d refinements only", len(list), found)
		}
	}
}

// TestP15RefinedEdgesAfterTwoSteps has pairs of steps that can, and that cannot, be one.
func TestP15RefinedEdgesAfterTwoSteps(t *testing.T) {
	s := source(89)
	same, other := 0, 0
	for _, m := range append(matchingMeshes(), refinableMeshes()[:20]...) {
		for range 4 {
			first, ok := impl.RefineMesh(m, []int{s.upTo(len(m.Triangles))})
			second, more := impl.RefineMesh(first, []int{s.upTo(len(first.Triangles))})
			if !ok || !more {
				continue
			}
			if checkTransfer(t, m, second) {
				same++
			} else {
				other++
			}
			checkTransfer(t, first, second)
		}
	}
	if same < 10 || other < 10 {
		t.Errorf("%d pairs of steps are one step, and %d are not", same, other)
	}
	square := squareWithCenter()
	low, _ := impl.BisectEdges(square, []int{0})
	both, _ := impl.BisectEdges(low, []int{edgeWith(wantedEdges(low), 1, 2)})
	if edges, ok := impl.RefinedEdges(square, both); !ok || !slices.Equal(edges, []int{0, 3}) {
		t.Errorf("RefinedEdges(%v, %v) = %v, %t", square, both, edges, ok)
	}
	// The points are in another order, or there is one inside of a new edge.
	right, _ := impl.BisectEdges(square, []int{3})
	both, _ = impl.BisectEdges(right, []int{edgeWith(wantedEdges(right), 0, 1)})
	checkNoTransfer(t, square, both)
	deep, ok := impl.BisectEdges(low, []int{edgeWith(wantedEdges(low), 4, 5)})
	checkNoTransfer(t, square, deep)
	if !ok || len(deep.Points) <= len(low.Points)+1 || !checkTransfer(t, low, deep) {
		t.Errorf("%v is not a refinement of %v", deep, low)
	}
}

// changedMeshes returns meshes that are like m but for one point or triangle, or for an
// order.
func (s *source) changedMeshes(m impl.Mesh) []impl.Mesh {
	reversed := impl.Mesh{Points: m.Points, Triangles: slices.Clone(m.Triangles)}
	slices.Reverse(reversed.Triangles)
	i, k := s.upTo(len(m.Points)), s.upTo(len(m.Triangles))
	near := impl.AddPoints(m.Points[i], smallPoint(1, 1, 1000000000))
	u := m.Triangles[k]
	level, region := u, u
	level.Level, region.Region = (u.Level+1)%61, (u.Region+1)%3
	list := []impl.Mesh{reversed, s.renumbered(m), withPoint(m, i, near), withTriangle(m, k, level), withTriangle(m, k, region), turned(m), s.spoiled(m)}
	list = append(list, withTriangle(m, k, impl.Tri{A: u.B, B: u.C, C: u.A, Region: u.Region, Level: u.Level}), usedPart(m, m.Triangles[1:]))
	return append(list, further(m, []impl.Point{smallPoint(-99, -99, 1), smallPoint(-98, -99, 1), smallPoint(-98, -98, 1)}, impl.Tri{A: len(m.Points), B: len(m.Points) + 1, C: len(m.Points) + 2}))
}

func TestP15RefinedEdgesOfChangedMeshes(t *testing.T) {
	s := source(90)
	rejected := 0
	for i, c := range transfers() {
		if i%4 != 1 || len(c.fine.Triangles) < 2 {
			continue
		}
		for _, fine := range s.changedMeshes(c.fine) {
			if !checkTransfer(t, c.coarse, fine) {
				rejected++
			}
		}
		if len(c.coarse.Triangles) < 2 {
			continue
		}
		for _, coarse := range s.changedMeshes(c.coarse) {
			if !checkTransfer(t, coarse, c.fine) {
				rejected++
			}
		}
	}
	if rejected < 500 {
		t.Errorf("%d pairs were rejected only", rejected)
	}
}

func TestP15TransferOfASquare(t *testing.T) {
	square := squareWithCenter()
	u, whole := "1 -2 5/3 0 7/2", "1 2 4 8 16 "
	tests := []struct {
		marks    []int
		edges    []int
		parents  string
		prolong  string
		more     string
		gathered string
	}{
		{nil, nil, "", "", "", "1 2 4 8 16"},
		{[]int{0}, []int{0}, "01", "-1/2", "3", "5/2 7/2 4 8 16"},
		{[]int{3, 0}, []int{0, 3}, "01 12", "-1/2 -1/6", "3 -7", "5/2 0 1/2 8 16"},
		{[]int{2}, []int{0, 1, 2}, "01 03 04", "-1/2 1/2 9/4", "3 -7 1/3", "-5/6 7/2 4 9/2 97/6"},
		{[]int{7}, []int{1, 5, 7}, "03 23 34", "1/2 5/6 7/4", "2 6 10", "2 2 7 17 21"},
		{[]int{0, 1, 2, 3, 4, 5, 6, 7}, []int{0, 1, 2, 3, 4, 5, 6, 7}, "01 03 04 12 14 23 24 34", "-1/2 1/2 9/4 -1/6 3/4 5/6 31/12 7/4", "1 1 1 1 1 1 1 1", "5/2 7/2 11/2 19/2 18"},
	}
	for _, c := range tests {
		fine, _ := wantedBisection(square, c.marks)
		edges, ok := impl.RefinedEdges(square, fine)
		if !ok || !slices.Equal(edges, c.edges) {
			t.Errorf("RefinedEdges(%v, %v) = %v, %t, want %v", square, fine, edges, ok, c.edges)
		}
		parents := [][]int{{0}, {1}, {2}, {3}, {4}}
		for _, word := range strings.Fields(c.parents) {
			parents = append(parents, []int{int(word[0] - '0'), int(word[1] - '0')})
		}
		if got := impl.ParentsOf(square, fine); !slices.EqualFunc(got, parents, slices.Equal) {
			t.Errorf("ParentsOf(%v, %v) = %v, want %v", square, fine, got, parents)
		}
		sameVector(t, impl.Prolong(square, fine, vectorOf(u)), vectorOf(u+" "+c.prolong), "Prolong", vectorOf(u))
		sameVector(t, impl.Gather(square, fine, vectorOf(whole+c.more)), vectorOf(c.gathered), "Gather", vectorOf(whole+c.more))
	}
}

func TestP15ProlongAndGather(t *testing.T) {
	s := source(91)
	for _, c := range transfers() {
		n, more := len(c.coarse.Points), len(c.fine.Points)
		for _, limbs := range []int{1, 4} {
			u, v := s.vector(n, limbs), s.vector(more, 1)
			sameVector(t, impl.Prolong(c.coarse, c.fine, u), wantedProlonged(c, u), "Prolong", u)
			sameVector(t, impl.Gather(c.coarse, c.fine, v), wantedGathered(c, v), "Gather", v)
		}
	}
}

// limitRats returns fractions that are at the limit, or near it, and small ones.
func limitRats() []impl.Rat {
	far, one := longRats()[0], smallRat(1, 1)
	most := impl.RatMul(impl.RatSub(far, one), smallRat(1, 2))
	return append(longRats(), smallRat(0, 1), one, smallRat(-1, 1), smallRat(-2, 1), smallRat(1, 2), impl.RatSub(far, one), most, impl.RatAdd(most, one), impl.RatNeg(most))
}

// TestP15TransferOfMoreThanMaxRatLimbs uses vectors of which a sum, a half or nothing is
// too large.
func TestP15TransferOfMoreThanMaxRatLimbs(t *testing.T) {
	s := source(92)
	var prolonged, gathered [2]int
	count := func(counts *[2]int, u []impl.Rat) {
		if u == nil {
			counts[0]++
		} else {
			counts[1]++
		}
	}
	pick := func(n int) []impl.Rat {
		u, rats := slices.Repeat([]impl.Rat{smallRat(1, 1)}, n), limitRats()
		for range 1 + s.upTo(3) {
			u[s.upTo(n)] = rats[s.upTo(len(rats))]
		}
		return u
	}
	for _, c := range fewTransfers() {
		for range 12 {
			u, v := pick(len(c.coarse.Points)), pick(len(c.fine.Points))
			x, y := wantedProlonged(c, u), wantedGathered(c, v)
			sameVector(t, impl.Prolong(c.coarse, c.fine, u), x, "Prolong", u)
			sameVector(t, impl.Gather(c.coarse, c.fine, v), y, "Gather", v)
			count(&prolonged, x)
			count(&gathered, y)
		}
	}
	if slices.Min(append(prolonged[:], gathered[:]...)) < 40 {
		t.Errorf("the numbers of vectors that are too large, and of others, are %v and %v", prolonged, gathered)
	}
}

// TestP15PartialSumsOfTransfers has partial sums that are too large, in a triangle with
// the points 3, 4 and 5 between 0 and 1, 0 and 2, and 1 and 2.
func TestP15PartialSumsOfTransfers(t *testing.T) {
	m := simpleMeshes()[0]
	fine, _ := impl.RefineAll(m)
	base, _ := impl.RefineMesh(m, []int{0})
	far := bigOfRat(longRats()[0]).RatString()
	before := bigOfRat(impl.RatSub(longRats()[0], smallRat(1, 1))).RatString()
	tiny := bigOfRat(longRats()[2]).RatString()
	prolongs := []struct {
		fine impl.Mesh
		u    string
		want string
	}{
		{m, far + " " + far + " " + far, far + " " + far + " " + far},
		{base, far + " 1 -1", far + " 1 -1 0"},
		{base, "1 " + far + " 0", "1 " + far + " 0 " + far + "/2"},
		{base, "1 " + far + " " + far, ""},
		{base, "1 " + far + " 1", ""},
		{base, "1 " + before + " 1", "1 " + before + " 1 " + far + "/2"},
		{base, "0 -" + far + " -1", ""},
		{base, "0 " + far + " -1", "0 " + far + " -1 " + before + "/2"},
		{base, "0 " + tiny + " 0", ""},
		{base, tiny + " 0 0", tiny + " 0 0 0"},
		{base, "0 " + tiny + " " + tiny, "0 " + tiny + " " + tiny + " " + tiny},
		{fine, far + " 1 -1", ""}, {fine, "1 " + far + " -1", ""}, {fine, "-1 1 " + far, ""},
	}
	for _, c := range prolongs {
		u := vectorOf(c.u)
		sameVector(t, impl.Prolong(m, c.fine, u), vectorOf(c.want), "Prolong", u)
	}
	gathers := []struct {
		fine impl.Mesh
		u    string
		want string
	}{
		{m, far + " -" + far + " 1", far + " -" + far + " 1"},
		{fine, far + " 0 0 -2 2 0", far + " -1 1"},
		{fine, far + " 0 0 2 -2 0", ""},
		{fine, "-" + far + " 0 0 2 -2 0", "-" + far + " 1 -1"},
		{fine, "-" + far + " 0 0 -2 2 0", ""},
		{fine, before + " 0 0 2 -2 0", before + " 1 -1"},
		{fine, "0 " + far + " 0 2 0 -2", ""},
		{fine, "0 " + far + " 0 -2 0 2", "-1 " + far + " 1"},
		{fine, "0 0 " + far + " 0 2 -2", ""},
		{fine, "0 0 " + far + " 0 -2 2", "-1 1 " + far},
		{fine, "0 0 0 " + tiny + " " + tiny + " 0", ""},
		{base, tiny + " 0 0 0", tiny + " 0 0"},
		{base, "0 0 0 " + tiny, ""},
		{base, "0 1 0 " + far, ""},
		{base, far + " 0 0 2", far + " 1 1"},
	}
	for _, c := range gathers {
		u := vectorOf(c.u)
		sameVector(t, impl.Gather(m, c.fine, u), vectorOf(c.want), "Gather", u)
	}
}

// TestP15TransferWithMiddlesOfMoreThanMaxRatLimbs has edges with midpoints that are too
// large, which therefore are no points of a mesh.
func TestP15TransferWithMiddlesOfMoreThanMaxRatLimbs(t *testing.T) {
	far, zero := longRats()[0], smallRat(0, 1)
	points := []impl.Point{{X: impl.RatSub(far, smallRat(1, 1)), Y: zero}, {X: far, Y: zero}, {X: far, Y: smallRat(1, 1)}}
	for _, u := range []impl.Tri{{A: 2, B: 0, C: 1}, {A: 1, B: 2, C: 0}, {A: 0, B: 1, C: 2}} {
		m := impl.Mesh{Points: points, Triangles: []impl.Tri{u}}
		if !checkTransfer(t, m, m) {
			t.Errorf("%v is not a refinement of itself", m)
		}
		apart := withApart(m)
		halved, ok := impl.RemovePoint(apart, len(apart.Points)-1)
		edges, isRefined := impl.RefinedEdges(halved, apart)
		if !ok || !isRefined || len(edges) != 1 || !checkTransfer(t, halved, apart) {
			t.Errorf("RefinedEdges(%v, %v) = %v, %t", halved, apart, edges, isRefined)
		}
		checkTransfer(t, m, apart)
		checkTransfer(t, apart, halved)
		// Its middle would be a point of this mesh if it were not too large.
		e := wantedEdges(m)[edgeWith(wantedEdges(m), u.B, u.C)]
		between := ratOfBig(new(big.Rat).Mul(big.NewRat(1, 2), new(big.Rat).Add(bigOfRat(m.Points[e.A].X), bigOfRat(m.Points[e.B].X))))
		y := impl.RatMul(impl.RatAdd(m.Points[e.A].Y, m.Points[e.B].Y), smallRat(1, 2))
		p := impl.Point{X: between, Y: y}
		fine := impl.Mesh{Points: append(slices.Clone(points), p), Triangles: []impl.Tri{{A: 3, B: u.A, C: u.B, Level: 1}, {A: 3, B: u.C, C: u.A, Level: 1}}}
		if impl.IsMesh(fine) != impl.IsValidPoint(p) {
			t.Errorf("IsMesh(%v) = %t", fine, impl.IsMesh(fine))
		}
		checkNoTransfer(t, m, fine)
	}
}

// TestP15TransferWithTrianglesThatAreThereTwice uses meshes in which areas that are too
// large hide that triangles overlap.
func TestP15TransferWithTrianglesThatAreThereTwice(t *testing.T) {
	m := withPoint(squareWithCenter(), 4, longCenter())
	far := []impl.Point{smallPoint(5, 0, 1), smallPoint(7, 0, 1), smallPoint(5, 2, 1)}
	refined := 0
	for _, u := range spiralMesh().Triangles {
		for _, twice := range []impl.Mesh{withTriangle(withPoint(spiralMesh(), 4, longCenter()), 0, u), further(m, nil, m.Triangles[0]), further(m, nil, m.Triangles...)} {
			apart := further(twice, far, impl.Tri{A: 5, B: 6, C: 7})
			if !impl.IsMesh(apart) {
				continue
			}
			for i := range wantedEdges(apart) {
				fine, _ := wantedBisection(apart, []int{i})
				if checkTransfer(t, apart, fine) && len(fine.Points) > len(apart.Points) {
					refined++
				}
			}
		}
	}
	if refined < 6 {
		t.Errorf("there are %d refinements only", refined)
	}
}

func TestP15TransferOfOtherValues(t *testing.T) {
	m := squareWithCenter()
	fine, _ := impl.RefineMesh(m, []int{0})
	for _, bad := range notMeshes() {
		checkNoTransfer(t, bad, bad)
		checkNoTransfer(t, m, bad)
		checkNoTransfer(t, bad, fine)
	}
	// A refinement that is too large, or of triangles with the greatest level.
	for _, coarse := range []impl.Mesh{impl.SquareMesh(2), gridMesh(4, 2), gridMesh(19, 1), withLevel(m, 60)} {
		large := bisection(coarse, upToLength(len(wantedEdges(coarse))))
		checkNoTransfer(t, coarse, large)
	}
	for _, next := range append(meshesWithBadPoints(fine), meshesWithBadTriangles(fine)...) {
		checkNoTransfer(t, m, next)
		checkNoTransfer(t, next, next)
	}
}

// TestP15TransferOfOtherVectors uses vectors of other lengths and with elements that are
// not valid.
func TestP15TransferOfOtherVectors(t *testing.T) {
	m := squareWithCenter()
	for _, marks := range [][]int{nil, {0}, {2, 5}} {
		fine, _ := impl.BisectEdges(m, marks)
		for n := range 20 {
			u := slices.Repeat([]impl.Rat{smallRat(1, 1)}, n)
			if got := impl.Prolong(m, fine, u); (len(got) == len(fine.Points)) != (n == 5) || n != 5 && len(got) != 0 {
				t.Errorf("Prolong of %d numbers = %v", n, got)
			}
			if got := impl.Gather(m, fine, u); (len(got) == 5) != (n == len(fine.Points)) || n != len(fine.Points) && len(got) != 0 {
				t.Errorf("Gather of %d numbers = %v", n, got)
			}
		}
		for i, bad := range notRats() {
			for _, n := range []int{5, len(fine.Points)} {
				u := withElement(slices.Repeat([]impl.Rat{smallRat(0, 1)}, n), i%n, bad)
				sameVector(t, impl.Prolong(m, fine, u), nil, "Prolong", u)
				sameVector(t, impl.Gather(m, fine, u), nil, "Gather", u)
			}
		}
		long := slices.Repeat([]impl.Rat{smallRat(1, 1)}, 300000)
		if len(impl.Prolong(m, fine, long)) != 0 || len(impl.Gather(m, fine, long)) != 0 {
			t.Error("Prolong and Gather of a vector that is too long")
		}
		for i := range fine.Points {
			u := withElement(slices.Repeat([]impl.Rat{smallRat(1, 1)}, len(fine.Points)), i, impl.Rat{})
			sameVector(t, impl.Gather(m, fine, u), nil, "Gather", u)
			if i < 5 {
				sameVector(t, impl.Prolong(m, fine, u[:5]), nil, "Prolong", u[:5])
			}
		}
	}
}

func TestP15InnerVector(t *testing.T) {
	s := source(93)
	for n := range 30 {
		u, v := s.vector(n, 1+n%3), s.vector(n, 1)
		if n > 10 {
			u, v = s.integers(n), s.integers(n)
		}
		sameRat(t, impl.InnerVector(u, v), wantedInner(u, v), "InnerVector", append(u, v...)...)
	}
	tests := []struct{ u, v, want string }{
		{"", "", "0"}, {"0", "5", "0"}, {"2/3", "-3/4", "-1/2"}, {"1 2", "3 4", "11"}, {"1 2 3", "1/2 1/4 1/8", "11/8"}, {"1 -1", "7 7", "0"}, {"-5 0 1/7", "1/5 9 7", "0"},
	}
	for _, c := range tests {
		u, v := vectorOf(c.u), vectorOf(c.v)
		sameRat(t, impl.InnerVector(u, v), vectorOf(c.want)[0], "InnerVector", append(u, v...)...)
		sameRat(t, impl.InnerVector(v, u), vectorOf(c.want)[0], "InnerVector the other way round", append(u, v...)...)
	}
	sameRat(t, impl.InnerVector([]impl.Rat{}, nil), smallRat(0, 1), "InnerVector of an empty and a nil vector")
}

// TestP15PartialSumsOfInnerVector has products and partial sums that are too large.
func TestP15PartialSumsOfInnerVector(t *testing.T) {
	far := bigOfRat(longRats()[0]).RatString()
	tiny := bigOfRat(longRats()[2]).RatString()
	tests := []struct{ u, v, want string }{
		{far, "1", far}, {far, "2", ""}, {far, "-1", "-" + far}, {far, "1/3", strings.Repeat("3", 216)}, {far, far, ""}, {far, tiny, "1"}, {tiny, tiny, ""}, {tiny, "1/2", ""}, {far, "0", "0"},
		{far + " 1 -1", "1 1 1", ""}, {far + " -1 1", "1 1 1", far}, {"-1 " + far + " 1", "1 1 1", far}, {"1 " + far + " -1", "1 1 1", ""}, {"1 -1 " + far, "1 1 1", far},
		{far + " " + far, "2 -2", ""}, {far + " " + far, "1 -1", "0"}, {far + " 0", "2 0", ""}, {"0 " + far, "0 2", ""}, {"1 " + far + " 1", "1 2 1", ""},
		{tiny + " 1/17", "1 1", ""}, {tiny + " 1/2 -1/2", "1 1 1", ""}, {"1/2 -1/2 " + tiny, "1 1 1", tiny},
	}
	for i, c := range tests {
		var want impl.Rat
		if c.want != "" {
			want = vectorOf(c.want)[0]
		}
		if got := impl.InnerVector(vectorOf(c.u), vectorOf(c.v)); !equalRats(got, want) {
			t.Errorf("InnerVector in case %d = %v, want %v", i, got, want)
		}
	}
	s, rats := source(94), limitRats()
	var large, others int
	for range 3000 {
		n := 1 + s.upTo(4)
		u, v := make([]impl.Rat, n), s.integers(n)
		for i := range u {
			u[i] = rats[s.upTo(len(rats))]
			if s.upTo(2) == 0 {
				v[i] = rats[s.upTo(len(rats))]
			}
		}
		want := wantedInner(u, v)
		sameRat(t, impl.InnerVector(u, v), want, "InnerVector", append(u, v...)...)
		if impl.RatOk(want) {
			others++
		} else {
			large++
		}
	}
	if large < 300 || others < 300 {
		t.Errorf("%d products are too large, and %d are not", large, others)
	}
}

func TestP15InnerVectorOfOtherVectors(t *testing.T) {
	one := smallRat(1, 1)
	for n := range 6 {
		for k := range 6 {
			u, v := slices.Repeat([]impl.Rat{one}, n), slices.Repeat([]impl.Rat{one}, k)
			want := impl.Rat{}
			if n == k {
				want = smallRat(int64(n), 1)
			}
			sameRat(t, impl.InnerVector(u, v), want, "InnerVector", append(u, v...)...)
		}
	}
	zeros := slices.Repeat([]impl.Rat{smallRat(0, 1)}, 3)
	for _, bad := range notRats() {
		for i := range zeros {
			u := withElement(zeros, i, bad)
			sameRat(t, impl.InnerVector(u, zeros), impl.Rat{}, "InnerVector", u...)
			sameRat(t, impl.InnerVector(zeros, u), impl.Rat{}, "InnerVector", u...)
			sameRat(t, impl.InnerVector(u, u), impl.Rat{}, "InnerVector", u...)
		}
	}
	long := slices.Repeat([]impl.Rat{one}, 200000)
	sameRat(t, impl.InnerVector(long, long), smallRat(200000, 1), "InnerVector of long vectors")
	sameRat(t, impl.InnerVector(long, long[1:]), impl.Rat{}, "InnerVector of long vectors")
}

// vectorWithSpare returns a copy of u with a fraction behind its end, which no function
// may change.
func vectorWithSpare(u []impl.Rat) []impl.Rat {
	var next []impl.Rat
	for _, r := range u {
		next = append(next, ratWithSpare(r))
	}
	return append(next, smallRat(77, 1))[:len(u)]
}

func keepsVector(u []impl.Rat, want []impl.Rat) bool {
	return slices.EqualFunc(u, want, keepsRat) && equalRats(u[:len(u)+1][len(u)], smallRat(77, 1))
}

// transferLimbs returns the lists of limbs of everything that the functions compute, and
// overwrites the lists that contain them.
func transferLimbs(coarse impl.Mesh, fine impl.Mesh, u []impl.Rat, v []impl.Rat) [][]int {
	edges, _ := impl.RefinedEdges(coarse, fine)
	limbs := [][]int{edges}
	parents := impl.ParentsOf(coarse, fine)
	limbs = append(limbs, parents...)
	clear(parents[:cap(parents)])
	vectors := [][]impl.Rat{impl.Prolong(coarse, fine, u), impl.Gather(coarse, fine, v), impl.Prolong(coarse, coarse, u), impl.Gather(fine, fine, v), {impl.InnerVector(u, u)}}
	for _, vector := range vectors {
		for _, r := range vector {
			limbs = append(limbs, r.Num.Mag, r.Den)
		}
		clear(vector[:cap(vector)])
	}
	return limbs
}

func TestP15TransferArgumentsAreKept(t *testing.T) {
	s := source(95)
	list := append(fewTransfers(), transfer{coarse: squareWithCenter(), fine: gridMesh(1, 1)})
	for _, bad := range append(notMeshes()[:60], notMeshes()[300:340]...) {
		list = append(list, transfer{coarse: squareWithCenter(), fine: bad}, transfer{coarse: bad, fine: squareWithCenter()})
	}
	for _, c := range list {
		x, y := s.vector(min(len(c.coarse.Points), 50), 2), s.vector(min(len(c.fine.Points), 50), 2)
		for _, wants := range [][2][]impl.Rat{{x, y}, {append(notRats(), x...), x[min(1, len(x)):]}} {
			coarse, fine, u, v := meshWithSpare(c.coarse), meshWithSpare(c.fine), vectorWithSpare(wants[0]), vectorWithSpare(wants[1])
			transferLimbs(coarse, fine, u, v)
			impl.InnerVector(u, v)
			if !keepsMesh(coarse, c.coarse) || !keepsMesh(fine, c.fine) || !keepsVector(u, wants[0]) || !keepsVector(v, wants[1]) {
				t.Fatalf("the arguments %v, %v, %v and %v were changed", c.coarse, c.fine, wants[0], wants[1])
			}
		}
	}
}

// TestP15TransferResultsAreNew overwrites one list of limbs after the other and looks for
// the change in the lists after it and in the arguments.
func TestP15TransferResultsAreNew(t *testing.T) {
	s := source(96)
	for _, c := range fewTransfers() {
		x, y := s.vector(len(c.coarse.Points), 1), s.vector(len(c.fine.Points), 1)
		x[0], y[0] = smallRat(0, 1), smallRat(5, 1)
		coarse, fine, u, v := meshWithSpare(c.coarse), meshWithSpare(c.fine), vectorWithSpare(x), vectorWithSpare(y)
		wants := transferLimbs(c.coarse, c.fine, x, y)
		for i, limbs := range transferLimbs(coarse, fine, u, v) {
			sameNat(t, limbs, wants[i], "a list after changes of others")
			overwrite(limbs)
		}
		if !keepsMesh(coarse, c.coarse) || !keepsMesh(fine, c.fine) || !keepsVector(u, x) || !keepsVector(v, y) {
			t.Fatalf("changes of the results for %v and %v reach the arguments", c.coarse, c.fine)
		}
		for i, limbs := range transferLimbs(coarse, fine, u, v) {
			sameNat(t, limbs, wants[i], "a list after changes of all results")
		}
	}
}

// TestP15TransferAtTheLimits has a refinement with as many triangles as there may be.
func TestP15TransferAtTheLimits(t *testing.T) {
	m := gridMesh(3, 2)
	fine, ok := impl.RefineAll(m)
	parents := impl.ParentsOf(m, fine)
	edges := wantedEdges(m)
	if !ok || len(fine.Triangles) != 48 || len(parents) != len(m.Points)+len(edges) {
		t.Fatalf("ParentsOf(%v, %v) = %v", m, fine, parents)
	}
	for i, e := range edges {
		sameInts(t, parents[len(m.Points)+i], []int{e.A, e.B}, "ParentsOf", fine)
	}
	u := slices.Repeat([]impl.Rat{smallRat(math.MaxInt64, 1)}, len(m.Points))
	sameVector(t, impl.Prolong(m, fine, u), slices.Repeat(u[:1], len(fine.Points)), "Prolong", u)
}
