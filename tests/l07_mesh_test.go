package tests

import (
	"math"
	"math/big"
	"slices"
	"testing"

	"loop.example/g00812/impl"
)

// meshAt returns the mesh with these coordinates, each divided by d, and these
// corners, three for each triangle.
func meshAt(d int64, coordinates []int64, corners ...int) impl.Mesh {
	var m impl.Mesh
	for i := 0; i < len(coordinates); i += 2 {
		m.Points = append(m.Points, smallPoint(coordinates[i], coordinates[i+1], d))
	}
	for k := 0; k < len(corners); k += 3 {
		m.Triangles = append(m.Triangles, impl.Tri{A: corners[k], B: corners[k+1], C: corners[k+2]})
	}
	return m
}

// gridMesh returns a mesh of columns times rows squares of two triangles each.
func gridMesh(columns int, rows int) impl.Mesh {
	var m impl.Mesh
	for i := range (columns + 1) * (rows + 1) {
		m.Points = append(m.Points, smallPoint(int64(i%(columns+1)), int64(i/(columns+1)), 1))
	}
	for i := range columns * rows {
		a := i/columns*(columns+1) + i%columns
		b, c, d := a+1, a+columns+2, a+columns+1
		m.Triangles = append(m.Triangles, impl.Tri{A: b, B: c, C: a}, impl.Tri{A: d, B: a, C: c})
	}
	return m
}

// usedPart returns the mesh with these triangles of m and only their points.
func usedPart(m impl.Mesh, triangles []impl.Tri) impl.Mesh {
	var part impl.Mesh
	index := map[int]int{}
	moved := func(i int) int {
		if _, isThere := index[i]; !isThere {
			index[i] = len(part.Points)
			part.Points = append(part.Points, m.Points[i])
		}
		return index[i]
	}
	for _, t := range triangles {
		t.A, t.B, t.C = moved(t.A), moved(t.B), moved(t.C)
		part.Triangles = append(part.Triangles, t)
	}
	return part
}

// squareWithCenter returns a square of four triangles.
func squareWithCenter() impl.Mesh {
	return meshAt(1, []int64{0, 0, 2, 0, 2, 2, 0, 2, 1, 1}, 4, 0, 1, 4, 1, 2, 4, 2, 3, 4, 3, 0)
}

// ringMesh returns a mesh of three times three squares without the one in the middle.
func ringMesh() impl.Mesh {
	m := gridMesh(3, 3)
	return usedPart(m, append(slices.Clone(m.Triangles[:8]), m.Triangles[10:]...))
}

// simpleMeshes returns meshes of domains that are in one piece and have no hole.
func simpleMeshes() []impl.Mesh {
	fan := []int64{0, 0, 2, 0, 1, 2, -1, 2, -2, 0, -1, -2, 1, -2}
	return []impl.Mesh{
		meshAt(1, []int64{0, 0, 2, 0, 0, 2}, 0, 1, 2), meshAt(3, []int64{0, 0, -2, 1, 5, 1}, 2, 1, 0),
		squareWithCenter(), gridMesh(1, 1), gridMesh(2, 2),
		meshAt(7, fan, 0, 1, 2, 2, 3, 0, 4, 0, 3, 0, 4, 5, 5, 6, 0, 1, 0, 6),
		// An inner triangle and those around it.
		meshAt(1, []int64{0, 0, 9, 0, 0, 9, 2, 2, 4, 2, 2, 4}, 3, 4, 5, 0, 1, 4, 4, 3, 0, 1, 2, 5, 5, 4, 1, 2, 0, 3, 3, 5, 2),
	}
}

// brokenUpMeshes returns meshes of several pieces, of pieces that touch at a point
// only, and with a hole.
func brokenUpMeshes() []impl.Mesh {
	fan := []int64{0, 0, 2, 0, 1, 2, -1, 2, -2, 0, -1, -2, 1, -2}
	return []impl.Mesh{
		ringMesh(),
		meshAt(7, fan, 0, 1, 2, 0, 3, 4, 5, 6, 0),
		meshAt(1, []int64{0, 0, 1, 0, 0, 1, 3, 0, 3, 1, 2, 1}, 0, 1, 2, 3, 4, 5),
		// Three triangles that touch at their corners, around a triangle that is not there.
		meshAt(1, []int64{0, 0, 4, 0, 2, 3, 2, -3, 5, 3, -1, 3}, 0, 3, 1, 1, 4, 2, 2, 5, 0),
	}
}

// split bisects an edge in all triangles that have it, or only in the first of them.
func split(m impl.Mesh, e impl.Edge, onlyFirst bool) impl.Mesh {
	middle, found := len(m.Points), 0
	next := impl.Mesh{Points: append(slices.Clone(m.Points), impl.Middle(m.Points[e.A], m.Points[e.B]))}
	for _, t := range m.Triangles {
		halves := halvesOf(t, e, middle)
		found += len(halves) - 1
		if onlyFirst && found > 1 {
			halves = []impl.Tri{t}
		}
		next.Triangles = append(next.Triangles, halves...)
	}
	return next
}

// halvesOf returns the parts into which the middle of an edge divides a triangle.
func halvesOf(t impl.Tri, e impl.Edge, middle int) []impl.Tri {
	for range 3 {
		t.A, t.B, t.C = t.B, t.C, t.A
		if min(t.A, t.B) == e.A && max(t.A, t.B) == e.B {
			first, second := t, t
			first.B, second.A = middle, middle
			return []impl.Tri{first, second}
		}
	}
	return []impl.Tri{t}
}

// isWithinLimits reports whether m has few enough points and triangles for a mesh.
func isWithinLimits(m impl.Mesh) bool {
	return len(m.Points) <= impl.MaxPoints && len(m.Triangles) <= impl.MaxTriangles
}

// graded splits edges at random until there is no room for more.
func (s *source) graded(m impl.Mesh) impl.Mesh {
	for {
		edges := wantedEdges(m)
		next := split(m, edges[s.upTo(len(edges))], false)
		if !isWithinLimits(next) {
			return m
		}
		m = next
	}
}

// order returns the indices up to n in a random order.
func (s *source) order(n int) []int {
	var order []int
	for i := range n {
		order = slices.Insert(order, s.upTo(i+1), i)
	}
	return order
}

// mixed changes the order of the points, the triangles and their corners, and sets
// regions and levels.
func (s *source) mixed(m impl.Mesh) impl.Mesh {
	var next impl.Mesh
	place := make([]int, len(m.Points))
	for i, p := range s.order(len(m.Points)) {
		place[p] = i
		next.Points = append(next.Points, m.Points[p])
	}
	for _, k := range s.order(len(m.Triangles)) {
		t := m.Triangles[k]
		corners := []int{place[t.A], place[t.B], place[t.C]}
		i := s.upTo(3)
		next.Triangles = append(next.Triangles, impl.Tri{A: corners[i], B: corners[(i+1)%3], C: corners[(i+2)%3], Region: s.upTo(impl.MaxRegions), Level: s.upTo(61)})
	}
	return next
}

// image returns the mesh that has the corners of l in place of the points (0, 0),
// (1, 0) and (0, 1).
func image(m impl.Mesh, l []impl.Point) impl.Mesh {
	next := impl.Mesh{Triangles: slices.Clone(m.Triangles)}
	along, across := impl.SubtractPoints(l[1], l[0]), impl.SubtractPoints(l[2], l[0])
	for _, p := range m.Points {
		step := impl.AddPoints(impl.ScalePoint(p.X, along), impl.ScalePoint(p.Y, across))
		next.Points = append(next.Points, impl.AddPoints(l[0], step))
	}
	return next
}

// turned returns an image of m that has other points side by side than m.
func turned(m impl.Mesh) impl.Mesh {
	return image(m, cornersAt(30, -70, 10, -25, 85, -94, 16))
}

// sampleMeshes returns meshes of all kinds and sizes.
func sampleMeshes() []impl.Mesh {
	s := source(31)
	list := []impl.Mesh{gridMesh(19, 1), gridMesh(12, 2), gridMesh(4, 6), turned(gridMesh(4, 6))}
	for _, m := range append(simpleMeshes(), brokenUpMeshes()...) {
		list = append(list, m, s.mixed(turned(m)), s.mixed(s.graded(m)), turned(s.mixed(s.graded(m))))
		list = append(list, s.mixed(image(m, s.corners(2))), image(m, s.corners(3)))
	}
	return list
}

// wantedEdges is EdgesOf for a mesh, computed without the program.
func wantedEdges(m impl.Mesh) []impl.Edge {
	var edges []impl.Edge
	for a := range m.Points {
		for b := a + 1; b < len(m.Points); b++ {
			left, right := triangleBeside(m, a, b), triangleBeside(m, b, a)
			if left >= 0 || right >= 0 {
				edges = append(edges, impl.Edge{A: a, B: b, Left: left, Right: right})
			}
		}
	}
	return edges
}

// triangleBeside returns the triangle for which a and b are successive corners, or -1.
func triangleBeside(m impl.Mesh, a int, b int) int {
	for k, t := range m.Triangles {
		if t.A == a && t.B == b || t.B == a && t.C == b || t.C == a && t.A == b {
			return k
		}
	}
	return -1
}

// cornersOf returns the points of a triangle of a mesh.
func cornersOf(m impl.Mesh, t impl.Tri) []impl.Point {
	return []impl.Point{m.Points[t.A], m.Points[t.B], m.Points[t.C]}
}

// isBetween reports whether p is on the edge from a to b but not at its ends.
func isBetween(a, b, p impl.Point) bool {
	ax, ay := new(big.Rat).Sub(bigOfRat(a.X), bigOfRat(p.X)), new(big.Rat).Sub(bigOfRat(a.Y), bigOfRat(p.Y))
	bx, by := new(big.Rat).Sub(bigOfRat(b.X), bigOfRat(p.X)), new(big.Rat).Sub(bigOfRat(b.Y), bigOfRat(p.Y))
	inner := new(big.Rat).Add(ax.Mul(ax, bx), ay.Mul(ay, by))
	return toTheLeft(bigOfPoint(a), bigOfPoint(b), bigOfPoint(p)).Sign() == 0 && inner.Sign() < 0
}

// hasPointInside reports whether a point of m lies inside a side of l.
func hasPointInside(m impl.Mesh, l []impl.Point) bool {
	for i := range l {
		for _, p := range m.Points {
			if isBetween(l[i], l[(i+1)%3], p) {
				return true
			}
		}
	}
	return false
}

// isConforming is IsMesh for points that are valid and different and triangles that
// have proper corners, and areas of any size.
func isConforming(m impl.Mesh) bool {
	used := make([]bool, len(m.Points))
	for k, t := range m.Triangles {
		used[t.A], used[t.B], used[t.C] = true, true, true
		l := cornersOf(m, t)
		overlaps := func(u impl.Tri) bool { return haveCommonArea(l, cornersOf(m, u)) }
		if hasPointInside(m, l) || slices.ContainsFunc(m.Triangles[:k], overlaps) {
			return false
		}
	}
	return !slices.Contains(used, false)
}

func checkMesh(t *testing.T, m impl.Mesh, want bool) {
	t.Helper()
	if got := impl.IsMesh(m); got != want {
		t.Errorf("IsMesh(%v) = %t, want %t", m, got, want)
	}
}

func sameRatOfMesh(t *testing.T, got impl.Rat, want impl.Rat, name string, m impl.Mesh) {
	t.Helper()
	if !equalRats(got, want) {
		t.Errorf("%s(%v) = %v, want %v", name, m, got, want)
	}
}

func sameInts(t *testing.T, got []int, want []int, name string, m impl.Mesh) {
	t.Helper()
	if !slices.Equal(got, want) {
		t.Errorf("%s(%v) = %v, want %v", name, m, got, want)
	}
}

func TestP3SplittingKeepsAMeshConforming(t *testing.T) {
	for _, m := range append(simpleMeshes(), brokenUpMeshes()...) {
		for _, e := range impl.EdgesOf(m) {
			next := split(m, e, false)
			checkMesh(t, next, true)
			sameRatOfMesh(t, impl.MeshArea(next), impl.MeshArea(m), "MeshArea", next)
			further := 2
			if e.Left >= 0 && e.Right >= 0 {
				further = 3
			}
			if got, want := len(impl.EdgesOf(next)), len(impl.EdgesOf(m))+further; got != want {
				t.Errorf("there are %d edges of %v, want %d", got, next, want)
			}
		}
	}
}

func TestP3HangingPointsAreFound(t *testing.T) {
	found := 0
	for _, m := range append(simpleMeshes(), brokenUpMeshes()...) {
		for _, e := range impl.EdgesOf(m) {
			if e.Left >= 0 && e.Right >= 0 {
				checkMesh(t, split(m, e, true), false)
				checkMesh(t, turned(split(m, e, true)), false)
				found++
			}
		}
	}
	if found < 30 {
		t.Errorf("there are %d edges with two triangles only", found)
	}
}

// TestP3EdgesBelongToTheirTriangles finds each side of each triangle as one edge.
func TestP3EdgesBelongToTheirTriangles(t *testing.T) {
	for _, m := range sampleMeshes() {
		sides := 0
		for _, e := range impl.EdgesOf(m) {
			for _, k := range []int{e.Left, e.Right} {
				if k >= 0 {
					sides++
				}
			}
			if e.Left >= 0 && triangleBeside(m, e.A, e.B) != e.Left || e.Right >= 0 && triangleBeside(m, e.B, e.A) != e.Right {
				t.Errorf("EdgesOf(%v) contains %v", m, e)
			}
		}
		if sides != 3*len(m.Triangles) {
			t.Errorf("the edges of %v have %d sides of triangles, want 3 of each", m, sides)
		}
	}
}

func TestP3EulerCharacteristic(t *testing.T) {
	s := source(32)
	for _, m := range simpleMeshes() {
		for _, next := range []impl.Mesh{m, s.graded(m), s.mixed(turned(s.graded(m)))} {
			if n := len(next.Points) - len(impl.EdgesOf(next)) + len(next.Triangles); n != 1 {
				t.Errorf("points - edges + triangles of %v is %d, want 1", next, n)
			}
		}
	}
	for i, want := range []int{0, 1, 2, 0} {
		m := s.graded(brokenUpMeshes()[i])
		if n := len(m.Points) - len(impl.EdgesOf(m)) + len(m.Triangles); n != want {
			t.Errorf("points - edges + triangles of %v is %d, want %d", m, n, want)
		}
	}
}

// TestP3AreaWithinTheBoundary computes the area from the edges with one triangle.
func TestP3AreaWithinTheBoundary(t *testing.T) {
	for _, m := range sampleMeshes() {
		sum := impl.RatFromInt(0)
		for _, e := range impl.EdgesOf(m) {
			if product := impl.Cross(m.Points[e.A], m.Points[e.B]); e.Right < 0 {
				sum = impl.RatAdd(sum, product)
			} else if e.Left < 0 {
				sum = impl.RatSub(sum, product)
			}
		}
		sameRatOfMesh(t, impl.MeshArea(m), impl.RatMul(sum, impl.RatOf(1, 2)), "MeshArea", m)
	}
}

func TestP3AreasOfImages(t *testing.T) {
	s := source(33)
	for _, m := range append(simpleMeshes(), brokenUpMeshes()...) {
		for _, l := range [][]impl.Point{cornersAt(1, 5, 5, 6, 5, 5, 6), cornersAt(7, 0, 0, 3, 1, 0, 2), s.corners(1), s.corners(2)} {
			next := image(m, l)
			want := impl.RatMul(impl.MeshArea(m), impl.DoubleArea(l[0], l[1], l[2]))
			sameRatOfMesh(t, impl.MeshArea(next), want, "MeshArea", next)
			if !slices.Equal(impl.EdgesOf(next), impl.EdgesOf(m)) {
				t.Errorf("EdgesOf(%v) = %v, want those of %v", next, impl.EdgesOf(next), m)
			}
		}
	}
}

func TestP15IsMesh(t *testing.T) {
	for _, m := range sampleMeshes() {
		if !isWithinLimits(m) || !isConforming(m) {
			t.Fatalf("the test has %v as a mesh", m)
		}
		checkMesh(t, m, true)
		// Parts of a mesh are meshes.
		for k := 0; k < len(m.Triangles)-1; k += 9 {
			checkMesh(t, usedPart(m, append(slices.Clone(m.Triangles[:k]), m.Triangles[k+1:]...)), true)
		}
	}
}

func TestP15IsMeshOfTwoTriangles(t *testing.T) {
	triangle := []int64{0, 0, 2000000000, 0, 0, 2000000000}
	tests := []struct {
		further []int64
		corners []int
		want    bool
	}{
		{[]int64{2e9, 2e9}, []int{1, 3, 2}, true},
		{[]int64{2e9, 2e9}, []int{2, 1, 3}, true},
		{[]int64{3e9, 0, 3e9, 1e9}, []int{1, 3, 4}, true},                              // a common corner
		{[]int64{3e9, 0, 4e9, 0, 3e9, 1e9}, []int{3, 4, 5}, true},                      // sides on one line
		{[]int64{1e9, 1e9, 2e9, 1e9, 1e9, 2e9}, []int{3, 4, 5}, false},                 // a corner on a side
		{[]int64{1000000001, 1e9, 2e9, 1e9, 1e9, 2e9}, []int{3, 4, 5}, true},           // a corner next to a side
		{[]int64{999999999, 1e9, 2e9, 1e9, 1e9, 2e9}, []int{3, 4, 5}, false},           // a corner inside
		{[]int64{1e9, 0, 2e9, -1, 3e9, 1e9}, []int{3, 4, 5}, false},                    // a corner on the lowest side
		{[]int64{0, 1e9, -1e9, 2e9, -1e9, 0}, []int{3, 4, 5}, false},                   // a corner on the left side
		{[]int64{1e9, 1e9, 2e9, 2e9}, []int{3, 1, 4}, false},                           // a part of a common side
		{[]int64{-1e9, 3e9, 3e9, -1e9, 3e9, 3e9}, []int{3, 4, 5}, false},               // a longer side
		{[]int64{3e9, -1e9, 3e9, 3e9}, []int{2, 3, 4}, false},                          // the same, with one end in common
		{[]int64{1, 1, 2, 1, 1, 2}, []int{3, 4, 5}, false},                             // inside
		{[]int64{-1e9, -1e9, 9e9, -1e9, -1e9, 9e9}, []int{3, 4, 5}, false},             // around
		{[]int64{2e9, 2e9, -1, 1e9, 1e9, -1}, []int{3, 4, 5}, false},                   // a star
		{[]int64{2e9, 1e9}, []int{0, 1, 3}, false},                                     // the same side of a common side
		{[]int64{-1e9, 1e9}, []int{0, 2, 3}, true},                                     // the other side of it
		{[]int64{1e9, 0}, []int{0, 3, 2}, false},                                       // a half
		{nil, []int{0, 1, 2}, false},                                                   // twice the same
		{nil, []int{2, 0, 1}, false},                                                   // the same from another corner on
		{[]int64{1, 2e9, 2e9, 2e9, 2e9, 1}, []int{3, 5, 4}, true},                      // a narrow gap
		{[]int64{1, 1999999998, 1999999998, 1, 2e9, 2e9}, []int{3, 4, 5}, false},       // just beyond a side
		{[]int64{-1, 2000000001, 2000000001, -1, 3e9, 3e9}, []int{3, 4, 5}, false},     // ends just beyond the corners
		{[]int64{1, 2000000000, 2000000001, 0, 3e9, 3e9}, []int{3, 4, 5}, true},        // just before it
		{[]int64{1000000000, 3000000000, 2000000001, 0, 3e9, 0}, []int{3, 4, 5}, true}, // only the boxes are close
	}
	for _, c := range tests {
		m := meshAt(1000000000, append(slices.Clone(triangle), c.further...), append([]int{0, 1, 2}, c.corners...)...)
		s := source(34)
		for _, next := range []impl.Mesh{m, s.mixed(m), s.mixed(turned(m)), s.mixed(image(m, s.corners(2)))} {
			checkMesh(t, next, c.want)
			if isConforming(next) != c.want {
				t.Errorf("the test has %t for %v", c.want, next)
			}
		}
	}
}

// withPoint, withTriangle and further return a mesh of which one point or triangle is
// another, or that has one more.
func withPoint(m impl.Mesh, i int, p impl.Point) impl.Mesh {
	next := impl.Mesh{Points: slices.Clone(m.Points), Triangles: m.Triangles}
	next.Points[i] = p
	return next
}

func withTriangle(m impl.Mesh, k int, t impl.Tri) impl.Mesh {
	next := impl.Mesh{Points: m.Points, Triangles: slices.Clone(m.Triangles)}
	next.Triangles[k] = t
	return next
}

func further(m impl.Mesh, points []impl.Point, triangles ...impl.Tri) impl.Mesh {
	return impl.Mesh{Points: append(slices.Clone(m.Points), points...), Triangles: append(slices.Clone(m.Triangles), triangles...)}
}

// meshesWithBadPoints returns m with points that are not valid, the same, without a
// triangle, too few or too many.
func meshesWithBadPoints(m impl.Mesh) []impl.Mesh {
	last := len(m.Points) - 1
	list := []impl.Mesh{
		{}, {Points: m.Points}, {Triangles: m.Triangles}, {Points: m.Points[:last], Triangles: m.Triangles},
		{Points: m.Points[:2], Triangles: []impl.Tri{{A: 0, B: 1, C: 1}}}, {Points: m.Points[:1], Triangles: []impl.Tri{{}}},
		withPoint(m, 0, m.Points[last]), withPoint(m, last, m.Points[0]), withPoint(m, 1, m.Points[0]),
		further(m, m.Points[:1]), further(m, []impl.Point{smallPoint(99, 99, 1)}),
		further(m, make([]impl.Point, 1)), further(m, make([]impl.Point, 100000)),
	}
	for _, bad := range notPoints() {
		list = append(list, withPoint(m, 0, bad), withPoint(m, last, bad), further(m, []impl.Point{bad}))
	}
	return list
}

// meshesWithBadTriangles returns m with triangles that do not exist, are not proper,
// are there twice or have values out of their ranges.
func meshesWithBadTriangles(m impl.Mesh) []impl.Mesh {
	last := len(m.Triangles) - 1
	t := m.Triangles[last]
	list := []impl.Mesh{further(m, nil, t), further(m, nil, m.Triangles[0]), further(m, nil, impl.Tri{})}
	bad := []impl.Tri{
		{A: t.B, B: t.A, C: t.C}, {A: t.A, B: t.C, C: t.B}, {A: t.A, B: t.A, C: t.C}, {A: t.A, B: t.B, C: t.A}, {A: t.B, B: t.B, C: t.B},
	}
	for _, i := range []int{-1, len(m.Points), math.MinInt, math.MaxInt, math.MinInt + t.A} {
		bad = append(bad, impl.Tri{A: i, B: t.B, C: t.C}, impl.Tri{A: t.A, B: i, C: t.C}, impl.Tri{A: t.A, B: t.B, C: i})
	}
	for _, n := range []int{-1, math.MinInt, math.MaxInt, 61} {
		withLevel, withRegion := t, t
		withLevel.Level, withRegion.Region = n, n
		bad = append(bad, withLevel, withRegion)
	}
	withRegion := t
	withRegion.Region = 3
	for _, u := range append(bad, withRegion) {
		list = append(list, withTriangle(m, last, u))
	}
	return list
}

// notMeshes returns values that are not meshes for every reason that there is.
func notMeshes() []impl.Mesh {
	var list []impl.Mesh
	for _, m := range []impl.Mesh{simpleMeshes()[0], squareWithCenter(), turned(gridMesh(2, 2)), brokenUpMeshes()[3]} {
		list = append(list, meshesWithBadPoints(m)...)
		list = append(list, meshesWithBadTriangles(m)...)
	}
	list = append(list, split(gridMesh(1, 1), impl.Edge{A: 0, B: 3}, true), withPoint(squareWithCenter(), 4, smallPoint(3, 1, 1)))
	// A common corner, or a common side, with two indices for one point.
	list = append(list, meshAt(1, []int64{0, 0, 2, 0, 0, 2, 2, 0, 3, 0, 3, 1}, 0, 1, 2, 3, 4, 5), meshAt(1, []int64{0, 0, 1, 0, 0, 1, 1, 0, 1, 1, 0, 1}, 0, 1, 2, 3, 4, 5))
	// Too many points, triangles or both.
	strip, full := gridMesh(19, 1), gridMesh(12, 2)
	high, left := []impl.Point{smallPoint(0, 5, 1)}, []impl.Point{smallPoint(-1, 0, 1)}
	return append(list, further(strip, high, impl.Tri{A: 20, B: 21, C: 40}), further(full, left, impl.Tri{A: 39, B: 0, C: 13}), gridMesh(20, 1), gridMesh(7, 5), gridMesh(30, 30))
}

func TestP15IsMeshRejectsOtherValues(t *testing.T) {
	for _, m := range notMeshes() {
		checkMesh(t, m, false)
	}
}

func TestP15IsMeshAtTheLimits(t *testing.T) {
	strip, full := gridMesh(19, 1), gridMesh(12, 2)
	checkMesh(t, strip, true)
	checkMesh(t, full, true)
	left := []impl.Point{smallPoint(-1, 0, 1)}
	both := further(impl.Mesh{Points: full.Points, Triangles: full.Triangles[:47]}, left, impl.Tri{A: 39, B: 0, C: 13})
	checkMesh(t, both, true)
	if len(both.Points) != 40 || len(both.Triangles) != 48 || impl.MaxPoints != 40 || impl.MaxTriangles != 48 || impl.MaxRegions != 3 {
		t.Errorf("the mesh has %d points and %d triangles", len(both.Points), len(both.Triangles))
	}
	for _, last := range []impl.Tri{{A: 4, B: 3, C: 0, Level: 60}, {A: 4, B: 3, C: 0, Region: 2}} {
		checkMesh(t, withTriangle(squareWithCenter(), 3, last), true)
	}
}

// longCenter returns a point near (1, 1) at which most areas are too large.
func longCenter() impl.Point {
	share := impl.Rat{Num: impl.BigInt{Mag: []int{1}}, Den: powerOfBase(14)}
	other := impl.Rat{Num: impl.BigInt{Mag: []int{1}}, Den: append([]int{3}, powerOfBase(13)...)}
	return impl.Point{X: impl.RatAdd(share, impl.RatFromInt(1)), Y: impl.RatAdd(other, impl.RatFromInt(1))}
}

// TestP15IsMeshWithAreasOfMoreThanMaxRatLimbs uses a center with which a triangle is
// proper only from one of the two corners on the boundary on.
func TestP15IsMeshWithAreasOfMoreThanMaxRatLimbs(t *testing.T) {
	corners := []int{0, 1, 4, 1, 2, 4, 2, 3, 4, 3, 0, 4}
	m := withPoint(meshAt(1, []int64{0, 0, 2, 0, 2, 2, 0, 2, 1, 1}, corners...), 4, longCenter())
	checkMesh(t, m, true)
	for k, u := range m.Triangles {
		checkMesh(t, withTriangle(m, k, impl.Tri{A: u.C, B: u.A, C: u.B}), false)
		checkMesh(t, withTriangle(m, k, impl.Tri{A: u.B, B: u.C, C: u.A}), true)
	}
	// The center is next to an edge, and its area with the edge is too large.
	m = withPoint(meshAt(1, []int64{0, 0, 2, 0, 0, 2, 1, 1, 5, 5, 5, 6}, 0, 1, 2, 4, 5, 3), 3, longCenter())
	checkMesh(t, m, true)
	checkMesh(t, withPoint(m, 3, smallPoint(1000001, 1000002, 1000000)), true)
	checkMesh(t, withPoint(m, 3, smallPoint(1, 1, 1)), false)
	// The same, where a vertical line separates the triangles.
	m = meshAt(1, []int64{0, 0, 2, 0, 2, 2, 0, 1, -1, 2, -1, 0}, 0, 1, 2, 3, 4, 5)
	checkMesh(t, m, true)
	m = withPoint(withPoint(m, 1, impl.Point{X: longCenter().X, Y: smallRat(0, 1)}), 2, impl.Point{X: longCenter().X, Y: smallRat(2, 1)})
	checkMesh(t, m, true)
	checkMesh(t, withPoint(m, 3, impl.Point{X: smallRat(0, 1), Y: longCenter().Y}), true)
	// A point inside of a vertical and of a horizontal edge.
	m = meshAt(1, []int64{0, 0, 2, 0, 0, 2, -1, -1, -1, 1}, 0, 1, 2)
	for _, p := range []impl.Point{{X: smallRat(0, 1), Y: longCenter().Y}, {X: longCenter().X, Y: smallRat(0, 1)}} {
		next := further(usedPart(m, m.Triangles), []impl.Point{p, smallPoint(-1, -1, 1), smallPoint(-2, 1, 3)}, impl.Tri{A: 3, B: 5, C: 4})
		if !isProperList(cornersOf(next, next.Triangles[1])) {
			t.Errorf("the second triangle of %v is not proper", next)
		}
		checkMesh(t, next, false)
	}
}

// wantedOverlap is Overlap for proper corner lists, computed without the program: an
// area that is too large is not positive.
func wantedOverlap(l []impl.Point, m []impl.Point) bool {
	isPositive := func(a, b, c impl.Point) bool {
		area := bigDoubleArea(a, b, c)
		return area != nil && area.Sign() > 0
	}
	for i := range 3 {
		beside := func(p impl.Point) bool { return isPositive(l[i], l[(i+1)%3], p) }
		others := func(p impl.Point) bool { return isPositive(m[i], m[(i+1)%3], p) }
		if !slices.ContainsFunc(m, beside) || !slices.ContainsFunc(l, others) {
			return false
		}
	}
	return true
}

// nearRat returns a fraction that is greater than n by a little less than 1 / 10^tens,
// or n itself.
func (s *source) nearRat(n int64, tens int64) impl.Rat {
	little := new(big.Int).Exp(big.NewInt(10), big.NewInt(tens), nil)
	little.Add(little, big.NewInt(int64(s.upTo(30))))
	if s.upTo(4) == 0 {
		return smallRat(n, 1)
	}
	return ratOfBig(new(big.Rat).Add(big.NewRat(n, 1), new(big.Rat).SetFrac(big.NewInt(1), little)))
}

// longSidedMesh returns two triangles. Some areas of corners of the first one and a
// corner of the second one, which may be on or next to a side, are too large.
func (s *source) longSidedMesh() impl.Mesh {
	zero := smallRat(0, 1)
	m := impl.Mesh{Triangles: []impl.Tri{{A: 0, B: 1, C: 2}, {A: 3, B: 4, C: 5}}}
	m.Points = []impl.Point{smallPoint(0, 0, 1), {X: s.nearRat(4, 99), Y: zero}, {X: zero, Y: s.nearRat(4, 99)}}
	for {
		var l []impl.Point
		for range 3 {
			p := impl.Point{X: s.nearRat(int64(s.upTo(7)), 36), Y: s.nearRat(int64(s.upTo(7)), 36)}
			if s.upTo(6) == 0 {
				side := impl.SubtractPoints(m.Points[2], m.Points[1])
				p = impl.AddPoints(m.Points[1], impl.ScalePoint(impl.RatSub(s.nearRat(1, 36), smallRat(1, 2)), side))
			}
			l = append(l, p)
		}
		l = turnedLeft(l)
		if isProperList(l) && impl.IsValidPoint(l[0]) && impl.IsValidPoint(l[1]) && impl.IsValidPoint(l[2]) {
			m.Points = append(m.Points, l...)
			return m
		}
	}
}

// TestP15IsMeshAgreesWithOverlap uses areas that are too large: they do not tell that
// triangles overlap, or that a point is on an edge.
func TestP15IsMeshAgreesWithOverlap(t *testing.T) {
	s := source(36)
	counts := map[string]int{}
	for range 800 {
		m := s.longSidedMesh()
		l, u := cornersOf(m, m.Triangles[0]), cornersOf(m, m.Triangles[1])
		hanging, overlap := hasPointInside(m, l) || hasPointInside(m, u), wantedOverlap(l, u)
		checkOverlap(t, l, u, overlap)
		checkMesh(t, m, !hanging && !overlap && !hasSamePoints(m))
		switch common := haveCommonArea(l, u); {
		case hanging && !overlap:
			counts["a point on an edge"]++
		case overlap:
			counts["an overlap"]++
		case common:
			counts["a common area that is not an overlap"]++
		case slices.ContainsFunc(u, func(p impl.Point) bool { return bigDoubleArea(l[1], l[2], p) == nil }):
			counts["an area that is too large"]++
		default:
			counts["none of these"]++
		}
	}
	if len(counts) != 5 {
		t.Errorf("the meshes are of the kinds %v, want five", counts)
	}
	for kind, n := range counts {
		if n < 50 {
			t.Errorf("there are only %d meshes with %s", n, kind)
		}
	}
}

func hasSamePoints(m impl.Mesh) bool {
	for i, p := range m.Points {
		if slices.ContainsFunc(m.Points[:i], func(q impl.Point) bool { return equalPoints(p, q) }) {
			return true
		}
	}
	return false
}

// TestP15EdgesOfTrianglesThatAreThereTwice uses areas that are too large, because of
// which Overlap is false for a triangle and itself.
func TestP15EdgesOfTrianglesThatAreThereTwice(t *testing.T) {
	corners := []int{0, 1, 4, 1, 2, 4, 2, 3, 4, 3, 0, 4}
	m := withPoint(meshAt(1, []int64{0, 0, 2, 0, 2, 2, 0, 2, 1, 1}, corners...), 4, longCenter())
	for _, u := range m.Triangles {
		l := cornersOf(m, u)
		checkOverlap(t, l, l, false)
		once := impl.Mesh{Points: l, Triangles: []impl.Tri{{A: 0, B: 1, C: 2}}}
		next := []impl.Mesh{further(m, nil, u), further(m, nil, u, u, u), further(impl.Mesh{Points: m.Points}, nil, append([]impl.Tri{u}, m.Triangles...)...)}
		next = append(next, further(m, nil, m.Triangles...), further(once, nil, once.Triangles[0], impl.Tri{A: 1, B: 2, C: 0}))
		for _, twice := range next {
			checkMesh(t, twice, true)
			if got, want := impl.EdgesOf(twice), wantedEdges(twice); !slices.Equal(got, want) {
				t.Errorf("EdgesOf(%v) = %v, want %v", twice, got, want)
			}
			boundary, interior := wantedPoints(twice)
			sameInts(t, impl.BoundaryPoints(twice), boundary, "BoundaryPoints", twice)
			sameInts(t, impl.InteriorPoints(twice), interior, "InteriorPoints", twice)
		}
	}
}

func TestP15Corners(t *testing.T) {
	for _, m := range sampleMeshes() {
		for k, u := range m.Triangles {
			samePoints(t, impl.Corners(m, k), cornersOf(m, u), "Corners", m.Points)
		}
		for _, k := range []int{-1, len(m.Triangles), math.MinInt, math.MaxInt} {
			samePoints(t, impl.Corners(m, k), nil, "Corners of no triangle", m.Points)
		}
	}
}

// TestP15CornersOfOtherMeshes looks at triangles whose corners exist in values that are
// not meshes.
func TestP15CornersOfOtherMeshes(t *testing.T) {
	for _, m := range notMeshes() {
		for k, u := range m.Triangles {
			var want []impl.Point
			if n := len(m.Points); min(u.A, u.B, u.C) >= 0 && max(u.A, u.B, u.C) < n {
				want = cornersOf(m, u)
			}
			samePoints(t, impl.Corners(m, k), want, "Corners", m.Points)
		}
		samePoints(t, impl.Corners(m, len(m.Triangles)), nil, "Corners of no triangle", m.Points)
	}
}

func TestP15EdgesOf(t *testing.T) {
	for _, m := range sampleMeshes() {
		if got, want := impl.EdgesOf(m), wantedEdges(m); !slices.Equal(got, want) {
			t.Errorf("EdgesOf(%v) = %v, want %v", m, got, want)
		}
	}
	m := meshAt(1, []int64{2, 2, 0, 0, 0, 2, 2, 0}, 2, 1, 0, 3, 0, 1)
	want := []impl.Edge{{A: 0, B: 1, Left: 1, Right: 0}, {A: 0, B: 2, Left: 0, Right: -1}, {A: 0, B: 3, Left: -1, Right: 1}, {A: 1, B: 2, Left: -1, Right: 0}, {A: 1, B: 3, Left: 1, Right: -1}}
	if got := impl.EdgesOf(m); !slices.Equal(got, want) {
		t.Errorf("EdgesOf(%v) = %v, want %v", m, got, want)
	}
}

// wantedPoints returns the points that are ends of an edge with one triangle, and the
// others.
func wantedPoints(m impl.Mesh) ([]int, []int) {
	var boundary, interior []int
	for i := range m.Points {
		onBoundary := func(e impl.Edge) bool { return (e.A == i || e.B == i) && min(e.Left, e.Right) < 0 }
		if slices.ContainsFunc(wantedEdges(m), onBoundary) {
			boundary = append(boundary, i)
		} else {
			interior = append(interior, i)
		}
	}
	return boundary, interior
}

func TestP15BoundaryAndInteriorPoints(t *testing.T) {
	for _, m := range sampleMeshes() {
		boundary, interior := wantedPoints(m)
		sameInts(t, impl.BoundaryPoints(m), boundary, "BoundaryPoints", m)
		sameInts(t, impl.InteriorPoints(m), interior, "InteriorPoints", m)
	}
	grid, ring := gridMesh(3, 3), ringMesh()
	sameInts(t, impl.InteriorPoints(grid), []int{5, 6, 9, 10}, "InteriorPoints", grid)
	sameInts(t, impl.BoundaryPoints(grid), []int{0, 1, 2, 3, 4, 7, 8, 11, 12, 13, 14, 15}, "BoundaryPoints", grid)
	sameInts(t, impl.InteriorPoints(ring), nil, "InteriorPoints", ring)
	sameInts(t, impl.InteriorPoints(simpleMeshes()[0]), nil, "InteriorPoints", simpleMeshes()[0])
	sameInts(t, impl.BoundaryPoints(simpleMeshes()[0]), []int{0, 1, 2}, "BoundaryPoints", simpleMeshes()[0])
}

// wantedArea is MeshArea for a mesh, computed without the program.
func wantedArea(m impl.Mesh) impl.Rat {
	sum := new(big.Rat)
	for _, u := range m.Triangles {
		l := cornersOf(m, u)
		sum = bigSum(sum, bigProduct(bigDoubleArea(l[0], l[1], l[2]), big.NewRat(1, 2)))
	}
	return ratOrZero(sum)
}

func TestP15MeshArea(t *testing.T) {
	for _, m := range sampleMeshes() {
		sameRatOfMesh(t, impl.MeshArea(m), wantedArea(m), "MeshArea", m)
	}
	tests := []struct {
		m    impl.Mesh
		want impl.Rat
	}{
		{squareWithCenter(), smallRat(4, 1)}, {gridMesh(12, 2), smallRat(24, 1)}, {ringMesh(), smallRat(8, 1)},
		{simpleMeshes()[0], smallRat(2, 1)}, {meshAt(5, []int64{0, 0, 1, 0, 0, 1}, 1, 2, 0), smallRat(1, 50)},
	}
	for _, c := range tests {
		sameRatOfMesh(t, impl.MeshArea(c.m), c.want, "MeshArea", c.m)
	}
}

// flatMesh returns triangles of these double areas and of height 1, one above the
// other.
func flatMesh(doubleAreas ...impl.Rat) impl.Mesh {
	var m impl.Mesh
	for i, width := range doubleAreas {
		y := int64(2 * i)
		m.Points = append(m.Points, smallPoint(0, y, 1), impl.Point{X: width, Y: smallRat(y, 1)}, smallPoint(0, y+1, 1))
		m.Triangles = append(m.Triangles, impl.Tri{A: 3 * i, B: 3*i + 1, C: 3*i + 2})
	}
	return m
}

func TestP15MeshAreaOfMoreThanMaxRatLimbs(t *testing.T) {
	share, other := impl.RatSub(longCenter().X, impl.RatFromInt(1)), impl.RatSub(longCenter().Y, impl.RatFromInt(1))
	rest := impl.RatSub(impl.RatFromInt(2), share)
	twice := func(r impl.Rat) impl.Rat { return impl.RatMul(impl.RatFromInt(2), r) }
	tests := []struct {
		m    impl.Mesh
		want impl.Rat
	}{
		{flatMesh(share, other), impl.Rat{}},
		{flatMesh(share, rest), smallRat(1, 1)},
		{flatMesh(share, rest, twice(other)), impl.RatAdd(other, impl.RatFromInt(1))},
		// The sum of all areas is not too large, but that of the first two is.
		{flatMesh(share, twice(other), rest), impl.Rat{}},
		{flatMesh(rest, twice(other), share), impl.Rat{}},
		// The area is too large, twice the area is not.
		{flatMesh(longRats()[2]), impl.Rat{}},
		{flatMesh(longRats()[0]), impl.RatMul(longRats()[0], smallRat(1, 2))},
		{flatMesh(longRats()[0], longRats()[0]), longRats()[0]},
		{flatMesh(longRats()[0], longRats()[0], smallRat(2, 1)), impl.Rat{}},
	}
	for _, c := range tests {
		checkMesh(t, c.m, true)
		sameRatOfMesh(t, impl.MeshArea(c.m), c.want, "MeshArea", c.m)
	}
}

func checkTriangleAt(t *testing.T, m impl.Mesh, p impl.Point, want int) {
	t.Helper()
	if got := impl.TriangleAt(m, p); got != want {
		t.Errorf("TriangleAt(%v, %v) = %d, want %d", m, p, got, want)
	}
}

// wantedTriangle is TriangleAt for a mesh and a valid point.
func wantedTriangle(m impl.Mesh, p impl.Point) int {
	return slices.IndexFunc(m.Triangles, func(u impl.Tri) bool { return wantedSide(cornersOf(m, u), p) >= 0 })
}

// pointsNear returns the points and middles of edges of a mesh, points inside and
// outside of it, and points that are far away.
func pointsNear(m impl.Mesh) []impl.Point {
	points := append(slices.Clone(m.Points), smallPoint(0, 0, 1), smallPoint(-9, 5, 7), smallPoint(1000, 1000, 1))
	for i, p := range m.Points {
		q := m.Points[(i*i+1)%len(m.Points)]
		points = append(points, impl.Middle(p, q), impl.SubtractPoints(impl.AddPoints(q, q), p))
	}
	for k := range m.Triangles {
		points = append(points, impl.Centroid(impl.Corners(m, k)))
	}
	return points
}

func TestP15TriangleAt(t *testing.T) {
	for _, m := range sampleMeshes() {
		points := pointsNear(m)
		for i := range 12 {
			p := points[i*(len(points)-1)/11]
			checkTriangleAt(t, m, p, wantedTriangle(m, p))
		}
		for _, bad := range notPoints()[:2] {
			checkTriangleAt(t, m, bad, -1)
		}
	}
	m := squareWithCenter()
	for x := int64(-1); x <= 9; x++ {
		for y := int64(-1); y <= 9; y++ {
			p := smallPoint(x, y, 4)
			checkTriangleAt(t, m, p, wantedTriangle(m, p))
		}
	}
	for _, bad := range notPoints() {
		checkTriangleAt(t, m, bad, -1)
	}
}

// TestP15TriangleAtSharedPoints takes the first of several triangles with a point.
func TestP15TriangleAtSharedPoints(t *testing.T) {
	m := squareWithCenter()
	tests := []struct {
		p    impl.Point
		want int
	}{
		{smallPoint(1, 1, 1), 0}, {smallPoint(0, 0, 1), 0}, {smallPoint(2, 0, 1), 0}, {smallPoint(2, 2, 1), 1}, {smallPoint(0, 2, 1), 2},
		{smallPoint(3, 1, 2), 0}, {smallPoint(3, 3, 2), 1}, {smallPoint(1, 3, 2), 2}, {smallPoint(1, 1, 2), 0},
		{smallPoint(1, 0, 1), 0}, {smallPoint(2, 1, 1), 1}, {smallPoint(1, 2, 1), 2}, {smallPoint(0, 1, 1), 3},
		{smallPoint(1, 2, 2), 3}, {smallPoint(-1, 1, 1000000000), -1}, {smallPoint(1, 1, 1000000000), 0}, {smallPoint(3, 3, 1), -1},
	}
	for _, c := range tests {
		checkTriangleAt(t, m, c.p, c.want)
	}
	ring := ringMesh()
	checkTriangleAt(t, ring, smallPoint(3, 3, 2), -1)
	checkTriangleAt(t, ring, smallPoint(1, 1, 1), wantedTriangle(ring, smallPoint(1, 1, 1)))
}

// TestP15TriangleAtWithSidesOfMoreThanMaxRatLimbs looks at points for which SideOf is 0
// because an area is too large.
func TestP15TriangleAtWithSidesOfMoreThanMaxRatLimbs(t *testing.T) {
	m := squareWithCenter()
	checkTriangleAt(t, m, longCenter(), 0)
	checkTriangleAt(t, m, impl.Point{X: longRats()[0], Y: longRats()[1]}, 0)
	checkTriangleAt(t, gridMesh(1, 1), longCenter(), 0)
	checkTriangleAt(t, gridMesh(1, 1), impl.Point{X: longCenter().X, Y: smallRat(2, 1)}, -1)
}

func TestP15SameMesh(t *testing.T) {
	list := []impl.Mesh{{}, {Points: []impl.Point{}, Triangles: []impl.Tri{}}}
	m := squareWithCenter()
	for _, corner := range []impl.Tri{{A: 4, B: 0, C: 1, Region: 1}, {A: 4, B: 0, C: 1, Level: 1}, {A: 3, B: 0, C: 1}, {A: 4, B: 3, C: 1}, {A: 4, B: 0, C: 3}} {
		list = append(list, withTriangle(m, 0, corner))
	}
	list = append(list, m, further(m, m.Points[:1]), further(m, nil, m.Triangles[0]), withTriangle(m, 3, impl.Tri{A: 4, B: 3, C: 1}))
	list = append(list, impl.Mesh{Points: m.Points}, impl.Mesh{Triangles: m.Triangles}, withPoint(m, 4, smallPoint(1, 2, 2)), withPoint(m, 0, smallPoint(0, 1, 2)), withPoint(m, 4, impl.Point{}))
	for i, a := range list {
		for j, b := range list {
			want := i == j || i+j == 1
			copied := further(impl.Mesh{}, listWithSpare(b.Points), b.Triangles...)
			if got := impl.SameMesh(a, copied); got != want {
				t.Errorf("SameMesh(%v, %v) = %t, want %t", a, copied, got, want)
			}
		}
	}
	for _, m := range notMeshes() {
		if !impl.SameMesh(m, impl.Mesh{Points: slices.Clone(m.Points), Triangles: slices.Clone(m.Triangles)}) {
			t.Errorf("SameMesh(%v, %v) = false, want true", m, m)
		}
	}
}

func TestP15InvalidArgumentsOfMeshes(t *testing.T) {
	for _, m := range notMeshes() {
		if got := impl.EdgesOf(m); len(got) > 0 {
			t.Errorf("EdgesOf(%v) = %v, want nil", m, got)
		}
		sameInts(t, impl.BoundaryPoints(m), nil, "BoundaryPoints", m)
		sameInts(t, impl.InteriorPoints(m), nil, "InteriorPoints", m)
		sameRatOfMesh(t, impl.MeshArea(m), impl.Rat{}, "MeshArea", m)
		checkTriangleAt(t, m, smallPoint(1, 1, 2), -1)
		checkTriangleAt(t, m, impl.Point{}, -1)
	}
}

// meshWithSpare returns a copy of m with a point and a triangle behind its ends, which
// no function may change.
func meshWithSpare(m impl.Mesh) impl.Mesh {
	triangles := append(slices.Clone(m.Triangles), impl.Tri{A: 77})
	return impl.Mesh{Points: listWithSpare(m.Points), Triangles: triangles[:len(m.Triangles)]}
}

func keepsMesh(m impl.Mesh, want impl.Mesh) bool {
	n := len(m.Triangles)
	return keepsList(m.Points, want.Points) && slices.Equal(m.Triangles[:n+1], append(slices.Clone(want.Triangles), impl.Tri{A: 77}))
}

// meshLimbs returns the lists of limbs of everything that the functions compute from m,
// and overwrites the lists that contain them.
func meshLimbs(m impl.Mesh) [][]int {
	limbs := limbsOf(impl.Point{X: impl.MeshArea(m)})
	for k := range m.Triangles {
		corners := impl.Corners(m, k)
		for _, p := range corners {
			limbs = append(limbs, limbsOf(p)...)
		}
		clear(corners[:cap(corners)])
	}
	edges := impl.EdgesOf(m)
	for _, e := range edges {
		limbs = append(limbs, []int{e.A, e.B, e.Left, e.Right})
	}
	clear(edges[:cap(edges)])
	return append(limbs, impl.BoundaryPoints(m), impl.InteriorPoints(m))
}

// fewMeshes returns meshes of all kinds and values that are not meshes.
func fewMeshes() []impl.Mesh {
	s := source(35)
	bad := withPoint(squareWithCenter(), 0, notPoints()[0])
	return []impl.Mesh{squareWithCenter(), ringMesh(), turned(gridMesh(2, 2)), image(squareWithCenter(), s.corners(3)), bad, withTriangle(gridMesh(1, 1), 0, impl.Tri{A: 1, B: 1, C: 1})}
}

func TestP15MeshArgumentsAreKept(t *testing.T) {
	for _, want := range append(fewMeshes(), notMeshes()...) {
		m, p := meshWithSpare(want), pointWithSpare(smallPoint(1, 1, 2))
		impl.IsMesh(m)
		meshLimbs(m)
		impl.TriangleAt(m, p)
		impl.SameMesh(m, m)
		if !keepsMesh(m, want) || !keepsPoint(p, smallPoint(1, 1, 2)) {
			t.Fatalf("the arguments %v and %v were changed to %v and %v", want, smallPoint(1, 1, 2), m, p)
		}
	}
}

// TestP15MeshResultsAreNew overwrites one list after the other and looks for the change
// in the lists after it and in the argument.
func TestP15MeshResultsAreNew(t *testing.T) {
	for _, want := range fewMeshes() {
		m := meshWithSpare(want)
		wants, results := meshLimbs(want), meshLimbs(m)
		for i, limbs := range results {
			sameNat(t, limbs, wants[i], "a list after changes of others")
			overwrite(limbs)
		}
		if !keepsMesh(m, want) {
			t.Fatalf("changes of the results for %v reach the argument", want)
		}
		for i, limbs := range meshLimbs(m) {
			sameNat(t, limbs, wants[i], "a list after changes of all results")
		}
	}
}
