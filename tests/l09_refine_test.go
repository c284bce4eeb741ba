package tests

import (
	"math"
	"math/big"
	"slices"
	"testing"

	"loop.example/g00812/impl"
)

// lowered returns the mesh with levels that leave room for refinement.
func lowered(m impl.Mesh) impl.Mesh {
	next := impl.Mesh{Points: m.Points, Triangles: slices.Clone(m.Triangles)}
	for k := range next.Triangles {
		next.Triangles[k].Level %= 20
	}
	return next
}

// refinableMeshes returns meshes with refinement edges, regions and levels of all kinds.
func refinableMeshes() []impl.Mesh {
	s := source(51)
	list := []impl.Mesh{impl.SquareMesh(1), impl.SquareMesh(2), impl.SquareMesh(3), impl.CornerMesh(), lowered(s.mixed(gridMesh(4, 4)))}
	for _, m := range append(simpleMeshes(), brokenUpMeshes()...) {
		list = append(list, m, lowered(s.mixed(m)), lowered(s.mixed(turned(m))), lowered(s.mixed(image(m, s.corners(2)))))
	}
	return list
}

// indices returns up to most numbers, some of them more than once, and some of them
// not indices of n elements.
func (s *source) indices(n int, most int) []int {
	others := []int{-1, n, n + 1, math.MinInt, math.MaxInt, 1 << 32, -1 << 32}
	var list []int
	for range s.upTo(most + 1) {
		if s.upTo(6) == 0 {
			list = append(list, others[s.upTo(len(others))])
		} else {
			list = append(list, s.upTo(n))
		}
	}
	return list
}

// isMarkedIn tells for each of n edges whether it is in a list.
func isMarkedIn(list []int, n int) []bool {
	isMarked := make([]bool, n)
	for i := range isMarked {
		isMarked[i] = slices.Contains(list, i)
	}
	return isMarked
}

func markedOf(isMarked []bool) []int {
	var marks []int
	for i, is := range isMarked {
		if is {
			marks = append(marks, i)
		}
	}
	return marks
}

// edgeWith returns the index of the edge with these two ends, or -1.
func edgeWith(edges []impl.Edge, a int, b int) int {
	return slices.IndexFunc(edges, func(e impl.Edge) bool { return e.A == min(a, b) && e.B == max(a, b) })
}

// sideIndices returns the indices of the edges of each triangle, that from B to C first.
func sideIndices(m impl.Mesh) [][3]int {
	edges := wantedEdges(m)
	var sides [][3]int
	for _, u := range m.Triangles {
		sides = append(sides, [3]int{edgeWith(edges, u.B, u.C), edgeWith(edges, u.A, u.B), edgeWith(edges, u.C, u.A)})
	}
	return sides
}

// isClosedSet reports whether no triangle needs a further marked edge.
func isClosedSet(sides [][3]int, isMarked []bool) bool {
	return !slices.ContainsFunc(sides, func(s [3]int) bool { return !isMarked[s[0]] && (isMarked[s[1]] || isMarked[s[2]]) })
}

// wantedEdgeMarks is EdgeMarks for a mesh, computed without the program.
func wantedEdgeMarks(m impl.Mesh, list []int) []int {
	var marks []int
	for k, s := range sideIndices(m) {
		if slices.Contains(list, k) {
			marks = append(marks, s[0])
		}
	}
	slices.Sort(marks)
	return slices.Compact(marks)
}

// wantedClosure is CloseMarks for a mesh, computed without the program.
func wantedClosure(m impl.Mesh, marks []int) []int {
	sides, isMarked := sideIndices(m), isMarkedIn(marks, len(wantedEdges(m)))
	for !isClosedSet(sides, isMarked) {
		for _, s := range sides {
			isMarked[s[0]] = isMarked[s[0]] || isMarked[s[1]] || isMarked[s[2]]
		}
	}
	return markedOf(isMarked)
}

// wantedMiddle is Middle for valid points, computed without the program.
func wantedMiddle(p impl.Point, q impl.Point) impl.Point {
	half := big.NewRat(1, 2)
	x := bigProduct(bigSum(bigOfRat(p.X), bigOfRat(q.X)), half)
	return pointOrZero(x, bigProduct(bigSum(bigOfRat(p.Y), bigOfRat(q.Y)), half))
}

// wantedParts returns the parts of a triangle, given the middles of its sides from B to
// C, A to B and C to A, or -1 where a side is not bisected.
func wantedParts(u impl.Tri, opposite int, first int, second int) []impl.Tri {
	part := func(a, b, c, levels int) impl.Tri {
		return impl.Tri{A: a, B: b, C: c, Region: u.Region, Level: u.Level + levels}
	}
	if opposite < 0 {
		return []impl.Tri{u}
	}
	left, right := []impl.Tri{part(opposite, u.A, u.B, 1)}, []impl.Tri{part(opposite, u.C, u.A, 1)}
	if first >= 0 {
		left = []impl.Tri{part(first, opposite, u.A, 2), part(first, u.B, opposite, 2)}
	}
	if second >= 0 {
		right = []impl.Tri{part(second, opposite, u.C, 2), part(second, u.A, opposite, 2)}
	}
	return append(left, right...)
}

// bisection returns the value that BisectEdges tests for validity, computed without the
// program.
func bisection(m impl.Mesh, marks []int) impl.Mesh {
	edges := wantedEdges(m)
	middles := slices.Repeat([]int{-1}, len(edges))
	next := impl.Mesh{Points: slices.Clone(m.Points)}
	for _, i := range wantedClosure(m, marks) {
		middles[i] = len(next.Points)
		next.Points = append(next.Points, wantedMiddle(m.Points[edges[i].A], m.Points[edges[i].B]))
	}
	for k, s := range sideIndices(m) {
		next.Triangles = append(next.Triangles, wantedParts(m.Triangles[k], middles[s[0]], middles[s[1]], middles[s[2]])...)
	}
	return next
}

// wantedBisection is BisectEdges for a mesh.
func wantedBisection(m impl.Mesh, marks []int) (impl.Mesh, bool) {
	next := bisection(m, marks)
	if !impl.IsMesh(next) {
		return m, false
	}
	return next, true
}

// checkRefined compares the result of a refinement with what is wanted.
func checkRefined(t *testing.T, name string, m impl.Mesh, list []int, got impl.Mesh, ok bool, want impl.Mesh, wantOk bool) {
	t.Helper()
	if ok != wantOk || !equalMeshes(got, want) {
		t.Errorf("%s(%v, %v) = %v, %t, want %v, %t", name, m, list, got, ok, want, wantOk)
	}
}

func checkBisection(t *testing.T, m impl.Mesh, marks []int) bool {
	t.Helper()
	got, ok := impl.BisectEdges(m, marks)
	want, wantOk := wantedBisection(m, marks)
	checkRefined(t, "BisectEdges", m, marks, got, ok, want, wantOk)
	return wantOk
}

// checkSameDomain checks that next is a mesh with the area of m, and that it has the
// points of m.
func checkSameDomain(t *testing.T, m impl.Mesh, next impl.Mesh) {
	t.Helper()
	checkMesh(t, next, true)
	sameRatOfMesh(t, impl.MeshArea(next), wantedArea(m), "MeshArea", next)
	if len(next.Points) < len(m.Points) || !slices.EqualFunc(next.Points[:len(m.Points)], m.Points, equalPoints) {
		t.Errorf("%v does not have the points of %v", next, m)
	}
}

func TestP3RefinementKeepsAMeshConforming(t *testing.T) {
	s := source(52)
	refined := 0
	for _, m := range refinableMeshes() {
		next := m
		for range 3 {
			list := [][]int{s.indices(len(next.Triangles), 3), s.indices(len(wantedEdges(next)), 2)}
			finer, ok := impl.RefineMesh(next, list[0])
			if s.upTo(2) == 0 {
				finer, ok = impl.BisectEdges(next, list[1])
			}
			if ok && len(finer.Triangles) > len(next.Triangles) {
				checkSameDomain(t, m, finer)
				next = finer
				refined++
			}
		}
		if !isWithinLimits(next) || !isConforming(next) {
			t.Errorf("%v, refined from %v, is not conforming", next, m)
		}
	}
	if refined < 70 {
		t.Errorf("meshes were refined %d times only", refined)
	}
}

// TestP3PartsAreWithinTheirTriangles adds up, for each triangle, the areas of the parts
// with their centers in it.
func TestP3PartsAreWithinTheirTriangles(t *testing.T) {
	s := source(53)
	for _, m := range refinableMeshes() {
		next, ok := impl.BisectEdges(m, s.indices(len(wantedEdges(m)), 3))
		areas := slices.Repeat([]impl.Rat{impl.RatFromInt(0)}, len(m.Triangles))
		for k, u := range next.Triangles {
			l := impl.Corners(next, k)
			i := impl.TriangleAt(m, impl.Centroid(l))
			areas[i] = impl.RatAdd(areas[i], impl.AreaOf(l))
			parent, levels := m.Triangles[i], u.Level-m.Triangles[i].Level
			share := impl.RatMul(impl.AreaOf(impl.Corners(m, i)), impl.RatOf(1, 1<<max(levels, 0)))
			if u.Region != parent.Region || levels < 0 || levels > 2 || !equalRats(impl.AreaOf(l), share) {
				t.Errorf("%v is a part of %v", u, parent)
			}
		}
		for i := range m.Triangles {
			sameRatOfMesh(t, areas[i], impl.AreaOf(impl.Corners(m, i)), "the area of the parts of a triangle", next)
		}
		if !ok && !equalMeshes(next, m) {
			t.Errorf("BisectEdges(%v) = %v, false", m, next)
		}
	}
}

// generations returns the corner lists of a triangle, its halves and their halves.
func generations(l []impl.Point) [][]impl.Point {
	list := [][]impl.Point{l}
	for i := range 3 {
		a, b, c := list[i][0], list[i][1], list[i][2]
		middle := wantedMiddle(b, c)
		list = append(list, []impl.Point{middle, a, b}, []impl.Point{middle, c, a})
	}
	return list
}

// similarity tells a triangle's shape apart from others, whatever its size and place
// are: the share of each side, from A to B on, in the sum of the squares.
func similarity(l []impl.Point) [3]string {
	var squares [3]*big.Rat
	sum := new(big.Rat)
	for i := range l {
		p, q := bigOfPoint(l[i]), bigOfPoint(l[(i+1)%3])
		x, y := new(big.Rat).Sub(p.x, q.x), new(big.Rat).Sub(p.y, q.y)
		squares[i] = x.Add(x.Mul(x, x), y.Mul(y, y))
		sum.Add(sum, squares[i])
	}
	var shares [3]string
	for i, square := range squares {
		shares[i] = square.Quo(square, sum).String()
	}
	return shares
}

// checkAngles checks that the triangles of next have the shapes that the first two
// bisections of their ancestors in m produce.
func checkAngles(t *testing.T, m impl.Mesh, next impl.Mesh) {
	t.Helper()
	shapes := make([]map[[3]string]bool, len(m.Triangles))
	var lists [][]impl.Point
	for i, u := range m.Triangles {
		shapes[i] = map[[3]string]bool{}
		for _, l := range generations(cornersOf(m, u)) {
			shapes[i][similarity(l)] = true
			lists = append(lists, l)
		}
		if len(shapes[i]) > 4 {
			t.Errorf("triangle %d of %v has %d similarity classes", i, m, len(shapes[i]))
		}
	}
	for k := range next.Triangles {
		l := impl.Corners(next, k)
		if i := impl.TriangleAt(m, impl.Centroid(l)); !shapes[i][similarity(l)] {
			t.Errorf("the angles of triangle %d of %v do not belong to triangle %d of %v", k, next, i, m)
		}
	}
	worst, least := impl.WorstShape(next), leastShape(lists...)
	quarter := impl.RatMul(impl.WorstShape(m), smallRat(1, 4))
	if !impl.RatOk(worst) || impl.RatCmp(worst, least) < 0 || impl.RatCmp(worst, quarter) < 0 {
		t.Errorf("WorstShape(%v) = %v, want at least %v and %v", next, worst, least, quarter)
	}
}

// TestP3AnglesUnderRepeatedRefinement refines around one point, or at random, until
// there is no room for more. It leaves out every third mesh because it takes long.
func TestP3AnglesUnderRepeatedRefinement(t *testing.T) {
	s := source(54)
	for i, m := range refinableMeshes() {
		if i%3 == 1 {
			continue
		}
		next, steps := m, 0
		for ok := true; ok && steps < 40; steps++ {
			k := s.upTo(len(next.Triangles))
			if i%3 == 0 {
				k = impl.TriangleAt(next, m.Points[0])
			}
			next, ok = impl.RefineMesh(next, []int{k})
		}
		checkSameDomain(t, m, next)
		checkAngles(t, m, next)
		if steps < 2 {
			t.Errorf("%v could not be refined", m)
		}
	}
}

func TestP3AnglesOfRightTriangles(t *testing.T) {
	half := smallRat(1, 2)
	for _, m := range []impl.Mesh{impl.SquareMesh(1), impl.SquareMesh(2), impl.SquareMesh(3), impl.CornerMesh()} {
		sameRatOfMesh(t, impl.WorstShape(m), half, "WorstShape", m)
		steps := 0
		for next, ok := impl.RefineMesh(m, []int{0}); ok; next, ok = impl.RefineMesh(next, []int{0}) {
			sameRatOfMesh(t, impl.WorstShape(next), half, "WorstShape", next)
			checkAngles(t, m, next)
			steps++
		}
		if steps < 2 {
			t.Errorf("%v was refined %d times only", m, steps)
		}
	}
}

// leastShape returns the least ShapeOf of some corner lists, computed without the program.
func leastShape(lists ...[]impl.Point) impl.Rat {
	least := bigOfRat(wantedShape(lists[0]))
	for _, l := range lists {
		if shape := bigOfRat(wantedShape(l)); shape.Cmp(least) < 0 {
			least = shape
		}
	}
	return ratOfBig(least)
}

// TestP3AnglesOfRepeatedRefineAll reaches all shapes that there are.
func TestP3AnglesOfRepeatedRefineAll(t *testing.T) {
	s := source(55)
	for range 20 {
		m := impl.Mesh{Points: s.corners(1), Triangles: []impl.Tri{{A: 0, B: 1, C: 2, Region: 1, Level: 5}}}
		once, _ := impl.RefineMesh(m, []int{0})
		first, _ := impl.RefineAll(m)
		second, ok := impl.RefineAll(first)
		for _, next := range []impl.Mesh{once, first, second} {
			checkSameDomain(t, m, next)
			checkAngles(t, m, next)
		}
		lists := generations(m.Points)
		sameRatOfMesh(t, impl.WorstShape(once), leastShape(lists[1:3]...), "WorstShape", once)
		sameRatOfMesh(t, impl.WorstShape(first), leastShape(lists[3:]...), "WorstShape", first)
		sameRatOfMesh(t, impl.WorstShape(second), leastShape(lists[3:]...), "WorstShape", second)
		if !ok || len(second.Triangles) != 16 || len(second.Points) != 15 {
			t.Errorf("RefineAll(%v) = %v, %t", first, second, ok)
		}
	}
}

func TestP3ClosuresAreClosed(t *testing.T) {
	s := source(56)
	for _, m := range append(refinableMeshes(), sampleMeshes()...) {
		n, sides := len(wantedEdges(m)), sideIndices(m)
		for range 4 {
			list, more := s.indices(n, 3), s.indices(n, 3)
			closure := impl.CloseMarks(m, list)
			sameInts(t, impl.CloseMarks(m, closure), closure, "CloseMarks of a closure", m)
			if !isClosedSet(sides, isMarkedIn(closure, n)) {
				t.Errorf("CloseMarks(%v, %v) = %v, which is not closed", m, list, closure)
			}
			for _, i := range list {
				if 0 <= i && i < n && !slices.Contains(closure, i) {
					t.Errorf("CloseMarks(%v, %v) = %v, without %d", m, list, closure, i)
				}
			}
			union := markedOf(isMarkedIn(append(slices.Clone(closure), impl.CloseMarks(m, more)...), n))
			sameInts(t, impl.CloseMarks(m, append(list, more...)), union, "CloseMarks of two sets", m)
		}
	}
}

// TestP3ClosuresAreLeast compares with all closed sets that contain the marks.
func TestP3ClosuresAreLeast(t *testing.T) {
	s := source(57)
	for _, m := range []impl.Mesh{simpleMeshes()[0], gridMesh(1, 1), squareWithCenter(), s.mixed(gridMesh(1, 1)), s.mixed(squareWithCenter()), s.mixed(squareWithCenter())} {
		sides, n := sideIndices(m), len(wantedEdges(m))
		var closed []int
		for set := range 1 << n {
			isMarked := make([]bool, n)
			for i := range n {
				isMarked[i] = set>>i&1 == 1
			}
			if isClosedSet(sides, isMarked) {
				closed = append(closed, set)
			}
		}
		for set := range 1 << n {
			var marks, want []int
			least := 1<<n - 1
			for _, c := range closed {
				if c&set == set {
					least &= c
				}
			}
			for i := range n {
				if set>>i&1 == 1 {
					marks = append(marks, i)
				}
				if least>>i&1 == 1 {
					want = append(want, i)
				}
			}
			sameInts(t, impl.CloseMarks(m, marks), want, "CloseMarks", m)
		}
	}
}

// chainMesh returns a row of squares in which the refinement edge of each triangle, from
// the left to the right, belongs to the next one.
func chainMesh(columns int) impl.Mesh {
	m := gridMesh(columns, 1)
	for k := 0; k < len(m.Triangles); k += 2 {
		u := m.Triangles[k]
		m.Triangles[k] = impl.Tri{A: u.C, B: u.A, C: u.B}
	}
	return m
}

func TestP3ClosuresOfLongChains(t *testing.T) {
	for columns := 1; columns <= 19; columns++ {
		m := chainMesh(columns)
		backwards := impl.Mesh{Points: m.Points, Triangles: slices.Clone(m.Triangles)}
		slices.Reverse(backwards.Triangles)
		left, right := edgeWith(wantedEdges(m), 0, columns+1), edgeWith(wantedEdges(m), columns, 2*columns+1)
		for _, chain := range []impl.Mesh{m, backwards} {
			closure := impl.CloseMarks(chain, []int{left})
			sameInts(t, closure, wantedClosure(chain, []int{left}), "CloseMarks", chain)
			if len(closure) != 2*columns+1 {
				t.Errorf("the closure of %d in %v has %d edges, want all that are crossed", left, chain, len(closure))
			}
			sameInts(t, impl.CloseMarks(chain, []int{right}), []int{right}, "CloseMarks", chain)
			checkBisection(t, chain, []int{left})
			checkBisection(t, chain, []int{right})
		}
	}
}

func TestP15EdgeMarks(t *testing.T) {
	s := source(58)
	for _, m := range append(refinableMeshes(), sampleMeshes()...) {
		n := len(m.Triangles)
		sameInts(t, impl.EdgeMarks(m, nil), nil, "EdgeMarks of nil", m)
		for _, list := range [][]int{s.order(n), s.indices(n, 3), s.indices(n, 2*n), {n - 1, 0, n - 1}, {-1, n, math.MinInt, math.MaxInt}} {
			sameInts(t, impl.EdgeMarks(m, list), wantedEdgeMarks(m, list), "EdgeMarks", m)
		}
	}
	m := squareWithCenter()
	for k, want := range []int{0, 3, 5, 1} {
		sameInts(t, impl.EdgeMarks(m, []int{k}), []int{want}, "EdgeMarks", m)
	}
	sameInts(t, impl.EdgeMarks(m, []int{3, 9, 2, -1, 3}), []int{1, 5}, "EdgeMarks", m)
	// The diagonal is the refinement edge of both triangles.
	sameInts(t, impl.EdgeMarks(gridMesh(1, 1), []int{1, 0}), []int{2}, "EdgeMarks", gridMesh(1, 1))
}

func TestP15CloseMarks(t *testing.T) {
	s := source(59)
	for _, m := range append(refinableMeshes(), sampleMeshes()...) {
		n := len(wantedEdges(m))
		sameInts(t, impl.CloseMarks(m, nil), nil, "CloseMarks of nil", m)
		for _, list := range [][]int{s.order(n), s.indices(n, 1), s.indices(n, 4), s.indices(n, 2*n), {n - 1}, {n - 1, 0, n - 1}, {-1, n, math.MinInt, math.MaxInt}} {
			sameInts(t, impl.CloseMarks(m, list), wantedClosure(m, list), "CloseMarks", m)
		}
	}
	m := squareWithCenter()
	for i, want := range [][]int{{0}, {1}, {0, 1, 2}, {3}, {0, 3, 4}, {5}, {3, 5, 6}, {1, 5, 7}} {
		sameInts(t, impl.CloseMarks(m, []int{i}), want, "CloseMarks", m)
		sameInts(t, impl.CloseMarks(m, []int{8, i, -1, i}), want, "CloseMarks", m)
	}
}

// refinements returns edges to be bisected: none, single ones, many and all.
func (s *source) refinements(n int) [][]int {
	return [][]int{nil, {s.upTo(n)}, {n - 1}, s.indices(n, 2), s.indices(n, 4), s.indices(n, n), s.order(n), {-1, n, math.MinInt, math.MaxInt}}
}

func TestP15BisectEdges(t *testing.T) {
	s := source(60)
	refined, failed := 0, 0
	for _, m := range append(refinableMeshes(), sampleMeshes()...) {
		for _, marks := range s.refinements(len(wantedEdges(m))) {
			if checkBisection(t, m, marks) {
				refined++
			} else {
				failed++
			}
		}
	}
	if refined < 300 || failed < 100 {
		t.Errorf("%d meshes were refined and %d were not", refined, failed)
	}
}

// TestP15BisectEdgesOfASquare uses every set of marks.
func TestP15BisectEdgesOfASquare(t *testing.T) {
	s := source(61)
	for _, m := range []impl.Mesh{gridMesh(1, 1), squareWithCenter(), lowered(s.mixed(squareWithCenter()))} {
		n := len(wantedEdges(m))
		for set := range 1 << n {
			var marks []int
			for i := range n {
				if set>>i&1 == 1 {
					marks = append(marks, i)
				}
			}
			if !checkBisection(t, m, marks) {
				t.Errorf("BisectEdges(%v, %v) is too large", m, marks)
			}
		}
	}
}

func TestP15BisectEdgesInText(t *testing.T) {
	points := "p 0,0\np 2,0\np 2,2\np 0,2\np 1,1\n"
	tests := []struct {
		marks []int
		want  string
	}{
		{nil, points + "t 4 0 1 0 0\nt 4 1 2 0 0\nt 4 2 3 0 0\nt 4 3 0 0 0\n"},
		{[]int{3}, points + "p 2,1\nt 4 0 1 0 0\nt 5 4 1 0 1\nt 5 2 4 0 1\nt 4 2 3 0 0\nt 4 3 0 0 0\n"},
		{[]int{2}, points + "p 1,0\np 0,1\np 1/2,1/2\nt 7 5 4 0 2\nt 7 0 5 0 2\nt 5 1 4 0 1\nt 4 1 2 0 0\nt 4 2 3 0 0\nt 6 4 3 0 1\nt 7 6 0 0 2\nt 7 4 6 0 2\n"},
		{[]int{4, 2}, points + "p 1,0\np 0,1\np 1/2,1/2\np 2,1\np 3/2,1/2\nt 7 5 4 0 2\nt 7 0 5 0 2\nt 9 5 1 0 2\nt 9 4 5 0 2\nt 9 8 4 0 2\nt 9 1 8 0 2\nt 8 2 4 0 1\nt 4 2 3 0 0\nt 6 4 3 0 1\nt 7 6 0 0 2\nt 7 4 6 0 2\n"},
	}
	for _, c := range tests {
		m, ok := impl.BisectEdges(squareWithCenter(), c.marks)
		if text := impl.FormatMesh(m); !ok || text != c.want {
			t.Errorf("BisectEdges of the square for %v = %q, %t, want %q", c.marks, text, ok, c.want)
		}
	}
}

func TestP15RefineMeshAndRefineAll(t *testing.T) {
	s := source(62)
	for _, m := range append(refinableMeshes(), sampleMeshes()...) {
		n := len(m.Triangles)
		for _, list := range s.refinements(n) {
			got, ok := impl.RefineMesh(m, list)
			want, wantOk := wantedBisection(m, wantedEdgeMarks(m, list))
			checkRefined(t, "RefineMesh", m, list, got, ok, want, wantOk)
		}
		all := s.order(len(wantedEdges(m)))
		got, ok := impl.RefineAll(m)
		want, wantOk := wantedBisection(m, all)
		checkRefined(t, "RefineAll", m, all, got, ok, want, wantOk)
		if edges := len(all); ok && (len(got.Triangles) != 4*n || len(got.Points) != len(m.Points)+edges || len(wantedEdges(got)) != 2*edges+3*n) {
			t.Errorf("RefineAll(%v) = %v", m, got)
		}
	}
}

// TestP15RefineAllKeepsTheOrder looks at the four parts of each triangle.
func TestP15RefineAllKeepsTheOrder(t *testing.T) {
	for _, m := range []impl.Mesh{squareWithCenter(), gridMesh(2, 2), impl.CornerMesh()} {
		next, ok := impl.RefineAll(m)
		if !ok || len(next.Triangles) != 4*len(m.Triangles) {
			t.Fatalf("RefineAll(%v) = %v, %t", m, next, ok)
		}
		for k := range next.Triangles {
			center := impl.Centroid(impl.Corners(next, k))
			checkTriangleAt(t, m, center, k/4)
			if next.Triangles[k].Level != 2 {
				t.Errorf("triangle %d of %v has the wrong level", k, next)
			}
		}
	}
}

// fullMesh returns a mesh of 39 points and 48 triangles without the triangles with these
// even indices. The one behind each of them has its refinement edge on the boundary then.
func fullMesh(without ...int) impl.Mesh {
	m := gridMesh(12, 2)
	var triangles []impl.Tri
	for k, u := range m.Triangles {
		if !slices.Contains(without, k) {
			triangles = append(triangles, u)
		}
	}
	return impl.Mesh{Points: m.Points, Triangles: triangles}
}

func TestP15RefinementAtTheLimits(t *testing.T) {
	strip := gridMesh(19, 1)
	shorter := usedPart(strip, append(slices.Clone(strip.Triangles[:36]), strip.Triangles[37]))
	tests := []struct {
		m         impl.Mesh
		list      []int
		points    int
		triangles int
		want      bool
	}{
		{fullMesh(2), []int{2}, 40, 48, true}, {fullMesh(2), []int{0}, 39, 47, false}, {fullMesh(2), nil, 39, 47, true},
		{fullMesh(2, 8), []int{2}, 40, 47, true}, {fullMesh(2, 8), []int{0}, 40, 48, true}, {fullMesh(2, 8), []int{0, 1}, 40, 48, true},
		{fullMesh(2, 8), []int{2, 7}, 39, 46, false}, {fullMesh(2, 8, 20), []int{2, 7}, 39, 45, false},
		{fullMesh(), []int{0}, 39, 48, false}, {fullMesh(), nil, 39, 48, true}, {fullMesh(), []int{48, -1}, 39, 48, true},
		{strip, []int{0}, 40, 38, false}, {strip, nil, 40, 38, true}, {strip, []int{38}, 40, 38, true},
		{shorter, []int{36}, 40, 38, true}, {shorter, []int{0}, 40, 39, true}, {shorter, []int{0, 36}, 39, 37, false}, {shorter, []int{0, 2}, 39, 37, false},
		{impl.SquareMesh(3), []int{0, 2, 4}, 28, 40, true}, {impl.SquareMesh(3), []int{1, 6, 13, 18}, 29, 44, true},
	}
	for _, c := range tests {
		marks := wantedEdgeMarks(c.m, c.list)
		if ok := checkBisection(t, c.m, marks); ok != c.want {
			t.Errorf("the test has %t for %v and %v", c.want, c.m, c.list)
		}
		got, ok := impl.RefineMesh(c.m, c.list)
		if ok != c.want || len(got.Points) != c.points || len(got.Triangles) != c.triangles {
			t.Errorf("RefineMesh(%v, %v) = %v, %t, want %d points, %d triangles, %t", c.m, c.list, got, ok, c.points, c.triangles, c.want)
		}
	}
}

// widths returns the same double area n times.
func widths(n int) []impl.Rat {
	return slices.Repeat([]impl.Rat{smallRat(3, 1)}, n)
}

func TestP15RefineAllAtTheLimits(t *testing.T) {
	tests := []struct {
		m         impl.Mesh
		points    int
		triangles int
		want      bool
	}{
		{impl.SquareMesh(1), 13, 16, true}, {impl.CornerMesh(), 21, 24, true}, {gridMesh(3, 2), 35, 48, true}, {flatMesh(widths(6)...), 36, 24, true},
		{impl.SquareMesh(2), 13, 16, false}, {impl.SquareMesh(3), 25, 36, false}, {gridMesh(4, 2), 15, 16, false}, {flatMesh(widths(7)...), 21, 7, false},
		{fullMesh(), 39, 48, false}, {gridMesh(19, 1), 40, 38, false},
	}
	for _, c := range tests {
		got, ok := impl.RefineAll(c.m)
		if ok != c.want || len(got.Points) != c.points || len(got.Triangles) != c.triangles || !ok && !equalMeshes(got, c.m) {
			t.Errorf("RefineAll(%v) = %v, %t, want %d points, %d triangles, %t", c.m, got, ok, c.points, c.triangles, c.want)
		}
	}
}

// withLevel returns the mesh with this level in each triangle.
func withLevel(m impl.Mesh, level int) impl.Mesh {
	next := impl.Mesh{Points: m.Points, Triangles: slices.Clone(m.Triangles)}
	for k := range next.Triangles {
		next.Triangles[k].Level = level
	}
	return next
}

func TestP15LevelsAreAtMostSixty(t *testing.T) {
	// The third edge is refined after two others, so that there are parts of parts.
	levels := map[int][2]bool{57: {true, true}, 58: {true, true}, 59: {true, false}, 60: {false, false}}
	for level, want := range levels {
		m := withLevel(squareWithCenter(), level)
		for i, mark := range []int{0, 2} {
			if ok := checkBisection(t, m, []int{mark}); ok != want[i] {
				t.Errorf("BisectEdges(%v, %d) = _, %t, want %t", m, mark, ok, want[i])
			}
		}
		if _, ok := impl.RefineAll(m); ok != want[1] {
			t.Errorf("RefineAll(%v) = _, %t, want %t", m, ok, want[1])
		}
		next, ok := impl.RefineMesh(m, []int{4})
		checkRefined(t, "RefineMesh", m, nil, next, ok, m, true)
	}
	// Other triangles are not affected by one with the greatest level.
	m := withTriangle(squareWithCenter(), 2, impl.Tri{A: 4, B: 2, C: 3, Level: 60})
	for mark, want := range []bool{true, true, true, true, true, false, false, false} {
		if ok := checkBisection(t, m, []int{mark}); ok != want {
			t.Errorf("BisectEdges(%v, %d) = _, %t, want %t", m, mark, ok, want)
		}
	}
}

// TestP15MiddlesOfMoreThanMaxRatLimbs refines edges of which the middle, or only the sum
// of the ends, is too large.
func TestP15MiddlesOfMoreThanMaxRatLimbs(t *testing.T) {
	far, tiny, zero := longRats()[0], longRats()[2], smallRat(0, 1)
	before := impl.RatSub(far, smallRat(1, 1))
	tests := []struct {
		points []impl.Point
		want   [3]bool // for the edges from A to B, A to C and B to C
	}{
		{[]impl.Point{{X: before, Y: zero}, {X: far, Y: zero}, {X: far, Y: smallRat(1, 1)}}, [3]bool{}},
		{[]impl.Point{smallPoint(0, 0, 1), {X: far, Y: zero}, smallPoint(0, 1, 1)}, [3]bool{true, true, true}},
		{[]impl.Point{smallPoint(0, 0, 1), {X: tiny, Y: zero}, smallPoint(0, 1, 1)}, [3]bool{}},
		{[]impl.Point{smallPoint(0, 0, 1), {X: longRats()[4], Y: zero}, smallPoint(0, 1, 1)}, [3]bool{true, true, true}},
	}
	for i, c := range tests {
		for k, u := range []impl.Tri{{A: 2, B: 0, C: 1}, {A: 1, B: 2, C: 0}, {A: 0, B: 1, C: 2}} {
			m := impl.Mesh{Points: c.points, Triangles: []impl.Tri{u}}
			checkMesh(t, m, true)
			if ok := checkBisection(t, m, []int{k}); ok != c.want[k] {
				t.Errorf("BisectEdges of edge %d in case %d = _, %t, want %t", k, i, ok, c.want[k])
			}
			got, ok := impl.RefineMesh(m, []int{0})
			want, wantOk := wantedBisection(m, []int{k})
			checkRefined(t, "RefineMesh", m, []int{0}, got, ok, want, wantOk)
			got, ok = impl.RefineAll(m)
			want, wantOk = wantedBisection(m, []int{0, 1, 2})
			checkRefined(t, "RefineAll", m, nil, got, ok, want, wantOk)
		}
	}
}

// TestP15RefinementOfTrianglesThatAreThereTwice uses meshes in which areas that are too
// large hide that triangles overlap.
func TestP15RefinementOfTrianglesThatAreThereTwice(t *testing.T) {
	s := source(63)
	m := withPoint(meshAt(1, []int64{0, 0, 2, 0, 2, 2, 0, 2, 1, 1}, 0, 1, 4, 1, 2, 4, 2, 3, 4, 3, 0, 4), 4, longCenter())
	for k, u := range m.Triangles {
		turnedTwice := impl.Tri{A: u.B, B: u.C, C: u.A}
		for _, twice := range []impl.Mesh{m, further(m, nil, u), further(m, nil, turnedTwice), further(impl.Mesh{Points: m.Points}, nil, append([]impl.Tri{turnedTwice}, m.Triangles...)...)} {
			checkMesh(t, twice, true)
			for i := range wantedEdges(twice) {
				sameInts(t, impl.CloseMarks(twice, []int{i}), wantedClosure(twice, []int{i}), "CloseMarks", twice)
				checkBisection(t, twice, []int{i})
			}
			for _, list := range [][]int{{k}, {4}, {0, 4}, s.indices(5, 3), s.order(len(twice.Triangles))} {
				sameInts(t, impl.EdgeMarks(twice, list), wantedEdgeMarks(twice, list), "EdgeMarks", twice)
				got, ok := impl.RefineMesh(twice, list)
				want, wantOk := wantedBisection(twice, wantedEdgeMarks(twice, list))
				checkRefined(t, "RefineMesh", twice, list, got, ok, want, wantOk)
			}
			// A triangle apart from the others can be refined.
			apart := further(twice, []impl.Point{smallPoint(5, 0, 1), smallPoint(7, 0, 1), smallPoint(5, 2, 1)}, impl.Tri{A: 5, B: 6, C: 7})
			last := len(wantedEdges(apart)) - 1
			for i := range 3 {
				if !checkBisection(t, apart, []int{last - i}) {
					t.Errorf("BisectEdges(%v, %d) = _, false", apart, last-i)
				}
			}
		}
	}
}

// wantedWorst is WorstShape for a mesh, computed without the program.
func wantedWorst(m impl.Mesh) impl.Rat {
	var lists [][]impl.Point
	for _, u := range m.Triangles {
		l := cornersOf(m, u)
		if len(wantedShape(l).Den) == 0 {
			return impl.Rat{}
		}
		lists = append(lists, l)
	}
	return leastShape(lists...)
}

func TestP15WorstShape(t *testing.T) {
	far, some := longRats()[0], smallRat(3, 1)
	list := []impl.Mesh{flatMesh(far), flatMesh(some, far), flatMesh(far, some), flatMesh(some, far, some), flatMesh(longRats()[2], some)}
	for _, m := range slices.Concat(refinableMeshes(), sampleMeshes(), list) {
		sameRatOfMesh(t, impl.WorstShape(m), wantedWorst(m), "WorstShape", m)
	}
	for _, m := range list[:4] {
		sameRatOfMesh(t, impl.WorstShape(m), impl.Rat{}, "WorstShape of a mesh with a shape that is too large", m)
	}
	tests := []struct {
		m    impl.Mesh
		want impl.Rat
	}{
		{squareWithCenter(), smallRat(1, 2)}, {impl.CornerMesh(), smallRat(1, 2)}, {meshAt(1, []int64{0, 0, 3, 0, 0, 4}, 0, 1, 2), smallRat(12, 25)},
		{flatMesh(smallRat(1, 1), smallRat(3, 1), smallRat(2, 1)), smallRat(3, 10)}, {flatMesh(smallRat(3, 1), smallRat(1, 1)), smallRat(3, 10)},
		{flatMesh(smallRat(1, 1), smallRat(1, 3)), smallRat(3, 10)}, {flatMesh(smallRat(1, 1000), smallRat(3, 1)), smallRat(1000, 1000001)},
	}
	for _, c := range tests {
		sameRatOfMesh(t, impl.WorstShape(c.m), c.want, "WorstShape", c.m)
	}
}

func TestP15CountLevels(t *testing.T) {
	for _, m := range append(refinableMeshes(), sampleMeshes()...) {
		var want []int
		greatest := slices.MaxFunc(m.Triangles, func(a, b impl.Tri) int { return a.Level - b.Level }).Level
		for level := range greatest + 1 {
			n := 0
			for _, u := range m.Triangles {
				if u.Level == level {
					n++
				}
			}
			want = append(want, n)
		}
		sameInts(t, impl.CountLevels(m), want, "CountLevels", m)
	}
	square := squareWithCenter()
	sameInts(t, impl.CountLevels(square), []int{4}, "CountLevels", square)
	sameInts(t, impl.CountLevels(withLevel(square, 2)), []int{0, 0, 4}, "CountLevels", withLevel(square, 2))
	sameInts(t, impl.CountLevels(withLevel(square, 60)), append(make([]int, 60), 4), "CountLevels", withLevel(square, 60))
	m := withTriangle(withTriangle(square, 0, impl.Tri{A: 4, B: 0, C: 1, Level: 3}), 2, impl.Tri{A: 4, B: 2, C: 3, Level: 1})
	sameInts(t, impl.CountLevels(m), []int{2, 1, 0, 1}, "CountLevels", m)
	m, _ = impl.BisectEdges(square, []int{2})
	sameInts(t, impl.CountLevels(m), []int{2, 2, 4}, "CountLevels", m)
}

func TestP15RefinementOfOtherValues(t *testing.T) {
	for _, m := range notMeshes() {
		for _, list := range [][]int{nil, {0}, {0, 1, 2}, {-1, math.MaxInt}} {
			sameInts(t, impl.EdgeMarks(m, list), nil, "EdgeMarks", m)
			sameInts(t, impl.CloseMarks(m, list), nil, "CloseMarks", m)
			got, ok := impl.BisectEdges(m, list)
			checkRefined(t, "BisectEdges", m, list, got, ok, m, false)
			got, ok = impl.RefineMesh(m, list)
			checkRefined(t, "RefineMesh", m, list, got, ok, m, false)
		}
		got, ok := impl.RefineAll(m)
		checkRefined(t, "RefineAll", m, nil, got, ok, m, false)
		sameRatOfMesh(t, impl.WorstShape(m), impl.Rat{}, "WorstShape", m)
		sameInts(t, impl.CountLevels(m), nil, "CountLevels", m)
	}
}

func TestP15RefinementOfLongLists(t *testing.T) {
	var list []int
	for i := range 300000 {
		list = append(list, i*i%1000-100)
	}
	m := impl.CornerMesh()
	sameInts(t, impl.EdgeMarks(m, list), wantedEdgeMarks(m, list), "EdgeMarks", m)
	sameInts(t, impl.CloseMarks(m, list), wantedClosure(m, list), "CloseMarks", m)
	checkBisection(t, m, list)
}

// refinedMeshes returns the meshes that the functions compute from m and list.
func refinedMeshes(m impl.Mesh, list []int) []impl.Mesh {
	bisected, _ := impl.BisectEdges(m, list)
	refined, _ := impl.RefineMesh(m, list)
	all, _ := impl.RefineAll(m)
	return []impl.Mesh{bisected, refined, all}
}

// refinementLimbs returns everything else that the functions compute from m and list.
func refinementLimbs(m impl.Mesh, list []int) [][]int {
	limbs := limbsOf(impl.Point{X: impl.WorstShape(m)})
	return append(limbs, impl.EdgeMarks(m, list), impl.CloseMarks(m, list), impl.CountLevels(m))
}

// refinedArguments returns meshes that can be refined, that are too large for it, and
// values that are not meshes.
func refinedArguments() []impl.Mesh {
	return append(fewMeshes(), impl.SquareMesh(1), impl.CornerMesh(), gridMesh(12, 2), withLevel(squareWithCenter(), 60), impl.Mesh{}, gridMesh(7, 5))
}

func TestP15RefinementArgumentsAreKept(t *testing.T) {
	for _, want := range append(refinedArguments(), notMeshes()...) {
		for _, marks := range [][]int{nil, {0}, {7, 2, -1, 2, 99}} {
			m, list := meshWithSpare(want), withSpare(marks)
			refinedMeshes(m, list)
			refinementLimbs(m, list)
			if !keepsMesh(m, want) || !slices.Equal(list, marks) || !spareIsKept(list) {
				t.Fatalf("the arguments %v and %v were changed to %v and %v", want, marks, m, list)
			}
		}
	}
}

// TestP15RefinementResultsAreNew overwrites one result after the other and looks for the
// change in the results after it and in the arguments.
func TestP15RefinementResultsAreNew(t *testing.T) {
	for _, want := range refinedArguments() {
		for _, marks := range [][]int{nil, {0}, {7, 2, -1, 2, 99}} {
			m, list := meshWithSpare(want), withSpare(marks)
			wants, results := refinedMeshes(want, marks), refinedMeshes(m, list)
			for i, result := range results {
				overwriteMesh(t, result, wants[i])
			}
			limbs := refinementLimbs(m, list)
			for i, wantedLimbs := range refinementLimbs(want, marks) {
				sameNat(t, limbs[i], wantedLimbs, "a list after changes of others")
				overwrite(limbs[i])
			}
			for i, again := range refinedMeshes(m, list) {
				sameMesh(t, again, wants[i], "a result after changes of all results")
			}
			if !keepsMesh(m, want) || !slices.Equal(list, marks) || !spareIsKept(list) {
				t.Fatalf("changes of the results for %v and %v reach the arguments", want, marks)
			}
		}
	}
}
