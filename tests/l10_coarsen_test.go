package tests

import (
	"math"
	"slices"
	"strings"
	"testing"

	"loop.example/g00812/impl"
)

// grown refines a mesh at random, and returns the mesh after each step.
func (s *source) grown(m impl.Mesh, steps int) []impl.Mesh {
	list := []impl.Mesh{m}
	for range steps {
		next, ok := impl.RefineMesh(m, []int{s.upTo(len(m.Triangles)), s.upTo(len(m.Triangles))})
		if s.upTo(3) == 0 {
			next, ok = impl.BisectEdges(m, s.indices(len(wantedEdges(m)), 5))
		}
		if ok && len(next.Points) > len(m.Points) {
			list = append(list, next)
			m = next
		}
	}
	return list
}

// renumbered returns the mesh with its points in a random order.
func (s *source) renumbered(m impl.Mesh) impl.Mesh {
	next := impl.Mesh{Points: slices.Clone(m.Points), Triangles: slices.Clone(m.Triangles)}
	order := s.order(len(m.Points))
	for i, p := range m.Points {
		next.Points[order[i]] = p
	}
	for k, u := range m.Triangles {
		next.Triangles[k].A, next.Triangles[k].B, next.Triangles[k].C = order[u.A], order[u.B], order[u.C]
	}
	return next
}

// coarsenableMeshes returns meshes that result from refinement, of all kinds.
func coarsenableMeshes() []impl.Mesh {
	s := source(71)
	var list []impl.Mesh
	for i, m := range append(refinableMeshes(), matchingMeshes()...) {
		grown := s.grown(m, 1+i%5)
		last := grown[len(grown)-1]
		if i%2 == 0 {
			last = s.renumbered(last)
		}
		list = append(list, last)
	}
	return list
}

// spoiled changes one triangle, or the order of two, so that points may no longer be
// removable.
func (s *source) spoiled(m impl.Mesh) impl.Mesh {
	next := impl.Mesh{Points: m.Points, Triangles: slices.Clone(m.Triangles)}
	k := s.upTo(len(m.Triangles))
	u := &next.Triangles[k]
	switch s.upTo(6) {
	case 0:
		u.A, u.B, u.C = u.B, u.C, u.A
	case 1:
		u.Level = (u.Level + 1) % 61
	case 2:
		u.Region = (u.Region + 1) % 3
	case 3:
		next.Triangles[k], next.Triangles[0] = next.Triangles[0], next.Triangles[k]
	case 4:
		next.Triangles = append(next.Triangles[1:], next.Triangles[0])
	default:
		next = withLevel(next, s.upTo(2))
	}
	return next
}

// manyMeshes returns meshes with and without points that are removable.
func manyMeshes() []impl.Mesh {
	s := source(72)
	var list []impl.Mesh
	for _, m := range coarsenableMeshes() {
		list = append(list, m, s.spoiled(s.spoiled(m)))
	}
	return append(list, impl.SquareMesh(2), turned(gridMesh(3, 2)), ringMesh(), withLevel(gridMesh(2, 2), 3))
}

// wantedTriangles is PointTriangles for a mesh, computed without the program.
func wantedTriangles(m impl.Mesh, p int) []int {
	var list []int
	for k, u := range m.Triangles {
		if u.A == p || u.B == p || u.C == p {
			list = append(list, k)
		}
	}
	return list
}

func isRemovable(m impl.Mesh, p int) bool {
	list := wantedTriangles(m, p)
	if len(list) != 2 && len(list) != 4 {
		return false
	}
	for i := 0; i < len(list); i += 2 {
		u, v := m.Triangles[list[i]], m.Triangles[list[i+1]]
		isBisected := u.A == p && v.A == p && u.B == v.C && equalPoints(wantedMiddle(m.Points[u.C], m.Points[v.B]), m.Points[p])
		if !isBisected || list[i+1]-list[i] != 1 || u.Region != v.Region || u.Level != v.Level || u.Level < 1 {
			return false
		}
	}
	return true
}

// wantedRemovable is Removable for a mesh, computed without the program.
func wantedRemovable(m impl.Mesh) []int {
	var list []int
	for p := range m.Points {
		if isRemovable(m, p) {
			list = append(list, p)
		}
	}
	return list
}

// removal returns the value that RemovePoint tests for validity, for a removable point,
// computed without the program.
func removal(m impl.Mesh, p int) impl.Mesh {
	triangles := slices.Clone(m.Triangles)
	list := wantedTriangles(m, p)
	for i := len(list) - 2; i >= 0; i -= 2 {
		u, v := triangles[list[i]], triangles[list[i+1]]
		parent := impl.Tri{A: u.B, B: u.C, C: v.B, Region: u.Region, Level: u.Level - 1}
		triangles = slices.Replace(triangles, list[i], list[i]+2, parent)
	}
	place := slices.Delete(upToLength(len(m.Points)), p, p+1)
	next := impl.Mesh{Points: slices.Delete(slices.Clone(m.Points), p, p+1)}
	for _, u := range triangles {
		u.A, u.B, u.C = slices.Index(place, u.A), slices.Index(place, u.B), slices.Index(place, u.C)
		next.Triangles = append(next.Triangles, u)
	}
	return next
}

// upToLength returns the numbers from 0 up to n.
func upToLength(n int) []int {
	var list []int
	for i := range n {
		list = append(list, i)
	}
	return list
}

// wantedRemoval is RemovePoint for a mesh.
func wantedRemoval(m impl.Mesh, p int) (impl.Mesh, bool) {
	if !isRemovable(m, p) {
		return m, false
	}
	next := removal(m, p)
	if !impl.IsMesh(next) {
		return m, false
	}
	return next, true
}

// wantedCoarsening is CoarsenMesh for a mesh.
func wantedCoarsening(m impl.Mesh, list []int) (impl.Mesh, int) {
	next, count := m, 0
	for p := len(m.Points) - 1; p >= 0; p-- {
		if !slices.Contains(list, p) {
			continue
		}
		if coarser, ok := wantedRemoval(next, p); ok {
			next = coarser
			count++
		}
	}
	return next, count
}

// wantedCoarsest is CoarsenAll for a mesh.
func wantedCoarsest(m impl.Mesh) impl.Mesh {
	for {
		next, count := wantedCoarsening(m, wantedRemovable(m))
		if count == 0 {
			return m
		}
		m = next
	}
}

func checkRemovable(t *testing.T, m impl.Mesh, want []int) {
	t.Helper()
	sameInts(t, impl.Removable(m), want, "Removable", m)
}

// checkRemoval compares RemovePoint with what is wanted, and returns the result.
func checkRemoval(t *testing.T, m impl.Mesh, p int) (impl.Mesh, bool) {
	t.Helper()
	got, ok := impl.RemovePoint(m, p)
	want, wantOk := wantedRemoval(m, p)
	checkRefined(t, "RemovePoint", m, []int{p}, got, ok, want, wantOk)
	return want, wantOk
}

// checkCoarsening compares CoarsenMesh with what is wanted, and returns the number of
// removed points.
func checkCoarsening(t *testing.T, m impl.Mesh, list []int) int {
	t.Helper()
	got, n := impl.CoarsenMesh(m, list)
	want, count := wantedCoarsening(m, list)
	if n != count || !equalMeshes(got, want) {
		t.Errorf("CoarsenMesh(%v, %v) = %v, %d, want %v, %d", m, list, got, n, want, count)
	}
	return count
}

func checkCoarsest(t *testing.T, m impl.Mesh, want impl.Mesh) {
	t.Helper()
	sameMesh(t, impl.CoarsenAll(m), want, "CoarsenAll")
}

// undone removes points from index n on, in a random order, as long as one is removable.
func (s *source) undone(t *testing.T, m impl.Mesh, n int) impl.Mesh {
	t.Helper()
	for {
		list := impl.Removable(m)
		list = slices.DeleteFunc(list, func(p int) bool { return p < n })
		if len(list) == 0 {
			return m
		}
		p := list[s.upTo(len(list))]
		next, ok := impl.RemovePoint(m, p)
		if !ok || len(next.Points) != len(m.Points)-1 {
			t.Fatalf("RemovePoint(%v, %d) = %v, %t", m, p, next, ok)
		}
		m = next
	}
}

// leftMarks returns the marked edges that are bisected after themselves, directly or by
// way of others, and those that are bisected before one of them. The point of an edge
// must be removed before that of a refinement edge of the same triangle.
func leftMarks(m impl.Mesh, marks []int) []int {
	isLeft := isMarkedIn(marks, len(wantedEdges(m)))
	sides := sideIndices(m)
	for {
		before := markedOf(isLeft)
		for _, e := range before {
			needs := func(s [3]int) bool { return s[0] == e && (isLeft[s[1]] || isLeft[s[2]]) }
			isLeft[e] = slices.ContainsFunc(sides, needs)
		}
		if slices.Equal(before, markedOf(isLeft)) {
			return before
		}
	}
}

// TestP4CoarseningUndoesRefinement undoes one refinement. Points remain only where the
// triangles around them need each other's points.
func TestP4CoarseningUndoesRefinement(t *testing.T) {
	s := source(73)
	undone, left := 0, 0
	for _, m := range append(refinableMeshes(), spiralMesh(), turned(spiralMesh())) {
		n := len(wantedEdges(m))
		for _, marks := range [][]int{{s.upTo(n)}, s.indices(n, 3), s.indices(n, n)} {
			fine, ok := impl.BisectEdges(m, marks)
			if !ok || len(fine.Points) == len(m.Points) {
				continue
			}
			coarse := s.undone(t, fine, len(m.Points))
			remaining := len(leftMarks(m, wantedClosure(m, marks)))
			if got := len(coarse.Points) - len(m.Points); got != remaining {
				t.Errorf("%d points of %v are not removed, want %d", got, fine, remaining)
			} else if got == 0 {
				sameMesh(t, coarse, m, "the mesh without the points of its refinement")
				undone++
			} else {
				checkSameDomain(t, m, coarse)
				left++
			}
		}
	}
	if undone < 80 || left < 5 {
		t.Errorf("%d refinements were undone and %d were not", undone, left)
	}
}

// TestP4CoarseningUndoesSteps undoes one refinement after the other.
func TestP4CoarseningUndoesSteps(t *testing.T) {
	s := source(74)
	steps := 0
	for _, m := range []impl.Mesh{impl.SquareMesh(1), impl.SquareMesh(2), impl.CornerMesh(), gridMesh(2, 2), ringMesh(), turned(gridMesh(3, 1)), chainMesh(3), simpleMeshes()[0]} {
		grown := s.grown(m, 6)
		next := grown[len(grown)-1]
		for i := len(grown) - 2; i >= 0; i-- {
			next = s.undone(t, next, len(grown[i].Points))
			sameMesh(t, next, grown[i], "the mesh without the points of its last refinement")
			steps++
		}
	}
	if steps < 25 {
		t.Errorf("there were %d steps only", steps)
	}
}

// matchingMeshes returns meshes in which the triangles on both sides of a refinement
// edge have it as refinement edge.
func matchingMeshes() []impl.Mesh {
	regions := gridMesh(2, 1)
	for k := range regions.Triangles {
		regions.Triangles[k].Region = k % 3
	}
	return []impl.Mesh{impl.SquareMesh(1), impl.SquareMesh(2), impl.SquareMesh(3), impl.CornerMesh(), gridMesh(1, 1), gridMesh(3, 2), turned(gridMesh(2, 3)), ringMesh(), regions, simpleMeshes()[1], squareWithCenter()}
}

func TestP4CoarsenAllUndoesAllRefinements(t *testing.T) {
	s := source(75)
	for _, m := range matchingMeshes() {
		checkCoarsest(t, m, m)
		all, _ := impl.RefineAll(m)
		twice, _ := impl.RefineAll(all)
		checkCoarsest(t, all, m)
		checkCoarsest(t, twice, m)
		for range 2 {
			for _, next := range s.grown(m, 12) {
				checkCoarsest(t, next, m)
			}
		}
	}
}

// TestP4OneCoarseningUndoesSingleBisections uses refinements without parts of parts.
func TestP4OneCoarseningUndoesSingleBisections(t *testing.T) {
	s := source(76)
	for _, m := range matchingMeshes() {
		for range 4 {
			fine, ok := impl.RefineMesh(m, s.indices(len(m.Triangles), 3))
			points := upToLength(len(fine.Points))[len(m.Points):]
			checkRemovable(t, fine, points)
			coarse, n := impl.CoarsenMesh(fine, points)
			if !ok || n != len(points) || !equalMeshes(coarse, m) {
				t.Errorf("CoarsenMesh(%v, %v) = %v, %d, want %v", fine, points, coarse, n, m)
			}
		}
	}
}

// spiralMesh returns a square around whose center the refinement edge of each triangle
// belongs to the next one, too.
func spiralMesh() impl.Mesh {
	return meshAt(1, []int64{0, 0, 2, 0, 2, 2, 0, 2, 1, 1}, 0, 1, 4, 1, 2, 4, 2, 3, 4, 3, 0, 4)
}

func TestP4PointsAroundACycleRemain(t *testing.T) {
	m := spiralMesh()
	checkMesh(t, m, true)
	spoke := edgeWith(wantedEdges(m), 0, 4)
	fine, ok := impl.BisectEdges(m, []int{spoke})
	if !ok || len(fine.Points) != 9 || len(fine.Triangles) != 12 {
		t.Fatalf("BisectEdges(%v, %d) = %v, %t", m, spoke, fine, ok)
	}
	checkRemovable(t, fine, nil)
	checkCoarsest(t, fine, fine)
	for p := range fine.Points {
		checkRemoval(t, fine, p)
	}
	// The points of the sides can be removed, and then no other one.
	all, _ := impl.RefineAll(m)
	sides := slices.DeleteFunc(impl.Removable(all), func(p int) bool { return p < 5 })
	if coarse, n := impl.CoarsenMesh(all, sides); n != 4 || len(coarse.Points) != 9 || len(impl.Removable(coarse)) != 0 {
		t.Errorf("CoarsenMesh(%v, %v) = %v, %d", all, sides, coarse, n)
	}
}

// TestP4RefinementUndoesCoarsening bisects the edge again on which a point was removed.
func TestP4RefinementUndoesCoarsening(t *testing.T) {
	s := source(80)
	checked := 0
	for _, m := range coarsenableMeshes() {
		last := len(m.Points) - 1
		for _, p := range impl.Removable(m) {
			if s.upTo(2) == 0 {
				continue
			}
			u := m.Triangles[wantedTriangles(m, p)[0]]
			coarse, ok := impl.RemovePoint(m, p)
			if !ok {
				t.Fatalf("RemovePoint(%v, %d) = _, false", m, p)
			}
			checkSameDomain(t, coarse, withLast(m, p))
			k := slices.IndexFunc(coarse.Triangles, func(v impl.Tri) bool { return v.A == indexWithout(u.B, p) && v.B == indexWithout(u.C, p) })
			fine, ok := impl.RefineMesh(coarse, []int{k})
			want := withLast(m, p)
			checkRefined(t, "RefineMesh", coarse, []int{k}, fine, ok, want, true)
			if p == last {
				sameMesh(t, fine, m, "the mesh that was coarsened and refined")
			}
			checked++
		}
	}
	if checked < 80 {
		t.Errorf("%d points were removed only", checked)
	}
}

// indexWithout returns the index that a point has when the point p is not there.
func indexWithout(i int, p int) int {
	if i > p {
		return i - 1
	}
	return i
}

// withLast returns the mesh in which the point p is the last one.
func withLast(m impl.Mesh, p int) impl.Mesh {
	last := len(m.Points) - 1
	place := func(i int) int {
		if i == p {
			return last
		}
		return indexWithout(i, p)
	}
	next := impl.Mesh{Points: append(slices.Delete(slices.Clone(m.Points), p, p+1), m.Points[p])}
	for _, u := range m.Triangles {
		u.A, u.B, u.C = place(u.A), place(u.B), place(u.C)
		next.Triangles = append(next.Triangles, u)
	}
	return next
}

// TestP4CoarseningKeepsAMeshConforming checks the domain after each removal.
func TestP4CoarseningKeepsAMeshConforming(t *testing.T) {
	s := source(77)
	for i, m := range coarsenableMeshes() {
		if i%2 == 0 {
			continue
		}
		area, next := wantedArea(m), m
		for list := impl.Removable(next); len(list) > 0; list = impl.Removable(next) {
			next, _ = impl.RemovePoint(next, list[s.upTo(len(list))])
			checkMesh(t, next, true)
			sameRatOfMesh(t, impl.MeshArea(next), area, "MeshArea", next)
		}
		if i%6 == 1 && !isConforming(next) {
			t.Errorf("%v, coarsened from %v, is not conforming", next, m)
		}
	}
}

func TestP15PointTriangles(t *testing.T) {
	for _, m := range slices.Concat(simpleMeshes(), brokenUpMeshes(), matchingMeshes(), coarsenableMeshes()[:25]) {
		n, sum := len(m.Points), 0
		for p := range m.Points {
			list := impl.PointTriangles(m, p)
			sameInts(t, list, wantedTriangles(m, p), "PointTriangles", m)
			sum += len(list)
		}
		if sum != 3*len(m.Triangles) {
			t.Errorf("PointTriangles of %v has %d triangles in total", m, sum)
		}
		for _, p := range []int{-1, n, n + 1, math.MinInt, math.MaxInt} {
			sameInts(t, impl.PointTriangles(m, p), nil, "PointTriangles of no point", m)
		}
	}
	m := squareWithCenter()
	for p, want := range [][]int{{0, 3}, {0, 1}, {1, 2}, {2, 3}, {0, 1, 2, 3}} {
		sameInts(t, impl.PointTriangles(m, p), want, "PointTriangles", m)
	}
}

func TestP15Removable(t *testing.T) {
	found := 0
	for _, m := range manyMeshes() {
		want := wantedRemovable(m)
		checkRemovable(t, m, want)
		found += len(want)
	}
	for _, m := range append(sampleMeshes(), impl.SquareMesh(3), impl.CornerMesh()) {
		checkRemovable(t, m, wantedRemovable(m))
	}
	if found < 200 {
		t.Errorf("there are %d removable points only", found)
	}
}

func TestP15RemovePoint(t *testing.T) {
	s := source(79)
	removed, failed := 0, 0
	for _, m := range manyMeshes() {
		n := len(m.Points)
		for _, p := range append(wantedRemovable(m), s.order(n)[:4]...) {
			if _, ok := checkRemoval(t, m, p); ok {
				removed++
			} else {
				failed++
			}
		}
		for _, p := range []int{-1, n, math.MinInt, math.MaxInt} {
			got, ok := impl.RemovePoint(m, p)
			checkRefined(t, "RemovePoint", m, []int{p}, got, ok, m, false)
		}
	}
	if removed < 200 || failed < 200 {
		t.Errorf("%d points were removed and %d were not", removed, failed)
	}
}

func TestP15CoarsenMesh(t *testing.T) {
	s := source(78)
	removed := 0
	for _, m := range manyMeshes() {
		n := len(m.Points)
		for _, list := range [][]int{nil, {n - 1}, {-1, n, math.MinInt, math.MaxInt}, s.indices(n, 4), s.indices(n, 2*n), s.order(n), wantedRemovable(m)} {
			removed += checkCoarsening(t, m, list)
		}
	}
	if removed < 400 {
		t.Errorf("%d points were removed only", removed)
	}
}

func TestP15CoarsenAll(t *testing.T) {
	for _, m := range manyMeshes() {
		checkCoarsest(t, m, wantedCoarsest(m))
	}
}

// TestP15CoarsenMeshTakesEachIndexOnce has lists in which an index, or one that no longer
// belongs to the same point, is there again.
func TestP15CoarsenMeshTakesEachIndexOnce(t *testing.T) {
	fine, _ := impl.RefineMesh(squareWithCenter(), []int{0, 1, 2, 3})
	checkRemovable(t, fine, []int{5, 6, 7, 8})
	tests := []struct {
		list []int
		want int
	}{
		{[]int{5, 5}, 1}, {[]int{5, 5, 5, 5}, 1}, {[]int{8, 7, 8}, 2}, {[]int{7, 6, 7, 6}, 2}, {[]int{5, 6, 7, 8}, 4}, {[]int{8, 7, 6, 5}, 4},
		{[]int{6, 8, 5, 7, 6, 8, 5, 7}, 4}, {[]int{9, 8, -1}, 1}, {[]int{9, 10, 4, 0, -1, -1}, 0}, {[]int{math.MaxInt, 6, math.MinInt}, 1},
	}
	for _, c := range tests {
		list := slices.Clone(c.list)
		if n := checkCoarsening(t, fine, list); n != c.want {
			t.Errorf("the test has %d for %v", c.want, c.list)
		}
		coarse, n := impl.CoarsenMesh(fine, list)
		if n != c.want || len(coarse.Points) != 9-n || !slices.Equal(list, c.list) {
			t.Errorf("CoarsenMesh(%v, %v) = %v, %d, want %d", fine, c.list, coarse, n, c.want)
		}
	}
}

// TestP15CoarsenMeshStartsWithTheGreatestIndex has points that are removable only after
// others.
func TestP15CoarsenMeshStartsWithTheGreatestIndex(t *testing.T) {
	square := squareWithCenter()
	first, _ := impl.RefineMesh(square, []int{0})
	second, _ := impl.RefineMesh(first, []int{0})
	checkRemovable(t, second, []int{7})
	for _, list := range [][]int{{5, 6, 7}, {7, 6, 5}, {6, 5, 7, 6}} {
		coarse, n := impl.CoarsenMesh(second, list)
		if n != 3 || !equalMeshes(coarse, square) {
			t.Errorf("CoarsenMesh(%v, %v) = %v, %d", second, list, coarse, n)
		}
	}
	// In another order of the points, the greatest one is skipped at first.
	swapped := withLast(second, 5)
	checkRemovable(t, swapped, []int{6})
	for _, list := range [][]int{{5, 6, 7}, {7, 6, 5}, {6, 5, 7, 7}} {
		if n := checkCoarsening(t, swapped, list); n != 2 {
			t.Errorf("CoarsenMesh(%v, %v) removes %d points", swapped, list, n)
		}
	}
	checkCoarsest(t, swapped, square)
}

// parsedMesh returns the mesh with these points and triangles.
func parsedMesh(t *testing.T, points string, triangles string) impl.Mesh {
	t.Helper()
	text := "p " + strings.ReplaceAll(points, " ", "\np ") + "\nt " + strings.ReplaceAll(triangles, ", ", "\nt ") + "\n"
	m, ok := impl.ParseMesh(text)
	if !ok {
		t.Fatalf("%q is not a mesh", text)
	}
	return m
}

// checkOnePoint checks that only p is removable, and what its removal yields, or that no
// point is removable, if want is empty.
func checkOnePoint(t *testing.T, m impl.Mesh, p int, want string) {
	t.Helper()
	next, ok := impl.RemovePoint(m, p)
	checkRemoval(t, m, p)
	if want == "" {
		checkRemovable(t, m, nil)
		checkRefined(t, "RemovePoint", m, []int{p}, next, ok, m, false)
		return
	}
	checkRemovable(t, m, []int{p})
	_, text, _ := strings.Cut(impl.FormatMesh(next), "\nt ")
	if got := strings.ReplaceAll(strings.TrimSuffix(text, "\n"), "\nt ", ", "); !ok || got != want {
		t.Errorf("RemovePoint(%v, %d) has the triangles %s, want %s", m, p, got, want)
	}
}

func TestP15RemovablePointsInside(t *testing.T) {
	const points, more = "0,0 2,0 2,2 0,2 1,1", "0,0 2,0 2,2 0,2 1,1 3,1"
	tests := []struct {
		points    string
		triangles string
		want      string
	}{
		{points, "4 1 2 0 1, 4 0 1 0 1, 4 3 0 0 1, 4 2 3 0 1", "1 2 0 0 0, 3 0 2 0 0"},
		{points, "4 3 0 0 1, 4 2 3 0 1, 4 1 2 0 1, 4 0 1 0 1", "3 0 2 0 0, 1 2 0 0 0"},
		{points, "4 0 1 0 1, 4 3 0 0 1, 4 2 3 0 1, 4 1 2 0 1", "0 1 3 0 0, 2 3 1 0 0"}, // the other diagonal
		{points, "4 1 2 2 1, 4 0 1 2 1, 4 3 0 1 1, 4 2 3 1 1", "1 2 0 2 0, 3 0 2 1 0"},
		{points, "4 1 2 0 60, 4 0 1 0 60, 4 3 0 0 2, 4 2 3 0 2", "1 2 0 0 59, 3 0 2 0 1"},
		{more, "1 5 2 0 1, 4 1 2 0 1, 4 0 1 0 1, 4 3 0 0 1, 4 2 3 0 1", "1 4 2 0 1, 1 2 0 0 0, 3 0 2 0 0"},
		{more, "4 1 2 0 1, 4 0 1 0 1, 5 2 1 1 1, 4 3 0 0 1, 4 2 3 0 1", "1 2 0 0 0, 4 2 1 1 1, 3 0 2 0 0"},
		{more, "4 1 2 0 1, 4 0 1 0 1, 4 3 0 0 1, 4 2 3 0 1, 2 1 5 0 0", "1 2 0 0 0, 3 0 2 0 0, 2 1 4 0 0"},
		{more, "4 1 2 0 1, 1 5 2 0 1, 4 0 1 0 1, 4 3 0 0 1, 4 2 3 0 1", ""}, // another one between
		{more, "4 1 2 0 1, 4 0 1 0 1, 4 3 0 0 1, 1 5 2 0 1, 4 2 3 0 1", ""},
		{points, "4 1 2 0 0, 4 0 1 0 0, 4 3 0 0 1, 4 2 3 0 1", ""}, // the levels
		{points, "4 1 2 0 1, 4 0 1 0 1, 4 3 0 0 0, 4 2 3 0 0", ""},
		{points, "4 1 2 0 0, 4 0 1 0 0, 4 3 0 0 0, 4 2 3 0 0", ""},
		{points, "4 1 2 0 1, 4 0 1 0 2, 4 3 0 0 1, 4 2 3 0 1", ""},
		{points, "4 1 2 0 2, 4 0 1 0 1, 4 3 0 0 1, 4 2 3 0 1", ""},
		{points, "4 1 2 0 1, 4 0 1 0 1, 4 3 0 0 1, 4 2 3 0 0", ""},
		{points, "4 1 2 0 1, 4 0 1 1 1, 4 3 0 0 1, 4 2 3 0 1", ""}, // the regions
		{points, "4 1 2 0 1, 4 0 1 0 1, 4 3 0 2 1, 4 2 3 0 1", ""},
		{points, "4 0 1 0 1, 4 1 2 0 1, 4 3 0 0 1, 4 2 3 0 1", ""}, // the order
		{points, "4 1 2 0 1, 4 0 1 0 1, 4 2 3 0 1, 4 3 0 0 1", ""},
		{points, "4 0 1 0 1, 4 1 2 0 1, 4 2 3 0 1, 4 3 0 0 1", ""},
		{points, "4 1 2 0 1, 4 3 0 0 1, 4 0 1 0 1, 4 2 3 0 1", ""},
		{points, "4 1 2 0 1, 4 3 0 0 1, 4 2 3 0 1, 4 0 1 0 1", ""},
		{"0,0 2,0 2,2 0,2 1,2/3", "4 1 2 0 1, 4 0 1 0 1, 4 3 0 0 1, 4 2 3 0 1", ""}, // not the midpoint
		{"0,0 2,0 2,2 0,2 3/2,3/2", "4 1 2 0 1, 4 0 1 0 1, 4 3 0 0 1, 4 2 3 0 1", ""},
		{"0,0 2,0 5/2,5/2 0,2 1,1", "4 1 2 0 1, 4 0 1 0 1, 4 3 0 0 1, 4 2 3 0 1", ""},
		{"0,0 2,0 5/2,5/2 0,2 1,1", "4 0 1 0 1, 4 3 0 0 1, 4 2 3 0 1, 4 1 2 0 1", "0 1 3 0 0, 2 3 1 0 0"},
	}
	for _, c := range tests {
		checkOnePoint(t, parsedMesh(t, c.points, c.triangles), 4, c.want)
	}
	// The point is not the newest vertex of one of the triangles.
	m := parsedMesh(t, points, tests[0].triangles)
	for k, u := range m.Triangles {
		for range 2 {
			u.A, u.B, u.C = u.B, u.C, u.A
			checkOnePoint(t, withTriangle(m, k, u), 4, "")
		}
	}
}

func TestP15RemovablePointsOnTheBoundary(t *testing.T) {
	const points = "0,0 4,0 0,4 2,0"
	tests := []struct {
		points    string
		triangles string
		want      string
	}{
		{points, "3 2 0 1 7, 3 1 2 1 7", "2 0 1 1 6"},
		{"0,0 4,0 0,4 1,0", "3 2 0 1 7, 3 1 2 1 7", ""},
		{"0,0 4,0 0,4 2,-1", "3 2 0 1 7, 3 1 2 1 7", ""},
		{"0,0 4,0 0,4 2,1", "3 2 0 1 7, 3 1 2 1 7", ""},
		{points, "3 1 2 1 7, 3 2 0 1 7", ""},
		{points, "3 2 0 1 0, 3 1 2 1 0", ""},
		{points, "3 2 0 1 7, 2 3 1 1 7", ""},
		{points, "0 3 2 1 7, 3 1 2 1 7", ""},
		{"0,0 0,4 4,0 4,4", "3 1 2 0 1, 0 2 1 0 1", ""}, // one triangle
		// Three and four triangles, of which not all form pairs.
		{points + " 1,-2", "3 2 0 0 1, 3 1 2 0 1, 3 0 4 0 1", ""},
		{points + " 1,-2", "3 0 4 0 1, 3 2 0 0 1, 3 1 2 0 1", ""},
		{points + " 1,-2 2,-2", "3 2 0 0 1, 3 1 2 0 1, 3 0 4 0 1, 3 4 5 0 1", ""},
		{points + " 1,-2 2,-2 3,-2", "3 2 0 0 1, 3 1 2 0 1, 3 5 6 0 1, 3 4 5 0 1", ""},
		{points + " 1,-2 2,-2 3,-2", "3 5 6 0 1, 3 4 5 0 1, 3 2 0 0 1, 3 1 2 0 1", ""},
		{points + " 1,-2 2,-2 3,-2", "3 2 0 0 1, 3 1 2 0 1, 3 0 4 0 1, 3 4 5 0 1, 3 5 6 0 1", ""},
		{points + " 1,-2 2,-2 3,-2", "3 2 0 0 1, 3 1 2 0 1, 3 0 4 0 1, 3 4 5 0 1, 3 5 6 0 1, 3 6 1 0 1", ""},
		{points + " 1,-2", "3 2 0 0 1, 3 1 2 0 1, 3 4 1 0 3, 3 0 4 0 3", "2 0 1 0 0, 3 1 0 0 2"},
	}
	for _, c := range tests {
		checkOnePoint(t, parsedMesh(t, c.points, c.triangles), 3, c.want)
	}
	// The first or the last point.
	checkOnePoint(t, parsedMesh(t, "1,0 0,0 2,0 0,2", "0 3 1 0 1, 0 2 3 0 1"), 0, "2 0 1 0 0")
	checkOnePoint(t, parsedMesh(t, "0,0 1,0 2,0 0,2", "1 3 0 0 1, 1 2 3 0 1"), 1, "2 0 1 0 0")
	checkOnePoint(t, parsedMesh(t, "0,0 2,0 1,1 0,2", "2 0 1 0 1, 2 3 0 0 1"), 2, "0 1 2 0 0")
}

func TestP15RemovePointInText(t *testing.T) {
	m := parsedMesh(t, "0,0 1/2,1/2 1,0 0,1 1,1", "1 2 4 0 3, 1 0 2 0 3, 1 3 0 1 2, 1 4 3 1 2")
	next, ok := impl.RemovePoint(m, 1)
	const want = "p 0,0\np 1,0\np 0,1\np 1,1\nt 1 3 0 0 2\nt 2 0 3 1 1\n"
	if text := impl.FormatMesh(next); !ok || text != want {
		t.Errorf("RemovePoint(%v, 1) = %q, %t, want %q", m, text, ok, want)
	}
}

// withApart returns the mesh with two more triangles, which have the last, removable
// point in common.
func withApart(m impl.Mesh) impl.Mesh {
	n := len(m.Points)
	points := []impl.Point{smallPoint(-9, -9, 1), smallPoint(-7, -9, 1), smallPoint(-9, -7, 1), smallPoint(-8, -8, 1)}
	return further(m, points, impl.Tri{A: n + 3, B: n, C: n + 1, Level: 1}, impl.Tri{A: n + 3, B: n + 2, C: n, Level: 1})
}

// withoutApart returns what is left of withApart(m) without its last point.
func withoutApart(m impl.Mesh) impl.Mesh {
	n := len(m.Points)
	return further(m, withApart(m).Points[n:n+3], impl.Tri{A: n, B: n + 1, C: n + 2})
}

// checkKeepsFirstPoint checks that point 0 of a mesh is not removed, whether it is
// removable or not, and that others are.
func checkKeepsFirstPoint(t *testing.T, m impl.Mesh, isRemovable bool) {
	t.Helper()
	var removable []int
	if isRemovable {
		removable = []int{0}
	}
	for _, whole := range []impl.Mesh{m, withApart(m)} {
		last := len(whole.Points) - 1
		list, want := removable, m
		if last >= len(m.Points) {
			list, want = append(slices.Clone(removable), last), withoutApart(m)
		}
		checkMesh(t, whole, true)
		checkRemovable(t, whole, list)
		next, ok := impl.RemovePoint(whole, 0)
		checkRefined(t, "RemovePoint", whole, []int{0}, next, ok, whole, false)
		coarse, n := impl.CoarsenMesh(whole, upToLength(last+1))
		if n != len(list)-len(removable) || !equalMeshes(coarse, want) {
			t.Errorf("CoarsenMesh(%v) = %v, %d, want %v", whole, coarse, n, want)
		}
		checkCoarsest(t, whole, want)
	}
}

// bisectedAt returns a triangle with its base on both sides of p, bisected at p.
func bisectedAt(p impl.Point, width impl.Rat) impl.Mesh {
	step := impl.Point{X: width, Y: smallRat(0, 1)}
	left, right, top := impl.SubtractPoints(p, step), impl.AddPoints(p, step), impl.AddPoints(p, smallPoint(0, 1, 1))
	return impl.Mesh{Points: []impl.Point{p, left, right, top}, Triangles: []impl.Tri{{A: 0, B: 3, C: 1, Level: 1}, {A: 0, B: 2, C: 3, Level: 1}}}
}

// TestP15RemovalThatIsNotAValidMesh has halves with areas of which the sum may be too
// large.
func TestP15RemovalThatIsNotAValidMesh(t *testing.T) {
	origin, far, one := smallPoint(0, 0, 1), longRats()[0], smallRat(1, 1)
	most := impl.RatMul(impl.RatSub(far, one), smallRat(1, 2))
	for _, width := range []impl.Rat{far, impl.RatAdd(most, one)} {
		checkKeepsFirstPoint(t, bisectedAt(origin, width), true)
	}
	for _, width := range []impl.Rat{most, one} {
		m := bisectedAt(origin, width)
		checkRemovable(t, m, []int{0})
		if next, ok := checkRemoval(t, m, 0); !ok || len(next.Triangles) != 1 {
			t.Errorf("the first point of %v is not removed", m)
		}
	}
}

// TestP15PointsBetweenEndsOfWhichTheSumIsTooLarge has points that no bisection creates.
func TestP15PointsBetweenEndsOfWhichTheSumIsTooLarge(t *testing.T) {
	one := smallRat(1, 1)
	most := impl.RatMul(impl.RatSub(longRats()[0], one), smallRat(1, 2))
	beyond, less := impl.RatAdd(most, one), smallRat(-2, 3)
	for _, p := range []impl.Point{{X: beyond, Y: less}, {X: less, Y: beyond}, {X: impl.RatSub(smallRat(0, 1), beyond), Y: one}, {X: beyond, Y: beyond}} {
		checkKeepsFirstPoint(t, bisectedAt(p, one), false)
	}
	for _, p := range []impl.Point{{X: most, Y: one}, {X: one, Y: most}, {X: most, Y: impl.RatSub(less, one)}} {
		m := bisectedAt(p, one)
		checkRemovable(t, m, []int{0})
		if _, ok := checkRemoval(t, m, 0); !ok {
			t.Errorf("the first point of %v is not removed", m)
		}
	}
}

// TestP15PairsThatAreThereTwice uses meshes in which areas that are too large hide that
// triangles overlap. Three pairs are too many.
func TestP15PairsThatAreThereTwice(t *testing.T) {
	far := longCenter()
	opposite := impl.SubtractPoints(smallPoint(0, 0, 1), far)
	points := []impl.Point{smallPoint(0, 0, 1), far, opposite, smallPoint(1, 0, 1), smallPoint(-1, 0, 1)}
	right := []impl.Tri{{A: 0, B: 3, C: 1, Level: 1}, {A: 0, B: 2, C: 3, Level: 1}}
	left := []impl.Tri{{A: 0, B: 4, C: 2, Level: 1}, {A: 0, B: 1, C: 4, Level: 1}}
	for i, c := range []struct {
		m    impl.Mesh
		want bool
	}{
		{impl.Mesh{Points: points[:4], Triangles: right}, true},
		{impl.Mesh{Points: points[:4], Triangles: slices.Concat(right, right)}, true},
		{impl.Mesh{Points: points[:4], Triangles: slices.Concat(right, right, right)}, false},
		{impl.Mesh{Points: points, Triangles: slices.Concat(right, left)}, true},
		{impl.Mesh{Points: points, Triangles: slices.Concat(right, left, right)}, false},
		{impl.Mesh{Points: points, Triangles: slices.Concat(right, left, right, left)}, false},
	} {
		if isRemovable(c.m, 0) != c.want {
			t.Errorf("the test has %t in case %d", c.want, i)
		}
		checkKeepsFirstPoint(t, c.m, c.want)
	}
}

func TestP15CoarseningOfOtherValues(t *testing.T) {
	for _, m := range notMeshes() {
		for _, p := range []int{0, 4, -1, math.MaxInt} {
			sameInts(t, impl.PointTriangles(m, p), nil, "PointTriangles", m)
			got, ok := impl.RemovePoint(m, p)
			checkRefined(t, "RemovePoint", m, []int{p}, got, ok, m, false)
		}
		checkRemovable(t, m, nil)
		got, n := impl.CoarsenMesh(m, upToLength(min(len(m.Points), 50)))
		checkRefined(t, "CoarsenMesh", m, nil, got, n != 0, m, false)
		checkCoarsest(t, m, m)
	}
}

// TestP15CoarseningOfSpoiledMeshes makes meshes invalid that have removable points.
func TestP15CoarseningOfSpoiledMeshes(t *testing.T) {
	m := parsedMesh(t, "0,0 2,0 2,2 0,2 1,1", "4 1 2 0 1, 4 0 1 0 1, 4 3 0 0 1, 4 2 3 0 1")
	bad := append(meshesWithBadPoints(m), meshesWithBadTriangles(m)...)
	for _, next := range bad {
		checkMesh(t, next, false)
		checkRemovable(t, next, nil)
		got, ok := impl.RemovePoint(next, 4)
		checkRefined(t, "RemovePoint", next, nil, got, ok, next, false)
		got, n := impl.CoarsenMesh(next, []int{4})
		checkRefined(t, "CoarsenMesh", next, nil, got, n != 0, next, false)
		checkCoarsest(t, next, next)
	}
}

func TestP15CoarseningWithLongLists(t *testing.T) {
	fine, _ := impl.RefineMesh(squareWithCenter(), []int{0, 1, 2, 3})
	var list []int
	for i := range 300000 {
		list = append(list, i*7%1000-100)
	}
	if n := checkCoarsening(t, fine, list); n != 4 {
		t.Errorf("%d points were removed", n)
	}
}

// coarsenedMeshes returns the meshes that the functions compute from m and list.
func coarsenedMeshes(m impl.Mesh, list []int) []impl.Mesh {
	removed, _ := impl.RemovePoint(m, len(m.Points)-1)
	kept, _ := impl.RemovePoint(m, 0)
	coarse, _ := impl.CoarsenMesh(m, list)
	return []impl.Mesh{removed, kept, coarse, impl.CoarsenAll(m)}
}

// coarseningLimbs returns everything else that the functions compute from m.
func coarseningLimbs(m impl.Mesh) [][]int {
	limbs := [][]int{impl.Removable(m)}
	for p := range m.Points {
		limbs = append(limbs, impl.PointTriangles(m, p))
	}
	return limbs
}

// coarsenedArguments returns meshes that can be coarsened, others, and values that are
// not meshes.
func coarsenedArguments() []impl.Mesh {
	fine, _ := impl.RefineAll(squareWithCenter())
	some, _ := impl.RefineMesh(impl.CornerMesh(), []int{0})
	return append(fewMeshes(), fine, some, withApart(squareWithCenter()), bisectedAt(smallPoint(0, 0, 1), longRats()[0]), impl.Mesh{}, gridMesh(7, 5))
}

func TestP15CoarseningArgumentsAreKept(t *testing.T) {
	for _, want := range append(coarsenedArguments(), notMeshes()...) {
		for _, points := range [][]int{nil, {0}, {8, 12, -1, 8, 5, 99}} {
			m, list := meshWithSpare(want), withSpare(points)
			coarsenedMeshes(m, list)
			impl.Removable(m)
			impl.PointTriangles(m, 1)
			if !keepsMesh(m, want) || !slices.Equal(list, points) || !spareIsKept(list) {
				t.Fatalf("the arguments %v and %v were changed to %v and %v", want, points, m, list)
			}
		}
	}
}

// TestP15CoarseningResultsAreNew overwrites one result after the other and looks for the
// change in the results after it and in the arguments.
func TestP15CoarseningResultsAreNew(t *testing.T) {
	for _, want := range coarsenedArguments() {
		for _, points := range [][]int{nil, {0}, {8, 12, -1, 8, 5, 99}} {
			m, list := meshWithSpare(want), withSpare(points)
			wants, results := coarsenedMeshes(want, points), coarsenedMeshes(m, list)
			for i, result := range results {
				overwriteMesh(t, result, wants[i])
			}
			limbs := coarseningLimbs(m)
			for i, wantedLimbs := range coarseningLimbs(want) {
				sameNat(t, limbs[i], wantedLimbs, "a list after changes of others")
				overwrite(limbs[i])
			}
			for i, again := range coarsenedMeshes(m, list) {
				sameMesh(t, again, wants[i], "a result after changes of all results")
			}
			if !keepsMesh(m, want) || !slices.Equal(list, points) || !spareIsKept(list) {
				t.Fatalf("changes of the results for %v and %v reach the arguments", want, points)
			}
		}
	}
}
