package tests

import (
	"math"
	"math/big"
	"slices"
	"strings"
	"testing"

	"loop.example/g00812/impl"
)

// sparseOf returns the matrix with these elements, of which it leaves out those that
// are 0.
func sparseOf(dense [][]impl.Rat) impl.Matrix {
	var a impl.Matrix
	for _, elements := range dense {
		var row impl.Row
		for j, r := range elements {
			if !equalRats(r, smallRat(0, 1)) {
				row.Cols, row.Vals = append(row.Cols, j), append(row.Vals, r)
			}
		}
		a.Rows = append(a.Rows, row)
	}
	return a
}

// limitMatrix returns the matrix of a text like those of limitVector, in which the rows
// are separated by semicolons. A text without words gives a matrix without rows.
func limitMatrix(text string) impl.Matrix {
	if strings.TrimSpace(text) == "" {
		return impl.Matrix{}
	}
	var dense [][]impl.Rat
	for line := range strings.SplitSeq(text, ";") {
		dense = append(dense, limitVector(line))
	}
	return sparseOf(dense)
}

// elementOf returns an element of a matrix, computed without the program.
func elementOf(a impl.Matrix, i int, j int) impl.Rat {
	k := slices.Index(a.Rows[i].Cols, j)
	if k < 0 {
		return smallRat(0, 1)
	}
	return a.Rows[i].Vals[k]
}

func denseOf(a impl.Matrix) [][]impl.Rat {
	dense := make([][]impl.Rat, len(a.Rows))
	for i := range dense {
		for j := range dense {
			dense[i] = append(dense[i], elementOf(a, i, j))
		}
	}
	return dense
}

// matrix returns a matrix of fractions of at most the given number of limbs. About a third
// of them are 0.
func (s *source) matrix(n int, limbs int) impl.Matrix {
	dense := make([][]impl.Rat, n)
	for i := range dense {
		dense[i] = s.vector(n, limbs)
		for j := range dense[i] {
			if s.upTo(3) == 0 {
				dense[i][j] = smallRat(0, 1)
			}
		}
	}
	return sparseOf(dense)
}

// mirrored returns the symmetric matrix that has the elements of a on and below its
// diagonal.
func mirrored(a impl.Matrix) impl.Matrix {
	dense := denseOf(a)
	for i := range dense {
		for j := range i {
			dense[j][i] = dense[i][j]
		}
	}
	return sparseOf(dense)
}

func transposed(a impl.Matrix) impl.Matrix {
	dense, next := denseOf(a), denseOf(a)
	for i := range dense {
		for j := range dense {
			next[i][j] = dense[j][i]
		}
	}
	return sparseOf(next)
}

// withRow returns the matrix with another row.
func withRow(a impl.Matrix, i int, row impl.Row) impl.Matrix {
	next := impl.Matrix{Rows: slices.Clone(a.Rows)}
	next.Rows[i] = row
	return next
}

// manyMatrices returns matrices of all sizes.
func manyMatrices() []impl.Matrix {
	s := source(131)
	list := []impl.Matrix{{}, {Rows: []impl.Row{}}, {Rows: make([]impl.Row, 1)}, {Rows: make([]impl.Row, impl.MaxPoints)}}
	list = append(list, limitMatrix("F T;-T M"), limitMatrix("0 0 1;0 0 0;-1 0 0"), s.matrix(impl.MaxPoints, 1), mirrored(s.matrix(impl.MaxPoints, 1)))
	for n := 1; n < 10; n++ {
		for _, limbs := range []int{1, 2, 23} {
			a := s.matrix(n, limbs)
			list = append(list, a, mirrored(a))
		}
	}
	return list
}

// rowsOfNoMatrix returns rows that a matrix with three rows cannot have.
func rowsOfNoMatrix() []impl.Row {
	one, ones := vectorOf("1"), vectorOf("1 1 1 1 1 1")
	var rows []impl.Row
	for _, cols := range [][]int{
		{-1}, {3}, {4}, {40}, {math.MaxInt}, {math.MinInt}, {1 << 32}, {-1, 0}, {0, 3}, {2, 3}, {0, 1, 3}, {0, -1}, {math.MinInt, 0}, {0, math.MaxInt},
		{1, 0}, {0, 0}, {1, 1}, {2, 2}, {2, 1}, {2, 0}, {0, 2, 1}, {1, 0, 2}, {0, 0, 1}, {0, 1, 1}, {1, 1, 2}, {0, 2, 2}, {2, 1, 0}, {0, 1, 0}, {0, 1, 2, 3}, {0, 1, 2, 2}, {0, 1, 2, 0}, {0, 0, 1, 1, 2, 2},
	} {
		rows = append(rows, impl.Row{Cols: cols, Vals: ones[:len(cols)]})
	}
	rows = append(rows, impl.Row{Cols: []int{0}}, impl.Row{Vals: one}, impl.Row{Cols: []int{}, Vals: one}, impl.Row{Cols: []int{0, 1}, Vals: one}, impl.Row{Cols: []int{1}, Vals: ones[:2]})
	rows = append(rows, impl.Row{Cols: []int{0, 1, 2}, Vals: ones[:2]}, impl.Row{Cols: []int{0, 1, 2}, Vals: ones[:4]}, impl.Row{Cols: []int{0, 1, 2}}, impl.Row{Vals: ones[:3]})
	for _, bad := range append(notRats(), smallRat(0, 1)) {
		rows = append(rows, impl.Row{Cols: []int{1}, Vals: []impl.Rat{bad}}, impl.Row{Cols: []int{0, 1, 2}, Vals: withElement(ones[:3], 0, bad)})
		rows = append(rows, impl.Row{Cols: []int{0, 2}, Vals: withElement(ones[:2], 1, bad)}, impl.Row{Cols: []int{0, 1, 2}, Vals: withElement(ones[:3], 1, bad)})
	}
	return rows
}

// notMatrices returns values that are not matrices for every reason that there is.
func notMatrices() []impl.Matrix {
	var list []impl.Matrix
	good := limitMatrix("2 1 0;1 2 -1;0 -1 1/2")
	for i, row := range rowsOfNoMatrix() {
		list = append(list, withRow(good, i%3, row), withRow(impl.Matrix{Rows: make([]impl.Row, 3)}, (i+1)%3, row))
	}
	for _, n := range []int{impl.MaxPoints + 1, impl.MaxPoints + 2, 100, 100000} {
		list = append(list, impl.Matrix{Rows: make([]impl.Row, n)}, impl.Matrix{Rows: slices.Repeat([]impl.Row{{Cols: []int{3}, Vals: vectorOf("1")}}, n)})
	}
	long := impl.Row{Cols: make([]int, 100000), Vals: slices.Repeat(vectorOf("1"), 100000)}
	for i := range long.Cols {
		long.Cols[i] = i
	}
	return append(list, withRow(good, 1, long), impl.Matrix{Rows: []impl.Row{{Cols: []int{1}, Vals: vectorOf("1")}}})
}

func equalRows(r impl.Row, s impl.Row) bool {
	return slices.Equal(r.Cols, s.Cols) && slices.EqualFunc(r.Vals, s.Vals, equalRats)
}

func equalMatrices(a impl.Matrix, b impl.Matrix) bool {
	return slices.EqualFunc(a.Rows, b.Rows, equalRows)
}

func sameMatrix(t *testing.T, got impl.Matrix, want impl.Matrix, name string, args ...any) {
	t.Helper()
	if !equalMatrices(got, want) {
		t.Errorf("%s%v = %v, want %v", name, args, got, want)
	}
}

// wantedMatrix returns the matrix with these elements, or false if one is too large.
func wantedMatrix(n int, element func(i int, j int) bigRat) (impl.Matrix, bool) {
	dense := make([][]impl.Rat, n)
	for i := range dense {
		for j := range dense {
			r := element(i, j)
			if r == nil {
				return impl.Matrix{}, false
			}
			dense[i] = append(dense[i], ratOfBig(r))
		}
	}
	return sparseOf(dense), true
}

// wantedApplied is ApplyMatrix for a valid matrix and a vector of the right length,
// computed without the program.
func wantedApplied(a impl.Matrix, u []impl.Rat) []impl.Rat {
	var product []impl.Rat
	for _, row := range denseOf(a) {
		r := wantedInner(row, u)
		if r.Den == nil {
			return nil
		}
		product = append(product, r)
	}
	return product
}

// wantedCombination is CombineMatrices for valid arguments, computed without the program.
func wantedCombination(r impl.Rat, a impl.Matrix, s impl.Rat, b impl.Matrix) (impl.Matrix, bool) {
	x, y := denseOf(a), denseOf(b)
	return wantedMatrix(len(x), func(i int, j int) bigRat {
		return bigSum(bigProduct(bigOfRat(r), bigOfRat(x[i][j])), bigProduct(bigOfRat(s), bigOfRat(y[i][j])))
	})
}

// touches reports whether a triangle has a point as one of its corners.
func touches(u impl.Tri, p int) bool {
	return u.A == p || u.B == p || u.C == p
}

// isInside reports whether a triangle has a corner among some points.
func isInside(u impl.Tri, interior []int) bool {
	return slices.ContainsFunc(interior, func(p int) bool { return touches(u, p) })
}

// wantedAssembled is the sum of local matrices, each times a factor for its region,
// computed without the program. It returns why there is no such matrix.
func wantedAssembled(m impl.Mesh, local func(l []impl.Point) [][]impl.Rat, factors []impl.Rat) (impl.Matrix, string) {
	_, interior := wantedPoints(m)
	elements := make([][][]impl.Rat, len(m.Triangles))
	for k, u := range m.Triangles {
		elements[k] = local(cornersOf(m, u))
		if elements[k] == nil && isInside(u, interior) {
			return impl.Matrix{}, "a local matrix"
		}
	}
	a, ok := wantedMatrix(len(interior), func(i int, j int) bigRat {
		sum := bigRat(new(big.Rat))
		for k, u := range m.Triangles {
			if p, q := interior[i], interior[j]; touches(u, p) && touches(u, q) {
				corners := []int{u.A, u.B, u.C}
				element := elements[k][slices.Index(corners, p)][slices.Index(corners, q)]
				sum = bigSum(sum, bigProduct(bigOfRat(factors[u.Region]), bigOfRat(element)))
			}
		}
		return sum
	})
	if !ok {
		return a, "a sum"
	}
	return a, ""
}

func wantedStiffnessMatrix(p impl.Problem) (impl.Matrix, string) {
	return wantedAssembled(p.Mesh, wantedStiffness, p.Diffusion)
}

func wantedMassMatrix(m impl.Mesh) (impl.Matrix, string) {
	return wantedAssembled(m, wantedMass, vectorOf("1 1 1"))
}

// wantedLoad is LoadOf for a problem, computed without the program.
func wantedLoad(p impl.Problem) []impl.Rat {
	var loads []impl.Rat
	_, interior := wantedPoints(p.Mesh)
	for _, point := range interior {
		sum := bigRat(new(big.Rat))
		for _, u := range p.Mesh.Triangles {
			if touches(u, point) {
				third := bigProduct(wantedElementArea(cornersOf(p.Mesh, u)), big.NewRat(1, 3))
				sum = bigSum(sum, bigProduct(bigOfRat(p.Source[u.Region]), third))
			}
		}
		if sum == nil {
			return nil
		}
		loads = append(loads, ratOfBig(sum))
	}
	return loads
}

// innerProblems returns problems with interior points and with results that are not too
// large.
func innerProblems() []impl.Problem {
	s := source(132)
	list := []impl.Problem{regionProblem(), problemOf(impl.SquareMesh(2), "1 1 1", "1 1 1"), problemOf(impl.SquareMesh(3), "2 1 1", "-1 0 0")}
	for _, m := range append(sampleMeshes(), impl.SquareMesh(1), impl.SquareMesh(2), impl.SquareMesh(3)) {
		p := s.problem(m, 1)
		_, interior := wantedPoints(m)
		a, _ := wantedStiffnessMatrix(p)
		b, _ := wantedMassMatrix(m)
		if n := len(interior); n > 0 && len(a.Rows) == n && len(b.Rows) == n && wantedLoad(p) != nil {
			list = append(list, p)
		}
	}
	return list
}

// spread returns the values at all points of a mesh, which are 0 on its boundary.
func spread(m impl.Mesh, u []impl.Rat) []impl.Rat {
	values := slices.Repeat(vectorOf("0"), len(m.Points))
	_, interior := wantedPoints(m)
	for i, p := range interior {
		values[p] = u[i]
	}
	return values
}

// checkPositiveDefinite eliminates the elements below the diagonal of a symmetric matrix
// and looks at the signs of the pivots.
func checkPositiveDefinite(t *testing.T, a impl.Matrix, name string) {
	t.Helper()
	rows := make([][]*big.Rat, len(a.Rows))
	for i, row := range denseOf(a) {
		for _, r := range row {
			rows[i] = append(rows[i], bigOfRat(r))
		}
	}
	for i, row := range rows {
		if row[i].Sign() <= 0 {
			t.Errorf("pivot %d of %s %v is %v", i, name, a, row[i])
			return
		}
		for _, below := range rows[i+1:] {
			factor := new(big.Rat).Quo(below[i], row[i])
			for j := range below {
				below[j] = new(big.Rat).Sub(below[j], new(big.Rat).Mul(factor, row[j]))
			}
		}
	}
}

// checkSymmetric compares each element with the one on the other side of the diagonal.
func checkSymmetric(t *testing.T, a impl.Matrix, name string) {
	t.Helper()
	if !impl.IsMatrix(a) || !impl.IsSymmetric(a) || !impl.SameMatrix(a, transposed(a)) {
		t.Errorf("%s %v is not symmetric", name, a)
	}
	for i := range a.Rows {
		for j := range i {
			sameRat(t, impl.EntryOf(a, i, j), impl.EntryOf(a, j, i), "EntryOf")
		}
	}
}

func TestP6StiffnessMatricesAreSymmetricAndPositiveDefinite(t *testing.T) {
	list := innerProblems()
	if len(list) < 20 {
		t.Errorf("there are %d problems only", len(list))
	}
	for _, p := range list {
		a, b := impl.StiffnessOf(p), impl.MassOf(p.Mesh)
		if n := len(impl.InteriorPoints(p.Mesh)); len(a.Rows) != n || len(b.Rows) != n {
			t.Errorf("the matrices for %v have %d and %d rows", p, len(a.Rows), len(b.Rows))
		}
		checkSymmetric(t, a, "StiffnessOf")
		checkSymmetric(t, b, "MassOf")
		checkPositiveDefinite(t, a, "StiffnessOf")
		checkPositiveDefinite(t, b, "MassOf")
	}
}

// TestP6CombinationsAreSymmetricAndPositiveDefinite adds matrices with positive factors.
func TestP6CombinationsAreSymmetricAndPositiveDefinite(t *testing.T) {
	s := source(133)
	for _, p := range innerProblems() {
		p = withDiffusion(p, vectorOf("1 3 1/2"))
		c, ok := impl.CombineMatrices(smallRat(int64(1+s.upTo(9)), 7), impl.StiffnessOf(p), smallRat(int64(1+s.upTo(9)), 4), impl.MassOf(p.Mesh))
		if ok {
			checkSymmetric(t, c, "a combination")
			checkPositiveDefinite(t, c, "a combination")
		}
	}
}

// TestP6StiffnessMatricesGiveEnergies compares with the integrals of gradients in the
// triangles.
func TestP6StiffnessMatricesGiveEnergies(t *testing.T) {
	s := source(134)
	for _, p := range innerProblems() {
		a, n := impl.StiffnessOf(p), len(impl.InteriorPoints(p.Mesh))
		u, v := s.integers(n), s.integers(n)
		energy := new(big.Rat)
		for region, text := range energyIn(p.Mesh, spread(p.Mesh, u), spread(p.Mesh, v)) {
			part, _ := new(big.Rat).SetString(text)
			energy.Add(energy, part.Mul(part, bigOfRat(p.Diffusion[region])))
		}
		if got := bigForm(a, u, v); got.Cmp(energy) != 0 {
			t.Errorf("the energy of StiffnessOf(%v) is %v, want %v", p, got, energy)
		}
		if u[0] = smallRat(1, 3); bigForm(a, u, u).Sign() <= 0 {
			t.Errorf("the energy of StiffnessOf(%v) for %v is %v", p, u, bigForm(a, u, u))
		}
	}
}

// bigForm returns the product of a vector, a matrix and another vector, which may be as
// large as it likes.
func bigForm(a impl.Matrix, u []impl.Rat, v []impl.Rat) *big.Rat {
	sum := new(big.Rat)
	for i, row := range denseOf(a) {
		for j, r := range row {
			product := new(big.Rat).Mul(bigOfRat(u[i]), bigOfRat(v[j]))
			sum.Add(sum, product.Mul(product, bigOfRat(r)))
		}
	}
	return sum
}

// TestP6MassMatricesGiveIntegrals compares with the integrals of products and with loads.
func TestP6MassMatricesGiveIntegrals(t *testing.T) {
	s := source(135)
	for _, p := range innerProblems() {
		a, n := impl.MassOf(p.Mesh), len(impl.InteriorPoints(p.Mesh))
		u, v := s.integers(n), s.integers(n)
		x, y, integral, work := spread(p.Mesh, u), spread(p.Mesh, v), new(big.Rat), new(big.Rat)
		for k, c := range p.Mesh.Triangles {
			l, first, second := impl.Corners(p.Mesh, k), []impl.Rat{x[c.A], x[c.B], x[c.C]}, []impl.Rat{y[c.A], y[c.B], y[c.C]}
			integral.Add(integral, bigOfRat(impl.ProductIntegral(l, first, second)))
			work.Add(work, new(big.Rat).Mul(bigOfRat(p.Source[c.Region]), bigOfRat(impl.IntegralOf(l, first))))
		}
		if got := bigForm(a, u, v); got.Cmp(integral) != 0 {
			t.Errorf("the integral of MassOf(%v) is %v, want %v", p, got, integral)
		}
		got := new(big.Rat)
		for i, r := range impl.LoadOf(p) {
			got.Add(got, new(big.Rat).Mul(bigOfRat(u[i]), bigOfRat(r)))
		}
		if got.Cmp(work) != 0 {
			t.Errorf("the work of LoadOf(%v) is %v, want %v", p, got, work)
		}
	}
}

// TestP6StiffnessOfMultiples multiplies all diffusions by a factor.
func TestP6StiffnessOfMultiples(t *testing.T) {
	factor := smallRat(7, 3)
	for _, p := range innerProblems()[:12] {
		var diffusion []impl.Rat
		for _, r := range p.Diffusion {
			diffusion = append(diffusion, impl.RatMul(factor, r))
		}
		a, got := impl.StiffnessOf(p), impl.StiffnessOf(withDiffusion(p, diffusion))
		want, _ := impl.CombineMatrices(factor, a, smallRat(0, 1), a)
		sameMatrix(t, got, want, "StiffnessOf a multiple of", p)
	}
}

func TestP15IsMatrix(t *testing.T) {
	for _, a := range manyMatrices() {
		if !impl.IsMatrix(a) {
			t.Errorf("IsMatrix(%v) = false, want true", a)
		}
	}
	for _, a := range notMatrices() {
		if impl.IsMatrix(a) {
			t.Errorf("IsMatrix(%v) = true, want false", a)
		}
	}
}

func TestP15EntryOf(t *testing.T) {
	for _, a := range manyMatrices() {
		n := len(a.Rows)
		for i := range n {
			for j := range n {
				if n < 12 || (i+j)%7 == 0 {
					sameRat(t, impl.EntryOf(a, i, j), elementOf(a, i, j), "EntryOf")
				}
			}
			for _, j := range []int{-1, n, n + 1, math.MinInt, math.MaxInt, 1 << 32} {
				checkNoEntry(t, a, i, j)
				checkNoEntry(t, a, j, i)
				checkNoEntry(t, a, j, j)
			}
		}
		checkNoEntry(t, a, n, n)
	}
	for _, a := range notMatrices() {
		for _, i := range []int{-1, 0, 1, 2, len(a.Rows) - 1, len(a.Rows)} {
			checkNoEntry(t, a, i, i)
			checkNoEntry(t, a, 0, i)
			checkNoEntry(t, a, i, 0)
		}
	}
}

func checkNoEntry(t *testing.T, a impl.Matrix, i int, j int) {
	t.Helper()
	if r := impl.EntryOf(a, i, j); !equalRats(r, impl.Rat{}) {
		t.Errorf("EntryOf(%v, %d, %d) = %v, want the zero value", a, i, j, r)
	}
}

func TestP15ApplyMatrix(t *testing.T) {
	s := source(136)
	for _, a := range manyMatrices() {
		n := len(a.Rows)
		vectors := [][]impl.Rat{s.integers(n), s.vector(n, 1), s.vector(n, 2), slices.Repeat(vectorOf("0"), n)}
		if n > 0 {
			vectors = append(vectors, unitVector(n, s.upTo(n)))
		}
		for _, u := range vectors {
			sameVector(t, impl.ApplyMatrix(a, u), wantedApplied(a, u), "ApplyMatrix", u)
		}
	}
	a := limitMatrix("1 0 2;0 0 0;-1/2 3 0")
	for u, want := range map[string]string{"1 2 3": "7 0 11/2", "0 0 0": "0 0 0", "-2 1/3 1": "0 0 2", "1/5 -1 1/7": "17/35 0 -31/10"} {
		sameVector(t, impl.ApplyMatrix(a, vectorOf(u)), vectorOf(want), "ApplyMatrix", vectorOf(u))
	}
}

// TestP15PartialSumsOfApplyMatrix has products and partial sums that are too large.
func TestP15PartialSumsOfApplyMatrix(t *testing.T) {
	tests := []struct{ a, u, want string }{
		{"1 1 1;0 0 0;0 0 0", "F 1 -1", ""}, {"1 1 1;0 0 0;0 0 0", "F -1 1", "F 0 0"}, {"1 1 1;0 0 0;0 0 0", "1 -1 F", "F 0 0"}, {"1 1 1;0 0 0;0 0 0", "1 F -1", ""},
		{"1 0 0;0 1 0;-1 1 1", "1 F 1", "1 F F"}, {"1 0 0;0 1 0;1 1 -1", "1 F 1", ""}, {"0 0 0;0 0 0;0 0 2", "0 0 F", ""}, {"0 0 0;0 2 0;0 0 0", "0 F 0", ""},
		{"1 0 1;0 0 0;0 0 0", "G F 1", "F 0 0"}, {"1 0 1;0 0 0;0 0 0", "F F 1", ""}, {"F F 0;0 0 0;0 0 0", "1 -1 5", "0 0 0"}, {"F F 0;0 0 0;0 0 0", "2 -2 5", ""},
		{"F 0;0 T", "0 0", "0 0"}, {"F 0;0 T", "1 1", "F T"}, {"F 0;0 T", "1 1/2", ""}, {"F 0;0 T", "T F", "1 1"}, {"F 0;0 T", "F 0", ""}, {"F 0;0 T", "0 T", ""},
		{"T T;0 0", "1/2 1/2", ""}, {"1/2 1/2;0 0", "T T", ""}, {"1 1;1/2 -1", "T -T", ""}, {"1 1;0 0", "T -T", "0 0"}, {"1 1;0 0", "T 1/2", ""}, {"M 0;0 1", "2 F", "G F"},
	}
	for _, c := range tests {
		a, u, want := limitMatrix(c.a), limitVector(c.u), limitVector(c.want)
		if !slices.EqualFunc(want, wantedApplied(a, u), equalRats) {
			t.Errorf("the test has %s for %s and %s, but the computation has %v", c.want, c.a, c.u, wantedApplied(a, u))
		}
		sameVector(t, impl.ApplyMatrix(a, u), want, "ApplyMatrix", u)
	}
}

func TestP15ApplyMatrixOfOtherArguments(t *testing.T) {
	for _, a := range manyMatrices() {
		for _, n := range []int{0, 1, 2, 3, 9, 10, 39, 40, 41, 1000} {
			if n != len(a.Rows) {
				sameVector(t, impl.ApplyMatrix(a, slices.Repeat(vectorOf("1"), n)), nil, "ApplyMatrix", nil)
			}
		}
	}
	a := limitMatrix("2 1 0;1 2 0;0 0 0")
	for _, bad := range notRats() {
		for i := range 3 {
			u := withElement(vectorOf("1 2 3"), i, bad)
			sameVector(t, impl.ApplyMatrix(a, u), nil, "ApplyMatrix", u)
		}
		u := append(vectorOf("1 2 3"), bad)
		sameVector(t, impl.ApplyMatrix(a, u), nil, "ApplyMatrix", u)
	}
	for _, a := range notMatrices() {
		u := slices.Repeat(vectorOf("1"), len(a.Rows))
		sameVector(t, impl.ApplyMatrix(a, u), nil, "ApplyMatrix", nil)
		sameVector(t, impl.ApplyMatrix(a, nil), nil, "ApplyMatrix", nil)
	}
}

func checkIsSymmetric(t *testing.T, a impl.Matrix, want bool) {
	t.Helper()
	if got := impl.IsSymmetric(a); got != want {
		t.Errorf("IsSymmetric(%v) = %t, want %t", a, got, want)
	}
}

func TestP15IsSymmetric(t *testing.T) {
	for _, a := range manyMatrices() {
		checkIsSymmetric(t, a, equalMatrices(a, transposed(a)))
		checkIsSymmetric(t, mirrored(a), true)
		checkIsSymmetric(t, transposed(mirrored(a)), true)
	}
	for text, want := range map[string]bool{
		"": true, "0": true, "-5": true, "1 2;2 1": true, "1 2;-2 1": false, "1 2;3 1": false, "0 2;0 0": false, "0 0;2 0": false, "0 0;0 2": true, "1 1/2;2 1": false,
		"0 1 0;1 0 0;0 0 0": true, "0 0 1;1 0 0;0 1 0": false, "0 1 0;0 0 1;1 0 0": false, "1 2 3;2 4 5;3 5 6": true, "1 2 3;2 4 5;3 6 6": false, "F T;T M": true, "F T;F M": false, "1 F;G 1": false,
	} {
		checkIsSymmetric(t, limitMatrix(text), want)
	}
	for _, a := range notMatrices() {
		checkIsSymmetric(t, a, false)
	}
	// Each change of an element away from the diagonal counts.
	s := source(137)
	a := mirrored(s.matrix(6, 1))
	for i := range 6 {
		for j := range 6 {
			dense := denseOf(a)
			dense[i][j] = impl.RatAdd(dense[i][j], smallRat(1, 1))
			checkIsSymmetric(t, sparseOf(dense), i == j)
			dense[i][j] = smallRat(0, 1)
			checkIsSymmetric(t, sparseOf(dense), i == j || equalRats(elementOf(a, i, j), smallRat(0, 1)))
		}
	}
}

// checkCombination compares CombineMatrices for valid arguments with what is wanted, and
// returns whether there is a result.
func checkCombination(t *testing.T, r impl.Rat, a impl.Matrix, s impl.Rat, b impl.Matrix) bool {
	t.Helper()
	want, wantOk := wantedCombination(r, a, s, b)
	got, ok := impl.CombineMatrices(r, a, s, b)
	if ok != wantOk {
		t.Errorf("CombineMatrices(%v, %v, %v, %v) = _, %t, want %t", r, a, s, b, ok, wantOk)
	}
	sameMatrix(t, got, want, "CombineMatrices", r, a, s, b)
	return ok
}

func TestP15CombineMatrices(t *testing.T) {
	s := source(138)
	var counts [2]int
	for _, a := range manyMatrices() {
		for _, limbs := range []int{1, 1, 8} {
			b := s.matrix(len(a.Rows), limbs)
			for _, r := range []impl.Rat{smallRat(1, 1), smallRat(0, 1), smallRat(-2, 3), s.rat(limbs)} {
				if checkCombination(t, r, a, s.rat(1), b) {
					counts[1]++
				} else {
					counts[0]++
				}
				checkCombination(t, smallRat(1, 1), b, r, a)
			}
		}
		// Everything cancels, or only what is on or below the diagonal.
		checkCombination(t, smallRat(3, 1), a, smallRat(-3, 1), a)
		checkCombination(t, smallRat(1, 1), a, smallRat(-1, 1), mirrored(a))
		checkCombination(t, smallRat(0, 1), a, smallRat(0, 1), a)
	}
	if min(counts[0], counts[1]) < 20 {
		t.Errorf("the numbers of results that are too large, and of others, are %v", counts)
	}
}

func TestP15SomeCombinations(t *testing.T) {
	tests := []struct{ r, a, s, b, want string }{
		{"1", "1 2;3 4", "1", "1 0;0 1", "2 2;3 5"}, {"2", "1 2;3 4", "-1", "2 4;6 8", "0 0;0 0"}, {"1", "1 2;3 4", "-1", "1 0;3 1", "0 2;0 3"}, {"0", "1 2;3 4", "1/2", "0 6;0 0", "0 3;0 0"},
		{"0", "1 2;3 4", "0", "1 1;1 1", "0 0;0 0"}, {"-1", "0 0;0 0", "5", "0 0;0 0", "0 0;0 0"}, {"1", "", "1", "", ""}, {"0", "", "0", "", ""}, {"1/3", "3", "2", "1/2", "2"}, {"1", "1 0;0 0", "1", "0 0;0 1", "1 0;0 1"},
		{"1", "0 2 0;0 0 0;1 0 1", "1", "1 0 3;0 0 0;0 1 -1", "1 2 3;0 0 0;1 1 0"},
		{"1", "F", "1", "1", "none"}, {"1", "F", "-1", "1", "G"}, {"2", "F", "-2", "F", "none"}, {"1", "F", "-1", "F", "0"}, {"0", "F", "1", "1", "1"}, {"F", "1", "0", "F", "F"}, {"F", "2", "0", "1", "none"},
		{"1/2", "T", "1/2", "T", "none"}, {"1/2", "T", "0", "T", "none"}, {"T", "F", "T", "F", "2"}, {"0", "T", "0", "F", "0"}, {"1", "T", "-1", "T", "0"}, {"1", "T", "1/2", "1", "none"}, {"1", "T", "1", "T", "2/F"},
		{"1", "1 0;0 F", "1", "1 0;0 1", "none"}, {"1", "1 0;0 F", "1", "1 1;0 -1", "2 1;0 G"}, {"1", "1 0;F 1", "1", "1 0;2 1", "none"}, {"1", "1 F;0 1", "1", "1 1;0 1", "none"}, {"1", "0 F;0 0", "1", "0 0;1 0", "0 F;1 0"}, {"2", "0 F;0 0", "1", "0 0;1 0", "none"}, {"1", "0 F;0 0", "2", "0 0;F 0", "none"},
	}
	for _, c := range tests {
		r, s, a, b := limitVector(c.r)[0], limitVector(c.s)[0], limitMatrix(c.a), limitMatrix(c.b)
		ok := checkCombination(t, r, a, s, b)
		if ok != (c.want != "none") {
			t.Errorf("the test has %s for %v", c.want, c)
		}
		if got, _ := impl.CombineMatrices(r, a, s, b); ok {
			sameMatrix(t, got, limitMatrix(c.want), "CombineMatrices", c)
		}
	}
}

func checkNoCombination(t *testing.T, r impl.Rat, a impl.Matrix, s impl.Rat, b impl.Matrix) {
	t.Helper()
	if got, ok := impl.CombineMatrices(r, a, s, b); ok || !equalMatrices(got, impl.Matrix{}) {
		t.Errorf("CombineMatrices(%v, %v, %v, %v) = %v, %t, want the zero value", r, a, s, b, got, ok)
	}
}

func TestP15CombineMatricesOfOtherArguments(t *testing.T) {
	one, zero := smallRat(1, 1), smallRat(0, 1)
	list := manyMatrices()
	for i, a := range list {
		b := list[(i+7)%len(list)]
		if len(a.Rows) != len(b.Rows) {
			checkNoCombination(t, one, a, one, b)
			checkNoCombination(t, zero, a, zero, b)
			checkNoCombination(t, one, b, zero, a)
		}
	}
	good := limitMatrix("2 1 0;1 2 0;0 0 0")
	for _, bad := range notRats() {
		for _, a := range []impl.Matrix{good, {}, {Rows: make([]impl.Row, 1)}} {
			checkNoCombination(t, bad, a, one, a)
			checkNoCombination(t, one, a, bad, a)
			checkNoCombination(t, bad, a, bad, a)
		}
	}
	for _, bad := range notMatrices() {
		n := min(len(bad.Rows), impl.MaxPoints)
		a := impl.Matrix{Rows: make([]impl.Row, n)}
		for _, r := range []impl.Rat{one, zero} {
			checkNoCombination(t, r, bad, one, a)
			checkNoCombination(t, one, a, r, bad)
			checkNoCombination(t, r, bad, r, bad)
		}
	}
}

// resultKinds counts, for each function, what the reasons are for which there is no
// result.
type resultKinds [3]map[string]int

// checkAssembly compares the matrices and the load of a problem with what is wanted.
func checkAssembly(t *testing.T, p impl.Problem, kinds *resultKinds) {
	t.Helper()
	a, stiffness := wantedStiffnessMatrix(p)
	b, mass := wantedMassMatrix(p.Mesh)
	loads, load := wantedLoad(p), ""
	if _, interior := wantedPoints(p.Mesh); len(loads) != len(interior) {
		load = "a sum"
	}
	sameMatrix(t, impl.StiffnessOf(p), a, "StiffnessOf", p)
	sameMatrix(t, impl.MassOf(p.Mesh), b, "MassOf", p.Mesh)
	if got := impl.LoadOf(p); !slices.EqualFunc(got, loads, equalRats) {
		t.Errorf("LoadOf(%v) = %v, want %v", p, got, loads)
	}
	for i, kind := range []string{stiffness, mass, load} {
		if kinds[i] == nil {
			kinds[i] = map[string]int{}
		}
		kinds[i][kind]++
	}
}

// fanMesh returns the triangles between a point and each two neighbors around it.
func fanMesh(center impl.Point, around ...impl.Point) impl.Mesh {
	n := len(around)
	m := impl.Mesh{Points: append(slices.Clone(around), center)}
	for i := range n {
		m.Triangles = append(m.Triangles, impl.Tri{A: n, B: i, C: (i + 1) % n})
	}
	return m
}

// fan returns triangles around the origin with long coordinates.
func (s *source) fan(limbs int) impl.Mesh {
	var around []impl.Point
	for _, signs := range [][2]int64{{1, 1}, {-1, 1}, {-1, -1}, {1, -1}} {
		x, y := smallRat(signs[0], 1), smallRat(signs[1], 1)
		around = append(around, impl.Point{X: impl.RatMul(x, positive(s.rat(1+s.upTo(limbs)))), Y: impl.RatMul(y, positive(s.rat(1+s.upTo(limbs))))})
	}
	return s.mixed(fanMesh(smallPoint(0, 0, 1), around...))
}

func TestP15Assembly(t *testing.T) {
	s := source(139)
	var kinds resultKinds
	for i, m := range writtenMeshes() {
		checkAssembly(t, s.problem(m, []int{1, 2, 12}[i%3]), &kinds)
		checkAssembly(t, problemOf(m, "1 2 1/3", "-1 0 5/2"), &kinds)
	}
	for limbs := 1; limbs < 12; limbs++ {
		for range 6 {
			p := problemOf(s.fan(limbs), "1 2 1/3", "-1 0 5/2")
			checkAssembly(t, p, &kinds)
			checkAssembly(t, s.problem(p.Mesh, limbs), &kinds)
		}
	}
	for i, kind := range kinds {
		if kind[""] < 40 || kind["a sum"] < 20 || i == 0 && kind["a local matrix"] < 10 {
			t.Errorf("the kinds of results of function %d are %v", i, kind)
		}
	}
}

// TestP15AssemblyOfRefinedMeshes uses the meshes of which problems are solved.
func TestP15AssemblyOfRefinedMeshes(t *testing.T) {
	s := source(140)
	var kinds resultKinds
	for _, m := range []impl.Mesh{impl.SquareMesh(1), impl.CornerMesh(), squareWithCenter(), gridMesh(2, 1)} {
		for _, next := range s.grown(m, 6) {
			for k := range next.Triangles {
				next.Triangles[k].Region = s.upTo(3)
			}
			checkAssembly(t, impl.Problem{Mesh: next, Diffusion: positives(s.integers(3)), Source: s.integers(3)}, &kinds)
		}
	}
}

// TestP15SomeAssemblies has the matrices and loads of some problems as text.
func TestP15SomeAssemblies(t *testing.T) {
	inner := meshAt(1, []int64{0, 0, 9, 0, 0, 9, 2, 2, 4, 2, 2, 4}, 3, 4, 5, 0, 1, 4, 4, 3, 0, 1, 2, 5, 5, 4, 1, 2, 0, 3, 3, 5, 2)
	tests := []struct {
		p                     impl.Problem
		stiffness, mass, load string
	}{
		{problemOf(squareWithCenter(), "1 1 1", "1 1 1"), "4", "2/3", "4/3"},
		{regionProblem(), "19/2", "2/3", "-19/12"},
		{problemOf(gridMesh(2, 2), "3 1 1", "1/2 1 1"), "12", "1/2", "1/2"},
		{problemOf(impl.SquareMesh(2), "1 1 1", "2 0 0"), "4 -1 -1 -1 -1;-1 4 0 0 0;-1 0 4 0 0;-1 0 0 4 0;-1 0 0 0 4", "1/3 1/24 1/24 1/24 1/24;1/24 1/6 0 0 0;1/24 0 1/6 0 0;1/24 0 0 1/6 0;1/24 0 0 0 1/6", "4/3 2/3 2/3 2/3 2/3"},
		{problemOf(inner, "1 1 1", "6 6 6"), "75/8 -2 -43/8;-2 55/6 -43/12;-43/8 -43/12 301/24", "5/2 1/3 1/3;1/3 8/3 5/12;1/3 5/12 41/12", "30 32 41"},
		{problemOf(simpleMeshes()[0], "1 2 3", "6 0 3"), "", "", ""},
		{problemOf(ringMesh(), "1 2 3", "6 0 3"), "", "", ""},
	}
	var kinds resultKinds
	for _, c := range tests {
		checkAssembly(t, c.p, &kinds)
		sameMatrix(t, impl.StiffnessOf(c.p), limitMatrix(c.stiffness), "StiffnessOf", c.p)
		sameMatrix(t, impl.MassOf(c.p.Mesh), limitMatrix(c.mass), "MassOf", c.p.Mesh)
		sameVector(t, impl.LoadOf(c.p), vectorOf(c.load), "LoadOf", nil)
	}
}

// limitPoint returns the point with the coordinates of a text like those of limitVector.
func limitPoint(text string) impl.Point {
	u := limitVector(text)
	return impl.Point{X: u[0], Y: u[1]}
}

// axisMesh returns triangles around the origin, of which the other corners are at these
// distances on the axes.
func axisMesh(distances []impl.Rat) impl.Mesh {
	zero := smallRat(0, 1)
	right, top := impl.Point{X: distances[0], Y: zero}, impl.Point{X: zero, Y: distances[1]}
	left, bottom := impl.Point{X: impl.RatNeg(distances[2]), Y: zero}, impl.Point{X: zero, Y: impl.RatNeg(distances[3])}
	return fanMesh(smallPoint(0, 0, 1), right, top, left, bottom)
}

// turnedCorners returns a mesh with other corners as the newest vertices of its triangles.
func turnedCorners(m impl.Mesh) impl.Mesh {
	next := impl.Mesh{Points: m.Points}
	for _, u := range m.Triangles {
		u.A, u.B, u.C = u.B, u.C, u.A
		next.Triangles = append(next.Triangles, u)
	}
	return next
}

// checkExists looks for which of the three functions there is a result.
func checkExists(t *testing.T, p impl.Problem, want [3]bool) {
	t.Helper()
	var kinds resultKinds
	checkAssembly(t, p, &kinds)
	got := [3]bool{len(impl.StiffnessOf(p).Rows) > 0, len(impl.MassOf(p.Mesh).Rows) > 0, len(impl.LoadOf(p)) > 0}
	if got != want {
		t.Errorf("there are results for %v: %v, want %v", p, got, want)
	}
}

// TestP15LocalMatricesThatAreTooLarge has triangles with and without an interior corner
// of which a local matrix, or a third of the area, is too large.
func TestP15LocalMatricesThatAreTooLarge(t *testing.T) {
	tiny := longRats()[2]
	outer := further(squareWithCenter(), []impl.Point{{X: smallRat(1, 1), Y: impl.RatNeg(tiny)}}, impl.Tri{A: 5, B: 1, C: 0})
	if l := impl.Corners(outer, 4); impl.LocalStiffness(l) != nil || impl.LocalMass(l) != nil || !impl.IsMesh(outer) {
		t.Errorf("the last triangle of %v is not as wanted", outer)
	}
	// Only the squares of the gradients of corners on the boundary are too large.
	many := impl.RatFromInt(1)
	for range 54 {
		many = impl.RatMul(many, smallRat(10, 1))
	}
	low, high := impl.RatDiv(smallRat(1, 1), impl.RatAdd(many, smallRat(1, 1))), impl.RatDiv(smallRat(1, 1), many)
	steep := fanMesh(smallPoint(0, 0, 1), impl.Point{X: smallRat(1, 1), Y: low}, impl.Point{X: smallRat(1, 1), Y: high}, smallPoint(-1, 1, 1), smallPoint(-1, -1, 1))
	// Only a twelfth of an area is too large, which is that of a triangle with one interior corner.
	flat := axisMesh(limitVector("1 6 2/3 6"))
	flat.Points[0].X = impl.RatMul(smallRat(2, 1), tiny)
	tests := []struct {
		m    impl.Mesh
		want [3]bool
	}{
		{squareWithCenter(), [3]bool{true, true, true}}, {outer, [3]bool{true, true, true}},
		{steep, [3]bool{false, true, true}}, {flat, [3]bool{false, false, true}},
	}
	for _, c := range tests {
		m := c.m
		for range 3 {
			checkExists(t, problemOf(m, "1 1 1", "1/2 1/2 1/2"), c.want)
			checkExists(t, problemOf(m, "1 2 3", "0 0 0"), c.want)
			m = turnedCorners(m)
		}
	}
	// A third of an area that is too large leaves no load, even where the source is 0 or 3.
	thin := axisMesh(limitVector("T 2 1 2"))
	for _, f := range []string{"1 1 1", "3 3 3", "0 0 0"} {
		checkExists(t, problemOf(thin, "1 1 1", f), [3]bool{false, false, false})
	}
	// An area that is too large makes the mesh one without such a triangle.
	checkExists(t, problemOf(axisMesh(limitVector("T 1 1 1")), "1 1 1", "0 0 0"), [3]bool{false, false, false})
}

// TestP15ProductsOfAssembliesThatAreTooLarge multiplies elements by coefficients at the
// limits.
func TestP15ProductsOfAssembliesThatAreTooLarge(t *testing.T) {
	square := squareWithCenter()
	great := axisMesh(vectorOf("3 2 3 2"))
	for k := range square.Triangles {
		square.Triangles[k].Region, great.Triangles[k].Region = k%2, k%2
	}
	tests := []struct {
		m         impl.Mesh
		diffusion string
		source    string
		want      [3]bool
	}{
		// The elements for two corners on the boundary are halves; they are not needed.
		{square, "T T 1", "1 1 1", [3]bool{true, true, true}}, {square, "T T T", "0 0 0", [3]bool{true, true, true}},
		{square, "F 1 1", "1 1 1", [3]bool{false, true, true}}, {square, "1 F T", "1 1 1", [3]bool{false, true, true}}, {square, "1 1 F", "1 1 1", [3]bool{true, true, true}},
		{square, "T 1/2 1", "1 1 1", [3]bool{false, true, true}}, {square, "1 1 1", "T 0 0", [3]bool{true, true, false}}, {square, "1 1 1", "0 T 0", [3]bool{true, true, false}},
		{square, "1 1 1", "0 0 T", [3]bool{true, true, true}}, {square, "1 1 1", "F 0 1", [3]bool{true, true, true}}, {square, "1 1 1", "F 1 1", [3]bool{true, true, false}}, {square, "1 1 1", "0 -F 1", [3]bool{true, true, true}},
		// The areas are 3, so that a third of them is 1.
		{great, "1 1 1", "F 0 1", [3]bool{true, true, false}}, {great, "1 1 1", "F -F 1", [3]bool{true, true, true}}, {great, "1 1 1", "M 0 0", [3]bool{true, true, true}}, {great, "1 1 1", "-M 1 0", [3]bool{true, true, true}},
		{great, "1 1 1", "T 0 0", [3]bool{true, true, true}}, {great, "1 1 1", "T -T 0", [3]bool{true, true, true}}, {great, "1 1 1", "T 1/2 0", [3]bool{true, true, false}}, {great, "1 1 1", "-F -F 0", [3]bool{true, true, false}},
	}
	for _, c := range tests {
		m := c.m
		for range 3 {
			checkExists(t, problemOf(m, "1 1 1", "1 1 1"), [3]bool{true, true, true})
			checkExists(t, impl.Problem{Mesh: m, Diffusion: limitVector(c.diffusion), Source: limitVector(c.source)}, c.want)
			m = turnedCorners(m)
		}
	}
}

// ordersOf returns the mesh with its four triangles in all orders.
func ordersOf(m impl.Mesh) []impl.Mesh {
	var list []impl.Mesh
	for i := range 256 {
		order := []int{i % 4, i / 4 % 4, i / 16 % 4, i / 64}
		next := impl.Mesh{Points: m.Points}
		for _, k := range order {
			next.Triangles = append(next.Triangles, m.Triangles[k])
		}
		if slices.Sort(order); slices.Equal(order, []int{0, 1, 2, 3}) {
			list = append(list, next)
		}
	}
	return list
}

// TestP15PartialSumsOfAssemblies has sums that depend on the order of the triangles,
// because a partial sum is too large in some of the orders.
func TestP15PartialSumsOfAssemblies(t *testing.T) {
	square, great := squareWithCenter(), axisMesh(vectorOf("3 2 3 2"))
	for k, region := range []int{1, 0, 1, 1} {
		square.Triangles[k].Region, great.Triangles[k].Region = region, []int{0, 1, 2, 2}[k]
	}
	half := axisMesh(limitVector("1 12 1/3 24"))
	half.Points[0].X = impl.RatDiv(smallRat(1, 1), limitVector("M")[0])
	tests := []struct {
		function int
		p        impl.Problem
	}{
		{0, problemOf(square, "1 1/3 1", "0 0 0")}, {1, problemOf(half, "1 1 1", "1 1 1")},
		{2, problemOf(half, "1 1 1", "1/2 1 1")}, {2, problemOf(great, "1 1 1", "0 0 1")},
	}
	tests[0].p.Diffusion[0] = impl.RatDiv(smallRat(1, 1), limitVector("G")[0])
	tests[3].p.Source = limitVector("F -F 1")
	for _, c := range tests {
		var kinds resultKinds
		for _, m := range ordersOf(c.p.Mesh) {
			checkAssembly(t, withOtherMesh(c.p, m), &kinds)
		}
		if kind := kinds[c.function]; kind[""] < 4 || kind["a sum"] < 4 || kind[""]+kind["a sum"] != 24 {
			t.Errorf("the kinds of results of function %d are %v", c.function, kind)
		}
	}
}

// TestP15AssemblyOfOtherValues uses values that are not problems or meshes, and problems
// without interior points.
func TestP15AssemblyOfOtherValues(t *testing.T) {
	checkNone := func(p impl.Problem) {
		t.Helper()
		if a, u := impl.StiffnessOf(p), impl.LoadOf(p); len(a.Rows) != 0 || len(u) != 0 {
			t.Errorf("StiffnessOf and LoadOf(%v) = %v and %v, want the zero values", p, a, u)
		}
	}
	for _, p := range notProblems() {
		checkNone(p)
	}
	for _, m := range append(notMeshes(), simpleMeshes()[0], simpleMeshes()[3], ringMesh(), impl.CornerMesh(), impl.Mesh{}) {
		checkNone(problemOf(m, "1 2 3", "4 5 6"))
		if a := impl.MassOf(m); len(a.Rows) != 0 {
			t.Errorf("MassOf(%v) = %v, want the zero value", m, a)
		}
	}
	// The mesh of a problem that is not valid may have a mass matrix.
	bad := withSource(regionProblem(), nil)
	checkNone(bad)
	sameMatrix(t, impl.MassOf(bad.Mesh), limitMatrix("2/3"), "MassOf", bad.Mesh)
}

// matrixVariants returns a matrix and values that differ from it, and from each other, in
// one place only. Some of them are not matrices.
func matrixVariants() []impl.Matrix {
	a := limitMatrix("2 1 0;0 0 0;-1 1/2 3")
	list := []impl.Matrix{a, {}, {Rows: make([]impl.Row, 1)}, {Rows: a.Rows[:2]}, {Rows: append(slices.Clone(a.Rows), impl.Row{})}, transposed(a)}
	for i := range 3 {
		list = append(list, withRow(a, i, impl.Row{Cols: []int{i}}), withRow(a, i, impl.Row{Vals: vectorOf("5")}), withRow(a, i, impl.Row{Cols: []int{7}, Vals: vectorOf("5")}))
		row := a.Rows[i]
		for k := range row.Cols {
			cols := slices.Clone(row.Cols)
			cols[k] += 3
			list = append(list, withRow(a, i, impl.Row{Cols: cols, Vals: row.Vals}))
			for _, r := range []impl.Rat{{}, smallRat(0, 1), smallRat(9, 1), impl.RatNeg(row.Vals[k]), longRats()[0], {Num: row.Vals[k].Num, Den: []int{7}}} {
				list = append(list, withRow(a, i, impl.Row{Cols: row.Cols, Vals: withElement(row.Vals, k, r)}))
			}
		}
		list = append(list, withRow(a, i, impl.Row{Cols: append(slices.Clone(row.Cols), 3), Vals: row.Vals}), withRow(a, i, impl.Row{Cols: row.Cols, Vals: append(slices.Clone(row.Vals), smallRat(1, 1))}))
	}
	return list
}

func checkSameMatrix(t *testing.T, a impl.Matrix, b impl.Matrix, want bool) {
	t.Helper()
	if got := impl.SameMatrix(a, b); got != want {
		t.Errorf("SameMatrix(%v, %v) = %t, want %t", a, b, got, want)
	}
}

func TestP15SameMatrix(t *testing.T) {
	list := matrixVariants()
	for i, a := range list {
		for j, b := range list {
			checkSameMatrix(t, a, b, i == j)
			checkSameMatrix(t, a, matrixWithSpare(b), i == j)
		}
	}
	for _, a := range manyMatrices() {
		checkSameMatrix(t, a, matrixWithSpare(a), true)
		checkSameMatrix(t, a, transposed(a), equalMatrices(a, transposed(a)))
	}
	empty := impl.Matrix{Rows: []impl.Row{{Cols: []int{}, Vals: []impl.Rat{}}}}
	checkSameMatrix(t, empty, impl.Matrix{Rows: make([]impl.Row, 1)}, true)
	checkSameMatrix(t, impl.Matrix{Rows: []impl.Row{}}, impl.Matrix{}, true)
	// Values that are not matrices may be equal, too.
	for _, a := range notMatrices()[:200] {
		checkSameMatrix(t, a, a, true)
		checkSameMatrix(t, a, list[0], false)
		checkSameMatrix(t, list[0], a, false)
	}
}

// matrixWithSpare returns a copy of a with something behind the ends of its lists, which
// no function may change.
func matrixWithSpare(a impl.Matrix) impl.Matrix {
	var rows []impl.Row
	for _, row := range a.Rows {
		rows = append(rows, impl.Row{Cols: withSpare(row.Cols), Vals: vectorWithSpare(row.Vals)})
	}
	return impl.Matrix{Rows: append(rows, impl.Row{Cols: []int{77}})[:len(a.Rows)]}
}

func keepsMatrix(a impl.Matrix, want impl.Matrix) bool {
	keepsRow := func(r impl.Row, s impl.Row) bool {
		return slices.Equal(r.Cols, s.Cols) && spareIsKept(r.Cols) && keepsVector(r.Vals, s.Vals)
	}
	return slices.EqualFunc(a.Rows, want.Rows, keepsRow) && equalRows(a.Rows[:len(a.Rows)+1][len(a.Rows)], impl.Row{Cols: []int{77}})
}

// matrixLimbs returns the lists of which a matrix consists, and overwrites the lists that
// contain them.
func matrixLimbs(a impl.Matrix) [][]int {
	var limbs [][]int
	for _, row := range a.Rows {
		limbs = append(limbs, row.Cols)
		for _, r := range row.Vals {
			limbs = append(limbs, r.Num.Mag, r.Den)
		}
		clear(row.Vals[:cap(row.Vals)])
	}
	clear(a.Rows[:cap(a.Rows)])
	return limbs
}

// limbsOfMatrices returns the lists of limbs of everything that the functions compute, and
// overwrites the lists that contain them.
func limbsOfMatrices(a impl.Matrix, b impl.Matrix, r impl.Rat, u []impl.Rat, p impl.Problem) [][]int {
	var limbs [][]int
	first, _ := impl.CombineMatrices(r, a, r, b)
	second, _ := impl.CombineMatrices(smallRat(1, 1), a, smallRat(0, 1), b)
	third, _ := impl.CombineMatrices(smallRat(0, 1), a, smallRat(1, 1), b)
	for _, c := range []impl.Matrix{first, second, third, impl.StiffnessOf(p), impl.MassOf(p.Mesh)} {
		limbs = append(limbs, matrixLimbs(c)...)
	}
	entries := []impl.Rat{impl.EntryOf(a, 0, 0), impl.EntryOf(a, 0, 1), impl.EntryOf(a, 1, 0), impl.EntryOf(b, 0, 0), impl.EntryOf(a, 0, 0)}
	for _, vector := range [][]impl.Rat{impl.ApplyMatrix(a, u), impl.ApplyMatrix(b, u), impl.LoadOf(p), entries} {
		for _, x := range vector {
			limbs = append(limbs, x.Num.Mag, x.Den)
		}
		clear(vector[:cap(vector)])
	}
	return limbs
}

// fewMatrices returns matrices with two rows and values that are not matrices.
func fewMatrices() []impl.Matrix {
	s := source(141)
	list := []impl.Matrix{limitMatrix("2 1;1 2"), limitMatrix("1 0;0 1"), limitMatrix("0 0;0 0"), limitMatrix("0 F;T 0"), s.matrix(2, 3), {}}
	list = append(list, limitMatrix("1 1 1;1 1 1;1 1 1"), withRow(list[0], 1, impl.Row{Cols: []int{1, 0}, Vals: vectorOf("1 1")}))
	return append(list, withRow(list[0], 0, impl.Row{Cols: []int{0, 1}, Vals: notRats()[6:8]}), withRow(list[0], 0, impl.Row{Cols: []int{0}, Vals: vectorOf("1 1")}))
}

func TestP15MatrixArgumentsAreKept(t *testing.T) {
	problems, vectors := fewProblems(), [][]impl.Rat{vectorOf("1 -2"), vectorOf("0 1/2"), vectorOf("1"), notRats()[5:7]}
	for i, wantA := range fewMatrices() {
		for j, wantB := range fewMatrices() {
			wantP, wantU, wantR := problems[(3*i+j)%len(problems)], vectors[(i+j)%4], fewRats()[(i+2*j)%len(fewRats())]
			a, b, p, u, r := matrixWithSpare(wantA), matrixWithSpare(wantB), problemWithSpare(wantP), vectorWithSpare(wantU), ratWithSpare(wantR)
			limbsOfMatrices(a, b, r, u, p)
			impl.IsMatrix(a)
			impl.IsSymmetric(a)
			impl.SameMatrix(a, b)
			if !keepsMatrix(a, wantA) || !keepsMatrix(b, wantB) || !keepsProblem(p, wantP) || !keepsVector(u, wantU) || !keepsRat(r, wantR) {
				t.Fatalf("the arguments %v, %v, %v, %v and %v were changed", wantA, wantB, wantP, wantU, wantR)
			}
		}
	}
	for _, want := range append(manyMatrices()[:12], notMatrices()[:100]...) {
		a, u := matrixWithSpare(want), vectorWithSpare(slices.Repeat(vectorOf("1"), len(want.Rows)))
		impl.IsSymmetric(a)
		impl.ApplyMatrix(a, u)
		if !keepsMatrix(a, want) || !keepsVector(u, slices.Repeat(vectorOf("1"), len(want.Rows))) {
			t.Fatalf("the arguments %v and %v were changed", want, u)
		}
	}
}

// TestP15MatrixResultsAreNew overwrites one list of limbs after the other and looks for
// the change in the lists after it and in the arguments.
func TestP15MatrixResultsAreNew(t *testing.T) {
	problems := []impl.Problem{regionProblem(), problemOf(impl.SquareMesh(2), "1 2 3", "1 0 0"), fewProblems()[1], fewProblems()[2]}
	for i, wantA := range fewMatrices()[:6] {
		for j, wantB := range fewMatrices()[:6] {
			wantP, wantU, wantR := problems[(i+j)%4], vectorOf([]string{"1 -2", "0 1/2"}[i%2]), smallRat(int64(1-j%2), 1)
			a, b, p, u, r := matrixWithSpare(wantA), matrixWithSpare(wantB), problemWithSpare(wantP), vectorWithSpare(wantU), ratWithSpare(wantR)
			wants := limbsOfMatrices(wantA, wantB, wantR, wantU, wantP)
			for k, limbs := range limbsOfMatrices(a, b, r, u, p) {
				sameNat(t, limbs, wants[k], "a list after changes of others")
				overwrite(limbs)
			}
			if !keepsMatrix(a, wantA) || !keepsMatrix(b, wantB) || !keepsProblem(p, wantP) || !keepsVector(u, wantU) || !keepsRat(r, wantR) {
				t.Fatalf("changes of the results for %v, %v, %v, %v and %v reach the arguments", wantA, wantB, wantP, wantU, wantR)
			}
			for k, limbs := range limbsOfMatrices(a, b, r, u, p) {
				sameNat(t, limbs, wants[k], "a list after changes of all results")
			}
		}
	}
}
