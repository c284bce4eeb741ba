package tests

import (
	"math/big"
	"slices"
	"strings"
	"testing"

	"loop.example/g00812/impl"
)

// limitFactor returns the factorization of a text like those of limitMatrix. Each row has
// the elements of L and then the pivot.
func limitFactor(text string) impl.Factor {
	var f impl.Factor
	if strings.TrimSpace(text) == "" {
		return f
	}
	for line := range strings.SplitSeq(text, ";") {
		u := limitVector(line)
		f.Lower, f.Pivots = append(f.Lower, u[:len(u)-1]), append(f.Pivots, u[len(u)-1])
	}
	return f
}

// factor returns a factorization of fractions of at most the given number of limbs. About
// a third of the elements of L are 0.
func (s *source) factor(n int, limbs int) impl.Factor {
	f := impl.Factor{Pivots: positives(s.vector(n, limbs))}
	for i := range n {
		row := s.vector(i, limbs)
		for j := range row {
			if s.upTo(3) == 0 {
				row[j] = smallRat(0, 1)
			}
		}
		f.Lower = append(f.Lower, row)
	}
	return f
}

// smallFactor returns a factorization of small fractions, so that its expansion is not too
// large.
func (s *source) smallFactor(n int) impl.Factor {
	var f impl.Factor
	for i := range n {
		var row []impl.Rat
		for range i {
			row = append(row, smallRat(int64(s.upTo(7)-3), int64(1+s.upTo(2))))
		}
		f.Lower, f.Pivots = append(f.Lower, row), append(f.Pivots, smallRat(int64(1+s.upTo(5)), int64(1+s.upTo(3))))
	}
	return f
}

// diagonalFactor returns a factorization with the same elements away from the diagonal, and
// the same pivots.
func diagonalFactor(n int, r impl.Rat, pivot impl.Rat) impl.Factor {
	var f impl.Factor
	for i := range n {
		f.Lower, f.Pivots = append(f.Lower, slices.Repeat([]impl.Rat{r}, i)), append(f.Pivots, pivot)
	}
	return f
}

// manyFactors returns factorizations of all sizes.
func manyFactors() []impl.Factor {
	s := source(151)
	list := []impl.Factor{{}, {Lower: [][]impl.Rat{}, Pivots: []impl.Rat{}}, {Lower: [][]impl.Rat{{}}, Pivots: vectorOf("3")}, s.smallFactor(impl.MaxPoints)}
	for _, text := range []string{"T", "F", "F;F F", "F;T T", "T;0 F;F T M", "1;0 1;0 0 1"} {
		list = append(list, limitFactor(text))
	}
	list = append(list, diagonalFactor(impl.MaxPoints, smallRat(0, 1), smallRat(2, 1)), diagonalFactor(impl.MaxPoints, smallRat(-1, 1), smallRat(1, 2)))
	for n := 1; n < 9; n++ {
		list = append(list, s.smallFactor(n))
		for _, limbs := range []int{1, 2, 5, 23} {
			list = append(list, s.factor(n, limbs))
		}
	}
	return list
}

// withPivot and withLower return a factorization with another pivot or row of L.
func withPivot(f impl.Factor, i int, r impl.Rat) impl.Factor {
	return impl.Factor{Lower: f.Lower, Pivots: withElement(f.Pivots, i, r)}
}

func withLower(f impl.Factor, i int, row []impl.Rat) impl.Factor {
	next := impl.Factor{Lower: slices.Clone(f.Lower), Pivots: f.Pivots}
	next.Lower[i] = row
	return next
}

// notFactors returns values that are not factorizations for every reason that there is.
func notFactors() []impl.Factor {
	good, ones := limitFactor("2;1/2 3;1 -1 1/2"), vectorOf("1 1 1 1 1 1")
	list := []impl.Factor{{Lower: good.Lower}, {Pivots: good.Pivots}, {Lower: good.Lower[:2], Pivots: good.Pivots}, {Lower: good.Lower, Pivots: good.Pivots[:2]}, {Lower: good.Lower[:1], Pivots: good.Pivots}, {Lower: good.Lower, Pivots: ones[:4]}}
	list = append(list, impl.Factor{Lower: append(slices.Clone(good.Lower), ones[:3]), Pivots: good.Pivots}, impl.Factor{Lower: good.Lower[1:], Pivots: good.Pivots[1:]}, impl.Factor{Lower: [][]impl.Rat{nil}}, impl.Factor{Pivots: ones[:1]})
	for i := range 3 {
		for n := range 6 {
			if n != i {
				list = append(list, withLower(good, i, ones[:n]))
			}
		}
		list = append(list, withLower(good, i, slices.Repeat(ones[:1], 100000)))
		for _, bad := range append(notRats(), vectorOf("0 -1 -1/2")...) {
			list = append(list, withPivot(good, i, bad))
		}
		list = append(list, withPivot(good, i, longRats()[1]), withPivot(good, i, impl.RatNeg(longRats()[2])))
		for j := range i {
			for _, bad := range notRats() {
				list = append(list, withLower(good, i, withElement(good.Lower[i], j, bad)))
			}
		}
	}
	for _, n := range []int{impl.MaxPoints + 1, impl.MaxPoints + 2, 100} {
		list = append(list, diagonalFactor(n, smallRat(0, 1), smallRat(1, 1)), diagonalFactor(n, smallRat(1, 1), smallRat(2, 1)))
	}
	return append(list, impl.Factor{Lower: make([][]impl.Rat, 100000), Pivots: slices.Repeat(ones[:1], 100000)})
}

func equalFactors(f impl.Factor, g impl.Factor) bool {
	equal := func(u []impl.Rat, v []impl.Rat) bool { return slices.EqualFunc(u, v, equalRats) }
	return slices.EqualFunc(f.Lower, g.Lower, equal) && equal(f.Pivots, g.Pivots)
}

// bigRows returns the elements of a matrix.
func bigRows(a impl.Matrix) [][]bigRat {
	rows := make([][]bigRat, len(a.Rows))
	for i, row := range denseOf(a) {
		for _, r := range row {
			rows[i] = append(rows[i], bigOfRat(r))
		}
	}
	return rows
}

// wantedFactor is FactorMatrix for a symmetric matrix, computed without the program: it
// eliminates the columns one after the other. It returns why there is no factorization.
func wantedFactor(a impl.Matrix) (impl.Factor, string) {
	f, rest := impl.Factor{Lower: make([][]impl.Rat, len(a.Rows))}, bigRows(a)
	for k := range rest {
		pivot := rest[k][k]
		if pivot == nil {
			return impl.Factor{}, "size"
		}
		if pivot.Sign() <= 0 {
			return impl.Factor{}, "pivot"
		}
		f.Pivots = append(f.Pivots, ratOfBig(pivot))
		for i := k + 1; i < len(rest); i++ {
			factor := bigQuotient(rest[i][k], pivot)
			f.Lower[i] = append(f.Lower[i], ratOrZero(factor))
			for j := k + 1; j <= i; j++ {
				rest[i][j] = bigDifference(rest[i][j], bigProduct(factor, rest[j][k]))
			}
		}
	}
	return f, ""
}

// wantedExpansion is ExpandFactor for a factorization, computed without the program: it
// multiplies three matrices.
func wantedExpansion(f impl.Factor) (impl.Matrix, bool) {
	n := len(f.Pivots)
	lower, products := make([][]bigRat, n), make([][]bigRat, n)
	for i, row := range f.Lower {
		for k := range n {
			element := new(big.Rat)
			if k < i {
				element = bigOfRat(row[k])
			} else if k == i {
				element.SetInt64(1)
			}
			lower[i] = append(lower[i], element)
			products[i] = append(products[i], bigProduct(element, bigOfRat(f.Pivots[k])))
		}
	}
	return wantedMatrix(n, func(i int, j int) bigRat {
		sum := new(big.Rat)
		for k := range n {
			sum = bigSum(sum, bigProduct(products[i][k], lower[j][k]))
		}
		return sum
	})
}

// wantedSolution is SolveFactor for a factorization and a vector of the right length,
// computed without the program. It returns false if an element is too large.
func wantedSolution(f impl.Factor, b []impl.Rat) ([]impl.Rat, bool) {
	rest := make([]bigRat, len(b))
	for i, r := range b {
		rest[i] = bigOfRat(r)
	}
	for k := range rest {
		for i := k + 1; i < len(rest); i++ {
			rest[i] = bigDifference(rest[i], bigProduct(bigOfRat(f.Lower[i][k]), rest[k]))
		}
	}
	x := make([]impl.Rat, len(b))
	for i := len(rest) - 1; i >= 0; i-- {
		rest[i] = bigQuotient(rest[i], bigOfRat(f.Pivots[i]))
		for k := i + 1; k < len(rest); k++ {
			rest[i] = bigDifference(rest[i], bigProduct(bigOfRat(f.Lower[k][i]), rest[k]))
		}
		if rest[i] == nil {
			return nil, false
		}
		x[i] = ratOfBig(rest[i])
	}
	return x, true
}

// wantedDeterminant is the product of pivots, computed without the program.
func wantedDeterminant(pivots []impl.Rat) impl.Rat {
	product := big.NewRat(1, 1)
	for _, r := range pivots {
		product = bigProduct(product, bigOfRat(r))
	}
	return ratOrZero(product)
}

// minor returns the determinant of the first rows and columns of a matrix, which it
// develops by its last row. The columns that are left are given as bits.
func minor(rows [][]bigRat, columns uint) *big.Rat {
	sum := new(big.Rat)
	if len(rows) == 0 {
		return sum.SetInt64(1)
	}
	last := len(rows) - 1
	sign := int64(1)
	for j := len(rows[last]) - 1; j >= 0; j-- {
		if columns&(1<<j) == 0 {
			continue
		}
		part := minor(rows[:last], columns&^(1<<j))
		part.Mul(part, rows[last][j])
		sum.Add(sum, part.Mul(part, big.NewRat(sign, 1)))
		sign = -sign
	}
	return sum
}

// definiteMatrices returns matrices that are symmetric and positive definite and have
// factorizations that are not too large.
func definiteMatrices() []impl.Matrix {
	s := source(152)
	var list []impl.Matrix
	for _, p := range innerProblems() {
		a, _ := wantedStiffnessMatrix(p)
		b, _ := wantedMassMatrix(p.Mesh)
		c, _ := wantedCombination(smallRat(int64(1+s.upTo(5)), 3), a, smallRat(int64(1+s.upTo(5)), 7), b)
		for _, a := range []impl.Matrix{a, b, c} {
			if _, why := wantedFactor(a); len(a.Rows) > 0 && why == "" {
				list = append(list, a)
			}
		}
	}
	for n := 1; n < 14; n++ {
		a, _ := wantedExpansion(s.smallFactor(n))
		list = append(list, a)
	}
	a, _ := wantedExpansion(s.smallFactor(impl.MaxPoints))
	return append(list, a, impl.Matrix{}, limitMatrix("F 0;0 T"), limitMatrix("1 1;1 F"))
}

func TestP6FactorizationsExpandToTheirMatrices(t *testing.T) {
	list := definiteMatrices()
	if len(list) < 60 {
		t.Errorf("there are %d matrices only", len(list))
	}
	for _, a := range list {
		f, ok := impl.FactorMatrix(a)
		if !ok || !impl.IsFactor(f) {
			t.Errorf("FactorMatrix(%v) = %v, %t", a, f, ok)
			continue
		}
		got, gotOk := impl.ExpandFactor(f)
		if !gotOk || !impl.SameMatrix(got, a) {
			t.Errorf("the factorization of %v expands to %v, %t", a, got, gotOk)
		}
		if want, wantOk := wantedExpansion(f); !wantOk || !equalMatrices(want, a) {
			t.Errorf("the factorization of %v is %v, which expands to %v", a, f, want)
		}
	}
}

// TestP6ExpansionsHaveTheirFactorizations uses that there is only one factorization.
func TestP6ExpansionsHaveTheirFactorizations(t *testing.T) {
	expanded := 0
	for _, f := range manyFactors() {
		a, ok := impl.ExpandFactor(f)
		if _, why := wantedFactor(a); !ok || why != "" {
			continue
		}
		expanded++
		checkSymmetric(t, a, "ExpandFactor")
		checkPositiveDefinite(t, a, "ExpandFactor")
		if got, gotOk := impl.FactorMatrix(a); !gotOk || !equalFactors(got, f) {
			t.Errorf("the factorization of the expansion of %v is %v, %t", f, got, gotOk)
		}
	}
	if expanded < 20 {
		t.Errorf("there are %d expansions only", expanded)
	}
}

// TestP6StiffnessMatricesOfRefinedMeshesHaveFactorizations uses the meshes of which
// problems are solved.
func TestP6StiffnessMatricesOfRefinedMeshesHaveFactorizations(t *testing.T) {
	s := source(153)
	for _, m := range []impl.Mesh{impl.SquareMesh(2), impl.SquareMesh(3), impl.CornerMesh(), gridMesh(2, 1)} {
		for _, next := range s.grown(m, 5) {
			p := problemOf(next, "1 2 1/3", "1 0 -1")
			for _, a := range []impl.Matrix{impl.StiffnessOf(p), impl.MassOf(next)} {
				f, ok := impl.FactorMatrix(a)
				got, gotOk := impl.ExpandFactor(f)
				if n := len(impl.InteriorPoints(next)); !ok || !gotOk || len(f.Pivots) != n || !equalMatrices(got, a) {
					t.Errorf("the factorization of %v is %v, %t, which expands to %v, %t", a, f, ok, got, gotOk)
				}
			}
		}
	}
}

// TestP6FactorizationsExistForPositiveDefiniteMatrices uses that a symmetric matrix is
// positive definite exactly if its leading minors are positive, and that the pivots are
// their quotients.
func TestP6FactorizationsExistForPositiveDefiniteMatrices(t *testing.T) {
	s := source(154)
	var counts [2]int
	for i := range 400 {
		n := 1 + i%6
		dense := make([][]impl.Rat, n)
		for i := range dense {
			dense[i] = make([]impl.Rat, n)
			for j := range i {
				r := smallRat(int64(s.upTo(7)-3), int64(1+s.upTo(2)))
				dense[i][j], dense[j][i] = r, r
			}
			dense[i][i] = smallRat(int64(s.upTo(14)-1), int64(1+s.upTo(2)))
		}
		a := sparseOf(dense)
		rows, minors, isDefinite := bigRows(a), []*big.Rat{big.NewRat(1, 1)}, true
		for k := 1; k <= n; k++ {
			minors = append(minors, minor(rows[:k], 1<<k-1))
			isDefinite = isDefinite && minors[k].Sign() > 0
		}
		f, ok := impl.FactorMatrix(a)
		if ok != isDefinite {
			t.Errorf("FactorMatrix(%v) = %v, %t, but the leading minors are %v", a, f, ok, minors)
		}
		if !isDefinite {
			counts[0]++
			sameRat(t, impl.DeterminantOf(a), impl.Rat{}, "DeterminantOf")
			continue
		}
		counts[1]++
		sameRat(t, impl.DeterminantOf(a), ratOfBig(minors[n]), "DeterminantOf")
		for k, pivot := range f.Pivots {
			sameRat(t, pivot, ratOfBig(new(big.Rat).Quo(minors[k+1], minors[k])), "the pivot")
		}
	}
	if min(counts[0], counts[1]) < 100 {
		t.Errorf("the numbers of matrices without and with a factorization are %v", counts)
	}
}

// TestP6SolutionsSatisfyTheirEquations multiplies the solutions by the matrix.
func TestP6SolutionsSatisfyTheirEquations(t *testing.T) {
	s := source(155)
	for _, a := range definiteMatrices() {
		n := len(a.Rows)
		f, _ := impl.FactorMatrix(a)
		vectors := [][]impl.Rat{slices.Repeat(vectorOf("0"), n), slices.Repeat(vectorOf("1"), n)}
		for i := range min(n, 3) {
			vectors = append(vectors, unitVector(n, (7*i)%n), s.integers(n))
		}
		for _, b := range vectors {
			x, ok := impl.SolveMatrix(a, b)
			if _, wantOk := wantedSolution(f, b); ok != wantOk {
				t.Errorf("SolveMatrix(%v, %v) = %v, %t", a, b, x, ok)
			}
			if ok {
				sameVector(t, x, impl.SolveFactor(f, b), "SolveMatrix", b)
				sameVector(t, bigApplied(a, x), b, "the product of a matrix and its solution", x)
			}
		}
	}
}

// bigApplied is ApplyMatrix with sums that may be as large as they like.
func bigApplied(a impl.Matrix, u []impl.Rat) []impl.Rat {
	var product []impl.Rat
	for _, row := range bigRows(a) {
		sum := new(big.Rat)
		for j, r := range row {
			sum.Add(sum, new(big.Rat).Mul(r, bigOfRat(u[j])))
		}
		product = append(product, ratOfBig(sum))
	}
	return product
}

// checkFactorMatrix compares all functions for a matrix with what is wanted, and returns
// why there is no factorization.
func checkFactorMatrix(t *testing.T, a impl.Matrix) string {
	t.Helper()
	want, why := wantedFactor(a)
	got, ok := impl.FactorMatrix(a)
	if ok != (why == "") || !equalFactors(got, want) {
		t.Errorf("FactorMatrix(%v) = %v, %t, want %v, because of %q", a, got, ok, want, why)
	}
	b := slices.Repeat(vectorOf("1"), len(a.Rows))
	determinant, x, isSolved := impl.Rat{}, []impl.Rat(nil), false
	if why == "" {
		determinant = wantedDeterminant(want.Pivots)
		x, isSolved = wantedSolution(want, b)
	}
	sameRat(t, impl.DeterminantOf(a), determinant, "DeterminantOf")
	if got, ok := impl.SolveMatrix(a, b); ok != isSolved || !slices.EqualFunc(got, x, equalRats) {
		t.Errorf("SolveMatrix(%v, %v) = %v, %t, want %v, %t", a, b, got, ok, x, isSolved)
	}
	return why
}

func TestP15FactorMatrix(t *testing.T) {
	s := source(156)
	kinds := map[string]int{}
	for _, a := range definiteMatrices() {
		kinds[checkFactorMatrix(t, a)]++
	}
	for _, a := range manyMatrices() {
		kinds[checkFactorMatrix(t, mirrored(a))]++
		for _, limbs := range []int{1, 2, 6} {
			// Great elements on the diagonal make it positive definite.
			dense := denseOf(mirrored(a))
			for i := range dense {
				dense[i][i] = positive(s.rat(limbs))
			}
			kinds[checkFactorMatrix(t, sparseOf(dense))]++
		}
	}
	for n := 1; n < 6; n++ {
		for limbs := 1; limbs < 5; limbs++ {
			a, ok := wantedExpansion(s.factor(n, limbs))
			if ok {
				kinds[checkFactorMatrix(t, a)]++
			}
		}
	}
	if kinds[""] < 90 || kinds["pivot"] < 30 || kinds["size"] < 20 {
		t.Errorf("the kinds of results are %v", kinds)
	}
}

// TestP15SomeFactorizations has the factorizations of some matrices as text.
func TestP15SomeFactorizations(t *testing.T) {
	tests := []struct{ a, f, determinant string }{
		{"", "", "1"}, {"5", "5", "5"}, {"1/7", "1/7", "1/7"}, {"2 1;1 2", "2;1/2 3/2", "3"}, {"2 -1;-1 2", "2;-1/2 3/2", "3"}, {"1 0;0 3", "1;0 3", "3"},
		{"4 2 -2;2 10 5;-2 5 9", "4;1/2 9;-1/2 2/3 4", "144"}, {"2 -1 0;-1 2 -1;0 -1 2", "2;-1/2 3/2;0 -2/3 4/3", "4"}, {"1 1 1;1 2 3;1 3 6", "1;1 1;1 2 1", "1"},
		{"4 -1 -1 -1 -1;-1 4 0 0 0;-1 0 4 0 0;-1 0 0 4 0;-1 0 0 0 4", "4;-1/4 15/4;-1/4 -1/15 56/15;-1/4 -1/15 -1/14 52/14;-1/4 -1/15 -1/14 -1/13 48/13", "768"},
		{"1/2 1/3;1/3 1/4", "1/2;2/3 1/36", "1/72"}, {"1 0 2;0 1 0;2 0 5", "1;0 1;2 0 1", "1"},
		// A pivot is 0 or negative.
		{"0", "none", ""}, {"-1", "none", ""}, {"-1/9", "none", ""}, {"0 0;0 0", "none", ""}, {"0 1;1 0", "none", ""}, {"0 0;0 1", "none", ""}, {"1 0;0 0", "none", ""}, {"1 0;0 -1", "none", ""}, {"-1 0;0 -1", "none", ""},
		{"1 1;1 1", "none", ""}, {"1 2;2 1", "none", ""}, {"1 2;2 4", "none", ""}, {"2 -2;-2 2", "none", ""}, {"1 1 0;1 1 1;0 1 1", "none", ""}, {"1 0 0;0 1 1;0 1 1", "none", ""}, {"1 0 1;0 1 1;1 1 2", "none", ""}, {"1 0 1;0 1 1;1 1 1", "none", ""},
		// The matrix is not symmetric.
		{"2 1;0 2", "none", ""}, {"2 0;1 2", "none", ""}, {"2 1;-1 2", "none", ""}, {"2 1;1/2 2", "none", ""}, {"2 0 1;0 2 0;0 0 2", "none", ""}, {"3 1 1;1 3 1;1 2 3", "none", ""},
	}
	for _, c := range tests {
		a, want := limitMatrix(c.a), impl.Factor{}
		determinant := impl.Rat{}
		if c.f != "none" {
			want, determinant = limitFactor(c.f), vectorOf(c.determinant)[0]
		}
		got, ok := impl.FactorMatrix(a)
		if ok != (c.f != "none") || !equalFactors(got, want) {
			t.Errorf("FactorMatrix(%s) = %v, %t, want %s", c.a, got, ok, c.f)
		}
		sameRat(t, impl.DeterminantOf(a), determinant, "DeterminantOf")
		if expanded, ok := impl.ExpandFactor(want); c.f != "none" && (!ok || !equalMatrices(expanded, a)) {
			t.Errorf("ExpandFactor(%s) = %v, %t, want %s", c.f, expanded, ok, c.a)
		}
	}
}

// TestP15FactorizationsThatAreTooLarge has products, differences and elements of L that
// are too large, of matrices that are positive definite and of others.
func TestP15FactorizationsThatAreTooLarge(t *testing.T) {
	tests := []struct{ a, f string }{
		{"F", "F"}, {"T", "T"}, {"F 0;0 T", "F;0 T"}, {"T 0;0 F", "T;0 F"}, {"F 1;1 1", "F;T G/F"}, {"T T;T 1", "T;1 G/F"}, {"1 1;1 F", "1;1 G"}, {"F F;F F", "none"}, {"T 1;1 F", "none"},
		// A product, an element of L, or only a difference is too large.
		{"1 F;F F", "none"}, {"2 F;F F", "none"}, {"F 1/2;1/2 1", "none"}, {"1/2 F;F F", "none"}, {"F 1;1 2", "none"}, {"T T;T 2", "none"}, {"1 1/2;1/2 F", "none"}, {"F 1;1 F", "none"},
		{"F 1 0;1 1 1;0 1 F", "none"}, {"F 1 1;1 1 2;1 2 F", "none"}, {"F 1 1;1 1 1;1 1 1", "none"}, {"F 1 1;1 1 1;1 1 2", "none"}, {"F 1 1;1 1 1;1 1 3", "none"},
		// The differences are taken from the first column to the last one.
		{"F 0 1;0 1 1;1 1 2", "none"}, {"1 0 1;0 F 1;1 1 2", "1;0 F;1 T G/F"}, {"1 0 1;0 1 1;1 1 M", "1;0 1;1 1 N"}, {"2 0 1;0 2 1;1 1 F", "none"},
		{"F 1 0;1 1 0;0 0 1", "F;T G/F;0 0 1"}, {"F 0 1;0 1 0;1 0 1", "F;0 1;T 0 G/F"}, {"1 0 0;0 F 1;0 1 1", "1;0 F;0 T G/F"}, {"1 0 0;0 F 1;0 1 2", "none"},
	}
	for _, c := range tests {
		a, want := limitMatrix(c.a), impl.Factor{}
		why := checkFactorMatrix(t, a)
		if c.f != "none" {
			want = limitFactor(c.f)
		}
		got, ok := impl.FactorMatrix(a)
		if ok != (c.f != "none") || ok != (why == "") || !equalFactors(got, want) {
			t.Errorf("FactorMatrix(%s) = %v, %t, want %s", c.a, got, ok, c.f)
		}
	}
	// The sum of the products 1 and T that are subtracted from 4/3 is too large.
	a, want := limitMatrix("1 0 1 1;0 F 1 1;1 1 4/3 4/3;1 1 4/3 2"), limitFactor("1;0 F;1 T 1;1 T 1 2/3")
	want.Pivots[2] = impl.RatSub(smallRat(1, 3), longRats()[2])
	if got, ok := impl.FactorMatrix(a); !ok || !equalFactors(got, want) || checkFactorMatrix(t, a) != "" {
		t.Errorf("FactorMatrix(%v) = %v, %t, want %v", a, got, ok, want)
	}
}

// TestP15FactorMatrixOfOtherMatrices uses values that are not matrices, and matrices that
// are not symmetric.
func TestP15FactorMatrixOfOtherMatrices(t *testing.T) {
	checkNone := func(a impl.Matrix) {
		t.Helper()
		if f, ok := impl.FactorMatrix(a); ok || !equalFactors(f, impl.Factor{}) {
			t.Errorf("FactorMatrix(%v) = %v, %t, want the zero value", a, f, ok)
		}
		sameRat(t, impl.DeterminantOf(a), impl.Rat{}, "DeterminantOf")
		for _, n := range []int{0, 1, 2, 3, len(a.Rows)} {
			if x, ok := impl.SolveMatrix(a, slices.Repeat(vectorOf("1"), n)); ok || len(x) != 0 {
				t.Errorf("SolveMatrix(%v) = %v, %t, want nil", a, x, ok)
			}
		}
	}
	for _, a := range notMatrices() {
		checkNone(a)
	}
	// Each change of an element away from the diagonal counts, and no row may be missing.
	good, _ := wantedExpansion(limitFactor("2;1/2 3;1 -1 1/2;0 1 3 1"))
	for i := range 4 {
		for j := range 4 {
			dense := denseOf(good)
			dense[i][j] = impl.RatAdd(dense[i][j], smallRat(1, 9))
			if i != j {
				checkNone(sparseOf(dense))
			}
			dense[i][j] = smallRat(0, 1)
			if !equalRats(elementOf(good, i, j), smallRat(0, 1)) {
				checkNone(sparseOf(dense))
			}
		}
		checkNone(withRow(good, i, impl.Row{}))
	}
	for n := 1; n <= impl.MaxPoints; n += 13 {
		checkNone(impl.Matrix{Rows: make([]impl.Row, n)})
	}
}

func TestP15IsFactor(t *testing.T) {
	for _, f := range manyFactors() {
		if !impl.IsFactor(f) {
			t.Errorf("IsFactor(%v) = false, want true", f)
		}
	}
	for _, f := range notFactors() {
		if impl.IsFactor(f) {
			t.Errorf("IsFactor(%v) = true, want false", f)
		}
	}
}

func checkExpansion(t *testing.T, f impl.Factor) bool {
	t.Helper()
	want, wantOk := wantedExpansion(f)
	got, ok := impl.ExpandFactor(f)
	if ok != wantOk || !equalMatrices(got, want) {
		t.Errorf("ExpandFactor(%v) = %v, %t, want %v, %t", f, got, ok, want, wantOk)
	}
	return ok
}

func TestP15ExpandFactor(t *testing.T) {
	s := source(157)
	var counts [2]int
	list := manyFactors()
	for n := 1; n < 7; n++ {
		for limbs := 1; limbs < 13; limbs++ {
			list = append(list, s.factor(n, limbs))
		}
	}
	for _, f := range list {
		if checkExpansion(t, f) {
			counts[1]++
		} else {
			counts[0]++
		}
	}
	if min(counts[0], counts[1]) < 30 {
		t.Errorf("the numbers of expansions that are too large, and of others, are %v", counts)
	}
	for _, f := range notFactors() {
		if a, ok := impl.ExpandFactor(f); ok || !equalMatrices(a, impl.Matrix{}) {
			t.Errorf("ExpandFactor(%v) = %v, %t, want the zero value", f, a, ok)
		}
	}
}

// TestP15ExpansionsThatAreTooLarge has products and sums at the limits. The product of
// two elements of L may be too large.
func TestP15ExpansionsThatAreTooLarge(t *testing.T) {
	tests := []struct{ f, a string }{
		{"F", "F"}, {"T", "T"}, {"F;0 T", "F 0;0 T"}, {"F;T G/F", "F 1;1 1"}, {"1/M;M M", "1/M 1;1 G"}, {"T;2 T", "T 2/F;2/F 5/F"}, {"M;2 1", "none"}, {"M;-2 1", "none"}, {"M;1 M", "M M;M G"},
		// A product of an element of L with a pivot, with another element, or only a sum is too large.
		{"2;F 1", "none"}, {"1/2;T 1", "none"}, {"1;F 1", "none"}, {"1;T 1", "none"}, {"1/2;F 1", "none"}, {"T;F 1", "none"}, {"T;F T", "none"}, {"F;T 1", "none"}, {"F;T T", "F 1;1 2/F"},
		{"1;1 G", "1 1;1 F"}, {"1;-1 G", "1 -1;-1 F"}, {"1;1 F", "none"}, {"1;0 F", "1 0;0 F"}, {"1;0 F;0 1 1", "none"}, {"1;0 G;0 1 1", "1 0 0;0 G G;0 G F"}, {"1;0 G;0 -1 1", "1 0 0;0 G -G;0 -G F"}, {"1;0 G;1 1 1", "none"},
		// The sums are taken from the first column of L to the last one.
		{"T;0 G/F;1 1 1", "T 0 T;0 G/F G/F;T G/F 2"}, {"T;0 1;1 1 G/F", "none"}, {"1;0 T;1 1 G/F", "none"}, {"G/F;0 T;-1 1 1", "G/F 0 -G/F;0 T T;-G/F T 2"},
	}
	for _, c := range tests {
		f, want := limitFactor(c.f), impl.Matrix{}
		ok := checkExpansion(t, f)
		if c.a != "none" {
			want = limitMatrix(c.a)
		}
		if got, _ := impl.ExpandFactor(f); ok != (c.a != "none") || !equalMatrices(got, want) {
			t.Errorf("ExpandFactor(%s) = %v, %t, want %s", c.f, got, ok, c.a)
		}
	}
}

// checkSolutions compares SolveFactor with what is wanted, and SolveMatrix for the
// expansion, if there is one. It returns whether there is a solution.
func checkSolutions(t *testing.T, f impl.Factor, b []impl.Rat) bool {
	t.Helper()
	want, wantOk := wantedSolution(f, b)
	sameVector(t, impl.SolveFactor(f, b), want, "SolveFactor", b)
	a, isExpanded := wantedExpansion(f)
	if _, why := wantedFactor(a); isExpanded && why == "" {
		if got, ok := impl.SolveMatrix(a, b); ok != wantOk || !slices.EqualFunc(got, want, equalRats) {
			t.Errorf("SolveMatrix(%v, %v) = %v, %t, want %v, %t", a, b, got, ok, want, wantOk)
		}
	}
	return wantOk
}

func TestP15SolveFactor(t *testing.T) {
	s := source(158)
	var counts [2]int
	for _, f := range manyFactors() {
		n := len(f.Pivots)
		vectors := [][]impl.Rat{slices.Repeat(vectorOf("0"), n), s.integers(n), s.vector(n, 1), s.vector(n, 3)}
		if n > 0 {
			vectors = append(vectors, unitVector(n, s.upTo(n)))
		}
		for _, b := range vectors {
			if checkSolutions(t, f, b) {
				counts[1]++
			} else {
				counts[0]++
			}
		}
	}
	if min(counts[0], counts[1]) < 30 {
		t.Errorf("the numbers of solutions that are too large, and of others, are %v", counts)
	}
	// Without rows, there is a solution without elements.
	if x, ok := impl.SolveMatrix(impl.Matrix{}, nil); !ok || len(x) != 0 {
		t.Errorf("SolveMatrix without rows = %v, %t", x, ok)
	}
}

// TestP15SomeSolutions has solutions as text, and elements, products and differences of
// solutions that are too large.
func TestP15SomeSolutions(t *testing.T) {
	tests := []struct{ f, b, x string }{
		{"", "", ""}, {"2", "3", "3/2"}, {"1/7", "-1", "-7"}, {"2;1/2 3/2", "3 3", "1 1"}, {"2;1/2 3/2", "3 0", "2 -1"}, {"2;1/2 3/2", "0 0", "0 0"}, {"1;0 2;0 0 3", "1 1 1", "1 1/2 1/3"},
		{"4;1/2 9;-1/2 2/3 4", "4 17 12", "1 1 1"}, {"1;1 1;1 2 1", "1 0 0", "3 -3 1"}, {"1;1 1;1 2 1", "0 0 1", "1 -2 1"},
		// An element is too large: before it is divided by the pivot, after that, or at the end.
		{"1", "F", "F"}, {"T", "1", "F"}, {"T", "2", "none"}, {"F", "1", "T"}, {"F", "1/2", "none"}, {"F", "F", "1"}, {"1/2", "F", "none"}, {"1/2", "M", "G"}, {"F;0 F", "F 1/2", "none"},
		{"1;-1 F", "1 G", "2 1"}, {"1;-1 F", "2 G", "none"}, {"1;1 F", "-1 G", "-2 1"}, {"F;1 F", "F 0", "2 -1"}, {"1;1 1", "G 0", "none"}, {"F;2 1", "M 0", "none"}, {"F;2 1", "F 0", "none"},
		{"T;1 1", "1 0", "none"}, {"T;1 1", "1 1", "F 0"}, {"T;1 1", "1 2", "G 1"}, {"T;-1 1", "1 1", "none"}, {"T;-1 1", "1 -2", "G -1"}, {"1;2 1", "0 M", "-G M"}, {"1;2 1", "0 F", "none"}, {"1;-2 1", "0 -M", "-G -M"},
		// The differences are taken from the first column of L to the last one, and so are those of its transpose.
		{"1;0 1;1 1 F", "1 -1 F", "0 -2 1"}, {"1;0 1;1 1 F", "-1 1 F", "none"}, {"1;0 1;-1 -1 F", "-1 1 F", "0 2 1"}, {"1;0 1;-1 -1 F", "1 -1 F", "none"},
		{"T;1 1;1 0 1", "1 2 0", "F 1 -1"}, {"T;1 1;1 0 1", "1 0 2", "none"}, {"T;1 1;-1 0 1", "1 2 0", "F 1 1"}, {"T;-1 1;1 0 1", "1 0 2", "none"},
	}
	for _, c := range tests {
		f, b, want := limitFactor(c.f), limitVector(c.b), []impl.Rat(nil)
		if c.x != "none" {
			want = limitVector(c.x)
		}
		ok := checkSolutions(t, f, b)
		if got := impl.SolveFactor(f, b); ok != (c.x != "none") || !slices.EqualFunc(got, want, equalRats) {
			t.Errorf("SolveFactor(%s, %s) = %v, want %s", c.f, c.b, got, c.x)
		}
	}
}

func checkNoSolution(t *testing.T, f impl.Factor, b []impl.Rat) {
	t.Helper()
	if x := impl.SolveFactor(f, b); len(x) != 0 {
		t.Errorf("SolveFactor(%v, %v) = %v, want nil", f, b, x)
	}
}

// TestP15SolutionsOfOtherArguments uses values that are not factorizations, and vectors
// with other lengths or with elements that are not valid.
func TestP15SolutionsOfOtherArguments(t *testing.T) {
	for _, f := range notFactors() {
		for _, n := range []int{0, 1, 3, len(f.Lower), len(f.Pivots)} {
			checkNoSolution(t, f, slices.Repeat(vectorOf("1"), n))
			checkNoSolution(t, f, slices.Repeat(vectorOf("0"), n))
		}
	}
	checkNone := func(f impl.Factor, a impl.Matrix, b []impl.Rat) {
		t.Helper()
		checkNoSolution(t, f, b)
		if x, ok := impl.SolveMatrix(a, b); ok || len(x) != 0 {
			t.Errorf("SolveMatrix(%v, %v) = %v, %t, want nil", a, b, x, ok)
		}
	}
	s := source(159)
	for _, n := range []int{0, 1, 2, 3, 8, impl.MaxPoints} {
		f := s.smallFactor(n)
		a, _ := wantedExpansion(f)
		for _, other := range []int{0, 1, 2, 3, 4, 7, 8, 9, impl.MaxPoints - 1, impl.MaxPoints, impl.MaxPoints + 1, 1000} {
			if other != n {
				checkNone(f, a, slices.Repeat(vectorOf("1"), other))
				checkNone(f, a, slices.Repeat(vectorOf("0"), other))
			}
		}
	}
	f := limitFactor("2;1/2 3;0 -1 1/2")
	a, _ := wantedExpansion(f)
	for _, bad := range notRats() {
		for i := range 3 {
			checkNone(f, a, withElement(vectorOf("1 2 3"), i, bad))
			checkNone(f, a, withElement(vectorOf("0 0 0"), i, bad))
		}
		checkNone(f, a, append(vectorOf("1 2 3"), bad))
		checkNone(limitFactor("1"), limitMatrix("1"), []impl.Rat{bad})
		checkNone(impl.Factor{}, impl.Matrix{}, []impl.Rat{bad})
	}
}

// TestP15DeterminantsThatAreTooLarge has partial products that are too large.
func TestP15DeterminantsThatAreTooLarge(t *testing.T) {
	tests := []struct{ pivots, want string }{
		{"", "1"}, {"F", "F"}, {"T", "T"}, {"F T", "1"}, {"T F", "1"}, {"F 2", "none"}, {"2 F", "none"}, {"T 1/2", "none"}, {"F T F", "F"}, {"T F T", "T"}, {"F F T", "none"}, {"T T F", "none"}, {"F 1 1 1 T", "1"},
		{"2 F 1/2", "none"}, {"2 1/2 F", "F"}, {"2 M", "G"}, {"M 2", "G"}, {"M 3", "none"}, {"M 4 1/2", "none"}, {"M 1/2 4", "G"}, {"4 1/2 M", "G"}, {"1/3 F 3", "F"}, {"1/2 F 2", "F"}, {"F 3 1/3", "none"}, {"F F F", "none"},
	}
	for _, c := range tests {
		f := impl.Factor{Pivots: limitVector(c.pivots)}
		for i := range f.Pivots {
			f.Lower = append(f.Lower, slices.Repeat(vectorOf("0"), i))
		}
		a, _ := wantedExpansion(f)
		checkFactorMatrix(t, a)
		want := impl.Rat{}
		if c.want != "none" {
			want = limitVector(c.want)[0]
		}
		if got, ok := impl.FactorMatrix(a); !ok || !equalFactors(got, f) {
			t.Errorf("FactorMatrix(%v) = %v, %t, want %v", a, got, ok, f)
		}
		sameRat(t, impl.DeterminantOf(a), want, "DeterminantOf", f.Pivots...)
	}
}

// factorWithSpare returns a copy of f with something behind the ends of its lists, which
// no function may change.
func factorWithSpare(f impl.Factor) impl.Factor {
	var lower [][]impl.Rat
	for _, row := range f.Lower {
		lower = append(lower, vectorWithSpare(row))
	}
	return impl.Factor{Lower: append(lower, vectorOf("77"))[:len(f.Lower)], Pivots: vectorWithSpare(f.Pivots)}
}

func keepsFactor(f impl.Factor, want impl.Factor) bool {
	n := len(f.Lower)
	return slices.EqualFunc(f.Lower, want.Lower, keepsVector) && keepsVector(f.Pivots, want.Pivots) && slices.EqualFunc(f.Lower[:n+1][n], vectorOf("77"), equalRats)
}

// limbsOfFactors returns the lists of limbs of everything that the functions compute, and
// overwrites the lists that contain them.
func limbsOfFactors(a impl.Matrix, f impl.Factor, b []impl.Rat) [][]int {
	first, _ := impl.FactorMatrix(a)
	second, _ := impl.FactorMatrix(a)
	expanded, _ := impl.ExpandFactor(f)
	x, _ := impl.SolveMatrix(a, b)
	vectors := append(slices.Clone(first.Lower), first.Pivots, second.Pivots, x, impl.SolveFactor(f, b), []impl.Rat{impl.DeterminantOf(a)})
	vectors = append(vectors, second.Lower...)
	clear(first.Lower[:cap(first.Lower)])
	clear(second.Lower[:cap(second.Lower)])
	limbs := matrixLimbs(expanded)
	for _, vector := range vectors {
		for _, r := range vector {
			limbs = append(limbs, r.Num.Mag, r.Den)
		}
		clear(vector[:cap(vector)])
	}
	return limbs
}

func TestP15FactorArgumentsAreKept(t *testing.T) {
	vectors := [][]impl.Rat{vectorOf("1 -2"), vectorOf("0 1/2"), vectorOf("1"), notRats()[5:7], nil}
	matrices := append(fewMatrices(), limitMatrix("2 1 0;1 2 1;0 1 2"), limitMatrix("1 0;0 1"), limitMatrix("0"))
	list := append(notFactors()[:140], manyFactors()[:18]...)
	for i, wantF := range append(list, limitFactor("2;1/2 3/2"), limitFactor("1;0 5")) {
		for j, wantB := range vectors {
			wantA := matrices[(i+j)%len(matrices)]
			a, f, b := matrixWithSpare(wantA), factorWithSpare(wantF), vectorWithSpare(wantB)
			limbsOfFactors(a, f, b)
			impl.IsFactor(f)
			if !keepsMatrix(a, wantA) || !keepsFactor(f, wantF) || !keepsVector(b, wantB) {
				t.Fatalf("the arguments %v, %v and %v were changed", wantA, wantF, wantB)
			}
		}
	}
	for _, want := range definiteMatrices() {
		a, u := matrixWithSpare(want), slices.Repeat(vectorOf("1"), len(want.Rows))
		b := vectorWithSpare(u)
		impl.SolveMatrix(a, b)
		if !keepsMatrix(a, want) || !keepsVector(b, u) {
			t.Fatalf("the arguments %v and %v were changed", want, u)
		}
	}
}

// TestP15FactorResultsAreNew overwrites one list of limbs after the other and looks for
// the change in the lists after it and in the arguments.
func TestP15FactorResultsAreNew(t *testing.T) {
	for _, text := range []string{"2;1/2 3/2;0 1/3 2/5", "1;0 1;0 0 1", "1;1 1;1 2 1", "1;-1/2 1;0 0 3", "7/3;2 5;1 1 1"} {
		for _, numbers := range []string{"1 -2 1/2", "0 0 0", "1 0 0", "0 0 1", "1 1 1"} {
			wantF, wantB := limitFactor(text), vectorOf(numbers)
			wantA, _ := wantedExpansion(wantF)
			a, f, b := matrixWithSpare(wantA), factorWithSpare(wantF), vectorWithSpare(wantB)
			wants := limbsOfFactors(wantA, wantF, wantB)
			for k, limbs := range limbsOfFactors(a, f, b) {
				sameNat(t, limbs, wants[k], "a list after changes of others")
				overwrite(limbs)
			}
			if !keepsMatrix(a, wantA) || !keepsFactor(f, wantF) || !keepsVector(b, wantB) {
				t.Fatalf("changes of the results for %v, %v and %v reach the arguments", wantA, wantF, wantB)
			}
			for k, limbs := range limbsOfFactors(a, f, b) {
				sameNat(t, limbs, wants[k], "a list after changes of all results")
			}
		}
	}
}
