package tests

import (
	"math"
	"math/big"
	"regexp"
	"slices"
	"strings"
	"testing"

	"loop.example/g00812/impl"
)

// problemOf returns a problem with the vectors of two texts.
func problemOf(m impl.Mesh, diffusion string, source string) impl.Problem {
	return impl.Problem{Mesh: m, Diffusion: vectorOf(diffusion), Source: vectorOf(source)}
}

// positive returns a positive fraction that is as long as r.
func positive(r impl.Rat) impl.Rat {
	if len(r.Num.Mag) == 0 {
		return smallRat(1, 3)
	}
	return impl.Rat{Num: impl.BigInt{Mag: r.Num.Mag}, Den: r.Den}
}

func positives(u []impl.Rat) []impl.Rat {
	var next []impl.Rat
	for _, r := range u {
		next = append(next, positive(r))
	}
	return next
}

// problem returns a problem with fractions of at most the given number of limbs.
func (s *source) problem(m impl.Mesh, limbs int) impl.Problem {
	return impl.Problem{Mesh: m, Diffusion: positives(s.vector(3, limbs)), Source: s.vector(3, limbs)}
}

// withDiffusion, withSource and withOtherMesh return a problem with another field.
func withDiffusion(p impl.Problem, u []impl.Rat) impl.Problem {
	return impl.Problem{Mesh: p.Mesh, Diffusion: u, Source: p.Source}
}

func withSource(p impl.Problem, u []impl.Rat) impl.Problem {
	return impl.Problem{Mesh: p.Mesh, Diffusion: p.Diffusion, Source: u}
}

func withOtherMesh(p impl.Problem, m impl.Mesh) impl.Problem {
	return impl.Problem{Mesh: m, Diffusion: p.Diffusion, Source: p.Source}
}

// regionProblem returns a problem on a square, in the triangles of which all regions
// occur.
func regionProblem() impl.Problem {
	m := squareWithCenter()
	for k := range m.Triangles {
		m.Triangles[k].Region = []int{2, 0, 1, 0}[k]
	}
	return problemOf(m, "1 1/2 7", "-3 0 5/4")
}

// manyProblems returns problems on meshes of all kinds with fractions of all lengths.
func manyProblems() []impl.Problem {
	s := source(121)
	list := []impl.Problem{regionProblem(), problemOf(impl.SquareMesh(1), "1 1 1", "0 0 0")}
	for i, m := range writtenMeshes() {
		list = append(list, s.problem(m, []int{1, 2, 23}[i%3]))
	}
	for i, r := range sampleRats() {
		p := s.problem(simpleMeshes()[i%4], 1)
		p.Diffusion[i%3], p.Source[i/3%3] = positive(r), r
		list = append(list, p)
	}
	return list
}

// vectorsOfOtherLengths returns vectors of valid, positive fractions.
func vectorsOfOtherLengths() [][]impl.Rat {
	list := [][]impl.Rat{nil, {}}
	for _, n := range []int{1, 2, 4, 5, 6, 100000} {
		list = append(list, slices.Repeat(vectorOf("2/3"), n))
	}
	return list
}

// vectorsWithBadElements returns vectors of three elements, of which some are not valid.
func vectorsWithBadElements() [][]impl.Rat {
	list := [][]impl.Rat{make([]impl.Rat, 3)}
	for _, bad := range notRats() {
		for i := range 3 {
			list = append(list, withElement(vectorOf("1 2 3"), i, bad))
		}
	}
	return list
}

func notSources() [][]impl.Rat {
	return append(vectorsOfOtherLengths(), vectorsWithBadElements()...)
}

// notDiffusions returns notSources and vectors with elements that are not positive.
func notDiffusions() [][]impl.Rat {
	list := append(notSources(), vectorOf("0 0 0"), vectorOf("-1 -1 -1"))
	least := longRats()[2]
	for _, r := range []impl.Rat{smallRat(0, 1), smallRat(-1, 1), smallRat(-1, 2), longRats()[1], impl.RatNeg(least)} {
		for i := range 3 {
			list = append(list, withElement(vectorOf("1 2 3"), i, r))
		}
	}
	return list
}

// notProblems returns values that are not problems for every reason that there is.
func notProblems() []impl.Problem {
	good := regionProblem()
	list := []impl.Problem{{}, {Mesh: good.Mesh}, {Diffusion: good.Diffusion, Source: good.Source}}
	for _, m := range notMeshes() {
		list = append(list, withOtherMesh(good, m))
	}
	for _, u := range notSources() {
		list = append(list, withSource(good, u), withSource(withDiffusion(good, u), u))
	}
	for _, u := range notDiffusions() {
		list = append(list, withDiffusion(good, u))
	}
	return list
}

func equalProblems(p impl.Problem, q impl.Problem) bool {
	areEqual := equalMeshes(p.Mesh, q.Mesh) && slices.EqualFunc(p.Diffusion, q.Diffusion, equalRats)
	return areEqual && slices.EqualFunc(p.Source, q.Source, equalRats)
}

// checkProblem compares a problem and the boolean that was returned with it.
func checkProblem(t *testing.T, got impl.Problem, ok bool, want impl.Problem, wantOk bool, name string) {
	t.Helper()
	if ok != wantOk || !equalProblems(got, want) {
		t.Errorf("%s = %v, %t, want %v, %t", name, got, ok, want, wantOk)
	}
}

// wantedProblemText is FormatProblem for a problem, computed without the program.
func wantedProblemText(p impl.Problem) string {
	text := wantedText(p.Mesh) + "k"
	for _, r := range p.Diffusion {
		text += " " + bigOfRat(r).RatString()
	}
	text += "\nf"
	for _, r := range p.Source {
		text += " " + bigOfRat(r).RatString()
	}
	return text + "\n"
}

func TestP1ProblemsAreRecoveredFromTheirText(t *testing.T) {
	for _, p := range manyProblems() {
		text := impl.FormatProblem(p)
		back, ok := impl.ParseProblem(text)
		checkProblem(t, back, ok, p, true, "ParseProblem of FormatProblem")
		if !impl.SameProblem(back, p) || impl.FormatProblem(back) != text || text == "" {
			t.Errorf("the text of %v is %q, and that of ParseProblem of it is %q", p, text, impl.FormatProblem(back))
		}
	}
}

func TestP1DifferentProblemsHaveDifferentTexts(t *testing.T) {
	problems := map[string]impl.Problem{}
	for _, p := range append(manyProblems(), variants()...) {
		text := impl.FormatProblem(p)
		if q, isThere := problems[text]; isThere && !equalProblems(p, q) {
			t.Errorf("%v and %v have the text %q", p, q, text)
		}
		if text != "" {
			problems[text] = p
		}
	}
	if len(problems) < 200 {
		t.Errorf("there are %d texts only", len(problems))
	}
}

// TestP1CoefficientsAreRecovered writes the numbers of a problem one by one.
func TestP1CoefficientsAreRecovered(t *testing.T) {
	p := regionProblem()
	for _, r := range sampleRats() {
		for k, u := range p.Mesh.Triangles {
			words := []string{"1", "1", "1"}
			words[u.Region] = bigOfRat(positive(r)).RatString()
			line := "k " + strings.Join(words, " ") + "\n"
			words[u.Region] = bigOfRat(r).RatString()
			back, _ := impl.ParseProblem(wantedText(p.Mesh) + line + "f " + strings.Join(words, " ") + "\n")
			sameRat(t, impl.DiffusionAt(back, k), positive(r), "DiffusionAt in a recovered problem")
			sameRat(t, impl.SourceAt(back, k), r, "SourceAt in a recovered problem")
		}
	}
}

func TestP1RecoveredCoefficientsSatisfyTheLawsOfArithmetic(t *testing.T) {
	s := source(122)
	for range 40 {
		p, _ := impl.ParseProblem(wantedProblemText(s.problem(regionProblem().Mesh, 3)))
		k, f := [3]impl.Rat{}, [3]impl.Rat{}
		for i := range 3 {
			k[i], f[i] = impl.DiffusionAt(p, i), impl.SourceAt(p, i)
		}
		checkRatSumLaws(t, k[0], f[1], k[2])
		checkRatProductLaws(t, f[0], k[1], f[2])
		checkRatOrderLaws(t, k[0], f[0], f[1])
	}
}

func TestP15IsProblem(t *testing.T) {
	for _, p := range manyProblems() {
		if !impl.IsProblem(p) {
			t.Errorf("IsProblem(%v) = false, want true", p)
		}
	}
	for _, p := range notProblems() {
		if impl.IsProblem(p) {
			t.Errorf("IsProblem(%v) = true, want false", p)
		}
	}
	// A source may have any sign, and a diffusion may be as small as there is.
	least := longRats()[2]
	for i := range 3 {
		p := withDiffusion(regionProblem(), withElement(vectorOf("1 1 1"), i, least))
		p = withSource(p, withElement(vectorOf("0 0 0"), i, longRats()[1]))
		if !impl.IsProblem(p) {
			t.Errorf("IsProblem(%v) = false, want true", p)
		}
	}
}

func TestP15FormatProblem(t *testing.T) {
	for _, p := range manyProblems() {
		if got, want := impl.FormatProblem(p), wantedProblemText(p); got != want {
			t.Errorf("FormatProblem(%v) = %q, want %q", p, got, want)
		}
	}
	want := "p 0,0\np 2,0\np 2,2\np 0,2\np 1,1\nt 4 0 1 2 0\nt 4 1 2 0 0\nt 4 2 3 1 0\nt 4 3 0 0 0\nk 1 1/2 7\nf -3 0 5/4\n"
	if got := impl.FormatProblem(regionProblem()); got != want {
		t.Errorf("FormatProblem(%v) = %q, want %q", regionProblem(), got, want)
	}
	for _, p := range notProblems() {
		if got := impl.FormatProblem(p); got != "" {
			t.Errorf("FormatProblem(%v) = %q, want an empty string", p, got)
		}
	}
}

// textOfProblem divides a text into that of a mesh and those of six fractions.
var textOfProblem = regexp.MustCompile(`^((?:[pt] .*\n)*)k ([0-9/]+) ([0-9/]+) ([0-9/]+)\nf ([-0-9/]+) ([-0-9/]+) ([-0-9/]+)\n$`)

// isWrittenRat reports whether a text is that of a fraction of at most 24 limbs.
func isWrittenRat(text string) bool {
	r, ok := new(big.Rat).SetString(text)
	return ok && r.RatString() == text && limitedRat(r).Den != nil
}

// isWrittenProblem reports whether a text is that of a problem.
func isWrittenProblem(text string) bool {
	parts := textOfProblem.FindStringSubmatch(text)
	isWrong := func(word string) bool { return !isWrittenRat(word) }
	if parts == nil || slices.ContainsFunc(parts[2:], isWrong) || slices.Contains(parts[2:5], "0") {
		return false
	}
	return isWrittenMesh(parts[1])
}

func checkProblemText(t *testing.T, text string, want bool) {
	t.Helper()
	p, ok := impl.ParseProblem(text)
	if ok != want {
		t.Errorf("ParseProblem(%.500q) = _, %t, want %t", text, ok, want)
	}
	if ok && wantedProblemText(p) != text {
		t.Errorf("ParseProblem(%.500q) = %v, of which the text is %q", text, p, wantedProblemText(p))
	}
	if !ok && !equalProblems(p, impl.Problem{}) {
		t.Errorf("ParseProblem(%.500q) = %v, want the zero value", text, p)
	}
}

func TestP15ParseProblem(t *testing.T) {
	for _, p := range manyProblems() {
		text := wantedProblemText(p)
		got, ok := impl.ParseProblem(text)
		checkProblem(t, got, ok, p, true, "ParseProblem")
		if !isWrittenProblem(text) {
			t.Errorf("the test does not accept %q", text)
		}
	}
}

func TestP15ParseProblemOfChangedTexts(t *testing.T) {
	accepted := 0
	corner := meshAt(1, []int64{0, 0, 1, 0, 0, 1}, 0, 1, 2)
	pieces := []string{"", "0", "1", "2", "9", "-", "+", "/", ",", ".", " ", "\n", "\r", "\t", "p", "t", "k", "f", "K", "F", "\x00", "\xff", "k ", " 1", "/2", "f 1 1 1\n", "k 1 1 1\n", "\r\n", "\u00a0"}
	for _, p := range []impl.Problem{problemOf(corner, "1 2/3 40", "-1 0 5/2"), problemOf(corner, "10 3 3/10", "0 -20 100")} {
		for _, s := range changedTexts(wantedProblemText(p), pieces...) {
			isProblem := isWrittenProblem(s)
			checkProblemText(t, s, isProblem)
			if isProblem {
				accepted++
			}
		}
	}
	if accepted < 100 {
		t.Errorf("only %d of the changed texts are accepted", accepted)
	}
}

func TestP15ParseProblemOfLinesInAnotherOrder(t *testing.T) {
	for _, p := range []impl.Problem{regionProblem(), problemOf(simpleMeshes()[0], "1 1 1", "1 1 1")} {
		for _, text := range reorderedTexts(wantedProblemText(p)) {
			checkProblemText(t, text, isWrittenProblem(text))
		}
	}
	m, k, f := wantedText(simpleMeshes()[0]), "k 1 2 3\n", "f 4 5 6\n"
	checkProblemText(t, m+k+f, true)
	for _, text := range []string{m + f + k, k + m + f, f + m + k, k + f + m, f + k + m, m + k, m + f, k + f, m + k + k + f, m + k + f + f, m + k + f + k, m + f + k + f, "k 7 7 7\n" + m + k + f, m + "k\n" + k + f} {
		checkProblemText(t, text, false)
	}
}

// textsOfNoProblem returns texts that are those of a problem except for one thing.
func textsOfNoProblem() []string {
	m, k, f := wantedText(simpleMeshes()[0]), "k 1 2 3\n", "f 4 5 6\n"
	texts := []string{
		"", "\n", "k", "f", "k\n", "f\n", "k \n", "f \n", m, k, f, m + k + "f 4 5 6", m + k + f + "\n", "\n" + m + k + f, m + "\n" + k + f, m + k + "\n" + f, m + k + f + " ", m + k + f + "x", m + k + f + "x\n", m + k + f + "#\n", m + k + f + "part 1\n", m + k + f + "\x00",
		m + "k\n" + f, m + "k \n" + f, m + k + "f\n", m + k + "f \n", m + "K 1 2 3\n" + f, m + k + "F 4 5 6\n", m + "kk 1 2 3\n" + f, m + "k1 2 3\n" + f, m + k + "g 4 5 6\n", m + "1 2 3\n" + f, m + " 1 2 3\n" + f, m + "k\t1 2 3\n" + f, m + k + "f,4 5 6\n",
		m + "k 1 2 3 f 4 5 6\n", m + "k 1 2 3\rf 4 5 6\n", m + "k 1 2 3\r\n" + f, m + k + "f 4 5 6\r\n", strings.TrimSuffix(m, "\n") + " " + k + f, m + m + k + f, strings.Repeat("\n", 5000), m + k + strings.Repeat(f, 5000), strings.Repeat(m, 5000) + k + f,
		m + "k" + strings.Repeat(" 1", 50000) + "\n" + f, m + k + "f" + strings.Repeat(" ", 50000) + "\n", m + "k 1 2 " + strings.Repeat("9", 50000) + "\n" + f, m + k + "f" + strings.Repeat(" 0", 50000) + "\n",
	}
	for _, words := range []string{
		"1", "1 2", "1 2 3 4", "1 2 3 ", " 1 2 3", "1  2 3", "1 2  3", "1,2,3", "1 2,3", "1\t2 3", "1 2 3x", "1 2 x", "x 2 3", "1 2 +3", "1 02 3", "00 2 3", "1 2 -0", "1 2 3/1", "1 2/2 3", "2/4 2 3", "1 2 3/0", "1 2 0/3", "1 /2 3", "1 2/ 3",
		"1 2 1/-3", "1 2 3.0", "1 2 1e1", "1 2 0x1", "1 2 1_0", "1 2 \uff11", "1 2 3\x00", "1 2 3\u00a0", "1 2\n3", "1 2 3 # 4", "1 2 1" + strings.Repeat("0", 216), "1 1/1" + strings.Repeat("0", 216) + " 3", "-1" + strings.Repeat("0", 216) + " 2 3",
	} {
		texts = append(texts, m+"k "+words+"\n"+f, m+k+"f "+words+"\n")
	}
	return texts
}

func TestP15ParseProblemRejectsOtherTexts(t *testing.T) {
	for _, text := range textsOfNoProblem() {
		checkProblemText(t, text, false)
	}
	m, k, f, nines := wantedText(simpleMeshes()[0]), "k 1 2 3\n", "f 4 5 6\n", strings.Repeat("9", 216)
	checkProblemText(t, m+"k "+nines+" 1/"+nines+" 3\nf -"+nines+" -1/"+nines+" 0\n", true)
	for _, words := range []string{"0 1 1", "1 0 1", "1 1 0", "-1 1 1", "1 -1/2 1", "1 1 -3", "0 0 0", "-1 -1 -1", "1 1 -" + nines} {
		checkProblemText(t, m+"k "+words+"\n"+f, false)
		checkProblemText(t, m+k+"f "+words+"\n", true)
	}
	for _, text := range textsOfNoMesh() {
		checkProblemText(t, text+k+f, false)
		checkProblemText(t, text, false)
	}
	isNoPoint := func(p impl.Point) bool { return !impl.IsValidPoint(p) }
	for _, m := range notMeshes() {
		if !slices.ContainsFunc(m.Points, isNoPoint) {
			checkProblemText(t, wantedText(m)+k+f, false)
		}
	}
	for _, text := range textsOver([]string{"p ", "t ", "k ", "f ", "1 ", "1\n"}, 5) {
		checkProblemText(t, text, false)
	}
}

// TestP15ParseProblemAfterAFailure looks at whether the failure leaves anything behind.
func TestP15ParseProblemAfterAFailure(t *testing.T) {
	text := wantedProblemText(regionProblem())
	for range 3 {
		checkProblemText(t, text[:len(text)-1], false)
		checkProblemText(t, text, true)
		checkProblemText(t, text+"x\n", false)
	}
}

// TestP15MeshTextsAreNoProblems has ParseMesh and ParseProblem reject each other's texts.
func TestP15MeshTextsAreNoProblems(t *testing.T) {
	for _, p := range manyProblems()[:40] {
		checkProblemText(t, wantedText(p.Mesh), false)
		checkText(t, wantedProblemText(p), false)
	}
}

// checkCoefficients compares DiffusionAt and SourceAt for all triangles and other indices.
func checkCoefficients(t *testing.T, p impl.Problem) {
	t.Helper()
	for k, u := range p.Mesh.Triangles {
		sameRat(t, impl.DiffusionAt(p, k), p.Diffusion[u.Region], "DiffusionAt")
		sameRat(t, impl.SourceAt(p, k), p.Source[u.Region], "SourceAt")
	}
	for _, k := range []int{-1, len(p.Mesh.Triangles), len(p.Mesh.Triangles) + 1, math.MinInt, math.MaxInt, 1 << 32} {
		checkNoCoefficients(t, p, k)
	}
}

func checkNoCoefficients(t *testing.T, p impl.Problem, k int) {
	t.Helper()
	if d, f := impl.DiffusionAt(p, k), impl.SourceAt(p, k); !equalRats(d, impl.Rat{}) || !equalRats(f, impl.Rat{}) {
		t.Errorf("DiffusionAt and SourceAt(%v, %d) = %v and %v, want the zero value", p, k, d, f)
	}
}

func TestP15DiffusionAtAndSourceAt(t *testing.T) {
	s := source(125)
	for _, p := range manyProblems() {
		k := s.upTo(len(p.Mesh.Triangles))
		region := p.Mesh.Triangles[k].Region
		sameRat(t, impl.DiffusionAt(p, k), p.Diffusion[region], "DiffusionAt")
		sameRat(t, impl.SourceAt(p, k), p.Source[region], "SourceAt")
	}
	for _, p := range append(fewProblems()[:3], s.problem(s.mixed(gridMesh(12, 2)), 5)) {
		checkCoefficients(t, p)
	}
	p := regionProblem()
	for k, want := range []string{"7 5/4", "1 -3", "1/2 0", "1 -3"} {
		got := []impl.Rat{impl.DiffusionAt(p, k), impl.SourceAt(p, k)}
		sameVector(t, got, vectorOf(want), "the coefficients", got)
	}
	for _, p := range notProblems() {
		for _, k := range []int{-1, 0, 1, len(p.Mesh.Triangles) - 1, len(p.Mesh.Triangles)} {
			checkNoCoefficients(t, p, k)
		}
	}
}

func TestP15WithSource(t *testing.T) {
	s := source(123)
	for i, p := range manyProblems() {
		f := s.vector(3, 1+i%24)
		got, ok := impl.WithSource(p, f)
		checkProblem(t, got, ok, withSource(p, f), true, "WithSource")
	}
	good := regionProblem()
	for _, f := range [][]impl.Rat{vectorOf("0 0 0"), vectorOf("-1 -2 -1/3"), longRats()[:3], good.Source} {
		got, ok := impl.WithSource(good, f)
		checkProblem(t, got, ok, withSource(good, f), true, "WithSource")
	}
	for _, f := range notSources() {
		got, ok := impl.WithSource(good, f)
		checkProblem(t, got, ok, good, false, "WithSource of another vector")
	}
	for _, p := range notProblems() {
		for _, f := range [][]impl.Rat{vectorOf("1 1 1"), p.Source, vectorOf("1 1")} {
			got, ok := impl.WithSource(p, f)
			checkProblem(t, got, ok, p, false, "WithSource of no problem")
		}
	}
}

func TestP15WithMesh(t *testing.T) {
	meshes := writtenMeshes()
	for i, p := range manyProblems() {
		m := meshes[(3*i+5)%len(meshes)]
		got, ok := impl.WithMesh(p, m)
		checkProblem(t, got, ok, withOtherMesh(p, m), true, "WithMesh")
	}
	good := regionProblem()
	for _, m := range notMeshes() {
		got, ok := impl.WithMesh(good, m)
		checkProblem(t, got, ok, good, false, "WithMesh of no mesh")
	}
	for _, p := range notProblems() {
		for _, m := range []impl.Mesh{impl.CornerMesh(), p.Mesh, {}} {
			got, ok := impl.WithMesh(p, m)
			checkProblem(t, got, ok, p, false, "WithMesh of no problem")
		}
	}
}

// variants returns a problem and values that differ from it, and from each other, in one
// place only. Some of them are not problems.
func variants() []impl.Problem {
	p := regionProblem()
	list := []impl.Problem{p, {}, withDiffusion(p, nil), withSource(p, nil), withOtherMesh(p, impl.Mesh{})}
	list = append(list, withOtherMesh(p, withPoint(p.Mesh, 4, smallPoint(3, 3, 4))), withOtherMesh(p, impl.Mesh{Points: p.Mesh.Points}), withOtherMesh(p, further(p.Mesh, nil, impl.Tri{})))
	for _, change := range []func(*impl.Tri){func(u *impl.Tri) { u.A++ }, func(u *impl.Tri) { u.B++ }, func(u *impl.Tri) { u.C++ }, func(u *impl.Tri) { u.Region++ }, func(u *impl.Tri) { u.Level++ }} {
		u := p.Mesh.Triangles[3]
		change(&u)
		list = append(list, withOtherMesh(p, withTriangle(p.Mesh, 3, u)))
	}
	for i := range 3 {
		for _, r := range []impl.Rat{{}, smallRat(2, 1), smallRat(-1, 1), smallRat(1, 4), longRats()[0], longRats()[2]} {
			list = append(list, withDiffusion(p, withElement(p.Diffusion, i, r)), withSource(p, withElement(p.Source, i, r)))
		}
	}
	list = append(list, withDiffusion(p, p.Diffusion[:2]), withSource(p, p.Source[:2]), withDiffusion(p, append(slices.Clone(p.Diffusion), p.Source[0])), withSource(p, append(slices.Clone(p.Source), p.Source[0])))
	return append(list, impl.Problem{Mesh: p.Mesh, Diffusion: p.Source, Source: p.Diffusion}, withDiffusion(p, []impl.Rat{p.Diffusion[1], p.Diffusion[0], p.Diffusion[2]}))
}

func checkSameProblem(t *testing.T, p impl.Problem, q impl.Problem, want bool) {
	t.Helper()
	if got := impl.SameProblem(p, q); got != want {
		t.Errorf("SameProblem(%v, %v) = %t, want %t", p, q, got, want)
	}
}

func TestP15SameProblem(t *testing.T) {
	list := variants()
	for i, p := range list {
		for j, q := range list {
			checkSameProblem(t, p, q, i == j)
			checkSameProblem(t, p, problemWithSpare(q), i == j)
		}
	}
	empty := impl.Problem{Mesh: impl.Mesh{Points: []impl.Point{}, Triangles: []impl.Tri{}}, Diffusion: []impl.Rat{}, Source: []impl.Rat{}}
	checkSameProblem(t, empty, impl.Problem{}, true)
	// Values that are not problems may be equal, too.
	for _, p := range notProblems() {
		checkSameProblem(t, p, p, true)
		checkSameProblem(t, p, regionProblem(), false)
		checkSameProblem(t, regionProblem(), p, false)
	}
}

// problemWithSpare returns a copy of p with something behind the ends of its lists, which
// no function may change.
func problemWithSpare(p impl.Problem) impl.Problem {
	return impl.Problem{Mesh: meshWithSpare(p.Mesh), Diffusion: vectorWithSpare(p.Diffusion), Source: vectorWithSpare(p.Source)}
}

func keepsProblem(p impl.Problem, want impl.Problem) bool {
	return keepsMesh(p.Mesh, want.Mesh) && keepsVector(p.Diffusion, want.Diffusion) && keepsVector(p.Source, want.Source)
}

// fewProblems returns problems of all kinds and values that are not problems.
func fewProblems() []impl.Problem {
	s := source(124)
	good := regionProblem()
	list := []impl.Problem{good, s.problem(ringMesh(), 20), s.problem(turned(gridMesh(2, 2)), 1), {}}
	for _, u := range [][]impl.Rat{vectorOf("1 2"), vectorOf("1 2 0 4"), notRats()[5:8], append(vectorOf("1 2"), notRats()[14])} {
		list = append(list, withDiffusion(good, u), withSource(good, u))
	}
	for _, m := range fewMeshes()[3:] {
		list = append(list, withOtherMesh(good, m))
	}
	return list
}

func TestP15ProblemArgumentsAreKept(t *testing.T) {
	list := append(fewProblems(), notProblems()[:300]...)
	vectors, meshes := [][]impl.Rat{vectorOf("1 0 -2"), vectorOf("1 2"), notRats()[5:8]}, []impl.Mesh{squareWithCenter(), fewMeshes()[4], {}}
	for i, want := range list {
		p, f, m := problemWithSpare(want), vectorWithSpare(vectors[i%3]), meshWithSpare(meshes[i/3%3])
		impl.IsProblem(p)
		impl.FormatProblem(p)
		for _, k := range []int{-1, 0, len(p.Mesh.Triangles) - 1, len(p.Mesh.Triangles)} {
			impl.DiffusionAt(p, k)
			impl.SourceAt(p, k)
		}
		impl.WithSource(p, f)
		impl.WithMesh(p, m)
		impl.SameProblem(p, p)
		if !keepsProblem(p, want) || !keepsVector(f, vectors[i%3]) || !keepsMesh(m, meshes[i/3%3]) {
			t.Fatalf("the arguments %v, %v and %v were changed", want, vectors[i%3], meshes[i/3%3])
		}
	}
}

// overwriteProblem changes everything that belongs to a problem, and checks like
// overwriteMesh that no list belongs to the part that has been changed before.
func overwriteProblem(t *testing.T, p impl.Problem, want impl.Problem) {
	t.Helper()
	overwriteMesh(t, p.Mesh, want.Mesh)
	wants := append(slices.Clone(want.Diffusion), want.Source...)
	for i, r := range append(slices.Clone(p.Diffusion), p.Source...) {
		sameNat(t, r.Num.Mag, wants[i].Num.Mag, "a numerator after changes of others")
		overwrite(r.Num.Mag)
		sameNat(t, r.Den, wants[i].Den, "a denominator after changes of others")
		overwrite(r.Den)
	}
	for _, u := range [][]impl.Rat{p.Diffusion, p.Source} {
		clear(u[:cap(u)])
	}
	if !slices.EqualFunc(p.Source, make([]impl.Rat, len(p.Source)), equalRats) {
		t.Errorf("the source is %v after it was cleared", p.Source)
	}
}

// problemsFrom returns the results of the functions that return a problem.
func problemsFrom(p impl.Problem, f []impl.Rat, m impl.Mesh) []impl.Problem {
	first, _ := impl.WithSource(p, f)
	second, _ := impl.WithMesh(p, m)
	third, _ := impl.ParseProblem("p 0,0\np 1,0\np 0,1\nt 0 1 2 0 0\nk 1 1 2\nf 2 2 1\n")
	return []impl.Problem{first, second, third}
}

func TestP15ProblemResultsAreNew(t *testing.T) {
	for _, want := range fewProblems() {
		for _, vector := range [][]impl.Rat{vectorOf("1 0 -2"), vectorOf("1 1 1"), vectorOf("1 2")} {
			for _, mesh := range []impl.Mesh{impl.SquareMesh(1), fewMeshes()[4]} {
				p, f, m := problemWithSpare(want), vectorWithSpare(vector), meshWithSpare(mesh)
				wants := problemsFrom(want, vector, mesh)
				for i, q := range problemsFrom(p, f, m) {
					copied := problemWithSpare(wants[i])
					overwriteProblem(t, q, copied)
				}
				if !keepsProblem(p, want) || !keepsVector(f, vector) || !keepsMesh(m, mesh) {
					t.Fatalf("changes of the results for %v, %v and %v reach the arguments", want, vector, mesh)
				}
				for i, q := range problemsFrom(p, f, m) {
					checkProblem(t, q, true, wants[i], true, "a result after changes of all results")
				}
			}
		}
	}
}

// TestP15CoefficientsAreNew overwrites the coefficients of one triangle after the other.
func TestP15CoefficientsAreNew(t *testing.T) {
	for _, want := range fewProblems()[:3] {
		p := problemWithSpare(want)
		for k := range p.Mesh.Triangles {
			for _, r := range []impl.Rat{impl.DiffusionAt(p, k), impl.SourceAt(p, k)} {
				overwrite(r.Num.Mag)
				overwrite(r.Den)
			}
			if !keepsProblem(p, want) {
				t.Fatalf("changes of the coefficients of triangle %d reach the argument %v", k, want)
			}
		}
		checkCoefficients(t, p)
	}
}
