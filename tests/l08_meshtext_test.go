package tests

import (
	"math"
	"regexp"
	"slices"
	"strconv"
	"strings"
	"testing"

	"loop.example/g00812/impl"
)

func equalMeshes(a impl.Mesh, b impl.Mesh) bool {
	return slices.EqualFunc(a.Points, b.Points, equalPoints) && slices.Equal(a.Triangles, b.Triangles)
}

func sameMesh(t *testing.T, got impl.Mesh, want impl.Mesh, name string) {
	t.Helper()
	if !equalMeshes(got, want) {
		t.Errorf("%s = %v, want %v", name, got, want)
	}
}

// wantedText is FormatMesh for a mesh, computed without the program.
func wantedText(m impl.Mesh) string {
	var text strings.Builder
	for _, p := range m.Points {
		text.WriteString("p " + bigOfRat(p.X).RatString() + "," + bigOfRat(p.Y).RatString() + "\n")
	}
	for _, u := range m.Triangles {
		text.WriteString("t")
		for _, n := range []int{u.A, u.B, u.C, u.Region, u.Level} {
			text.WriteString(" " + strconv.Itoa(n))
		}
		text.WriteString("\n")
	}
	return text.String()
}

// writtenMeshes returns meshes with regions, levels and coordinates of all lengths.
func writtenMeshes() []impl.Mesh {
	s := source(41)
	corners := []int{0, 1, 4, 1, 2, 4, 2, 3, 4, 3, 0, 4}
	long := withPoint(meshAt(1, []int64{0, 0, 2, 0, 2, 2, 0, 2, 1, 1}, corners...), 4, longCenter())
	list := append(sampleMeshes(), long, further(long, nil, long.Triangles...), flatMesh(longRats()[0], longRats()[2]))
	list = append(list, s.mixed(gridMesh(19, 1)), s.mixed(gridMesh(12, 2)), s.mixed(image(squareWithCenter(), s.corners(5))))
	return append(list, impl.SquareMesh(1), impl.SquareMesh(2), impl.SquareMesh(3), impl.CornerMesh())
}

func TestP3MeshesAreRecoveredFromTheirText(t *testing.T) {
	for _, m := range writtenMeshes() {
		text := impl.FormatMesh(m)
		back, ok := impl.ParseMesh(text)
		if !ok || !equalMeshes(back, m) || !impl.SameMesh(back, m) {
			t.Errorf("ParseMesh(%q) = %v, %t, want %v, true", text, back, ok, m)
		}
	}
}

// TestP3RecoveredMeshesAreConforming looks at what the text has to keep: the edges with
// their triangles, and the area.
func TestP3RecoveredMeshesAreConforming(t *testing.T) {
	for _, m := range writtenMeshes() {
		back, _ := impl.ParseMesh(wantedText(m))
		checkMesh(t, back, true)
		sameRatOfMesh(t, impl.MeshArea(back), wantedArea(m), "MeshArea", back)
		if got, want := impl.EdgesOf(back), wantedEdges(m); !slices.Equal(got, want) {
			t.Errorf("EdgesOf(%v) = %v, want %v", back, got, want)
		}
	}
}

func TestP3HangingPointsAreRejectedInTexts(t *testing.T) {
	for _, m := range append(simpleMeshes(), brokenUpMeshes()...) {
		for _, e := range wantedEdges(m) {
			checkText(t, wantedText(split(m, e, false)), true)
			checkText(t, wantedText(split(m, e, true)), e.Left < 0 || e.Right < 0)
		}
	}
}

func checkText(t *testing.T, text string, want bool) {
	t.Helper()
	m, ok := impl.ParseMesh(text)
	if ok != want {
		t.Errorf("ParseMesh(%.500q) = _, %t, want %t", text, ok, want)
	}
	if ok && wantedText(m) != text {
		t.Errorf("ParseMesh(%.500q) = %v, of which the text is %q", text, m, wantedText(m))
	}
	if !ok {
		sameMesh(t, m, impl.Mesh{}, "ParseMesh of no mesh")
	}
}

// checkBuiltIn checks that m is a conforming mesh without regions and levels.
func checkBuiltIn(t *testing.T, m impl.Mesh, area int64, counts ...int) {
	t.Helper()
	checkMesh(t, m, true)
	sameRatOfMesh(t, impl.MeshArea(m), smallRat(area, 1), "MeshArea", m)
	edges := impl.EdgesOf(m)
	got := []int{len(m.Points), len(edges), len(m.Triangles), len(impl.InteriorPoints(m))}
	if !isConforming(m) || !slices.Equal(got, counts) {
		t.Errorf("%v has the numbers %v, want %v", m, got, counts)
	}
	for k, u := range m.Triangles {
		if !isProperList(cornersOf(m, u)) || u.Region != 0 || u.Level != 0 {
			t.Errorf("triangle %d of %v is not proper or has a region or a level", k, m)
		}
	}
	if len(m.Points)-len(edges)+len(m.Triangles) != 1 {
		t.Errorf("%v is not the mesh of a polygon", m)
	}
}

func TestP14BuiltInMeshesAreValid(t *testing.T) {
	checkBuiltIn(t, impl.SquareMesh(1), 1, 5, 8, 4, 1)
	checkBuiltIn(t, impl.SquareMesh(2), 4, 13, 28, 16, 5)
	checkBuiltIn(t, impl.SquareMesh(3), 9, 25, 60, 36, 13)
	checkBuiltIn(t, impl.CornerMesh(), 3, 8, 13, 6, 0)
}

// TestP14RefinementEdgesOfBuiltInMeshes looks at the edge from B to C: in a square, it is
// a side of a unit square, and in the L-shaped domain, it is a diagonal of one.
func TestP14RefinementEdgesOfBuiltInMeshes(t *testing.T) {
	square := func(m impl.Mesh, u impl.Tri) impl.Rat {
		side := impl.SubtractPoints(m.Points[u.B], m.Points[u.C])
		return impl.Inner(side, side)
	}
	for n := 1; n <= 3; n++ {
		for _, u := range impl.SquareMesh(n).Triangles {
			sameRatOfMesh(t, square(impl.SquareMesh(n), u), smallRat(1, 1), "the square of a side", impl.SquareMesh(n))
		}
	}
	for _, u := range impl.CornerMesh().Triangles {
		sameRatOfMesh(t, square(impl.CornerMesh(), u), smallRat(2, 1), "the square of a diagonal", impl.CornerMesh())
	}
}

func TestP14PointsOfBuiltInMeshes(t *testing.T) {
	for n := int64(1); n <= 3; n++ {
		m := impl.SquareMesh(int(n))
		for x := int64(-1); x <= 4*n+1; x++ {
			for y := int64(-1); y <= 4*n+1; y++ {
				isInside := 0 <= min(x, y) && max(x, y) <= 4*n
				if k := impl.TriangleAt(m, smallPoint(x, y, 4)); k >= 0 != isInside {
					t.Errorf("TriangleAt(SquareMesh(%d), (%d/4, %d/4)) = %d", n, x, y, k)
				}
			}
		}
	}
	for x := int64(-1); x <= 9; x++ {
		for y := int64(-1); y <= 9; y++ {
			isInside := 0 <= min(x, y) && max(x, y) <= 8 && min(x, y) <= 4
			if k := impl.TriangleAt(impl.CornerMesh(), smallPoint(x, y, 4)); k >= 0 != isInside {
				t.Errorf("TriangleAt(CornerMesh(), (%d/4, %d/4)) = %d", x, y, k)
			}
		}
	}
}

// wantedSquare is SquareMesh for n from 1 to 3, with the corners looked up by their
// coordinates.
func wantedSquare(n int64) impl.Mesh {
	var m impl.Mesh
	index := map[[2]int64]int{}
	for y := range n + 1 {
		for x := range n + 1 {
			index[[2]int64{2 * x, 2 * y}] = len(m.Points)
			m.Points = append(m.Points, smallPoint(x, y, 1))
		}
	}
	for y := int64(1); y < 2*n; y += 2 {
		for x := int64(1); x < 2*n; x += 2 {
			a := len(m.Points)
			m.Points = append(m.Points, smallPoint(x, y, 2))
			at := func(right int64, up int64) int { return index[[2]int64{x + right, y + up}] }
			lowerLeft, lowerRight, upperRight, upperLeft := at(-1, -1), at(1, -1), at(1, 1), at(-1, 1)
			m.Triangles = append(m.Triangles, impl.Tri{A: a, B: lowerLeft, C: lowerRight}, impl.Tri{A: a, B: lowerRight, C: upperRight})
			m.Triangles = append(m.Triangles, impl.Tri{A: a, B: upperRight, C: upperLeft}, impl.Tri{A: a, B: upperLeft, C: lowerLeft})
		}
	}
	return m
}

func TestP15SquareMesh(t *testing.T) {
	for n := 1; n <= 3; n++ {
		sameMesh(t, impl.SquareMesh(n), wantedSquare(int64(n)), "SquareMesh")
	}
	for _, n := range []int{0, -1, 4, 5, 6, 7, -3, 100, 1 << 31, 1 << 32, 1<<32 + 1, 1<<62 + 1, math.MinInt, math.MinInt + 1, math.MaxInt} {
		sameMesh(t, impl.SquareMesh(n), impl.Mesh{}, "SquareMesh of another number")
	}
	want := "p 0,0\np 1,0\np 2,0\np 0,1\np 1,1\np 2,1\np 0,2\np 1,2\np 2,2\np 1/2,1/2\np 3/2,1/2\np 1/2,3/2\np 3/2,3/2\n" +
		"t 9 0 1 0 0\nt 9 1 4 0 0\nt 9 4 3 0 0\nt 9 3 0 0 0\nt 10 1 2 0 0\nt 10 2 5 0 0\nt 10 5 4 0 0\nt 10 4 1 0 0\n" +
		"t 11 3 4 0 0\nt 11 4 7 0 0\nt 11 7 6 0 0\nt 11 6 3 0 0\nt 12 4 5 0 0\nt 12 5 8 0 0\nt 12 8 7 0 0\nt 12 7 4 0 0\n"
	if got := impl.FormatMesh(impl.SquareMesh(2)); got != want {
		t.Errorf("FormatMesh(SquareMesh(2)) = %q, want %q", got, want)
	}
}

func TestP15CornerMesh(t *testing.T) {
	want := meshAt(1, []int64{0, 0, 1, 0, 2, 0, 2, 1, 1, 1, 1, 2, 0, 2, 0, 1}, 1, 4, 0, 7, 0, 4, 3, 4, 2, 1, 2, 4, 7, 4, 6, 5, 6, 4)
	sameMesh(t, impl.CornerMesh(), want, "CornerMesh()")
	text := "p 0,0\np 1,0\np 2,0\np 2,1\np 1,1\np 1,2\np 0,2\np 0,1\nt 1 4 0 0 0\nt 7 0 4 0 0\nt 3 4 2 0 0\nt 1 2 4 0 0\nt 7 4 6 0 0\nt 5 6 4 0 0\n"
	if got := impl.FormatMesh(impl.CornerMesh()); got != text {
		t.Errorf("FormatMesh(CornerMesh()) = %q, want %q", got, text)
	}
}

func TestP15FormatMesh(t *testing.T) {
	for _, m := range writtenMeshes() {
		if got, want := impl.FormatMesh(m), wantedText(m); got != want {
			t.Errorf("FormatMesh(%v) = %q, want %q", m, got, want)
		}
	}
	m := meshAt(2, []int64{-3, 4, 5, -1, 7, 30000000001}, 2, 0, 1)
	m.Triangles[0].Region, m.Triangles[0].Level = 2, 60
	want := "p -3/2,2\np 5/2,-1/2\np 7/2,30000000001/2\nt 2 0 1 2 60\n"
	if got := impl.FormatMesh(m); got != want {
		t.Errorf("FormatMesh(%v) = %q, want %q", m, got, want)
	}
	for _, m := range notMeshes() {
		if got := impl.FormatMesh(m); got != "" {
			t.Errorf("FormatMesh(%v) = %q, want an empty string", m, got)
		}
	}
}

// lineOfMesh is a line that a mesh may have, except for the values of its numbers.
var lineOfMesh = regexp.MustCompile(`^(p -?[0-9]+(/[0-9]+)?,-?[0-9]+(/[0-9]+)?|t( -?[0-9]+){5})$`)

// isWrittenMesh reports whether a text is that of a mesh. It reads the text in a way
// that is less strict than the program's and compares.
func isWrittenMesh(text string) bool {
	var m impl.Mesh
	for line := range strings.Lines(text) {
		line = strings.TrimSuffix(line, "\n")
		if !lineOfMesh.MatchString(line) {
			return false
		}
		if words := strings.Fields(line); words[0] == "p" {
			p, ok := impl.ParsePoint(words[1])
			if !ok {
				return false
			}
			m.Points = append(m.Points, p)
		} else {
			var numbers [5]int
			for i, word := range words[1:] {
				numbers[i], _ = strconv.Atoi(word)
			}
			m.Triangles = append(m.Triangles, impl.Tri{A: numbers[0], B: numbers[1], C: numbers[2], Region: numbers[3], Level: numbers[4]})
		}
	}
	return impl.IsMesh(m) && wantedText(m) == text
}

// changedTexts returns texts that result if the beginning or the end of a text is removed,
// or if a piece replaces a byte or comes between two bytes.
func changedTexts(text string, pieces ...string) []string {
	var texts []string
	for i := range len(text) + 1 {
		texts = append(texts, text[:i], text[i:])
		for _, piece := range pieces {
			texts = append(texts, text[:i]+piece+text[i:], text[:i]+piece+text[min(i+1, len(text)):])
		}
	}
	return texts
}

func TestP15ParseMeshOfChangedTexts(t *testing.T) {
	accepted := 0
	pieces := []string{"", "0", "1", "2", "3", "9", "-", "+", "/", ",", " ", "\n", "\r", "\t", "p", "t", "P", "\x00", "\xff", "p ", "t 0 1 2 0 0\n", "p 7,7\n", "\r\n", "\u00a0"}
	for _, m := range []impl.Mesh{meshAt(2, []int64{0, 0, 3, 0, 0, -4, 10, 21}, 2, 1, 0, 3, 0, 1), squareWithCenter(), simpleMeshes()[0]} {
		for _, s := range changedTexts(wantedText(m), pieces...) {
			isMesh := isWrittenMesh(s)
			checkText(t, s, isMesh)
			if isMesh {
				accepted++
			}
		}
	}
	if accepted < 50 {
		t.Errorf("only %d of the changed texts are accepted", accepted)
	}
}

// reorderedTexts returns texts with two lines exchanged, with a line that comes again,
// earlier or later, and without some lines.
func reorderedTexts(text string) []string {
	var texts []string
	lines := strings.SplitAfter(text, "\n")
	for i := range lines {
		for j := range i {
			other := slices.Clone(lines)
			other[i], other[j] = other[j], other[i]
			earlier, later := slices.Insert(slices.Clone(lines), j, lines[i]), slices.Insert(slices.Clone(lines), i, lines[j])
			for _, list := range [][]string{other, earlier, later, slices.Delete(slices.Clone(lines), j, i)} {
				texts = append(texts, strings.Join(list, ""))
			}
		}
	}
	return texts
}

func TestP15ParseMeshOfLinesInAnotherOrder(t *testing.T) {
	for _, m := range []impl.Mesh{squareWithCenter(), impl.CornerMesh(), turned(gridMesh(1, 1))} {
		for _, text := range reorderedTexts(wantedText(m)) {
			checkText(t, text, isWrittenMesh(text))
		}
	}
	triangles, points := "t 0 1 2 0 0\n", "p 0,0\np 1,0\np 0,1\n"
	checkText(t, points+triangles, true)
	checkText(t, triangles+points, false)
	checkText(t, points+triangles+"p 1,1\nt 1 3 2 0 0\n", false)
	checkText(t, points+"p 1,1\n"+triangles+"t 1 3 2 0 0\n", true)
}

// textsOfNoMesh returns texts that are those of a mesh except for one thing.
func textsOfNoMesh() []string {
	points := "p 0,0\np 1,0\np 0,1\n"
	texts := []string{
		"", "\n", "\n\n", "p", "t", "p ", "t ", "p\n", "t\n", "p \n", "t \n", points, "t 0 1 2 0 0\n", "p 0,0\n", "x", "x\n", "# p 0,0\n", "nil",
		points + "t 0 1 2 0 0", points + "t 0 1 2 0 0\n\n", "\n" + points + "t 0 1 2 0 0\n", points + "\nt 0 1 2 0 0\n", points + "t 0 1 2 0 0\r\n", points + "t 0 1 2 0 0 \n",
		points + "t  0 1 2 0 0\n", points + "t 0  1 2 0 0\n", points + " t 0 1 2 0 0\n", points + "t\t0 1 2 0 0\n", points + "t,0 1 2 0 0\n", points + "t0 1 2 0 0\n", points + "T 0 1 2 0 0\n",
		points + "t 0 1 2 0\n", points + "t 0 1 2\n", points + "t 0 1 2 0 0 0\n", points + "t 0 1 2 0 0 \x00\n", points + "t 0 1 2 0 0\nx\n", points + "t 0 1 2 0 0\nx 0 0 0 0 0\n", points + "tt 0 1 2 0 0\n",
		points + "t +0 1 2 0 0\n", points + "t 00 1 2 0 0\n", points + "t -0 1 2 0 0\n", points + "t 0 1 2 0 00\n", points + "t 0 1 2 0 0x0\n", points + "t 0 1 2 0 1_0\n", points + "t 0 1 2 0 \uff10\n", points + "t 0 1 2 0 1e0\n",
		points + "t 0 2 1 0 0\n", points + "t 0 1 1 0 0\n", points + "t 0 1 3 0 0\n", points + "t -1 1 2 0 0\n", points + "t 0 1 2 3 0\n", points + "t 0 1 2 -1 0\n", points + "t 0 1 2 0 61\n", points + "t 0 1 2 0 -1\n",
		points + "t 0 1 2 0 9223372036854775807\n", points + "t 0 1 2 0 18446744073709551616\n", points + "t 18446744073709551616 1 2 0 0\n", points + "t 0 1 2 4294967296 0\n", points + "t 0 1 2 0 0\nt 0 1 2 0 0\n", points + "t 0 1 2 0 0\nt 1 2 0 0 0\n",
		points + "p 2,2\nt 0 1 2 0 0\n", points + "p 0,0\nt 0 1 2 0 0\n", "p 0,0\np 1,0\np 2,0\nt 0 1 2 0 0\n", "k 1 1 1\n" + points + "t 0 1 2 0 0\n", points + "t 0 1 2 0 0\nk 1 1 1\n", points + "t 0 1 2 0 0\nf 1 1 1\n",
		strings.Repeat("\n", 5000), strings.Repeat(points, 5000) + "t 0 1 2 0 0\n", points + strings.Repeat("t 0 1 2 0 0\n", 5000), points + "t 0 1 2 0 0\n" + strings.Repeat("0", 50000), points + "t" + strings.Repeat(" 0", 50000) + "\n",
	}
	for _, p := range []string{
		"0, 1", "0 ,1", "0 1", "0;1", "0", "0,", ",1", "0,1,2", "00,1", "-0,1", "+0,1", "0,2/2", "0,1/1", "0/2,1", "0,1/0", "0,1.0", "0,-1/-1", " 0,1", "0,1 ", "0,1\r", "(0,1)", "0,1 0", "0,1\x00",
		"0,1" + strings.Repeat("0", 216), "0,1/1" + strings.Repeat("0", 216), "0," + strings.Repeat("9", 50000),
	} {
		texts = append(texts, "p 0,0\np 1,0\np "+p+"\nt 0 1 2 0 0\n")
	}
	return texts
}

func TestP15ParseMeshRejectsOtherTexts(t *testing.T) {
	for _, text := range textsOfNoMesh() {
		checkText(t, text, false)
	}
	checkText(t, "p 0,0\np 1,0\np 0,"+strings.Repeat("9", 216)+"\nt 0 1 2 2 60\n", true)
	isNoPoint := func(p impl.Point) bool { return !impl.IsValidPoint(p) }
	for _, m := range notMeshes() {
		if !slices.ContainsFunc(m.Points, isNoPoint) {
			checkText(t, wantedText(m), false)
		}
	}
	for _, text := range textsOver([]string{"p ", "t ", "0,", "1", "2 ", "\n"}, 5) {
		checkText(t, text, false)
	}
}

// TestP15ParseMeshAfterAFailure looks at whether the failure leaves anything behind.
func TestP15ParseMeshAfterAFailure(t *testing.T) {
	text := wantedText(squareWithCenter())
	for range 3 {
		checkText(t, text[:len(text)-2], false)
		checkText(t, text, true)
		checkText(t, "x"+text, false)
	}
}

func checkSetRegion(t *testing.T, m impl.Mesh, k int, region int, want impl.Mesh, wantOk bool) {
	t.Helper()
	got, ok := impl.SetRegion(m, k, region)
	if ok != wantOk || !equalMeshes(got, want) {
		t.Errorf("SetRegion(%v, %d, %d) = %v, %t, want %v, %t", m, k, region, got, ok, want, wantOk)
	}
}

func TestP15SetRegion(t *testing.T) {
	for _, m := range fewMeshes()[:4] {
		for k, u := range m.Triangles {
			for region := range 3 {
				u.Region = region
				checkSetRegion(t, m, k, region, withTriangle(m, k, u), true)
			}
			for _, region := range []int{-1, 3, 4, math.MinInt, math.MaxInt, 1 << 32} {
				checkSetRegion(t, m, k, region, m, false)
			}
		}
		for _, k := range []int{-1, len(m.Triangles), len(m.Triangles) + 1, math.MinInt, math.MaxInt, 1 << 32} {
			checkSetRegion(t, m, k, 1, m, false)
			checkSetRegion(t, m, k, 3, m, false)
		}
	}
	for _, m := range notMeshes() {
		for _, k := range []int{0, len(m.Triangles) - 1, -1} {
			checkSetRegion(t, m, k, 1, m, false)
			checkSetRegion(t, m, k, 0, m, false)
			checkSetRegion(t, m, k, -1, m, false)
		}
	}
}

// TestP15SetRegionKeepsTheOtherFields sets the regions one after the other.
func TestP15SetRegionKeepsTheOtherFields(t *testing.T) {
	s := source(42)
	m := s.mixed(turned(gridMesh(2, 2)))
	want := further(impl.Mesh{}, m.Points, m.Triangles...)
	for range 50 {
		k, region := s.upTo(len(m.Triangles)), s.upTo(3)
		want.Triangles[k].Region = region
		checkSetRegion(t, m, k, region, want, true)
		m, _ = impl.SetRegion(m, k, region)
	}
}

func TestP15MeshSummary(t *testing.T) {
	for _, m := range writtenMeshes() {
		_, interior := wantedPoints(m)
		want := "points " + strconv.Itoa(len(m.Points)) + " triangles " + strconv.Itoa(len(m.Triangles)) + " interior " + strconv.Itoa(len(interior))
		if got := impl.MeshSummary(m); got != want {
			t.Errorf("MeshSummary(%v) = %q, want %q", m, got, want)
		}
	}
	if got, want := impl.MeshSummary(impl.SquareMesh(3)), "points 25 triangles 36 interior 13"; got != want {
		t.Errorf("MeshSummary(SquareMesh(3)) = %q, want %q", got, want)
	}
	for _, m := range notMeshes() {
		if got := impl.MeshSummary(m); got != "" {
			t.Errorf("MeshSummary(%v) = %q, want an empty string", m, got)
		}
	}
}

func TestP15MeshTextArgumentsAreKept(t *testing.T) {
	for _, want := range append(fewMeshes(), notMeshes()...) {
		m := meshWithSpare(want)
		impl.FormatMesh(m)
		impl.MeshSummary(m)
		for _, k := range []int{-1, 0, len(m.Triangles) - 1, len(m.Triangles)} {
			impl.SetRegion(m, k, 1)
			impl.SetRegion(m, k, 3)
		}
		if !keepsMesh(m, want) {
			t.Fatalf("the argument %v was changed to %v", want, m)
		}
	}
}

// overwriteMesh changes everything that belongs to a mesh. It checks, list by list, that
// no list belongs to the part that has been changed before.
func overwriteMesh(t *testing.T, m impl.Mesh, want impl.Mesh) {
	t.Helper()
	for i, p := range m.Points {
		for j, limbs := range limbsOf(p) {
			sameNat(t, limbs, limbsOf(want.Points[i])[j], "a list of limbs after changes of others")
			overwrite(limbs)
		}
	}
	if !slices.Equal(m.Triangles, want.Triangles) {
		t.Errorf("the triangles are %v, want %v", m.Triangles, want.Triangles)
	}
	clear(m.Points[:cap(m.Points)])
	clear(m.Triangles[:cap(m.Triangles)])
}

func TestP15MeshTextResultsAreNew(t *testing.T) {
	results := []func() impl.Mesh{impl.CornerMesh}
	for n := 1; n <= 3; n++ {
		results = append(results, func() impl.Mesh { return impl.SquareMesh(n) })
	}
	var arguments, wants []impl.Mesh
	for _, want := range append(fewMeshes(), notMeshes()...) {
		m, text := meshWithSpare(want), wantedText(squareWithCenter())
		arguments, wants = append(arguments, m), append(wants, want)
		for _, region := range []int{0, 2, 3} {
			results = append(results, func() impl.Mesh { next, _ := impl.SetRegion(m, 0, region); return next })
		}
		results = append(results, func() impl.Mesh { next, _ := impl.ParseMesh(text); return next })
	}
	for _, result := range results {
		want := meshWithSpare(result())
		overwriteMesh(t, result(), want)
		sameMesh(t, result(), want, "a result after changes of another")
	}
	for i, m := range arguments {
		if !keepsMesh(m, wants[i]) {
			t.Fatalf("changes of the results for %v reach the argument", wants[i])
		}
	}
}
