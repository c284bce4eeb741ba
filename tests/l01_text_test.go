package tests

import (
	"math"
	"math/big"
	"slices"
	"strings"
	"testing"

	"loop.example/g00812/impl"
)

// textsOver returns all texts of at most most of the given pieces.
func textsOver(pieces []string, most int) []string {
	texts := []string{""}
	longest := texts
	for range most {
		var next []string
		for _, t := range longest {
			for _, p := range pieces {
				next = append(next, t+p)
			}
		}
		texts = append(texts, next...)
		longest = next
	}
	return texts
}

// sampleInts returns the ints at which a conversion is most likely to go wrong,
// and some of every length.
func sampleInts() []int {
	list := []int{math.MinInt, math.MinInt + 1, math.MaxInt - 1, math.MaxInt}
	for n := -1100; n <= 1100; n++ {
		list = append(list, n)
	}
	power := 1
	for range 18 {
		power *= 10
		list = append(list, power-1, power, power+1, 1-power, -power, -1-power)
	}
	for i := range 64 {
		list = append(list, 1<<i, 1<<i-1, -(1 << i))
	}
	state := uint64(1)
	for i := range 500 {
		state = state*6364136223846793005 + 1442695040888963407
		list = append(list, int(state)>>(i%60))
	}
	return list
}

func TestP1IntsAreRecoveredFromTheirText(t *testing.T) {
	for _, n := range sampleInts() {
		s := impl.FormatInt(n)
		if m, ok := impl.ParseInt(s); !ok || m != n {
			t.Errorf("ParseInt(%q) = %d, %t, want %d, true", s, m, ok, n)
		}
	}
}

func TestP1TextsAreRecoveredFromTheirInts(t *testing.T) {
	for _, s := range textsOver([]string{"-", "+", "0", "1", "9", " ", "_"}, 5) {
		if n, ok := impl.ParseInt(s); ok && impl.FormatInt(n) != s {
			t.Errorf("ParseInt(%q) = %d, whose FormatInt is %q", s, n, impl.FormatInt(n))
		}
	}
}

func TestP1TextsAreRecoveredFromTheirParts(t *testing.T) {
	for _, s := range textsOver([]string{"a", ",", " ", "\n", "\xc3", "é"}, 5) {
		for _, by := range []string{",", " ", "\n", "a", "\xa9"} {
			if back := impl.Join(impl.SplitAny(s, by), by); back != s {
				t.Errorf("Join(SplitAny(%q, %q)) = %q", s, by, back)
			}
		}
	}
}

func TestP1PartsAreRecoveredFromTheirText(t *testing.T) {
	for _, s := range textsOver([]string{"x", "é", ";", ""}, 4) {
		parts := strings.Split(s, ";")
		if back := impl.SplitAny(impl.Join(parts, ","), ","); !slices.Equal(back, parts) {
			t.Errorf("SplitAny(Join(%q)) = %q", parts, back)
		}
		if back := impl.SplitLines(impl.Join(parts, "\n") + "\n"); !slices.Equal(back, parts) {
			t.Errorf("SplitLines(Join(%q)) = %q", parts, back)
		}
	}
}

func TestP15FormatInt(t *testing.T) {
	wants := map[int]string{
		0: "0", 7: "7", 10: "10", -1: "-1", -10: "-10", 1000000000: "1000000000",
		math.MaxInt: "9223372036854775807", math.MinInt: "-9223372036854775808",
	}
	for n, want := range wants {
		if got := impl.FormatInt(n); got != want {
			t.Errorf("FormatInt(%d) = %q, want %q", n, got, want)
		}
	}
	for _, n := range sampleInts() {
		if got, want := impl.FormatInt(n), big.NewInt(int64(n)).String(); got != want {
			t.Errorf("FormatInt(%d) = %q, want %q", n, got, want)
		}
	}
}

func TestP15ParseInt(t *testing.T) {
	wants := map[string]int{
		"0": 0, "5": 5, "-5": -5, "10": 10, "-100": -100, "123456789": 123456789,
		"9223372036854775807": math.MaxInt, "-9223372036854775808": math.MinInt,
	}
	for s, want := range wants {
		if n, ok := impl.ParseInt(s); !ok || n != want {
			t.Errorf("ParseInt(%q) = %d, %t, want %d, true", s, n, ok, want)
		}
	}
}

func TestP15ParseIntRejectsOtherTexts(t *testing.T) {
	texts := []string{
		"", "-", "+", "+1", "+0", "-0", "00", "-00", "07", "-07", "0000000000000000000001",
		"1 ", " 1", "\t1", "1\n", "1\x00", "- 1", "--1", "1-", "1.0", "1e3", "0x10", "0b1", "0o7", "1_000", "a", "1a",
		"9223372036854775808", "-9223372036854775809", "18446744073709551615", "18446744073709551616",
		"99999999999999999999", "-99999999999999999999", strings.Repeat("9", 5000),
		"\u0661", "\uff11", "\u22121", "\xff", "1\xff",
	}
	for _, s := range texts {
		if n, ok := impl.ParseInt(s); ok || n != 0 {
			t.Errorf("ParseInt(%q) = %d, %t, want 0, false", s, n, ok)
		}
	}
}

func TestP15IsDigits(t *testing.T) {
	for _, s := range []string{"0", "9", "09", "0123456789", strings.Repeat("7", 5000)} {
		if !impl.IsDigits(s) {
			t.Errorf("IsDigits(%q) = false", s)
		}
	}
	for _, s := range []string{"", "-1", "+1", "1.5", "1 ", " 1", "1\n", "1a", "\u0663", "1\u0663", "\u00b2", "\uff11", "\x001"} {
		if impl.IsDigits(s) {
			t.Errorf("IsDigits(%q) = true", s)
		}
	}
	for b := range 256 {
		one := string([]byte{byte(b)})
		want := '0' <= b && b <= '9'
		for _, s := range []string{one, "4" + one, one + "4", "4" + one + "2"} {
			if impl.IsDigits(s) != want {
				t.Errorf("IsDigits(%q) = %t", s, !want)
			}
		}
	}
}

func TestP15IsName(t *testing.T) {
	for _, s := range []string{"a", "z", "a0", "z9", "x1y2", "abcdefgh", "a1234567"} {
		if !impl.IsName(s) {
			t.Errorf("IsName(%q) = false", s)
		}
	}
	for _, s := range []string{"", "1", "1x", "A", "aB", "a_", "a-b", "a b", " a", "a\n", "abcdefghi", "a12345678", "\u00e9", "a\u00e9", "a\u0663", "aaaaaaa\u00e9"} {
		if impl.IsName(s) {
			t.Errorf("IsName(%q) = true", s)
		}
	}
	for b := range 256 {
		one := string([]byte{byte(b)})
		letter := 'a' <= b && b <= 'z'
		digit := '0' <= b && b <= '9'
		if impl.IsName(one) != letter || impl.IsName(one+"x") != letter {
			t.Errorf("IsName with %q as the first byte is not %t", one, letter)
		}
		if want := letter || digit; impl.IsName("x"+one) != want || impl.IsName("abc"+one+"efg") != want {
			t.Errorf("IsName with %q as a later byte is not %t", one, want)
		}
	}
}

func TestP15SplitAny(t *testing.T) {
	tests := []struct {
		s, by string
		want  []string
	}{
		{"a,b c", ", ", []string{"a", "b", "c"}},
		{"a, b", ", ", []string{"a", "", "b"}},
		{"ab", ",", []string{"ab"}},
		{"", ",", []string{""}},
		{"", "", []string{""}},
		{"a,b", "", []string{"a,b"}},
		{",", ",", []string{"", ""}},
		{",a,", ",", []string{"", "a", ""}},
		{",,", ",,", []string{"", "", ""}},
		{"a\nb\x00c", "\x00\n", []string{"a", "b", "c"}},
		{"a\u00e9b", "\xa9", []string{"a\xc3", "b"}},
		{"a\u00e9b", "\u00e9", []string{"a", "", "b"}},
		{"\xff\xfe", "\xff", []string{"", "\xfe"}},
		{"\xff", "\ufffd", []string{"\xff"}},
		{"\ufffd", "\xff", []string{"\ufffd"}},
	}
	for _, c := range tests {
		if got := impl.SplitAny(c.s, c.by); !slices.Equal(got, c.want) {
			t.Errorf("SplitAny(%q, %q) = %q, want %q", c.s, c.by, got, c.want)
		}
	}
}

// splitByteByByte is the document's definition of SplitAny, one byte at a time.
func splitByteByByte(s, by string) []string {
	parts := []string{""}
	for i := range len(s) {
		if strings.IndexByte(by, s[i]) >= 0 {
			parts = append(parts, "")
		} else {
			parts[len(parts)-1] += s[i : i+1]
		}
	}
	return parts
}

func TestP15SplitAnyCutsAtEveryByteOfBy(t *testing.T) {
	pieces := []string{"a", ",", " ", "\xc3", "\xa9", "é"}
	for _, s := range textsOver(pieces, 4) {
		for _, by := range textsOver(pieces, 2) {
			if got, want := impl.SplitAny(s, by), splitByteByByte(s, by); !slices.Equal(got, want) {
				t.Errorf("SplitAny(%q, %q) = %q, want %q", s, by, got, want)
			}
		}
	}
}

func TestP15SplitLines(t *testing.T) {
	tests := []struct {
		s    string
		want []string
	}{
		{"", nil},
		{"\n", []string{""}},
		{"\n\n", []string{"", ""}},
		{"a", []string{"a"}},
		{"a\n", []string{"a"}},
		{"a\nb", []string{"a", "b"}},
		{"a\nb\n", []string{"a", "b"}},
		{"a\n\nb\n\n", []string{"a", "", "b", ""}},
		{"\na", []string{"", "a"}},
		{"a\n ", []string{"a", " "}},
		{"a\r\nb\r", []string{"a\r", "b\r"}},
		{"a\vb\fc\u2028d\u0085e", []string{"a\vb\fc\u2028d\u0085e"}},
		{"\xff\n\xc3", []string{"\xff", "\xc3"}},
	}
	for _, c := range tests {
		if got := impl.SplitLines(c.s); !slices.Equal(got, c.want) {
			t.Errorf("SplitLines(%q) = %q, want %q", c.s, got, c.want)
		}
	}
}

func TestP15Join(t *testing.T) {
	tests := []struct {
		l    []string
		by   string
		want string
	}{
		{nil, ",", ""},
		{[]string{}, ",", ""},
		{[]string{""}, ",", ""},
		{[]string{"a"}, ",", "a"},
		{[]string{"a", "b", "c"}, "-", "a-b-c"},
		{[]string{"a", "b"}, "", "ab"},
		{[]string{"a", "b", "c"}, ", ", "a, b, c"},
		{[]string{"", "", ""}, ",", ",,"},
		{[]string{"a,", "b"}, ",", "a,,b"},
		{[]string{"\xc3", "\xa9"}, "", "\u00e9"},
	}
	for _, c := range tests {
		if got := impl.Join(c.l, c.by); got != c.want {
			t.Errorf("Join(%q, %q) = %q, want %q", c.l, c.by, got, c.want)
		}
	}
}

func TestP15PadZeros(t *testing.T) {
	long := strings.Repeat("1", 2500)
	tests := []struct {
		s    string
		n    int
		want string
	}{
		{"7", 3, "007"},
		{"7", 2, "07"},
		{"7", 1, "7"},
		{"7", 0, "7"},
		{"7", -1, "7"},
		{"7", math.MinInt, "7"},
		{"", 0, ""},
		{"", 4, "0000"},
		{"123", 2, "123"},
		{"123", 3, "123"},
		{"0", 2, "00"},
		{"-7", 4, "00-7"},
		{"\u00e9", 3, "0\u00e9"},
		{"7", 1999, strings.Repeat("0", 1998) + "7"},
		{"7", 2000, strings.Repeat("0", 1999) + "7"},
		{"7", 2001, "7"},
		{"7", math.MaxInt, "7"},
		{long, 2000, long},
		{long, 3000, long},
	}
	for _, c := range tests {
		if got := impl.PadZeros(c.s, c.n); got != c.want {
			t.Errorf("PadZeros(%.9q, %d) has %d bytes, want %d", c.s, c.n, len(got), len(c.want))
		}
	}
}

func TestP15TextResultsAreNewAndArgumentsAreKept(t *testing.T) {
	first := impl.SplitAny("a,b", ",")
	first[0] = "changed"
	if got := impl.SplitAny("a,b", ","); !slices.Equal(got, []string{"a", "b"}) {
		t.Errorf("SplitAny after a change of its result: %q", got)
	}
	lines := impl.SplitLines("a\nb\n")
	lines[0] = "changed"
	if got := impl.SplitLines("a\nb\n"); !slices.Equal(got, []string{"a", "b"}) {
		t.Errorf("SplitLines after a change of its result: %q", got)
	}
	whole := []string{"a", "b", "spare"}
	impl.Join(whole[:2], ",")
	if !slices.Equal(whole, []string{"a", "b", "spare"}) {
		t.Errorf("Join changed its argument to %q", whole)
	}
}
