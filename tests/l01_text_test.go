package tests

import (
	"math"
	"slices"
	"strings"
	"testing"

	"loop.example/g00830/impl"
)

// allBytes is a string of every byte, so also of those outside ASCII and of
// sequences that are no UTF-8.
func allBytes() string {
	all := make([]byte, 256)
	for i := range all {
		all[i] = byte(i)
	}
	return string(all)
}

// textsUpTo are all texts of up to n bytes from an alphabet.
func textsUpTo(n int, alphabet string) []string {
	texts := []string{""}
	for range n {
		next := []string{""}
		for _, s := range texts {
			for _, b := range []byte(alphabet) {
				next = append(next, s+string([]byte{b}))
			}
		}
		texts = next
	}
	return texts
}

func TestFormatInt(t *testing.T) {
	cases := []struct {
		n    int
		text string
	}{
		{0, "0"}, {7, "7"}, {-1, "-1"}, {10, "10"}, {-120, "-120"}, {1000000000, "1000000000"},
		{math.MaxInt, "9223372036854775807"}, {math.MinInt, "-9223372036854775808"},
	}
	for _, c := range cases {
		if got := impl.FormatInt(c.n); got != c.text {
			t.Errorf("FormatInt(%d) is %q, not %q", c.n, got, c.text)
		}
	}
}

func TestParseIntOfFormatInt(t *testing.T) {
	numbers := []int{math.MinInt, math.MinInt + 1, math.MaxInt - 1, math.MaxInt}
	for n := -1200; n <= 1200; n++ {
		numbers = append(numbers, n)
	}
	for k := range 63 {
		numbers = append(numbers, 1<<k, -(1 << k), 1<<k-1)
	}
	for _, n := range numbers {
		if got, ok := impl.ParseInt(impl.FormatInt(n)); got != n || !ok {
			t.Errorf("ParseInt of the text of %d is %d, %v", n, got, ok)
		}
	}
}

func TestParseIntRefuses(t *testing.T) {
	bad := []string{
		"", "-", "+", "+5", "-0", "00", "07", "-07", " 7", "7 ", "7\n", "--7", "1-", "1 2",
		"0x10", "0b1", "1_000", "1e3", "1.0", "a", "7a", "\x00", "7\x00", "\xff", "٣", "７", "−5",
		"9223372036854775808", "-9223372036854775809", "18446744073709551616", "18446744073709551617",
		strings.Repeat("9", 300), strings.Repeat("0", 300) + "1",
	}
	for _, s := range bad {
		if n, ok := impl.ParseInt(s); n != 0 || ok {
			t.Errorf("ParseInt(%q) is %d, %v, not 0, false", s, n, ok)
		}
	}
}

// TestParseIntAcceptsOnlyFormatInt tries all texts of up to three bytes from
// an alphabet of the bytes that matter.
func TestParseIntAcceptsOnlyFormatInt(t *testing.T) {
	written := map[string]int{}
	for n := -99; n <= 999; n++ {
		written[impl.FormatInt(n)] = n
	}
	for _, s := range textsUpTo(3, "-+_ .019x\xc3") {
		want, wanted := written[s]
		if n, ok := impl.ParseInt(s); n != want || ok != wanted {
			t.Errorf("ParseInt(%q) is %d, %v, not %d, %v", s, n, ok, want, wanted)
		}
	}
}

func TestIsDigits(t *testing.T) {
	for _, s := range []string{"0", "9", "09", "0123456789", "000", strings.Repeat("5", 5000)} {
		if !impl.IsDigits(s) {
			t.Errorf("IsDigits(%q) is false", s)
		}
	}
	bad := []string{"", "-1", "+1", " 1", "1 ", "1a", "a1", "1\n", "12x34", "1.0", "٣", "1٣", "７", "1\xff", "\xb2", "½"}
	for _, s := range bad {
		if impl.IsDigits(s) {
			t.Errorf("IsDigits(%q) is true", s)
		}
	}
}

func TestIsDigitsOfEveryByte(t *testing.T) {
	for _, b := range []byte(allBytes()) {
		want := '0' <= b && b <= '9'
		if impl.IsDigits(string([]byte{b})) != want || impl.IsDigits(string([]byte{'4', b})) != want {
			t.Errorf("IsDigits with the byte %d is not %v", b, want)
		}
	}
}

func TestIsName(t *testing.T) {
	for _, s := range []string{"a", "z", "m5", "x1", "a0z9", "abcdefgh", "a1234567", "zzzzzzzz"} {
		if !impl.IsName(s) {
			t.Errorf("IsName(%q) is false", s)
		}
	}
	bad := []string{
		"", "1", "1x", "0a", "A", "aB", "a_b", "a-b", "a b", " a", "a ", "a\n", "a\x00",
		"abcdefghi", "a12345678", strings.Repeat("a", 300), "é", "aé", "a\xff", "\xe1", "ａ", "a٣",
	}
	for _, s := range bad {
		if impl.IsName(s) {
			t.Errorf("IsName(%q) is true", s)
		}
	}
}

func TestIsNameOfEveryByte(t *testing.T) {
	for _, b := range []byte(allBytes()) {
		letter := 'a' <= b && b <= 'z'
		if impl.IsName(string([]byte{b})) != letter {
			t.Errorf("IsName of the byte %d is not %v", b, letter)
		}
		later := letter || '0' <= b && b <= '9'
		if impl.IsName(string([]byte{'q', b})) != later || impl.IsName(string([]byte{'q', b, 'q'})) != later {
			t.Errorf("IsName with the byte %d after the first is not %v", b, later)
		}
	}
}

func TestSplitAny(t *testing.T) {
	cases := []struct {
		s, by string
		want  []string
	}{
		{"", "", []string{""}},
		{"", ",", []string{""}},
		{"abc", "", []string{"abc"}},
		{"abc", ",", []string{"abc"}},
		{",", ",", []string{"", ""}},
		{"a,b c", ", ", []string{"a", "b", "c"}},
		{"a,b c", " ,,", []string{"a", "b", "c"}},
		{",a,,b,", ",", []string{"", "a", "", "b", ""}},
		{"a, b", ", ", []string{"a", "", "b"}},
		{"a\x00b", "\x00", []string{"a", "b"}},
		// The bytes of é are 195 and 169: each of them splits on its own.
		{"aéb", "é", []string{"a", "", "b"}},
		{"aéb", "\xa9", []string{"a\xc3", "b"}},
		{"a\xc3b\xa9c", "é", []string{"a", "b", "c"}},
		{"aàb", "é", []string{"a", "\xa0b"}},
		{"a\xffb\xfec", "\xfe\xff", []string{"a", "b", "c"}},
		{"a\xffb\xfec", "\xff", []string{"a", "b\xfec"}},
		{"a\xffb", "\uFFFD", []string{"a\xffb"}},
		{"a\uFFFDb", "\xff", []string{"a\uFFFDb"}},
	}
	for _, c := range cases {
		if got := impl.SplitAny(c.s, c.by); !slices.Equal(got, c.want) {
			t.Errorf("SplitAny(%q, %q) is %q, not %q", c.s, c.by, got, c.want)
		}
	}
}

func TestSplitAnyAtEveryByte(t *testing.T) {
	all := allBytes()
	for i := range 256 {
		got := impl.SplitAny(all, all[i:i+1])
		if !slices.Equal(got, []string{all[:i], all[i+1:]}) {
			t.Errorf("SplitAny at the byte %d is %q", i, got)
		}
	}
	if got := impl.SplitAny(all, all); !slices.Equal(got, make([]string, 257)) {
		t.Errorf("SplitAny of all bytes at all bytes has %d elements", len(got))
	}
}

func TestSplitLines(t *testing.T) {
	cases := []struct {
		s    string
		want []string
	}{
		{"", nil},
		{"\n", []string{""}},
		{"\n\n", []string{"", ""}},
		{"a", []string{"a"}},
		{"a\n", []string{"a"}},
		{"a\nb", []string{"a", "b"}},
		{"a\nb\n", []string{"a", "b"}},
		{"a\n\n", []string{"a", ""}},
		{"\na", []string{"", "a"}},
		{"\n\na\n\nb", []string{"", "", "a", "", "b"}},
		{"a\n ", []string{"a", " "}},
		{"a\r\nb\r\n", []string{"a\r", "b\r"}},
		{"a\rb", []string{"a\rb"}},
		{"\xffé\n\x00", []string{"\xffé", "\x00"}},
		{"a\u0085b\u2028c\n", []string{"a\u0085b\u2028c"}},
	}
	for _, c := range cases {
		if got := impl.SplitLines(c.s); !slices.Equal(got, c.want) {
			t.Errorf("SplitLines(%q) is %q, not %q", c.s, got, c.want)
		}
	}
}

func TestJoin(t *testing.T) {
	cases := []struct {
		l    []string
		by   string
		want string
	}{
		{nil, ",", ""},
		{[]string{}, ",", ""},
		{[]string{""}, ",", ""},
		{[]string{"a"}, ",", "a"},
		{[]string{"a", "b", "c"}, "", "abc"},
		{[]string{"a", "b", "c"}, ", ", "a, b, c"},
		{[]string{"", "", ""}, "-", "--"},
		{[]string{"", "a", ""}, ",", ",a,"},
		{[]string{"a,b", "c"}, ",", "a,b,c"},
		{[]string{"\xc3", "\xa9"}, "", "é"},
		{[]string{"\xff", "é"}, "\x00", "\xff\x00é"},
	}
	for _, c := range cases {
		if got := impl.Join(c.l, c.by); got != c.want {
			t.Errorf("Join(%q, %q) is %q, not %q", c.l, c.by, got, c.want)
		}
	}
}

// TestStringsFromTheirParts recovers strings from their elements and lines,
// and elements and lines from their strings.
func TestStringsFromTheirParts(t *testing.T) {
	texts := []string{"", ",", ",,", "a", "a,b", ",a,,b,", "é,ü", "\xff,\xfe", "\n", "a\n\nb\n", allBytes()}
	for _, s := range texts {
		for _, by := range []string{",", "\n", "b", "\xa9", "\xff"} {
			if got := impl.Join(impl.SplitAny(s, by), by); got != s {
				t.Errorf("Join of SplitAny of %q at %q is %q", s, by, got)
			}
		}
	}
	lists := [][]string{{""}, {"a"}, {"a", "b"}, {"", "a", "", ""}, {"\xff", "é"}}
	for _, l := range lists {
		if got := impl.SplitAny(impl.Join(l, ","), ","); !slices.Equal(got, l) {
			t.Errorf("SplitAny of Join of %q is %q", l, got)
		}
		if got := impl.SplitLines(impl.Join(l, "\n") + "\n"); !slices.Equal(got, l) {
			t.Errorf("SplitLines of Join of %q is %q", l, got)
		}
	}
}

func TestPadZeros(t *testing.T) {
	cases := []struct {
		s    string
		n    int
		want string
	}{
		{"7", 3, "007"},
		{"7", 2, "07"},
		{"7", 1, "7"},
		{"7", 0, "7"},
		{"7", -3, "7"},
		{"123", 2, "123"},
		{"", 0, ""},
		{"", 4, "0000"},
		{"-5", 4, "00-5"},
		{"0", 2, "00"},
		{"ab", 3, "0ab"},
		// é has two bytes, and bytes are counted.
		{"é", 2, "é"},
		{"é", 3, "0é"},
		{"éé", 3, "éé"},
		{"\xff", 2, "0\xff"},
		{"x", 1999, strings.Repeat("0", 1998) + "x"},
		{"x", 2000, strings.Repeat("0", 1999) + "x"},
		{"", 2000, strings.Repeat("0", 2000)},
		{"x", 2001, "x"},
		{"", 2001, ""},
		{strings.Repeat("y", 1999), 2000, "0" + strings.Repeat("y", 1999)},
		{strings.Repeat("y", 2001), 2000, strings.Repeat("y", 2001)},
		{strings.Repeat("y", 2001), 2002, strings.Repeat("y", 2001)},
		{"x", math.MaxInt, "x"},
		{"x", math.MinInt, "x"},
		{"", math.MaxInt, ""},
		{"", math.MinInt, ""},
	}
	for _, c := range cases {
		if got := impl.PadZeros(c.s, c.n); got != c.want {
			t.Errorf("PadZeros(%q, %d) has %d bytes: %.40q", c.s, c.n, len(got), got)
		}
	}
}

// TestTextArgumentsAreKept gives Join a list with spare capacity, and writes
// to results to see that they are nobody else's memory.
func TestTextArgumentsAreKept(t *testing.T) {
	room := []string{"a", "b", "behind", "it"}
	if got := impl.Join(room[:2], "-"); got != "a-b" {
		t.Errorf("Join of a part of a list is %q", got)
	}
	if !slices.Equal(room, []string{"a", "b", "behind", "it"}) {
		t.Errorf("Join left %q", room)
	}
	first := impl.SplitAny("a,b", ",")
	lines := impl.SplitLines("a\nb\n")
	first[0], lines[0] = "changed", "changed"
	_, _ = append(first, "more"), append(lines, "more")
	if got := impl.SplitAny("a,b", ","); !slices.Equal(got, []string{"a", "b"}) {
		t.Errorf("SplitAny gives %q after an earlier result was changed", got)
	}
	if got := impl.SplitLines("a\nb\n"); !slices.Equal(got, []string{"a", "b"}) {
		t.Errorf("SplitLines gives %q after an earlier result was changed", got)
	}
}
