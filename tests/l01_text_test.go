package tests

import (
	"math"
	"math/rand"
	"slices"
	"strconv"
	"strings"
	"testing"

	"loop.example/g03107/impl"
)

const joinLimit = 1048576

// sampleInts gives the ints around all powers of ten and of two, with both signs, and some in between.
func sampleInts() []int {
	list := []int{0, math.MaxInt, math.MaxInt - 1, math.MinInt, math.MinInt + 1}
	for power := 1; power <= math.MaxInt/10; power *= 10 {
		list = append(list, power-1, power, power+1, -power-1, -power, 1-power)
	}
	for bit := range 63 {
		power := 1 << bit
		list = append(list, power-1, power, -power, 1-power)
	}
	source := rand.New(rand.NewSource(1))
	for range 20000 {
		list = append(list, int(source.Uint64()>>source.Intn(64)))
	}
	return list
}

func TestFormatInt(t *testing.T) {
	cases := []struct {
		n    int
		want string
	}{
		{0, "0"}, {7, "7"}, {-7, "-7"}, {10, "10"}, {-10, "-10"}, {100, "100"}, {1005, "1005"},
		{math.MaxInt, "9223372036854775807"},
		{math.MinInt, "-9223372036854775808"},
		{math.MinInt + 1, "-9223372036854775807"},
	}
	for _, c := range cases {
		if got := impl.FormatInt(c.n); got != c.want {
			t.Errorf("FormatInt(%d) = %q, want %q", c.n, got, c.want)
		}
	}
	for _, n := range sampleInts() {
		if got := impl.FormatInt(n); got != strconv.Itoa(n) {
			t.Fatalf("FormatInt(%d) = %q", n, got)
		}
	}
}

func TestParseNumberReadsEveryNumberAgain(t *testing.T) {
	for n := range 1000000 {
		if got, ok := impl.ParseNumber(impl.FormatInt(n)); got != n || !ok {
			t.Fatalf("ParseNumber of FormatInt(%d) = %d, %v", n, got, ok)
		}
	}
}

func TestParseReadsAgainExactlyWhatIsInRange(t *testing.T) {
	for _, n := range sampleInts() {
		s := impl.FormatInt(n)
		checkParse(t, "ParseNumber", impl.ParseNumber, s, n, n >= 0 && n <= 999999)
		checkParse(t, "ParseInt", impl.ParseInt, s, n, n >= -999999999999 && n <= 999999999999)
	}
}

// checkParse expects n and true if ok holds, and 0 and false otherwise.
func checkParse(t *testing.T, name string, parse func(string) (int, bool), s string, n int, ok bool) {
	t.Helper()
	if !ok {
		n = 0
	}
	if got, gotOk := parse(s); got != n || gotOk != ok {
		t.Errorf("%s(%.40q) = %d, %v, want %d, %v", name, s, got, gotOk, n, ok)
	}
}

func TestParseBounds(t *testing.T) {
	cases := []struct {
		s               string
		n               int
		isNumber, isInt bool
	}{
		{"0", 0, true, true},
		{"1", 1, true, true},
		{"-1", -1, false, true},
		{"99999", 99999, true, true},
		{"999998", 999998, true, true},
		{"999999", 999999, true, true},
		{"1000000", 1000000, false, true},
		{"-999999", -999999, false, true},
		{"999999999998", 999999999998, false, true},
		{"999999999999", 999999999999, false, true},
		{"1000000000000", 1000000000000, false, false},
		{"-999999999998", -999999999998, false, true},
		{"-999999999999", -999999999999, false, true},
		{"-1000000000000", -1000000000000, false, false},
		{"9223372036854775807", math.MaxInt, false, false},
		{"-9223372036854775808", math.MinInt, false, false},
	}
	for _, c := range cases {
		checkParse(t, "ParseNumber", impl.ParseNumber, c.s, c.n, c.isNumber)
		checkParse(t, "ParseInt", impl.ParseInt, c.s, c.n, c.isInt)
	}
}

func invalidDecimals() []string {
	list := []string{
		"", "-", "+", "--1", "-+1", "+-1", "+1", "+0", "-0", "-00", "-01", "1-", "1-2", "1+",
		"00", "000000", "01", "007", "0000001", "0999999", "00000000000001",
		" ", " 1", "1 ", "1 2", "- 1", "\t1", "1\n", "1\x00", "\x001",
		"a", "1a", "a1", "0x10", "0b1", "0o7", "1e3", "1.0", ".5", "1_000", "1,000", "NaN",
		"/", ":", "1/", "1:", "\xff", "1\xff", "\xb1", "\u0661", "\uff11", "\u22121", "é",
		// These wrap around to a number in range if the digits are read without a bound.
		"9223372036854775808", "18446744073709551616", "18446744073709551617",
		"-18446744073709551617", "184467440737095516160", "36893488147419103233",
		"340282366920938463463374607431768211457",
	}
	for _, length := range []int{13, 14, 19, 20, 21, 64, 100, 1000, 1000000} {
		nines, zeros := strings.Repeat("9", length), strings.Repeat("0", length)
		list = append(list, nines, "-"+nines, zeros, "-"+zeros, zeros+"1", "-"+zeros+"1", "1"+zeros, "-1"+zeros)
	}
	return list
}

func TestParseRejects(t *testing.T) {
	for _, s := range invalidDecimals() {
		checkParse(t, "ParseNumber", impl.ParseNumber, s, 0, false)
		checkParse(t, "ParseInt", impl.ParseInt, s, 0, false)
	}
}

func TestParseRejectsEveryOtherByte(t *testing.T) {
	for b := range 256 {
		other := string([]byte{byte(b)})
		if b >= '0' && b <= '9' {
			checkParse(t, "ParseNumber", impl.ParseNumber, other, b-'0', true)
			checkParse(t, "ParseInt", impl.ParseInt, other, b-'0', true)
			continue
		}
		for _, s := range []string{other, "1" + other, "1" + other + "2", "12" + other} {
			checkParse(t, "ParseNumber", impl.ParseNumber, s, 0, false)
			checkParse(t, "ParseInt", impl.ParseInt, s, 0, false)
		}
		s := other + "1"
		checkParse(t, "ParseNumber", impl.ParseNumber, s, 0, false)
		checkParse(t, "ParseInt", impl.ParseInt, s, -1, b == '-')
	}
}

// shortStrings gives all strings of at most most of the given bytes.
func shortStrings(bytes string, most int) []string {
	list := []string{""}
	last := list
	for range most {
		next := []string{}
		for _, s := range last {
			for i := range len(bytes) {
				next = append(next, s+bytes[i:i+1])
			}
		}
		list = append(list, next...)
		last = next
	}
	return list
}

func TestParseOfShortStrings(t *testing.T) {
	for _, s := range shortStrings("-+019", 6) {
		n, err := strconv.Atoi(s)
		ok := err == nil && strconv.Itoa(n) == s
		checkParse(t, "ParseNumber", impl.ParseNumber, s, n, ok && n >= 0)
		checkParse(t, "ParseInt", impl.ParseInt, s, n, ok)
	}
}

func TestSplitByte(t *testing.T) {
	cases := []struct {
		s    string
		by   byte
		want []string
	}{
		{"", ',', []string{""}},
		{"a", ',', []string{"a"}},
		{"abc", ',', []string{"abc"}},
		{",", ',', []string{"", ""}},
		{",,", ',', []string{"", "", ""}},
		{"a,b", ',', []string{"a", "b"}},
		{"a,,b", ',', []string{"a", "", "b"}},
		{",a", ',', []string{"", "a"}},
		{"a,", ',', []string{"a", ""}},
		{",a,b,", ',', []string{"", "a", "b", ""}},
		{"a b;c", ' ', []string{"a", "b;c"}},
		{"a\x00b", 0, []string{"a", "b"}},
		{"", 0, []string{""}},
		{"a\nb\n", '\n', []string{"a", "b", ""}},
		// Bytes of a character of several bytes are bytes as any others.
		{"é", 0xa9, []string{"\xc3", ""}},
		{"xéy", 0xc3, []string{"x", "\xa9y"}},
		{"\xff\xfe\xff", 0xff, []string{"", "\xfe", ""}},
	}
	for _, c := range cases {
		if got := impl.SplitByte(c.s, c.by); !slices.Equal(got, c.want) {
			t.Errorf("SplitByte(%q, %q) = %q, want %q", c.s, c.by, got, c.want)
		}
	}
}

func TestSplitByteOnEveryByte(t *testing.T) {
	all := make([]byte, 256)
	for i := range all {
		all[i] = byte(i)
	}
	for i := range all {
		want := []string{string(all[:i]), string(all[i+1:])}
		if got := impl.SplitByte(string(all), byte(i)); !slices.Equal(got, want) {
			t.Errorf("SplitByte of all bytes by %d = %q", i, got)
		}
	}
}

func TestSplitByteAndJoin(t *testing.T) {
	for _, s := range shortStrings("a,\xff", 6) {
		for _, by := range []byte{',', 'a', 0xff, 'x'} {
			separator := string([]byte{by})
			parts := impl.SplitByte(s, by)
			if len(parts) != strings.Count(s, separator)+1 || impl.Join(parts, separator) != s {
				t.Fatalf("SplitByte(%q, %q) = %q", s, by, parts)
			}
			for _, part := range parts {
				if strings.Contains(part, separator) {
					t.Fatalf("SplitByte(%q, %q) = %q", s, by, parts)
				}
			}
		}
	}
}

func TestSplitByteOfLongString(t *testing.T) {
	parts := impl.SplitByte(strings.Repeat(",", 2*joinLimit), ',')
	if len(parts) != 2*joinLimit+1 || parts[0] != "" || parts[2*joinLimit] != "" {
		t.Error(len(parts))
	}
	long := strings.Repeat("a", 2*joinLimit)
	if got := impl.SplitByte(long, ','); len(got) != 1 || got[0] != long {
		t.Error(len(got))
	}
}

func TestJoin(t *testing.T) {
	cases := []struct {
		list []string
		by   string
		want string
	}{
		{nil, "", ""},
		{nil, ",", ""},
		{[]string{}, ",", ""},
		{[]string{""}, ",", ""},
		{[]string{"a"}, ",", "a"},
		{[]string{"", ""}, ",", ","},
		{[]string{"", "", ""}, ", ", ", , "},
		{[]string{"a", "b"}, "", "ab"},
		{[]string{"a", "b", "c"}, "; ", "a; b; c"},
		{[]string{"a", "", "c"}, ",", "a,,c"},
		{[]string{"", "a"}, ",", ",a"},
		{[]string{"a", ""}, ",", "a,"},
		{[]string{"a,b", "c"}, ",", "a,b,c"},
		{[]string{"\xff", "\x00", "é"}, "\xfe", "\xff\xfe\x00\xfeé"},
	}
	for _, c := range cases {
		if got := impl.Join(c.list, c.by); got != c.want {
			t.Errorf("Join(%q, %q) = %q, want %q", c.list, c.by, got, c.want)
		}
	}
}

// copies gives a list with n times the string s.
func copies(n int, s string) []string {
	list := make([]string, n)
	for i := range list {
		list[i] = s
	}
	return list
}

func TestJoinLimit(t *testing.T) {
	full := strings.Repeat("x", joinLimit)
	half := strings.Repeat("x", joinLimit/2)
	cases := []struct {
		name string
		list []string
		by   string
		size int
	}{
		{"one below", []string{full[1:]}, ",", joinLimit - 1},
		{"one at", []string{full}, ",", joinLimit},
		{"one beyond", []string{full + "x"}, "", 0},
		{"one at, and empty ones", []string{"", full, ""}, "", joinLimit},
		{"beyond by the last separator", []string{full, ""}, ",", 0},
		{"beyond by the first separator", []string{"", full}, ",", 0},
		{"two at", []string{half, half[1:]}, ",", joinLimit},
		{"two beyond by the separator", []string{half, half}, ",", 0},
		{"two beyond by the last byte", []string{half, half, "x"}, "", 0},
		{"separators at", copies(joinLimit+1, ""), ",", joinLimit},
		{"separators beyond", copies(joinLimit+2, ""), ",", 0},
		{"empty ones", copies(2*joinLimit, ""), "", 0},
		{"long separator unused", []string{"x"}, full + full, 1},
		{"long separator at", []string{"", ""}, full, joinLimit},
		{"long separator beyond", []string{"", "x"}, full, 0},
		{"long separator twice", []string{"", "", ""}, full, 0},
		{"far beyond", copies(joinLimit, full), full, 0},
	}
	for _, c := range cases {
		got := impl.Join(c.list, c.by)
		if len(got) != c.size {
			t.Errorf("%s: Join has %d bytes, want %d", c.name, len(got), c.size)
		}
		if c.size > 0 && got != strings.Join(c.list, c.by) {
			t.Errorf("%s: Join has other bytes", c.name)
		}
	}
}

func TestJoinLeavesItsArgument(t *testing.T) {
	backing := []string{"a", "b", "beyond"}
	if got := impl.Join(backing[:2], ","); got != "a,b" {
		t.Error(got)
	}
	if !slices.Equal(backing, []string{"a", "b", "beyond"}) {
		t.Error(backing)
	}
}

func TestSplitByteReturnsNewSlices(t *testing.T) {
	first := impl.SplitByte("a,b", ',')
	first[0] = "changed"
	if second := impl.SplitByte("a,b", ','); !slices.Equal(second, []string{"a", "b"}) {
		t.Error(second)
	}
}
