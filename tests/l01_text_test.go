package tests

import (
	"math"
	"math/big"
	"regexp"
	"slices"
	"strings"
	"testing"

	"loop.example/g00793/impl"
)

// edgeInts holds the ints around every power of two and of ten, with both signs.
func edgeInts() []int {
	all := []int{0, math.MinInt, math.MaxInt}
	around := func(n int) {
		for d := -2; d <= 2; d++ {
			all = append(all, n+d, -n+d)
		}
	}
	for k := range 63 {
		around(1 << k)
	}
	for n := 1; n <= math.MaxInt/10; n *= 10 {
		around(n)
		around(n * 10)
	}
	return all
}

func TestIntText(t *testing.T) {
	cases := []struct {
		n    int
		want string
	}{
		{0, "0"}, {7, "7"}, {10, "10"}, {-1, "-1"}, {-120, "-120"}, {1000000, "1000000"},
		{math.MaxInt, "9223372036854775807"}, {math.MinInt, "-9223372036854775808"},
	}
	for _, c := range cases {
		if got := impl.IntText(c.n); got != c.want {
			t.Errorf("IntText(%d) = %q, not %q", c.n, got, c.want)
		}
	}
	for _, n := range edgeInts() {
		if got, want := impl.IntText(n), big.NewInt(int64(n)).String(); got != want {
			t.Errorf("IntText(%d) = %q, not %q", n, got, want)
		}
	}
}

// P3: an int is recovered from its IntText.
func TestIntIsRecovered(t *testing.T) {
	all := edgeInts()
	for n := -2000; n <= 2000; n++ {
		all = append(all, n)
	}
	for _, n := range all {
		if got, ok := impl.TextInt(impl.IntText(n)); got != n || !ok {
			t.Errorf("TextInt(IntText(%d)) = %d, %v", n, got, ok)
		}
	}
}

func TestTextIntAccepts(t *testing.T) {
	cases := []struct {
		s    string
		want int
	}{
		{"0", 0}, {"5", 5}, {"-5", -5}, {"10", 10}, {"-100", -100},
		{"9223372036854775807", math.MaxInt}, {"-9223372036854775808", math.MinInt},
		{"-9223372036854775807", -math.MaxInt},
	}
	for _, c := range cases {
		if got, ok := impl.TextInt(c.s); got != c.want || !ok {
			t.Errorf("TextInt(%q) = %d, %v, not %d, true", c.s, got, ok, c.want)
		}
	}
}

func TestTextIntRejects(t *testing.T) {
	cases := []string{
		"", "-", "--", "--1", "-0", "+0", "+1", "00", "01", "-01", "-00", "007",
		" ", " 1", "1 ", "1\n", "\n1", "- 1", "1-", "1-1", "1.0", "1e3", "0x10", "1_000", "1,000",
		"a", "1a", "a1", "\x00", "1\x00", "\xff", "1\xff", "\xff1", "-\xff", "1\xc3", "\xb1",
		"\u0661", "\uff11", "\u22121", "1\ufffd",
		"9223372036854775808", "-9223372036854775809", "9223372036854775810", "-9223372036854775810",
		"10000000000000000000", "18446744073709551615", "18446744073709551616", "18446744073709551617",
		"-18446744073709551615", "-18446744073709551616", "-18446744073709551617",
		"92233720368547758070", "340282366920938463463374607431768211457",
		strings.Repeat("0", 64), strings.Repeat("9", 5000), "1" + strings.Repeat("0", 64), "-1" + strings.Repeat("0", 64),
	}
	for _, s := range cases {
		if got, ok := impl.TextInt(s); got != 0 || ok {
			t.Errorf("TextInt(%q) = %d, %v, not 0, false", s, got, ok)
		}
	}
}

// P3: TextInt accepts no string but the IntText of an int.
func TestTextIntAcceptsOnlyIntText(t *testing.T) {
	form := regexp.MustCompile(`\A(0|-?[1-9][0-9]*)\z`)
	for _, s := range texts("-+0189 a\n\xff", 4) {
		want := form.MatchString(s)
		n, ok := impl.TextInt(s)
		if ok != want {
			t.Errorf("TextInt(%q) = %d, %v", s, n, ok)
		}
		if ok && impl.IntText(n) != s {
			t.Errorf("IntText(TextInt(%q)) = %q", s, impl.IntText(n))
		}
		if !ok && n != 0 {
			t.Errorf("TextInt(%q) = %d, %v, not 0", s, n, ok)
		}
	}
}

// The numbers around every multiple of 2^63, where 64-bit sums wrap.
func TestTextIntAtTheLimits(t *testing.T) {
	half := new(big.Int).Lsh(big.NewInt(1), 63)
	for k := int64(-40); k <= 40; k++ {
		for d := int64(-12); d <= 12; d++ {
			x := new(big.Int).Mul(half, big.NewInt(k))
			x.Add(x, big.NewInt(d))
			n, ok := impl.TextInt(x.String())
			if ok != x.IsInt64() || ok && int64(n) != x.Int64() || !ok && n != 0 {
				t.Errorf("TextInt(%q) = %d, %v", x.String(), n, ok)
			}
		}
	}
}

func checkAll(t *testing.T, name string, f func(string) bool, want bool, cases []string) {
	t.Helper()
	for _, s := range cases {
		if f(s) != want {
			t.Errorf("%s(%q) = %v", name, s, !want)
		}
	}
}

func checkEveryText(t *testing.T, name string, f func(string) bool, form string, bytes string, size int) {
	t.Helper()
	re := regexp.MustCompile(form)
	for _, s := range texts(bytes, size) {
		if want := re.MatchString(s); f(s) != want {
			t.Errorf("%s(%q) = %v", name, s, !want)
		}
	}
}

// checkEveryByte places every byte, also those that are no UTF-8 alone, at every place of base.
func checkEveryByte(t *testing.T, name string, f func(string) bool, base string, good func(place int, b byte) bool) {
	t.Helper()
	for place := range len(base) {
		for b := range 256 {
			s := []byte(base)
			s[place] = byte(b)
			if want := good(place, byte(b)); f(string(s)) != want {
				t.Errorf("%s(%q) = %v", name, s, !want)
			}
		}
	}
}

func TestIsDigits(t *testing.T) {
	checkAll(t, "IsDigits", impl.IsDigits, true, []string{"0", "9", "007", "0123456789", strings.Repeat("5", 3000)})
	checkAll(t, "IsDigits", impl.IsDigits, false, []string{
		"", "-1", "+1", " 1", "1 ", "1.0", "a", "1a", "/", ":", "\n", "1\n", "\x00",
		"\xff", "1\xff", "\xff1", "\xb0", "\u0661", "\uff11", "\u00b2",
	})
	checkEveryText(t, "IsDigits", impl.IsDigits, `\A[0-9]+\z`, "09/:-a\xff", 4)
	checkEveryByte(t, "IsDigits", impl.IsDigits, "123", func(_ int, b byte) bool {
		return b >= '0' && b <= '9'
	})
}

func TestIsWord(t *testing.T) {
	if impl.MaxWord != 12 {
		t.Errorf("MaxWord = %d", impl.MaxWord)
	}
	checkAll(t, "IsWord", impl.IsWord, true, []string{
		"a", "z", "x1", "a0", "z9", "till", "a1b2c3", "abcdefghijkl", "a12345678901",
	})
	checkAll(t, "IsWord", impl.IsWord, false, []string{
		"", "1", "0a", "1x", "A", "aB", "a b", " a", "a ", "a-b", "a_b", "a\n", "`", "{", "a/", "a:",
		"abcdefghijklm", "a123456789012", strings.Repeat("a", 3000),
		"\x00", "a\x00", "\xff", "a\xff", "\xe1", "a\xc3", "\u00e9", "a\u00e9", "\uff41", "a\u0661",
		strings.Repeat("\u00e9", 6), "abcdefghijk\u00e9",
	})
	checkEveryText(t, "IsWord", impl.IsWord, `\A[a-z][a-z0-9]{0,11}\z`, "az09A`{\xff", 4)
	for n := range 20 {
		if want := n >= 1 && n <= 12; impl.IsWord(strings.Repeat("b", n)) != want {
			t.Errorf("IsWord of %d letters = %v", n, !want)
		}
	}
	checkEveryByte(t, "IsWord", impl.IsWord, "abc", func(place int, b byte) bool {
		return b >= 'a' && b <= 'z' || place > 0 && b >= '0' && b <= '9'
	})
}

func TestIsCode(t *testing.T) {
	checkAll(t, "IsCode", impl.IsCode, true, []string{"EUR", "AAA", "ZZZ", "AZM"})
	checkAll(t, "IsCode", impl.IsCode, false, []string{
		"", "E", "EU", "EURO", "EUREUR", "eur", "EUr", "eUR", "E1R", "EU ", " EU", "EU\n", "E-R", "@@@", "[[[",
		"\x00\x00\x00", "\xff\xff\xff", "EU\xff", "\xffUR", "\u20ac", "E\u00c9", "EU\u00c9", "\uff25\uff35\uff32",
	})
	checkEveryText(t, "IsCode", impl.IsCode, `\A[A-Z]{3}\z`, "AZa@[9\xff", 4)
	checkEveryByte(t, "IsCode", impl.IsCode, "EUR", func(_ int, b byte) bool {
		return b >= 'A' && b <= 'Z'
	})
}

func TestCut(t *testing.T) {
	cases := []struct {
		s    string
		want []string
	}{
		{"", []string{""}},
		{"a", []string{"a"}},
		{"abc", []string{"abc"}},
		{"a b", []string{"a", "b"}},
		{"a  b", []string{"a", "", "b"}},
		{"a   b", []string{"a", "", "", "b"}},
		{" a", []string{"", "a"}},
		{"a ", []string{"a", ""}},
		{" a ", []string{"", "a", ""}},
		{" ", []string{"", ""}},
		{"  ", []string{"", "", ""}},
		{"put ann EUR 1.50", []string{"put", "ann", "EUR", "1.50"}},
		{"a\tb\nc\u00a0d", []string{"a\tb\nc\u00a0d"}},
		{"\xff \xc3 \xa9", []string{"\xff", "\xc3", "\xa9"}},
		{"\u00e9 \u20ac", []string{"\u00e9", "\u20ac"}},
	}
	for _, c := range cases {
		if got := impl.Cut(c.s); !slices.Equal(got, c.want) {
			t.Errorf("Cut(%q) = %q, not %q", c.s, got, c.want)
		}
	}
	for _, s := range texts(" a\n\t\xff", 5) {
		checkParts(t, "Cut", s, " ", impl.Cut(s))
	}
}

// checkParts holds parts against the rule itself: no separator is left in a part, and with one byte of by between the parts they are s again.
func checkParts(t *testing.T, name string, s string, by string, parts []string) {
	t.Helper()
	at := 0
	for i, part := range parts {
		if i > 0 {
			if at >= len(s) || !slices.Contains([]byte(by), s[at]) {
				t.Errorf("%s(%q, %q) = %q", name, s, by, parts)
				return
			}
			at++
		}
		for k := range len(part) {
			if slices.Contains([]byte(by), part[k]) {
				t.Errorf("%s(%q, %q) = %q", name, s, by, parts)
				return
			}
		}
		if !strings.HasPrefix(s[at:], part) {
			t.Errorf("%s(%q, %q) = %q", name, s, by, parts)
			return
		}
		at += len(part)
	}
	if at != len(s) || len(parts) == 0 {
		t.Errorf("%s(%q, %q) = %q", name, s, by, parts)
	}
}

func TestCutAt(t *testing.T) {
	cases := []struct {
		s    string
		by   string
		want []string
	}{
		{"a,b:c", ",:", []string{"a", "b", "c"}},
		{"a,b:c", ",", []string{"a", "b:c"}},
		{"a,b:c", ":,", []string{"a", "b", "c"}},
		{"a,:b", ",:", []string{"a", "", "b"}},
		{",a:", ",:", []string{"", "a", ""}},
		{"abc", "x", []string{"abc"}},
		{"abc", "", []string{"abc"}},
		{"a b", "", []string{"a b"}},
		{"", "", []string{""}},
		{"", ",", []string{""}},
		{",", ",", []string{"", ""}},
		{"aaa", "a", []string{"", "", "", ""}},
		{"a,b", ",,", []string{"a", "b"}},
		{"ab", "abab", []string{"", "", ""}},
		{"a\x00b", "\x00", []string{"a", "b"}},
		{"a\xffb\xfec", "\xff", []string{"a", "b\xfec"}},
		{"a\xffb\xfec", "\xfe\xff", []string{"a", "b", "c"}},
		{"a\xffb", "\ufffd", []string{"a\xffb"}},
		{"\u00e8", "\u00e9", []string{"", "\xa8"}},
		{"\u00e9", "\u00e9", []string{"", "", ""}},
		{"\u00e9", "\xa9", []string{"\xc3", ""}},
		{"\u20ac5", "\x82", []string{"\xe2", "\xac5"}},
	}
	for _, c := range cases {
		if got := impl.CutAt(c.s, c.by); !slices.Equal(got, c.want) {
			t.Errorf("CutAt(%q, %q) = %q, not %q", c.s, c.by, got, c.want)
		}
	}
	for _, by := range texts(",a\xc3\xff", 2) {
		for _, s := range texts(",ab\xc3\xff", 4) {
			checkParts(t, "CutAt", s, by, impl.CutAt(s, by))
		}
	}
}

func TestLines(t *testing.T) {
	cases := []struct {
		s    string
		want []string
	}{
		{"", nil},
		{"a", []string{"a"}},
		{"a\n", []string{"a"}},
		{"a\n\n", []string{"a", ""}},
		{"\n", []string{""}},
		{"\n\n", []string{"", ""}},
		{"\na", []string{"", "a"}},
		{"a\nb", []string{"a", "b"}},
		{"a\nb\n", []string{"a", "b"}},
		{"a\n\nb", []string{"a", "", "b"}},
		{"a\n ", []string{"a", " "}},
		{"a\r\nb\r", []string{"a\r", "b\r"}},
		{"a b\u2028c\x85d\n", []string{"a b\u2028c\x85d"}},
		{"\xff\n\xc3", []string{"\xff", "\xc3"}},
	}
	for _, c := range cases {
		if got := impl.Lines(c.s); !slices.Equal(got, c.want) {
			t.Errorf("Lines(%q) = %q, not %q", c.s, got, c.want)
		}
	}
	for _, s := range texts("\na\r \xff", 5) {
		got := impl.Lines(s)
		if s != "" && !strings.HasSuffix(s, "\n") {
			checkParts(t, "Lines", s, "\n", got)
			continue
		}
		checkParts(t, "Lines", s, "\n", append(got, ""))
	}
}

func TestJoin(t *testing.T) {
	cases := []struct {
		l    []string
		by   string
		want string
	}{
		{nil, ", ", ""},
		{[]string{}, ", ", ""},
		{[]string{""}, ", ", ""},
		{[]string{"a"}, ", ", "a"},
		{[]string{"a", "b"}, ", ", "a, b"},
		{[]string{"a", "b", "c"}, "", "abc"},
		{[]string{"", ""}, ",", ","},
		{[]string{"", "a", ""}, " > ", " > a > "},
		{[]string{"a,b", "c"}, ",", "a,b,c"},
		{[]string{"\xc3", "\xa9"}, "", "\u00e9"},
		{[]string{"\xff", "\xfe"}, "\x00", "\xff\x00\xfe"},
	}
	for _, c := range cases {
		if got := impl.Join(c.l, c.by); got != c.want {
			t.Errorf("Join(%q, %q) = %q, not %q", c.l, c.by, got, c.want)
		}
	}
	for _, s := range texts(" a\xff", 6) {
		if got := impl.Join(impl.Cut(s), " "); got != s {
			t.Errorf("Join(Cut(%q)) = %q", s, got)
		}
	}
}

func TestPad(t *testing.T) {
	cases := []struct {
		s    string
		n    int
		want string
	}{
		{"7", 3, "007"}, {"7", 2, "07"}, {"7", 1, "7"}, {"7", 0, "7"}, {"7", -1, "7"},
		{"1234", 3, "1234"}, {"1234", 4, "1234"}, {"1234", 5, "01234"},
		{"", 0, ""}, {"", 3, "000"}, {"", -5, ""}, {"-5", 4, "00-5"}, {"a b", 5, "00a b"},
		{"7", math.MinInt, "7"}, {"7", math.MaxInt, "7"}, {"", math.MaxInt, ""}, {"", math.MinInt, ""},
		{"\u00e9", 3, "0\u00e9"}, {"\u00e9", 2, "\u00e9"}, {"\xff", 2, "0\xff"},
		{"7", 1999, strings.Repeat("0", 1998) + "7"},
		{"7", 2000, strings.Repeat("0", 1999) + "7"},
		{"7", 2001, "7"},
		{"", 2000, strings.Repeat("0", 2000)},
		{"", 2001, ""},
		{strings.Repeat("1", 1999), 2000, "0" + strings.Repeat("1", 1999)},
		{strings.Repeat("1", 2000), 2000, strings.Repeat("1", 2000)},
		{strings.Repeat("1", 2000), 2001, strings.Repeat("1", 2000)},
		{strings.Repeat("1", 3000), 2000, strings.Repeat("1", 3000)},
	}
	for _, c := range cases {
		if got := impl.Pad(c.s, c.n); got != c.want {
			t.Errorf("Pad(%q, %d) = %q, not %q", c.s, c.n, got, c.want)
		}
	}
	for size := range 8 {
		s := strings.Repeat("x", size)
		for n := -3; n <= 12; n++ {
			want := strings.Repeat("0", max(0, n-size)) + s
			if got := impl.Pad(s, n); got != want {
				t.Errorf("Pad(%q, %d) = %q, not %q", s, n, got, want)
			}
		}
	}
}

// Chapter 1: results are new memory, also between two calls with the same argument.
func TestTextResultsAreNew(t *testing.T) {
	calls := map[string]func() []string{
		"Cut":   func() []string { return impl.Cut("a b c") },
		"CutAt": func() []string { return impl.CutAt("a,b:c", ",:") },
		"whole": func() []string { return impl.CutAt("abc", "") },
		"Lines": func() []string { return impl.Lines("a\nb\nc\n") },
	}
	for name, call := range calls {
		first := call()
		want := slices.Clone(first)
		second := call()
		for i := range second {
			second[i] = "changed"
		}
		_ = append(second, "changed")
		if !slices.Equal(first, want) || !slices.Equal(call(), want) {
			t.Errorf("%s: results share memory", name)
		}
	}
}

// Chapter 1: an argument and the capacity behind it stay as they are.
func TestJoinLeavesItsArgument(t *testing.T) {
	behind := []string{"a", "b", "c", "d"}
	if got := impl.Join(behind[:2], "-"); got != "a-b" {
		t.Errorf("Join = %q", got)
	}
	if !slices.Equal(behind, []string{"a", "b", "c", "d"}) {
		t.Errorf("Join changed its argument: %q", behind)
	}
}
