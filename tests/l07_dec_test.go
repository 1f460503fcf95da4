package tests

import (
	"math"
	"math/big"
	"math/rand/v2"
	"regexp"
	"slices"
	"strings"
	"testing"

	"loop.example/g00793/impl"
)

func scaled(scale int, num impl.Signed) impl.Dec {
	return impl.Dec{Num: num, Scale: scale}
}

// decimal takes a number from its digits, whether it is a valid one or not: 1.50 is 150 at scale 2. It is written without the functions under test.
func decimal(s string) impl.Dec {
	_, decimals, _ := strings.Cut(s, ".")
	n, ok := new(big.Int).SetString(strings.Replace(s, ".", "", 1), 10)
	if !ok {
		panic("no decimal number: " + s)
	}
	return scaled(len(decimals), impl.Signed{Neg: n.Sign() < 0, Mag: limbsOf(new(big.Int).Abs(n))})
}

// wanted reads what a case expects: the empty string stands for the zero value and false.
func wanted(s string) (impl.Dec, bool) {
	if s == "" {
		return impl.Dec{}, false
	}
	return decimal(s), true
}

func zerosText(n int) string { return strings.Repeat("0", n) }

func ninesText(n int) string { return strings.Repeat("9", n) }

func bigTen(k int) *big.Int {
	return new(big.Int).Exp(big.NewInt(10), big.NewInt(int64(k)), nil)
}

func bigDec(d impl.Dec) *big.Rat {
	return new(big.Rat).SetFrac(bigSigned(d.Num), bigTen(d.Scale))
}

// timesTen is q * 10^scale, for a scale that is not negative.
func timesTen(q *big.Rat, scale int) *big.Rat {
	return new(big.Rat).Mul(q, new(big.Rat).SetInt(bigTen(scale)))
}

// limitedDec is the zero value and false where q is no valid number at this scale, as the results of the chapter are.
func limitedDec(q *big.Rat, scale int) (impl.Dec, bool) {
	if scale < 0 || scale > 30 {
		return impl.Dec{}, false
	}
	at := timesTen(q, scale)
	num := limitedSigned(at.Num())
	if !at.IsInt() || len(limbsOf(new(big.Int).Abs(at.Num()))) > 6 {
		return impl.Dec{}, false
	}
	return scaled(scale, num), true
}

// roundedDec rounds q * 10^scale as the tests of rounding do.
func roundedDec(q *big.Rat, scale int, m int) (impl.Dec, bool) {
	if scale < 0 || scale > 30 || m < 0 || m > 6 {
		return impl.Dec{}, false
	}
	num := roundedBig(timesTen(q, scale), m)
	return limitedDec(new(big.Rat).SetFrac(num, bigTen(scale)), scale)
}

func oppositeDec(d impl.Dec) impl.Dec {
	return scaled(d.Scale, opposite(d.Num))
}

func sameDec(d impl.Dec, e impl.Dec) bool {
	return d.Scale == e.Scale && sameSigned(d.Num, e.Num)
}

func cloneDec(d impl.Dec) impl.Dec {
	return scaled(d.Scale, cloneSigned(d.Num))
}

func atScales(nums []impl.Signed, scales ...int) []impl.Dec {
	var all []impl.Dec
	for _, scale := range scales {
		for _, num := range nums {
			all = append(all, scaled(scale, num))
		}
	}
	return all
}

// fewDecs have at most 2 limbs and small scales, so that sums and products of three of them are valid; all triples are tried.
func fewDecs() []impl.Dec {
	return atScales(bothSigns([][]int{nil, {1}, {10}, {25}, {top}, {7, 5}}), 0, 1, 2, 10)
}

// limitDecs have Nums of exactly 6 limbs and around 3 limbs, where products leave the numbers, and scales at the limits and around half of MaxScale.
func limitDecs() []impl.Dec {
	six := append(sameLimbs(5, 0), half)
	nums := bothSigns([][]int{nil, {1}, {2}, {0, 0, 1}, sameLimbs(3, top), {0, 0, 0, 1}, powerOfBase(6), sameLimbs(6, top), six, {3, 0, 0, 0, 0, 12}})
	return atScales(nums, 0, 1, 15, 16, 29, 30)
}

// manyDecs adds Nums of all lengths, in limbs and in digits, at all scales.
func manyDecs() []impl.Dec {
	all := slices.Concat(fewDecs(), limitDecs())
	r := rand.New(rand.NewPCG(7, 12))
	for scale := range 31 {
		digits := 1 + r.IntN(54)
		tens := plus(limbsOf(new(big.Int).Mul(bigTen(r.IntN(30)), big.NewInt(int64(1+r.IntN(1000)))))...)
		all = append(all, atScales(bothSigns([][]int{nil, randomNat(r, r.IntN(7)), limbsOf(bigTen(digits - 1)), tens.Mag}), scale)...)
	}
	return all
}

func badScales() []int {
	all := []int{-1, -2, -9, -30, -31, 31, 32, 39, 60, 61, 100, 449, 450, 451, math.MinInt, math.MinInt + 1, math.MaxInt, math.MaxInt - 1}
	for _, n := range []int{1 << 8, 1 << 16, 1 << 32, 1 << 62, math.MinInt, -1 << 32} {
		all = append(all, n, n+1, n+2, n+15, n+30)
	}
	return all
}

// badDecs are wrong in one thing each, as far as that is possible.
func badDecs() []impl.Dec {
	longer := bothSigns([][]int{powerOfBase(7), sameLimbs(7, top), sameLimbs(7, 1), powerOfBase(8), sameLimbs(18, top), powerOfBase(19), sameLimbs(50, top)})
	all := atScales(longer, 0, 1, 9, 30)
	all = append(all, atScales(badInts(), 0, 2, 30)...)
	for _, scale := range badScales() {
		for _, num := range append(bothSigns([][]int{nil, {1}, {10}, powerOfBase(6), sameLimbs(6, top), powerOfBase(7)}), impl.Signed{Neg: true}) {
			all = append(all, scaled(scale, num))
		}
	}
	return all
}

// fewBadDecs are enough beside other arguments.
func fewBadDecs() []impl.Dec {
	return []impl.Dec{
		scaled(-1, plus()), scaled(31, plus(1)), scaled(math.MinInt, minus(5)), scaled(math.MaxInt, plus(1)),
		scaled(2, impl.Signed{Neg: true}), scaled(0, plus(0)), scaled(0, plus(1, 0)), scaled(0, plus(-1)), scaled(30, minus(impl.Base)),
		scaled(0, plus(powerOfBase(7)...)), scaled(30, minus(powerOfBase(7)...)), scaled(0, plus(sameLimbs(51, 1)...)),
	}
}

func checkDec(t *testing.T, got impl.Dec, ok bool, want impl.Dec, wantOk bool, call string, args ...any) {
	t.Helper()
	if !sameDec(got, want) || ok != wantOk {
		t.Errorf("%s of %v = %v, %v, not %v, %v", call, args, got, ok, want, wantOk)
	}
}

// decReckonings lists the functions that make a number of two.
func decReckonings() map[string]func(impl.Dec, impl.Dec) (impl.Dec, bool) {
	return map[string]func(impl.Dec, impl.Dec) (impl.Dec, bool){"DecAdd": impl.DecAdd, "DecSub": impl.DecSub, "DecMul": impl.DecMul}
}

// decPairs adds the other ones that take numbers; those of one number ignore the second one.
func decPairs() map[string]func(impl.Dec, impl.Dec) (impl.Dec, bool) {
	pairs := decReckonings()
	pairs["DecAt, the same scale,"] = func(d impl.Dec, _ impl.Dec) (impl.Dec, bool) { return impl.DecAt(d, d.Scale) }
	pairs["DecLow"] = func(d impl.Dec, _ impl.Dec) (impl.Dec, bool) { return impl.DecLow(d), true }
	for _, scale := range []int{0, 2, 30} {
		name := " " + impl.IntText(scale)
		pairs["DecAt"+name] = func(d impl.Dec, _ impl.Dec) (impl.Dec, bool) { return impl.DecAt(d, scale) }
		pairs["DecDiv"+name] = func(d impl.Dec, e impl.Dec) (impl.Dec, bool) { return impl.DecDiv(d, e, scale, impl.RmUp) }
	}
	return pairs
}

func TestDecLimit(t *testing.T) {
	if impl.MaxScale != 30 {
		t.Errorf("MaxScale = %d", impl.MaxScale)
	}
}

func TestDecOk(t *testing.T) {
	good := []impl.Dec{
		{}, scaled(0, impl.Signed{Mag: []int{}}), scaled(30, plus()), scaled(30, impl.Signed{Mag: []int{}}), scaled(2, plus(5)), scaled(2, minus(5)),
		scaled(0, plus(powerOfBase(6)...)), scaled(30, minus(powerOfBase(6)...)), scaled(0, minus(sameLimbs(6, top)...)), scaled(30, plus(sameLimbs(6, top)...)),
	}
	for _, d := range slices.Concat(good, manyDecs()) {
		if !impl.DecOk(d) {
			t.Errorf("DecOk(%v) = false", d)
		}
	}
	for _, d := range slices.Concat(badDecs(), fewBadDecs()) {
		if impl.DecOk(d) {
			t.Errorf("DecOk(%v) = true", d)
		}
	}
	for scale := -40; scale <= 40; scale++ {
		for limbs := 1; limbs <= 12; limbs++ {
			d := scaled(scale, minus(sameLimbs(limbs, 7)...))
			if got, want := impl.DecOk(d), scale >= 0 && scale <= 30 && limbs <= 6; got != want {
				t.Errorf("DecOk of %d limbs at scale %d = %v", limbs, scale, got)
			}
		}
	}
}

func TestDecRat(t *testing.T) {
	thirty := []int{0, 0, 0, 1000}
	cases := []struct {
		d    impl.Dec
		want impl.Rat
	}{
		{decimal("0"), fraction(plus(), 1)}, {decimal("0.00"), fraction(plus(), 1)}, {scaled(30, plus()), fraction(plus(), 1)}, {scaled(3, impl.Signed{Mag: []int{}}), fraction(plus(), 1)},
		{decimal("-0.05"), fraction(minus(1), 20)}, {decimal("1.50"), fraction(plus(3), 2)}, {decimal("7"), fraction(plus(7), 1)}, {decimal("-7.0"), fraction(minus(7), 1)},
		{decimal("0.3"), fraction(plus(3), 10)}, {decimal("0.0000000001"), fraction(plus(1), 0, 10)}, {scaled(30, plus(1)), fraction(plus(1), thirty...)}, {scaled(30, minus(3)), fraction(minus(3), thirty...)},
		{scaled(0, plus(sameLimbs(6, top)...)), fraction(plus(sameLimbs(6, top)...), 1)}, {scaled(30, minus(sameLimbs(6, top)...)), fraction(minus(sameLimbs(6, top)...), thirty...)},
		{scaled(30, plus(powerOfBase(6)...)), fraction(plus(0, 1000000), 1)},
	}
	for _, c := range cases {
		checkRat(t, impl.DecRat(c.d), true, c.want, true, "DecRat, "+impl.DecText(c.d)+",")
	}
	for _, d := range manyDecs() {
		want, wantOk := limitedRat(bigDec(d))
		got := impl.DecRat(d)
		checkRat(t, got, impl.RatOk(got), want, wantOk, "DecRat, "+impl.DecText(d)+",")
	}
}

func TestDecText(t *testing.T) {
	nines := ninesText(54)
	cases := []struct {
		d    impl.Dec
		want string
	}{
		{impl.Dec{Num: impl.Signed{Mag: []int{5}}, Scale: 2}, "0.05"}, {scaled(2, minus(5)), "-0.05"},
		{scaled(0, plus()), "0"}, {scaled(0, impl.Signed{Mag: []int{}}), "0"}, {scaled(1, plus()), "0.0"}, {scaled(2, plus()), "0.00"}, {scaled(30, plus()), "0." + zerosText(30)}, {scaled(3, impl.Signed{Mag: []int{}}), "0.000"},
		{scaled(0, plus(7)), "7"}, {scaled(0, minus(7)), "-7"}, {scaled(0, minus(120)), "-120"}, {scaled(0, plus(0, 1)), "1000000000"},
		{scaled(3, plus(7)), "0.007"}, {scaled(3, minus(7)), "-0.007"}, {scaled(3, plus(70)), "0.070"}, {scaled(1, plus(7)), "0.7"}, {scaled(1, minus(7)), "-0.7"},
		{scaled(3, plus(123)), "0.123"}, {scaled(3, minus(123)), "-0.123"}, {scaled(2, plus(10)), "0.10"}, {scaled(2, minus(10)), "-0.10"},
		{scaled(3, plus(1234)), "1.234"}, {scaled(3, minus(1234)), "-1.234"}, {scaled(2, plus(150)), "1.50"}, {scaled(2, minus(100)), "-1.00"}, {scaled(2, plus(10000)), "100.00"},
		{scaled(9, plus(7, 1)), "1.000000007"}, {scaled(10, minus(7, 1)), "-0.1000000007"}, {scaled(11, minus(7, 1)), "-0.01000000007"}, {scaled(8, minus(0, 1)), "-10.00000000"},
		{scaled(30, plus(1)), "0." + zerosText(29) + "1"}, {scaled(30, minus(1)), "-0." + zerosText(29) + "1"}, {scaled(29, minus(1)), "-0." + zerosText(28) + "1"},
		{scaled(0, plus(sameLimbs(6, top)...)), nines}, {scaled(30, minus(sameLimbs(6, top)...)), "-" + nines[:24] + "." + nines[24:]}, {scaled(30, plus(powerOfBase(6)...)), "1" + zerosText(15) + "." + zerosText(30)},
	}
	for _, c := range cases {
		if got := impl.DecText(c.d); got != c.want {
			t.Errorf("DecText(%v) = %q, not %q", c.d, got, c.want)
		}
	}
	for _, d := range manyDecs() {
		if got, want := impl.DecText(d), bigDec(d).FloatString(d.Scale); got != want {
			t.Errorf("DecText(%v) = %q, not %q", d, got, want)
		}
	}
}

// P3: a number is recovered from its DecText, with its scale.
func TestTextDecAccepts(t *testing.T) {
	for _, s := range []string{"0", "0.0", "0.00", "0." + zerosText(30), "0.05", "-0.05", "7", "-7", "10", "-100", "1.50", "-1.50", "10.0", "-0." + zerosText(29) + "1", ninesText(54), "-" + ninesText(24) + "." + ninesText(30)} {
		got, ok := impl.TextDec(s)
		checkDec(t, got, ok, decimal(s), true, "TextDec", s)
	}
	for _, d := range manyDecs() {
		got, ok := impl.TextDec(bigDec(d).FloatString(d.Scale))
		checkDec(t, got, ok, d, true, "TextDec", d)
		got, ok = impl.TextDec(impl.DecText(d))
		checkDec(t, got, ok, d, true, "TextDec(DecText)", d)
	}
}

// Texts of every length around the limits of the digits, of which up to 54 make a valid number, and of the decimals.
func TestTextDecAtTheLimit(t *testing.T) {
	for size := 1; size <= 90; size++ {
		for scale := 0; scale < size && scale <= 33; scale++ {
			for _, digits := range []string{ninesText(size), "1" + zerosText(size-1), "0" + zerosText(size-scale-1) + ninesText(scale), zerosText(size-scale) + ninesText(scale)} {
				s := digits[:len(digits)-scale]
				if scale > 0 {
					s += "." + digits[len(digits)-scale:]
				}
				checkTextDec(t, s)
				checkTextDec(t, "-"+s)
			}
		}
	}
}

var decForm = regexp.MustCompile(`\A-?(0|[1-9][0-9]*)(\.[0-9]{1,30})?\z`)

// checkTextDec knows the texts of the numbers from their form, apart from the size of the number and from -0.
func checkTextDec(t *testing.T, s string) {
	t.Helper()
	var want impl.Dec
	wantOk := false
	if decForm.MatchString(s) {
		d := decimal(s)
		wantOk = len(d.Num.Mag) <= 6 && d.Num.Neg == (s[0] == '-')
		if wantOk {
			want = d
		}
	}
	got, ok := impl.TextDec(s)
	checkDec(t, got, ok, want, wantOk, "TextDec", s)
	if ok && (!impl.DecOk(got) || impl.DecText(got) != s) {
		t.Errorf("TextDec(%q) = %v, whose DecText is %q", s, got, impl.DecText(got))
	}
}

func TestTextDecRejects(t *testing.T) {
	cases := []string{
		"", "-", ".", "-.", "00", "007", "00.5", "01.5", "-01.5", "-00", "000", "00.0", "-007.1", "0000000000", "0000000000.5",
		".5", "-.5", ".0", ".00", ".05", "1.", "-1.", "0.", "-0.", "10.", "5..", "1..5", "1.5.", "1.5.5", "0.0.0", ".1.5", "..", "1.2.3.4", "0..0",
		"--1", "--1.5", "-1.-5", "1.-5", "1-.5", "1.5-", "-1.5-", "1-5", "0.-0", "0.0-", "-0-", "-", "--", "1.5-5",
		"-0", "-0.0", "-0.00", "-0." + zerosText(30), "--0", "--0.0", "+0", "+0.0", "+1", "+1.5", "-+1.5", "+-1.5", "1.+5", "1+.5",
		" ", " 1", "1 ", " 1.5", "1.5 ", "1 .5", "1. 5", "- 1.5", "1 5", "1.5 5", "0 ", " 0", "\n", "1.5\n", "\n1.5", "1\t.5", "0.0\n",
		"a", "1a", "a1", "1.a", "1.5a", "a.5", "1a.5", "1e3", "1.5e3", "0x1", "0x1.8", "1_0", "1.5_0", "Inf", "NaN", "nan", "1,5", "1,000.5", "1'000", "1/2", "3/2", "0.5/2", "1.5%", "$1", "1.50EUR",
		"\x00", "1\x00", "1.\x00", "1.5\x00", "\x001", "\xff", "1\xff5", "1.\xff", "\xff.5", "\u0661", "1.\u0665", "\u0661.5", "1\u066b5", "\uff11.5", "\u22121.5", "1\u00b75",
		"0." + zerosText(31), "1." + zerosText(31), "0." + zerosText(30) + "1", "-0." + zerosText(30) + "1", "1." + ninesText(31), "0." + ninesText(31), "0." + ninesText(54), "0." + zerosText(256), "1." + zerosText(1<<16),
		"1" + zerosText(54), "-1" + zerosText(54), ninesText(55), "-" + ninesText(55), ninesText(54) + ".0", "-1" + zerosText(24) + "." + zerosText(30), ninesText(25) + "." + ninesText(30), ninesText(54) + ".9",
		"0" + ninesText(54), "0" + ninesText(53), "0" + ninesText(53) + ".5", zerosText(54), zerosText(450), zerosText(451), ninesText(450), ninesText(451), "1" + zerosText(450), ninesText(450) + ".5", ninesText(440) + "." + ninesText(30),
		strings.Repeat("7", 100000), "-" + strings.Repeat("7", 100000), "0." + strings.Repeat("7", 100000), strings.Repeat(".", 100000), strings.Repeat("-", 100000), strings.Repeat("0", 100000), strings.Repeat("0", 100000) + "1.5", strings.Repeat("1.", 50000),
	}
	for _, s := range cases {
		got, ok := impl.TextDec(s)
		checkDec(t, got, ok, impl.Dec{}, false, "TextDec", s)
	}
}

// P3: TextDec accepts no string but the DecText of a number.
func TestTextDecAcceptsOnlyDecText(t *testing.T) {
	for _, s := range slices.Concat(texts("-.0159", 6), texts("-. +02a\n\xff", 4)) {
		checkTextDec(t, s)
		checkTextDec(t, "0."+s)
		checkTextDec(t, "-12"+s)
	}
}

func TestDecAt(t *testing.T) {
	nines, power := ninesText(54), "1"+zerosText(53)
	cases := []struct {
		d     string
		scale int
		want  string
	}{
		{"1.50", 2, "1.50"}, {"1.50", 1, "1.5"}, {"1.50", 0, ""}, {"1.50", 3, "1.500"}, {"1.50", 30, "1.5" + zerosText(29)}, {"-1.50", 1, "-1.5"}, {"-1.50", 3, "-1.500"}, {"-1.50", 0, ""},
		{"-0.05", 2, "-0.05"}, {"-0.05", 1, ""}, {"-0.05", 0, ""}, {"0.05", 1, ""}, {"0.01", 1, ""}, {"0.09", 1, ""}, {"0.99", 0, ""}, {"-0.99", 0, ""}, {"0.10", 1, "0.1"}, {"0.10", 0, ""},
		{"0", 0, "0"}, {"0", 2, "0.00"}, {"0", 30, "0." + zerosText(30)}, {"0.00", 0, "0"}, {"0.00", 1, "0.0"}, {"0.00", 2, "0.00"}, {"0." + zerosText(30), 0, "0"},
		{"100", 0, "100"}, {"100", 2, "100.00"}, {"100.00", 0, "100"}, {"-100.00", 0, "-100"}, {"100.01", 1, ""}, {"100.10", 1, "100.1"}, {"100.10", 0, ""}, {"12.0000000000", 0, "12"}, {"12.0000000001", 9, ""}, {"12.0000000010", 9, "12.000000001"},
		{"7", 1, "7.0"}, {"7", 9, "7." + zerosText(9)}, {"-7", 30, "-7." + zerosText(30)}, {"0." + zerosText(29) + "1", 30, "0." + zerosText(29) + "1"}, {"0." + zerosText(29) + "1", 29, ""}, {"-0." + zerosText(28) + "10", 29, "-0." + zerosText(28) + "1"},
		{nines, 0, nines}, {nines, 1, ""}, {nines, 30, ""}, {ninesText(53), 1, ninesText(53) + ".0"}, {"-" + ninesText(53), 1, "-" + ninesText(53) + ".0"}, {"-" + ninesText(53), 2, ""}, {"-" + nines, 1, ""},
		{ninesText(24), 30, ninesText(24) + "." + zerosText(30)}, {"1" + zerosText(23), 30, "1" + zerosText(23) + "." + zerosText(30)}, {"1" + zerosText(24), 30, ""}, {ninesText(25), 30, ""}, {"-1" + zerosText(24), 29, "-1" + zerosText(24) + "." + zerosText(29)},
		{power, 0, power}, {power, 1, ""}, {power[:53], 1, power[:53] + ".0"}, {power[:24] + "." + power[24:], 0, power[:24]}, {nines[:24] + "." + nines[24:], 29, ""}, {nines[:24] + "." + nines[24:], 30, nines[:24] + "." + nines[24:]},
	}
	for _, c := range cases {
		got, ok := impl.DecAt(decimal(c.d), c.scale)
		want, wantOk := wanted(c.want)
		checkDec(t, got, ok, want, wantOk, "DecAt", c.d, c.scale)
	}
	for _, d := range manyDecs() {
		for scale := range 31 {
			got, ok := impl.DecAt(d, scale)
			want, wantOk := limitedDec(bigDec(d), scale)
			checkDec(t, got, ok, want, wantOk, "DecAt", d, scale)
			if back, backOk := impl.DecAt(got, d.Scale); ok && !(backOk && sameDec(back, d)) {
				t.Errorf("DecAt(DecAt(%v, %d), %d) = %v, %v", d, scale, d.Scale, back, backOk)
			}
		}
	}
}

func TestDecLow(t *testing.T) {
	cases := [][2]string{
		{"0", "0"}, {"0.0", "0"}, {"0.00", "0"}, {"0." + zerosText(30), "0"}, {"1.50", "1.5"}, {"-1.50", "-1.5"}, {"1.5", "1.5"}, {"1.05", "1.05"}, {"-0.05", "-0.05"}, {"-0.0750", "-0.075"},
		{"7", "7"}, {"-7", "-7"}, {"7.00", "7"}, {"-7.0", "-7"}, {"100", "100"}, {"-100", "-100"}, {"100.00", "100"}, {"100.50", "100.5"}, {"100.10", "100.1"}, {"0.10", "0.1"}, {"0.1000000000", "0.1"}, {"10." + zerosText(30), "10"},
		{"0." + zerosText(29) + "1", "0." + zerosText(29) + "1"}, {"-0." + zerosText(28) + "10", "-0." + zerosText(28) + "1"}, {"1000000000.0000000000", "1000000000"}, {"1.0000000010", "1.000000001"},
		{ninesText(54), ninesText(54)}, {"1" + zerosText(53), "1" + zerosText(53)}, {"-1" + zerosText(23) + "." + zerosText(30), "-1" + zerosText(23)}, {ninesText(24) + "." + ninesText(30), ninesText(24) + "." + ninesText(30)},
	}
	for _, c := range cases {
		checkDec(t, impl.DecLow(decimal(c[0])), true, decimal(c[1]), true, "DecLow", c[0])
	}
	checkDec(t, impl.DecLow(scaled(3, impl.Signed{Mag: []int{}})), true, impl.Dec{}, true, "DecLow of an empty 0")
	for _, d := range manyDecs() {
		low := impl.DecLow(d)
		scale := 0
		for !timesTen(bigDec(d), scale).IsInt() {
			scale++
		}
		want, _ := limitedDec(bigDec(d), scale)
		checkDec(t, low, impl.DecOk(low), want, true, "DecLow", d)
		checkDec(t, impl.DecLow(low), true, low, true, "DecLow of DecLow", d)
		back, ok := impl.DecAt(low, d.Scale)
		checkDec(t, back, ok, d, true, "DecAt of DecLow", d)
	}
}

func TestDecAddAndSub(t *testing.T) {
	cases := []struct {
		d    string
		e    string
		sum  string
		diff string
	}{
		{"0", "0", "0", "0"}, {"0.00", "0", "0.00", "0.00"}, {"0", "0.000", "0.000", "0.000"}, {"0", "5", "5", "-5"}, {"0.0", "-5", "-5.0", "5.0"}, {"5", "0.00", "5.00", "5.00"},
		{"1.50", "0.25", "1.75", "1.25"}, {"1.50", "-0.05", "1.45", "1.55"}, {"-0.05", "1.50", "1.45", "-1.55"}, {"-1.50", "-0.25", "-1.75", "-1.25"}, {"0.25", "1.50", "1.75", "-1.25"},
		{"1.5", "0.25", "1.75", "1.25"}, {"0.25", "1.5", "1.75", "-1.25"}, {"3", "0.01", "3.01", "2.99"}, {"0.01", "3", "3.01", "-2.99"}, {"-3", "0.01", "-2.99", "-3.01"}, {"0.01", "-3", "-2.99", "3.01"},
		{"1.50", "1.50", "3.00", "0.00"}, {"1.50", "-1.5", "0.00", "3.00"}, {"-1.5", "1.500", "0.000", "-3.000"}, {"2", "2.0", "4.0", "0.0"}, {"0.99", "0.01", "1.00", "0.98"}, {"-0.99", "-0.01", "-1.00", "-0.98"},
		{"999999999", "1", "1000000000", "999999998"}, {"1000000000", "1.0", "1000000001.0", "999999999.0"}, {"0.999999999", "0.000000001", "1.000000000", "0.999999998"},
		{"7", "0." + zerosText(29) + "1", "7." + zerosText(29) + "1", "6." + ninesText(30)}, {"0." + zerosText(29) + "1", "-7", "-6." + ninesText(30), "7." + zerosText(29) + "1"},
	}
	for _, c := range cases {
		got, ok := impl.DecAdd(decimal(c.d), decimal(c.e))
		checkDec(t, got, ok, decimal(c.sum), true, "DecAdd", c.d, c.e)
		got, ok = impl.DecSub(decimal(c.d), decimal(c.e))
		checkDec(t, got, ok, decimal(c.diff), true, "DecSub", c.d, c.e)
	}
	for _, d := range manyDecs() {
		for _, e := range manyDecs() {
			scale := max(d.Scale, e.Scale)
			got, ok := impl.DecAdd(d, e)
			want, wantOk := limitedDec(new(big.Rat).Add(bigDec(d), bigDec(e)), scale)
			checkDec(t, got, ok, want, wantOk, "DecAdd", d, e)
			got, ok = impl.DecSub(d, e)
			want, wantOk = limitedDec(new(big.Rat).Sub(bigDec(d), bigDec(e)), scale)
			checkDec(t, got, ok, want, wantOk, "DecSub", d, e)
		}
	}
}

// Sums and differences with exactly 6 limbs and with one more, also where an operand at the common scale has more than 6 limbs.
func TestDecAddAndSubAtTheLimit(t *testing.T) {
	nines, most, tiny := ninesText(54), ninesText(24)+"."+ninesText(30), "0."+zerosText(29)+"1"
	cases := [][3]string{
		{nines, "0", nines}, {nines, "1", ""}, {ninesText(53) + "8", "1", nines}, {nines, "-1", ninesText(53) + "8"}, {nines, "-" + nines, "0"}, {nines, nines, ""},
		{"5" + zerosText(53), "4" + ninesText(53), nines}, {"5" + zerosText(53), "5" + zerosText(53), ""},
		{most, "0", most}, {most, tiny, ""}, {ninesText(24) + "." + ninesText(29) + "8", tiny, most}, {ninesText(24), "0." + ninesText(30), most},
		{ninesText(24), "1", "1" + zerosText(24)}, {ninesText(24), "1." + zerosText(30), ""},
		{nines, "0.0", ""}, {"1" + zerosText(52), "0.0", "1" + zerosText(52) + ".0"}, {"1" + zerosText(53), "0.0", ""}, {"1" + zerosText(24), "0." + zerosText(30), ""},
		{"1" + zerosText(24), "-" + most, tiny}, {"1" + zerosText(24), "-" + tiny, most}, {"1" + zerosText(24), tiny, ""}, {"-1" + zerosText(24), most, "-" + tiny},
		{"1" + ninesText(24), "-" + most, ninesText(24) + "." + zerosText(29) + "1"}, {"2" + zerosText(24), "-" + most, ""},
		{"1" + zerosText(53), "-" + ninesText(53) + ".0", "1.0"}, {"1" + zerosText(53), "-0.1", ninesText(53) + ".9"}, {"1" + zerosText(53), "0.1", ""},
		{nines, "-" + ninesText(53) + ".9", ""}, {nines, "-" + most, ""}, {nines, tiny, ""},
	}
	for _, c := range cases {
		want, wantOk := wanted(c[2])
		checkSums(t, decimal(c[0]), decimal(c[1]), want, wantOk)
	}
}

// checkSums adds and subtracts in all the ways that come to the sum of d and e or its opposite.
func checkSums(t *testing.T, d impl.Dec, e impl.Dec, want impl.Dec, wantOk bool) {
	t.Helper()
	got, ok := impl.DecAdd(d, e)
	checkDec(t, got, ok, want, wantOk, "d + e", d, e)
	got, ok = impl.DecAdd(e, d)
	checkDec(t, got, ok, want, wantOk, "e + d", d, e)
	got, ok = impl.DecSub(d, oppositeDec(e))
	checkDec(t, got, ok, want, wantOk, "d - (-e)", d, e)
	got, ok = impl.DecSub(oppositeDec(d), e)
	checkDec(t, got, ok, oppositeDec(want), wantOk, "-d - e", d, e)
}

func TestDecMul(t *testing.T) {
	cases := [][3]string{
		{"0", "0", "0"}, {"0", "5", "0"}, {"0.0", "-5", "0.0"}, {"-5", "0.00", "0.00"}, {"0.00", "0.000", "0.00000"}, {"1.50", "-0.05", "-0.0750"}, {"-0.05", "1.50", "-0.0750"}, {"-1.50", "-0.05", "0.0750"},
		{"6", "7", "42"}, {"6", "-0.7", "-4.2"}, {"0.6", "0.7", "0.42"}, {"1.50", "1", "1.50"}, {"1.50", "-1", "-1.50"}, {"1.50", "1.0", "1.500"}, {"2.5", "0.4", "1.00"}, {"1000000000", "0.000000001", "1.000000000"},
		{"0." + zerosText(14) + "3", "0." + zerosText(14) + "2", "0." + zerosText(29) + "6"}, {"3", "0." + zerosText(29) + "2", "0." + zerosText(29) + "6"}, {"0.1", "0." + zerosText(28) + "7", "0." + zerosText(29) + "7"},
		{"0.1", "0." + zerosText(29) + "7", ""}, {"0." + zerosText(29) + "7", "0.1", ""}, {"0." + zerosText(30), "0.0", ""}, {"0.0", "5." + zerosText(30), ""}, {"0." + zerosText(15), "1." + zerosText(16), ""}, {"0." + zerosText(15), "1." + zerosText(15), "0." + zerosText(30)},
		{"0." + zerosText(30), "0." + zerosText(30), ""}, {"1." + zerosText(30), "7", "7." + zerosText(30)}, {"1." + zerosText(30), "7.0", ""}, {"10.0", "10." + zerosText(29), "100." + zerosText(30)},
		{ninesText(54), "1", ninesText(54)}, {ninesText(54), "-1", "-" + ninesText(54)}, {ninesText(54), "2", ""}, {ninesText(54), "0", "0"}, {ninesText(54), "0." + zerosText(30), "0." + zerosText(30)}, {"5" + zerosText(53), "2", ""}, {"4" + ninesText(53), "2", ninesText(53) + "8"},
		{ninesText(27), ninesText(27), ninesText(26) + "8" + zerosText(26) + "1"}, {"1" + zerosText(27), "1" + zerosText(26), "1" + zerosText(53)}, {"1" + zerosText(27), "-1" + zerosText(27), ""}, {ninesText(54), ninesText(54), ""}, {"1" + zerosText(53), "0.1", "1" + zerosText(52) + ".0"}, {"1" + zerosText(53), "1.0", ""},
		{ninesText(24) + "." + ninesText(30), "1", ninesText(24) + "." + ninesText(30)}, {ninesText(24) + "." + ninesText(30), "-2", ""}, {ninesText(24) + "." + ninesText(30), "1.0", ""}, {ninesText(24) + "." + ninesText(30), ninesText(24) + "." + ninesText(30), ""},
	}
	for _, c := range cases {
		got, ok := impl.DecMul(decimal(c[0]), decimal(c[1]))
		want, wantOk := wanted(c[2])
		checkDec(t, got, ok, want, wantOk, "DecMul", c[0], c[1])
	}
	for _, d := range manyDecs() {
		for _, e := range manyDecs() {
			got, ok := impl.DecMul(d, e)
			want, wantOk := limitedDec(new(big.Rat).Mul(bigDec(d), bigDec(e)), d.Scale+e.Scale)
			checkDec(t, got, ok, want, wantOk, "DecMul", d, e)
		}
	}
}

func TestDecCmp(t *testing.T) {
	most, tiny := ninesText(24)+"."+ninesText(30), "0."+zerosText(29)+"1"
	cases := []struct {
		d    string
		e    string
		want int
	}{
		{"0", "0", 0}, {"0", "0.00", 0}, {"0." + zerosText(30), "0", 0}, {"1.5", "1.50", 0}, {"-1.5", "-1.500", 0}, {"7", "7." + zerosText(30), 0}, {"1" + zerosText(23), "1" + zerosText(23) + "." + zerosText(30), 0},
		{"1.5", "-1.5", 1}, {"1.5", "-1.50", 1}, {"0.01", "-100", 1}, {"-0.01", "100", -1}, {"0", "0.01", -1}, {"0.00", "-1", 1}, {"0", tiny, -1}, {"0", "-" + tiny, 1}, {"0.0", "5", -1},
		{"1.49", "1.5", -1}, {"1.51", "1.5", 1}, {"-1.49", "-1.5", 1}, {"-1.51", "-1.5", -1}, {"2", "1.99", 1}, {"9", "10", -1}, {"9", "1.0", 1}, {"0.9", "10", -1}, {"0.10", "0.2", -1}, {"-0.10", "-0.2", 1}, {"1.000000001", "1", 1},
		{ninesText(54), most, 1}, {"-" + ninesText(54), most, -1}, {"-" + ninesText(54), "-" + most, -1}, {ninesText(54), "-" + most, 1}, {"1" + zerosText(53), most, 1},
		{"1" + zerosText(24), most, 1}, {ninesText(24), most, -1}, {"-1" + zerosText(24), "-" + most, -1}, {ninesText(54), ninesText(53) + "8", 1}, {most, ninesText(24) + "." + ninesText(29) + "8", 1},
	}
	for _, c := range cases {
		d, e := decimal(c.d), decimal(c.e)
		if got, back := impl.DecCmp(d, e), impl.DecCmp(e, d); got != c.want || back != -c.want {
			t.Errorf("DecCmp of %s and %s = %d, of the other order %d, not %d", c.d, c.e, got, back, c.want)
		}
	}
	for _, d := range manyDecs() {
		for _, e := range manyDecs() {
			if got, want := impl.DecCmp(d, e), bigDec(d).Cmp(bigDec(e)); got != want {
				t.Errorf("DecCmp(%v, %v) = %d, not %d", d, e, got, want)
			}
		}
	}
}

// The results are in the order of the modes: down, up, floor, ceil, halfdown, halfup, halfeven.
func TestRatDec(t *testing.T) {
	tiny, tinyZero := "0."+zerosText(29)+"1", "0."+zerosText(30)
	cases := []struct {
		num   int
		den   int
		scale int
		want  [7]string
	}{
		{1, 8, 2, [7]string{"0.12", "0.13", "0.12", "0.13", "0.12", "0.13", "0.12"}}, {-1, 8, 2, [7]string{"-0.12", "-0.13", "-0.13", "-0.12", "-0.12", "-0.13", "-0.12"}},
		{3, 8, 2, [7]string{"0.37", "0.38", "0.37", "0.38", "0.37", "0.38", "0.38"}}, {-3, 8, 2, [7]string{"-0.37", "-0.38", "-0.38", "-0.37", "-0.37", "-0.38", "-0.38"}},
		{1, 8, 3, [7]string{"0.125", "0.125", "0.125", "0.125", "0.125", "0.125", "0.125"}}, {-1, 8, 4, [7]string{"-0.1250", "-0.1250", "-0.1250", "-0.1250", "-0.1250", "-0.1250", "-0.1250"}},
		{1, 3, 2, [7]string{"0.33", "0.34", "0.33", "0.34", "0.33", "0.33", "0.33"}}, {-1, 3, 2, [7]string{"-0.33", "-0.34", "-0.34", "-0.33", "-0.33", "-0.33", "-0.33"}},
		{2, 3, 2, [7]string{"0.66", "0.67", "0.66", "0.67", "0.67", "0.67", "0.67"}}, {-2, 3, 2, [7]string{"-0.66", "-0.67", "-0.67", "-0.66", "-0.67", "-0.67", "-0.67"}},
		{5, 2, 0, [7]string{"2", "3", "2", "3", "2", "3", "2"}}, {-5, 2, 0, [7]string{"-2", "-3", "-3", "-2", "-2", "-3", "-2"}}, {7, 2, 0, [7]string{"3", "4", "3", "4", "3", "4", "4"}}, {-7, 2, 0, [7]string{"-3", "-4", "-4", "-3", "-3", "-4", "-4"}},
		{1, 20, 1, [7]string{"0.0", "0.1", "0.0", "0.1", "0.0", "0.1", "0.0"}}, {-1, 20, 1, [7]string{"0.0", "-0.1", "-0.1", "0.0", "0.0", "-0.1", "0.0"}}, {3, 20, 1, [7]string{"0.1", "0.2", "0.1", "0.2", "0.1", "0.2", "0.2"}},
		{1, 1000, 2, [7]string{"0.00", "0.01", "0.00", "0.01", "0.00", "0.00", "0.00"}}, {-1, 1000, 2, [7]string{"0.00", "-0.01", "-0.01", "0.00", "0.00", "0.00", "0.00"}}, {-1, 3, 0, [7]string{"0", "-1", "-1", "0", "0", "0", "0"}},
		{999, 1000, 2, [7]string{"0.99", "1.00", "0.99", "1.00", "1.00", "1.00", "1.00"}}, {-1999, 2, 0, [7]string{"-999", "-1000", "-1000", "-999", "-999", "-1000", "-1000"}},
		{0, 1, 0, [7]string{"0", "0", "0", "0", "0", "0", "0"}}, {0, 1, 2, [7]string{"0.00", "0.00", "0.00", "0.00", "0.00", "0.00", "0.00"}}, {0, 1, 30, [7]string{tinyZero, tinyZero, tinyZero, tinyZero, tinyZero, tinyZero, tinyZero}},
		{7, 1, 0, [7]string{"7", "7", "7", "7", "7", "7", "7"}}, {-7, 1, 2, [7]string{"-7.00", "-7.00", "-7.00", "-7.00", "-7.00", "-7.00", "-7.00"}}, {120, 1, 1, [7]string{"120.0", "120.0", "120.0", "120.0", "120.0", "120.0", "120.0"}},
		{1, 3, 30, [7]string{"0." + strings.Repeat("3", 30), "0." + strings.Repeat("3", 29) + "4", "0." + strings.Repeat("3", 30), "0." + strings.Repeat("3", 29) + "4", "0." + strings.Repeat("3", 30), "0." + strings.Repeat("3", 30), "0." + strings.Repeat("3", 30)}},
		{1, 2, 30, [7]string{"0.5" + zerosText(29), "0.5" + zerosText(29), "0.5" + zerosText(29), "0.5" + zerosText(29), "0.5" + zerosText(29), "0.5" + zerosText(29), "0.5" + zerosText(29)}},
	}
	for _, c := range cases {
		r, _ := limitedRat(big.NewRat(int64(c.num), int64(c.den)))
		for m, want := range c.want {
			got, ok := impl.RatDec(r, c.scale, m)
			checkDec(t, got, ok, decimal(want), true, "RatDec", c.num, c.den, c.scale, m)
		}
	}
	tie := fraction(plus(1), limbsOf(new(big.Int).Mul(big.NewInt(2), bigTen(30)))...)
	for m, want := range []string{tinyZero, tiny, tinyZero, tiny, tinyZero, tiny, tinyZero} {
		got, ok := impl.RatDec(tie, 30, m)
		checkDec(t, got, ok, decimal(want), true, "RatDec of a tie at MaxScale", m)
	}
}

func TestRatDecLikeBig(t *testing.T) {
	for _, r := range roundRats() {
		for _, scale := range []int{0, 1, 2, 9, 16, 29, 30} {
			for m := range 7 {
				got, ok := impl.RatDec(r, scale, m)
				want, wantOk := roundedDec(bigRat(r), scale, m)
				checkDec(t, got, ok, want, wantOk, "RatDec", r, scale, m)
			}
		}
	}
}

// Only the rounded number has to be valid: r times 10^scale may have more than MaxRat limbs.
func TestRatDecBeyondFractions(t *testing.T) {
	greatest, below := sameLimbs(18, top), append([]int{top - 1}, sameLimbs(17, top)...)
	odd := append([]int{1}, powerOfBase(18)[1:]...)
	for _, r := range []impl.Rat{
		fraction(plus(greatest...), below...), fraction(minus(greatest...), below...), fraction(plus(below...), greatest...), fraction(minus(below...), greatest...),
		fraction(plus(greatest...), powerOfBase(17)...), fraction(minus(greatest...), powerOfBase(16)...), fraction(plus(greatest...), powerOfBase(15)...), fraction(minus(greatest...), powerOfBase(13)...), fraction(plus(greatest...), powerOfBase(12)...),
		fraction(plus(odd...), powerOfBase(18)...), fraction(minus(odd...), 0, 0, 0, 0, 0, 0, 0, 0, 0, 0, 0, 0, 0, 0, 3, 7), fraction(plus(1), greatest...), fraction(minus(1), powerOfBase(18)...),
	} {
		if !impl.RatOk(r) {
			t.Fatalf("%v is no fraction", r)
		}
		for scale := range 31 {
			for m := range 7 {
				got, ok := impl.RatDec(r, scale, m)
				want, wantOk := roundedDec(bigRat(r), scale, m)
				checkDec(t, got, ok, want, wantOk, "RatDec", r, scale, m)
			}
		}
	}
}

// The greatest number, and what is a little greater, at every scale: whether the result is valid depends on the mode alone.
func TestRatDecAtTheLimit(t *testing.T) {
	for scale := range 31 {
		most := new(big.Rat).SetFrac(new(big.Int).Sub(bigTen(54), big.NewInt(1)), bigTen(scale))
		greatest, _ := limitedDec(most, scale)
		cases := []struct {
			num int64
			den int64
			ok  [7]bool
		}{
			{0, 1, [7]bool{true, true, true, true, true, true, true}}, {1, 3, [7]bool{true, false, true, false, true, true, true}}, {1, 2, [7]bool{true, false, true, false, true, false, false}},
			{2, 3, [7]bool{true, false, true, false, false, false, false}}, {1, 1, [7]bool{}}, {4, 3, [7]bool{}},
		}
		for _, c := range cases {
			q := timesTen(most, scale)
			q.Add(q, big.NewRat(c.num, c.den)).Mul(q, new(big.Rat).SetFrac(big.NewInt(1), bigTen(scale)))
			r, _ := limitedRat(q)
			for m, wantOk := range c.ok {
				var want impl.Dec
				if wantOk {
					want = greatest
				}
				got, ok := impl.RatDec(r, scale, m)
				checkDec(t, got, ok, want, wantOk, "RatDec", r, scale, m)
				got, ok = impl.RatDec(oppositeRat(r), scale, mirrored(m))
				checkDec(t, got, ok, oppositeDec(want), wantOk, "RatDec of the opposite", r, scale, m)
			}
		}
	}
}

func TestDecDiv(t *testing.T) {
	zero := "0." + zerosText(30)
	cases := []struct {
		d     string
		e     string
		scale int
		want  [7]string
	}{
		{"1.50", "7", 3, [7]string{"0.214", "0.215", "0.214", "0.215", "0.214", "0.214", "0.214"}}, {"-1.50", "7", 3, [7]string{"-0.214", "-0.215", "-0.215", "-0.214", "-0.214", "-0.214", "-0.214"}},
		{"1.50", "-7", 3, [7]string{"-0.214", "-0.215", "-0.215", "-0.214", "-0.214", "-0.214", "-0.214"}}, {"-1.50", "-7", 3, [7]string{"0.214", "0.215", "0.214", "0.215", "0.214", "0.214", "0.214"}},
		{"1.50", "0.05", 0, [7]string{"30", "30", "30", "30", "30", "30", "30"}}, {"1.50", "-0.05", 2, [7]string{"-30.00", "-30.00", "-30.00", "-30.00", "-30.00", "-30.00", "-30.00"}},
		{"1", "8", 2, [7]string{"0.12", "0.13", "0.12", "0.13", "0.12", "0.13", "0.12"}}, {"1", "8", 3, [7]string{"0.125", "0.125", "0.125", "0.125", "0.125", "0.125", "0.125"}}, {"-0.3", "0.8", 2, [7]string{"-0.37", "-0.38", "-0.38", "-0.37", "-0.37", "-0.38", "-0.38"}},
		{"10", "4", 0, [7]string{"2", "3", "2", "3", "2", "3", "2"}}, {"1.4", "-0.40", 0, [7]string{"-3", "-4", "-4", "-3", "-3", "-4", "-4"}}, {"2", "3", 1, [7]string{"0.6", "0.7", "0.6", "0.7", "0.7", "0.7", "0.7"}},
		{"0", "7", 0, [7]string{"0", "0", "0", "0", "0", "0", "0"}}, {"0.00", "-0.3", 2, [7]string{"0.00", "0.00", "0.00", "0.00", "0.00", "0.00", "0.00"}}, {zero, "1", 30, [7]string{zero, zero, zero, zero, zero, zero, zero}},
		{"1", "3000", 1, [7]string{"0.0", "0.1", "0.0", "0.1", "0.0", "0.0", "0.0"}}, {"-1", "3000", 1, [7]string{"0.0", "-0.1", "-0.1", "0.0", "0.0", "0.0", "0.0"}},
		{"1", "0", 0, [7]string{}}, {"1", "0.00", 2, [7]string{}}, {"-1.5", zero, 30, [7]string{}}, {"0", "0", 0, [7]string{}}, {"0.00", "0.0", 3, [7]string{}}, {zero, zero, 0, [7]string{}},
		{ninesText(54), "1", 0, [7]string{ninesText(54), ninesText(54), ninesText(54), ninesText(54), ninesText(54), ninesText(54), ninesText(54)}}, {ninesText(54), "1", 1, [7]string{}}, {ninesText(54), "0.9", 0, [7]string{}},
		{ninesText(54), "2", 0, [7]string{"4" + ninesText(53), "5" + zerosText(53), "4" + ninesText(53), "5" + zerosText(53), "4" + ninesText(53), "5" + zerosText(53), "5" + zerosText(53)}},
		{ninesText(54), "0." + zerosText(29) + "1", 0, [7]string{}}, {"0." + zerosText(29) + "1", ninesText(54), 30, [7]string{zero, "0." + zerosText(29) + "1", zero, "0." + zerosText(29) + "1", zero, zero, zero}},
	}
	for _, c := range cases {
		for m, text := range c.want {
			got, ok := impl.DecDiv(decimal(c.d), decimal(c.e), c.scale, m)
			want, wantOk := wanted(text)
			checkDec(t, got, ok, want, wantOk, "DecDiv", c.d, c.e, c.scale, m)
		}
	}
}

func TestDecDivLikeBig(t *testing.T) {
	for _, d := range limitDecs() {
		for _, e := range slices.Concat(limitDecs(), fewDecs()) {
			for _, scale := range []int{0, 2, 30} {
				m := (len(d.Num.Mag) + len(e.Num.Mag) + d.Scale + e.Scale + scale) % 7
				var want impl.Dec
				var wantOk bool
				if len(e.Num.Mag) > 0 {
					want, wantOk = roundedDec(new(big.Rat).Quo(bigDec(d), bigDec(e)), scale, m)
				}
				got, ok := impl.DecDiv(d, e, scale, m)
				checkDec(t, got, ok, want, wantOk, "DecDiv", d, e, scale, m)
			}
		}
	}
	for _, d := range fewDecs() {
		for _, e := range fewDecs() {
			checkDecDiv(t, d, e)
		}
	}
}

// checkDecDiv tries every mode and the scales around that of d.
func checkDecDiv(t *testing.T, d impl.Dec, e impl.Dec) {
	t.Helper()
	for scale := max(0, d.Scale-1); scale <= d.Scale+1; scale++ {
		for m := range 7 {
			var want impl.Dec
			var wantOk bool
			if len(e.Num.Mag) > 0 {
				want, wantOk = roundedDec(new(big.Rat).Quo(bigDec(d), bigDec(e)), scale, m)
			}
			got, ok := impl.DecDiv(d, e, scale, m)
			checkDec(t, got, ok, want, wantOk, "DecDiv", d, e, scale, m)
		}
	}
}

// decLaw reckons with results that must exist, so that the laws can be written as formulas.
type decLaw struct {
	t *testing.T
}

func (l decLaw) of(call string, d impl.Dec, e impl.Dec) impl.Dec {
	l.t.Helper()
	got, ok := decReckonings()[call](d, e)
	if !ok {
		l.t.Errorf("%s of %v and %v is not valid", call, d, e)
	}
	return got
}

func (l decLaw) same(got impl.Dec, want impl.Dec, law string, args ...any) {
	l.t.Helper()
	checkDec(l.t, got, impl.DecOk(got), want, true, law, args...)
}

// P7: 0 and 1 are neutral, every number has an opposite, and a subtraction or a division takes back an addition or a multiplication.
func TestDecNeutralAndInverse(t *testing.T) {
	l := decLaw{t}
	zero, one, minusOne := decimal("0"), decimal("1"), decimal("-1")
	for _, d := range manyDecs() {
		nothing := scaled(d.Scale, plus())
		l.same(l.of("DecAdd", d, zero), d, "d + 0", d)
		l.same(l.of("DecAdd", zero, d), d, "0 + d", d)
		l.same(l.of("DecAdd", d, nothing), d, "d + 0 at the same scale", d)
		l.same(l.of("DecSub", d, zero), d, "d - 0", d)
		l.same(l.of("DecSub", zero, d), oppositeDec(d), "0 - d", d)
		l.same(l.of("DecAdd", d, oppositeDec(d)), nothing, "d + (-d)", d)
		l.same(l.of("DecSub", d, d), nothing, "d - d", d)
		l.same(l.of("DecMul", d, one), d, "d * 1", d)
		l.same(l.of("DecMul", one, d), d, "1 * d", d)
		l.same(l.of("DecMul", d, minusOne), oppositeDec(d), "d * -1", d)
		l.same(l.of("DecMul", d, zero), nothing, "d * 0", d)
		l.same(l.of("DecMul", zero, d), nothing, "0 * d", d)
		got, ok := impl.DecDiv(d, one, d.Scale, impl.RmUp)
		checkDec(t, got, ok, d, true, "d / 1", d)
		got, ok = impl.DecDiv(d, zero, d.Scale, impl.RmUp)
		checkDec(t, got, ok, impl.Dec{}, false, "d / 0", d)
	}
	for _, d := range fewDecs() {
		for _, e := range fewDecs() {
			sum, product := l.of("DecAdd", d, e), l.of("DecMul", d, e)
			l.same(impl.DecLow(l.of("DecSub", sum, e)), impl.DecLow(d), "d + e - e", d, e)
			for m := range 7 {
				if impl.IntSign(e.Num) != 0 {
					got, ok := impl.DecDiv(product, e, d.Scale, m)
					checkDec(t, got, ok, d, true, "d * e / e", d, e, m)
				}
			}
		}
	}
}

// P7: sums and products commute, and signs come out of them, also where they are too large.
func TestDecCommutes(t *testing.T) {
	for _, d := range limitDecs() {
		for _, e := range slices.Concat(limitDecs(), fewDecs()) {
			sum, sumOk := impl.DecAdd(d, e)
			checkSums(t, d, e, sum, sumOk)
			diff, diffOk := impl.DecSub(d, e)
			got, ok := impl.DecSub(e, d)
			checkDec(t, oppositeDec(got), ok, diff, diffOk, "-(e - d)", d, e)
			product, productOk := impl.DecMul(d, e)
			got, ok = impl.DecMul(e, d)
			checkDec(t, got, ok, product, productOk, "e * d", d, e)
			got, ok = impl.DecMul(d, oppositeDec(e))
			checkDec(t, oppositeDec(got), ok, product, productOk, "-(d * (-e))", d, e)
		}
	}
}

// P7: sums and products associate, and a product distributes over a sum, with the same scales on both sides.
func TestDecAssociates(t *testing.T) {
	l := decLaw{t}
	for _, d := range fewDecs() {
		for _, e := range fewDecs() {
			sum, diff, product := l.of("DecAdd", d, e), l.of("DecSub", d, e), l.of("DecMul", d, e)
			for _, f := range fewDecs() {
				l.same(l.of("DecAdd", sum, f), l.of("DecAdd", d, l.of("DecAdd", e, f)), "d + e + f", d, e, f)
				l.same(l.of("DecSub", diff, f), l.of("DecSub", d, l.of("DecAdd", e, f)), "d - e - f", d, e, f)
				l.same(l.of("DecMul", product, f), l.of("DecMul", d, l.of("DecMul", e, f)), "d * e * f", d, e, f)
				df, ef := l.of("DecMul", d, f), l.of("DecMul", e, f)
				l.same(l.of("DecMul", sum, f), l.of("DecAdd", df, ef), "(d + e) * f", d, e, f)
				l.same(l.of("DecMul", diff, f), l.of("DecSub", df, ef), "(d - e) * f", d, e, f)
			}
		}
	}
}

// P7: the order is a total one whatever the scales, sums keep it, and products keep or reverse it as the sign of the other number says.
func TestDecOrder(t *testing.T) {
	l := decLaw{t}
	for _, d := range fewDecs() {
		for _, e := range fewDecs() {
			order := impl.DecCmp(d, e)
			if order != -impl.DecCmp(e, d) || (order == 0) != sameDec(impl.DecLow(d), impl.DecLow(e)) || order != impl.IntSign(l.of("DecSub", d, e).Num) || order != impl.DecCmp(oppositeDec(e), oppositeDec(d)) {
				t.Errorf("DecCmp(%v, %v) = %d", d, e, order)
			}
			if rats := impl.RatCmp(impl.DecRat(d), impl.DecRat(e)); order != rats {
				t.Errorf("DecCmp(%v, %v) = %d, but their fractions compare as %d", d, e, order, rats)
			}
			for _, f := range fewDecs() {
				if order <= 0 && impl.DecCmp(e, f) <= 0 && impl.DecCmp(d, f) > 0 {
					t.Errorf("%v, %v, %v are not in order", d, e, f)
				}
				if got := impl.DecCmp(l.of("DecAdd", d, f), l.of("DecAdd", e, f)); got != order {
					t.Errorf("d + f and e + f of %v, %v, %v: %d", d, e, f, got)
				}
				if got := impl.DecCmp(l.of("DecMul", d, f), l.of("DecMul", e, f)); got != order*impl.IntSign(f.Num) {
					t.Errorf("d * f and e * f of %v, %v, %v: %d", d, e, f, got)
				}
			}
		}
	}
}

// P7: the numbers reckon as their fractions do.
func TestDecReckonsAsFractions(t *testing.T) {
	fractions := map[string]func(impl.Rat, impl.Rat) (impl.Rat, bool){"DecAdd": impl.RatAdd, "DecSub": impl.RatSub, "DecMul": impl.RatMul}
	for _, d := range limitDecs() {
		for _, e := range slices.Concat(limitDecs(), fewDecs()) {
			for name, f := range decReckonings() {
				got, ok := f(d, e)
				want, _ := fractions[name](impl.DecRat(d), impl.DecRat(e))
				if ok && !sameRat(impl.DecRat(got), want) {
					t.Errorf("%s of %v and %v = %v, but of their fractions %v", name, d, e, got, want)
				}
			}
		}
	}
}

// An argument that is not valid gives zero values, beside whichever other argument.
func TestDecInvalid(t *testing.T) {
	others := slices.Concat(fewBadDecs(), []impl.Dec{{}, scaled(30, plus()), decimal("1"), decimal("-0.05"), scaled(30, plus(1)), scaled(0, plus(sameLimbs(6, top)...))})
	for _, bad := range slices.Concat(badDecs(), fewBadDecs()) {
		if text := impl.DecText(bad); text != "" {
			t.Errorf("DecText(%v) = %q", bad, text)
		}
		checkRat(t, impl.DecRat(bad), true, impl.Rat{}, true, "DecRat, invalid,")
		checkDec(t, impl.DecLow(bad), true, impl.Dec{}, true, "DecLow", bad)
		for _, scale := range []int{0, 1, 2, 30, -1, 31, math.MinInt, math.MaxInt, bad.Scale} {
			got, ok := impl.DecAt(bad, scale)
			checkDec(t, got, ok, impl.Dec{}, false, "DecAt", bad, scale)
		}
		for _, other := range append(others, bad) {
			checkInvalidPair(t, bad, other)
			checkInvalidPair(t, other, bad)
		}
	}
}

func checkInvalidPair(t *testing.T, d impl.Dec, e impl.Dec) {
	t.Helper()
	if n := impl.DecCmp(d, e); n != 0 {
		t.Errorf("DecCmp(%v, %v) = %d", d, e, n)
	}
	for name, f := range decReckonings() {
		got, ok := f(d, e)
		checkDec(t, got, ok, impl.Dec{}, false, name, d, e)
	}
	for _, scale := range []int{0, 2, 30, 31} {
		got, ok := impl.DecDiv(d, e, scale, impl.RmUp)
		checkDec(t, got, ok, impl.Dec{}, false, "DecDiv", d, e, scale)
	}
}

// A scale that is not valid is one also for 0, and whatever the mode.
func TestDecInvalidScales(t *testing.T) {
	decs := []impl.Dec{{}, scaled(30, plus()), decimal("1"), decimal("-100.00"), decimal("0.05"), scaled(0, plus(sameLimbs(6, top)...)), scaled(30, minus(powerOfBase(6)...))}
	rats := []impl.Rat{fraction(plus(), 1), fraction(plus(1), 1), fraction(minus(1), 3), fraction(plus(sameLimbs(18, top)...), 1), fraction(minus(1), powerOfBase(18)...)}
	for _, scale := range badScales() {
		for _, d := range decs {
			got, ok := impl.DecAt(d, scale)
			checkDec(t, got, ok, impl.Dec{}, false, "DecAt", d, scale)
			for m := range 7 {
				got, ok = impl.DecDiv(d, decimal("7"), scale, m)
				checkDec(t, got, ok, impl.Dec{}, false, "DecDiv", d, 7, scale, m)
			}
		}
		for _, r := range rats {
			for m := -1; m <= 7; m++ {
				got, ok := impl.RatDec(r, scale, m)
				checkDec(t, got, ok, impl.Dec{}, false, "RatDec", r, scale, m)
			}
		}
	}
}

// A mode that is not valid is one also where it would not matter.
func TestDecInvalidModes(t *testing.T) {
	rats := []impl.Rat{fraction(plus(), 1), fraction(plus(3), 1), fraction(minus(3), 1), fraction(plus(1), 2), fraction(minus(5), 2), fraction(plus(1), 3)}
	for _, m := range badModes() {
		for _, scale := range []int{0, 1, 30} {
			for _, r := range rats {
				got, ok := impl.RatDec(r, scale, m)
				checkDec(t, got, ok, impl.Dec{}, false, "RatDec", r, scale, m)
			}
			for _, d := range []string{"0", "6", "-0.3", "10.00"} {
				got, ok := impl.DecDiv(decimal(d), decimal("3"), scale, m)
				checkDec(t, got, ok, impl.Dec{}, false, "DecDiv", d, 3, scale, m)
			}
		}
	}
}

func TestRatDecInvalidFractions(t *testing.T) {
	for _, bad := range badRats() {
		for _, scale := range []int{0, 2, 30, -1, 31} {
			for _, m := range append(fewBadModes(), 0, 1, 2, 3, 4, 5, 6) {
				got, ok := impl.RatDec(bad, scale, m)
				checkDec(t, got, ok, impl.Dec{}, false, "RatDec", bad, scale, m)
			}
		}
	}
}

// roomyDec returns a number with marked capacity behind its magnitude, and the whole memory.
func roomyDec(d impl.Dec) (impl.Dec, []int) {
	num, memory := roomySigned(d.Num)
	return scaled(d.Scale, num), memory
}

// decMemory are numbers of all kinds: some are at their smallest scale already, some are 0.
func decMemory() []impl.Dec {
	return atScales(bothSigns([][]int{nil, {}, {1}, {100}, {7, 5}, powerOfBase(3), sameLimbs(3, top), powerOfBase(6), sameLimbs(6, top)}), 0, 1, 2, 30)
}

// Chapter 1: no function changes an argument or the capacity behind it, and a result shares no memory with an argument.
func TestDecLeavesArguments(t *testing.T) {
	for _, d := range slices.Concat(decMemory(), fewBadDecs()) {
		first, memory := roomyDec(d)
		before := slices.Clone(memory)
		impl.DecOk(first)
		impl.DecText(first)
		overwriteRat(impl.DecRat(first))
		for _, e := range append(decMemory(), d) {
			second, secondMemory := roomyDec(e)
			secondBefore := slices.Clone(secondMemory)
			impl.DecCmp(first, second)
			impl.DecCmp(second, first)
			for name, f := range decPairs() {
				for _, args := range [][]impl.Dec{{first, second}, {second, first}, {first, first}} {
					got, _ := f(args[0], args[1])
					overwrite(got.Num.Mag)
				}
				if !slices.Equal(memory, before) || !slices.Equal(secondMemory, secondBefore) {
					t.Fatalf("%s of %v and %v changed an argument or shares its memory", name, d, e)
				}
			}
		}
	}
}

// A result stays as it is when the arguments are changed afterwards, also where it equals one of them; two calls share no memory either.
func TestDecResultsAreTheirOwn(t *testing.T) {
	for _, d := range decMemory() {
		for _, e := range []impl.Dec{{}, scaled(2, plus()), scaled(0, impl.Signed{Mag: []int{}}), decimal("1"), decimal("-1"), decimal("1.00"), d, oppositeDec(d)} {
			for name, f := range decPairs() {
				first, _ := roomyDec(d)
				second, _ := roomyDec(e)
				got, ok := f(first, second)
				want := cloneDec(got)
				back, backOk := f(second, first)
				wantBack := cloneDec(back)
				again, _ := f(first, second)
				overwrite(again.Num.Mag)
				overwrite(first.Num.Mag)
				overwrite(second.Num.Mag)
				checkDec(t, got, ok, want, ok, name+", whose arguments were overwritten,", d, e)
				checkDec(t, back, backOk, wantBack, backOk, name+", whose arguments were overwritten,", e, d)
			}
		}
	}
}

// The same holds for the functions between numbers and fractions.
func TestDecAndRatShareNothing(t *testing.T) {
	for _, d := range decMemory() {
		arg, memory := roomyDec(d)
		got := impl.DecRat(arg)
		want := cloneRat(got)
		overwrite(memory)
		checkRat(t, got, true, want, true, "DecRat, whose argument was overwritten,")
		overwrite(got.Num.Mag)
		if !slices.Equal(got.Den, want.Den) {
			t.Errorf("DecRat of %v: overwriting the numerator changed the denominator", d)
		}
		again := impl.DecRat(d)
		overwrite(again.Den)
		if !sameSigned(again.Num, want.Num) || !sameRat(impl.DecRat(d), want) {
			t.Errorf("DecRat of %v: overwriting the denominator changed another part or result", d)
		}
	}
	for _, r := range append(roundMemoryRats(), badRats()...) {
		for _, scale := range []int{-1, 0, 1, 2, 9, 29, 30, 31} {
			for m := -1; m <= 7; m++ {
				checkRatDecMemory(t, r, scale, m)
			}
		}
	}
}

func checkRatDecMemory(t *testing.T, r impl.Rat, scale int, m int) {
	t.Helper()
	arg := roomyRat(r)
	got, ok := impl.RatDec(arg.arg, scale, m)
	want := cloneDec(got)
	again, _ := impl.RatDec(arg.arg, scale, m)
	overwrite(again.Num.Mag)
	if arg.changed() {
		t.Fatalf("RatDec of %v at scale %d in mode %d changed its argument or shares its memory", r, scale, m)
	}
	overwriteRat(arg.arg)
	checkDec(t, got, ok, want, ok, "RatDec, whose argument was overwritten,", r, scale, m)
}

// What TextDec reads is new each time.
func TestTextDecResultsAreNew(t *testing.T) {
	for _, d := range decMemory() {
		text := bigDec(d).FloatString(d.Scale)
		first, _ := impl.TextDec(text)
		second, _ := impl.TextDec(text)
		overwrite(second.Num.Mag)
		if !sameDec(first, d) {
			t.Errorf("two results of TextDec(%q) share memory", text)
		}
	}
}
