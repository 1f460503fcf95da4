package tests

import (
	"math"
	"math/big"
	"math/rand/v2"
	"regexp"
	"slices"
	"strconv"
	"strings"
	"testing"

	"loop.example/g00793/impl"
)

func amount(cur string, units impl.Signed) impl.Money {
	return impl.Money{Cur: cur, Units: units}
}

// knownPlaces takes the decimal places from the document's table; it is -1 for an unknown currency.
func knownPlaces(cur string) int {
	for _, row := range curRows() {
		if row.code == cur {
			places, _ := strconv.Atoi(row.places)
			return places
		}
	}
	return -1
}

// limitedMoney is the zero value and false where n is no valid amount, as the results of the chapter are.
func limitedMoney(cur string, n *big.Int) (impl.Money, bool) {
	units := limitedSigned(n)
	if knownPlaces(cur) < 0 || new(big.Int).Abs(n).Cmp(bigTen(36)) >= 0 {
		return impl.Money{}, false
	}
	return amount(cur, units), true
}

// moneyText writes an amount without the functions under test.
func moneyText(m impl.Money) string {
	return m.Cur + " " + bigDec(scaled(knownPlaces(m.Cur), m.Units)).FloatString(knownPlaces(m.Cur))
}

func oppositeMoney(m impl.Money) impl.Money {
	return amount(m.Cur, opposite(m.Units))
}

func sameMoney(m impl.Money, n impl.Money) bool {
	return m.Cur == n.Cur && sameSigned(m.Units, n.Units)
}

func cloneMoney(m impl.Money) impl.Money {
	return amount(m.Cur, cloneSigned(m.Units))
}

func checkMoney(t *testing.T, got impl.Money, ok bool, want impl.Money, wantOk bool, call string, args ...any) {
	t.Helper()
	if !sameMoney(got, want) || ok != wantOk {
		t.Errorf("%s of %v = %v, %v, not %v, %v", call, args, got, ok, want, wantOk)
	}
}

// mostUnits has MaxMoney limbs, and no integer with as many is greater.
func mostUnits() impl.Signed { return plus(sameLimbs(4, top)...) }

// fewUnits are small and at the limit, but few enough for all pairs to be tried in every test.
func fewUnits() []impl.Signed {
	return bothSigns([][]int{nil, {}, {1}, {5}, {100}, {top}, {0, 1}, {7, 5}, powerOfBase(4), sameLimbs(4, top), append([]int{1}, sameLimbs(3, top)...)})
}

// manyUnits adds magnitudes of all lengths, in limbs and in digits.
func manyUnits() []impl.Signed {
	nats := append(aroundMaxInt(), []int{9}, []int{10}, []int{99}, []int{101}, []int{999}, []int{1000}, []int{9999}, []int{10000}, []int{1, 1}, []int{top, top}, powerOfBase(3), sameLimbs(3, top), append(sameLimbs(3, 0), half))
	r := rand.New(rand.NewPCG(9, 12))
	for digits := range 36 {
		nats = append(nats, limbsOf(bigTen(digits)), limbsOf(new(big.Int).Sub(bigTen(digits+1), big.NewInt(1))), randomNat(r, digits/9+1))
	}
	return append(fewUnits(), bothSigns(nats)...)
}

// inCurrencies makes an amount of every integer in each of the currencies.
func inCurrencies(units []impl.Signed, codes string) []impl.Money {
	var all []impl.Money
	for _, cur := range strings.Fields(codes) {
		for _, x := range units {
			all = append(all, amount(cur, x))
		}
	}
	return all
}

// placesCodes are currencies of 0, 2, 3 and 4 decimal places, and a second one of 2.
const placesCodes = "JPY EUR CHF KWD CLF"

func fewMoney() []impl.Money { return inCurrencies(fewUnits(), placesCodes) }

func manyMoney() []impl.Money { return inCurrencies(manyUnits(), placesCodes) }

func unknownCurs() []string {
	return []string{"", " ", "XXX", "XAU", "DEM", "eur", "Eur", "EUr", "EU", "E", "EURO", "EUREUR", "978", "36", "0", " EUR", "EUR ", "EUR\n", "EUR 1", "E\xffR", "\xff\xfe\xfd", "\u0415UR", "\x00", "EUR\x00", strings.Repeat("EUR", 1000)}
}

// badUnits are each way in which an integer is none, and integers of more than MaxMoney limbs.
func badUnits() []impl.Signed {
	longer := bothSigns([][]int{powerOfBase(5), sameLimbs(5, top), sameLimbs(5, 1), sameLimbs(6, top), powerOfBase(6), powerOfBase(18), sameLimbs(19, 3), sameLimbs(50, top)})
	return append(longer, badInts()...)
}

// badMoney are wrong in one thing each, and the last ones in both.
func badMoney() []impl.Money {
	all := inCurrencies(badUnits(), "EUR JPY CLF")
	for _, cur := range unknownCurs() {
		for _, units := range []impl.Signed{plus(), {Mag: []int{}}, plus(1), minus(5), mostUnits(), {Neg: true}, plus(powerOfBase(5)...)} {
			all = append(all, amount(cur, units))
		}
	}
	return all
}

// fewBadMoney are enough beside other arguments.
func fewBadMoney() []impl.Money {
	return []impl.Money{
		{}, amount("", plus(1)), amount("XXX", plus()), amount("XXX", minus(5)), amount("eur", plus(5)), amount("EUR", impl.Signed{Neg: true}), amount("EUR", plus(0)), amount("EUR", minus(1, 0)),
		amount("JPY", plus(-1)), amount("EUR", plus(impl.Base)), amount("EUR", plus(powerOfBase(5)...)), amount("CLF", minus(sameLimbs(5, top)...)), amount("EUR", plus(sameLimbs(51, 1)...)),
	}
}

// factors are what MoneyTimes is tried with in the tests that take every function.
func factors() []int {
	return []int{0, 1, -1, 2, 1000, math.MinInt, math.MaxInt}
}

// moneyPairs lists the functions that make an amount of two; those of one amount ignore the second one.
func moneyPairs() map[string]func(impl.Money, impl.Money) (impl.Money, bool) {
	pairs := map[string]func(impl.Money, impl.Money) (impl.Money, bool){
		"MoneyAdd": impl.MoneyAdd, "MoneySub": impl.MoneySub,
		"MoneyNeg":        func(m impl.Money, _ impl.Money) (impl.Money, bool) { return impl.MoneyNeg(m) },
		"MoneySum of one": func(m impl.Money, _ impl.Money) (impl.Money, bool) { return impl.MoneySum(m.Cur, []impl.Money{m}) },
		"MoneySum of two": func(m impl.Money, n impl.Money) (impl.Money, bool) {
			return impl.MoneySum(m.Cur, []impl.Money{m, n})
		},
	}
	for _, k := range factors() {
		pairs["MoneyTimes "+strconv.Itoa(k)] = func(m impl.Money, _ impl.Money) (impl.Money, bool) { return impl.MoneyTimes(m, k) }
	}
	return pairs
}

func TestMoneyLimit(t *testing.T) {
	if impl.MaxMoney != 4 {
		t.Errorf("MaxMoney = %d", impl.MaxMoney)
	}
}

func TestMoneyOk(t *testing.T) {
	for _, m := range append(inCurrencies(manyUnits(), curOrder), amount("EUR", impl.Signed{}), amount("EUR", impl.Signed{Mag: []int{}}), amount("JPY", minus(powerOfBase(4)...)), amount("KWD", mostUnits())) {
		if !impl.MoneyOk(m) {
			t.Errorf("MoneyOk(%v) = false", m)
		}
	}
	for _, m := range slices.Concat(badMoney(), fewBadMoney()) {
		if impl.MoneyOk(m) {
			t.Errorf("MoneyOk(%v) = true", m)
		}
	}
	for limbs := 1; limbs <= 60; limbs++ {
		for _, units := range bothSigns([][]int{sameLimbs(limbs, 7), sameLimbs(limbs, top), powerOfBase(limbs)}) {
			if got := impl.MoneyOk(amount("SEK", units)); got != (limbs <= 4) {
				t.Errorf("MoneyOk of %d limbs = %v", limbs, got)
			}
		}
	}
}

func TestMoneyOf(t *testing.T) {
	cases := []struct {
		cur  string
		n    int
		want impl.Money
	}{
		{"EUR", 0, amount("EUR", plus())}, {"JPY", 1, amount("JPY", plus(1))}, {"CLF", -1, amount("CLF", minus(1))}, {"USD", 1050, amount("USD", plus(1050))}, {"KWD", -impl.Base, amount("KWD", minus(0, 1))},
		{"CHF", math.MaxInt, amount("CHF", plus(854775807, 223372036, 9))}, {"CHF", math.MinInt, amount("CHF", minus(854775808, 223372036, 9))},
	}
	for _, c := range cases {
		got, ok := impl.MoneyOf(c.cur, c.n)
		checkMoney(t, got, ok, c.want, true, "MoneyOf", c.cur, c.n)
	}
	for _, n := range edgeInts() {
		for _, cur := range strings.Fields(curOrder) {
			got, ok := impl.MoneyOf(cur, n)
			checkMoney(t, got, ok, amount(cur, limitedSigned(big.NewInt(int64(n)))), true, "MoneyOf", cur, n)
		}
	}
	for _, cur := range unknownCurs() {
		for _, n := range []int{0, 1, -1, math.MaxInt, math.MinInt} {
			got, ok := impl.MoneyOf(cur, n)
			checkMoney(t, got, ok, impl.Money{}, false, "MoneyOf", cur, n)
		}
	}
}

func TestMoneyText(t *testing.T) {
	cases := []struct {
		cur   string
		units impl.Signed
		want  string
	}{
		{"EUR", plus(1050), "EUR 10.50"}, {"EUR", minus(1050), "EUR -10.50"}, {"EUR", plus(), "EUR 0.00"}, {"EUR", impl.Signed{Mag: []int{}}, "EUR 0.00"}, {"EUR", plus(1), "EUR 0.01"}, {"EUR", minus(1), "EUR -0.01"}, {"EUR", plus(99), "EUR 0.99"}, {"EUR", minus(100), "EUR -1.00"},
		{"JPY", plus(), "JPY 0"}, {"JPY", plus(1), "JPY 1"}, {"JPY", minus(1), "JPY -1"}, {"JPY", plus(1050), "JPY 1050"}, {"KRW", minus(0, 1), "KRW -1000000000"}, {"ISK", plus(0, 0, 10), "ISK 10000000000000000000"},
		{"KWD", plus(), "KWD 0.000"}, {"KWD", plus(1), "KWD 0.001"}, {"KWD", minus(5), "KWD -0.005"}, {"BHD", plus(1050), "BHD 1.050"}, {"TND", minus(999), "TND -0.999"}, {"TND", plus(1000), "TND 1.000"},
		{"CLF", plus(), "CLF 0.0000"}, {"CLF", plus(1), "CLF 0.0001"}, {"CLF", minus(1), "CLF -0.0001"}, {"CLF", plus(1050), "CLF 0.1050"}, {"CLF", minus(9999), "CLF -0.9999"}, {"CLF", plus(10000), "CLF 1.0000"}, {"CLF", plus(7, 1), "CLF 100000.0007"},
		{"JPY", mostUnits(), "JPY " + ninesText(36)}, {"CHF", opposite(mostUnits()), "CHF -" + ninesText(34) + ".99"}, {"KWD", plus(powerOfBase(4)...), "KWD 1" + zerosText(24) + ".000"}, {"CLF", minus(powerOfBase(4)...), "CLF -1" + zerosText(23) + ".0000"},
	}
	for _, c := range cases {
		if got := impl.MoneyText(amount(c.cur, c.units)); got != c.want {
			t.Errorf("MoneyText of %s, %v = %q, not %q", c.cur, c.units, got, c.want)
		}
		got, ok := impl.TextMoney(c.want)
		checkMoney(t, got, ok, amount(c.cur, c.units), true, "TextMoney", c.want)
	}
	for _, m := range slices.Concat(badMoney(), fewBadMoney()) {
		if got := impl.MoneyText(m); got != "" {
			t.Errorf("MoneyText(%v) = %q", m, got)
		}
	}
}

// P3: an amount is recovered from its MoneyText, in every currency.
func TestMoneyIsRecovered(t *testing.T) {
	for _, m := range inCurrencies(manyUnits(), curOrder) {
		text := impl.MoneyText(m)
		if want := moneyText(m); text != want {
			t.Errorf("MoneyText(%v) = %q, not %q", m, text, want)
		}
		got, ok := impl.TextMoney(text)
		checkMoney(t, got, ok, m, true, "TextMoney(MoneyText)", m)
	}
	for _, cur := range strings.Fields(placesCodes) {
		for n := -20000; n <= 20000; n += 7 {
			m := amount(cur, limitedSigned(big.NewInt(int64(n))))
			got, ok := impl.TextMoney(moneyText(m))
			checkMoney(t, got, ok, m, true, "TextMoney", m)
		}
	}
}

var moneyForm = regexp.MustCompile(`\A([A-Z]{3}) (-?(?:0|[1-9][0-9]*)(?:\.[0-9]+)?)\z`)

// checkTextMoney knows the texts of the amounts from their form, the places of the currency, the size of the amount, and -0.
func checkTextMoney(t *testing.T, s string) {
	t.Helper()
	var want impl.Money
	wantOk := false
	if parts := moneyForm.FindStringSubmatch(s); parts != nil {
		d := decimal(parts[2])
		want, wantOk = limitedMoney(parts[1], bigSigned(d.Num))
		if d.Scale != knownPlaces(parts[1]) || d.Num.Neg != (parts[2][0] == '-') {
			want, wantOk = impl.Money{}, false
		}
	}
	got, ok := impl.TextMoney(s)
	checkMoney(t, got, ok, want, wantOk, "TextMoney", s)
	if ok && (!impl.MoneyOk(got) || impl.MoneyText(got) != s) {
		t.Errorf("TextMoney(%q) = %v, whose MoneyText is %q", s, got, impl.MoneyText(got))
	}
}

func TestTextMoneyRejects(t *testing.T) {
	cases := []string{
		"", " ", "  ", "EUR", "EUR ", " EUR", "1", "1.50", " 1.50", "EUR1.50", "EUR.50", "1.50 EUR", "1.50EUR", "JPY", "JPY7", "7 JPY", "EUR\n1.50", "EUR\t1.50", "EUR\u00a01.50", "EUR,1.50", "EUR_1.50", "EUR-1.50",
		"XXX 1.50", "XXX 0.00", "XXX 0", "XXX 150", "DEM 1.50", "XAU 1", "EU 1.50", "EURO 1.50", "E 1.50", "978 1.50", "JP 7", "JPYJPY 7", "\u20ac 1.50", "$ 1.50", "\u0415UR 1.50",
		"eur 1.50", "Eur 1.50", "EUr 1.50", "eUR 1.50", "jpy 7", "kwd 0.005", "clf 0.0001",
		"EUR  1.50", "EUR   1.50", "JPY  7", "EUR  ", "EUR  -1.50", "EUR - 1.50", "EUR 1 .50", "EUR 1. 50", "EUR 1 000.50", "EUR 1.50 1.50", "EUR EUR 1.50", "JPY 1 000",
		" EUR 1.50", "  EUR 1.50", "EUR 1.50 ", "EUR 1.50  ", " EUR 1.50 ", "JPY 7 ", " JPY 7", "EUR 1.50\n", "\nEUR 1.50", "EUR 1.50\r\n", "\tEUR 1.50", "EUR 1.50\x00", "\x00EUR 1.50", "\ufeffEUR 1.50",
		"EUR 1", "EUR 1.5", "EUR 0", "EUR 0.0", "EUR -1", "EUR 100.5", "KWD 1.50", "KWD 1.5", "KWD 1", "KWD 0.00", "CLF 1.500", "CLF 1.50", "CLF 1", "CLF 0", "CLF 0.000",
		"EUR 1.500", "EUR 1.505", "EUR 0.000", "EUR 1.5000", "EUR 10.5000000000", "JPY 7.0", "JPY 7.00", "JPY 0.0", "JPY 0.7", "KWD 1.5000", "KWD 0.0050", "CLF 1.50000", "CLF 0.00010", "EUR 1.50" + zerosText(28), "EUR 1.50" + zerosText(29),
		"EUR 1.", "EUR 0.", "EUR -1.", "JPY 7.", "JPY 0.", "JPY -7.", "KWD 1.", "CLF 1.", "EUR .", "EUR -.", "EUR .50", "EUR .00", "EUR -.50", "JPY .7", "KWD .005", "EUR 1..50", "EUR 1.50.", "EUR 1.5.0", "EUR 1.50.00", "EUR 1,50", "EUR 1,000.50", "EUR 1'000.50",
		"EUR -0.00", "JPY -0", "KWD -0.000", "CLF -0.0000", "EUR -0", "EUR --0.00", "EUR +0.00", "JPY +0",
		"EUR +1.50", "JPY +7", "KWD +0.005", "EUR +-1.50", "EUR -+1.50", "EUR --1.50", "EUR 1.50-", "EUR 1-.50", "EUR 1.-50", "EUR -", "EUR +", "EUR (1.50)", "-EUR 1.50", "+EUR 1.50", "EUR- 1.50",
		"EUR 01.50", "EUR 00.50", "EUR 00.00", "EUR 001.50", "EUR -01.50", "JPY 07", "JPY 00", "JPY -07", "JPY 0007", "KWD 00.005", "CLF 00.0001", "JPY 0" + ninesText(36), "EUR 0" + ninesText(34) + ".99", "JPY " + zerosText(36), "EUR " + zerosText(36) + ".50",
		"EUR a", "EUR 1.5a", "EUR 1a.50", "EUR 1e3", "EUR 1.50e0", "EUR 0x1.00", "EUR 1_0.00", "EUR 1/2", "EUR 150%", "EUR Inf", "EUR NaN", "JPY 7a", "JPY 0x7", "EUR \u0661.50", "JPY \uff17", "EUR \u22121.50",
		"\xff", "\xff\xfe\xfd 1.50", "E\xffR 1.50", "EUR \xff", "EUR 1\xff50", "EUR 1.5\xff", "EUR 1.50\xff", "\xffEUR 1.50", "EUR\xff1.50", "EUR \xff1.50", "\xc3HF 1.50", "JPY \xb7", "\x80 \x80",
		"JPY 1" + zerosText(36), "JPY -1" + zerosText(36), "JPY " + ninesText(37), "EUR 1" + zerosText(34) + ".00", "EUR -1" + zerosText(34) + ".00", "EUR " + ninesText(35) + ".99", "KWD 1" + zerosText(33) + ".000", "CLF -1" + zerosText(32) + ".0000", "CLF " + ninesText(33) + ".9999",
		"JPY " + ninesText(45), "JPY " + ninesText(54), "JPY " + ninesText(55), "JPY " + ninesText(450), "JPY " + ninesText(451), "EUR " + ninesText(52) + ".99", "EUR -" + ninesText(53) + ".99", "JPY 1" + zerosText(1<<16), "EUR 0." + zerosText(1<<16), "EUR " + strings.Repeat("7", 1<<16) + ".50",
		strings.Repeat(" ", 1<<16), strings.Repeat("EUR ", 1<<14), strings.Repeat("EUR", 1<<14) + " 1.50", "EUR" + strings.Repeat(" ", 1<<16) + "1.50", strings.Repeat("EUR 1.50 ", 1<<12), strings.Repeat("\xff", 1<<16),
	}
	for _, s := range cases {
		got, ok := impl.TextMoney(s)
		checkMoney(t, got, ok, impl.Money{}, false, "TextMoney", s)
		checkTextMoney(t, s)
	}
}

// Texts of every length around the limit of 36 digits, in currencies of every number of places, with too few and too many of them.
func TestTextMoneyAtTheLimit(t *testing.T) {
	for _, cur := range []string{"JPY", "EUR", "KWD", "CLF", "XXX"} {
		for size := 1; size <= 42; size++ {
			for _, digits := range []string{ninesText(size), "1" + zerosText(size-1), zerosText(size), "0" + ninesText(size-1)} {
				for places := range 7 {
					s := digits + "." + zerosText(places)
					if places == 0 {
						s = digits
					}
					checkTextMoney(t, cur+" "+s)
					checkTextMoney(t, cur+" -"+s)
				}
			}
		}
	}
}

// P3: TextMoney accepts no string but the MoneyText of an amount.
func TestTextMoneyAcceptsOnlyMoneyText(t *testing.T) {
	for _, s := range slices.Concat(texts("-.015", 5), texts("-. +02a\n\xff", 3)) {
		for _, before := range []string{"", "JPY ", "EUR ", "EUR 0.", "EUR -12", "KWD 0", "KWD 7.0", "CLF 0.0", "CLF -1.", "XXX ", "eur ", "EUR"} {
			checkTextMoney(t, before+s)
		}
	}
	for _, code := range texts("EURJPYeur 0\xff", 3) {
		checkTextMoney(t, code+" 1.50")
		checkTextMoney(t, code+" 7")
	}
}

// Every byte at every place of a text, ahead of it, behind it and instead of it, and the text without it.
func TestTextMoneyEveryByte(t *testing.T) {
	for _, base := range []string{"EUR 10.50", "EUR -0.05", "JPY 7", "JPY -120", "KWD 0.005", "CLF -1.0000", "AUD 0.00", "JPY 0"} {
		for _, s := range neighbours(base) {
			checkTextMoney(t, s)
		}
	}
}

func TestMoneyAddAndSub(t *testing.T) {
	cases := []struct {
		m    impl.Signed
		n    impl.Signed
		sum  impl.Signed
		diff impl.Signed
	}{
		{plus(), plus(), plus(), plus()}, {plus(5), plus(), plus(5), plus(5)}, {plus(), plus(5), plus(5), minus(5)}, {plus(), minus(5), minus(5), plus(5)}, {impl.Signed{Mag: []int{}}, plus(5), plus(5), minus(5)},
		{plus(1235), plus(65), plus(1300), plus(1170)}, {plus(1235), plus(2000), plus(3235), minus(765)}, {minus(1235), plus(65), minus(1170), minus(1300)}, {minus(5), minus(7), minus(12), plus(2)}, {plus(7), plus(7), plus(14), plus()}, {plus(7), minus(7), plus(), plus(14)},
		{plus(top), plus(1), plus(0, 1), plus(top - 1)}, {plus(0, 1), plus(1), plus(1, 1), plus(top)}, {plus(0, 0, 0, 1), minus(1), plus(top, top, top), plus(1, 0, 0, 1)},
	}
	for _, c := range cases {
		for _, cur := range strings.Fields(placesCodes) {
			got, ok := impl.MoneyAdd(amount(cur, c.m), amount(cur, c.n))
			checkMoney(t, got, ok, amount(cur, c.sum), true, "MoneyAdd", cur, c.m, c.n)
			got, ok = impl.MoneySub(amount(cur, c.m), amount(cur, c.n))
			checkMoney(t, got, ok, amount(cur, c.diff), true, "MoneySub", cur, c.m, c.n)
		}
	}
	for _, x := range manyUnits() {
		for _, y := range manyUnits() {
			m, n := amount("EUR", x), amount("EUR", y)
			got, ok := impl.MoneyAdd(m, n)
			want, wantOk := limitedMoney("EUR", new(big.Int).Add(bigSigned(x), bigSigned(y)))
			checkMoney(t, got, ok, want, wantOk, "MoneyAdd", m, n)
			got, ok = impl.MoneySub(m, n)
			want, wantOk = limitedMoney("EUR", new(big.Int).Sub(bigSigned(x), bigSigned(y)))
			checkMoney(t, got, ok, want, wantOk, "MoneySub", m, n)
		}
	}
}

// Sums and differences with exactly MaxMoney limbs, and with one more.
func TestMoneyAddAndSubAtTheLimit(t *testing.T) {
	most, below := mostUnits(), plus(append([]int{top - 1}, sameLimbs(3, top)...)...)
	cases := []struct {
		m    impl.Signed
		n    impl.Signed
		want impl.Signed
		ok   bool
	}{
		{most, plus(), most, true}, {most, plus(1), plus(), false}, {below, plus(1), most, true}, {below, plus(2), plus(), false}, {most, minus(1), below, true}, {most, opposite(most), plus(), true}, {most, most, plus(), false},
		{plus(0, 0, 0, half), plus(append(sameLimbs(3, top), half-1)...), most, true}, {plus(0, 0, 0, half), plus(0, 0, 0, half), plus(), false}, {plus(0, 0, 0, 1), minus(1), plus(top, top, top), true},
	}
	for _, c := range cases {
		m, n, want := amount("KWD", c.m), amount("KWD", c.n), impl.Money{}
		if c.ok {
			want = amount("KWD", c.want)
		}
		got, ok := impl.MoneyAdd(m, n)
		checkMoney(t, got, ok, want, c.ok, "m + n", m, n)
		got, ok = impl.MoneyAdd(n, m)
		checkMoney(t, got, ok, want, c.ok, "n + m", m, n)
		got, ok = impl.MoneySub(m, oppositeMoney(n))
		checkMoney(t, got, ok, want, c.ok, "m - (-n)", m, n)
		got, ok = impl.MoneySub(oppositeMoney(m), n)
		checkMoney(t, got, ok, oppositeMoney(want), c.ok, "-m - n", m, n)
	}
}

// MoneySub takes back what MoneyAdd has added, and the other way round, wherever there is a sum or a difference.
func TestMoneyAddIsUndone(t *testing.T) {
	for _, x := range manyUnits() {
		for _, y := range manyUnits() {
			m, n := amount("CLF", x), amount("CLF", y)
			if sum, ok := impl.MoneyAdd(m, n); ok {
				got, gotOk := impl.MoneySub(sum, n)
				checkMoney(t, got, gotOk, m, true, "m + n - n", m, n)
			}
			if diff, ok := impl.MoneySub(m, n); ok {
				got, gotOk := impl.MoneyAdd(diff, n)
				checkMoney(t, got, gotOk, m, true, "m - n + n", m, n)
			}
		}
	}
}

func TestMoneyNeg(t *testing.T) {
	for _, m := range manyMoney() {
		got, ok := impl.MoneyNeg(m)
		checkMoney(t, got, ok, oppositeMoney(m), true, "MoneyNeg", m)
		got, ok = impl.MoneyNeg(got)
		checkMoney(t, got, ok, m, true, "MoneyNeg of MoneyNeg", m)
		got, ok = impl.MoneyAdd(m, oppositeMoney(m))
		checkMoney(t, got, ok, amount(m.Cur, plus()), true, "m + (-m)", m)
	}
}

func TestMoneyTimes(t *testing.T) {
	most := mostUnits()
	cases := []struct {
		m    impl.Signed
		k    int
		want impl.Signed
		ok   bool
	}{
		{plus(1235), 3, plus(3705), true}, {plus(1235), -3, minus(3705), true}, {minus(1235), -3, plus(3705), true}, {minus(1235), 0, plus(), true}, {plus(), 7, plus(), true}, {plus(), -7, plus(), true}, {impl.Signed{Mag: []int{}}, math.MinInt, plus(), true},
		{most, 1, most, true}, {most, -1, opposite(most), true}, {opposite(most), -1, most, true}, {most, 0, plus(), true}, {most, 2, plus(), false}, {most, -2, plus(), false}, {most, math.MaxInt, plus(), false}, {most, math.MinInt, plus(), false},
		{plus(1), math.MaxInt, plus(854775807, 223372036, 9), true}, {plus(1), math.MinInt, minus(854775808, 223372036, 9), true}, {minus(1), math.MinInt, plus(854775808, 223372036, 9), true}, {minus(1), math.MaxInt, minus(854775807, 223372036, 9), true},
		{plus(0, 0, 0, 1), top, plus(0, 0, 0, top), true}, {plus(0, 0, 0, 1), impl.Base, plus(), false}, {plus(0, 0, 0, half), 2, plus(), false}, {plus(0, 0, 0, half-1), 2, plus(0, 0, 0, impl.Base-2), true},
	}
	for _, c := range cases {
		want := impl.Money{}
		if c.ok {
			want = amount("TND", c.want)
		}
		got, ok := impl.MoneyTimes(amount("TND", c.m), c.k)
		checkMoney(t, got, ok, want, c.ok, "MoneyTimes", c.m, c.k)
	}
	for _, x := range manyUnits() {
		for _, k := range append(factors(), edgeInts()...) {
			got, ok := impl.MoneyTimes(amount("JPY", x), k)
			want, wantOk := limitedMoney("JPY", new(big.Int).Mul(bigSigned(x), big.NewInt(int64(k))))
			checkMoney(t, got, ok, want, wantOk, "MoneyTimes", x, k)
		}
	}
}

func TestMoneyCmp(t *testing.T) {
	cases := []struct {
		m    impl.Signed
		n    impl.Signed
		want int
	}{
		{plus(), plus(), 0}, {plus(), impl.Signed{Mag: []int{}}, 0}, {plus(5), plus(5), 0}, {minus(5), minus(5), 0}, {mostUnits(), mostUnits(), 0}, {plus(5), plus(7), -1}, {minus(5), minus(7), 1}, {minus(5), plus(), -1}, {plus(5), plus(), 1}, {minus(5), plus(5), -1}, {minus(7), plus(5), -1}, {plus(5), minus(7), 1},
		{plus(0, 1), plus(top), 1}, {minus(0, 1), minus(top), -1}, {plus(1, 2), plus(2, 1), 1}, {mostUnits(), plus(0, 0, 0, top), 1}, {opposite(mostUnits()), minus(1), -1},
	}
	for _, c := range cases {
		for _, cur := range strings.Fields(placesCodes) {
			m, n := amount(cur, c.m), amount(cur, c.n)
			got, ok := impl.MoneyCmp(m, n)
			back, backOk := impl.MoneyCmp(n, m)
			if got != c.want || !ok || back != -c.want || !backOk {
				t.Errorf("MoneyCmp of %v and %v = %d, %v, of the other order %d, %v, not %d", m, n, got, ok, back, backOk, c.want)
			}
		}
	}
	for _, x := range manyUnits() {
		for _, y := range manyUnits() {
			got, ok := impl.MoneyCmp(amount("NOK", x), amount("NOK", y))
			want := bigSigned(x).Cmp(bigSigned(y))
			if got != want || !ok {
				t.Errorf("MoneyCmp of %v and %v = %d, %v, not %d", x, y, got, ok, want)
			}
			if same := impl.MoneySame(amount("NOK", x), amount("NOK", y)); same != (want == 0) {
				t.Errorf("MoneySame of %v and %v = %v", x, y, same)
			}
		}
	}
}

func TestMoneySame(t *testing.T) {
	for _, m := range manyMoney() {
		if !impl.MoneySame(m, m) || !impl.MoneySame(m, cloneMoney(m)) || !impl.MoneySame(cloneMoney(m), m) {
			t.Errorf("%v is not the same as itself", m)
		}
		others := []impl.Money{}
		for _, cur := range append(unknownCurs(), strings.Fields(curOrder)...) {
			if cur != m.Cur {
				others = append(others, amount(cur, cloneSigned(m.Units)))
			}
		}
		if len(m.Units.Mag) > 0 {
			others = append(others, oppositeMoney(m), amount(m.Cur, plus()))
		}
		for place := range m.Units.Mag {
			other := cloneMoney(m)
			other.Units.Mag[place] = max(1, (other.Units.Mag[place]+1)%impl.Base)
			if !sameMoney(other, m) {
				others = append(others, other)
			}
		}
		for _, other := range others {
			if impl.MoneySame(m, other) || impl.MoneySame(other, m) {
				t.Errorf("%v and %v are the same", m, other)
			}
		}
	}
	zero, empty := amount("EUR", impl.Signed{}), amount("EUR", impl.Signed{Mag: []int{}})
	if !impl.MoneySame(zero, empty) || !impl.MoneySame(empty, zero) {
		t.Error("a nil 0 and an empty 0 are not the same")
	}
}

func TestMoneyRat(t *testing.T) {
	checkRat(t, impl.MoneyRat(amount("CHF", plus(1235))), true, fraction(plus(1235), 1), true, "MoneyRat of 12.35")
	checkRat(t, impl.MoneyRat(amount("CLF", minus(5))), true, fraction(minus(5), 1), true, "MoneyRat of -0.0005")
	checkRat(t, impl.MoneyRat(amount("KWD", plus())), true, fraction(plus(), 1), true, "MoneyRat of 0")
	checkRat(t, impl.MoneyRat(amount("JPY", mostUnits())), true, fraction(mostUnits(), 1), true, "MoneyRat of the greatest amount")
	for _, m := range manyMoney() {
		got := impl.MoneyRat(m)
		checkRat(t, got, impl.RatOk(got), fraction(m.Units, 1), true, "MoneyRat, "+moneyText(m)+",")
	}
	for _, m := range slices.Concat(badMoney(), fewBadMoney()) {
		checkRat(t, impl.MoneyRat(m), true, impl.Rat{}, true, "MoneyRat of an invalid amount")
	}
}

func checkRatMoney(t *testing.T, cur string, r impl.Rat, mode int, want impl.Money, wantRest impl.Rat, wantOk bool) {
	t.Helper()
	got, rest, ok := impl.RatMoney(cur, r, mode)
	checkMoney(t, got, ok, want, wantOk, "RatMoney", cur, r, mode)
	checkRat(t, rest, ok, wantRest, wantOk, "the remainder of RatMoney, "+cur+", mode "+strconv.Itoa(mode)+",", r)
}

// The units are in the order of the modes: down, up, floor, ceil, halfdown, halfup, halfeven.
func TestRatMoney(t *testing.T) {
	cases := []struct {
		num  int64
		den  int64
		want [7]int64
	}{
		{0, 1, [7]int64{}}, {7, 1, [7]int64{7, 7, 7, 7, 7, 7, 7}}, {-120, 1, [7]int64{-120, -120, -120, -120, -120, -120, -120}},
		{5, 2, [7]int64{2, 3, 2, 3, 2, 3, 2}}, {-5, 2, [7]int64{-2, -3, -3, -2, -2, -3, -2}}, {7, 2, [7]int64{3, 4, 3, 4, 3, 4, 4}}, {-7, 2, [7]int64{-3, -4, -4, -3, -3, -4, -4}},
		{1, 2, [7]int64{0, 1, 0, 1, 0, 1, 0}}, {-1, 2, [7]int64{0, -1, -1, 0, 0, -1, 0}}, {1, 3, [7]int64{0, 1, 0, 1, 0, 0, 0}}, {-1, 3, [7]int64{0, -1, -1, 0, 0, 0, 0}}, {2, 3, [7]int64{0, 1, 0, 1, 1, 1, 1}}, {-2, 3, [7]int64{0, -1, -1, 0, -1, -1, -1}},
		{100, 7, [7]int64{14, 15, 14, 15, 14, 14, 14}}, {-3999, 4, [7]int64{-999, -1000, -1000, -999, -1000, -1000, -1000}},
	}
	for _, c := range cases {
		q := big.NewRat(c.num, c.den)
		r, _ := limitedRat(q)
		for mode, units := range c.want {
			rest, _ := limitedRat(new(big.Rat).Sub(q, big.NewRat(units, 1)))
			for _, cur := range strings.Fields(placesCodes) {
				checkRatMoney(t, cur, r, mode, amount(cur, limitedSigned(big.NewInt(units))), rest, true)
			}
		}
	}
}

// The amount and the remainder are those of RatRest, and together they are the fraction.
func TestRatMoneyLikeBig(t *testing.T) {
	for _, r := range roundRats() {
		for mode := range 7 {
			units := roundedBig(bigRat(r), mode)
			want, wantOk := limitedMoney("EUR", units)
			wantRest := impl.Rat{}
			if wantOk {
				wantRest, _ = limitedRat(new(big.Rat).Sub(bigRat(r), new(big.Rat).SetInt(units)))
			}
			checkRatMoney(t, "EUR", r, mode, want, wantRest, wantOk)
			if x, rest, ok := impl.RatRest(r, mode); wantOk && !(ok && sameSigned(x, want.Units) && sameRat(rest, wantRest)) {
				t.Errorf("RatRest of %v in mode %d = %v, %v, %v", r, mode, x, rest, ok)
			}
		}
	}
}

// The greatest amount, and what is a little greater: whether the rounded value is valid depends on the mode alone.
func TestRatMoneyAtTheLimit(t *testing.T) {
	cases := []struct {
		num int64
		den int64
		ok  [7]bool
	}{
		{0, 1, [7]bool{true, true, true, true, true, true, true}}, {1, 3, [7]bool{true, false, true, false, true, true, true}}, {1, 2, [7]bool{true, false, true, false, true, false, false}},
		{2, 3, [7]bool{true, false, true, false, false, false, false}}, {1, 1, [7]bool{}}, {4, 3, [7]bool{}}, {1000000000, 1, [7]bool{}}, {math.MaxInt64, 2, [7]bool{}},
	}
	for _, c := range cases {
		q := new(big.Rat).Add(new(big.Rat).SetInt(bigSigned(mostUnits())), big.NewRat(c.num, c.den))
		r, _ := limitedRat(q)
		for mode, wantOk := range c.ok {
			want, wantRest, back := impl.Money{}, impl.Rat{}, impl.Rat{}
			if wantOk {
				want = amount("CLF", mostUnits())
				wantRest, _ = limitedRat(big.NewRat(c.num, c.den))
				back = oppositeRat(wantRest)
			}
			checkRatMoney(t, "CLF", r, mode, want, wantRest, wantOk)
			checkRatMoney(t, "CLF", oppositeRat(r), mirrored(mode), oppositeMoney(want), back, wantOk)
		}
	}
	for _, r := range []impl.Rat{fraction(plus(sameLimbs(18, top)...), 1), fraction(minus(powerOfBase(5)...), 1), fraction(plus(sameLimbs(18, top)...), 7), fraction(minus(powerOfBase(18)...), 3)} {
		for mode := range 7 {
			checkRatMoney(t, "JPY", r, mode, impl.Money{}, impl.Rat{}, false)
		}
	}
}

func TestRatMoneyInvalid(t *testing.T) {
	rats := []impl.Rat{fraction(plus(), 1), fraction(plus(3), 1), fraction(minus(3), 1), fraction(plus(1), 2), fraction(minus(5), 2), fraction(plus(100), 7), fraction(mostUnits(), 1)}
	for _, bad := range badModes() {
		for _, r := range rats {
			checkRatMoney(t, "EUR", r, bad, impl.Money{}, impl.Rat{}, false)
		}
	}
	for mode := range 7 {
		for _, cur := range unknownCurs() {
			for _, r := range rats {
				checkRatMoney(t, cur, r, mode, impl.Money{}, impl.Rat{}, false)
			}
		}
		for _, r := range badRats() {
			checkRatMoney(t, "EUR", r, mode, impl.Money{}, impl.Rat{}, false)
		}
	}
	for _, r := range badRats() {
		for _, mode := range fewBadModes() {
			checkRatMoney(t, "XXX", r, mode, impl.Money{}, impl.Rat{}, false)
		}
	}
}

func inCurrency(cur string, units ...impl.Signed) []impl.Money { return inCurrencies(units, cur) }

// checkSum also tries the list from behind, because the sum does not depend on the order.
func checkSum(t *testing.T, cur string, l []impl.Money, want impl.Money, wantOk bool) {
	t.Helper()
	got, ok := impl.MoneySum(cur, l)
	checkMoney(t, got, ok, want, wantOk, "MoneySum", cur, l)
	behind := slices.Clone(l)
	slices.Reverse(behind)
	got, ok = impl.MoneySum(cur, behind)
	checkMoney(t, got, ok, want, wantOk, "MoneySum, from behind,", cur, l)
}

func TestMoneySum(t *testing.T) {
	cases := []struct {
		units []impl.Signed
		want  impl.Signed
	}{
		{nil, plus()}, {[]impl.Signed{}, plus()}, {[]impl.Signed{plus()}, plus()}, {[]impl.Signed{plus(5)}, plus(5)}, {[]impl.Signed{minus(5)}, minus(5)}, {[]impl.Signed{mostUnits()}, mostUnits()}, {[]impl.Signed{opposite(mostUnits())}, opposite(mostUnits())},
		{[]impl.Signed{plus(1235), minus(1235)}, plus()}, {[]impl.Signed{plus(1), plus(2), plus(3)}, plus(6)}, {[]impl.Signed{plus(1), minus(20), plus(3)}, minus(16)}, {[]impl.Signed{plus(top), plus(), plus(top), impl.Signed{Mag: []int{}}, plus(2)}, plus(0, 2)},
		{[]impl.Signed{minus(0, 1), plus(1), plus(0, 0, 1)}, plus(1, top)}, {slices.Repeat([]impl.Signed{plus(7)}, 1000), plus(7000)}, {slices.Repeat([]impl.Signed{minus(0, 0, 0, 1)}, 1000), minus(0, 0, 0, 1000)}, {slices.Repeat([]impl.Signed{plus(5), minus(5)}, 500), plus()},
	}
	for _, c := range cases {
		for _, cur := range strings.Fields(curOrder) {
			checkSum(t, cur, inCurrency(cur, c.units...), amount(cur, c.want), true)
		}
	}
	r := rand.New(rand.NewPCG(9, 13))
	all := manyUnits()
	for range 2000 {
		var units []impl.Signed
		sum := new(big.Int)
		for range r.IntN(12) {
			x := all[r.IntN(len(all))]
			units = append(units, x)
			sum.Add(sum, bigSigned(x))
		}
		want, wantOk := limitedMoney("GBP", sum)
		checkSum(t, "GBP", inCurrency("GBP", units...), want, wantOk)
	}
}

// Only the whole sum has to be valid; partial ones may be larger than an amount, in either direction, from the front and from behind.
func TestMoneySumPartial(t *testing.T) {
	most, least := mostUnits(), opposite(mostUnits())
	many := func(x impl.Signed, n int) []impl.Signed { return slices.Repeat([]impl.Signed{x}, n) }
	cases := []struct {
		units []impl.Signed
		want  impl.Signed
		ok    bool
	}{
		{[]impl.Signed{most, plus(1), minus(1)}, most, true}, {[]impl.Signed{least, minus(1), plus(1)}, least, true}, {[]impl.Signed{most, plus(1), minus(2)}, plus(append([]int{top - 1}, sameLimbs(3, top)...)...), true},
		{[]impl.Signed{most, most, least}, most, true}, {[]impl.Signed{most, most, least, least}, plus(), true}, {[]impl.Signed{least, least, most, most, minus(5)}, minus(5), true}, {[]impl.Signed{most, plus(5), least}, plus(5), true},
		{slices.Concat(many(most, 500), many(least, 500)), plus(), true}, {slices.Concat(many(least, 500), many(most, 499), []impl.Signed{plus(7)}), minus(append([]int{top - 7}, sameLimbs(3, top)...)...), true},
		{slices.Concat(many(most, 2000), []impl.Signed{minus(7)}, many(least, 1999)), plus(append([]int{top - 7}, sameLimbs(3, top)...)...), true},
		{[]impl.Signed{most, plus(1)}, plus(), false}, {[]impl.Signed{least, minus(1)}, plus(), false}, {[]impl.Signed{plus(1), most, plus(), minus(1), plus(1)}, plus(), false}, {[]impl.Signed{most, most}, plus(), false}, {many(least, 2000), plus(), false}, {many(plus(0, 0, 0, half), 2), plus(), false},
		{slices.Concat(many(most, 501), many(least, 499)), plus(), false},
	}
	for _, c := range cases {
		want := impl.Money{}
		if c.ok {
			want = amount("KWD", c.want)
		}
		checkSum(t, "KWD", inCurrency("KWD", c.units...), want, c.ok)
	}
}

// One element that does not belong into the sum is enough, wherever it stands and whatever its units are.
func TestMoneySumRejects(t *testing.T) {
	strangers := slices.Concat(fewBadMoney(), badMoney(), inCurrency("USD", fewUnits()...), inCurrency("JPY", fewUnits()...))
	for _, stranger := range strangers {
		for _, others := range [][]impl.Signed{nil, {plus()}, {plus(5)}, {plus(5), minus(7)}, {mostUnits(), opposite(mostUnits()), plus(), plus(3)}} {
			good := inCurrency("EUR", others...)
			for place := 0; place <= len(good); place++ {
				checkSum(t, "EUR", slices.Insert(slices.Clone(good), place, stranger), impl.Money{}, false)
			}
		}
	}
	for _, units := range fewUnits() {
		checkSum(t, "EUR", inCurrency("USD", units, units, units), impl.Money{}, false)
	}
	for _, cur := range unknownCurs() {
		checkSum(t, cur, nil, impl.Money{}, false)
		checkSum(t, cur, []impl.Money{}, impl.Money{}, false)
		for _, units := range []impl.Signed{plus(), plus(1), minus(5), {Neg: true}} {
			checkSum(t, cur, inCurrency("EUR", units), impl.Money{}, false)
			checkSum(t, cur, []impl.Money{amount(cur, units)}, impl.Money{}, false)
			checkSum(t, cur, []impl.Money{amount(cur, units), amount(cur, units)}, impl.Money{}, false)
		}
	}
}

func checkNoPair(t *testing.T, m impl.Money, n impl.Money) {
	t.Helper()
	for _, name := range []string{"MoneyAdd", "MoneySub", "MoneySum of two"} {
		got, ok := moneyPairs()[name](m, n)
		checkMoney(t, got, ok, impl.Money{}, false, name, m, n)
	}
	if order, ok := impl.MoneyCmp(m, n); order != 0 || ok {
		t.Errorf("MoneyCmp(%v, %v) = %d, %v", m, n, order, ok)
	}
	if impl.MoneySame(m, n) {
		t.Errorf("MoneySame(%v, %v) = true", m, n)
	}
}

// An argument that is not valid gives zero values, as either of two, beside whichever other one, also beside itself.
func TestMoneyInvalid(t *testing.T) {
	others := slices.Concat(fewBadMoney(), inCurrencies([]impl.Signed{plus(), plus(1), minus(5), mostUnits()}, "EUR JPY CLF"))
	for _, bad := range slices.Concat(badMoney(), fewBadMoney()) {
		for name, f := range moneyPairs() {
			got, ok := f(bad, bad)
			checkMoney(t, got, ok, impl.Money{}, false, name, bad)
		}
		for _, other := range append(others, cloneMoney(bad)) {
			checkNoPair(t, bad, other)
			checkNoPair(t, other, bad)
		}
	}
}

// Two currencies have no sum, no difference and no order, whatever the units, also where one amount is 0.
func TestMoneyOfTwoCurrencies(t *testing.T) {
	codes := strings.Fields(curOrder)
	for _, first := range codes {
		for _, second := range codes {
			if first == second {
				continue
			}
			for _, units := range [][2]impl.Signed{{plus(), plus()}, {plus(5), plus(5)}, {plus(), minus(7)}, {mostUnits(), opposite(mostUnits())}} {
				checkNoPair(t, amount(first, units[0]), amount(second, units[1]))
			}
		}
	}
}

// roomyMoney returns an amount with marked capacity behind its magnitude, and the whole memory.
func roomyMoney(m impl.Money) (impl.Money, []int) {
	units, memory := roomySigned(m.Units)
	return amount(m.Cur, units), memory
}

// Chapter 1: no function changes an argument or the capacity behind it, and a result shares no memory with an argument.
func TestMoneyLeavesArguments(t *testing.T) {
	for _, m := range slices.Concat(fewMoney(), fewBadMoney()) {
		first, memory := roomyMoney(m)
		before := slices.Clone(memory)
		impl.MoneyOk(first)
		impl.MoneyText(first)
		overwriteRat(impl.MoneyRat(first))
		for _, n := range append(inCurrency(m.Cur, fewUnits()...), m, amount("XXX", plus(5))) {
			second, secondMemory := roomyMoney(n)
			secondBefore := slices.Clone(secondMemory)
			impl.MoneyCmp(first, second)
			impl.MoneySame(second, first)
			for name, f := range moneyPairs() {
				for _, args := range [][]impl.Money{{first, second}, {second, first}, {first, first}} {
					got, _ := f(args[0], args[1])
					overwrite(got.Units.Mag)
				}
				if !slices.Equal(memory, before) || !slices.Equal(secondMemory, secondBefore) {
					t.Fatalf("%s of %v and %v changed an argument or shares its memory", name, m, n)
				}
			}
		}
	}
}

// A result stays as it is when the arguments and another result are changed afterwards, also where it equals one of the arguments.
func TestMoneyResultsAreTheirOwn(t *testing.T) {
	for _, m := range fewMoney() {
		for _, n := range append(inCurrency(m.Cur, plus(), impl.Signed{Mag: []int{}}, plus(1), minus(1)), m, oppositeMoney(m)) {
			for name, f := range moneyPairs() {
				first, _ := roomyMoney(m)
				second, _ := roomyMoney(n)
				got, ok := f(first, second)
				want := cloneMoney(got)
				again, _ := f(first, second)
				overwrite(again.Units.Mag)
				overwrite(first.Units.Mag)
				overwrite(second.Units.Mag)
				checkMoney(t, got, ok, want, ok, name+", whose arguments were overwritten,", m, n)
				got, ok = f(m, n)
				checkMoney(t, got, ok, want, ok, name+", called again,", m, n)
			}
		}
	}
}

func roomyAmounts(l []impl.Money) marked[impl.Money] {
	return roomyList(l, []impl.Money{amount("XXX", minus(-77)), amount("EUR", plus(77))}, roomyMoney, sameMoney)
}

// MoneySum changes neither the elements, nor their magnitudes, nor what lies behind the slice.
func TestMoneySumLeavesElements(t *testing.T) {
	most := mostUnits()
	lists := [][]impl.Money{
		nil, inCurrency("EUR", plus(5)), inCurrency("EUR", plus()), inCurrency("EUR", most), inCurrency("EUR", minus(5), plus(5), minus(7, 1)), inCurrency("EUR", most, plus(1), minus(3)), inCurrency("EUR", most, most),
		{amount("USD", plus(5)), amount("EUR", plus(5))}, {amount("EUR", plus(5)), amount("EUR", plus(0)), amount("EUR", plus(7))}, {amount("EUR", plus(5)), amount("EUR", plus(6)), amount("CHF", plus(7))}, fewBadMoney(), inCurrency("EUR", fewUnits()...),
	}
	for _, l := range lists {
		arg := roomyAmounts(l)
		got, ok := impl.MoneySum("EUR", arg.arg)
		want := cloneMoney(got)
		overwrite(got.Units.Mag)
		if arg.changed() {
			t.Fatalf("MoneySum of %v changed its argument or shares its memory", l)
		}
		got, _ = impl.MoneySum("EUR", arg.arg)
		arg.overwrite(amount("ZZZ", minus(-88)))
		checkMoney(t, got, ok, want, ok, "MoneySum, whose elements were overwritten,", l)
	}
}

// What is read or made of an int is new each time.
func TestMoneyResultsAreNew(t *testing.T) {
	for _, m := range manyMoney() {
		calls := map[string]func() impl.Money{
			"TextMoney": func() impl.Money { read, _ := impl.TextMoney(moneyText(m)); return read },
			"MoneyOf":   func() impl.Money { made, _ := impl.MoneyOf(m.Cur, math.MinInt); return made },
			"RatMoney":  func() impl.Money { made, _, _ := impl.RatMoney(m.Cur, fraction(m.Units, 1), impl.RmUp); return made },
			"MoneySum":  func() impl.Money { sum, _ := impl.MoneySum(m.Cur, []impl.Money{m}); return sum },
		}
		for name, call := range calls {
			first := call()
			want := cloneMoney(first)
			overwrite(call().Units.Mag)
			if !impl.MoneyOk(want) || !sameMoney(first, want) || !sameMoney(call(), want) {
				t.Errorf("%s, %v: results share memory", name, m)
			}
		}
	}
}

// The two parts of MoneyRat share no memory with each other, with the amount or with a later result, also where they are equal.
func TestMoneyRatIsApart(t *testing.T) {
	for _, m := range manyMoney() {
		arg, memory := roomyMoney(m)
		got, other, want := impl.MoneyRat(arg), impl.MoneyRat(arg), fraction(cloneSigned(m.Units), 1)
		overwrite(memory)
		checkRat(t, got, true, want, true, "MoneyRat, whose argument was overwritten,")
		overwrite(got.Num.Mag)
		if !slices.Equal(got.Den, want.Den) || !sameRat(other, want) {
			t.Errorf("MoneyRat of %v: overwriting the numerator changed another part or result", m)
		}
		overwrite(other.Den)
		if !sameSigned(other.Num, want.Num) || !sameRat(impl.MoneyRat(m), want) {
			t.Errorf("MoneyRat of %v: overwriting the denominator changed another part or result", m)
		}
	}
}

// moneyMemoryRats are fractions whose rounded values are amounts, of all lengths, and some whose are not.
func moneyMemoryRats() []impl.Rat {
	all := append(fewRats(), fraction(plus(1), 1), fraction(plus(1), 2), fraction(minus(7), 2), fraction(minus(1), 3), fraction(mostUnits(), 1), fraction(opposite(mostUnits()), 2), fraction(plus(powerOfBase(4)...), 7))
	return append(all, limitRats()[:4]...)
}

// The amount and the remainder of RatMoney share no memory with the fraction, with each other or with a later result.
func TestRatMoneyIsApart(t *testing.T) {
	for _, r := range append(moneyMemoryRats(), badRats()...) {
		for mode := -1; mode <= 7; mode++ {
			want, wantRest, wantOk := impl.RatMoney("EUR", r, mode)
			want, wantRest = cloneMoney(want), cloneRat(wantRest)
			wantParts := [][]int{want.Units.Mag, wantRest.Num.Mag, wantRest.Den}
			for place := range wantParts {
				arg := roomyRat(r)
				m, rest, _ := impl.RatMoney("EUR", arg.arg, mode)
				parts := [][]int{m.Units.Mag, rest.Num.Mag, rest.Den}
				overwrite(parts[place])
				if arg.changed() {
					t.Fatalf("RatMoney of %v in mode %d changed its argument or shares its memory", r, mode)
				}
				overwriteRat(arg.arg)
				for i := range parts {
					if i != place && !slices.Equal(parts[i], wantParts[i]) {
						t.Fatalf("RatMoney of %v in mode %d: overwriting part %d or the argument changed part %d", r, mode, place, i)
					}
				}
			}
			checkRatMoney(t, "EUR", r, mode, want, wantRest, wantOk)
		}
	}
}
