package tests

import (
	"math"
	"math/big"
	"math/rand/v2"
	"slices"
	"strings"
	"testing"

	"loop.example/g00793/impl"
)

// money takes an amount from its text, whether it is a valid one or not.
func money(s string) impl.Money {
	cur, number, _ := strings.Cut(s, " ")
	return amount(cur, decimal(number).Num)
}

func moneys(s string) []impl.Money {
	var all []impl.Money
	for part := range strings.SplitSeq(s, ", ") {
		all = append(all, money(part))
	}
	return all
}

func quotient(s string) *big.Rat {
	q, ok := new(big.Rat).SetString(s)
	if !ok {
		panic("no quotient: " + s)
	}
	return q
}

// wayRates are found in every way, between currencies of 0, 2, 3 and 4 decimal places. No rate leads from GBP to the pivot, and none to or from PLN.
func wayRates() impl.Rates {
	return rates("EUR", "EUR CHF 0.8", "USD EUR 0.9", "EUR JPY 160", "KWD EUR 3.25", "CLF EUR 36.7", "EUR TND 3.3", "USD GBP 0.75", "CLF USD 40", "JPY KWD 0.002", "KWD JPY 480", "ISK EUR 0.007")
}

type unitCase struct {
	pair string
	how  int
	want string
}

// unitCases are held against wayRates.
func unitCases() []unitCase {
	same, direct, inverse, pivot := impl.HwSame, impl.HwDirect, impl.HwInverse, impl.HwPivot
	return []unitCase{
		{"EUR EUR", same, "1"}, {"JPY JPY", same, "1"}, {"KWD KWD", same, "1"}, {"CLF CLF", same, "1"}, {"PLN PLN", same, "1"},
		{"EUR CHF", direct, "4/5"}, {"USD EUR", direct, "9/10"}, {"EUR JPY", direct, "8/5"}, {"KWD EUR", direct, "13/40"}, {"CLF EUR", direct, "367/1000"}, {"EUR TND", direct, "33"}, {"USD GBP", direct, "3/4"}, {"CLF USD", direct, "2/5"}, {"JPY KWD", direct, "2"}, {"KWD JPY", direct, "12/25"}, {"ISK EUR", direct, "7/10"},
		{"CHF EUR", inverse, "5/4"}, {"EUR USD", inverse, "10/9"}, {"JPY EUR", inverse, "5/8"}, {"EUR KWD", inverse, "40/13"}, {"EUR CLF", inverse, "1000/367"}, {"TND EUR", inverse, "1/33"}, {"GBP USD", inverse, "4/3"}, {"USD CLF", inverse, "5/2"}, {"EUR ISK", inverse, "10/7"},
		{"USD CHF", pivot, "18/25"}, {"CHF USD", pivot, "25/18"}, {"CHF JPY", pivot, "2"}, {"JPY CHF", pivot, "1/2"}, {"USD JPY", pivot, "36/25"}, {"JPY USD", pivot, "25/36"}, {"KWD CLF", pivot, "325/367"}, {"CLF KWD", pivot, "367/325"}, {"JPY ISK", pivot, "25/28"}, {"ISK JPY", pivot, "28/25"}, {"TND KWD", pivot, "40/429"}, {"KWD TND", pivot, "429/40"}, {"CLF JPY", pivot, "367/625"}, {"JPY CLF", pivot, "625/367"}, {"KWD CHF", pivot, "13/50"}, {"CHF KWD", pivot, "50/13"},
	}
}

func (c unitCase) codes() (string, string) {
	from, to, _ := strings.Cut(c.pair, " ")
	return from, to
}

// unratedPairs are known currencies between which wayRates has no rate.
func unratedPairs() []unitCase {
	return []unitCase{{pair: "GBP EUR"}, {pair: "EUR GBP"}, {pair: "GBP CHF"}, {pair: "JPY GBP"}, {pair: "PLN EUR"}, {pair: "EUR PLN"}, {pair: "PLN GBP"}, {pair: "CLF KRW"}}
}

// bigUnitRate reads the document's sentence about UnitRate, for valid rates.
func bigUnitRate(k impl.Rates, a string, b string) (int, *big.Rat) {
	how, q := howFound(k, a, b)
	if how == impl.HwNone {
		return how, nil
	}
	units := new(big.Rat).SetFrac(bigTen(knownPlaces(b)), bigTen(knownPlaces(a)))
	return how, units.Mul(units, q)
}

// bigExact asks for a rate to be there.
func bigExact(k impl.Rates, m impl.Money, to string) *big.Rat {
	_, q := bigUnitRate(k, m.Cur, to)
	return q.Mul(q, new(big.Rat).SetInt(bigSigned(m.Units)))
}

// conversion is what Convert and ConvertSum return.
type conversion struct {
	money impl.Money
	rest  impl.Rat
	code  int
}

func conversionOf(m impl.Money, rest impl.Rat, code int) conversion {
	return conversion{money: m, rest: rest, code: code}
}

func (c conversion) same(d conversion) bool {
	return sameMoney(c.money, d.money) && sameRat(c.rest, d.rest) && c.code == d.code
}

func (c conversion) clone() conversion {
	return conversionOf(cloneMoney(c.money), cloneRat(c.rest), c.code)
}

// bigRounded rounds an exact value as the tests of rounding do.
func bigRounded(q *big.Rat, to string, mode int) conversion {
	units := roundedBig(q, mode)
	m, ok := limitedMoney(to, units)
	if !ok {
		return conversion{code: impl.CvLarge}
	}
	rest, _ := limitedRat(new(big.Rat).Sub(q, new(big.Rat).SetInt(units)))
	return conversionOf(m, rest, impl.CvOk)
}

// bigConverted reads the document's sentences about ConvertSum, for arguments of which none is a case of CvMoney.
func bigConverted(k impl.Rates, l []impl.Money, to string, mode int) conversion {
	for _, m := range l {
		if how, _ := howFound(k, m.Cur, to); how == impl.HwNone {
			return conversion{code: impl.CvRate}
		}
	}
	sum, ok := bigSum(k, l, to)
	if !ok {
		return conversion{code: impl.CvLarge}
	}
	return bigRounded(sum, to, mode)
}

// bigSum adds up the exact values, and tells whether each partial sum is a fraction.
func bigSum(k impl.Rates, l []impl.Money, to string) (*big.Rat, bool) {
	sum, ok := new(big.Rat), true
	for _, m := range l {
		sum.Add(sum, bigExact(k, m, to))
		_, fits := limitedRat(sum)
		ok = ok && fits
	}
	return sum, ok
}

// checkConversion tries a list of one element as an amount, too.
func checkConversion(t *testing.T, k impl.Rates, l []impl.Money, to string, mode int, want conversion) {
	t.Helper()
	if got := conversionOf(impl.ConvertSum(k, l, to, mode)); !got.same(want) {
		t.Errorf("ConvertSum of %v, %v, %q, %d = %v, not %v", k, l, to, mode, got, want)
	}
	if len(l) != 1 {
		return
	}
	if got := conversionOf(impl.Convert(k, l[0], to, mode)); !got.same(want) {
		t.Errorf("Convert of %v, %v, %q, %d = %v, not %v", k, l[0], to, mode, got, want)
	}
}

// checkUnitRate takes a nil where there is no rate.
func checkUnitRate(t *testing.T, k impl.Rates, a string, b string, q *big.Rat) {
	t.Helper()
	got, ok := impl.UnitRate(k, a, b)
	checkFraction(t, got, ok, q, "UnitRate", k, a, b)
}

func checkExact(t *testing.T, k impl.Rates, m impl.Money, to string, q *big.Rat) {
	t.Helper()
	got, ok := impl.Exact(k, m, to)
	checkFraction(t, got, ok, q, "Exact", k, m, to)
}

func checkFraction(t *testing.T, got impl.Rat, ok bool, q *big.Rat, call string, args ...any) {
	t.Helper()
	want, wantOk := impl.Rat{}, q != nil
	if wantOk {
		want, wantOk = limitedRat(q)
	}
	if !sameRat(got, want) || ok != wantOk || ok != impl.RatOk(got) {
		t.Errorf("%s of %v = %v, %v, not %v, %v", call, args, got, ok, want, wantOk)
	}
}

func TestConvertConstants(t *testing.T) {
	if impl.CvOk != 0 || impl.CvMoney != 1 || impl.CvRate != 2 || impl.CvLarge != 3 {
		t.Error("a constant of the chapter has another value")
	}
}

func TestCvName(t *testing.T) {
	names := map[int]string{impl.CvOk: "ok", impl.CvMoney: "money", impl.CvRate: "rate", impl.CvLarge: "large"}
	codes := append(edgeInts(), -1, 0, 1, 2, 3, 4, 5, -2, 1<<32, 1<<32+1, -1<<32+2, math.MinInt, math.MinInt+3, math.MaxInt)
	for _, code := range codes {
		if got := impl.CvName(code); got != names[code] {
			t.Errorf("CvName(%d) = %q, not %q", code, got, names[code])
		}
	}
}

func TestUnitRate(t *testing.T) {
	k := wayRates()
	for _, c := range unitCases() {
		a, b := c.codes()
		if how := impl.RateHow(k, a, b); how != c.how {
			t.Errorf("RateHow of %s = %d, not %d", c.pair, how, c.how)
		}
		checkUnitRate(t, k, a, b, quotient(c.want))
	}
	for _, c := range unratedPairs() {
		a, b := c.codes()
		checkUnitRate(t, k, a, b, nil)
	}
	// Equal currencies need no rate, whatever their decimal places.
	for _, code := range strings.Fields(curOrder) {
		checkUnitRate(t, k, code, code, quotient("1"))
		checkUnitRate(t, impl.Rates{Pivot: "SEK"}, code, code, quotient("1"))
	}
}

// One unit of each currency is worth one of each other one, so only the decimal places are left.
func TestUnitRateOfPlaces(t *testing.T) {
	for _, a := range strings.Fields(curOrder) {
		for _, b := range strings.Fields(curOrder) {
			q := new(big.Rat).SetFrac(bigTen(knownPlaces(b)), bigTen(knownPlaces(a)))
			if a != b {
				checkUnitRate(t, rates("EUR", a+" "+b+" 1"), a, b, q)
				checkUnitRate(t, rates("EUR", b+" "+a+" 1.00"), a, b, q)
			}
			if a != b && a != "PLN" && b != "PLN" {
				checkUnitRate(t, rates("PLN", a+" PLN 1", "PLN "+b+" 1"), a, b, q)
				checkUnitRate(t, rates("PLN", "PLN "+a+" 1", b+" PLN 1.0"), a, b, q)
			}
		}
	}
}

func TestUnitRateInvalid(t *testing.T) {
	for _, k := range badTables() {
		for _, pair := range []string{"EUR EUR", "EUR USD", "JPY EUR", "XXX EUR", "EUR XXX"} {
			a, b, _ := strings.Cut(pair, " ")
			checkUnitRate(t, k, a, b, nil)
		}
	}
	for _, cur := range unknownCurs() {
		for _, k := range []impl.Rates{wayRates(), {Pivot: "EUR"}, {Pivot: cur}, {}} {
			for _, known := range []string{"EUR", "CHF", "JPY", "XXX", ""} {
				checkUnitRate(t, k, cur, known, nil)
				checkUnitRate(t, k, known, cur, nil)
			}
			checkUnitRate(t, k, cur, cur, nil)
		}
	}
}

func TestUnitRateLikeBig(t *testing.T) {
	eachRandomPair(t, 11, func(k impl.Rates, a string, b string) int {
		how, q := bigUnitRate(k, a, b)
		checkUnitRate(t, k, a, b, q)
		return how
	})
}

// extremeTables have the pivot between two rates, each stored in either direction.
func extremeTables() []impl.Rates {
	var all []impl.Rates
	decs := atScales([]impl.Signed{plus(1), plus(3), plus(top, top), plus(123456789, 987654321)}, 0, 9, 18, 30)
	for _, d := range decs {
		for _, e := range decs {
			first, second := impl.Rate{From: "CLF", To: "EUR", R: d}, impl.Rate{From: "EUR", To: "JPY", R: e}
			for way := range 4 {
				k := impl.Rates{Pivot: "EUR", List: []impl.Rate{first, second}}
				if way%2 == 1 {
					k.List[0] = oppositeRate(first)
				}
				if way/2 == 1 {
					k.List[1] = oppositeRate(second)
				}
				all = append(all, k)
			}
		}
	}
	return all
}

// No rates make the unit rate or the exact value of an amount too large: the greatest ones have 12 limbs.
func TestExtremeRatesAndAmounts(t *testing.T) {
	amounts := []impl.Signed{plus(1), mostUnits(), minus(top-2, 7, 7, half)}
	most := 0
	for _, k := range extremeTables() {
		for _, pair := range []string{"CLF JPY", "JPY CLF", "CLF EUR", "EUR JPY"} {
			a, b, _ := strings.Cut(pair, " ")
			_, q := bigUnitRate(k, a, b)
			checkUnitRate(t, k, a, b, q)
			for _, units := range amounts {
				m := amount(a, units)
				checkExact(t, k, m, b, bigExact(k, m, b))
				exact, ok := impl.Exact(k, m, b)
				most = max(most, len(exact.Num.Mag), len(exact.Den))
				if !ok {
					t.Errorf("Exact of %v, %v, %s: no fraction", k, m, b)
				}
			}
		}
	}
	if most != 12 {
		t.Errorf("the greatest exact value has %d limbs", most)
	}
}

func TestExact(t *testing.T) {
	k := wayRates()
	cases := []struct{ m, to, want string }{
		{"USD 0.03", "CHF", "54/25"}, {"USD -0.03", "CHF", "-54/25"}, {"USD 0.00", "CHF", "0"}, {"EUR 10.50", "JPY", "1680"}, {"JPY 1680", "EUR", "1050"}, {"JPY -7", "EUR", "-35/8"}, {"KWD 0.005", "EUR", "13/8"}, {"EUR 0.13", "KWD", "40"}, {"CLF 0.0001", "EUR", "367/1000"}, {"EUR 1.00", "CLF", "100000/367"},
		{"CLF 1.0000", "JPY", "5872"}, {"TND 0.033", "EUR", "1"}, {"EUR -0.01", "TND", "-33"}, {"JPY 5", "KWD", "10"}, {"KWD 0.010", "JPY", "24/5"}, {"CHF 0.01", "CHF", "1"}, {"PLN -7.31", "PLN", "-731"}, {"JPY 0", "JPY", "0"}, {"GBP 0.01", "USD", "4/3"}, {"GBP 0.00", "USD", "0"},
	}
	for _, c := range cases {
		checkExact(t, k, money(c.m), c.to, quotient(c.want))
	}
	for _, c := range unitCases() {
		a, b := c.codes()
		for _, m := range inCurrency(a, manyUnits()...) {
			checkExact(t, k, m, b, bigExact(k, m, b))
		}
	}
	for _, c := range unratedPairs() {
		a, b := c.codes()
		for _, m := range inCurrency(a, fewUnits()...) {
			checkExact(t, k, m, b, nil)
		}
	}
}

func TestExactInvalid(t *testing.T) {
	for _, k := range []impl.Rates{wayRates(), {Pivot: "EUR"}, rates("JPY", "EUR JPY 160", "CLF JPY 6000")} {
		for _, m := range slices.Concat(badMoney(), fewBadMoney()) {
			for _, to := range []string{"EUR", "JPY", "CLF", m.Cur} {
				checkExact(t, k, m, to, nil)
			}
		}
		for _, to := range unknownCurs() {
			for _, m := range slices.Concat(inCurrencies([]impl.Signed{plus(), plus(7), minus(5)}, "EUR JPY CLF"), fewBadMoney()) {
				checkExact(t, k, m, to, nil)
			}
		}
	}
	for _, k := range badTables() {
		for _, m := range inCurrencies([]impl.Signed{plus(), plus(7), minus(5)}, "EUR JPY") {
			checkExact(t, k, m, "EUR", nil)
		}
	}
}

// The units are in the order of the modes: down, up, floor, ceil, halfdown, halfup, halfeven.
type roundedCase struct {
	l     string
	to    string
	exact string
	want  [7]int64
}

func allModes(n int64) [7]int64 {
	return [7]int64{n, n, n, n, n, n, n}
}

// checkRounded also tries the opposite amounts, in the mirrored mode.
func checkRounded(t *testing.T, c roundedCase) {
	t.Helper()
	k, l := wayRates(), moneys(c.l)
	var back []impl.Money
	for _, m := range l {
		back = append(back, oppositeMoney(m))
	}
	for mode, units := range c.want {
		left := new(big.Rat).Sub(quotient(c.exact), big.NewRat(units, 1))
		rest, _ := limitedRat(left)
		want := conversionOf(amount(c.to, limitedSigned(big.NewInt(units))), rest, impl.CvOk)
		checkConversion(t, k, l, c.to, mode, want)
		want.money, want.rest = oppositeMoney(want.money), oppositeRat(rest)
		checkConversion(t, k, back, c.to, mirrored(mode), want)
	}
}

func TestConvert(t *testing.T) {
	cases := []roundedCase{
		{"USD 0.03", "CHF", "54/25", [7]int64{2, 3, 2, 3, 2, 2, 2}}, {"USD 0.05", "CHF", "18/5", [7]int64{3, 4, 3, 4, 4, 4, 4}}, {"CHF 0.01", "USD", "25/18", [7]int64{1, 2, 1, 2, 1, 1, 1}}, {"USD 0.25", "CHF", "18", allModes(18)},
		{"CHF 0.02", "EUR", "5/2", [7]int64{2, 3, 2, 3, 2, 3, 2}}, {"CHF 0.06", "EUR", "15/2", [7]int64{7, 8, 7, 8, 7, 8, 8}}, {"CHF 0.04", "EUR", "5", allModes(5)}, {"EUR 0.01", "CHF", "4/5", [7]int64{0, 1, 0, 1, 1, 1, 1}}, {"EUR 0.05", "CHF", "4", allModes(4)},
		{"JPY 4", "EUR", "5/2", [7]int64{2, 3, 2, 3, 2, 3, 2}}, {"JPY 12", "EUR", "15/2", [7]int64{7, 8, 7, 8, 7, 8, 8}}, {"JPY 1", "EUR", "5/8", [7]int64{0, 1, 0, 1, 1, 1, 1}}, {"EUR 0.01", "JPY", "8/5", [7]int64{1, 2, 1, 2, 2, 2, 2}}, {"EUR 1.05", "JPY", "168", allModes(168)},
		{"KWD 0.020", "EUR", "13/2", [7]int64{6, 7, 6, 7, 6, 7, 6}}, {"KWD 0.001", "EUR", "13/40", [7]int64{0, 1, 0, 1, 0, 0, 0}}, {"EUR 0.01", "KWD", "40/13", [7]int64{3, 4, 3, 4, 3, 3, 3}}, {"JPY 21", "KWD", "42", allModes(42)}, {"KWD 0.050", "JPY", "24", allModes(24)}, {"KWD 0.001", "JPY", "12/25", [7]int64{0, 1, 0, 1, 0, 0, 0}},
		{"CLF 0.0001", "EUR", "367/1000", [7]int64{0, 1, 0, 1, 0, 0, 0}}, {"CLF 0.0500", "EUR", "367/2", [7]int64{183, 184, 183, 184, 183, 184, 184}}, {"EUR 0.01", "CLF", "1000/367", [7]int64{2, 3, 2, 3, 3, 3, 3}}, {"CLF 1.0000", "JPY", "5872", allModes(5872)}, {"USD 0.01", "CLF", "5/2", [7]int64{2, 3, 2, 3, 2, 3, 2}},
		{"JPY 14", "CHF", "7", allModes(7)}, {"JPY 13", "CHF", "13/2", [7]int64{6, 7, 6, 7, 6, 7, 6}}, {"JPY 1", "CHF", "1/2", [7]int64{0, 1, 0, 1, 0, 1, 0}}, {"JPY 3", "CHF", "3/2", [7]int64{1, 2, 1, 2, 1, 2, 2}},
		{"EUR 0.01", "EUR", "1", allModes(1)}, {"PLN 7.31", "PLN", "731", allModes(731)}, {"JPY 0", "JPY", "0", allModes(0)}, {"CLF 0.0000", "JPY", "0", allModes(0)}, {"GBP 0.00", "USD", "0", allModes(0)}, {"KWD 0.000", "CLF", "0", allModes(0)},
	}
	for _, c := range cases {
		checkRounded(t, c)
	}
}

func TestConvertLikeBig(t *testing.T) {
	k := wayRates()
	for _, c := range unitCases() {
		from, to := c.codes()
		for i, m := range inCurrency(from, manyUnits()...) {
			for mode := range 7 {
				if i%7 == mode || i < len(fewUnits()) {
					checkConversion(t, k, []impl.Money{m}, to, mode, bigRounded(bigExact(k, m, to), to, mode))
				}
			}
		}
	}
}

// An amount that is not converted is the same one, and nothing of it remains.
func TestConvertIntoItself(t *testing.T) {
	for _, code := range strings.Fields(curOrder) {
		for _, m := range inCurrency(code, manyUnits()...) {
			for mode := range 7 {
				checkConversion(t, impl.Rates{Pivot: "EUR"}, []impl.Money{m}, code, mode, conversionOf(m, fraction(plus(), 1), impl.CvOk))
			}
		}
	}
}

// P4: the result and the remainder are exactly the amount times the rate, and the result is that value rounded once; where nothing is rounded, the remainder is 0.
func TestConvertLaws(t *testing.T) {
	r := rand.New(rand.NewPCG(11, 13))
	codes := strings.Fields("EUR USD CHF JPY KWD")
	units := manyUnits()
	seen := map[int]int{}
	for range 4000 {
		k, m, to := randomRates(r), amount(codes[r.IntN(5)], units[r.IntN(len(units))]), codes[r.IntN(5)]
		mode := r.IntN(7)
		got, rest, code := impl.Convert(k, m, to, mode)
		seen[code]++
		worth, found := impl.RateOf(k, m.Cur, to)
		if found == (code == impl.CvRate) {
			t.Errorf("Convert of %v, %v, %s: code %d, and RateOf %v", k, m, to, code, found)
		}
		if code != impl.CvOk {
			continue
		}
		product, _ := impl.RatMul(impl.MoneyRat(m), worth)
		product, _ = impl.RatMul(product, impl.CurUnit(to))
		product, _ = impl.RatDiv(product, impl.CurUnit(m.Cur))
		sum, ok := impl.RatAdd(impl.MoneyRat(got), rest)
		checkRat(t, sum, ok, product, true, "result and remainder of Convert", product)
		rounded, _ := impl.RatRound(product, mode)
		if !sameMoney(got, amount(to, rounded)) || impl.RatWhole(product) != sameRat(rest, fraction(plus(), 1)) {
			t.Errorf("Convert of %v, %v, %s, %d = %v, %v: not rounded once", k, m, to, mode, got, rest)
		}
	}
	for _, code := range []int{impl.CvOk, impl.CvRate, impl.CvLarge} {
		if seen[code] < 200 {
			t.Errorf("code %d came only %d times", code, seen[code])
		}
	}
}

// Results at the limit of MaxMoney limbs, and next to it: there the mode decides whether one is valid.
func TestConvertAtTheLimit(t *testing.T) {
	k := wayRates()
	most := new(big.Rat).SetInt(bigSigned(mostUnits()))
	undecided := 0
	for _, c := range unitCases() {
		from, to := c.codes()
		_, worth := bigUnitRate(k, from, to)
		start := roundedBig(new(big.Rat).Quo(most, worth), impl.RmFloor)
		for step := int64(-3); step <= 3; step++ {
			m, ok := limitedMoney(from, new(big.Int).Add(start, big.NewInt(step)))
			if !ok {
				continue
			}
			codes := map[int]bool{}
			for mode := range 7 {
				want := bigRounded(bigExact(k, m, to), to, mode)
				codes[want.code] = true
				checkConversion(t, k, []impl.Money{m}, to, mode, want)
				want.money, want.rest = oppositeMoney(want.money), oppositeRat(want.rest)
				checkConversion(t, k, []impl.Money{oppositeMoney(m)}, to, mirrored(mode), want)
			}
			if len(codes) == 2 {
				undecided++
			}
		}
	}
	if undecided < 3 {
		t.Errorf("in only %d cases the mode decides", undecided)
	}
	checkConversion(t, k, []impl.Money{amount("JPY", minus(sameLimbs(4, top)...))}, "KWD", impl.RmDown, conversion{code: impl.CvLarge})
	checkConversion(t, k, []impl.Money{amount("JPY", plus(0, 0, 0, half+1))}, "KWD", impl.RmDown, conversion{code: impl.CvLarge})
}

// The greatest amounts at the greatest and the smallest rates.
func TestConvertOfExtremes(t *testing.T) {
	seen := map[int]int{}
	for i, k := range extremeTables() {
		mode := i % 7
		for _, units := range []impl.Signed{plus(1), mostUnits(), minus(top-2, 7, 7, half)} {
			for _, pair := range []string{"CLF JPY", "JPY CLF"} {
				from, to, _ := strings.Cut(pair, " ")
				m := amount(from, units)
				want := bigRounded(bigExact(k, m, to), to, mode)
				seen[want.code]++
				checkConversion(t, k, []impl.Money{m}, to, mode, want)
			}
		}
	}
	if seen[impl.CvOk] < 500 || seen[impl.CvLarge] < 500 {
		t.Errorf("the codes came %v times", seen)
	}
}

func TestConvertRates(t *testing.T) {
	k := wayRates()
	for _, c := range unratedPairs() {
		from, to := c.codes()
		for _, m := range inCurrency(from, fewUnits()...) {
			for mode := range 7 {
				checkConversion(t, k, []impl.Money{m}, to, mode, conversion{code: impl.CvRate})
			}
		}
	}
	for _, m := range inCurrencies(fewUnits(), placesCodes) {
		if m.Cur != "EUR" {
			checkConversion(t, impl.Rates{Pivot: "EUR"}, []impl.Money{m}, "EUR", impl.RmUp, conversion{code: impl.CvRate})
		}
	}
}

// CvMoney goes first: each case of it is tried with amounts that would be converted, that have no rate, and that would be too large.
func TestConvertMoney(t *testing.T) {
	bad := conversion{code: impl.CvMoney}
	k := wayRates()
	others := append(moneys("EUR 0.07, EUR 0.00, PLN 7.31, GBP -0.05, XXX 1, JPY 0"), amount("CHF", mostUnits()), amount("EUR", mostUnits()))
	for _, m := range slices.Concat(badMoney(), fewBadMoney()) {
		for _, to := range []string{"EUR", "PLN", m.Cur} {
			checkConversion(t, k, []impl.Money{m}, to, impl.RmHalfEven, bad)
		}
		checkConversion(t, k, []impl.Money{m}, "XXX", 7, bad)
		checkConversion(t, impl.Rates{}, []impl.Money{m}, "EUR", -1, bad)
	}
	for _, m := range others {
		for _, table := range badTables() {
			checkConversion(t, table, []impl.Money{m}, "EUR", impl.RmUp, bad)
		}
		checkConversion(t, rates("XXX"), []impl.Money{m}, m.Cur, impl.RmUp, bad)
		for _, to := range unknownCurs() {
			checkConversion(t, k, []impl.Money{m}, to, impl.RmUp, bad)
			checkConversion(t, impl.Rates{}, []impl.Money{m}, to, 7, bad)
		}
		for _, mode := range badModes() {
			checkConversion(t, k, []impl.Money{m}, "EUR", mode, bad)
			checkConversion(t, k, []impl.Money{m}, m.Cur, mode, bad)
		}
	}
}

// bigNeeded is the amount times the reciprocal of the rate, rounded up.
func bigNeeded(k impl.Rates, m impl.Money, from string) (impl.Money, bool) {
	how, q := bigUnitRate(k, from, m.Cur)
	if how == impl.HwNone {
		return impl.Money{}, false
	}
	return limitedMoney(from, roundedBig(q.Quo(new(big.Rat).SetInt(bigSigned(m.Units)), q), impl.RmCeil))
}

// checkNeeded also asks P4: the amount suffices, and one smallest unit less does not.
func checkNeeded(t *testing.T, k impl.Rates, m impl.Money, from string, want impl.Money, wantOk bool) {
	t.Helper()
	got, ok := impl.Needed(k, m, from)
	checkMoney(t, got, ok, want, wantOk, "Needed", k, m, from)
	if !ok || !wantOk {
		return
	}
	units := bigSigned(m.Units)
	exact, _ := impl.Exact(k, got, m.Cur)
	if bigRat(exact).Cmp(new(big.Rat).SetInt(units)) < 0 {
		t.Errorf("Needed of %v, %v, %s = %v does not suffice", k, m, from, got)
	}
	less := amount(from, limitedSigned(new(big.Int).Sub(bigSigned(got.Units), big.NewInt(1))))
	if bigExact(k, less, m.Cur).Cmp(new(big.Rat).SetInt(units)) >= 0 {
		t.Errorf("Needed of %v, %v, %s = %v: one less suffices", k, m, from, got)
	}
}

func TestNeeded(t *testing.T) {
	cases := []struct{ m, from, want string }{
		{"CHF 0.01", "USD", "USD 0.02"}, {"CHF -0.01", "USD", "USD -0.01"}, {"CHF 0.00", "USD", "USD 0.00"}, {"CHF 0.18", "USD", "USD 0.25"}, {"CHF -0.18", "USD", "USD -0.25"}, {"CHF 0.19", "USD", "USD 0.27"}, {"CHF 0.17", "USD", "USD 0.24"}, {"CHF -0.17", "USD", "USD -0.23"},
		{"EUR 0.01", "JPY", "JPY 2"}, {"EUR -0.01", "JPY", "JPY -1"}, {"EUR 10.50", "JPY", "JPY 1680"}, {"JPY 1680", "EUR", "EUR 10.50"}, {"JPY 1681", "EUR", "EUR 10.51"}, {"JPY -1681", "EUR", "EUR -10.50"}, {"JPY 1", "EUR", "EUR 0.01"}, {"JPY -1", "EUR", "EUR 0.00"},
		{"EUR 0.13", "KWD", "KWD 0.040"}, {"EUR 0.14", "KWD", "KWD 0.044"}, {"KWD 0.001", "EUR", "EUR 0.01"}, {"KWD -0.005", "EUR", "EUR -0.01"}, {"KWD 0.040", "EUR", "EUR 0.13"}, {"KWD 3", "JPY", "JPY 2"}, {"KWD 0.004", "JPY", "JPY 2"}, {"JPY 1", "KWD", "KWD 0.003"},
		{"EUR 0.01", "CLF", "CLF 0.0003"}, {"CLF 0.0001", "EUR", "EUR 0.01"}, {"CLF 0.1000", "EUR", "EUR 3.67"}, {"TND 0.033", "EUR", "EUR 0.01"}, {"TND 0.034", "EUR", "EUR 0.02"}, {"EUR 0.01", "TND", "TND 0.033"}, {"USD 0.04", "GBP", "GBP 0.03"}, {"USD 0.05", "GBP", "GBP 0.04"},
		{"EUR 0.01", "EUR", "EUR 0.01"}, {"PLN -7.31", "PLN", "PLN -7.31"}, {"JPY 0", "JPY", "JPY 0"}, {"JPY 0", "CLF", "CLF 0.0000"}, {"KWD 0.000", "CHF", "CHF 0.00"},
	}
	for _, c := range cases {
		checkNeeded(t, wayRates(), money(c.m), c.from, money(c.want), true)
	}
}

func TestNeededLikeBig(t *testing.T) {
	k := wayRates()
	for _, c := range unitCases() {
		from, to := c.codes()
		for _, m := range inCurrency(to, manyUnits()...) {
			want, wantOk := bigNeeded(k, m, from)
			checkNeeded(t, k, m, from, want, wantOk)
		}
		for n := int64(-60); n <= 60; n++ {
			m := amount(to, limitedSigned(big.NewInt(n)))
			want, wantOk := bigNeeded(k, m, from)
			checkNeeded(t, k, m, from, want, wantOk)
		}
	}
	r := rand.New(rand.NewPCG(11, 14))
	units := manyUnits()
	codes := strings.Fields("EUR USD CHF JPY KWD")
	for range 3000 {
		k, m, from := randomRates(r), amount(codes[r.IntN(5)], units[r.IntN(len(units))]), codes[r.IntN(5)]
		want, wantOk := bigNeeded(k, m, from)
		checkNeeded(t, k, m, from, want, wantOk)
	}
	for _, k := range extremeTables() {
		for _, x := range []impl.Signed{plus(1), mostUnits(), minus(top-2, 7, 7, half)} {
			m := amount("JPY", x)
			want, wantOk := bigNeeded(k, m, "CLF")
			checkNeeded(t, k, m, "CLF", want, wantOk)
		}
	}
}

// The greatest amount that is enough for something, and what needs one unit more than that.
func TestNeededAtTheLimit(t *testing.T) {
	k := wayRates()
	most := new(big.Rat).SetInt(bigSigned(mostUnits()))
	seen := map[bool]int{}
	for _, c := range unitCases() {
		from, to := c.codes()
		_, worth := bigUnitRate(k, from, to)
		start := roundedBig(new(big.Rat).Mul(most, worth), impl.RmFloor)
		for step := int64(-3); step <= 3; step++ {
			for _, sign := range []int64{1, -1} {
				m, ok := limitedMoney(to, new(big.Int).Mul(new(big.Int).Add(start, big.NewInt(step)), big.NewInt(sign)))
				if !ok {
					continue
				}
				want, wantOk := bigNeeded(k, m, from)
				seen[wantOk]++
				checkNeeded(t, k, m, from, want, wantOk)
			}
		}
	}
	if seen[true] < 50 || seen[false] < 50 {
		t.Errorf("valid results and others were wanted %v times", seen)
	}
	for _, m := range []impl.Money{amount("EUR", mostUnits()), amount("EUR", opposite(mostUnits())), amount("EUR", plus(0, 0, 0, half))} {
		checkNeeded(t, rates("EUR", "USD EUR 0.00001"), m, "USD", impl.Money{}, false)
		checkNeeded(t, impl.Rates{Pivot: "EUR", List: []impl.Rate{{From: "USD", To: "EUR", R: scaled(30, plus(1))}}}, m, "USD", impl.Money{}, false)
	}
}

func TestNeededInvalid(t *testing.T) {
	k := wayRates()
	for _, m := range slices.Concat(badMoney(), fewBadMoney()) {
		for _, from := range []string{"EUR", "JPY", "XXX", m.Cur} {
			checkNeeded(t, k, m, from, impl.Money{}, false)
			checkNeeded(t, impl.Rates{}, m, from, impl.Money{}, false)
		}
	}
	for _, m := range append(inCurrencies([]impl.Signed{plus(), plus(7), minus(5)}, placesCodes), amount("EUR", mostUnits())) {
		for _, from := range unknownCurs() {
			checkNeeded(t, k, m, from, impl.Money{}, false)
			checkNeeded(t, impl.Rates{Pivot: from}, m, from, impl.Money{}, false)
		}
		for _, table := range badTables() {
			checkNeeded(t, table, m, "EUR", impl.Money{}, false)
			checkNeeded(t, table, m, "JPY", impl.Money{}, false)
		}
		for _, from := range []string{"GBP", "PLN", "KRW"} {
			checkNeeded(t, k, m, from, impl.Money{}, false)
		}
	}
	for _, c := range unratedPairs() {
		to, from := c.codes()
		for _, m := range inCurrency(to, fewUnits()...) {
			checkNeeded(t, k, m, from, impl.Money{}, false)
		}
	}
}

func TestConvertSumOfNothing(t *testing.T) {
	tables := []impl.Rates{wayRates(), {Pivot: "EUR"}, {Pivot: "PLN", List: []impl.Rate{}}, {Pivot: "CLF", List: rateRow(12)}}
	for _, empty := range [][]impl.Money{nil, {}, make([]impl.Money, 0, 5), moneys("XXX 1, EUR 5.00")[:0]} {
		for _, k := range tables {
			for mode := range 7 {
				for _, to := range strings.Fields(curOrder) {
					checkConversion(t, k, empty, to, mode, conversionOf(amount(to, plus()), fraction(plus(), 1), impl.CvOk))
				}
				for _, to := range unknownCurs() {
					checkConversion(t, k, empty, to, mode, conversion{code: impl.CvMoney})
				}
			}
			for _, mode := range badModes() {
				checkConversion(t, k, empty, "EUR", mode, conversion{code: impl.CvMoney})
				checkConversion(t, k, empty, "XXX", mode, conversion{code: impl.CvMoney})
			}
		}
		for _, k := range badTables() {
			checkConversion(t, k, empty, "EUR", impl.RmDown, conversion{code: impl.CvMoney})
			checkConversion(t, k, empty, "", 7, conversion{code: impl.CvMoney})
		}
	}
}

// Remainders that add up to a whole unit, to a tie, or to less; one by one the elements would be rounded differently.
func TestConvertSumRoundsOnce(t *testing.T) {
	cases := []roundedCase{
		{"GBP 0.01, GBP 0.01, GBP 0.01", "USD", "4", allModes(4)}, {"GBP 0.01, GBP 0.01", "USD", "8/3", [7]int64{2, 3, 2, 3, 3, 3, 3}}, {"GBP 0.01, GBP 0.01, GBP -0.02", "USD", "0", allModes(0)}, {"GBP 0.01, GBP -0.03, GBP 0.01", "USD", "-4/3", [7]int64{-1, -2, -2, -1, -1, -1, -1}},
		{"CHF 0.01, CHF 0.01", "EUR", "5/2", [7]int64{2, 3, 2, 3, 2, 3, 2}}, {"CHF 0.01, CHF 0.01, CHF 0.01, CHF 0.01", "EUR", "5", allModes(5)}, {"CHF 0.05, CHF 0.01", "EUR", "15/2", [7]int64{7, 8, 7, 8, 7, 8, 8}}, {"CHF 0.01, CHF -0.01", "EUR", "0", allModes(0)},
		{"JPY 1, CHF 0.01, JPY 1", "EUR", "5/2", [7]int64{2, 3, 2, 3, 2, 3, 2}}, {"USD 0.01, ISK 3", "EUR", "3", allModes(3)}, {"USD 0.01, ISK 1, JPY 8", "EUR", "33/5", [7]int64{6, 7, 6, 7, 7, 7, 7}}, {"KWD 0.001, JPY 3", "EUR", "11/5", [7]int64{2, 3, 2, 3, 2, 2, 2}}, {"CLF 0.0001, KWD 0.001, TND 0.033", "EUR", "423/250", [7]int64{1, 2, 1, 2, 2, 2, 2}},
		{"CHF 0.01, JPY -2", "EUR", "0", allModes(0)}, {"EUR 0.01, CHF -0.01", "EUR", "-1/4", [7]int64{0, -1, -1, 0, 0, 0, 0}}, {"EUR 0.01, JPY -4", "EUR", "-3/2", [7]int64{-1, -2, -2, -1, -1, -2, -2}}, {"CHF -0.01, EUR 0.01, JPY 2, EUR -0.01", "EUR", "0", allModes(0)},
		{"EUR 0.01, EUR 0.02, EUR -0.05", "EUR", "-2", allModes(-2)}, {"PLN 1.00, PLN 2.00", "PLN", "300", allModes(300)}, {"JPY 1, EUR 0.01, USD 0.01", "CHF", "101/50", [7]int64{2, 3, 2, 3, 2, 2, 2}}, {"EUR 0.00, GBP 0.00, CLF 0.0000", "USD", "0", allModes(0)},
		{"CHF 0.01", "EUR", "5/4", [7]int64{1, 2, 1, 2, 1, 1, 1}}, {"GBP 0.02", "USD", "8/3", [7]int64{2, 3, 2, 3, 3, 3, 3}},
	}
	for _, c := range cases {
		checkRounded(t, c)
	}
	for mode := range 7 {
		many := slices.Repeat(moneys("GBP 0.01, JPY 1"), 900)
		checkConversion(t, rates("USD", "USD GBP 0.75", "JPY USD 0.009"), many, "USD", mode, conversionOf(money("USD 20.10"), fraction(plus(), 1), impl.CvOk))
	}
}

// randomAmounts are of the given currencies; the small ones are frequent, so that sums are valid.
func randomAmounts(r *rand.Rand, codes []string, units []impl.Signed, size int) []impl.Money {
	var l []impl.Money
	for range size {
		x := limitedSigned(big.NewInt(r.Int64N(2001) - 1000))
		if r.IntN(3) == 0 {
			x = units[r.IntN(len(units))]
		}
		l = append(l, amount(codes[r.IntN(len(codes))], x))
	}
	return l
}

func TestConvertSumLikeBig(t *testing.T) {
	r := rand.New(rand.NewPCG(11, 15))
	units := manyUnits()
	codes := strings.Fields("EUR USD CHF JPY KWD")
	seen := map[int]int{}
	for range 3000 {
		k := randomRates(r)
		l := randomAmounts(r, codes[:2+r.IntN(4)], units, r.IntN(7))
		to, mode := codes[r.IntN(5)], r.IntN(7)
		want := bigConverted(k, l, to, mode)
		seen[want.code]++
		checkConversion(t, k, l, to, mode, want)
	}
	ways := strings.Fields("EUR CHF USD JPY KWD CLF TND ISK")
	for range 3000 {
		l := randomAmounts(r, ways, units, r.IntN(9))
		to, mode := ways[r.IntN(len(ways))], r.IntN(7)
		want := bigConverted(wayRates(), l, to, mode)
		seen[want.code]++
		checkConversion(t, wayRates(), l, to, mode, want)
	}
	for _, code := range []int{impl.CvOk, impl.CvRate, impl.CvLarge} {
		if seen[code] < 200 {
			t.Errorf("code %d was wanted only %d times", code, seen[code])
		}
	}
}

// primeCodes have 2 decimal places, as the pivot of primeRates has.
const primeCodes = "USD CHF GBP SEK NOK DKK CZK HUF PLN CAD AUD NZD"

// primeRates lead from the pivot to 12 currencies, each at another prime number of 2 limbs. The exact values of what is converted back have these denominators, of which 9 fill MaxRat limbs.
func primeRates() impl.Rates {
	k := impl.Rates{Pivot: "EUR"}
	prime := bigTen(18)
	for _, code := range strings.Fields(primeCodes) {
		for prime.Sub(prime, big.NewInt(1)); !prime.ProbablyPrime(20); prime.Sub(prime, big.NewInt(1)) {
		}
		k.List = append(k.List, impl.Rate{From: "EUR", To: code, R: scaled(0, plus(limbsOf(prime)...))})
	}
	return k
}

// smallestOf are one smallest unit each of the currencies of primeRates, counted from 1; a minus makes it negative.
func smallestOf(places ...int) []impl.Money {
	codes := strings.Fields(primeCodes)
	var l []impl.Money
	for _, place := range places {
		m := amount(codes[max(place, -place)-1], plus(1))
		m.Units.Neg = place < 0
		l = append(l, m)
	}
	return l
}

// A partial sum of 10 denominators is too large, also if the whole sum would not be; the order of the elements decides.
func TestConvertSumPartial(t *testing.T) {
	cases := []struct {
		places []int
		want   int
	}{
		{[]int{1, 2, 3, 4, 5, 6, 7, 8, 9}, impl.CvOk}, {[]int{12, 11, 10, 9, 8, 7, 6, 5, 4}, impl.CvOk}, {[]int{1, 2, 3, 4, 5, 6, 7, 8, 9, 10}, impl.CvLarge}, {[]int{1, 2, 3, 4, 5, 6, 7, 8, 9, 10, 11, 12}, impl.CvLarge},
		{[]int{1, 2, 3, 4, 5, 6, 7, 8, 9, 10, -10}, impl.CvLarge}, {[]int{10, -10, 1, 2, 3, 4, 5, 6, 7, 8, 9}, impl.CvOk}, {[]int{1, 2, 3, 4, 5, 6, 7, 8, 10, -10, 9}, impl.CvOk}, {[]int{-10, 1, 2, 3, 4, 5, 6, 7, 8, 9, 10}, impl.CvLarge}, {[]int{1, 2, 3, 4, 5, 6, 7, 8, 9, -1, 10}, impl.CvOk},
		{[]int{1, 2, 3, 4, 5, 6, 7, 8, 9, 10, -1, -2, -3, -4, -5, -6, -7, -8, -9, -10}, impl.CvLarge}, {[]int{1, 2, 3, 4, 5, 6, 7, 8, 9, -1, -2, -3, -4, -5, -6, -7, -8, -9}, impl.CvOk}, {[]int{1, -1, 2, -2, 3, -3, 4, -4, 5, -5, 6, -6, 7, -7, 8, -8, 9, -9, 10, -10, 11, -11}, impl.CvOk},
		{[]int{1, 2, 3, 4, 5, 6, 7, 8, 9, 10, -10, -9, -8, -7, -6, -5, -4, -3, -2, -1, 1}, impl.CvLarge}, {[]int{1, 1, 2, 2, 3, 3, 4, 4, 5, 5, 6, 6, 7, 7, 8, 8, 9, 9, -1}, impl.CvOk},
	}
	k := primeRates()
	if !impl.RatesOk(k) {
		t.Fatal("the rates are not valid")
	}
	for _, c := range cases {
		l := smallestOf(c.places...)
		for mode := range 7 {
			want := bigConverted(k, l, "EUR", mode)
			if want.code != c.want {
				t.Errorf("the sum of %v has the code %d, not %d", c.places, want.code, c.want)
			}
			checkConversion(t, k, l, "EUR", mode, want)
		}
	}
}

// A sum that was too large stays so: not even its opposite, or what is not too large by itself, makes a valid one of it.
func TestConvertSumAfterPartial(t *testing.T) {
	k := primeRates()
	large := smallestOf(1, 2, 3, 4, 5, 6, 7, 8, 9, 10)
	for _, behind := range [][]impl.Money{moneys("EUR 0.00"), moneys("EUR 5.00"), moneys("EUR -5.00, USD 1.00"), smallestOf(-1, -2, -3, -4, -5, -6, -7, -8, -9, -10), smallestOf(1), slices.Repeat(moneys("EUR 0.01"), 100)} {
		for mode := range 7 {
			checkConversion(t, k, slices.Concat(large, behind), "EUR", mode, conversion{code: impl.CvLarge})
			checkConversion(t, k, slices.Concat(behind, large), "EUR", mode, conversion{code: impl.CvLarge})
		}
	}
}

// Large numerators over large denominators, with partial sums of all sizes.
func TestConvertSumOfPrimesLikeBig(t *testing.T) {
	r := rand.New(rand.NewPCG(11, 16))
	k := primeRates()
	units := manyUnits()
	codes := append(strings.Fields(primeCodes), "EUR")
	seen := map[int]int{}
	partial := 0
	for range 1500 {
		l := randomAmounts(r, codes, units, 4+r.IntN(14))
		for range r.IntN(12) {
			l = append(l, oppositeMoney(l[r.IntN(len(l))]))
		}
		to, mode := codes[r.IntN(len(codes))], r.IntN(7)
		if r.IntN(3) > 0 {
			to = "EUR"
		}
		want := bigConverted(k, l, to, mode)
		seen[want.code]++
		sum, partsFit := bigSum(k, l, to)
		if _, fits := limitedRat(sum); fits && !partsFit && bigRounded(sum, to, mode).code == impl.CvOk {
			partial++
		}
		checkConversion(t, k, l, to, mode, want)
	}
	if seen[impl.CvOk] < 300 || seen[impl.CvLarge] < 300 || partial < 30 {
		t.Errorf("the codes were wanted %v times, and %d times a partial sum alone was too large", seen, partial)
	}
}

// The whole sum has to be an amount, and partial ones only fractions: they may be larger than an amount.
func TestConvertSumAtTheLimit(t *testing.T) {
	most, least := mostUnits(), opposite(mostUnits())
	k := wayRates()
	lists := [][]impl.Money{
		inCurrency("EUR", most), inCurrency("EUR", most, plus(1)), inCurrency("EUR", most, plus(1), minus(1)), inCurrency("EUR", plus(1), most, minus(1)), inCurrency("EUR", most, most, least), inCurrency("EUR", most, most), inCurrency("EUR", least, least, most, most, minus(5)), inCurrency("CHF", most), inCurrency("CHF", most, minus(0, 0, 0, 200000001)),
		append(inCurrency("EUR", most), moneys("JPY 4, EUR -0.02")...), append(inCurrency("EUR", most), moneys("JPY 1")...), append(moneys("CHF 0.01, EUR -0.01"), amount("EUR", most)), append(inCurrency("EUR", most), moneys("CHF 0.01")...), append(inCurrency("EUR", most), moneys("CHF 0.01, JPY -2")...),
		append(inCurrency("CHF", most), inCurrency("JPY", least, least)...), append(inCurrency("CHF", most), inCurrency("JPY", least)...), append(inCurrency("USD", most, most), inCurrency("EUR", least)...), slices.Concat(slices.Repeat(inCurrency("CHF", most), 100), slices.Repeat(inCurrency("CHF", least), 100)),
	}
	codes := []map[int]bool{}
	for _, l := range lists {
		var back []impl.Money
		for _, m := range l {
			back = append(back, oppositeMoney(m))
		}
		found := map[int]bool{}
		for mode := range 7 {
			want := bigConverted(k, l, "EUR", mode)
			found[want.code] = true
			checkConversion(t, k, l, "EUR", mode, want)
			want.money, want.rest = oppositeMoney(want.money), oppositeRat(want.rest)
			checkConversion(t, k, back, "EUR", mirrored(mode), want)
		}
		codes = append(codes, found)
	}
	for i, want := range []string{"ok", "large", "ok", "ok", "ok", "large", "ok", "large", "ok", "both", "both", "both", "large", "ok", "ok", "ok", "ok", "ok"} {
		got := map[[2]bool]string{{true, false}: "ok", {false, true}: "large", {true, true}: "both"}[[2]bool{codes[i][impl.CvOk], codes[i][impl.CvLarge]}]
		if got != want {
			t.Errorf("the sum of %v is %s, not %s", lists[i], got, want)
		}
	}
}

// orders are the elements of l in every order, and so are those of every part of it.
func orders(l []impl.Money) [][]impl.Money {
	all := [][]impl.Money{nil}
	for i, first := range l {
		others := slices.Concat(l[:i], l[i+1:])
		for _, rest := range orders(others) {
			all = append(all, append([]impl.Money{first}, rest...))
		}
	}
	return all
}

// The first code in the listed order: an element without a rate beside valid ones and one that is too large, and beside all of them an argument that is not valid.
func TestConvertSumCodes(t *testing.T) {
	k := wayRates()
	unrated, large := money("GBP 0.05"), amount("CHF", mostUnits())
	for _, l := range orders([]impl.Money{money("EUR 0.07"), unrated, large, money("PLN 0.00")}) {
		want := conversion{code: impl.CvRate}
		if !slices.ContainsFunc(l, func(m impl.Money) bool { return m.Cur == "GBP" || m.Cur == "PLN" }) {
			want = bigConverted(k, l, "EUR", impl.RmUp)
		}
		checkConversion(t, k, l, "EUR", impl.RmUp, want)
		checkSumMoney(t, k, l)
	}
}

// checkSumMoney makes one thing invalid after the other, beside l.
func checkSumMoney(t *testing.T, k impl.Rates, l []impl.Money) {
	t.Helper()
	bad := conversion{code: impl.CvMoney}
	for _, stranger := range fewBadMoney() {
		for place := range len(l) + 1 {
			checkConversion(t, k, slices.Insert(slices.Clone(l), place, stranger), "EUR", impl.RmUp, bad)
		}
	}
	for _, to := range unknownCurs()[:6] {
		checkConversion(t, k, l, to, impl.RmUp, bad)
	}
	for _, mode := range fewBadModes() {
		checkConversion(t, k, l, "EUR", mode, bad)
	}
	broken := wayRates()
	broken.List[len(broken.List)-1].R = decimal("0")
	for _, table := range []impl.Rates{{}, rates("XXX"), {Pivot: "EUR", List: rateRow(13)}, broken, twiceTables()[0]} {
		checkConversion(t, table, l, "EUR", impl.RmUp, bad)
	}
}

// Every way in which an element is not valid, first, in the midst and last.
func TestConvertSumAsksEveryElement(t *testing.T) {
	good := moneys("EUR 0.01, JPY -7, CHF 5.00, CLF 0.0000, USD 1.00")
	for _, stranger := range slices.Concat(badMoney(), fewBadMoney()) {
		for _, size := range []int{0, 1, 4, 5} {
			for _, place := range firstMidLast(size) {
				l := slices.Insert(slices.Clone(good[:size]), place, stranger)
				checkConversion(t, wayRates(), l, "EUR", impl.RmHalfUp, conversion{code: impl.CvMoney})
			}
		}
	}
	for _, stranger := range inCurrencies([]impl.Signed{plus(), plus(5), minus(7), mostUnits()}, "GBP PLN KRW") {
		for place := range len(good) + 1 {
			l := slices.Insert(slices.Clone(good), place, stranger)
			checkConversion(t, wayRates(), l, "EUR", impl.RmHalfUp, conversion{code: impl.CvRate})
		}
	}
}

// conversionCalls return the parts of what the functions return, as they lie in memory.
func conversionCalls() map[string]func(k impl.Rates, l []impl.Money, to string) [][]int {
	parts := func(m impl.Money, rest impl.Rat, _ int) [][]int { return [][]int{m.Units.Mag, rest.Num.Mag, rest.Den} }
	both := func(r impl.Rat, _ bool) [][]int { return [][]int{r.Num.Mag, r.Den} }
	return map[string]func(k impl.Rates, l []impl.Money, to string) [][]int{
		"UnitRate": func(k impl.Rates, l []impl.Money, to string) [][]int { return both(impl.UnitRate(k, l[0].Cur, to)) },
		"Exact":    func(k impl.Rates, l []impl.Money, to string) [][]int { return both(impl.Exact(k, l[0], to)) },
		"Convert": func(k impl.Rates, l []impl.Money, to string) [][]int {
			return parts(impl.Convert(k, l[0], to, impl.RmUp))
		},
		"ConvertSum": func(k impl.Rates, l []impl.Money, to string) [][]int {
			return parts(impl.ConvertSum(k, l, to, impl.RmDown))
		},
		"ConvertSum of none": func(k impl.Rates, l []impl.Money, to string) [][]int { return parts(impl.ConvertSum(k, l[:0], to, 0)) },
		"Needed": func(k impl.Rates, l []impl.Money, to string) [][]int {
			m, _ := impl.Needed(k, l[0], to)
			return [][]int{m.Units.Mag}
		},
	}
}

// conversionLists are not empty; what they come to may be.
func conversionLists() [][]impl.Money {
	return [][]impl.Money{
		moneys("EUR 0.01"), moneys("JPY 7"), moneys("USD -5.00, EUR 0.00"), moneys("EUR 0.01, CHF 0.01, USD 0.02"), moneys("EUR 0.00"), moneys("CHF 0.03, GBP 0.01"), moneys("PLN 1.00"), inCurrency("EUR", mostUnits(), minus(1)), inCurrency("USD", mostUnits(), mostUnits()),
		{amount("EUR", impl.Signed{Neg: true})}, {amount("EUR", plus(5)), amount("EUR", plus(0))}, {amount("XXX", plus(5))}, {{}}, {amount("CHF", plus(powerOfBase(5)...))},
	}
}

func conversionTables() []impl.Rates {
	return []impl.Rates{wayRates(), {Pivot: "EUR"}, rates("EUR", "EUR USD 1", "EUR CHF 1", "CHF EUR 1", "JPY EUR 1"), rates("USD", opposedTexts()...), {}, {Pivot: "EUR", List: rateRow(13)}}
}

// Chapter 1: no function changes an argument or the capacity behind it, and a result shares no memory with an argument, with a later result or with another part of itself.
func TestConvertResultsAreApart(t *testing.T) {
	for name, call := range conversionCalls() {
		for _, k := range conversionTables() {
			for _, l := range conversionLists() {
				for _, to := range []string{"EUR", "CHF", "JPY", "XXX"} {
					want := cloneParts(call(cloneRates(k), l, to))
					for place := range want {
						table, list := roomyRates(k), roomyAmounts(l)
						parts := call(table.arg, list.arg, to)
						overwrite(parts[place])
						if table.changed() || list.changed() {
							t.Fatalf("%s of %v, %v, %s changed an argument or shares its memory", name, k, l, to)
						}
						later := call(table.arg, list.arg, to)
						overwriteRates(impl.Rates{List: table.list})
						list.overwrite(amount("ZZZ", minus(-88)))
						parts[place] = want[place]
						if !sameParts(parts, want) || !sameParts(later, want) {
							t.Fatalf("%s of %v, %v, %s: overwriting part %d or an argument changed another part or result", name, k, l, to, place)
						}
					}
				}
			}
		}
	}
}

func sameParts(a [][]int, b [][]int) bool {
	return slices.EqualFunc(a, b, slices.Equal[[]int])
}

func cloneParts(a [][]int) [][]int {
	var same [][]int
	for _, part := range a {
		same = append(same, slices.Clone(part))
	}
	return same
}

// A conversion is the same whenever it is made, and whatever was converted before.
func TestConversionsStay(t *testing.T) {
	k := wayRates()
	l := moneys("GBP 0.01, GBP 0.01, USD 0.02")
	first := conversionOf(impl.ConvertSum(k, l, "USD", impl.RmHalfUp)).clone()
	for range 200 {
		checkConversion(t, k, moneys("PLN 1.00"), "EUR", impl.RmUp, conversion{code: impl.CvRate})
		checkConversion(t, k, moneys("XXX 1"), "EUR", impl.RmUp, conversion{code: impl.CvMoney})
		checkConversion(t, k, inCurrency("CHF", mostUnits()), "EUR", impl.RmUp, conversion{code: impl.CvLarge})
		checkConversion(t, k, l, "USD", impl.RmHalfUp, first)
	}
}
