package tests

import (
	"math"
	"math/big"
	"math/rand/v2"
	"regexp"
	"slices"
	"strings"
	"testing"

	"loop.example/g00793/impl"
)

// atAllScales has the numbers at each scale from 0 to 30.
func atAllScales(nums []impl.Signed) []impl.Dec {
	var all []impl.Dec
	for scale := range 31 {
		all = append(all, atScales(nums, scale)...)
	}
	return all
}

// isTaxRate reads the document's sentence about TaxRateOk, for a valid number.
func isTaxRate(d impl.Dec) bool {
	q := bigDec(d)
	return len(d.Num.Mag) <= 1 && q.Sign() >= 0 && q.Cmp(big.NewRat(1, 1)) <= 0
}

// manyTaxRates are those of one limb that are not beyond 1, at each scale.
func manyTaxRates() []impl.Dec {
	nums := append(integers(0, 1, 2, 5, 7, 10, 19, 25, 77, 100, 250, 1900, 99999, 1000000, 100000000, 123456789, 333333333, 500000000, 999999937, top), impl.Signed{Mag: []int{}})
	return slices.DeleteFunc(atAllScales(nums), func(d impl.Dec) bool { return !isTaxRate(d) })
}

// fewTaxRates are enough beside other arguments.
func fewTaxRates() []impl.Dec {
	var all []impl.Dec
	for _, s := range strings.Fields("0 0.00 1 1.000 1.00000000 0.19 0.1900 0.07 0.077 0.055 0.5 0.025 0.20 0.333333333 0.999999999 0.00000001") {
		all = append(all, decimal(s))
	}
	return append(all, scaled(30, plus()), scaled(30, plus(1)), scaled(30, plus(top)))
}

// noTaxRates are valid numbers: negative ones, those beyond 1, and those from 0 to 1 that have more than one limb.
func noTaxRates() []impl.Dec {
	var all []impl.Dec
	for _, s := range strings.Fields("-1 -0.01 -0.19 -1.00 -0.00000001 2 10 100 1.1 1.01 1.19 1.00000001 9.99999999 999999999 99999999.9 1.000000000 0.1900000000 0.5000000000 0.1234567890 0.999999999999999999 1.000000000000000000") {
		all = append(all, decimal(s))
	}
	longer := [][]int{{0, 1}, {1, 1}, {top, top}, {7, 5}, {0, 0, 1}, sameLimbs(3, top), {0, 0, 0, 1}}
	all = append(all, atScales(bothSigns(longer), 0, 9, 10, 18, 27, 30)...)
	return append(all, scaled(30, minus(1)), scaled(30, minus(top)), scaled(30, plus(sameLimbs(6, top)...)), scaled(30, plus(0, 0, 0, 1000)), scaled(0, minus(powerOfBase(6)...)))
}

// badTaxRates are no numbers, and numbers that are no tax rates.
func badTaxRates() []impl.Dec { return slices.Concat(noTaxRates(), badDecs(), fewBadDecs()) }

func fewBadTaxRates() []impl.Dec {
	return append(fewBadDecs(), decimal("-0.19"), decimal("-1"), decimal("1.01"), decimal("2"), decimal("0.1900000000"), scaled(9, plus(0, 1)), scaled(30, minus(1)), scaled(30, plus(0, 1)))
}

// lowestDec is false where q is at no scale a number.
func lowestDec(q *big.Rat) (impl.Dec, bool) {
	for scale := range 31 {
		if d, ok := limitedDec(q, scale); ok {
			return d, true
		}
	}
	return impl.Dec{}, false
}

func TestTaxRateOk(t *testing.T) {
	for _, d := range slices.Concat(manyTaxRates(), fewTaxRates(), []impl.Dec{{}, {Num: impl.Signed{Mag: []int{}}}, scaled(30, impl.Signed{Mag: []int{}})}) {
		if !impl.TaxRateOk(d) {
			t.Errorf("TaxRateOk(%v) = false", d)
		}
	}
	for _, d := range slices.Concat(badTaxRates(), fewBadTaxRates()) {
		if impl.TaxRateOk(d) {
			t.Errorf("TaxRateOk(%v) = true", d)
		}
	}
	for _, d := range slices.Concat(fewDecs(), limitDecs(), manyDecs(), atAllScales(rateNums()), atAllScales(bothSigns([][]int{{1}, {half}, {top}, {0, 1}, {top, 7}}))) {
		if got := impl.TaxRateOk(d); got != isTaxRate(d) {
			t.Errorf("TaxRateOk(%v) = %v", d, got)
		}
	}
}

// 0 and 1 and the numbers beside them, written with every number of decimal places: 1.000000000 has two limbs.
func TestTaxRateOkAtTheLimits(t *testing.T) {
	for scale := range 31 {
		at := func(n int64) impl.Dec {
			return scaled(scale, limitedSigned(new(big.Int).Add(bigTen(scale), big.NewInt(n))))
		}
		cases := []struct {
			d    impl.Dec
			want bool
		}{
			{at(0), scale <= 8}, {at(1), false}, {at(-1), scale <= 9}, {at(10), false},
			{scaled(scale, plus()), true}, {scaled(scale, minus(1)), false}, {scaled(scale, plus(1)), true}, {scaled(scale, minus(top)), false}, {scaled(scale, plus(top)), scale >= 9}, {scaled(scale, impl.Signed{Neg: true}), false}, {scaled(scale, impl.Signed{Neg: true, Mag: []int{}}), false}, {scaled(scale, plus(0)), false},
		}
		for _, c := range cases {
			if got := impl.TaxRateOk(c.d); got != c.want {
				t.Errorf("TaxRateOk(%v) = %v", c.d, got)
			}
		}
	}
}

// taxation is what TaxIn returns; TaxOn returns no net amount.
type taxation struct {
	net  impl.Money
	tax  impl.Money
	rest impl.Rat
	ok   bool
}

func taxationOn(net impl.Money, r impl.Dec, mode int) taxation {
	tax, rest, ok := impl.TaxOn(net, r, mode)
	return taxation{tax: tax, rest: rest, ok: ok}
}

func taxationIn(gross impl.Money, r impl.Dec, mode int) taxation {
	net, tax, rest, ok := impl.TaxIn(gross, r, mode)
	return taxation{net: net, tax: tax, rest: rest, ok: ok}
}

func (x taxation) same(y taxation) bool {
	return sameMoney(x.net, y.net) && sameMoney(x.tax, y.tax) && sameRat(x.rest, y.rest) && x.ok == y.ok
}

func (x taxation) opposite() taxation {
	return taxation{net: oppositeMoney(x.net), tax: oppositeMoney(x.tax), rest: oppositeRat(x.rest), ok: x.ok}
}

// exactTax is the amount times the rate.
func exactTax(net impl.Money, r impl.Dec) *big.Rat {
	q := bigDec(r)
	return q.Mul(q, new(big.Rat).SetInt(bigSigned(net.Units)))
}

// exactNet is the amount divided by 1 + r.
func exactNet(gross impl.Money, r impl.Dec) *big.Rat {
	whole := bigDec(r)
	whole.Add(whole, big.NewRat(1, 1))
	return whole.Quo(new(big.Rat).SetInt(bigSigned(gross.Units)), whole)
}

// bigTaxOn and bigTaxIn read the document's sentences for arguments that are valid.
func bigTaxOn(net impl.Money, r impl.Dec, mode int) taxation {
	c := bigRounded(exactTax(net, r), net.Cur, mode)
	return taxation{tax: c.money, rest: c.rest, ok: c.code == impl.CvOk}
}

func bigTaxIn(gross impl.Money, r impl.Dec, mode int) taxation {
	c := bigRounded(exactNet(gross, r), gross.Cur, mode)
	tax, ok := limitedMoney(gross.Cur, new(big.Int).Sub(bigSigned(gross.Units), bigSigned(c.money.Units)))
	return taxation{net: c.money, tax: tax, rest: c.rest, ok: ok && c.code == impl.CvOk}
}

func checkTaxOn(t *testing.T, net impl.Money, r impl.Dec, mode int, want taxation) {
	t.Helper()
	if got := taxationOn(net, r, mode); !got.same(want) {
		t.Errorf("TaxOn(%v, %v, %d) = %v, not %v", net, r, mode, got, want)
	}
}

func checkTaxIn(t *testing.T, gross impl.Money, r impl.Dec, mode int, want taxation) {
	t.Helper()
	if got := taxationIn(gross, r, mode); !got.same(want) {
		t.Errorf("TaxIn(%v, %v, %d) = %v, not %v", gross, r, mode, got, want)
	}
}

func checkTaxBig(t *testing.T, m impl.Money, r impl.Dec, mode int) {
	t.Helper()
	checkTaxOn(t, m, r, mode, bigTaxOn(m, r, mode))
	checkTaxIn(t, m, r, mode, bigTaxIn(m, r, mode))
}

// checkNoTax asks for the zero values.
func checkNoTax(t *testing.T, m impl.Money, r impl.Dec, mode int) {
	t.Helper()
	checkTaxOn(t, m, r, mode, taxation{})
	checkTaxIn(t, m, r, mode, taxation{})
}

// The units are in the order of the modes: down, up, floor, ceil, halfdown, halfup, halfeven.
type taxCase struct {
	m     string
	r     string
	exact string
	want  [7]int64
}

// rounded returns the amount that a case expects in a mode, and the remainder.
func (c taxCase) rounded(mode int) (impl.Money, impl.Rat) {
	units := c.want[mode]
	rest, _ := limitedRat(new(big.Rat).Sub(quotient(c.exact), big.NewRat(units, 1)))
	return amount(money(c.m).Cur, integers(units)[0]), rest
}

func TestTaxOn(t *testing.T) {
	cases := []taxCase{
		{"CHF 0.10", "0.077", "77/100", [7]int64{0, 1, 0, 1, 1, 1, 1}}, {"CHF 100.00", "0.077", "770", allModes(770)}, {"CHF 0.05", "0.077", "77/200", [7]int64{0, 1, 0, 1, 0, 0, 0}}, {"CHF 0.01", "0.5", "1/2", [7]int64{0, 1, 0, 1, 0, 1, 0}}, {"CHF 0.03", "0.5", "3/2", [7]int64{1, 2, 1, 2, 1, 2, 2}},
		{"EUR 1.00", "0.19", "19", allModes(19)}, {"EUR 1.00", "0.1900", "19", allModes(19)}, {"EUR 0.50", "0.19", "19/2", [7]int64{9, 10, 9, 10, 9, 10, 10}}, {"EUR 0.50", "0.25", "25/2", [7]int64{12, 13, 12, 13, 12, 13, 12}}, {"EUR 10.01", "0.19", "19019/100", [7]int64{190, 191, 190, 191, 190, 190, 190}}, {"EUR 10.03", "0.19", "19057/100", [7]int64{190, 191, 190, 191, 191, 191, 191}}, {"EUR 0.01", "0.07", "7/100", [7]int64{0, 1, 0, 1, 0, 0, 0}}, {"EUR 12345.67", "0.00000001", "1234567/100000000", [7]int64{0, 1, 0, 1, 0, 0, 0}},
		{"JPY 5", "0.5", "5/2", [7]int64{2, 3, 2, 3, 2, 3, 2}}, {"JPY 3", "0.10", "3/10", [7]int64{0, 1, 0, 1, 0, 0, 0}}, {"JPY 15", "0.1", "3/2", [7]int64{1, 2, 1, 2, 1, 2, 2}}, {"JPY 1000", "0.08", "80", allModes(80)}, {"JPY 1", "0.999999999", "999999999/1000000000", [7]int64{0, 1, 0, 1, 1, 1, 1}},
		{"KWD 0.010", "0.05", "1/2", [7]int64{0, 1, 0, 1, 0, 1, 0}}, {"KWD 1.000", "0.05", "50", allModes(50)}, {"KWD 0.333", "0.333", "110889/1000", [7]int64{110, 111, 110, 111, 111, 111, 111}}, {"CLF 0.0030", "0.5", "15", allModes(15)}, {"CLF 0.0003", "0.5", "3/2", [7]int64{1, 2, 1, 2, 1, 2, 2}}, {"CLF 1.0000", "0.19", "1900", allModes(1900)},
		{"EUR 0.00", "0.19", "0", allModes(0)}, {"JPY 0", "1", "0", allModes(0)}, {"KWD 0.000", "0", "0", allModes(0)}, {"EUR 12.34", "0", "0", allModes(0)}, {"EUR 12.34", "0.00", "0", allModes(0)}, {"EUR 12.34", "1", "1234", allModes(1234)}, {"EUR 12.34", "1.000", "1234", allModes(1234)}, {"JPY 7", "1.00000000", "7", allModes(7)}, {"JPY 1", "0", "0", allModes(0)},
	}
	for _, c := range cases {
		for mode := range c.want {
			tax, rest := c.rounded(mode)
			want := taxation{tax: tax, rest: rest, ok: true}
			checkTaxOn(t, money(c.m), decimal(c.r), mode, want)
			checkTaxOn(t, oppositeMoney(money(c.m)), decimal(c.r), mirrored(mode), want.opposite())
		}
	}
}

// The units are those of the net amount; what is missing is the tax. Where the net amount is rounded up, the tax is smaller than the exact one: 10/11 of 100 is 90 10/11, and 9 is less than 9 1/11.
func TestTaxIn(t *testing.T) {
	cases := []taxCase{
		{"CHF 107.70", "0.077", "10000", allModes(10000)}, {"CHF 1.00", "0.077", "100000/1077", [7]int64{92, 93, 92, 93, 93, 93, 93}}, {"CHF 0.05", "0.077", "5000/1077", [7]int64{4, 5, 4, 5, 5, 5, 5}},
		{"EUR 1.19", "0.19", "100", allModes(100)}, {"EUR 1.19", "0.190", "100", allModes(100)}, {"EUR 1.00", "0.19", "10000/119", [7]int64{84, 85, 84, 85, 84, 84, 84}}, {"EUR 0.01", "0.19", "100/119", [7]int64{0, 1, 0, 1, 1, 1, 1}}, {"EUR 0.04", "0.6", "5/2", [7]int64{2, 3, 2, 3, 2, 3, 2}}, {"EUR 0.12", "0.6", "15/2", [7]int64{7, 8, 7, 8, 7, 8, 8}}, {"EUR 0.02", "0.6", "5/4", [7]int64{1, 2, 1, 2, 1, 1, 1}},
		{"EUR 0.01", "1", "1/2", [7]int64{0, 1, 0, 1, 0, 1, 0}}, {"EUR 0.03", "1", "3/2", [7]int64{1, 2, 1, 2, 1, 2, 2}}, {"EUR 0.05", "1.000", "5/2", [7]int64{2, 3, 2, 3, 2, 3, 2}}, {"EUR 0.06", "1", "3", allModes(3)}, {"EUR 12.34", "0", "1234", allModes(1234)}, {"EUR 12.34", "0.00", "1234", allModes(1234)}, {"JPY 1", "0", "1", allModes(1)},
		{"JPY 110", "0.10", "100", allModes(100)}, {"JPY 100", "0.1", "1000/11", [7]int64{90, 91, 90, 91, 91, 91, 91}}, {"JPY 7", "0.08", "175/27", [7]int64{6, 7, 6, 7, 6, 6, 6}}, {"JPY 1", "0.00000001", "100000000/100000001", [7]int64{0, 1, 0, 1, 1, 1, 1}}, {"JPY 1", "0.999999999", "1000000000/1999999999", [7]int64{0, 1, 0, 1, 1, 1, 1}},
		{"KWD 0.001", "0.05", "20/21", [7]int64{0, 1, 0, 1, 1, 1, 1}}, {"KWD 1.050", "0.05", "1000", allModes(1000)}, {"CLF 0.0015", "0.25", "12", allModes(12)}, {"CLF 0.0013", "0.25", "52/5", [7]int64{10, 11, 10, 11, 10, 10, 10}},
		{"EUR 0.00", "0.19", "0", allModes(0)}, {"JPY 0", "0", "0", allModes(0)}, {"CLF 0.0000", "1", "0", allModes(0)},
	}
	for _, c := range cases {
		for mode := range c.want {
			net, rest := c.rounded(mode)
			tax := amount(net.Cur, limitedSigned(new(big.Int).Sub(bigSigned(money(c.m).Units), bigSigned(net.Units))))
			want := taxation{net: net, tax: tax, rest: rest, ok: true}
			checkTaxIn(t, money(c.m), decimal(c.r), mode, want)
			checkTaxIn(t, oppositeMoney(money(c.m)), decimal(c.r), mirrored(mode), want.opposite())
		}
	}
}

func TestTaxLikeBig(t *testing.T) {
	for _, r := range manyTaxRates() {
		for _, m := range append(inCurrencies(integers(100, -7), "JPY"), amount("CLF", mostUnits()), amount("EUR", minus(top-2, 7, 7, half))) {
			for mode := range 7 {
				checkTaxBig(t, m, r, mode)
			}
		}
	}
	for i, r := range fewTaxRates() {
		for _, m := range slices.Concat(inCurrencies(manyUnits(), []string{"EUR", "JPY", "KWD", "CLF"}[i%4]), inCurrencies(integers(0, 1, -5, 1000), curOrder)) {
			for mode := range 7 {
				checkTaxBig(t, m, r, mode)
			}
		}
	}
}

// No valid amount is so large that RatMoney fails: a tax rate is at most 1, so neither the tax nor the net amount is further from 0 than the amount.
func TestTaxOfTheGreatestAmounts(t *testing.T) {
	for _, r := range slices.Concat(manyTaxRates(), fewTaxRates()) {
		for _, m := range inCurrencies([]impl.Signed{mostUnits(), opposite(mostUnits()), plus(sameLimbs(4, 1)...), minus(powerOfBase(4)...)}, "EUR JPY CLF") {
			for mode := range 7 {
				if !taxationOn(m, r, mode).ok || !taxationIn(m, r, mode).ok {
					t.Errorf("there is no tax on or in %v at %v in mode %d", m, r, mode)
				}
			}
		}
	}
	checkTaxOn(t, amount("EUR", mostUnits()), decimal("1"), 0, taxation{tax: amount("EUR", mostUnits()), rest: fraction(plus(), 1), ok: true})
	checkTaxIn(t, amount("EUR", mostUnits()), decimal("0"), 0, taxation{net: amount("EUR", mostUnits()), tax: amount("EUR", plus()), rest: fraction(plus(), 1), ok: true})
}

// What is "valid" is asked of r by the validation function of the chapter for it: r is a tax rate, as weights in chapter 13 are slices of ints and are valid if WeightsOk says so. So a number that is no tax rate makes no tax, though it is a valid Dec. The chapter also says that for valid lines TaxOn fails only because of a sum or of the mode, which would not hold for a rate of 1000.
func TestTaxInvalidRates(t *testing.T) {
	for _, r := range slices.Concat(badTaxRates(), fewBadTaxRates()) {
		for _, m := range append(inCurrencies(integers(0, 1, -250), "EUR JPY CLF"), amount("EUR", mostUnits())) {
			for _, mode := range []int{impl.RmDown, impl.RmHalfUp, -1} {
				checkNoTax(t, m, r, mode)
			}
		}
	}
}

func TestTaxInvalidAmounts(t *testing.T) {
	for _, m := range slices.Concat(badMoney(), fewBadMoney()) {
		for _, r := range append([]impl.Dec{{}, decimal("1"), decimal("0.19"), scaled(30, plus(top))}, fewBadTaxRates()[:3]...) {
			for _, mode := range []int{impl.RmFloor, impl.RmHalfEven, 7} {
				checkNoTax(t, m, r, mode)
			}
		}
	}
}

func TestTaxInvalidModes(t *testing.T) {
	for _, mode := range slices.Concat(badModes(), fewBadModes()) {
		for _, m := range append(inCurrencies(integers(0, 1, -250), "EUR JPY"), fewBadMoney()...) {
			for _, r := range []impl.Dec{{}, decimal("0.19"), decimal("1"), decimal("2")} {
				checkNoTax(t, m, r, mode)
			}
		}
	}
}

// eachRandomTax tries the same arguments at each run.
func eachRandomTax(seed uint64, count int, try func(m impl.Money, r impl.Dec, mode int)) {
	source := rand.New(rand.NewPCG(13, seed))
	rates, units, codes := append(manyTaxRates(), fewTaxRates()...), manyUnits(), strings.Fields(placesCodes)
	for range count {
		m := randomAmounts(source, codes, units, 1)[0]
		r := rates[source.IntN(len(rates))]
		if source.IntN(2) == 0 {
			r = scaled(2+source.IntN(3), integers(source.Int64N(101))[0])
		}
		try(m, r, source.IntN(7))
	}
}

// P9, without an oracle: the net amount and the tax add up to the gross amount, and the net amount plus the remainder is exactly the gross amount divided by 1 + r. Neither part has the sign that the gross amount has not.
func TestTaxInLaws(t *testing.T) {
	signs, less := map[int]int{}, 0
	eachRandomTax(1, 20000, func(gross impl.Money, r impl.Dec, mode int) {
		net, tax, rest, ok := impl.TaxIn(gross, r, mode)
		sum, sumOk := impl.MoneyAdd(net, tax)
		if !ok || !sumOk || !sameMoney(sum, gross) || !impl.MoneyOk(net) || !impl.MoneyOk(tax) {
			t.Errorf("TaxIn(%v, %v, %d) = %v, %v, %v, whose sum is %v", gross, r, mode, net, tax, ok, sum)
		}
		exact := new(big.Rat).Add(new(big.Rat).SetInt(bigSigned(net.Units)), bigRat(rest))
		whole := new(big.Rat).Add(bigDec(r), big.NewRat(1, 1))
		if exact.Mul(exact, whole).Cmp(new(big.Rat).SetInt(bigSigned(gross.Units))) != 0 {
			t.Errorf("TaxIn(%v, %v, %d) = %v and the remainder %v", gross, r, mode, net, rest)
		}
		sign := bigSigned(gross.Units).Sign()
		if bigSigned(net.Units).Sign()*sign < 0 || bigSigned(tax.Units).Sign()*sign < 0 {
			t.Errorf("TaxIn(%v, %v, %d) = %v, %v", gross, r, mode, net, tax)
		}
		signs[bigRat(rest).Sign()]++
		if full := new(big.Rat).Sub(new(big.Rat).SetInt(bigSigned(gross.Units)), exactNet(gross, r)); sign > 0 && full.Cmp(new(big.Rat).SetInt(bigSigned(tax.Units))) > 0 {
			less++
		}
	})
	if signs[1] < 2000 || signs[0] < 1000 || signs[-1] < 2000 || less < 2000 {
		t.Errorf("the remainders have the signs %v, and %d taxes are less than the exact ones", signs, less)
	}
}

// The tax plus the remainder is exactly the net amount times the rate. In the modes that select the nearest integer, what was put on a net amount is taken out again.
func TestTaxOnLaws(t *testing.T) {
	eachRandomTax(2, 20000, func(net impl.Money, r impl.Dec, mode int) {
		tax, rest, ok := impl.TaxOn(net, r, mode)
		exact := new(big.Rat).Add(new(big.Rat).SetInt(bigSigned(tax.Units)), bigRat(rest))
		if !ok || !impl.MoneyOk(tax) || tax.Cur != net.Cur || exact.Cmp(exactTax(net, r)) != 0 || bigRat(rest).Abs(bigRat(rest)).Cmp(big.NewRat(1, 1)) >= 0 {
			t.Errorf("TaxOn(%v, %v, %d) = %v and the remainder %v, %v", net, r, mode, tax, rest, ok)
		}
		gross, grossOk := impl.MoneyAdd(net, tax)
		if !grossOk || !isNearest(mode) {
			return
		}
		if back, backTax, _, _ := impl.TaxIn(gross, r, mode); !sameMoney(back, net) || !sameMoney(backTax, tax) {
			t.Errorf("TaxIn(%v, %v, %d) = %v, %v, not %v, %v", gross, r, mode, back, backTax, net, tax)
		}
	})
}

// taxLines reads a rate and a net amount for each line.
func taxLines(s string) []impl.TaxLine {
	var all []impl.TaxLine
	for part := range strings.SplitSeq(s, ", ") {
		r, net, _ := strings.Cut(part, " ")
		all = append(all, impl.TaxLine{Net: money(net), R: decimal(r)})
	}
	return all
}

// taxSums reads a rate, a net amount and a tax for each group.
func taxSums(s string) []impl.TaxSum {
	var all []impl.TaxSum
	for part := range strings.SplitSeq(s, ", ") {
		words := strings.Fields(part)
		all = append(all, impl.TaxSum{R: decimal(words[0]), Net: money(words[1] + " " + words[2]), Tax: money(words[3] + " " + words[4])})
	}
	return all
}

func sameTaxSum(x impl.TaxSum, y impl.TaxSum) bool {
	return sameDec(x.R, y.R) && sameMoney(x.Net, y.Net) && sameMoney(x.Tax, y.Tax)
}

// bigTaxSums reads the document's sentences about TaxSums, for valid lines in one currency; it is nil where a sum is too large.
func bigTaxSums(lines []impl.TaxLine, mode int) []impl.TaxSum {
	nets := map[string]*big.Int{}
	var rates []*big.Rat
	for _, line := range lines {
		q := bigDec(line.R)
		if nets[q.String()] == nil {
			nets[q.String()] = new(big.Int)
			rates = append(rates, q)
		}
		nets[q.String()].Add(nets[q.String()], bigSigned(line.Net.Units))
	}
	slices.SortFunc(rates, (*big.Rat).Cmp)
	var sums []impl.TaxSum
	for _, q := range rates {
		net, ok := limitedMoney(lines[0].Net.Cur, nets[q.String()])
		if !ok {
			return nil
		}
		low, _ := lowestDec(q)
		sums = append(sums, impl.TaxSum{R: low, Net: net, Tax: bigTaxOn(net, low, mode).tax})
	}
	return sums
}

// checkTaxSums takes nil where there are no sums.
func checkTaxSums(t *testing.T, lines []impl.TaxLine, mode int, want []impl.TaxSum) {
	t.Helper()
	got, ok := impl.TaxSums(lines, mode)
	if ok != (want != nil) || !slices.EqualFunc(got, want, sameTaxSum) {
		t.Errorf("TaxSums(%v, %d) = %v, %v, not %v", lines, mode, got, ok, want)
	}
}

// checkTaxSumsBig also tries the lines from behind: their order does not matter.
func checkTaxSumsBig(t *testing.T, lines []impl.TaxLine, mode int) {
	t.Helper()
	want := bigTaxSums(lines, mode)
	checkTaxSums(t, lines, mode, want)
	behind := slices.Clone(lines)
	slices.Reverse(behind)
	checkTaxSums(t, behind, mode, want)
}

func TestTaxSums(t *testing.T) {
	cases := [][2]string{
		{"0.19 EUR 1.00", "0.19 EUR 1.00 EUR 0.19"}, {"0.1900 EUR 1.00", "0.19 EUR 1.00 EUR 0.19"}, {"0 JPY 7", "0 JPY 7 JPY 0"}, {"0.00 JPY 7", "0 JPY 7 JPY 0"}, {"1.000 KWD 0.005", "1 KWD 0.005 KWD 0.005"}, {"0.5 CLF -0.0003", "0.5 CLF -0.0003 CLF -0.0002"}, {"0.077 CHF 0.00", "0.077 CHF 0.00 CHF 0.00"},
		{"0.19 EUR 1.00, 0.19 EUR 2.00", "0.19 EUR 3.00 EUR 0.57"}, {"0.1900 EUR 1.00, 0.19 EUR 2.00", "0.19 EUR 3.00 EUR 0.57"}, {"0.19 EUR 1.00, 0.1900 EUR 2.00, 0.190 EUR 0.50", "0.19 EUR 3.50 EUR 0.67"}, {"0.20 EUR 1.00, 0.2 EUR 1.00, 0.200 EUR 1.00", "0.2 EUR 3.00 EUR 0.60"}, {"1 JPY 1, 1.0 JPY 2, 1.00000000 JPY 4", "1 JPY 7 JPY 7"}, {"0 EUR 1.00, 0.00 EUR 2.00, 0." + zerosText(30) + " EUR 4.00", "0 EUR 7.00 EUR 0.00"},
		// Ascending, descending and mixed rates; 0.5 is greater than 0.19, and 0.05 is less.
		{"0.07 EUR 1.00, 0.19 EUR 2.00", "0.07 EUR 1.00 EUR 0.07, 0.19 EUR 2.00 EUR 0.38"}, {"0.19 EUR 2.00, 0.07 EUR 1.00", "0.07 EUR 1.00 EUR 0.07, 0.19 EUR 2.00 EUR 0.38"}, {"1 JPY 10, 0.5 JPY 10, 0.19 JPY 10, 0.05 JPY 10, 0 JPY 10", "0 JPY 10 JPY 0, 0.05 JPY 10 JPY 1, 0.19 JPY 10 JPY 2, 0.5 JPY 10 JPY 5, 1 JPY 10 JPY 10"},
		{"0.19 EUR 1.00, 0.07 EUR 2.00, 0.5 EUR 3.00, 0.190 EUR 4.00, 0.05 EUR 5.00, 0.0700 EUR 6.00, 0 EUR 7.00, 0.50 EUR 8.00", "0 EUR 7.00 EUR 0.00, 0.05 EUR 5.00 EUR 0.25, 0.07 EUR 8.00 EUR 0.56, 0.19 EUR 5.00 EUR 0.95, 0.5 EUR 11.00 EUR 5.50"},
		// The tax is taken once, on the sum: a half of each line would be rounded up to more.
		{"0.5 JPY 1, 0.5 JPY 1", "0.5 JPY 2 JPY 1"}, {"0.5 JPY 1, 0.5 JPY 1, 0.5 JPY 1", "0.5 JPY 3 JPY 2"}, {"0.077 CHF 0.05, 0.1 CHF 1.00, 0.077 CHF 0.05", "0.077 CHF 0.10 CHF 0.01, 0.1 CHF 1.00 CHF 0.10"},
		// Net amounts that cancel leave their group.
		{"0.19 EUR 1.00, 0.19 EUR -1.00", "0.19 EUR 0.00 EUR 0.00"}, {"0.19 EUR 1.00, 0.07 EUR -5.00, 0.190 EUR -1.00", "0.07 EUR -5.00 EUR -0.35, 0.19 EUR 0.00 EUR 0.00"}, {"0 KWD 0.005, 0 KWD -0.005, 1 KWD 0.001", "0 KWD 0.000 KWD 0.000, 1 KWD 0.001 KWD 0.001"}, {"0.19 EUR 1.00, 0.19 EUR -3.00", "0.19 EUR -2.00 EUR -0.38"},
	}
	for _, c := range cases {
		checkTaxSums(t, taxLines(c[0]), impl.RmHalfUp, taxSums(c[1]))
		for mode := range 7 {
			checkTaxSumsBig(t, taxLines(c[0]), mode)
		}
	}
	for mode := -1; mode <= 7; mode++ {
		checkTaxSums(t, nil, mode, nil)
		checkTaxSums(t, []impl.TaxLine{}, mode, nil)
	}
}

// randomLines has few or many rates, each in several forms, so that groups have one line or more.
func randomLines(r *rand.Rand, cur string, size int) []impl.TaxLine {
	rates, units := append(manyTaxRates(), fewTaxRates()...), manyUnits()
	pool := 1 + r.IntN(12)
	var lines []impl.TaxLine
	for range size {
		d := rates[r.IntN(len(rates))]
		if pool < 10 {
			d = decimal([]string{"0.19", "0.190", "0.07", "0.0700", "0.5", "0", "1.00", "1", "0.00"}[r.IntN(pool)])
		}
		lines = append(lines, impl.TaxLine{Net: randomAmounts(r, []string{cur}, units, 1)[0], R: d})
	}
	return lines
}

func TestTaxSumsLikeBig(t *testing.T) {
	r := rand.New(rand.NewPCG(13, 3))
	seen := map[bool]int{}
	for range 1500 {
		lines, mode := randomLines(r, []string{"JPY", "EUR", "KWD", "CLF"}[r.IntN(4)], 1+r.IntN(20)), r.IntN(7)
		checkTaxSumsBig(t, lines, mode)
		r.Shuffle(len(lines), func(i int, j int) { lines[i], lines[j] = lines[j], lines[i] })
		want := bigTaxSums(lines, mode)
		checkTaxSums(t, lines, mode, want)
		seen[want != nil]++
	}
	if seen[true] < 1000 || seen[false] < 20 {
		t.Errorf("there were sums and none %v times", seen)
	}
	for _, size := range []int{100, 1000} {
		checkTaxSumsBig(t, randomLines(r, "EUR", size), impl.RmHalfEven)
	}
	checkTaxSumsBig(t, slices.Repeat(taxLines("0.19 EUR 0.01, 0.07 EUR 0.01, 0.1900 EUR -0.02"), 1000), impl.RmUp)
}

// checkGroups does without the oracle: the groups ascend and are in their lowest form, their net amounts add up to those of all lines, each has the rate of a line, and its tax is TaxOn of its net amount.
func checkGroups(t *testing.T, lines []impl.TaxLine, mode int) {
	t.Helper()
	groups, ok := impl.TaxSums(lines, mode)
	if !ok {
		return
	}
	total := new(big.Int)
	for _, line := range lines {
		total.Add(total, bigSigned(line.Net.Units))
		holds := func(g impl.TaxSum) bool { return bigDec(g.R).Cmp(bigDec(line.R)) == 0 }
		if !slices.ContainsFunc(groups, holds) {
			t.Errorf("TaxSums(%v, %d) = %v: no group for %v", lines, mode, groups, line)
		}
	}
	for i, g := range groups {
		total.Sub(total, bigSigned(g.Net.Units))
		if i > 0 && impl.DecCmp(groups[i-1].R, g.R) != -1 || !sameDec(g.R, impl.DecLow(g.R)) || !impl.TaxRateOk(g.R) {
			t.Errorf("TaxSums(%v, %d) = %v: group %d is not in its place", lines, mode, groups, i)
		}
		if tax, _, taxOk := impl.TaxOn(g.Net, g.R, mode); !taxOk || !sameMoney(tax, g.Tax) {
			t.Errorf("TaxSums(%v, %d) = %v: the tax of group %d is %v", lines, mode, groups, i, tax)
		}
	}
	if total.Sign() != 0 || len(groups) > len(lines) {
		t.Errorf("TaxSums(%v, %d) = %v: %v are missing", lines, mode, groups, total)
	}
}

// P9: sums of net amounts and their taxes; with TaxTotal, nothing is lost either.
func TestTaxSumsLaws(t *testing.T) {
	r := rand.New(rand.NewPCG(13, 4))
	for range 800 {
		lines, mode := randomLines(r, "EUR", 1+r.IntN(15)), r.IntN(7)
		checkGroups(t, lines, mode)
		var nets []impl.Money
		for _, line := range lines {
			nets = append(nets, line.Net)
		}
		groups, _ := impl.TaxSums(lines, mode)
		net, _, ok := impl.TaxTotal(groups)
		if want, _ := impl.MoneySum("EUR", nets); ok && !sameMoney(net, want) {
			t.Errorf("TaxTotal(TaxSums(%v, %d)) = %v, not %v", lines, mode, net, want)
		}
	}
}

// goodLines has groups of one line and of more.
func goodLines() []impl.TaxLine {
	return taxLines("0.19 EUR 1.00, 0.07 EUR -2.00, 0.1900 EUR 0.05, 0 EUR 7.00")
}

// checkBadLine puts a line first, in the midst, last, and alone.
func checkBadLine(t *testing.T, line impl.TaxLine) {
	t.Helper()
	for _, place := range firstMidLast(len(goodLines())) {
		checkTaxSums(t, slices.Insert(goodLines(), place, line), impl.RmHalfUp, nil)
	}
	checkTaxSums(t, []impl.TaxLine{line}, impl.RmHalfUp, nil)
}

// A line is not valid if its net amount is no amount or its rate no tax rate.
func TestTaxSumsInvalid(t *testing.T) {
	for _, m := range slices.Concat(badMoney(), fewBadMoney()) {
		for _, r := range []string{"0.19", "0.5", "0"} {
			checkBadLine(t, impl.TaxLine{Net: m, R: decimal(r)})
		}
	}
	for _, r := range slices.Concat(badTaxRates(), fewBadTaxRates()) {
		checkBadLine(t, impl.TaxLine{Net: money("EUR 1.00"), R: r})
		checkBadLine(t, impl.TaxLine{Net: money("EUR 0.00"), R: r})
	}
	checkBadLine(t, impl.TaxLine{})
	checkBadLine(t, impl.TaxLine{Net: impl.Money{Cur: "XXX"}, R: decimal("2")})
	for _, mode := range slices.Concat(badModes(), fewBadModes()) {
		checkTaxSums(t, goodLines(), mode, nil)
		checkTaxSums(t, taxLines("0 JPY 0"), mode, nil)
	}
}

// The currencies of two lines differ: at the same rate and at different ones, where each group has one currency alone, and where the amount is 0.
func TestTaxSumsOfTwoCurrencies(t *testing.T) {
	for _, m := range []string{"USD 1.00", "USD 0.00", "JPY 1", "JPY 0", "CLF -0.0001", "CHF 1.00"} {
		for _, r := range []string{"0.19", "0.07", "0.190", "0.5", "1", "0", "0.10"} {
			for place := range len(goodLines()) + 1 {
				checkTaxSums(t, slices.Insert(goodLines(), place, impl.TaxLine{Net: money(m), R: decimal(r)}), impl.RmHalfUp, nil)
			}
		}
	}
	checkTaxSums(t, taxLines("0.19 EUR 1.00, 0.07 USD 1.00"), impl.RmHalfUp, nil)
	checkTaxSums(t, taxLines("0.07 EUR 1.00, 0.19 USD 1.00, 0.19 USD 1.00"), impl.RmHalfUp, nil)
	checkTaxSums(t, taxLines("0.19 USD 1.00, 0.19 USD -1.00, 0.07 EUR 0.00"), impl.RmHalfUp, nil)
	for _, cur := range strings.Fields(curOrder) {
		lines := []impl.TaxLine{{Net: amount(cur, plus(300)), R: decimal("0.5")}, {Net: amount(cur, minus(100)), R: decimal("0.1")}, {Net: amount(cur, plus(1)), R: decimal("0.50")}}
		checkTaxSums(t, lines, impl.RmCeil, []impl.TaxSum{{R: decimal("0.1"), Net: amount(cur, minus(100)), Tax: amount(cur, minus(10))}, {R: decimal("0.5"), Net: amount(cur, plus(301)), Tax: amount(cur, plus(151))}})
	}
}

// linesAt has a line of EUR at the rate for each of the amounts.
func linesAt(r string, units ...impl.Signed) []impl.TaxLine {
	var lines []impl.TaxLine
	for _, x := range units {
		lines = append(lines, impl.TaxLine{Net: amount("EUR", x), R: decimal(r)})
	}
	return lines
}

// The sum of a group is too large though each line is valid, in whichever group; sums of different groups do not add up.
func TestTaxSumsTooLarge(t *testing.T) {
	most, least := mostUnits(), opposite(mostUnits())
	for _, units := range [][]impl.Signed{{most, plus(1)}, {plus(1), most}, {least, minus(1)}, {most, most}, {plus(5), most, plus(1), minus(5)}, slices.Repeat([]impl.Signed{most}, 1000)} {
		for _, r := range []string{"0.19", "0", "1"} {
			checkTaxSums(t, linesAt(r, units...), impl.RmDown, nil)
			checkTaxSums(t, slices.Concat(linesAt("0.5", plus(1)), linesAt(r, units...), linesAt("0.10", plus(7))), impl.RmDown, nil)
		}
	}
	apart := slices.Concat(linesAt("0.5", most), linesAt("0", least, plus(1)), linesAt("0.10", most), linesAt("1", plus(5), most, minus(5)))
	for mode := range 7 {
		checkTaxSumsBig(t, apart, mode)
		if _, ok := impl.TaxSums(apart, mode); !ok {
			t.Errorf("TaxSums(%v, %d): a group was too large", apart, mode)
		}
	}
}

// Chapter 10 says of TaxSums that only whole sums have to be valid, and partial ones may be larger.
func TestTaxSumsOfLargePartialSums(t *testing.T) {
	most, least := mostUnits(), opposite(mostUnits())
	cases := []struct {
		units []impl.Signed
		want  impl.Signed
	}{
		{[]impl.Signed{most, plus(1), minus(1)}, most}, {[]impl.Signed{most, most, least}, most}, {[]impl.Signed{most, most, least, least}, plus()}, {[]impl.Signed{least, minus(5), plus(5), plus(7)}, minus(append([]int{top - 7}, sameLimbs(3, top)...)...)},
		{slices.Concat(slices.Repeat([]impl.Signed{most}, 500), slices.Repeat([]impl.Signed{least}, 500), integers(-3)), minus(3)},
	}
	for _, c := range cases {
		for _, r := range []string{"0.19", "0", "1", "0.000000001"} {
			for mode := range 7 {
				checkTaxSums(t, linesAt(r, c.units...), mode, []impl.TaxSum{{R: impl.DecLow(decimal(r)), Net: amount("EUR", c.want), Tax: bigTaxOn(amount("EUR", c.want), decimal(r), mode).tax}})
				checkTaxSumsBig(t, slices.Concat(linesAt("0.5", plus(9)), linesAt(r, c.units...), linesAt("0.07", minus(9))), mode)
			}
		}
	}
}

// checkTotal takes amounts without a currency where there is no total.
func checkTotal(t *testing.T, l []impl.TaxSum, net impl.Money, tax impl.Money) {
	t.Helper()
	gotNet, gotTax, ok := impl.TaxTotal(l)
	if ok != (net.Cur != "") || !sameMoney(gotNet, net) || !sameMoney(gotTax, tax) {
		t.Errorf("TaxTotal(%v) = %v, %v, %v, not %v, %v", l, gotNet, gotTax, ok, net, tax)
	}
}

func checkNoTotal(t *testing.T, l []impl.TaxSum) {
	t.Helper()
	checkTotal(t, l, impl.Money{}, impl.Money{})
}

func TestTaxTotal(t *testing.T) {
	cases := [][3]string{
		{"0.19 EUR 1.00 EUR 0.19", "EUR 1.00", "EUR 0.19"}, {"0 JPY 0 JPY 0", "JPY 0", "JPY 0"}, {"1 KWD -0.005 KWD -0.005", "KWD -0.005", "KWD -0.005"},
		{"0.07 EUR 1.00 EUR 0.07, 0.19 EUR 2.00 EUR 0.38", "EUR 3.00", "EUR 0.45"}, {"0.1 JPY 10 JPY 1, 0.2 JPY -10 JPY -2", "JPY 0", "JPY -1"}, {"0.1 CLF 0.0001 CLF 0.0000, 0.2 CLF 0.0010 CLF 0.0002, 0.3 CLF -0.0100 CLF -0.0030", "CLF -0.0089", "CLF -0.0028"},
		// The chapter asks nothing of the rates and of what the tax is: rates that descend or stand there twice, and a tax that is not the one on its net amount.
		{"0.19 EUR 1.00 EUR 0.19, 0.07 EUR 1.00 EUR 0.07, 0.19 EUR 1.00 EUR 0.19", "EUR 3.00", "EUR 0.45"}, {"0.1900 EUR 1.00 EUR 99.00, 0 EUR 5.00 EUR -7.00", "EUR 6.00", "EUR 92.00"}, {"2 EUR 1.00 EUR 2.00, -1 EUR 1.00 EUR -1.00", "EUR 2.00", "EUR 1.00"},
	}
	for _, c := range cases {
		checkTotal(t, taxSums(c[0]), money(c[1]), money(c[2]))
	}
	for _, r := range fewBadTaxRates() {
		checkTotal(t, []impl.TaxSum{{R: r, Net: money("EUR 1.00"), Tax: money("EUR 0.50")}, {R: r, Net: money("EUR 1.00"), Tax: money("EUR 0.25")}}, money("EUR 2.00"), money("EUR 0.75"))
	}
	checkNoTotal(t, nil)
	checkNoTotal(t, []impl.TaxSum{})
	for _, cur := range strings.Fields(curOrder) {
		sums := []impl.TaxSum{{Net: amount(cur, plus(7, 1)), Tax: amount(cur, minus(5))}, {Net: amount(cur, minus(8)), Tax: amount(cur, plus(0, 2))}}
		checkTotal(t, sums, amount(cur, plus(top)), amount(cur, plus(top-4, 1)))
	}
}

// The totals of what TaxSums returns are those of all lines and of the taxes of the groups.
func TestTaxTotalOfTaxSums(t *testing.T) {
	groups, _ := impl.TaxSums(goodLines(), impl.RmHalfUp)
	checkTotal(t, groups, money("EUR 6.05"), money("EUR 0.06"))
	r := rand.New(rand.NewPCG(13, 5))
	for range 500 {
		lines, mode := randomLines(r, "KWD", 1+r.IntN(12)), r.IntN(7)
		sums, ok := impl.TaxSums(lines, mode)
		if !ok {
			checkNoTotal(t, sums)
			continue
		}
		net, tax := new(big.Int), new(big.Int)
		for _, sum := range sums {
			net.Add(net, bigSigned(sum.Net.Units))
			tax.Add(tax, bigSigned(sum.Tax.Units))
		}
		wantNet, netOk := limitedMoney("KWD", net)
		wantTax, taxOk := limitedMoney("KWD", tax)
		if !netOk || !taxOk {
			wantNet, wantTax = impl.Money{}, impl.Money{}
		}
		checkTotal(t, sums, wantNet, wantTax)
	}
}

func goodSums() []impl.TaxSum {
	return taxSums("0.07 EUR 1.00 EUR 0.07, 0.19 EUR -2.00 EUR -0.38, 0.5 EUR 0.00 EUR 0.00")
}

// withAmount replaces the net amount or the tax of one sum.
func withAmount(l []impl.TaxSum, place int, ofNet bool, m impl.Money) []impl.TaxSum {
	other := slices.Clone(l)
	if ofNet {
		other[place].Net = m
	} else {
		other[place].Tax = m
	}
	return other
}

// An amount that is not valid, and one in another currency than the first net amount, in the place of each net amount and of each tax.
func TestTaxTotalInvalid(t *testing.T) {
	strangers := slices.Concat(badMoney(), fewBadMoney(), moneys("USD 1.00, USD 0.00, JPY 7, JPY 0, CLF 0.0001, CHF -1.00"))
	for _, m := range strangers {
		for place := range goodSums() {
			checkNoTotal(t, withAmount(goodSums(), place, true, m))
			checkNoTotal(t, withAmount(goodSums(), place, false, m))
		}
		alone := goodSums()[:1]
		checkNoTotal(t, withAmount(alone, 0, true, m))
		checkNoTotal(t, withAmount(alone, 0, false, m))
	}
	checkNoTotal(t, []impl.TaxSum{{}})
	checkNoTotal(t, taxSums("0.1 EUR 1.00 USD 0.10, 0.2 USD 1.00 EUR 0.20"))
	checkNoTotal(t, taxSums("0.1 EUR 1.00 USD 0.10"))
}

// A sum is too large: that of the net amounts, that of the taxes, each without the other. Partial sums may be larger.
func TestTaxTotalAtTheLimit(t *testing.T) {
	most, least := amount("EUR", mostUnits()), amount("EUR", opposite(mostUnits()))
	one, zero := money("EUR 0.01"), money("EUR 0.00")
	sums := func(nets []impl.Money, taxes []impl.Money) []impl.TaxSum {
		var l []impl.TaxSum
		for i := range nets {
			l = append(l, impl.TaxSum{Net: nets[i], Tax: taxes[i]})
		}
		return l
	}
	zeros := []impl.Money{zero, zero, zero}
	for _, large := range [][]impl.Money{{most, one, zero}, {one, zero, most}, {most, most, most}, {least, oppositeMoney(one), zero}, {zero, least, least}} {
		checkNoTotal(t, sums(large, zeros))
		checkNoTotal(t, sums(zeros, large))
		checkNoTotal(t, sums(large, large))
	}
	for _, l := range [][]impl.Money{{most, zero, zero}, {most, one, oppositeMoney(one)}, {oppositeMoney(one), most, one}, {most, most, least}, {most, least, most}} {
		checkTotal(t, sums(l, zeros), most, zero)
		checkTotal(t, sums(zeros, l), zero, most)
		checkTotal(t, sums(l, l), most, most)
	}
	many := slices.Concat(slices.Repeat([]impl.Money{most}, 500), slices.Repeat([]impl.Money{least}, 500), []impl.Money{one})
	checkTotal(t, sums(many, many), one, one)
	apart, _ := impl.TaxSums(slices.Concat(linesAt("0.5", mostUnits()), linesAt("0", mostUnits())), impl.RmDown)
	checkNoTotal(t, apart)
}

// percentText writes a tax rate without the functions under test.
func percentText(d impl.Dec) string {
	hundredfold := new(big.Rat).Mul(bigDec(d), big.NewRat(100, 1))
	return strings.TrimSuffix(strings.TrimRight(hundredfold.FloatString(28), "0"), ".") + "%"
}

func TestPercent(t *testing.T) {
	cases := [][2]string{
		{"0.19", "19%"}, {"0.1900", "19%"}, {"0.190", "19%"}, {"0", "0%"}, {"0.0", "0%"}, {"0.00", "0%"}, {"0.000000000", "0%"}, {"1", "100%"}, {"1.0", "100%"}, {"1.00", "100%"}, {"1.00000000", "100%"},
		{"0.077", "7.7%"}, {"0.0770", "7.7%"}, {"0.07", "7%"}, {"0.070", "7%"}, {"0.7", "70%"}, {"0.70", "70%"}, {"0.1", "10%"}, {"0.2", "20%"}, {"0.01", "1%"}, {"0.001", "0.1%"}, {"0.0001", "0.01%"}, {"0.005", "0.5%"}, {"0.0050", "0.5%"}, {"0.055", "5.5%"}, {"0.10", "10%"}, {"0.101", "10.1%"}, {"0.1010", "10.1%"}, {"0.1001", "10.01%"},
		{"0.999", "99.9%"}, {"0.999999999", "99.9999999%"}, {"0.123456789", "12.3456789%"}, {"0.333333333", "33.3333333%"}, {"0.00000001", "0.000001%"}, {"0.0000000100", "0.000001%"}, {"0.000000001", "0.0000001%"}, {"0." + zerosText(29) + "1", "0." + zerosText(27) + "1%"}, {"0." + zerosText(28) + "10", "0." + zerosText(26) + "1%"}, {"0." + zerosText(21) + ninesText(9), "0." + zerosText(19) + ninesText(9) + "%"}, {"0." + zerosText(30), "0%"},
	}
	for _, c := range cases {
		if got := impl.Percent(decimal(c[0])); got != c[1] {
			t.Errorf("Percent(%s) = %q, not %q", c[0], got, c[1])
		}
		checkTextPercent(t, c[1])
	}
	for _, d := range slices.Concat(manyTaxRates(), fewTaxRates()) {
		if got, want := impl.Percent(d), percentText(d); got != want {
			t.Errorf("Percent(%v) = %q, not %q", d, got, want)
		}
	}
	for _, d := range slices.Concat(badTaxRates(), fewBadTaxRates()) {
		if got := impl.Percent(d); got != "" {
			t.Errorf("Percent(%v) = %q", d, got)
		}
	}
}

var percentForm = regexp.MustCompile(`\A((?:0|[1-9][0-9]*)(?:\.[0-9]*[1-9])?)%\z`)

// checkTextPercent knows the texts of the tax rates from their form, the size of the rate, and its decimal places. No text of 40 bytes is one.
func checkTextPercent(t *testing.T, s string) bool {
	t.Helper()
	var want impl.Dec
	wantOk := false
	if parts := percentForm.FindStringSubmatch(s); parts != nil && len(s) < 40 {
		d, ok := lowestDec(new(big.Rat).Mul(quotient(parts[1]), big.NewRat(1, 100)))
		if ok && isTaxRate(d) {
			want, wantOk = d, true
		}
	}
	got, ok := impl.TextPercent(s)
	checkDec(t, got, ok, want, wantOk, "TextPercent", s)
	if ok && (!impl.TaxRateOk(got) || impl.Percent(got) != s) {
		t.Errorf("TextPercent(%q) = %v, whose Percent is %q", s, got, impl.Percent(got))
	}
	return ok
}

// P3: a tax rate is recovered from its Percent, in the form of DecLow.
func TestPercentIsRecovered(t *testing.T) {
	check := func(d impl.Dec) {
		low, _ := lowestDec(bigDec(d))
		got, ok := impl.TextPercent(impl.Percent(d))
		checkDec(t, got, ok, low, true, "TextPercent(Percent)", d)
		checkDec(t, got, ok, impl.DecLow(d), true, "TextPercent(Percent), held against DecLow,", d)
	}
	for _, d := range slices.Concat(manyTaxRates(), fewTaxRates()) {
		check(d)
	}
	r := rand.New(rand.NewPCG(13, 6))
	for n := range int64(10001) {
		check(scaled(4, integers(n)[0]))
		check(scaled(9+r.IntN(22), integers(r.Int64N(1 + r.Int64N(1000000000)))[0]))
	}
}

func TestTextPercentRejects(t *testing.T) {
	cases := []string{
		"", "%", "%%", " ", " %", "% ", "19", "0", "1", "100", "0.19", "7.7", "19%%", "0%%", "19%%%", "%19", "%19%", "%0", "19%0", "19%%19", "19%19%", "19%7", "1%9", "1%9%", "19 % 7%", "19%,7%",
		"19 %", " 19%", "19% ", "1 9%", " 19 % ", "19  %", "19\t%", "19%\n", "\n19%", "19\n%", "19\r%", "19%\x00", "\x0019%", "19\x00%", "19\u00a0%", "\ufeff19%", "EUR 19%", "19% EUR", "r19%", "19%r", "19 percent", "19p", "19\u2030", "19\uff05", "\uff11\uff19%", "\u066119%",
		"+19%", "-19%", "-0%", "+0%", "--19%", "-+19%", "19-%", "19+%", "-7.7%", "-100%", "-0.5%", "-%", "+%", "1-9%", "\u221219%", "(19)%", "19%-", "-19", "-",
		"019%", "00%", "0019%", "000%", "00.5%", "07.7%", "0100%", "01%", "007.7%", "-019%", zerosText(100) + "19%", zerosText(1000) + "%",
		"19.0%", "19.00%", "7.70%", "0.0%", "0.00%", "0.50%", "100.0%", "1.10%", "0.10%", "99.99999990%", "7.700000000000000000000000000%", "0." + zerosText(28) + "%", "0." + zerosText(30) + "%", "19." + zerosText(30) + "%", "19." + zerosText(28) + "%", "100." + zerosText(28) + "%",
		".5%", "5.%", ".%", "19.%", "0.%", "..5%", "1..5%", "1.5.5%", "7.7.%", ".7.7%", "7,7%", "1,000%", "1'000%", "1_0%", "1e1%", "1E1%", "0x1%", "1/2%", "a%", "1a%", "Inf%", "NaN%", "0.5%%", "one%",
		"101%", "200%", "1000%", "100.1%", "100.01%", "100.0000001%", "100.000001%", "110%", "119%", "999%", "999999999%", "1000000000%", "9999999999%", "99999999999%", ninesText(54) + "%", "1" + zerosText(54) + "%", ninesText(55) + "%", ninesText(460) + "%", "1" + zerosText(1<<16) + "%",
		"12.34567891%", "99.99999999%", "33.33333333%", "1.000000001%", "10.00000001%", "99.999999999999%", "50.00000000000000000000000005%", "0.1000000001%", "0.0000000001000000001%", "100.0000000000000000000000000001%", "12.3456789012345678901234567891%",
		"0." + zerosText(28) + "1%", "0." + zerosText(29) + "1%", "0." + zerosText(30) + "1%", "0." + zerosText(20) + ninesText(9) + "%", "0." + zerosText(19) + "1000000001%", "0." + zerosText(27) + "01%", "0." + zerosText(1<<16) + "1%", "19." + zerosText(1<<16) + "%",
		"\xff", "\xff%", "19\xff%", "19%\xff", "\xff19%", "1\xff9%", "\xc319%", "19\x80%", strings.Repeat("%", 1<<16), strings.Repeat("19%", 1<<14), strings.Repeat("7", 1<<16) + "%", strings.Repeat("\xff", 1<<16), strings.Repeat(" ", 1<<16) + "19%",
	}
	for _, s := range cases {
		got, ok := impl.TextPercent(s)
		checkDec(t, got, ok, impl.Dec{}, false, "TextPercent", s)
		checkTextPercent(t, s)
	}
}

func TestTextPercentAccepts(t *testing.T) {
	for _, s := range []string{"0%", "1%", "19%", "7.7%", "100%", "0.5%", "10%", "90%", "20%", "99%", "99.9999999%", "33.3333333%", "12.3456789%", "0.0000001%", "0.000001%", "1.00000001%", "0.10000001%", "0." + zerosText(27) + "1%", "0." + zerosText(26) + "1%", "0." + zerosText(19) + ninesText(9) + "%", "0." + zerosText(19) + "100000001%"} {
		if !checkTextPercent(t, s) {
			t.Errorf("TextPercent(%q) is not read", s)
		}
	}
}

// P3: TextPercent accepts no string but the Percent of a tax rate.
func TestTextPercentAcceptsOnlyPercent(t *testing.T) {
	for _, s := range slices.Concat(texts("019.%-", 5), texts("05. +a%\n\xff", 3)) {
		for _, before := range []string{"", "0.", "1", "99."} {
			checkTextPercent(t, before+s)
			checkTextPercent(t, before+s+"%")
		}
	}
	for _, base := range []string{"7.7%", "0%", "100%", "0.5%", "99.9999999%", "0." + zerosText(27) + "1%", "12.3456789%"} {
		for _, s := range neighbours(base) {
			checkTextPercent(t, s)
		}
	}
	for places := range 34 {
		for _, digits := range []string{"1", "5", "0", "10", "999999999", "100000001", "1000000001"} {
			for _, whole := range []string{"0", "7", "99", "100", "101"} {
				checkTextPercent(t, whole+"."+zerosText(places)+digits+"%")
			}
		}
	}
}

// roomyLine lays the numbers of a line into one memory, so that the rate lies behind the net amount.
func roomyLine(line impl.TaxLine) (impl.TaxLine, []int) {
	size := len(line.Net.Units.Mag)
	both, memory := roomy(slices.Concat(line.Net.Units.Mag, line.R.Num.Mag))
	line.Net.Units.Mag, line.R.Num.Mag = both[:size], both[size:]
	return line, memory
}

func sameLine(x impl.TaxLine, y impl.TaxLine) bool {
	return sameDec(x.R, y.R) && sameMoney(x.Net, y.Net)
}

func cloneLines(l []impl.TaxLine) []impl.TaxLine {
	var same []impl.TaxLine
	for _, line := range l {
		same = append(same, impl.TaxLine{Net: cloneMoney(line.Net), R: cloneDec(line.R)})
	}
	return same
}

func markLine() impl.TaxLine {
	return impl.TaxLine{Net: amount("ZZZ", minus(-88)), R: scaled(-88, minus(-88))}
}

func roomyLines(l []impl.TaxLine) marked[impl.TaxLine] {
	return roomyList(l, append(taxLines("0.19 EUR 77.00, 0.5 XXX -77"), impl.TaxLine{}), roomyLine, sameLine)
}

// roomySum lays the numbers of a sum into one memory.
func roomySum(s impl.TaxSum) (impl.TaxSum, []int) {
	first, second := len(s.R.Num.Mag), len(s.R.Num.Mag)+len(s.Net.Units.Mag)
	all, memory := roomy(slices.Concat(s.R.Num.Mag, s.Net.Units.Mag, s.Tax.Units.Mag))
	s.R.Num.Mag, s.Net.Units.Mag, s.Tax.Units.Mag = all[:first], all[first:second], all[second:]
	return s, memory
}

func roomySums(l []impl.TaxSum) marked[impl.TaxSum] {
	return roomyList(l, taxSums("0.19 EUR 77.00 EUR 77.00, 0.5 XXX -77 XXX 77"), roomySum, sameTaxSum)
}

func resultOfSums(l []impl.TaxSum, _ bool) shareResult {
	mark := impl.TaxSum{R: scaled(-88, minus(-88)), Net: amount("ZZZ", minus(-88)), Tax: amount("ZZZ", minus(-88))}
	r := shareResult{destroy: func() { overwriteList(l, mark) }}
	for _, s := range l {
		r.limbs = append(r.limbs, s.R.Num.Mag, s.Net.Units.Mag, s.Tax.Units.Mag)
	}
	return r
}

func resultOfTaxation(x taxation) shareResult {
	return shareResult{limbs: [][]int{x.net.Units.Mag, x.tax.Units.Mag, x.rest.Num.Mag, x.rest.Den}, destroy: func() {}}
}

// taxCalls take lines that are not empty; those of one amount or rate take the first one.
func taxCalls() map[string]func(l []impl.TaxLine, mode int) shareResult {
	return map[string]func(l []impl.TaxLine, mode int) shareResult{
		"TaxOn": func(l []impl.TaxLine, mode int) shareResult {
			return resultOfTaxation(taxationOn(l[0].Net, l[0].R, mode))
		},
		"TaxIn": func(l []impl.TaxLine, mode int) shareResult {
			return resultOfTaxation(taxationIn(l[0].Net, l[0].R, mode))
		},
		"TaxSums": func(l []impl.TaxLine, mode int) shareResult { return resultOfSums(impl.TaxSums(l, mode)) },
		"TextPercent of Percent": func(l []impl.TaxLine, _ int) shareResult {
			d, _ := impl.TextPercent(impl.Percent(l[0].R))
			return shareResult{limbs: [][]int{d.Num.Mag}, destroy: func() {}}
		},
	}
}

func taxMemoryLines() [][]impl.TaxLine {
	all := [][]impl.TaxLine{
		goodLines(), taxLines("0 EUR 1.00"), taxLines("1 EUR 1.00"), taxLines("0.19 EUR 0.00"), taxLines("0.19 EUR 1.19"), taxLines("0.1900 EUR -1.00"), taxLines("1 JPY 7, 1.0 JPY -7"), taxLines("0.5 JPY 1, 0.07 JPY 1, 0.5 JPY 2, 0 JPY 1, 1 JPY 1"), taxLines("0.19 EUR 1.00, 0.19 USD 1.00"), taxLines("2 EUR 1.00"), taxLines("0.19 EUR 1.00, -1 EUR 1.00"), taxLines("0.19 XXX 1.00"),
		linesAt("0.19", mostUnits()), linesAt("1", mostUnits(), plus(1)), linesAt("0.077", mostUnits(), plus(1), minus(1)), linesAt("0.5", impl.Signed{Neg: true}), linesAt("0.5", plus(5), plus(0)), linesAt("0", plus(powerOfBase(5)...)), {{}},
	}
	for _, r := range []impl.Dec{scaled(30, plus()), {Num: impl.Signed{Mag: []int{}}}, scaled(30, plus(top)), scaled(31, plus(1)), scaled(0, impl.Signed{Neg: true}), scaled(9, plus(0, 1))} {
		all = append(all, []impl.TaxLine{{Net: money("KWD 0.777"), R: r}, {Net: money("KWD 1.000"), R: decimal("0.100")}})
	}
	return all
}

// checkTaxApart overwrites one part of a result, the slice around it and the arguments, and asks whether the other parts and a later result stay.
func checkTaxApart(t *testing.T, name string, call func(l []impl.TaxLine, mode int) shareResult, l []impl.TaxLine, mode int) {
	t.Helper()
	want := cloneParts(call(cloneLines(l), mode).limbs)
	for place := range want {
		list := roomyLines(l)
		got := call(list.arg, mode)
		overwrite(got.limbs[place])
		got.destroy()
		if list.changed() {
			t.Fatalf("%s of %v, %d changed an argument or shares its memory", name, l, mode)
		}
		later := call(list.arg, mode)
		list.overwrite(markLine())
		got.limbs[place] = want[place]
		if !sameParts(got.limbs, want) || !sameParts(later.limbs, want) {
			t.Fatalf("%s of %v, %d: overwriting part %d or an argument changed another part or result", name, l, mode, place)
		}
	}
}

// Chapter 1: no function changes an argument or the capacity behind it, and a result shares no memory with an argument, with a later result or with another part of itself.
func TestTaxResultsAreApart(t *testing.T) {
	for name, call := range taxCalls() {
		for _, l := range taxMemoryLines() {
			for _, mode := range []int{impl.RmDown, impl.RmUp, impl.RmHalfEven, -1} {
				checkTaxApart(t, name, call, l, mode)
			}
		}
	}
}

func TestTaxTotalIsApart(t *testing.T) {
	lists := [][]impl.TaxSum{goodSums(), goodSums()[:1], goodSums()[2:], taxSums("0.1 EUR 1.00 USD 0.10"), {{}}, {{Net: amount("EUR", mostUnits()), Tax: amount("EUR", mostUnits())}}, {{Net: money("JPY 1"), Tax: amount("JPY", impl.Signed{Neg: true})}}}
	for _, l := range lists {
		net, tax, ok := impl.TaxTotal(l)
		net, tax = cloneMoney(net), cloneMoney(tax)
		for place := range 2 {
			list := roomySums(l)
			firstNet, firstTax, _ := impl.TaxTotal(list.arg)
			parts := [][]int{firstNet.Units.Mag, firstTax.Units.Mag}
			overwrite(parts[place])
			if list.changed() || !slices.Equal(parts[1-place], [][]int{net.Units.Mag, tax.Units.Mag}[1-place]) {
				t.Fatalf("TaxTotal of %v changed an argument, shares its memory or that of another part", l)
			}
			laterNet, laterTax, laterOk := impl.TaxTotal(list.arg)
			list.overwrite(impl.TaxSum{Net: amount("ZZZ", minus(-88))})
			if laterOk != ok || !sameMoney(laterNet, net) || !sameMoney(laterTax, tax) {
				t.Fatalf("TaxTotal of %v: overwriting an argument or an earlier result changed a result", l)
			}
		}
	}
}

// What only answers a question leaves its arguments alone, and so do the functions whose result is empty.
func TestTaxLeavesArguments(t *testing.T) {
	for _, l := range taxMemoryLines() {
		list := roomyLines(l)
		for _, line := range list.arg {
			impl.TaxRateOk(line.R)
			impl.Percent(line.R)
		}
		for _, mode := range []int{impl.RmHalfUp, -1, math.MaxInt} {
			for _, call := range taxCalls() {
				call(list.arg, mode)
			}
			impl.TaxSums(list.arg[:0], mode)
		}
		if list.changed() {
			t.Fatalf("an argument was changed: %v", l)
		}
	}
}

// A tax is the same whenever it is computed, and whatever was computed before.
func TestTaxesStay(t *testing.T) {
	for range 200 {
		checkTaxSums(t, taxLines("2 EUR 1.00, 0.19 EUR 1.00"), impl.RmUp, nil)
		checkTaxSums(t, goodLines(), impl.RmHalfUp, taxSums("0 EUR 7.00 EUR 0.00, 0.07 EUR -2.00 EUR -0.14, 0.19 EUR 1.05 EUR 0.20"))
		checkTaxSums(t, goodLines()[:1], impl.RmHalfUp, taxSums("0.19 EUR 1.00 EUR 0.19"))
		checkNoTotal(t, goodSums()[:0])
		checkTextPercent(t, "7.70%")
		checkTextPercent(t, "7.7%")
	}
}
